/- What things are written as, and how they are read again: lists and numbers. A copy of bytes; no things written. -/
import Derived.Test.YteihmonafdnicaaD2
import Derived.Test.YteihmonafdnicaaP2
namespace Go.Proofs.Yteihmonafdnicaa
open Go.RowKit Go.IntWalk
set_option linter.unusedSimpArgs false
set_option linter.unusedVariables false

/-- It can't be written. -/
def badT (x : Th) : Bool := decide (x.k = 0) && decide (x.n < 0)
/-- A thing's bytes. -/
def encT (x : Th) : List UInt8 := if x.k = 0 then sevens x.n.toNat else if x.k = 1 then sevens x.s.data.toList.length ++ x.s.data.toList else if x.k = 2 then x.id else []

theorem wTh_good (x : Th) (s : List UInt8) (h : badT x = false) : wTh x (s, false) = (s ++ encT x, false) := by
  unfold badT at h
  unfold wTh encT wInt wText wID
  by_cases h0 : x.k = 0
  · have hn : ¬ x.n < 0 := by simpa [h0] using h
    simp [h0, hn]
  · by_cases h1 : x.k = 1
    · simp [h0, h1]
    · by_cases h2 : x.k = 2
      · simp [h0, h1, h2]
      · simp [h0, h1, h2]

theorem wTh_bad (x : Th) (s : List UInt8) (h : badT x = true) : wTh x (s, false) = (s, true) := by
  unfold badT at h
  simp only [Bool.and_eq_true, decide_eq_true_eq] at h
  simp [wTh, wInt, h.1, h.2]

theorem wTh_stuck (x : Th) (s : List UInt8) : wTh x (s, true) = (s, true) := by
  unfold wTh wInt wText wID
  split
  · rfl
  · split
    · rfl
    · split <;> rfl

theorem wFold_stuck (l : List Th) (s : List UInt8) : l.foldl (fun s x => wTh x s) (s, true) = (s, true) := by
  induction l with
  | nil => rfl
  | cons x l ih => rw [List.foldl_cons, wTh_stuck, ih]

theorem wFold_good (l : List Th) : ∀ s : List UInt8, l.any badT = false → l.foldl (fun s x => wTh x s) (s, false) = (s ++ l.flatMap encT, false) := by
  induction l with
  | nil => intro s _; simp
  | cons x l ih =>
    intro s h
    simp only [List.any_cons, Bool.or_eq_false_iff] at h
    rw [List.foldl_cons, wTh_good x s h.1, ih _ h.2, List.flatMap_cons, List.append_assoc]

theorem wFold_bad (l : List Th) : ∀ s : List UInt8, l.any badT = true → (l.foldl (fun s x => wTh x s) (s, false)).2 = true := by
  induction l with
  | nil => intro s h; simp at h
  | cons x l ih =>
    intro s h
    rw [List.foldl_cons]
    cases hb : badT x with
    | true => rw [wTh_bad x s hb, wFold_stuck]
    | false =>
      rw [wTh_good x s hb]
      refine ih _ ?_
      simpa [hb] using h

theorem wAll_good (l : List Th) (h : l.any badT = false) : wAll l = (l.flatMap encT, false) := by
  have := wFold_good l [] h
  simpa [wAll] using this
theorem wAll_bad (l : List Th) (h : l.any badT = true) : (wAll l).2 = true := wFold_bad l [] h

theorem flat_at (l : List Th) (k : Nat) (hk : k < l.length) : l.flatMap encT = (l.take k).flatMap encT ++ (encT l[k] ++ (l.drop (k + 1)).flatMap encT) := by
  conv => lhs; rw [show l = l.take k ++ l[k] :: l.drop (k + 1) by rw [← List.drop_eq_getElem_cons hk, List.take_append_drop]]
  rw [List.flatMap_append, List.flatMap_cons]

theorem flat_next (l : List Th) (k : Nat) (hk : k < l.length) : ((l.take (k + 1)).flatMap encT).length = ((l.take k).flatMap encT).length + (encT l[k]).length := by
  rw [List.take_succ_eq_append_getElem hk, List.flatMap_append, List.length_append]
  simp

/-- How much is written, at most. -/
theorem flat_short (l : List Th) (h : ∀ x ∈ l, ThOk x) : (l.flatMap encT).length ≤ (l.map thW).sum := by
  induction l with
  | nil => simp
  | cons x l ih =>
    have hx := h x (by simp)
    have h1 := ih (fun y hy => h y (by simp [hy]))
    have h9 := sevens_nine (n := x.n.toNat) (by have := hx.n; omega)
    have h9' := sevens_nine (n := x.s.size) hx.s
    have hs : x.s.data.toList.length = x.s.size := by simp
    rw [List.flatMap_cons, List.length_append, List.map_cons, List.sum_cons]
    have : (encT x).length ≤ thW x := by
      unfold encT thW
      split
      · omega
      · split
        · rw [List.length_append, hs]
          omega
        · split
          · rw [hx.id]
            omega
          · simp
    omega

section
variable (x : Th) (pre rest : List UInt8)
theorem read_int (hx : ThOk x) (h0 : x.k = 0) (hb : badT x = false) : rInt (pre ++ (encT x ++ rest)) x.n x.n (pre.length, 0, 0) = (x.n, (pre.length + (encT x).length, 0, 0)) := by
  have hn : ¬ x.n < 0 := by simpa [badT, h0] using hb
  have e : encT x = sevens x.n.toNat := by simp [encT, h0]
  have hc : ((x.n.toNat : Nat) : Int) = x.n := by omega
  rw [e, rInt_sevens pre rest x.n.toNat x.n x.n 0 (by have := hx.n; omega), if_neg (by omega), hc]
theorem read_text (hx : ThOk x) (h1 : x.k = 1) : rText (pre ++ (encT x ++ rest)) x.s.size (pre.length, 0, 0) = (x.s.data.toList, (pre.length + (encT x).length, 0, 0)) := by
  have e : encT x = sevens x.s.data.toList.length ++ x.s.data.toList := by simp [encT, h1]
  have hs : x.s.data.toList.length = x.s.size := by simp
  rw [e, List.append_assoc, rText_sevens pre x.s.data.toList rest x.s.size 0 (by rw [hs]; exact hx.s) (by rw [hs]; omega), List.length_append, Nat.add_assoc]
theorem read_id (hx : ThOk x) (h2 : x.k = 2) : rID (pre ++ (encT x ++ rest)) (pre.length, 0, 0) = (x.id, (pre.length + (encT x).length, 0, 0)) := by
  have e : encT x = x.id := by simp [encT, h2]
  rw [e, rID_bytes pre x.id rest 0 hx.id, hx.id]
end


set_option maxHeartbeats 1000000 in
theorem all_nil (ao : Option Addr) (cap : Nat) (w : World) :
    Calls Try.prog 38 #[.slice ao 0 cap] w fun e w' => ∃ ao' cap', e = .returned (.tuple #[.slice ao' 0 cap', .bool true]) ∧ Row w' 5 ao' cap' [] ∧ Fr (fun _ => False) w w' ∧ ∀ k, blk ao' k → w.heap.size ≤ k := by
  go_enter Try.func38, Try.ntmps38
  go_wp2_with fail
  refine (new_any _).mono ?_
  rintro e w1 ⟨rfl, hW1, hF1, hs1⟩
  go_wp2_with fail
  go_loopw [5] (fun i wr => i = .int .i64 0 ∧ wr = w1) (fun i _ => 0)
  case atStart => exact ⟨rfl, rfl⟩
  case round =>
    obtain ⟨rfl, rfl⟩ := hrel
    obtain ⟨at_, ea, hWA⟩ := hW1
    have HO := hideIt (out_ok _ _ none 0 _ at_ ea wr hWA (by simp))
    go_wp2_with fail
    refine Calls.mono HO.out ?_
    rintro e w2 ⟨ao2, cap2, rfl, hrow, hF2, hn2⟩
    go_wp2_with fail
    all_goals go_ret2
    all_goals exact ⟨ao2, cap2, rfl, hrow, hF1.trans hF2 (fun _ _ e => e), fun j hj => Nat.le_trans hF1.size (hn2 j hj)⟩

theorem all_gen (ao : Option Addr) (cap : Nat) (l : List Th) (w : World) (h : l = [] ∨ ThsAt w ao l) (hl : ∀ x ∈ l, ThOk x) (hb : (l.map thW).sum ≤ 140737488355328) :
    Calls Try.prog 38 #[.slice ao l.length cap] w fun e w' => ∃ ao' cap', e = .returned (.tuple #[.slice ao' (if l.any badT then [] else l.flatMap encT).length cap', .bool (!l.any badT)]) ∧ Row w' 5 ao' cap' (if l.any badT then [] else l.flatMap encT) ∧ Fr (fun _ => False) w w' ∧ ∀ k, blk ao' k → w.heap.size ≤ k := by
  rcases h with rfl | h
  · exact all_nil ao cap w
  · have := all_any ao cap l w h hl hb
    cases hbad : l.any badT with
    | true =>
      rw [wAll_bad l hbad] at this
      exact this
    | false =>
      rw [wAll_good l hbad] at this
      exact this

end Go.Proofs.Yteihmonafdnicaa
