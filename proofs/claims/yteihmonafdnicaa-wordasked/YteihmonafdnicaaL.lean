/- What the statements of layer 1 share: things that are written. -/
import Derived.Test.YteihmonafdnicaaX
import Derived.Test.YteihmonafdnicaaT
import Derived.Test.YteihmonafdnicaaQ
import Derived.Deep.MidRow
namespace Go.Proofs.Yteihmonafdnicaa
open Go.RowKit Go.IntWalk
set_option linter.unusedSimpArgs false
set_option linter.unusedVariables false

/-- A thing: its kind, a number, a text, an ID. -/
structure Th where
  k : Int
  n : Int
  s : ByteArray
  id : List UInt8

/-- A thing's cells. -/
def thL (x : Th) : List Value := .int .i64 x.k :: .int .i64 x.n :: .string x.s :: bv x.id
def thA (x : Th) : Array Value := (thL x).toArray
theorem thA_0 (x : Th) : (thA x)[0]? = some (.int .i64 x.k) := rfl
theorem thA_1 (x : Th) : (thA x)[1]? = some (.int .i64 x.n) := rfl
theorem thA_2 (x : Th) : (thA x)[2]? = some (.string x.s) := rfl
theorem thL_len (x : Th) (h : x.id.length = 32) : (thL x).length = 35 := by simp [thL, bv_length, h]

/-- What a thing does to a writer. -/
def wTh (x : Th) (s : List UInt8 × Bool) : List UInt8 × Bool := if x.k = 0 then wInt x.n s else if x.k = 1 then wText x.s.data.toList s else if x.k = 2 then wID x.id s else s

/-- What a thing takes at most. -/
def thW (x : Th) : Nat := 64 + x.s.size

theorem wTh_len (x : Th) (h : x.id.length = 32) (hn : x.n ≤ 9223372036854775807) (hs : x.s.size ≤ 9223372036854775807) (s : List UInt8 × Bool) : (wTh x s).1.length ≤ s.1.length + thW x := by
  have h9 := sevens_nine (n := x.n.toNat) (by omega)
  have h9' := sevens_nine (n := x.s.size) hs
  unfold wTh thW wInt wText wID
  split
  · split
    · omega
    · split <;> simp <;> omega
  · split
    · split
      · omega
      · simp; omega
    · split
      · split
        · omega
        · simp; omega
      · omega

theorem write_int (p : Nat) (x : Th) (w : World) (R : World → Prop) (hk : (x.k == 0) = true)
    (hc : Calls Try.prog 44 #[.pointer (some ⟨p, 0, none⟩), .int .i64 x.n] (w.alloc (.cells (thA x) 35)) fun e w' => e = .returned (.tuple #[]) ∧ R w') :
    Calls Try.prog 10 #[.pointer (some ⟨p, 0, none⟩), .agg (thA x)] w fun e w' => e = .returned (.tuple #[]) ∧ R w' := by
  have e0 := thA_0 x
  have e1 := thA_1 x
  have HC := hideIt hc
  clear hc
  go_enter Try.func10, Try.ntmps10
  go_wp2_with fail
  refine Calls.mono HC.out ?_
  rintro e w' ⟨rfl, hr⟩
  have HR := hideIt hr
  clear hr
  go_wp2_with fail
  go_end0
  exact ⟨rfl, HR.out⟩

theorem write_text (p : Nat) (x : Th) (w : World) (R : World → Prop) (h0 : (x.k == 0) = false) (hk : (x.k == 1) = true)
    (hc : Calls Try.prog 45 #[.pointer (some ⟨p, 0, none⟩), .string x.s] (w.alloc (.cells (thA x) 35)) fun e w' => e = .returned (.tuple #[]) ∧ R w') :
    Calls Try.prog 10 #[.pointer (some ⟨p, 0, none⟩), .agg (thA x)] w fun e w' => e = .returned (.tuple #[]) ∧ R w' := by
  have e0 := thA_0 x
  have e2 := thA_2 x
  have HC := hideIt hc
  clear hc
  go_enter Try.func10, Try.ntmps10
  go_wp2_with fail
  refine Calls.mono HC.out ?_
  rintro e w' ⟨rfl, hr⟩
  have HR := hideIt hr
  clear hr
  go_wp2_with fail
  go_end0
  exact ⟨rfl, HR.out⟩

theorem Try.infoID : (Try.prog.info? 33).map (·.size) = some 32 := by kernel_rfl

theorem thA_id (x : Th) (w : World) : (w.alloc (.cells (thA x) 35)).rangeAt w.heap.size 3 (bv x.id) := by
  intro j v hv
  rw [World.cell?_alloc_at _ _ _ _ rfl]
  have e : (thA x)[3 + j]? = (bv x.id)[j]? := by
    rw [show 3 + j = j + 1 + 1 + 1 by omega]
    simp [thA, thL]
  rw [e]
  exact hv

theorem write_id (p : Nat) (x : Th) (h32 : x.id.length = 32) (w : World) (R : World → Prop) (h0 : (x.k == 0) = false) (h1 : (x.k == 1) = false) (hk : (x.k == 2) = true)
    (hc : Calls Try.prog 46 #[.pointer (some ⟨p, 0, none⟩), .agg (bv x.id).toArray] (w.alloc (.cells (thA x) 35)) fun e w' => e = .returned (.tuple #[]) ∧ R w') :
    Calls Try.prog 10 #[.pointer (some ⟨p, 0, none⟩), .agg (thA x)] w fun e w' => e = .returned (.tuple #[]) ∧ R w' := by
  have e0 := thA_0 x
  have HC := hideIt hc
  have HID := hideIt (thA_id x w)
  have hi : (Try.prog.info? 33).map (·.size) = some (bv x.id).length := by rw [bv_length, h32]; exact Try.infoID
  have HI := hideIt hi
  clear hc hi
  go_enter Try.func10, Try.ntmps10
  go_wp2_with (first | (refine wpList_load_mid rfl 33 _ rfl w.heap.size 3 rfl (bv x.id) _ HID.out Try.underlying33 rfl HI.out ?_))
  refine Calls.mono HC.out ?_
  rintro e w' ⟨rfl, hr⟩
  have HR := hideIt hr
  clear hr
  go_wp2_with fail
  go_end0
  exact ⟨rfl, HR.out⟩

theorem write_none (p : Nat) (x : Th) (w : World) (h0 : (x.k == 0) = false) (h1 : (x.k == 1) = false) (h2 : (x.k == 2) = false) :
    Calls Try.prog 10 #[.pointer (some ⟨p, 0, none⟩), .agg (thA x)] w fun e w' => e = .returned (.tuple #[]) ∧ w' = w.alloc (.cells (thA x) 35) := by
  have e0 := thA_0 x
  go_enter Try.func10, Try.ntmps10
  go_wp2_with fail
  go_end0
  exact ⟨rfl, rfl⟩

/-- A thing that may be: its ID has 32 bytes, its number and its text's length fit. -/
structure ThOk (x : Th) : Prop where
  id : x.id.length = 32
  n : x.n ≤ 9223372036854775807
  s : x.s.size ≤ 9223372036854775807

theorem WPost.alloc {w : World} {p t : Nat} {ao : Option Addr} {s : List UInt8 × Bool} {w' : World} {o : Obj} (h : WPost (w.alloc o) p t ao s w') : WPost w p t ao s w' := by
  obtain ⟨ao', cap', h1, h2, h3⟩ := h
  refine ⟨ao', cap', h1, ((Fr.refl (wset t ao) w).alloc o).trans h2 (fun _ _ e => e), ?_⟩
  rcases h3 with h3 | h3
  · exact Or.inl h3
  · exact Or.inr fun k hk => by have := h3 k hk; simp at this; omega

theorem write_any (p t : Nat) (ao : Option Addr) (cap : Nat) (s : List UInt8 × Bool) (x : Th) (hx : ThOk x) (w : World) (h : WOk w p t ao cap s) (hb : s.1.length + thW x ≤ 140737488355328) :
    Calls Try.prog 10 #[.pointer (some ⟨p, 0, none⟩), .agg (thA x)] w fun e w' => e = .returned (.tuple #[]) ∧ WPost w p t ao (wTh x s) w' := by
  have hA : WOk (w.alloc (.cells (thA x) 35)) p t ao cap s := by
    obtain ⟨at_, ea, hW⟩ := h
    exact ⟨at_, ea, hW.fr ((Fr.refl (fun _ => False) w).alloc _) (fun e => e) (fun _ _ e => e)⟩
  unfold thW at hb
  by_cases h0 : x.k = 0
  · rw [show wTh x s = wInt x.n s by simp [wTh, h0]]
    exact write_int p x w _ (by simp [h0]) ((wint_any p t ao cap s x.n _ hA hx.n (by omega)).mono fun e w' hh => ⟨hh.1, hh.2.alloc⟩)
  by_cases h1 : x.k = 1
  · rw [show wTh x s = wText x.s.data.toList s by simp [wTh, h1]]
    exact write_text p x w _ (by simp [h0]) (by simp [h1]) ((wtext_any p t ao cap s x.s _ hA (by omega)).mono fun e w' hh => ⟨hh.1, hh.2.alloc⟩)
  by_cases h2 : x.k = 2
  · rw [show wTh x s = wID x.id s by simp [wTh, h2]]
    exact write_id p x hx.id w _ (by simp [h0]) (by simp [h1]) (by simp [h2]) ((wid_any p t ao cap s x.id hx.id _ hA (by omega)).mono fun e w' hh => ⟨hh.1, hh.2.alloc⟩)
  · rw [show wTh x s = s by simp [wTh, h0, h1, h2]]
    refine (write_none p x w (by simp [h0]) (by simp [h1]) (by simp [h2])).mono ?_
    rintro e w' ⟨rfl, rfl⟩
    exact ⟨rfl, ao, cap, hA, (Fr.refl _ _).alloc _, Or.inl rfl⟩

/-- Things, one behind the other, in memory. -/
def ThsAt (w : World) (ao : Option Addr) (l : List Th) : Prop :=
  (ao = none ∧ l = []) ∨ ∃ b off, ao = some ⟨b, off, none⟩ ∧ b < w.heap.size ∧ ∀ i (h : i < l.length), w.rangeAt b (off + i * 35) (thL l[i])

theorem ThsAt.fr {w w' : World} {ao : Option Addr} {l : List Th} {S : Nat → Prop} (h : ThsAt w ao l) (hf : Fr S w w') (hS : ∀ k, k < w.heap.size → blk ao k → ¬ S k) : ThsAt w' ao l := by
  rcases h with h | ⟨b, off, rfl, hb, hc⟩
  · exact Or.inl h
  · refine Or.inr ⟨b, off, rfl, Nat.lt_of_lt_of_le hb hf.size, fun i hi j v hv => ?_⟩
    rw [← hc i hi j v hv]
    exact World.cell?_of_block (a := ⟨b, off + i * 35 + j, none⟩) (hf.block b hb (hS b hb ⟨_, rfl, rfl⟩))

/-- A writer behind things. -/
def wAll (l : List Th) : List UInt8 × Bool := l.foldl (fun s x => wTh x s) ([], false)
theorem wAll_snoc (l : List Th) (x : Th) : wAll (l ++ [x]) = wTh x (wAll l) := by simp [wAll]
theorem wFold_len (l : List Th) : ∀ s : List UInt8 × Bool, (∀ x ∈ l, ThOk x) → (l.foldl (fun s x => wTh x s) s).1.length ≤ s.1.length + (l.map thW).sum := by
  induction l with
  | nil => intro s _; simp
  | cons x l ih =>
    intro s h
    have hx := h x (by simp)
    have h1 := wTh_len x hx.id hx.n hx.s s
    have h2 := ih (wTh x s) (fun y hy => h y (by simp [hy]))
    simp only [List.foldl_cons, List.map_cons, List.sum_cons]
    omega
theorem wAll_len (l : List Th) (h : ∀ x ∈ l, ThOk x) : (wAll l).1.length ≤ (l.map thW).sum := by
  have := wFold_len l ([], false) h
  simpa [wAll] using this

theorem take_sum (l : List Th) (k : Nat) (hk : k < l.length) : ((l.take k).map thW).sum + thW l[k] ≤ (l.map thW).sum := by
  have e : l = l.take k ++ l[k] :: l.drop (k + 1) := by rw [← List.drop_eq_getElem_cons hk, List.take_append_drop]
  have e2 : (l.map thW).sum = ((l.take k).map thW).sum + (thW l[k] + ((l.drop (k + 1)).map thW).sum) := by
    conv => lhs; rw [e]
    rw [List.map_append, List.sum_append_nat, List.map_cons, List.sum_cons]
  omega

theorem len_sum (l : List Th) : 64 * l.length ≤ (l.map thW).sum := by
  induction l with
  | nil => simp
  | cons x l ih => simp only [List.length_cons, List.map_cons, List.sum_cons, thW]; omega

theorem wAll_take (l : List Th) (k : Nat) (hk : k < l.length) : wAll (l.take (k + 1)) = wTh l[k] (wAll (l.take k)) := by
  rw [List.take_succ_eq_append_getElem hk, wAll_snoc]

theorem Try.infoTh : (Try.prog.info? 35).map (·.size) = some 35 := by kernel_rfl

set_option maxRecDepth 100000 in
set_option maxHeartbeats 2000000 in
theorem all_any (ao : Option Addr) (cap : Nat) (l : List Th) (w : World) (h : ThsAt w ao l) (hl : ∀ x ∈ l, ThOk x) (hb : (l.map thW).sum ≤ 140737488355328) :
    Calls Try.prog 38 #[.slice ao l.length cap] w fun e w' => ∃ ao' cap', e = .returned (.tuple #[.slice ao' (if (wAll l).2 then [] else (wAll l).1).length cap', .bool (!(wAll l).2)]) ∧ Row w' 5 ao' cap' (if (wAll l).2 then [] else (wAll l).1) ∧ Fr (fun _ => False) w w' ∧ ∀ k, blk ao' k → w.heap.size ≤ k := by
  go_enter Try.func38, Try.ntmps38
  go_wp2_with fail
  refine (new_any _).mono ?_
  rintro e w1 ⟨rfl, hW1, hF1, hs1⟩
  go_wp2_with fail
  have hlen := len_sum l
  have hll : l.length ≤ 2199023255552 := by omega
  have HL := hideIt hl
  have HB := hideIt hb
  clear hl hb
  go_loopw [5] (fun i wr => ∃ (k : Nat) (aor : Option Addr) (capr : Nat), i = .int .i64 k ∧ k ≤ l.length ∧ WOk wr (w.heap.size + 1) w.heap.size aor capr (wAll (l.take k)) ∧ Fr (fun _ => False) w wr ∧ ∀ j, blk aor j → w.heap.size ≤ j)
    (fun i _ => (l.length - intOf i).toNat)
  case atStart => exact ⟨0, none, 0, rfl, Nat.zero_le _, hW1, hF1, fun j ⟨_, e, _⟩ => by cases e⟩
  case round =>
    obtain ⟨k, aor, capr, rfl, hk, hW, hF, hnew⟩ := hrel
    by_cases hlt : k < l.length
    · have HH := h
      rcases h with ⟨_, rfl⟩ | ⟨b, off, rfl, hbl, hc⟩
      · simp at hlt
      have HTH := hideIt (show wr.rangeAt b (off + k * 35) (thL l[k]) from fun j v hv => (World.cell?_of_block (a := ⟨b, off + k * 35 + j, none⟩) (hF.block b hbl (fun e => e))).trans (hc k hlt j v hv))
      have hok := HL.out l[k] (List.getElem_mem hlt)
      have HTI := hideIt (show (Try.prog.info? 35).map (·.size) = some (thL l[k]).length by rw [thL_len _ hok.id]; exact Try.infoTh)
      have hts := take_sum l k hlt
      have htl := wAll_len (l.take k) (fun x hx => HL.out x (List.mem_of_mem_take hx))
      have hsum := HB.out
      have HWT := hideIt (wAll_take l k hlt)
      have HWR := hideIt (write_any (w.heap.size + 1) w.heap.size aor capr (wAll (l.take k)) l[k] hok wr hW (by omega))
      clear hts htl hsum hc HH
      generalize l[k] = x at *
      go_wp2_with (first | (refine wpList_load_mid rfl 35 _ rfl b (off + k * 35) rfl (thL x) _ HTH.out Try.underlying35 rfl HTI.out ?_))
      refine Calls.mono HWR.out ?_
      rintro e w2 ⟨rfl, ao2, cap2, hW2, hF2, hao2⟩
      have hFF : Fr (fun _ => False) w w2 := hF.trans hF2 (fun i hi e => by
        rcases e with e | e
        · omega
        · have := hnew i e; omega)
      have hnew2 : ∀ j, blk ao2 j → w.heap.size ≤ j := fun j hj => by
        rcases hao2 with rfl | hao2
        · exact hnew j hj
        · have := hao2 j hj; have := hF.size; omega
      rw [← HWT.out] at hW2
      go_wp2_with fail
      go_roundw
      case measure => simp [intOf]; omega
      case rel => exact ⟨k + 1, ao2, cap2, by go_num, by omega, hW2, hFF, hnew2⟩
    · obtain rfl : k = l.length := by omega
      rw [List.take_length] at hW
      have hbl := wAll_len l HL.out
      have hsum := HB.out
      obtain ⟨at_, ea, hWA⟩ := hW
      cases hbad : (wAll l).2 with
      | true =>
        rw [hbad] at hWA
        have HO := hideIt (out_bad _ _ aor capr _ at_ ea wr hWA)
        go_wp2_with fail
        refine Calls.mono HO.out ?_
        rintro e w2 ⟨rfl, hF2⟩
        go_wp2_with fail
        all_goals go_ret2
        all_goals exact ⟨none, 0, rfl, World.ownsRow_nil _ _ _ _, hF.trans hF2 (fun _ _ e => e), fun j ⟨_, e, _⟩ => by cases e⟩
      | false =>
        rw [hbad] at hWA
        have HO := hideIt (out_ok _ _ aor capr _ at_ ea wr hWA (by omega))
        go_wp2_with fail
        refine Calls.mono HO.out ?_
        rintro e w2 ⟨ao2, cap2, rfl, hrow, hF2, hn2⟩
        go_wp2_with fail
        all_goals go_ret2
        all_goals exact ⟨ao2, cap2, rfl, hrow, hF.trans hF2 (fun _ _ e => e), fun j hj => Nat.le_trans hF.size (hn2 j hj)⟩

end Go.Proofs.Yteihmonafdnicaa
