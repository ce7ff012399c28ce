/- Code: Read. -/
import Derived.Test.YtpieaenfnajlfaaCe
import Derived.Deep.MidRow
import Derived.Deep.RegionHeld3
namespace Go.Proofs.Ytpieaenfnajlfaa
open Go.RowKit Go.IntWalk Go.Lib
set_option linter.unusedSimpArgs false
set_option linter.unusedVariables false

/-- A reader's place and its fault's lie within the bytes. -/
def FB (bs : List UInt8) (s : Nat × Int × Int) : Prop := s.1 ≤ bs.length ∧ 0 ≤ s.2.2 ∧ s.2.2 ≤ bs.length

theorem rdNum_inl {bs : List UInt8} {a : Nat} {lo hi ab e x : Int} (h : rdNum bs a lo hi ab = .inl (e, x)) (ha : a ≤ bs.length) : 0 ≤ x ∧ x ≤ bs.length := by
  unfold rdNum at h
  split at h
  · simp at h; omega
  · simp at h; omega
  · simp at h; omega
  · split at h
    · simp at h; omega
    · split at h
      · simp at h; omega
      · simp at h
theorem rInt_fb {bs : List UInt8} {lo hi : Int} {s : Nat × Int × Int} (h : FB bs s) : FB bs (rInt bs lo hi s).2 := by
  unfold rInt
  split
  · exact h
  · split
    · rename_i e x hx
      have := rdNum_inl hx h.1
      exact ⟨h.1, this⟩
    · rename_i n m hx
      exact ⟨rdNum_le hx h.1, h.2⟩
theorem rText_fb {bs : List UInt8} {most : Int} {s : Nat × Int × Int} (h : FB bs s) : FB bs (rText bs most s).2 := by
  unfold rText
  split
  · exact h
  · split
    · rename_i e x hx
      refine ⟨h.1, ?_⟩
      unfold rdText at hx
      split at hx
      · rename_i f hf
        obtain rfl := Sum.inl.inj hx
        exact rdNum_inl hf h.1
      · split at hx
        · simp at hx; show 0 ≤ x ∧ x ≤ bs.length; omega
        · cases hx
    · rename_i x m hx
      exact ⟨rdText_le hx, h.2⟩
theorem tk_fb {bs : List UInt8} {l : Nat} {i : Ins} {s : Nat × Int × Int} (h : FB bs s) : FB bs (tk bs l i s).2 := by
  unfold tk
  split
  · exact rText_fb h
  · exact rInt_fb h
theorem rInt_rng (bs : List UInt8) (lo hi : Int) (s : Nat × Int × Int) (hh : 0 ≤ hi) : 0 ≤ (rInt bs lo hi s).1 ∧ (rInt bs lo hi s).1 ≤ hi := by
  unfold rInt
  split
  · exact ⟨Int.le_refl _, hh⟩
  · split
    · exact ⟨Int.le_refl _, hh⟩
    · rename_i n m hx
      unfold rdNum at hx
      split at hx
      · cases hx
      · cases hx
      · cases hx
      · split at hx
        · cases hx
        · split at hx
          · cases hx
          · simp at hx
            show 0 ≤ (n : Int) ∧ (n : Int) ≤ hi
            omega

def zeroI : Ins := ⟨0, 0, 0, 0, 0, ⟨#[]⟩⟩
/-- The instruction that stands at the head of bytes, and the reader's state behind it. -/
def tks (cs : List UInt8) (ls : List Nat) (x : Ins × (Nat × Int × Int)) : Ins × (Nat × Int × Int) := ls.foldl (fun x l => tk cs l x.1 x.2) x
def rdI (cs : List UInt8) : Ins × (Nat × Int × Int) := tks cs (ltrs (rInt cs 1 15 (0, 0, 0)).1.toNat) (⟨(rInt cs 1 15 (0, 0, 0)).1, 0, 0, 0, 0, ⟨#[]⟩⟩, (rInt cs 1 15 (0, 0, 0)).2)
def win (bs : List UInt8) (a : Nat) : List UInt8 := (bs.drop a).take 67
/-- What Read tells: the instruction, the place, the fault. -/
def readR (bs : List UInt8) (at_ : Int) : Ins × Int × Int × Int :=
  if at_ < 0 ∨ (bs.length : Int) < at_ then (zeroI, 0, 5, 0)
  else if (rdI (win bs at_.toNat)).2.2.1 = 0 then ((rdI (win bs at_.toNat)).1, at_ + (rdI (win bs at_.toNat)).2.1, 0, 0)
  else (zeroI, 0, (rdI (win bs at_.toNat)).2.2.1, at_ + (rdI (win bs at_.toNat)).2.2.2)
def readV (r : Ins × Int × Int × Int) : Value := .tuple #[.agg (icells r.1), .int .i64 r.2.1, .agg #[.int .i64 r.2.2.1, .int .i64 r.2.2.2]]

theorem read_out (ao : Option Addr) (cap : Nat) (bs : List UInt8) (at_ : Int) (w : World) (h : at_ < 0 ∨ (bs.length : Int) < at_) :
    Calls Try.prog 18 #[.slice ao bs.length cap, .int .i64 at_] w fun e w' => e = .returned (readV (readR bs at_)) ∧ Fr (fun _ => False) w w' := by
  have hr : readV (readR bs at_) = .tuple #[.agg (icells zeroI), .int .i64 0, .agg #[.int .i64 5, .int .i64 0]] := by unfold readR; rw [if_pos h]; rfl
  rw [hr]
  clear hr
  by_cases h1 : at_ < 0
  · have hd : decide (at_ < 0) = true := by simp [h1]
    clear h
    go_enter Try.func18, Try.ntmps18
    go_wp2_with fail
    refine bodyPost_ret (v := .tuple #[.agg (icells zeroI), .int .i64 0, .agg #[.int .i64 5, .int .i64 0]]) (by simp [results, Try.results18, go_sem, icells, zeroI]) rfl ⟨rfl, ?_⟩
    exact ((Fr.refl _ _).alloc _).alloc _
  · have h2 : (bs.length : Int) < at_ := h.resolve_left h1
    have hd : decide (at_ < 0) = false := by simp [h1]
    have hd2 : decide ((bs.length : Int) < at_) = true := by simp [h2]
    clear h
    go_enter Try.func18, Try.ntmps18
    go_wp2_with fail
    refine bodyPost_ret (v := .tuple #[.agg (icells zeroI), .int .i64 0, .agg #[.int .i64 5, .int .i64 0]]) (by simp [results, Try.results18, go_sem, icells, zeroI]) rfl ⟨rfl, ?_⟩
    exact ((Fr.refl _ _).alloc _).alloc _

theorem setCell_far {w : World} {k b j : Nat} {v : Value} (h : k ≠ b) : (w.setCell ⟨b, j, none⟩ v).heap[k]? = w.heap[k]? := heap_setCell_other _ _ _ _ h

theorem drew_heap (w : World) : w.drew.heap = w.heap := rfl

theorem there_row {w : World} {b : Nat} {C : Array Value} {t : TypeId} (h : w.heap[b]? = some (.cells C t (0, 0))) (n : Nat) (hn : n ≤ C.size) : w.there b 0 n := fun j hj => by
  rw [Nat.zero_add, cell_of_row w b j _ _ _ h]
  exact ⟨by simp; omega, frozen_of_row w b j _ _ h⟩

theorem setCells_heap (b : Nat) (t : TypeId) : ∀ (vs : List Value) (o : Nat) (w : World) (cur : Array Value), w.heap[b]? = some (.cells cur t (0, 0)) → o + vs.length ≤ cur.size →
    ∃ A : Array Value, (w.setCells b o vs).heap[b]? = some (.cells A t (0, 0)) ∧ A.toList = cur.toList.take o ++ vs ++ cur.toList.drop (o + vs.length)
  | [], o, w, cur, h, _ => ⟨cur, h, by simp⟩
  | v :: vs, o, w, cur, h, hle => by
    simp only [List.length_cons] at hle
    obtain ⟨A, h1, h2⟩ := setCells_heap b t vs (o + 1) (w.setCell ⟨b, o, none⟩ v) (cur.setIfInBounds o v) (heap_setCell_same w b o cur t v h) (by simp; omega)
    refine ⟨A, h1, ?_⟩
    have ho : o < cur.toList.length := by simp; omega
    rw [h2, Array.toList_setIfInBounds]
    have e1 : (cur.toList.set o v).take (o + 1) = cur.toList.take o ++ [v] := by
      rw [List.set_eq_take_append_cons_drop, if_pos ho, List.take_append]
      have hl : (cur.toList.take o).length = o := by simp; omega
      rw [hl, List.take_of_length_le (by omega), show o + 1 - o = 1 by omega]
      simp
    have e2 : (cur.toList.set o v).drop (o + 1 + vs.length) = cur.toList.drop (o + (vs.length + 1)) := by
      rw [List.drop_set_of_lt (by omega), show o + 1 + vs.length = o + (vs.length + 1) by omega]
    rw [e1, e2]
    simp

theorem setCells_full (b : Nat) (t : TypeId) (vs : List Value) (w : World) (cur : Array Value) (h : w.heap[b]? = some (.cells cur t (0, 0))) (hl : vs.length = cur.size) : (w.setCells b 0 vs).heap[b]? = some (.cells vs.toArray t (0, 0)) := by
  obtain ⟨A, h1, h2⟩ := setCells_heap b t vs 0 w cur h (by omega)
  rw [h1]
  have e : A = vs.toArray := by
    apply Array.ext'
    rw [h2, List.drop_of_length_le (by simp; omega)]
    simp
  rw [e]

theorem tape_setCells (b : Nat) : ∀ (vs : List Value) (o : Nat) (w : World), (w.setCells b o vs).tape = w.tape ∧ (w.setCells b o vs).heap.size = w.heap.size
  | [], o, w => ⟨rfl, rfl⟩
  | v :: vs, o, w => by
    have := tape_setCells b vs (o + 1) (w.setCell ⟨b, o, none⟩ v)
    exact ⟨this.1, this.2.trans (by simp)⟩

theorem Fr.setCells (w : World) (b o : Nat) (vs : List Value) : Fr (fun k => k = b) w (w.setCells b o vs) :=
  ⟨World.os_setCells _ _ _ _, (tape_setCells b vs o w).1, World.output_setCells _ _ _ _, Nat.le_of_eq (tape_setCells b vs o w).2.symm, fun k hk hne => World.heap_setCells_other w b o vs hk hne⟩

/-- A struct is stored over one. -/
theorem store_over {b : Nat} {t : TypeId} {C V : Array Value} {w : World} (h : w.heap[b]? = some (.cells C t (0, 0))) (hs : V.size = C.size) :
    (w.setCells b 0 V.toList).heap[b]? = some (.cells V t (0, 0)) ∧ Fr (fun k => k = b) w (w.setCells b 0 V.toList) := by
  have := setCells_full b t V.toList w C h (by simpa using hs)
  exact ⟨by simpa using this, Fr.setCells w b 0 V.toList⟩

theorem icells_one (i : Ins) : (icells i).all (·.oneCell') = true := by simp [icells, Value.oneCell']
theorem fault_one (x y : Int) : (#[Value.int .i64 x, Value.int .i64 y] : Array Value).all (·.oneCell') = true := by simp [Value.oneCell']

/-- What Open answers of the window. -/
def OpenP (cs : List UInt8) (w : World) (e : Ending) (w' : World) : Prop :=
  ∃ p t ao' cap', e = .returned (.pointer (some ⟨p, 0, none⟩)) ∧ RAt w' p t ao' cap' cs 0 0 0 ∧ Fr (fun _ => False) w w' ∧ w.heap.size ≤ p ∧ w.heap.size ≤ t ∧ ∀ k, blk ao' k → w.heap.size ≤ k

theorem win_len (bs : List UInt8) (a : Nat) : (win bs a).length = min 67 (bs.length - a) := by simp [win]

theorem open_end (ao : Option Addr) (bs : List UInt8) (a : Nat) (w W : World) (h : BsAt w ao bs) (hF : Fr (fun _ => False) w W) (he : bs.length = a) :
    Calls Try.prog 39 #[.slice ao (bs.length - a) 0] W (OpenP (win bs a) W) := by
  have hl : (win bs a).length = bs.length - a := by rw [win_len]; omega
  have hnil : win bs a = [] := List.eq_nil_of_length_eq_zero (by rw [hl]; omega)
  have hB : BsAt W ao (win bs a) := by
    rw [hnil]
    rcases h with ⟨rfl, _⟩ | ⟨b, off, rfl, _⟩
    · exact Or.inl ⟨rfl, rfl⟩
    · exact Or.inr ⟨b, off, rfl, fun j hj => absurd hj (by simp)⟩
  have := open_any ao 0 (win bs a) W hB (fun _ => rfl) (by rw [hl]; omega)
  rw [hl] at this
  exact this

theorem open_mid (ao : Option Addr) (cap : Nat) (bs : List UInt8) (a n : Nat) (w W : World) (h : BsAt w ao bs) (hcap0 : ao = none → cap = 0) (hcl : bs.length ≤ cap) (hale : a ≤ bs.length) (hF : Fr (fun _ => False) w W) (hca : ¬ cap = a) (hn : n = min 67 (bs.length - a)) :
    Calls Try.prog 39 #[.slice (Option.map (fun x => x.add a) ao) n (cap - a)] W (OpenP (win bs a) W) := by
  have hl : (win bs a).length = n := by rw [win_len, hn]
  have hB : BsAt W (Option.map (fun x => x.add a) ao) (win bs a) := by
    have h' := h.fr hF (fun _ _ _ e => e)
    rcases h' with ⟨rfl, rfl⟩ | ⟨b, off, rfl, hc⟩
    · have := hcap0 rfl
      simp at hale
      omega
    · refine Or.inr ⟨b, off + a, by simp [Addr.add_lit], fun j hj => ?_⟩
      have hj2 : a + j < bs.length := by rw [win_len] at hj; omega
      have := hc (a + j) hj2
      rw [← Nat.add_assoc] at this
      rw [this]
      congr 2
      simp [win]
  have := open_any (Option.map (fun x => x.add a) ao) (cap - a) (win bs a) W hB (fun e => by cases ao with | none => rw [hcap0 rfl]; omega | some x => cases e) (by rw [hl]; omega)
  rw [hl] at this
  exact this

end Go.Proofs.Ytpieaenfnajlfaa
