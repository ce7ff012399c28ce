/- Bytes that are cloned, compared; what a writer tells. -/
import Derived.Test.YteihmonafdnicaaV
namespace Go.Proofs.Yteihmonafdnicaa
open Go.RowKit Go.IntWalk
set_option linter.unusedSimpArgs false
set_option linter.unusedVariables false

/-- A slice's bytes, wherever they lie. -/
def BsAt (w : World) (ao : Option Addr) (bs : List UInt8) : Prop :=
  (ao = none ∧ bs = []) ∨ ∃ b off, ao = some ⟨b, off, none⟩ ∧ ∀ j (h : j < bs.length), w.cell? ⟨b, off + j, none⟩ = some (.int .u8 bs[j].toNat)

theorem Row.bs {w : World} {e : TypeId} {ao : Option Addr} {cap : Nat} {bs : List UInt8} (h : Row w e ao cap bs) : BsAt w ao bs := by
  rcases h.form with ⟨rfl, rfl, _⟩ | ⟨g, cur, rfl, _⟩
  · exact Or.inl ⟨rfl, rfl⟩
  · exact Or.inr ⟨g, 0, rfl, fun j hj => by rw [Nat.zero_add]; exact h.cell j hj⟩

theorem BsAt.keep {w w' : World} {ao : Option Addr} {bs : List UInt8} (h : BsAt w ao bs) (hb : ∀ k, k < w.heap.size → blk ao k → w'.heap[k]? = w.heap[k]?) : BsAt w' ao bs := by
  rcases h with h | ⟨b, off, rfl, hc⟩
  · exact Or.inl h
  · refine Or.inr ⟨b, off, rfl, fun j hj => ?_⟩
    have h1 := hc j hj
    rw [← h1]
    exact World.cell?_of_block (a := ⟨b, off + j, none⟩) (hb b (block_lt_of_cell h1) ⟨_, rfl, rfl⟩)

theorem BsAt.fr {S : Nat → Prop} {w w' : World} {ao : Option Addr} {bs : List UInt8} (h : BsAt w ao bs) (hf : Fr S w w') (hS : ∀ k, k < w.heap.size → blk ao k → ¬ S k) : BsAt w' ao bs :=
  h.keep fun k hk e => hf.block k hk (hS k hk e)

theorem BsAt.src {w : World} {ao : Option Addr} {bs : List UInt8} (h : BsAt w ao bs) (cap : Nat) : Src Try.prog 1 28 (.slice ao bs.length cap) bs.length (bv bs) w := by
  rcases h with ⟨rfl, rfl⟩ | ⟨b, off, rfl, hc⟩
  · exact Src.ofNil w Try.underlying28 cap
  · refine Src.ofSlice w Try.underlying28 ⟨b, off, none⟩ bs.length cap (bv bs) (by simp [bv_length]) (fun j u hu => ?_) (bv_one _)
    have hj : j < bs.length := by have := (List.getElem?_eq_some_iff.1 hu).1; rwa [bv_length] at this
    rw [bv_get _ _ hj] at hu
    obtain rfl := Option.some.inj hu
    rw [Addr.add_lit]
    exact hc j hj

theorem BsAt.conv {w : World} {ao : Option Addr} {bs : List UInt8} (h : BsAt w ao bs) (cap : Nat) : (convert 28 9 (.slice ao bs.length cap)).run Try.prog w = .ok (.string ⟨bs.toArray⟩) w := by
  rcases h with ⟨rfl, rfl⟩ | ⟨b, off, rfl, hc⟩
  · exact run_convert_bytes_nil w 28 5 Try.underlying28 Try.underlying5 _ _ 9 Try.underlying9
  · have := run_convert_bytes_arg (P := Try.prog) w 28 5 Try.underlying28 Try.underlying5 b off bs.length cap (bs.map fun b => (b.toNat : Int)) (by simp) (fun i hi => by rw [hc i hi]; simp [hi]) 9 Try.underlying9
    rw [this]
    have e : strOfNums (bs.map fun b => (b.toNat : Int)) = ⟨bs.toArray⟩ := by
      unfold strOfNums
      congr 1
      congr 1
      rw [List.map_map]
      conv => rhs; rw [← List.map_id bs]
      apply List.map_congr_left
      intro a _
      simp
    rw [e]

theorem same_any (ao bo : Option Addr) (ca cb : Nat) (xs bs : List UInt8) (w : World) (ha : BsAt w ao xs) (hb : BsAt w bo bs) :
    Calls Try.prog 18 #[.slice ao xs.length ca, .slice bo bs.length cb] w fun e w' => e = .returned (.bool (xs == bs)) ∧ w' = w := by
  have h1 := ha.conv ca
  have h2 := hb.conv cb
  go_enter Try.func18, Try.ntmps18
  go_wp2
  go_ret
  exact ⟨rfl, rfl⟩

theorem clone_nil (w : World) : Calls Try.prog 50 #[.slice none 0 0] w fun e w' => e = .returned (.slice none 0 0) ∧ w' = w := by
  have hnil : ∀ (a : Option Addr) (n c : Nat) (w : World), (binOp .eql 28 (.slice a n c) (.slice none 0 0)).run Try.prog w = .ok (.bool a.isNone) w := fun a n c w => Lib.run_eql_slice_nil (P := Try.prog) w 28 5 a n c 0 0 Try.underlying28
  go_enter Try.func50, Try.ntmps50
  go_wp2
  go_ret
  exact ⟨rfl, rfl⟩

theorem clone_some (a : Addr) (cap : Nat) (bs : List UInt8) (w : World) (h : BsAt w (some a) bs) (hb : bs.length ≤ 140737488355328) :
    Calls Try.prog 50 #[.slice (some a) bs.length cap] w fun e w' => ∃ ao' cap', e = .returned (.slice ao' bs.length cap') ∧ Row w' 5 ao' cap' bs ∧ Fr (fun _ => False) w w' ∧ ∀ k, blk ao' k → w.heap.size ≤ k := by
  have h1 : BsAt (w.alloc (.cells #[] 5)) (some a) bs := h.fr ((Fr.refl (fun _ => False) w).alloc _) (fun _ _ _ e => e)
  obtain ⟨ao', cap', w1, hrun, hrow, hf, hao⟩ := app_row (w.alloc (.cells #[] 5)) 28 (some ⟨w.heap.size, 0, none⟩) 0 [] bs (World.ownsRow_made w #[] 0 (Nat.zero_le _) (by decide) rfl) _ (h1.src cap) (by simpa using hb)
  have HR := hideIt hrun
  clear hrun
  have hnil : ∀ (a : Option Addr) (n c : Nat) (w : World), (binOp .eql 28 (.slice a n c) (.slice none 0 0)).run Try.prog w = .ok (.bool a.isNone) w := fun a n c w => Lib.run_eql_slice_nil (P := Try.prog) w 28 5 a n c 0 0 Try.underlying28
  go_enter Try.func50, Try.ntmps50
  go_wp2_with (first | (at_builtin; refine wpList_append_run _ rfl (.tmp 5) (.tmp 6) 28 28 rfl _ _ _ _ rfl rfl HR.out ?_))
  go_ret
  refine ⟨ao', cap', rfl, hrow, (((Fr.refl (fun _ => False) w).alloc _).trans (hf.mono (S' := fun k => k = w.heap.size) ?_) ?_), ?_⟩
  · rintro k ⟨x, e1, e2⟩
    obtain rfl := Option.some.inj e1
    exact e2.symm
  · intro i hi e
    omega
  · rintro k ⟨x, e1, e2⟩
    rcases hao with rfl | rfl
    · obtain rfl := Option.some.inj e1
      simp only at e2
      omega
    · obtain rfl := Option.some.inj e1
      simp at e2
      omega

theorem clone_any (ao : Option Addr) (cap : Nat) (bs : List UInt8) (w : World) (h : BsAt w ao bs) (hcap : ao = none → cap = 0) (hb : bs.length ≤ 140737488355328) :
    Calls Try.prog 50 #[.slice ao bs.length cap] w fun e w' => ∃ ao' cap', e = .returned (.slice ao' bs.length cap') ∧ Row w' 5 ao' cap' bs ∧ Fr (fun _ => False) w w' ∧ ∀ k, blk ao' k → w.heap.size ≤ k := by
  cases ao with
  | some a => exact clone_some a cap bs w h hb
  | none =>
    obtain rfl := hcap rfl
    rcases h with ⟨_, rfl⟩ | ⟨_, _, e, _⟩
    · refine (clone_nil w).mono ?_
      rintro e w' ⟨rfl, rfl⟩
      exact ⟨none, 0, rfl, World.ownsRow_nil _ _ _ _, Fr.refl _ _, fun k ⟨_, e, _⟩ => by cases e⟩
    · cases e

theorem Row.cap0 {w : World} {e : TypeId} {ao : Option Addr} {cap : Nat} {bs : List UInt8} (h : Row w e ao cap bs) : ao = none → cap = 0 := by
  rintro rfl
  rcases h.form with ⟨_, _, rfl⟩ | ⟨_, _, e, _⟩
  · rfl
  · cases e

theorem out_bad (p t : Nat) (ao : Option Addr) (cap : Nat) (bs : List UInt8) (at_ ea : Int) (w : World) (h : WAt w p t ao cap bs at_ 5 ea) :
    Calls Try.prog 16 #[.pointer (some ⟨p, 0, none⟩)] w fun e w' => e = .returned (.tuple #[.slice none 0 0, .int .i64 5]) ∧ Fr (fun _ => False) w w' := by
  have hc := h.c
  have h2 := h.tp.c2
  go_enter Try.func16, Try.ntmps16
  go_wp2_with (go_at_call 49; refine (wnone_some p t _ hc).mono ?_; rintro e w' ⟨rfl, rfl⟩)
  go_quiet (fail)
  go_wp2
  go_ret2
  exact ⟨rfl, (Fr.refl _ _).drewN _⟩

theorem out_ok (p t : Nat) (ao : Option Addr) (cap : Nat) (bs : List UInt8) (at_ ea : Int) (w : World) (h : WAt w p t ao cap bs at_ 0 ea) (hb : bs.length ≤ 140737488355328) :
    Calls Try.prog 16 #[.pointer (some ⟨p, 0, none⟩)] w fun e w' => ∃ ao' cap', e = .returned (.tuple #[.slice ao' bs.length cap', .int .i64 0]) ∧ Row w' 5 ao' cap' bs ∧ Fr (fun _ => False) w w' ∧ ∀ k, blk ao' k → w.heap.size ≤ k := by
  have hc := h.c
  have h0 := h.tp.c0
  have h2 := h.tp.c2
  go_enter Try.func16, Try.ntmps16
  go_wp2_with (go_at_call 49; refine (wnone_some p t _ hc).mono ?_; rintro e w' ⟨rfl, rfl⟩)
  refine (clone_any ao cap bs _ h.tp.row.bs h.tp.row.cap0 hb).mono ?_
  rintro e w' ⟨ao', cap', rfl, hrow, hF, hnew⟩
  go_wp2
  go_ret2
  exact ⟨ao', cap', rfl, hrow, hF, hnew⟩

theorem out_nil (w : World) : Calls Try.prog 16 #[.pointer none] w fun e w' => e = .returned (.tuple #[.slice none 0 0, .int .i64 1]) ∧ w' = w := by
  go_enter Try.func16, Try.ntmps16
  go_wp2_with (go_at_call 49; refine (wnone_nil _).mono ?_; rintro e w' ⟨rfl, rfl⟩)
  go_ret2
  exact ⟨rfl, rfl⟩

theorem out_bare (p : Nat) (w : World) (hc : w.cell? ⟨p, 0, none⟩ = some (.pointer none)) : Calls Try.prog 16 #[.pointer (some ⟨p, 0, none⟩)] w fun e w' => e = .returned (.tuple #[.slice none 0 0, .int .i64 1]) ∧ w' = w := by
  go_enter Try.func16, Try.ntmps16
  go_wp2_with (go_at_call 49; refine (wnone_bare p _ hc).mono ?_; rintro e w' ⟨rfl, rfl⟩)
  go_ret2
  exact ⟨rfl, rfl⟩

end Go.Proofs.Yteihmonafdnicaa
