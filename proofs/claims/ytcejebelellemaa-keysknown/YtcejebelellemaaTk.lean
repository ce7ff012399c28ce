/- Spans: a row that grows, or stays. -/
import Derived.Test.YtcejebelellemaaTj
namespace Go.Proofs.Ytcejebelellemaa
open Go.RowKit Go.IntWalk
set_option linter.unusedSimpArgs false
set_option linter.unusedVariables false

set_option maxHeartbeats 1000000 in
theorem add_else (p : Nat) (last s : Sp) (ao : Option Addr) (cap : Nat) (A : List Sp) (w : World) (hR : RowAt w p last ao cap A) (hs : ¬ short last (lo s)) :
    Calls Try.prog 68 #[.pointer (some ⟨p, 0, none⟩), .agg #[.string s.1, .string s.2]] w fun e w' => e = .returned (.tuple #[]) ∧ AddPost w p ao A (grow1 last s) w' := by
  have hE := hideIt (fun w => end_any last s.1 w)
  have hneg : ¬ endS (hi last) s.1.toList < 0 := fun e => hs ((endS_neg (hi last) (lo s)).1 e)
  generalize endS (hi last) s.1.toList = n at *
  have hRA := hR.fr0 ((Fr.refl (fun _ => False) w).alloc (.cells #[.string s.1, .string s.2] 41))
  have hlt := hR.lt
  have C : ∀ (w' : World), Fr (fun _ => False) (w.alloc (.cells #[.string s.1, .string s.2] 41)) w' → w'.cell? ⟨w.heap.size, 0, none⟩ = some (.string s.1) ∧ w'.cell? ⟨w.heap.size, 1, none⟩ = some (.string s.2) ∧ w'.cell? ⟨p, 0, none⟩ = some (.string last.1) ∧ w'.cell? ⟨p, 1, none⟩ = some (.string last.2) ∧ Fr (fun _ => False) (w.alloc (.cells #[.string s.1, .string s.2] 41)) w' := fun w' h =>
    have hq := hRA.fr0 h
    ⟨h.cell0 (cellNew w _ _ _ 0 rfl), h.cell0 (cellNew w _ _ _ 1 rfl), cellH hq.heap 0 rfl, cellH hq.heap 1 rfl, h⟩
  have HC := hideIt C
  have HRA := hideIt hRA
  have HFA := hideIt ((Fr.refl (fun _ => False) w).alloc (.cells #[.string s.1, .string s.2] 41))
  have hO := hideIt (fun w => outlasts_any s last w)
  have HG : Hid (grow1 last s = if decide (outl s last) = true then (last.1, s.2) else last) := hideIt (by simp [grow1])
  generalize decide (outl s last) = o at *
  clear C hRA hs hR
  cases o
  · rw [if_neg (by decide)] at HG
    go_enter Try.func68, Try.ntmps68
    go_wp2_with fail
    generalize w.alloc (.cells #[.string s.1, .string s.2] 41) = W at *
    obtain ⟨c0, c1, c2, c3, -⟩ := HC.out W (Fr.refl _ W)
    go_region_held3 (fun w' => w'.cell? ⟨w.heap.size, 0, none⟩ = some (.string s.1) ∧ w'.cell? ⟨w.heap.size, 1, none⟩ = some (.string s.2) ∧ w'.cell? ⟨p, 0, none⟩ = some (.string last.1) ∧ w'.cell? ⟨p, 1, none⟩ = some (.string last.2) ∧ Fr (fun _ => False) W w')
      (first | exact HC.out _ (by assumption) | exact HC.out _ ((Fr.refl _ _).drew) | exact HC.out _ (Fr.refl _ _))
      (first | (go_at_call 60; refine Calls.mono (hE.out _) ?_; rintro e w1 ⟨rfl, hF1⟩; have hW1 := Fr.trans ((Fr.refl (fun _ => False) W).drew) hF1 (fun _ _ e => e)))
    obtain ⟨d0, d1, d2, d3, -⟩ := HC.out w1 hW1
    have HC1 := hideIt (show ∀ w' : World, Fr (fun _ => False) w1 w' → w'.cell? ⟨w.heap.size, 0, none⟩ = some (.string s.1) ∧ w'.cell? ⟨w.heap.size, 1, none⟩ = some (.string s.2) ∧ w'.cell? ⟨p, 0, none⟩ = some (.string last.1) ∧ w'.cell? ⟨p, 1, none⟩ = some (.string last.2) ∧ Fr (fun _ => False) w1 w' from fun w' h => by
      obtain ⟨q0, q1, q2, q3, -⟩ := HC.out w' (hW1.trans h (fun _ _ e => e))
      exact ⟨q0, q1, q2, q3, h⟩)
    have HW1 := hideIt hW1
    clear hW1 hF1 c0 c1 c2 c3
    go_wp2_with fail
    go_region_held3 (fun w' => w'.cell? ⟨w.heap.size, 0, none⟩ = some (.string s.1) ∧ w'.cell? ⟨w.heap.size, 1, none⟩ = some (.string s.2) ∧ w'.cell? ⟨p, 0, none⟩ = some (.string last.1) ∧ w'.cell? ⟨p, 1, none⟩ = some (.string last.2) ∧ Fr (fun _ => False) w1 w')
      (first | exact HC1.out _ (by assumption) | exact HC1.out _ ((Fr.refl _ _).drew) | exact HC1.out _ (Fr.refl _ _))
      (first | (go_at_call 74; refine Calls.mono (hO.out _) ?_; rintro e w2 ⟨rfl, hF2⟩; have hW2 := Fr.trans ((Fr.refl (fun _ => False) w1).drew) hF2 (fun _ _ e => e)))
    have hF := HFA.out.trans (HW1.out.trans hW2 (fun _ _ e => e)) (fun _ _ e => e)
    have HFIN := hideIt (show AddPost w p ao A (grow1 last s) w2 by
      rw [HG.out]
      exact ⟨ao, cap, HRA.out.fr0 (HW1.out.trans hW2 (fun _ _ e => e)), hF.mono (fun _ e => e.elim), Or.inl rfl⟩)
    clear hF hF2 hW2
    go_wp2_with fail
    go_end0
    exact ⟨rfl, HFIN.out⟩
  · rw [if_pos rfl] at HG
    go_enter Try.func68, Try.ntmps68
    go_wp2_with fail
    generalize w.alloc (.cells #[.string s.1, .string s.2] 41) = W at *
    obtain ⟨c0, c1, c2, c3, -⟩ := HC.out W (Fr.refl _ W)
    go_region_held3 (fun w' => w'.cell? ⟨w.heap.size, 0, none⟩ = some (.string s.1) ∧ w'.cell? ⟨w.heap.size, 1, none⟩ = some (.string s.2) ∧ w'.cell? ⟨p, 0, none⟩ = some (.string last.1) ∧ w'.cell? ⟨p, 1, none⟩ = some (.string last.2) ∧ Fr (fun _ => False) W w')
      (first | exact HC.out _ (by assumption) | exact HC.out _ ((Fr.refl _ _).drew) | exact HC.out _ (Fr.refl _ _))
      (first | (go_at_call 60; refine Calls.mono (hE.out _) ?_; rintro e w1 ⟨rfl, hF1⟩; have hW1 := Fr.trans ((Fr.refl (fun _ => False) W).drew) hF1 (fun _ _ e => e)))
    obtain ⟨d0, d1, d2, d3, -⟩ := HC.out w1 hW1
    have HC1 := hideIt (show ∀ w' : World, Fr (fun _ => False) w1 w' → w'.cell? ⟨w.heap.size, 0, none⟩ = some (.string s.1) ∧ w'.cell? ⟨w.heap.size, 1, none⟩ = some (.string s.2) ∧ w'.cell? ⟨p, 0, none⟩ = some (.string last.1) ∧ w'.cell? ⟨p, 1, none⟩ = some (.string last.2) ∧ Fr (fun _ => False) w1 w' from fun w' h => by
      obtain ⟨q0, q1, q2, q3, -⟩ := HC.out w' (hW1.trans h (fun _ _ e => e))
      exact ⟨q0, q1, q2, q3, h⟩)
    have HW1 := hideIt hW1
    clear hW1 hF1 c0 c1 c2 c3
    go_wp2_with fail
    go_region_held3 (fun w' => w'.cell? ⟨w.heap.size, 0, none⟩ = some (.string s.1) ∧ w'.cell? ⟨w.heap.size, 1, none⟩ = some (.string s.2) ∧ w'.cell? ⟨p, 0, none⟩ = some (.string last.1) ∧ w'.cell? ⟨p, 1, none⟩ = some (.string last.2) ∧ Fr (fun _ => False) w1 w')
      (first | exact HC1.out _ (by assumption) | exact HC1.out _ ((Fr.refl _ _).drew) | exact HC1.out _ (Fr.refl _ _))
      (first | (go_at_call 74; refine Calls.mono (hO.out _) ?_; rintro e w2 ⟨rfl, hF2⟩; have hW2 := Fr.trans ((Fr.refl (fun _ => False) w1).drew) hF2 (fun _ _ e => e)))
    have hF := HFA.out.trans (HW1.out.trans hW2 (fun _ _ e => e)) (fun _ _ e => e)
    have hR2 := HRA.out.fr0 (HW1.out.trans hW2 (fun _ _ e => e))
    obtain ⟨g0, g1, g2, g3, -⟩ := HC1.out w2 hW2
    have z1 := frozen_of_row w2 p 1 _ _ hR2.heap
    have HFIN := hideIt (show AddPost w p ao A (grow1 last s) (w2.setCell ⟨p, 1, none⟩ (.string s.2)) by
      rw [HG.out]
      refine ⟨ao, cap, ⟨?_, ?_, hR2.apart⟩, Fr.setCell (hF.mono (fun _ e => e.elim)) (fun _ => Or.inl rfl) _, Or.inl rfl⟩
      · rw [heap_setCell_same _ p 1 _ _ _ hR2.heap]
        rfl
      · refine hR2.row.keep fun k hk hb => ?_
        have hne : k ≠ p := fun e => hR2.apart (e ▸ hb)
        rw [heap_setCell_other _ _ _ _ hne])
    clear hF hF2 hW2 hR2
    go_wp2_with fail
    go_end0
    exact ⟨rfl, HFIN.out⟩

theorem add_any (p : Nat) (last s : Sp) (ao : Option Addr) (cap : Nat) (A : List Sp) (w : World) (hR : RowAt w p last ao cap A) (hb : A.length ≤ 1099511627775) :
    Calls Try.prog 68 #[.pointer (some ⟨p, 0, none⟩), .agg #[.string s.1, .string s.2]] w fun e w' => e = .returned (.tuple #[]) ∧ AddPost w p ao (addS A last s).1 (addS A last s).2 w' := by
  unfold addS
  by_cases h : short last (lo s)
  · rw [if_pos h]
    exact add_short p last s ao cap A w hR h hb
  · rw [if_neg h]
    exact add_else p last s ao cap A w hR h

end Go.Proofs.Ytcejebelellemaa
