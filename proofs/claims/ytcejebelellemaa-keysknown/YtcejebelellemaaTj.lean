/- Spans: a row that grows. -/
import Derived.Test.YtcejebelellemaaTg
namespace Go.Proofs.Ytcejebelellemaa
open Go.RowKit Go.IntWalk
set_option linter.unusedSimpArgs false
set_option linter.unusedVariables false

/-- Spans that are joined so far: the last one, and those ahead of it. -/
structure RowAt (w : World) (p : Nat) (last : Sp) (ao : Option Addr) (cap : Nat) (A : List Sp) : Prop where
  heap : w.heap[p]? = some (.cells #[.string last.1, .string last.2, .slice ao A.length cap] 81 (0, 0))
  row : SpRow w ao cap A
  apart : ¬ blk ao p

theorem RowAt.lt {w : World} {p : Nat} {last : Sp} {ao : Option Addr} {cap : Nat} {A : List Sp} (h : RowAt w p last ao cap A) : p < w.heap.size := (Array.getElem?_eq_some_iff.1 h.heap).1

theorem RowAt.fr {S : Nat → Prop} {w w' : World} {p : Nat} {last : Sp} {ao : Option Addr} {cap : Nat} {A : List Sp} (h : RowAt w p last ao cap A) (hF : Fr S w w') (h1 : ¬ S p) (h2 : ∀ k, blk ao k → ¬ S k) : RowAt w' p last ao cap A :=
  ⟨(hF.block p h.lt h1).trans h.heap, h.row.fr hF h2, h.apart⟩

theorem RowAt.fr0 {w w' : World} {p : Nat} {last : Sp} {ao : Option Addr} {cap : Nat} {A : List Sp} (h : RowAt w p last ao cap A) (hF : Fr (fun _ => False) w w') : RowAt w' p last ao cap A := h.fr hF (fun e => e) (fun _ _ e => e)

theorem cellH {w : World} {g : Nat} {cs : Array Value} {T : TypeId} (h : w.heap[g]? = some (.cells cs T (0, 0))) (i : Nat) {v : Value} (hv : cs[i]? = some v) : w.cell? ⟨g, i, none⟩ = some v := (cell_of_row w g i _ _ _ h).trans hv

/-- What becomes of a row by another span. -/
def addS (A : List Sp) (last s : Sp) : List Sp × Sp := if short last (lo s) then (A ++ [last], s) else (A, grow1 last s)

def AddPost (w : World) (p : Nat) (ao : Option Addr) (A' : List Sp) (last' : Sp) (w' : World) : Prop :=
  ∃ ao' cap', RowAt w' p last' ao' cap' A' ∧ Fr (fun k => k = p ∨ blk ao k) w w' ∧ (ao' = ao ∨ ∀ k, blk ao' k → w.heap.size ≤ k)

set_option maxHeartbeats 1000000 in
theorem add_short (p : Nat) (last s : Sp) (ao : Option Addr) (cap : Nat) (A : List Sp) (w : World) (hR : RowAt w p last ao cap A) (hs : short last (lo s)) (hb : A.length ≤ 1099511627775) :
    Calls Try.prog 68 #[.pointer (some ⟨p, 0, none⟩), .agg #[.string s.1, .string s.2]] w fun e w' => e = .returned (.tuple #[]) ∧ AddPost w p ao (A ++ [last]) s w' := by
  have hE := hideIt (fun w => end_any last s.1 w)
  have hneg : endS (hi last) s.1.toList < 0 := (endS_neg (hi last) (lo s)).2 hs
  generalize endS (hi last) s.1.toList = n at *
  have hRA := hR.fr0 ((Fr.refl (fun _ => False) w).alloc (.cells #[.string s.1, .string s.2] 41))
  have hlt := hR.lt
  have C : ∀ (w' : World), Fr (fun _ => False) (w.alloc (.cells #[.string s.1, .string s.2] 41)) w' → w'.cell? ⟨w.heap.size, 0, none⟩ = some (.string s.1) ∧ w'.cell? ⟨w.heap.size, 1, none⟩ = some (.string s.2) ∧ w'.cell? ⟨p, 0, none⟩ = some (.string last.1) ∧ w'.cell? ⟨p, 1, none⟩ = some (.string last.2) ∧ Fr (fun _ => False) (w.alloc (.cells #[.string s.1, .string s.2] 41)) w' := fun w' h =>
    have hq := hRA.fr0 h
    ⟨h.cell0 (cellNew w _ _ _ 0 rfl), h.cell0 (cellNew w _ _ _ 1 rfl), cellH hq.heap 0 rfl, cellH hq.heap 1 rfl, h⟩
  have HC := hideIt C
  have HRA := hideIt hRA
  have HFA := hideIt ((Fr.refl (fun _ => False) w).alloc (.cells #[.string s.1, .string s.2] 41))
  have hsA : (w.alloc (.cells #[.string s.1, .string s.2] 41)).heap.size = w.heap.size + 1 := by simp
  have HBN := hideIt (fun k (e : blk ao k) => hR.row.lt e)
  clear C hRA hs hR
  go_enter Try.func68, Try.ntmps68
  go_wp2_with fail
  generalize w.alloc (.cells #[.string s.1, .string s.2] 41) = W at *
  obtain ⟨c0, c1, c2, c3, -⟩ := HC.out W (Fr.refl _ W)
  go_region_held3 (fun w' => w'.cell? ⟨w.heap.size, 0, none⟩ = some (.string s.1) ∧ w'.cell? ⟨w.heap.size, 1, none⟩ = some (.string s.2) ∧ w'.cell? ⟨p, 0, none⟩ = some (.string last.1) ∧ w'.cell? ⟨p, 1, none⟩ = some (.string last.2) ∧ Fr (fun _ => False) W w')
    (first | exact HC.out _ (by assumption) | exact HC.out _ ((Fr.refl _ _).drew) | exact HC.out _ (Fr.refl _ _))
    (first | (go_at_call 60; refine Calls.mono (hE.out _) ?_; rintro e w1 ⟨rfl, hF1⟩; have hW1 := Fr.trans ((Fr.refl (fun _ => False) W).drew) hF1 (fun _ _ e => e)))
  obtain ⟨d0, d1, d2, d3, -⟩ := HC.out w1 hW1
  have hR1 := HRA.out.fr0 hW1
  have d4 := cellH hR1.heap 2 rfl
  have f2 : w1.frozen? ⟨p, 2, none⟩ = false := frozen_of_row w1 p _ _ _ hR1.heap
  have hF2 : Fr (fun _ => False) w1 ((w1.alloc (.cells #[.string last.1, .string last.2] 41)).drew) := ((Fr.refl _ _).alloc _).drew
  have hat : SpsAt ((w1.alloc (.cells #[.string last.1, .string last.2] 41)).drew) (some ⟨w1.heap.size, 0, none⟩) [last] := (sps_one last w1).keep (Nat.le_refl _) (fun _ _ _ => rfl)
  obtain ⟨ao', cap', w3, hrun, hrow3, hF3, hao⟩ := spans_append _ ao cap A [last] (hR1.row.fr hF2 (fun _ _ e => e)) (some ⟨w1.heap.size, 0, none⟩) 1 (Or.inr hat) (by simp; omega)
  rw [List.length_singleton] at hrun
  have HR := hideIt hrun
  have hp1 := hR1.lt
  have hb3 : w3.heap[p]? = some (.cells #[.string last.1, .string last.2, .slice ao A.length cap] 81 (0, 0)) := by
    rw [hF3.block p (by simp [World.drew]; omega) hR1.apart]
    exact (hF2.block p hp1 (fun e => e)).trans hR1.heap
  have b0 := cellH hb3 0 rfl
  have b1 := cellH hb3 1 rfl
  have b2 := cellH hb3 2 rfl
  have z2 : w3.frozen? ⟨p, 2, none⟩ = false := frozen_of_row w3 p _ _ _ hb3
  have hb4 : (w3.setCell ⟨p, 2, none⟩ (.slice ao' (A.length + 1) cap')).heap[p]? = some (.cells #[.string last.1, .string last.2, .slice ao' (A.length + 1) cap'] 81 (0, 0)) := by
    rw [heap_setCell_same w3 p 2 _ _ _ hb3]
    rfl
  have HS4 := hideIt (show (w3.setCell ⟨p, 2, none⟩ (.slice ao' (A.length + 1) cap')).cell? ⟨p, 0, none⟩ = some (.string last.1) ∧ (w3.setCell ⟨p, 2, none⟩ (.slice ao' (A.length + 1) cap')).cell? ⟨p, 1, none⟩ = some (.string last.2) from ⟨cellH hb4 0 rfl, cellH hb4 1 rfl⟩)
  have HS2 := hideIt (show ((w1.alloc (.cells #[.string last.1, .string last.2] 41)).drew).cell? ⟨p, 0, none⟩ = some (.string last.1) ∧ ((w1.alloc (.cells #[.string last.1, .string last.2] 41)).drew).cell? ⟨p, 1, none⟩ = some (.string last.2) from ⟨hF2.cell0 d2, hF2.cell0 d3⟩)
  have hsz1 := hW1.size
  have hbn : ¬ blk ao w.heap.size := fun e => by
    have h1 := HRA.out.row.lt e
    have h2 := HBN.out _ e
    omega
  have hFp : Fr (fun k => k = p ∨ blk ao k) w w3 := by
    refine ((HFA.out.mono (fun _ e => e.elim)).trans (hW1.trans hF2 (fun _ _ e => e)) (fun _ _ e => e.elim)).trans hF3 (fun _ _ e => Or.inr e)
  have q0 : (w3.setCell ⟨p, 2, none⟩ (.slice ao' (A.length + 1) cap')).cell? ⟨w.heap.size, 0, none⟩ = some (.string s.1) := by
    rw [World.cell?_of_block (a := ⟨w.heap.size, 0, none⟩) (heap_setCell_other w3 ⟨p, 2, none⟩ _ _ (by show w.heap.size ≠ p; omega))]
    rw [World.cell?_of_block (a := ⟨w.heap.size, 0, none⟩) (hF3.block w.heap.size (by simp [World.drew]; omega) hbn)]
    exact hF2.cell0 d0
  have q1 : (w3.setCell ⟨p, 2, none⟩ (.slice ao' (A.length + 1) cap')).cell? ⟨w.heap.size, 1, none⟩ = some (.string s.2) := by
    rw [World.cell?_of_block (a := ⟨w.heap.size, 1, none⟩) (heap_setCell_other w3 ⟨p, 2, none⟩ _ _ (by show w.heap.size ≠ p; omega))]
    rw [World.cell?_of_block (a := ⟨w.heap.size, 1, none⟩) (hF3.block w.heap.size (by simp [World.drew]; omega) hbn)]
    exact hF2.cell0 d1
  have HQ := hideIt (And.intro q0 q1)
  have HFIN := hideIt (show AddPost w p ao (A ++ [last]) s (((w3.setCell ⟨p, 2, none⟩ (.slice ao' (A.length + 1) cap')).setCell ⟨p, 0, none⟩ (.string s.1)).setCell ⟨p, 1, none⟩ (.string s.2)) by
    have hap' : ¬ blk ao' p := by
      rcases hao with rfl | rfl
      · exact hR1.apart
      · rintro ⟨a, e1, e2⟩
        obtain rfl := Option.some.inj e1
        simp [World.drew] at e2
        omega
    refine ⟨ao', cap', ⟨?_, ?_, hap'⟩, ?_, ?_⟩
    · rw [heap_setCell_same _ p 1 _ _ _ (heap_setCell_same _ p 0 _ _ _ hb4), List.length_append]
      rfl
    · refine hrow3.keep fun k hk hb => ?_
      have hne : k ≠ p := fun e => hap' (e ▸ hb)
      rw [heap_setCell_other _ _ _ _ hne, heap_setCell_other _ _ _ _ hne, heap_setCell_other _ _ _ _ hne]
    · exact Fr.setCell (Fr.setCell (Fr.setCell hFp (fun _ => Or.inl rfl) _) (fun _ => Or.inl rfl) _) (fun _ => Or.inl rfl) _
    · rcases hao with e | e
      · exact Or.inl e
      · refine Or.inr fun k hk => ?_
        obtain ⟨a, e1, e2⟩ := hk
        rw [e] at e1
        obtain rfl := Option.some.inj e1
        simp [World.drew] at e2
        omega)
  clear hF3 hF2 hat hrun hrow3 hR1 hF1 hW1 hFp q0 q1 hao
  go_wp2_with fail
  refine wp_region_held_drew (S := fun w' => w'.cell? ⟨p, 0, none⟩ = some (.string last.1) ∧ w'.cell? ⟨p, 1, none⟩ = some (.string last.2)) (by kernel_rfl) ?_ (fun hHeld => ?_)
  · exact ⟨d2, d3⟩
  refine wpAnyH_take (i := 0) (v := ?v1) rfl (by kernel_rfl) (by kernel_rfl) (by kernel_rfl) (fun _ _ _ h => h) (Or.inl ⟨by rfl, ?hy1⟩) (by assumption) ?rest1
  case hy1 => intro w hSw; (try dsimp only at hSw); go_simp; (try with_reducible rfl)
  try simp only [Act.put, List.setIfInBounds_toArray, List.set_cons_zero, List.set_cons_succ]
  refine wpAnyH_take (i := 1) (v := ?v2) rfl (by kernel_rfl) (by kernel_rfl) (by kernel_rfl) (fun _ _ _ h => h) (Or.inl ⟨by rfl, ?hy2⟩) (by assumption) ?rest2
  case hy2 => intro w hSw; (try dsimp only at hSw); go_simp; (try with_reducible rfl)
  try simp only [Act.put, List.setIfInBounds_toArray, List.set_cons_zero, List.set_cons_succ]
  refine wpAnyH_take (i := 2) (v := ?v3) rfl (by kernel_rfl) (by kernel_rfl) (by kernel_rfl) (fun _ _ _ h => h) (Or.inl ⟨by rfl, ?hy3⟩) (by assumption) ?rest3
  case hy3 => intro w hSw; (try dsimp only at hSw); go_simp; (try with_reducible rfl)
  try simp only [Act.put, List.setIfInBounds_toArray, List.set_cons_zero, List.set_cons_succ]
  refine wpAnyH_take (i := 3) (v := ?v4) rfl (by kernel_rfl) (by kernel_rfl) (by kernel_rfl) (fun _ _ _ h => h) (Or.inl ⟨by rfl, ?hy4⟩) (by assumption) ?rest4
  case hy4 => intro w hSw; (try dsimp only at hSw); go_simp; (try with_reducible rfl)
  try simp only [Act.put, List.setIfInBounds_toArray, List.set_cons_zero, List.set_cons_succ]
  refine wpAnyH_take (i := 5) (v := ?v5) rfl (by kernel_rfl) (by kernel_rfl) (by kernel_rfl) (fun _ _ _ h => h) (Or.inl ⟨by rfl, ?hy5⟩) (by assumption) ?rest5
  case hy5 => intro w hSw; (try dsimp only at hSw); go_simp; (try with_reducible rfl)
  try simp only [Act.put, List.setIfInBounds_toArray, List.set_cons_zero, List.set_cons_succ]
  refine wpAnyH_take (i := 6) (v := ?v6) rfl (by kernel_rfl) (by kernel_rfl) (by kernel_rfl) (fun _ _ _ h => h) (Or.inl ⟨by rfl, ?hy6⟩) (by assumption) ?rest6
  case hy6 => intro w hSw; (try dsimp only at hSw); go_simp; (try with_reducible rfl)
  try simp only [Act.put, List.setIfInBounds_toArray, List.set_cons_zero, List.set_cons_succ]
  refine wpAnyH_take (i := 7) (v := ?v7) rfl (by kernel_rfl) (by kernel_rfl) (by kernel_rfl) (fun _ _ _ h => h) (Or.inl ⟨by rfl, ?hy7⟩) (by assumption) ?rest7
  case hy7 => intro w hSw; (try dsimp only at hSw); go_simp; (try with_reducible rfl)
  try simp only [Act.put, List.setIfInBounds_toArray, List.set_cons_zero, List.set_cons_succ]
  refine wpAnyH_take (i := 8) (v := ?v8) rfl (by kernel_rfl) (by kernel_rfl) (by kernel_rfl) (fun _ _ _ h => h) (Or.inl ⟨by rfl, ?hy8⟩) (by assumption) ?rest8
  case hy8 => intro w hSw; (try dsimp only at hSw); go_simp; (try with_reducible rfl)
  try simp only [Act.put, List.setIfInBounds_toArray, List.set_cons_zero, List.set_cons_succ]
  refine wpAnyH_take (i := 9) (v := ?v9) rfl (by kernel_rfl) (by kernel_rfl) (by kernel_rfl) (fun _ _ _ h => h) (Or.inl ⟨by rfl, ?hy9⟩) (by assumption) ?rest9
  case hy9 => intro w hSw; (try dsimp only at hSw); go_simp; (try with_reducible rfl)
  try simp only [Act.put, List.setIfInBounds_toArray, List.set_cons_zero, List.set_cons_succ]
  refine wpAnyH_ready (rs := [4, 10]) (by kernel_rfl) (by simp) ?_
  refine AllReadyH.cons rfl (fun K hK => ?_) ?_
  · go_simp
    refine hK.out _ _ ?_ (fun hHeld => ?_)
    · exact hHeld
    clear hK K
    try simp only [Act.put, List.setIfInBounds_toArray, List.set_cons_zero, List.set_cons_succ]
    refine wpAnyH_ready (rs := [10]) (by kernel_rfl) (by simp) ?_
    refine AllReadyH.cons rfl (fun K hK => ?_) AllReadyH.nil
    go_simp
    refine hK.out _ _ ?_ (fun hHeld => ?_)
    · exact HS2.out
    clear hK K
    try simp only [Act.put, List.setIfInBounds_toArray, List.set_cons_zero, List.set_cons_succ]
    refine wpAnyH_ready (rs := [11]) (by kernel_rfl) (by simp) ?_
    refine AllReadyH.cons rfl (fun K hK => ?_) AllReadyH.nil
    refine step_append_run rfl (.tmp 17) (.tmp 23) 33 33 rfl _ _ _ _ rfl rfl HR.out ?_
    refine hK.out _ _ ?_ (fun hHeld => ?_)
    · exact ⟨b0, b1⟩
    clear hK K
    try simp only [Act.put, List.setIfInBounds_toArray, List.set_cons_zero, List.set_cons_succ]
    refine wpAnyH_take (i := 12) (v := ?v10) rfl (by kernel_rfl) (by kernel_rfl) (by kernel_rfl) (fun _ _ _ h => h) (Or.inl ⟨by rfl, ?hy10⟩) (by assumption) ?rest10
    case hy10 => intro w hSw; (try dsimp only at hSw); go_simp; (try with_reducible rfl)
    try simp only [Act.put, List.setIfInBounds_toArray, List.set_cons_zero, List.set_cons_succ]
    refine wpAnyH_take (i := 13) (v := ?v11) rfl (by kernel_rfl) (by kernel_rfl) (by kernel_rfl) (fun _ _ _ h => h) (Or.inl ⟨by rfl, ?hy11⟩) (by assumption) ?rest11
    case hy11 => intro w hSw; (try dsimp only at hSw); go_simp; (try with_reducible rfl)
    try simp only [Act.put, List.setIfInBounds_toArray, List.set_cons_zero, List.set_cons_succ]
    refine wpAnyH_ready (rs := [14]) (by kernel_rfl) (by simp) ?_
    refine AllReadyH.cons rfl (fun K hK => ?_) AllReadyH.nil
    go_simp
    refine hK.out _ _ ?_ (fun hHeld => ?_)
    · exact HS4.out
    clear hK K
    try simp only [Act.put, List.setIfInBounds_toArray, List.set_cons_zero, List.set_cons_succ]
    refine wpAnyH_done (by kernel_rfl) ?_ _
    have b4 := cellH hb4 0 rfl
    have b5 := cellH hb4 1 rfl
    have z4 := frozen_of_row _ p 0 _ _ hb4
    have z5 := frozen_of_row _ p 1 _ _ hb4
    obtain ⟨q0, q1⟩ := HQ.out
    clear HS4 HS2 hHeld HR
    go_wp2_with fail
    go_end0
    exact ⟨rfl, HFIN.out⟩
  refine AllReadyH.cons rfl (fun K hK => ?_) ?_
  · go_simp
    refine hK.out _ _ ?_ (fun hHeld => ?_)
    · exact HS2.out
    clear hK K
    try simp only [Act.put, List.setIfInBounds_toArray, List.set_cons_zero, List.set_cons_succ]
    refine wpAnyH_ready (rs := [4]) (by kernel_rfl) (by simp) ?_
    refine AllReadyH.cons rfl (fun K hK => ?_) AllReadyH.nil
    go_simp
    refine hK.out _ _ ?_ (fun hHeld => ?_)
    · exact HS2.out
    clear hK K
    try simp only [Act.put, List.setIfInBounds_toArray, List.set_cons_zero, List.set_cons_succ]
    refine wpAnyH_ready (rs := [11]) (by kernel_rfl) (by simp) ?_
    refine AllReadyH.cons rfl (fun K hK => ?_) AllReadyH.nil
    refine step_append_run rfl (.tmp 17) (.tmp 23) 33 33 rfl _ _ _ _ rfl rfl HR.out ?_
    refine hK.out _ _ ?_ (fun hHeld => ?_)
    · exact ⟨b0, b1⟩
    clear hK K
    try simp only [Act.put, List.setIfInBounds_toArray, List.set_cons_zero, List.set_cons_succ]
    refine wpAnyH_take (i := 12) (v := ?v12) rfl (by kernel_rfl) (by kernel_rfl) (by kernel_rfl) (fun _ _ _ h => h) (Or.inl ⟨by rfl, ?hy12⟩) (by assumption) ?rest12
    case hy12 => intro w hSw; (try dsimp only at hSw); go_simp; (try with_reducible rfl)
    try simp only [Act.put, List.setIfInBounds_toArray, List.set_cons_zero, List.set_cons_succ]
    refine wpAnyH_take (i := 13) (v := ?v13) rfl (by kernel_rfl) (by kernel_rfl) (by kernel_rfl) (fun _ _ _ h => h) (Or.inl ⟨by rfl, ?hy13⟩) (by assumption) ?rest13
    case hy13 => intro w hSw; (try dsimp only at hSw); go_simp; (try with_reducible rfl)
    try simp only [Act.put, List.setIfInBounds_toArray, List.set_cons_zero, List.set_cons_succ]
    refine wpAnyH_ready (rs := [14]) (by kernel_rfl) (by simp) ?_
    refine AllReadyH.cons rfl (fun K hK => ?_) AllReadyH.nil
    go_simp
    refine hK.out _ _ ?_ (fun hHeld => ?_)
    · exact HS4.out
    clear hK K
    try simp only [Act.put, List.setIfInBounds_toArray, List.set_cons_zero, List.set_cons_succ]
    refine wpAnyH_done (by kernel_rfl) ?_ _
    have b4 := cellH hb4 0 rfl
    have b5 := cellH hb4 1 rfl
    have z4 := frozen_of_row _ p 0 _ _ hb4
    have z5 := frozen_of_row _ p 1 _ _ hb4
    obtain ⟨q0, q1⟩ := HQ.out
    clear HS4 HS2 hHeld HR
    go_wp2_with fail
    go_end0
    exact ⟨rfl, HFIN.out⟩
  exact AllReadyH.nil

end Go.Proofs.Ytcejebelellemaa
