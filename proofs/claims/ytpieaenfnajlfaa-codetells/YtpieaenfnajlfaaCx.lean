/- Code: which bytes an instruction is. -/
import Derived.Test.YtpieaenfnajlfaaCw
import Derived.Test.YtpieaenfnajlfaaCl
import Derived.Deep.RegionHeld3
namespace Go.Proofs.Ytpieaenfnajlfaa
open Go.RowKit Go.IntWalk Go.Lib
set_option linter.unusedSimpArgs false
set_option linter.unusedVariables false

theorem ctells_long (i : Ins) (h1 : 300 < i.s.size) (w : World) : Calls Try.prog 3 #[.agg (icells i)] w fun e w' => e = .returned (.bool true) ∧ Fr (fun _ => False) w w' := by
  have hd1 : decide (300 < (i.s.size : Int)) = true := by simp; omega
  clear h1
  have HA := hideIt cawake_any
  obtain ⟨op, a, b, c, n, s⟩ := i
  unfold icells
  go_enter Try.func3, Try.ntmps3
  go_wp2_with fail
  refine Calls.mono (HA.out _) ?_
  rintro e w1 ⟨rfl, hF1⟩
  have HF1 := hideIt hF1
  clear hF1 HA
  go_wp2_with fail
  go_ret
  exact ⟨rfl, ((Fr.refl _ _).alloc _).trans HF1.out (fun _ _ e => e)⟩

set_option maxRecDepth 100000 in
set_option maxHeartbeats 4000000 in
theorem ctells_short (i : Ins) (h1 : i.s.size ≤ 300) (w : World) : Calls Try.prog 3 #[.agg (icells i)] w fun e w' => e = .returned (.bool true) ∧ Fr (fun _ => False) w w' := by
  have hd1 : decide (300 < (i.s.size : Int)) = false := by simp; omega
  clear h1
  have HA := hideIt cawake_any
  have HB := hideIt (bytes_any i)
  have HV := hideIt (vbytes_any i)
  have HC := hideIt (fun w => check_any i w)
  have HVC := hideIt (fun w => by have := vcheck_any i w; rw [vchk_eq] at this; exact this)
  have HZ := hideIt (fun w => size_any i w)
  have HVZ := hideIt (fun w => vsize_any i w)
  have HI := hideIt (show ∀ (S : Nat → Prop) w1, Fr S (w.alloc (.cells (icells i) 23)) w1 → ¬ S w.heap.size → InsAt w1 w.heap.size i from fun S w1 hF hS => (hF.block w.heap.size (by simp) hS).trans (heap_new rfl))
  unfold BytesP at HB
  unfold VBytesP at HV
  generalize codeI i = cI at *
  generalize checkE i = ce at *
  obtain ⟨op, a, b, c, n, s⟩ := i
  unfold icells at *
  go_enter Try.func3, Try.ntmps3
  go_wp2_with fail
  refine Calls.mono (HB.out _) ?_
  rintro e w1 ⟨ao, cap, rfl, hfull, hF1, hnew⟩
  have HF1 := hideIt hF1
  have HQ1 := hideIt hfull
  have HN1 := hideIt (show ∀ k, blk ao k → w.heap.size < k from fun k hk => by have := hnew k hk; simp at this; omega)
  have hI := HI.out _ _ hF1 (fun e => e)
  have c0 := hI.c0
  have c1 := hI.c1
  have c2 := hI.c2
  have c3 := hI.c3
  have c4 := hI.c4
  have c5 := hI.c5
  dsimp only at c0 c1 c2 c3 c4 c5
  clear hI
  clear hF1 hfull hnew
  go_wp2_with fail
  clear c0 c1 c2 c3 c4 c5
  refine Calls.mono (HV.out _) ?_
  rintro e w2 ⟨bo, cb, rfl, hbs, hF2, hnew⟩
  have HF2 := hideIt (HF1.out.trans hF2 (fun _ _ e => e))
  have HQ2 := hideIt (HQ1.out.fr hF2 (fun _ _ e => e))
  have HL1 := hideIt (show ∀ k, blk ao k → k < w1.heap.size from fun k hk => HQ1.out.lt hk)
  have HN2 := hideIt hnew
  have HB2 := hideIt hbs
  have HS := hideIt (show ∀ w', Fr (fun _ => False) w2 w' → (w'.cell? ⟨w.heap.size, 0, none⟩ = some (.int .i64 op) ∧ w'.cell? ⟨w.heap.size, 1, none⟩ = some (.int .i64 a) ∧ w'.cell? ⟨w.heap.size, 2, none⟩ = some (.int .i64 b) ∧ w'.cell? ⟨w.heap.size, 3, none⟩ = some (.int .i64 c) ∧ w'.cell? ⟨w.heap.size, 4, none⟩ = some (.int .i64 n) ∧ w'.cell? ⟨w.heap.size, 5, none⟩ = some (.string s)) ∧ Fr (fun _ => False) w2 w' from fun w' hF => by
    have h := HI.out _ _ (HF2.out.trans hF (fun _ _ e => e)) (fun e => e)
    exact ⟨⟨h.c0, h.c1, h.c2, h.c3, h.c4, h.c5⟩, hF⟩)
  have HSM := hideIt (fun w' (hF : Fr (fun _ => False) w2 w') => by have := same_any ao bo cap cb cI cI w' (HQ2.out.bs.fr hF (fun _ _ _ e => e)) (HB2.out.fr hF (fun _ _ _ e => e)); rw [beq_self_eq_true] at this; exact this)
  clear hF2 hbs hnew
  go_wp2_with fail
  refine wp_region_held_drew (S := fun w' => (w'.cell? ⟨w.heap.size, 0, none⟩ = some (.int .i64 op) ∧ w'.cell? ⟨w.heap.size, 1, none⟩ = some (.int .i64 a) ∧ w'.cell? ⟨w.heap.size, 2, none⟩ = some (.int .i64 b) ∧ w'.cell? ⟨w.heap.size, 3, none⟩ = some (.int .i64 c) ∧ w'.cell? ⟨w.heap.size, 4, none⟩ = some (.int .i64 n) ∧ w'.cell? ⟨w.heap.size, 5, none⟩ = some (.string s)) ∧ Fr (fun _ => False) w2 w') (by kernel_rfl) ?_ (fun hHeld => ?_)
  · exact HS.out _ (Fr.refl _ _).drew
  refine wpAnyH_take (i := 0) (v := ?v1) rfl (by kernel_rfl) (by kernel_rfl) (by kernel_rfl) (fun _ _ _ h => h) (Or.inl ⟨by kernel_rfl, ?hy1⟩) (by assumption) ?rest1
  case hy1 => intro w hSw; (try dsimp only at hSw); go_simp; (try with_reducible rfl)
  try simp only [Act.put, List.setIfInBounds_toArray, List.set_cons_zero, List.set_cons_succ]
  refine wpAnyH_take (i := 1) (v := ?v2) rfl (by kernel_rfl) (by kernel_rfl) (by kernel_rfl) (fun _ _ _ h => h) (Or.inl ⟨by kernel_rfl, ?hy2⟩) (by assumption) ?rest2
  case hy2 => intro w hSw; (try dsimp only at hSw); go_simp; (try with_reducible rfl)
  try simp only [Act.put, List.setIfInBounds_toArray, List.set_cons_zero, List.set_cons_succ]
  refine wpAnyH_ready (rs := [2]) (by kernel_rfl) (by simp) ?_
  refine AllReadyH.cons rfl (fun K hK => ?_) AllReadyH.nil
  go_simp
  refine Calls.mono (HSM.out _ hHeld.2) ?_
  rintro e w11 ⟨rfl, rfl⟩
  refine hK.out _ _ ?_ (fun hHeld => ?_)
  · exact hHeld
  clear hK K
  try simp only [Act.put, List.setIfInBounds_toArray, List.set_cons_zero, List.set_cons_succ]
  refine wpAnyH_take (i := 3) (v := ?v3) rfl (by kernel_rfl) (by kernel_rfl) (by kernel_rfl) (fun _ _ _ h => h) (Or.inl ⟨by kernel_rfl, ?hy3⟩) (by assumption) ?rest3
  case hy3 => intro w hSw; (try dsimp only at hSw); go_simp; (try with_reducible rfl)
  try simp only [Act.put, List.setIfInBounds_toArray, List.set_cons_zero, List.set_cons_succ]
  refine wpAnyH_take (i := 4) (v := ?v4) rfl (by kernel_rfl) (by kernel_rfl) (by kernel_rfl) (fun _ _ _ h => h) (Or.inl ⟨by kernel_rfl, ?hy4⟩) (by assumption) ?rest4
  case hy4 => intro w hSw; (try dsimp only at hSw); go_simp; (try with_reducible rfl)
  try simp only [Act.put, List.setIfInBounds_toArray, List.set_cons_zero, List.set_cons_succ]
  refine wpAnyH_take (i := 5) (v := ?v5) rfl (by kernel_rfl) (by kernel_rfl) (by kernel_rfl) (fun _ _ _ h => h) (Or.inl ⟨by kernel_rfl, ?hy5⟩) (by assumption) ?rest5
  case hy5 => intro w hSw; (try dsimp only at hSw); go_simp; (try with_reducible rfl)
  try simp only [Act.put, List.setIfInBounds_toArray, List.set_cons_zero, List.set_cons_succ]
  refine wpAnyH_take (i := 6) (v := ?v6) rfl (by kernel_rfl) (by kernel_rfl) (by kernel_rfl) (fun _ _ _ h => h) (Or.inl ⟨by kernel_rfl, ?hy6⟩) (by assumption) ?rest6
  case hy6 => intro w hSw; (try dsimp only at hSw); go_simp; (try with_reducible rfl)
  try simp only [Act.put, List.setIfInBounds_toArray, List.set_cons_zero, List.set_cons_succ]
  refine wpAnyH_take (i := 7) (v := ?v7) rfl (by kernel_rfl) (by kernel_rfl) (by kernel_rfl) (fun _ _ _ h => h) (Or.inl ⟨by kernel_rfl, ?hy7⟩) (by assumption) ?rest7
  case hy7 => intro w hSw; (try dsimp only at hSw); go_simp; (try with_reducible rfl)
  try simp only [Act.put, List.setIfInBounds_toArray, List.set_cons_zero, List.set_cons_succ]
  refine wpAnyH_take (i := 8) (v := ?v8) rfl (by kernel_rfl) (by kernel_rfl) (by kernel_rfl) (fun _ _ _ h => h) (Or.inl ⟨by kernel_rfl, ?hy8⟩) (by assumption) ?rest8
  case hy8 => intro w hSw; (try dsimp only at hSw); go_simp; (try with_reducible rfl)
  try simp only [Act.put, List.setIfInBounds_toArray, List.set_cons_zero, List.set_cons_succ]
  refine wpAnyH_take (i := 9) (v := ?v9) rfl (by kernel_rfl) (by kernel_rfl) (by kernel_rfl) (fun _ _ _ h => h) (Or.inl ⟨by kernel_rfl, ?hy9⟩) (by assumption) ?rest9
  case hy9 => intro w hSw; (try dsimp only at hSw); go_simp; (try with_reducible rfl)
  try simp only [Act.put, List.setIfInBounds_toArray, List.set_cons_zero, List.set_cons_succ]
  refine wpAnyH_take (i := 11) (v := ?v10) rfl (by kernel_rfl) (by kernel_rfl) (by kernel_rfl) (fun _ _ _ h => h) (Or.inl ⟨by kernel_rfl, ?hy10⟩) (by assumption) ?rest10
  case hy10 => intro w hSw; (try dsimp only at hSw); go_simp; (try with_reducible rfl)
  try simp only [Act.put, List.setIfInBounds_toArray, List.set_cons_zero, List.set_cons_succ]
  refine wpAnyH_ready (rs := [10]) (by kernel_rfl) (by simp) ?_
  refine AllReadyH.cons rfl (fun K hK => ?_) AllReadyH.nil
  go_simp
  refine Calls.mono (HC.out _) ?_
  rintro e w12 ⟨rfl, hX12⟩
  have hW : Fr (fun _ => False) w2 w12 := hHeld.2.trans hX12 (fun _ _ e => e)
  clear hX12
  refine hK.out _ _ ?_ (fun hHeld => ?_)
  · exact HS.out _ hW
  clear hK K
  try simp only [Act.put, List.setIfInBounds_toArray, List.set_cons_zero, List.set_cons_succ]
  refine wpAnyH_ready (rs := [12]) (by kernel_rfl) (by simp) ?_
  refine AllReadyH.cons rfl (fun K hK => ?_) AllReadyH.nil
  go_simp
  refine Calls.mono (HVC.out _) ?_
  rintro e w13 ⟨rfl, hX13⟩
  have hW : Fr (fun _ => False) w2 w13 := hHeld.2.trans hX13 (fun _ _ e => e)
  clear hX13
  refine hK.out _ _ ?_ (fun hHeld => ?_)
  · exact HS.out _ hW
  clear hK K
  try simp only [Act.put, List.setIfInBounds_toArray, List.set_cons_zero, List.set_cons_succ]
  refine wpAnyH_take (i := 13) (v := ?v11) rfl (by kernel_rfl) (by kernel_rfl) (by kernel_rfl) (fun _ _ _ h => h) (Or.inl ⟨by kernel_rfl, ?hy11⟩) (by assumption) ?rest11
  case hy11 => intro w hSw; (try dsimp only at hSw); go_simp; (try with_reducible rfl)
  try simp only [Act.put, List.setIfInBounds_toArray, List.set_cons_zero, List.set_cons_succ]
  refine wpAnyH_take (i := 14) (v := ?v12) rfl (by kernel_rfl) (by kernel_rfl) (by kernel_rfl) (fun _ _ _ h => h) (Or.inl ⟨by kernel_rfl, ?hy12⟩) (by assumption) ?rest12
  case hy12 => intro w hSw; (try dsimp only at hSw); go_simp; (try with_reducible rfl)
  try simp only [Act.put, List.setIfInBounds_toArray, List.set_cons_zero, List.set_cons_succ]
  refine wpAnyH_take (i := 15) (v := ?v13) rfl (by kernel_rfl) (by kernel_rfl) (by kernel_rfl) (fun _ _ _ h => h) (Or.inl ⟨by kernel_rfl, ?hy13⟩) (by assumption) ?rest13
  case hy13 => intro w hSw; (try dsimp only at hSw); go_simp; (try with_reducible rfl)
  try simp only [Act.put, List.setIfInBounds_toArray, List.set_cons_zero, List.set_cons_succ]
  refine wpAnyH_take (i := 16) (v := ?v14) rfl (by kernel_rfl) (by kernel_rfl) (by kernel_rfl) (fun _ _ _ h => h) (Or.inl ⟨by kernel_rfl, ?hy14⟩) (by assumption) ?rest14
  case hy14 => intro w hSw; (try dsimp only at hSw); go_simp; (try with_reducible rfl)
  try simp only [Act.put, List.setIfInBounds_toArray, List.set_cons_zero, List.set_cons_succ]
  refine wpAnyH_take (i := 18) (v := ?v15) rfl (by kernel_rfl) (by kernel_rfl) (by kernel_rfl) (fun _ _ _ h => h) (Or.inl ⟨by kernel_rfl, ?hy15⟩) (by assumption) ?rest15
  case hy15 => intro w hSw; (try dsimp only at hSw); go_simp; (try with_reducible rfl)
  try simp only [Act.put, List.setIfInBounds_toArray, List.set_cons_zero, List.set_cons_succ]
  refine wpAnyH_ready (rs := [17]) (by kernel_rfl) (by simp) ?_
  refine AllReadyH.cons rfl (fun K hK => ?_) AllReadyH.nil
  go_simp
  refine Calls.mono (HZ.out _) ?_
  rintro e w14 ⟨rfl, hX14⟩
  have hW : Fr (fun _ => False) w2 w14 := hHeld.2.trans hX14 (fun _ _ e => e)
  clear hX14
  refine hK.out _ _ ?_ (fun hHeld => ?_)
  · exact HS.out _ hW
  clear hK K
  try simp only [Act.put, List.setIfInBounds_toArray, List.set_cons_zero, List.set_cons_succ]
  refine wpAnyH_ready (rs := [19]) (by kernel_rfl) (by simp) ?_
  refine AllReadyH.cons rfl (fun K hK => ?_) AllReadyH.nil
  go_simp
  refine Calls.mono (HVZ.out _) ?_
  rintro e w15 ⟨rfl, hX15⟩
  have hW : Fr (fun _ => False) w2 w15 := hHeld.2.trans hX15 (fun _ _ e => e)
  clear hX15
  refine hK.out _ _ ?_ (fun hHeld => ?_)
  · exact HS.out _ hW
  clear hK K
  try simp only [Act.put, List.setIfInBounds_toArray, List.set_cons_zero, List.set_cons_succ]
  refine wpAnyH_take (i := 20) (v := ?v16) rfl (by kernel_rfl) (by kernel_rfl) (by kernel_rfl) (fun _ _ _ h => h) (Or.inl ⟨by kernel_rfl, ?hy16⟩) (by assumption) ?rest16
  case hy16 => intro w hSw; (try dsimp only at hSw); go_simp; (try with_reducible rfl)
  try simp only [Act.put, List.setIfInBounds_toArray, List.set_cons_zero, List.set_cons_succ]
  refine wpAnyH_take (i := 21) (v := ?v17) rfl (by kernel_rfl) (by kernel_rfl) (by kernel_rfl) (fun _ _ _ h => h) (Or.inl ⟨by kernel_rfl, ?hy17⟩) (by assumption) ?rest17
  case hy17 => intro w hSw; (try dsimp only at hSw); go_simp; (try with_reducible rfl)
  try simp only [Act.put, List.setIfInBounds_toArray, List.set_cons_zero, List.set_cons_succ]
  refine wpAnyH_take (i := 22) (v := ?v18) rfl (by kernel_rfl) (by kernel_rfl) (by kernel_rfl) (fun _ _ _ h => h) (Or.inl ⟨by kernel_rfl, ?hy18⟩) (by assumption) ?rest18
  case hy18 => intro w hSw; (try dsimp only at hSw); go_simp; (try with_reducible rfl)
  try simp only [Act.put, List.setIfInBounds_toArray, List.set_cons_zero, List.set_cons_succ]
  refine wpAnyH_done (by kernel_rfl) ?_ _
  have HW := hideIt hHeld.2
  clear hHeld
  go_wp2_with fail
  refine Calls.mono (over_full ao cap cI _ (HQ2.out.fr HW.out (fun _ _ e => e))) ?_
  rintro e w8 ⟨rfl, hF8⟩
  have HF8 := hideIt ((HF2.out.trans HW.out (fun _ _ e => e)).mono (S' := blk ao) (fun _ e => e.elim) |>.trans hF8 (fun _ _ e => e))
  have HB8 := hideIt ((HB2.out.fr HW.out (fun _ _ _ e => e)).fr hF8 (fun k _ hk e => by have := HN2.out k hk; have := HL1.out k e; omega))
  clear hF8
  have hI := HI.out _ _ HF8.out (fun e => by have := HN1.out _ e; omega)
  have c0 := hI.c0
  have c1 := hI.c1
  have c2 := hI.c2
  have c3 := hI.c3
  have c4 := hI.c4
  have c5 := hI.c5
  dsimp only at c0 c1 c2 c3 c4 c5
  clear hI
  go_wp2_with fail
  clear c0 c1 c2 c3 c4 c5
  refine Calls.mono (HB.out _) ?_
  rintro e w9 ⟨ao2, cap2, rfl, hfull, hF9, _⟩
  have HS9 := hideIt (by have := same_any ao2 bo cap2 cb cI cI w9 hfull.bs (HB8.out.fr hF9 (fun _ _ _ e => e)); rw [beq_self_eq_true] at this; exact this)
  have HF9 := hideIt (HF8.out.trans hF9 (fun _ _ e => e.elim))
  clear hfull hF9
  go_wp2_with fail
  refine Calls.mono HS9.out ?_
  rintro e w10 ⟨rfl, rfl⟩
  go_wp2_with fail
  refine Calls.mono (HA.out _) ?_
  rintro e w11 ⟨rfl, hF11⟩
  have HF11 := hideIt (HF9.out.trans hF11 (fun _ _ e => e.elim))
  clear hF11
  go_wp2_with fail
  go_ret
  exact ⟨rfl, ((Fr.refl (fun _ => False) w).alloc _).trans HF11.out (fun k hk e => by have := HN1.out k e; omega)⟩

theorem ctells_any (i : Ins) (w : World) : Calls Try.prog 3 #[.agg (icells i)] w fun e w' => e = .returned (.bool true) ∧ Fr (fun _ => False) w w' := by
  by_cases h1 : 300 < i.s.size
  · exact ctells_long i h1 w
  · exact ctells_short i (by omega) w

end Go.Proofs.Ytpieaenfnajlfaa
