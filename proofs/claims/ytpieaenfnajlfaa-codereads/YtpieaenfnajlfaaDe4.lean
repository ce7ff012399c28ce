/- Code: the document's Read: letters ABCN, letters AN. -/
import Derived.Test.YtpieaenfnajlfaaDe
namespace Go.Proofs.Ytpieaenfnajlfaa
open Go.RowKit Go.IntWalk Go.Lib
set_option linter.unusedSimpArgs false
set_option linter.unusedVariables false

set_option maxRecDepth 100000 in
set_option maxHeartbeats 4000000 in
theorem vread_ABCN (ao : Option Addr) (cap : Nat) (bs : List UInt8) (a : Nat) (w : World) (hB : BsAt w ao bs) (hb : bs.length ≤ 140737488355328) (hcl : bs.length ≤ cap) (hcm : cap ≤ maxLen) (hnb : ∀ k, blk ao k → k < w.heap.size) (ha : a ≤ bs.length) (v : Int) (va : Int) (vb : Int) (vc : Int) (vn : Int) (mx : Int) (s0 s1 s2 s3 s4 : Nat × Int × Int) (h0 : rInt bs 1 15 (a, 0, 0) = (v, s0)) (h1 : rInt bs 0 7 s0 = (va, s1)) (h2 : rInt bs 0 7 s1 = (vb, s2)) (h3 : rInt bs 0 7 s2 = (vc, s3)) (h4 : rInt bs 1 mx s3 = (vn, s4)) (hmx : mostZ v = mx) (ht : hasT v = (true, true, true, true, false)) :
    Calls Try.prog 19 #[.slice ao bs.length cap, .int .i64 (a : Int)] w fun e w' => e = .returned (readV (endR ⟨v, va, vb, vc, vn, ⟨#[]⟩⟩ s4)) ∧ Fr (fun _ => False) w w' := by
  have hd1 : decide ((a : Int) < 0) = false := decide_eq_false (by omega)
  have hd2 : decide ((bs.length : Int) < (a : Int)) = false := decide_eq_false (by omega)
  have HH := hideIt (fun w => by have := vhas_any v w; rw [ht] at this; exact this)
  unfold hasV at HH
  have HM := hideIt (fun w => by have := vmost_any v w; rw [hmx] at this; exact this)
  have HY0 := hideIt (show YOk ((((w.alloc (.cells (icells zeroI) 23)).alloc (.cells #[.int .i64 0, .int .i64 0] 36))).alloc (.cells #[.slice ao bs.length cap, .int .i64 (a : Int), .int .i64 0, .int .i64 0] 73)) (w.heap.size + 2) ao cap bs (a, 0, 0) from
    ⟨⟨heap_new (by simp), hB.fr ((((Fr.refl (fun _ => False) w).alloc _).alloc _).alloc _) (fun _ _ _ e => e)⟩, fun e => by have := hnb _ e; omega, ha⟩)
  have HNB := hideIt hnb
  have HCM := hideIt hcm
  clear hB ht hnb hcm hmx
  go_enter Try.func19, Try.ntmps19
  go_wp2_with fail
  refine Calls.mono (yint_any (w.heap.size + 2) ao cap bs (a, 0, 0) 1 15 _ HY0.out hb) ?_
  rw [h0]
  rintro e w2 ⟨rfl, hy, hF⟩
  have hFa : Fr (fun _ => False) w w2 := ((((Fr.refl (fun _ => False) w).alloc _).alloc _).alloc _).trans hF (fun k hk e => by omega)
  have hsz : w.heap.size + 2 < w2.heap.size := hy.1.lt
  have hF3 : Fr (fun _ => False) w2 (w2.alloc (.cells (icells ⟨v, 0, 0, 0, 0, ⟨#[]⟩⟩) 23)) := (Fr.refl _ _).alloc _
  have HR0 := hideIt (show RS w (w2.alloc (.cells (icells ⟨v, 0, 0, 0, 0, ⟨#[]⟩⟩) 23)) w2.heap.size ao cap bs s0 ⟨v, 0, 0, 0, 0, ⟨#[]⟩⟩ from
    ⟨⟨hy.1.fr hF3 (fun e => e) (fun _ _ _ e => e), hy.2⟩, heap_new rfl, heap_old ((hF.block w.heap.size (by simp; omega) (by omega)).trans (heap_old (heap_old (heap_new rfl)))), heap_old ((hF.block (w.heap.size + 1) (by simp) (by omega)).trans (heap_old (heap_new (by simp)))), hFa.trans hF3 (fun _ _ e => e), hsz, HNB.out⟩)
  clear hy hF hFa hF3 HY0 HNB h0 ha
  go_wp2_with fail
  refine Calls.mono (HH.out _) ?_
  rintro e wx ⟨rfl, rfl⟩
  clear HH
  unfold icells at HR0
  go_wp2_with fail
  refine Calls.mono (rs_int HR0.out hb 0 7 va h1) ?_
  rintro e w10 ⟨rfl, hR⟩
  have hc := hR.j.c1
  have hzf := hR.j.fz 1
  have hlt := hR.j.lt
  dsimp only [Ins.put] at hc
  have HR1 := hideIt (hR.putN 1 (by decide) (by decide) va)
  clear hR HR0
  go_wp2_with fail
  clear hc hzf hlt
  refine Calls.mono (rs_int HR1.out hb 0 7 vb h2) ?_
  rintro e w11 ⟨rfl, hR⟩
  have hc := hR.j.c2
  have hzf := hR.j.fz 2
  have hlt := hR.j.lt
  dsimp only [Ins.put] at hc
  have HR2 := hideIt (hR.putN 2 (by decide) (by decide) vb)
  clear hR HR1
  go_wp2_with fail
  clear hc hzf hlt
  refine Calls.mono (rs_int HR2.out hb 0 7 vc h3) ?_
  rintro e w12 ⟨rfl, hR⟩
  have hc := hR.j.c3
  have hzf := hR.j.fz 3
  have hlt := hR.j.lt
  dsimp only [Ins.put] at hc
  have HR3 := hideIt (hR.putN 3 (by decide) (by decide) vc)
  clear hR HR2
  have c0 := HR3.out.j.c0
  dsimp only [Ins.put] at c0
  go_wp2_with fail
  clear hc hzf hlt
  refine Calls.mono (HM.out _) ?_
  rintro e wx ⟨rfl, rfl⟩
  go_wp2_with fail
  refine Calls.mono (rs_int HR3.out hb 1 mx vn h4) ?_
  rintro e w13 ⟨rfl, hR⟩
  have hc := hR.j.c4
  have hzf := hR.j.fz 4
  have hlt := hR.j.lt
  dsimp only [Ins.put] at hc
  have HR4 := hideIt (hR.putN 4 (by decide) (by decide) vn)
  clear hR HR3
  obtain ⟨pl, er, ea⟩ := s4
  have c2 := HR4.out.y.1.c2
  dsimp only at c2
  by_cases hz : er = 0
  · subst hz
    have HE := hideIt (show endR ⟨v, va, vb, vc, vn, ⟨#[]⟩⟩ (pl, 0, ea) = (⟨v, va, vb, vc, vn, ⟨#[]⟩⟩, (pl : Int), 0, 0) from if_pos rfl)
    have HS := hideIt HR4.out.held
    have HA8h := hideIt HR4.out.adrew
    have HF8h := hideIt HR4.out.fdrew
    have HFL := hideIt HR4.out.flt
    have HFRw := hideIt HR4.out.frdrew
    go_wp2_with fail
    refine wp_region_held_drew (S := fun w0 => InsAt w0 w2.heap.size ⟨v, va, vb, vc, vn, ⟨#[]⟩⟩ ∧ w0.cell? ⟨w.heap.size + 2, 1, none⟩ = some (.int .i64 (pl : Int)) ∧ w0.cell? ⟨w.heap.size + 2, 2, none⟩ = some (.int .i64 0) ∧ w0.cell? ⟨w.heap.size + 2, 3, none⟩ = some (.int .i64 ea)) (by kernel_rfl) ?_ (fun hHeld => ?_)
    · exact HS.out _ (Fr.refl _ _).drew
    refine wpAnyH_take (i := 0) (v := ?v379) rfl (by kernel_rfl) (by kernel_rfl) (by kernel_rfl) (fun _ _ _ h => h) (Or.inl ⟨by rfl, ?hy379⟩) (by assumption) ?rest379
    case hy379 => intro w hSw; (try dsimp only at hSw); obtain ⟨hSI, hS1, hS2, hS3⟩ := hSw; have c0 := hSI.c0; have c1 := hSI.c1; have c2 := hSI.c2; have c3 := hSI.c3; have c4 := hSI.c4; have c5 := hSI.c5; go_simp; (try with_reducible rfl)
    try simp only [Act.put, List.getElem_toArray, List.getElem_cons_zero, List.getElem_cons_succ, List.setIfInBounds_toArray, List.set_cons_zero, List.set_cons_succ]
    refine wpAnyH_take (i := 1) (v := ?v380) rfl (by kernel_rfl) (by kernel_rfl) (by kernel_rfl) (fun _ _ _ h => h) (Or.inl ⟨by rfl, ?hy380⟩) (by assumption) ?rest380
    case hy380 => intro w hSw; (try dsimp only at hSw); go_simp; (try with_reducible rfl)
    try simp only [Act.put, List.getElem_toArray, List.getElem_cons_zero, List.getElem_cons_succ, List.setIfInBounds_toArray, List.set_cons_zero, List.set_cons_succ]
    refine wpAnyH_take (i := 2) (v := ?v381) rfl (by kernel_rfl) (by kernel_rfl) (by kernel_rfl) (fun _ _ _ h => h) (Or.inl ⟨by rfl, ?hy381⟩) (by assumption) ?rest381
    case hy381 => intro w hSw; (try dsimp only at hSw); go_simp; (try with_reducible rfl)
    try simp only [Act.put, List.getElem_toArray, List.getElem_cons_zero, List.getElem_cons_succ, List.setIfInBounds_toArray, List.set_cons_zero, List.set_cons_succ]
    refine wpAnyH_take (i := 3) (v := ?v382) rfl (by kernel_rfl) (by kernel_rfl) (by kernel_rfl) (fun _ _ _ h => h) (Or.inl ⟨by rfl, ?hy382⟩) (by assumption) ?rest382
    case hy382 => intro w hSw; (try dsimp only at hSw); go_simp; (try with_reducible rfl)
    try simp only [Act.put, List.getElem_toArray, List.getElem_cons_zero, List.getElem_cons_succ, List.setIfInBounds_toArray, List.set_cons_zero, List.set_cons_succ]
    refine wpAnyH_take (i := 4) (v := ?v383) rfl (by kernel_rfl) (by kernel_rfl) (by kernel_rfl) (fun _ _ _ h => h) (Or.inl ⟨by rfl, ?hy383⟩) (by assumption) ?rest383
    case hy383 => intro w hSw; (try dsimp only at hSw); go_simp; (try with_reducible rfl)
    try simp only [Act.put, List.getElem_toArray, List.getElem_cons_zero, List.getElem_cons_succ, List.setIfInBounds_toArray, List.set_cons_zero, List.set_cons_succ]
    refine wpAnyH_take (i := 5) (v := ?v384) rfl (by kernel_rfl) (by kernel_rfl) (by kernel_rfl) (fun _ _ _ h => h) (Or.inl ⟨by rfl, ?hy384⟩) (by assumption) ?rest384
    case hy384 => intro w hSw; (try dsimp only at hSw); go_simp; (try with_reducible rfl)
    try simp only [Act.put, List.getElem_toArray, List.getElem_cons_zero, List.getElem_cons_succ, List.setIfInBounds_toArray, List.set_cons_zero, List.set_cons_succ]
    refine wpAnyH_ready (rs := [6]) (by kernel_rfl) (by simp) ?_
    refine AllReadyH.cons rfl (fun K hK => ?_) AllReadyH.nil
    rw [if_pos (by rfl)]
    refine wp_store_mid 23 _ _ rfl w.heap.size 0 (icells ⟨v, va, vb, vc, vn, ⟨#[]⟩⟩) rfl rfl (there_row HA8h.out _ (Nat.le_refl _)) (by kernel_rfl) (icells_one _) ?_
    obtain ⟨hst, hfr⟩ := store_over (V := (icells ⟨v, va, vb, vc, vn, ⟨#[]⟩⟩)) HA8h.out (by rfl)
    have HA10 := hideIt hst
    have HFr10 := hideIt (hfr.mono (S' := fun k => k = w.heap.size ∨ k = w.heap.size + 1) (fun _ e => Or.inl e))
    have HG10 := hideIt ((hfr.block (w.heap.size + 1) HFL.out (by omega)).trans HF8h.out)
    clear hst hfr
    generalize hW10 : World.setCells _ w.heap.size 0 _ = W10 at *
    clear hW10
    refine hK.out _ _ ?_ (fun hHeld => ?_)
    · exact HS.out _ ((Fr.refl _ _).drew.trans HFr10.out (fun _ _ e => e))
    clear hK K
    try simp only [Act.put, List.getElem_toArray, List.getElem_cons_zero, List.getElem_cons_succ, List.setIfInBounds_toArray, List.set_cons_zero, List.set_cons_succ]
    refine wpAnyH_take (i := 7) (v := ?v385) rfl (by kernel_rfl) (by kernel_rfl) (by kernel_rfl) (fun _ _ _ h => h) (Or.inl ⟨by rfl, ?hy385⟩) (by assumption) ?rest385
    case hy385 => intro w hSw; (try dsimp only at hSw); go_simp; (try with_reducible rfl)
    try simp only [Act.put, List.getElem_toArray, List.getElem_cons_zero, List.getElem_cons_succ, List.setIfInBounds_toArray, List.set_cons_zero, List.set_cons_succ]
    refine wpAnyH_ready (rs := [8]) (by kernel_rfl) (by simp) ?_
    refine AllReadyH.cons rfl (fun K hK => ?_) AllReadyH.nil
    rw [if_pos (by rfl)]
    refine wp_store_mid 36 _ _ rfl (w.heap.size + 1) 0 #[.int .i64 0, .int .i64 0] rfl rfl (there_row HG10.out _ (Nat.le_refl _)) (by kernel_rfl) (fault_one _ _) ?_
    obtain ⟨hst, hfr⟩ := store_over (V := #[.int .i64 0, .int .i64 0]) HG10.out (by rfl)
    have HG11 := hideIt hst
    have HFr11 := hideIt (HFr10.out.trans hfr (fun _ _ e => Or.inr e))
    have HA11 := hideIt ((hfr.block w.heap.size (Array.getElem?_eq_some_iff.1 HA10.out).1 (by omega)).trans HA10.out)
    clear hst hfr
    generalize hW11 : World.setCells _ (w.heap.size + 1) 0 _ = W11 at *
    clear hW11
    refine hK.out _ _ ?_ (fun hHeld => ?_)
    · exact HS.out _ ((Fr.refl _ _).drew.trans HFr11.out (fun _ _ e => e))
    clear hK K
    try simp only [Act.put, List.getElem_toArray, List.getElem_cons_zero, List.getElem_cons_succ, List.setIfInBounds_toArray, List.set_cons_zero, List.set_cons_succ]
    refine wpAnyH_done (by kernel_rfl) ?_ _
    go_wp2_with fail
    have hA0 := cellOfHeap HA11.out 0 rfl
    have hA1 := cellOfHeap HA11.out 1 rfl
    have hA2 := cellOfHeap HA11.out 2 rfl
    have hA3 := cellOfHeap HA11.out 3 rfl
    have hA4 := cellOfHeap HA11.out 4 rfl
    have hA5 := cellOfHeap HA11.out 5 rfl
    have hF0 := cellOfHeap HG11.out 0 rfl
    have hF1 := cellOfHeap HG11.out 1 rfl
    refine bodyPost_ret (v := readV (⟨v, va, vb, vc, vn, ⟨#[]⟩⟩, (pl : Int), 0, 0)) (by simp [results, Try.results19, go_sem, readV, icells, zeroI, hA0, hA1, hA2, hA3, hA4, hA5, hF0, hF1]) rfl ⟨by rw [HE.out], ?_⟩
    exact HFRw.out.trans HFr11.out (fun k hk e => by omega)
  · have HE := hideIt (show endR ⟨v, va, vb, vc, vn, ⟨#[]⟩⟩ (pl, er, ea) = (zeroI, 0, er, ea) from if_neg hz)
    have hzb : (er != 0) = true := by simpa using hz
    have HS := hideIt HR4.out.held
    have HA8h := hideIt HR4.out.adrew
    have HF8h := hideIt HR4.out.fdrew
    have HFL := hideIt HR4.out.flt
    have HFRw := hideIt HR4.out.frdrew
    go_wp2_with fail
    refine wp_region_held_drew (S := fun w0 => InsAt w0 w2.heap.size ⟨v, va, vb, vc, vn, ⟨#[]⟩⟩ ∧ w0.cell? ⟨w.heap.size + 2, 1, none⟩ = some (.int .i64 (pl : Int)) ∧ w0.cell? ⟨w.heap.size + 2, 2, none⟩ = some (.int .i64 er) ∧ w0.cell? ⟨w.heap.size + 2, 3, none⟩ = some (.int .i64 ea)) (by kernel_rfl) ?_ (fun hHeld => ?_)
    · exact HS.out _ (Fr.refl _ _).drew
    refine wpAnyH_take (i := 0) (v := ?v386) rfl (by kernel_rfl) (by kernel_rfl) (by kernel_rfl) (fun _ _ _ h => h) (Or.inl ⟨by rfl, ?hy386⟩) (by assumption) ?rest386
    case hy386 => intro w hSw; (try dsimp only at hSw); go_simp; (try with_reducible rfl)
    try simp only [Act.put, List.getElem_toArray, List.getElem_cons_zero, List.getElem_cons_succ, List.setIfInBounds_toArray, List.set_cons_zero, List.set_cons_succ]
    refine wpAnyH_take (i := 1) (v := ?v387) rfl (by kernel_rfl) (by kernel_rfl) (by kernel_rfl) (fun _ _ _ h => h) (Or.inl ⟨by rfl, ?hy387⟩) (by assumption) ?rest387
    case hy387 => intro w hSw; (try dsimp only at hSw); go_simp; (try with_reducible rfl)
    try simp only [Act.put, List.getElem_toArray, List.getElem_cons_zero, List.getElem_cons_succ, List.setIfInBounds_toArray, List.set_cons_zero, List.set_cons_succ]
    refine wpAnyH_take (i := 2) (v := ?v388) rfl (by kernel_rfl) (by kernel_rfl) (by kernel_rfl) (fun _ _ _ h => h) (Or.inl ⟨by rfl, ?hy388⟩) (by assumption) ?rest388
    case hy388 => intro w hSw; (try dsimp only at hSw); go_simp; (try with_reducible rfl)
    try simp only [Act.put, List.getElem_toArray, List.getElem_cons_zero, List.getElem_cons_succ, List.setIfInBounds_toArray, List.set_cons_zero, List.set_cons_succ]
    refine wpAnyH_take (i := 3) (v := ?v389) rfl (by kernel_rfl) (by kernel_rfl) (by kernel_rfl) (fun _ _ _ h => h) (Or.inl ⟨by rfl, ?hy389⟩) (by assumption) ?rest389
    case hy389 => intro w hSw; (try dsimp only at hSw); go_simp; (try with_reducible rfl)
    try simp only [Act.put, List.getElem_toArray, List.getElem_cons_zero, List.getElem_cons_succ, List.setIfInBounds_toArray, List.set_cons_zero, List.set_cons_succ]
    refine wpAnyH_take (i := 4) (v := ?v390) rfl (by kernel_rfl) (by kernel_rfl) (by kernel_rfl) (fun _ _ _ h => h) (Or.inl ⟨by rfl, ?hy390⟩) (by assumption) ?rest390
    case hy390 => intro w hSw; (try dsimp only at hSw); go_simp; (try with_reducible rfl)
    try simp only [Act.put, List.getElem_toArray, List.getElem_cons_zero, List.getElem_cons_succ, List.setIfInBounds_toArray, List.set_cons_zero, List.set_cons_succ]
    refine wpAnyH_ready (rs := [5]) (by kernel_rfl) (by simp) ?_
    refine AllReadyH.cons rfl (fun K hK => ?_) AllReadyH.nil
    rw [if_pos (by rfl)]
    refine wp_store_mid 23 _ _ rfl w.heap.size 0 (icells zeroI) rfl rfl (there_row HA8h.out _ (Nat.le_refl _)) (by kernel_rfl) (icells_one _) ?_
    obtain ⟨hst, hfr⟩ := store_over (V := (icells zeroI)) HA8h.out (by rfl)
    have HA10 := hideIt hst
    have HFr10 := hideIt (hfr.mono (S' := fun k => k = w.heap.size ∨ k = w.heap.size + 1) (fun _ e => Or.inl e))
    have HG10 := hideIt ((hfr.block (w.heap.size + 1) HFL.out (by omega)).trans HF8h.out)
    clear hst hfr
    generalize hW10 : World.setCells _ w.heap.size 0 _ = W10 at *
    clear hW10
    refine hK.out _ _ ?_ (fun hHeld => ?_)
    · exact HS.out _ ((Fr.refl _ _).drew.trans HFr10.out (fun _ _ e => e))
    clear hK K
    try simp only [Act.put, List.getElem_toArray, List.getElem_cons_zero, List.getElem_cons_succ, List.setIfInBounds_toArray, List.set_cons_zero, List.set_cons_succ]
    refine wpAnyH_take (i := 6) (v := ?v391) rfl (by kernel_rfl) (by kernel_rfl) (by kernel_rfl) (fun _ _ _ h => h) (Or.inl ⟨by rfl, ?hy391⟩) (by assumption) ?rest391
    case hy391 => intro w hSw; (try dsimp only at hSw); go_simp; (try with_reducible rfl)
    try simp only [Act.put, List.getElem_toArray, List.getElem_cons_zero, List.getElem_cons_succ, List.setIfInBounds_toArray, List.set_cons_zero, List.set_cons_succ]
    refine wpAnyH_ready (rs := [7]) (by kernel_rfl) (by simp) ?_
    refine AllReadyH.cons rfl (fun K hK => ?_) AllReadyH.nil
    rw [if_pos (by rfl)]
    refine wp_store_mid 36 _ _ rfl (w.heap.size + 1) 0 #[.int .i64 er, .int .i64 ea] rfl rfl (there_row HG10.out _ (Nat.le_refl _)) (by kernel_rfl) (fault_one _ _) ?_
    obtain ⟨hst, hfr⟩ := store_over (V := #[.int .i64 er, .int .i64 ea]) HG10.out (by rfl)
    have HG11 := hideIt hst
    have HFr11 := hideIt (HFr10.out.trans hfr (fun _ _ e => Or.inr e))
    have HA11 := hideIt ((hfr.block w.heap.size (Array.getElem?_eq_some_iff.1 HA10.out).1 (by omega)).trans HA10.out)
    clear hst hfr
    generalize hW11 : World.setCells _ (w.heap.size + 1) 0 _ = W11 at *
    clear hW11
    refine hK.out _ _ ?_ (fun hHeld => ?_)
    · exact HS.out _ ((Fr.refl _ _).drew.trans HFr11.out (fun _ _ e => e))
    clear hK K
    try simp only [Act.put, List.getElem_toArray, List.getElem_cons_zero, List.getElem_cons_succ, List.setIfInBounds_toArray, List.set_cons_zero, List.set_cons_succ]
    refine wpAnyH_done (by kernel_rfl) ?_ _
    go_wp2_with fail
    have hA0 := cellOfHeap HA11.out 0 rfl
    have hA1 := cellOfHeap HA11.out 1 rfl
    have hA2 := cellOfHeap HA11.out 2 rfl
    have hA3 := cellOfHeap HA11.out 3 rfl
    have hA4 := cellOfHeap HA11.out 4 rfl
    have hA5 := cellOfHeap HA11.out 5 rfl
    have hF0 := cellOfHeap HG11.out 0 rfl
    have hF1 := cellOfHeap HG11.out 1 rfl
    refine bodyPost_ret (v := readV (zeroI, 0, er, ea)) (by simp [results, Try.results19, go_sem, readV, icells, zeroI, hA0, hA1, hA2, hA3, hA4, hA5, hF0, hF1]) rfl ⟨by rw [HE.out], ?_⟩
    exact HFRw.out.trans HFr11.out (fun k hk e => by omega)

set_option maxRecDepth 100000 in
set_option maxHeartbeats 4000000 in
theorem vread_AN (ao : Option Addr) (cap : Nat) (bs : List UInt8) (a : Nat) (w : World) (hB : BsAt w ao bs) (hb : bs.length ≤ 140737488355328) (hcl : bs.length ≤ cap) (hcm : cap ≤ maxLen) (hnb : ∀ k, blk ao k → k < w.heap.size) (ha : a ≤ bs.length) (v : Int) (va : Int) (vn : Int) (mx : Int) (s0 s1 s2 : Nat × Int × Int) (h0 : rInt bs 1 15 (a, 0, 0) = (v, s0)) (h1 : rInt bs 0 7 s0 = (va, s1)) (h2 : rInt bs 1 mx s1 = (vn, s2)) (hmx : mostZ v = mx) (ht : hasT v = (true, false, false, true, false)) :
    Calls Try.prog 19 #[.slice ao bs.length cap, .int .i64 (a : Int)] w fun e w' => e = .returned (readV (endR ⟨v, va, 0, 0, vn, ⟨#[]⟩⟩ s2)) ∧ Fr (fun _ => False) w w' := by
  have hd1 : decide ((a : Int) < 0) = false := decide_eq_false (by omega)
  have hd2 : decide ((bs.length : Int) < (a : Int)) = false := decide_eq_false (by omega)
  have HH := hideIt (fun w => by have := vhas_any v w; rw [ht] at this; exact this)
  unfold hasV at HH
  have HM := hideIt (fun w => by have := vmost_any v w; rw [hmx] at this; exact this)
  have HY0 := hideIt (show YOk ((((w.alloc (.cells (icells zeroI) 23)).alloc (.cells #[.int .i64 0, .int .i64 0] 36))).alloc (.cells #[.slice ao bs.length cap, .int .i64 (a : Int), .int .i64 0, .int .i64 0] 73)) (w.heap.size + 2) ao cap bs (a, 0, 0) from
    ⟨⟨heap_new (by simp), hB.fr ((((Fr.refl (fun _ => False) w).alloc _).alloc _).alloc _) (fun _ _ _ e => e)⟩, fun e => by have := hnb _ e; omega, ha⟩)
  have HNB := hideIt hnb
  have HCM := hideIt hcm
  clear hB ht hnb hcm hmx
  go_enter Try.func19, Try.ntmps19
  go_wp2_with fail
  refine Calls.mono (yint_any (w.heap.size + 2) ao cap bs (a, 0, 0) 1 15 _ HY0.out hb) ?_
  rw [h0]
  rintro e w2 ⟨rfl, hy, hF⟩
  have hFa : Fr (fun _ => False) w w2 := ((((Fr.refl (fun _ => False) w).alloc _).alloc _).alloc _).trans hF (fun k hk e => by omega)
  have hsz : w.heap.size + 2 < w2.heap.size := hy.1.lt
  have hF3 : Fr (fun _ => False) w2 (w2.alloc (.cells (icells ⟨v, 0, 0, 0, 0, ⟨#[]⟩⟩) 23)) := (Fr.refl _ _).alloc _
  have HR0 := hideIt (show RS w (w2.alloc (.cells (icells ⟨v, 0, 0, 0, 0, ⟨#[]⟩⟩) 23)) w2.heap.size ao cap bs s0 ⟨v, 0, 0, 0, 0, ⟨#[]⟩⟩ from
    ⟨⟨hy.1.fr hF3 (fun e => e) (fun _ _ _ e => e), hy.2⟩, heap_new rfl, heap_old ((hF.block w.heap.size (by simp; omega) (by omega)).trans (heap_old (heap_old (heap_new rfl)))), heap_old ((hF.block (w.heap.size + 1) (by simp) (by omega)).trans (heap_old (heap_new (by simp)))), hFa.trans hF3 (fun _ _ e => e), hsz, HNB.out⟩)
  clear hy hF hFa hF3 HY0 HNB h0 ha
  go_wp2_with fail
  refine Calls.mono (HH.out _) ?_
  rintro e wx ⟨rfl, rfl⟩
  clear HH
  unfold icells at HR0
  go_wp2_with fail
  refine Calls.mono (rs_int HR0.out hb 0 7 va h1) ?_
  rintro e w10 ⟨rfl, hR⟩
  have hc := hR.j.c1
  have hzf := hR.j.fz 1
  have hlt := hR.j.lt
  dsimp only [Ins.put] at hc
  have HR1 := hideIt (hR.putN 1 (by decide) (by decide) va)
  clear hR HR0
  have c0 := HR1.out.j.c0
  dsimp only [Ins.put] at c0
  go_wp2_with fail
  clear hc hzf hlt
  refine Calls.mono (HM.out _) ?_
  rintro e wx ⟨rfl, rfl⟩
  go_wp2_with fail
  refine Calls.mono (rs_int HR1.out hb 1 mx vn h2) ?_
  rintro e w11 ⟨rfl, hR⟩
  have hc := hR.j.c4
  have hzf := hR.j.fz 4
  have hlt := hR.j.lt
  dsimp only [Ins.put] at hc
  have HR2 := hideIt (hR.putN 4 (by decide) (by decide) vn)
  clear hR HR1
  obtain ⟨pl, er, ea⟩ := s2
  have c2 := HR2.out.y.1.c2
  dsimp only at c2
  by_cases hz : er = 0
  · subst hz
    have HE := hideIt (show endR ⟨v, va, 0, 0, vn, ⟨#[]⟩⟩ (pl, 0, ea) = (⟨v, va, 0, 0, vn, ⟨#[]⟩⟩, (pl : Int), 0, 0) from if_pos rfl)
    have HS := hideIt HR2.out.held
    have HA8h := hideIt HR2.out.adrew
    have HF8h := hideIt HR2.out.fdrew
    have HFL := hideIt HR2.out.flt
    have HFRw := hideIt HR2.out.frdrew
    go_wp2_with fail
    refine wp_region_held_drew (S := fun w0 => InsAt w0 w2.heap.size ⟨v, va, 0, 0, vn, ⟨#[]⟩⟩ ∧ w0.cell? ⟨w.heap.size + 2, 1, none⟩ = some (.int .i64 (pl : Int)) ∧ w0.cell? ⟨w.heap.size + 2, 2, none⟩ = some (.int .i64 0) ∧ w0.cell? ⟨w.heap.size + 2, 3, none⟩ = some (.int .i64 ea)) (by kernel_rfl) ?_ (fun hHeld => ?_)
    · exact HS.out _ (Fr.refl _ _).drew
    refine wpAnyH_take (i := 0) (v := ?v392) rfl (by kernel_rfl) (by kernel_rfl) (by kernel_rfl) (fun _ _ _ h => h) (Or.inl ⟨by rfl, ?hy392⟩) (by assumption) ?rest392
    case hy392 => intro w hSw; (try dsimp only at hSw); obtain ⟨hSI, hS1, hS2, hS3⟩ := hSw; have c0 := hSI.c0; have c1 := hSI.c1; have c2 := hSI.c2; have c3 := hSI.c3; have c4 := hSI.c4; have c5 := hSI.c5; go_simp; (try with_reducible rfl)
    try simp only [Act.put, List.getElem_toArray, List.getElem_cons_zero, List.getElem_cons_succ, List.setIfInBounds_toArray, List.set_cons_zero, List.set_cons_succ]
    refine wpAnyH_take (i := 1) (v := ?v393) rfl (by kernel_rfl) (by kernel_rfl) (by kernel_rfl) (fun _ _ _ h => h) (Or.inl ⟨by rfl, ?hy393⟩) (by assumption) ?rest393
    case hy393 => intro w hSw; (try dsimp only at hSw); go_simp; (try with_reducible rfl)
    try simp only [Act.put, List.getElem_toArray, List.getElem_cons_zero, List.getElem_cons_succ, List.setIfInBounds_toArray, List.set_cons_zero, List.set_cons_succ]
    refine wpAnyH_take (i := 2) (v := ?v394) rfl (by kernel_rfl) (by kernel_rfl) (by kernel_rfl) (fun _ _ _ h => h) (Or.inl ⟨by rfl, ?hy394⟩) (by assumption) ?rest394
    case hy394 => intro w hSw; (try dsimp only at hSw); go_simp; (try with_reducible rfl)
    try simp only [Act.put, List.getElem_toArray, List.getElem_cons_zero, List.getElem_cons_succ, List.setIfInBounds_toArray, List.set_cons_zero, List.set_cons_succ]
    refine wpAnyH_take (i := 3) (v := ?v395) rfl (by kernel_rfl) (by kernel_rfl) (by kernel_rfl) (fun _ _ _ h => h) (Or.inl ⟨by rfl, ?hy395⟩) (by assumption) ?rest395
    case hy395 => intro w hSw; (try dsimp only at hSw); go_simp; (try with_reducible rfl)
    try simp only [Act.put, List.getElem_toArray, List.getElem_cons_zero, List.getElem_cons_succ, List.setIfInBounds_toArray, List.set_cons_zero, List.set_cons_succ]
    refine wpAnyH_take (i := 4) (v := ?v396) rfl (by kernel_rfl) (by kernel_rfl) (by kernel_rfl) (fun _ _ _ h => h) (Or.inl ⟨by rfl, ?hy396⟩) (by assumption) ?rest396
    case hy396 => intro w hSw; (try dsimp only at hSw); go_simp; (try with_reducible rfl)
    try simp only [Act.put, List.getElem_toArray, List.getElem_cons_zero, List.getElem_cons_succ, List.setIfInBounds_toArray, List.set_cons_zero, List.set_cons_succ]
    refine wpAnyH_take (i := 5) (v := ?v397) rfl (by kernel_rfl) (by kernel_rfl) (by kernel_rfl) (fun _ _ _ h => h) (Or.inl ⟨by rfl, ?hy397⟩) (by assumption) ?rest397
    case hy397 => intro w hSw; (try dsimp only at hSw); go_simp; (try with_reducible rfl)
    try simp only [Act.put, List.getElem_toArray, List.getElem_cons_zero, List.getElem_cons_succ, List.setIfInBounds_toArray, List.set_cons_zero, List.set_cons_succ]
    refine wpAnyH_ready (rs := [6]) (by kernel_rfl) (by simp) ?_
    refine AllReadyH.cons rfl (fun K hK => ?_) AllReadyH.nil
    rw [if_pos (by rfl)]
    refine wp_store_mid 23 _ _ rfl w.heap.size 0 (icells ⟨v, va, 0, 0, vn, ⟨#[]⟩⟩) rfl rfl (there_row HA8h.out _ (Nat.le_refl _)) (by kernel_rfl) (icells_one _) ?_
    obtain ⟨hst, hfr⟩ := store_over (V := (icells ⟨v, va, 0, 0, vn, ⟨#[]⟩⟩)) HA8h.out (by rfl)
    have HA10 := hideIt hst
    have HFr10 := hideIt (hfr.mono (S' := fun k => k = w.heap.size ∨ k = w.heap.size + 1) (fun _ e => Or.inl e))
    have HG10 := hideIt ((hfr.block (w.heap.size + 1) HFL.out (by omega)).trans HF8h.out)
    clear hst hfr
    generalize hW10 : World.setCells _ w.heap.size 0 _ = W10 at *
    clear hW10
    refine hK.out _ _ ?_ (fun hHeld => ?_)
    · exact HS.out _ ((Fr.refl _ _).drew.trans HFr10.out (fun _ _ e => e))
    clear hK K
    try simp only [Act.put, List.getElem_toArray, List.getElem_cons_zero, List.getElem_cons_succ, List.setIfInBounds_toArray, List.set_cons_zero, List.set_cons_succ]
    refine wpAnyH_take (i := 7) (v := ?v398) rfl (by kernel_rfl) (by kernel_rfl) (by kernel_rfl) (fun _ _ _ h => h) (Or.inl ⟨by rfl, ?hy398⟩) (by assumption) ?rest398
    case hy398 => intro w hSw; (try dsimp only at hSw); go_simp; (try with_reducible rfl)
    try simp only [Act.put, List.getElem_toArray, List.getElem_cons_zero, List.getElem_cons_succ, List.setIfInBounds_toArray, List.set_cons_zero, List.set_cons_succ]
    refine wpAnyH_ready (rs := [8]) (by kernel_rfl) (by simp) ?_
    refine AllReadyH.cons rfl (fun K hK => ?_) AllReadyH.nil
    rw [if_pos (by rfl)]
    refine wp_store_mid 36 _ _ rfl (w.heap.size + 1) 0 #[.int .i64 0, .int .i64 0] rfl rfl (there_row HG10.out _ (Nat.le_refl _)) (by kernel_rfl) (fault_one _ _) ?_
    obtain ⟨hst, hfr⟩ := store_over (V := #[.int .i64 0, .int .i64 0]) HG10.out (by rfl)
    have HG11 := hideIt hst
    have HFr11 := hideIt (HFr10.out.trans hfr (fun _ _ e => Or.inr e))
    have HA11 := hideIt ((hfr.block w.heap.size (Array.getElem?_eq_some_iff.1 HA10.out).1 (by omega)).trans HA10.out)
    clear hst hfr
    generalize hW11 : World.setCells _ (w.heap.size + 1) 0 _ = W11 at *
    clear hW11
    refine hK.out _ _ ?_ (fun hHeld => ?_)
    · exact HS.out _ ((Fr.refl _ _).drew.trans HFr11.out (fun _ _ e => e))
    clear hK K
    try simp only [Act.put, List.getElem_toArray, List.getElem_cons_zero, List.getElem_cons_succ, List.setIfInBounds_toArray, List.set_cons_zero, List.set_cons_succ]
    refine wpAnyH_done (by kernel_rfl) ?_ _
    go_wp2_with fail
    have hA0 := cellOfHeap HA11.out 0 rfl
    have hA1 := cellOfHeap HA11.out 1 rfl
    have hA2 := cellOfHeap HA11.out 2 rfl
    have hA3 := cellOfHeap HA11.out 3 rfl
    have hA4 := cellOfHeap HA11.out 4 rfl
    have hA5 := cellOfHeap HA11.out 5 rfl
    have hF0 := cellOfHeap HG11.out 0 rfl
    have hF1 := cellOfHeap HG11.out 1 rfl
    refine bodyPost_ret (v := readV (⟨v, va, 0, 0, vn, ⟨#[]⟩⟩, (pl : Int), 0, 0)) (by simp [results, Try.results19, go_sem, readV, icells, zeroI, hA0, hA1, hA2, hA3, hA4, hA5, hF0, hF1]) rfl ⟨by rw [HE.out], ?_⟩
    exact HFRw.out.trans HFr11.out (fun k hk e => by omega)
  · have HE := hideIt (show endR ⟨v, va, 0, 0, vn, ⟨#[]⟩⟩ (pl, er, ea) = (zeroI, 0, er, ea) from if_neg hz)
    have hzb : (er != 0) = true := by simpa using hz
    have HS := hideIt HR2.out.held
    have HA8h := hideIt HR2.out.adrew
    have HF8h := hideIt HR2.out.fdrew
    have HFL := hideIt HR2.out.flt
    have HFRw := hideIt HR2.out.frdrew
    go_wp2_with fail
    refine wp_region_held_drew (S := fun w0 => InsAt w0 w2.heap.size ⟨v, va, 0, 0, vn, ⟨#[]⟩⟩ ∧ w0.cell? ⟨w.heap.size + 2, 1, none⟩ = some (.int .i64 (pl : Int)) ∧ w0.cell? ⟨w.heap.size + 2, 2, none⟩ = some (.int .i64 er) ∧ w0.cell? ⟨w.heap.size + 2, 3, none⟩ = some (.int .i64 ea)) (by kernel_rfl) ?_ (fun hHeld => ?_)
    · exact HS.out _ (Fr.refl _ _).drew
    refine wpAnyH_take (i := 0) (v := ?v399) rfl (by kernel_rfl) (by kernel_rfl) (by kernel_rfl) (fun _ _ _ h => h) (Or.inl ⟨by rfl, ?hy399⟩) (by assumption) ?rest399
    case hy399 => intro w hSw; (try dsimp only at hSw); go_simp; (try with_reducible rfl)
    try simp only [Act.put, List.getElem_toArray, List.getElem_cons_zero, List.getElem_cons_succ, List.setIfInBounds_toArray, List.set_cons_zero, List.set_cons_succ]
    refine wpAnyH_take (i := 1) (v := ?v400) rfl (by kernel_rfl) (by kernel_rfl) (by kernel_rfl) (fun _ _ _ h => h) (Or.inl ⟨by rfl, ?hy400⟩) (by assumption) ?rest400
    case hy400 => intro w hSw; (try dsimp only at hSw); go_simp; (try with_reducible rfl)
    try simp only [Act.put, List.getElem_toArray, List.getElem_cons_zero, List.getElem_cons_succ, List.setIfInBounds_toArray, List.set_cons_zero, List.set_cons_succ]
    refine wpAnyH_take (i := 2) (v := ?v401) rfl (by kernel_rfl) (by kernel_rfl) (by kernel_rfl) (fun _ _ _ h => h) (Or.inl ⟨by rfl, ?hy401⟩) (by assumption) ?rest401
    case hy401 => intro w hSw; (try dsimp only at hSw); go_simp; (try with_reducible rfl)
    try simp only [Act.put, List.getElem_toArray, List.getElem_cons_zero, List.getElem_cons_succ, List.setIfInBounds_toArray, List.set_cons_zero, List.set_cons_succ]
    refine wpAnyH_take (i := 3) (v := ?v402) rfl (by kernel_rfl) (by kernel_rfl) (by kernel_rfl) (fun _ _ _ h => h) (Or.inl ⟨by rfl, ?hy402⟩) (by assumption) ?rest402
    case hy402 => intro w hSw; (try dsimp only at hSw); go_simp; (try with_reducible rfl)
    try simp only [Act.put, List.getElem_toArray, List.getElem_cons_zero, List.getElem_cons_succ, List.setIfInBounds_toArray, List.set_cons_zero, List.set_cons_succ]
    refine wpAnyH_take (i := 4) (v := ?v403) rfl (by kernel_rfl) (by kernel_rfl) (by kernel_rfl) (fun _ _ _ h => h) (Or.inl ⟨by rfl, ?hy403⟩) (by assumption) ?rest403
    case hy403 => intro w hSw; (try dsimp only at hSw); go_simp; (try with_reducible rfl)
    try simp only [Act.put, List.getElem_toArray, List.getElem_cons_zero, List.getElem_cons_succ, List.setIfInBounds_toArray, List.set_cons_zero, List.set_cons_succ]
    refine wpAnyH_ready (rs := [5]) (by kernel_rfl) (by simp) ?_
    refine AllReadyH.cons rfl (fun K hK => ?_) AllReadyH.nil
    rw [if_pos (by rfl)]
    refine wp_store_mid 23 _ _ rfl w.heap.size 0 (icells zeroI) rfl rfl (there_row HA8h.out _ (Nat.le_refl _)) (by kernel_rfl) (icells_one _) ?_
    obtain ⟨hst, hfr⟩ := store_over (V := (icells zeroI)) HA8h.out (by rfl)
    have HA10 := hideIt hst
    have HFr10 := hideIt (hfr.mono (S' := fun k => k = w.heap.size ∨ k = w.heap.size + 1) (fun _ e => Or.inl e))
    have HG10 := hideIt ((hfr.block (w.heap.size + 1) HFL.out (by omega)).trans HF8h.out)
    clear hst hfr
    generalize hW10 : World.setCells _ w.heap.size 0 _ = W10 at *
    clear hW10
    refine hK.out _ _ ?_ (fun hHeld => ?_)
    · exact HS.out _ ((Fr.refl _ _).drew.trans HFr10.out (fun _ _ e => e))
    clear hK K
    try simp only [Act.put, List.getElem_toArray, List.getElem_cons_zero, List.getElem_cons_succ, List.setIfInBounds_toArray, List.set_cons_zero, List.set_cons_succ]
    refine wpAnyH_take (i := 6) (v := ?v404) rfl (by kernel_rfl) (by kernel_rfl) (by kernel_rfl) (fun _ _ _ h => h) (Or.inl ⟨by rfl, ?hy404⟩) (by assumption) ?rest404
    case hy404 => intro w hSw; (try dsimp only at hSw); go_simp; (try with_reducible rfl)
    try simp only [Act.put, List.getElem_toArray, List.getElem_cons_zero, List.getElem_cons_succ, List.setIfInBounds_toArray, List.set_cons_zero, List.set_cons_succ]
    refine wpAnyH_ready (rs := [7]) (by kernel_rfl) (by simp) ?_
    refine AllReadyH.cons rfl (fun K hK => ?_) AllReadyH.nil
    rw [if_pos (by rfl)]
    refine wp_store_mid 36 _ _ rfl (w.heap.size + 1) 0 #[.int .i64 er, .int .i64 ea] rfl rfl (there_row HG10.out _ (Nat.le_refl _)) (by kernel_rfl) (fault_one _ _) ?_
    obtain ⟨hst, hfr⟩ := store_over (V := #[.int .i64 er, .int .i64 ea]) HG10.out (by rfl)
    have HG11 := hideIt hst
    have HFr11 := hideIt (HFr10.out.trans hfr (fun _ _ e => Or.inr e))
    have HA11 := hideIt ((hfr.block w.heap.size (Array.getElem?_eq_some_iff.1 HA10.out).1 (by omega)).trans HA10.out)
    clear hst hfr
    generalize hW11 : World.setCells _ (w.heap.size + 1) 0 _ = W11 at *
    clear hW11
    refine hK.out _ _ ?_ (fun hHeld => ?_)
    · exact HS.out _ ((Fr.refl _ _).drew.trans HFr11.out (fun _ _ e => e))
    clear hK K
    try simp only [Act.put, List.getElem_toArray, List.getElem_cons_zero, List.getElem_cons_succ, List.setIfInBounds_toArray, List.set_cons_zero, List.set_cons_succ]
    refine wpAnyH_done (by kernel_rfl) ?_ _
    go_wp2_with fail
    have hA0 := cellOfHeap HA11.out 0 rfl
    have hA1 := cellOfHeap HA11.out 1 rfl
    have hA2 := cellOfHeap HA11.out 2 rfl
    have hA3 := cellOfHeap HA11.out 3 rfl
    have hA4 := cellOfHeap HA11.out 4 rfl
    have hA5 := cellOfHeap HA11.out 5 rfl
    have hF0 := cellOfHeap HG11.out 0 rfl
    have hF1 := cellOfHeap HG11.out 1 rfl
    refine bodyPost_ret (v := readV (zeroI, 0, er, ea)) (by simp [results, Try.results19, go_sem, readV, icells, zeroI, hA0, hA1, hA2, hA3, hA4, hA5, hF0, hF1]) rfl ⟨by rw [HE.out], ?_⟩
    exact HFRw.out.trans HFr11.out (fun k hk e => by omega)

end Go.Proofs.Ytpieaenfnajlfaa
