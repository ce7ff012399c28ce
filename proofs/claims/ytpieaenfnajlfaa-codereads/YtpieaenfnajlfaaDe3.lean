/- Code: the document's Read: letters ABC, letters N. -/
import Derived.Test.YtpieaenfnajlfaaDe
namespace Go.Proofs.Ytpieaenfnajlfaa
open Go.RowKit Go.IntWalk Go.Lib
set_option linter.unusedSimpArgs false
set_option linter.unusedVariables false

set_option maxRecDepth 100000 in
set_option maxHeartbeats 4000000 in
theorem vread_ABC (ao : Option Addr) (cap : Nat) (bs : List UInt8) (a : Nat) (w : World) (hB : BsAt w ao bs) (hb : bs.length ≤ 140737488355328) (hcl : bs.length ≤ cap) (hcm : cap ≤ maxLen) (hnb : ∀ k, blk ao k → k < w.heap.size) (ha : a ≤ bs.length) (v : Int) (va : Int) (vb : Int) (vc : Int) (s0 s1 s2 s3 : Nat × Int × Int) (h0 : rInt bs 1 15 (a, 0, 0) = (v, s0)) (h1 : rInt bs 0 7 s0 = (va, s1)) (h2 : rInt bs 0 7 s1 = (vb, s2)) (h3 : rInt bs 0 7 s2 = (vc, s3)) (ht : hasT v = (true, true, true, false, false)) :
    Calls Try.prog 19 #[.slice ao bs.length cap, .int .i64 (a : Int)] w fun e w' => e = .returned (readV (endR ⟨v, va, vb, vc, 0, ⟨#[]⟩⟩ s3)) ∧ Fr (fun _ => False) w w' := by
  have hd1 : decide ((a : Int) < 0) = false := decide_eq_false (by omega)
  have hd2 : decide ((bs.length : Int) < (a : Int)) = false := decide_eq_false (by omega)
  have HH := hideIt (fun w => by have := vhas_any v w; rw [ht] at this; exact this)
  unfold hasV at HH
  have HY0 := hideIt (show YOk ((((w.alloc (.cells (icells zeroI) 23)).alloc (.cells #[.int .i64 0, .int .i64 0] 36))).alloc (.cells #[.slice ao bs.length cap, .int .i64 (a : Int), .int .i64 0, .int .i64 0] 73)) (w.heap.size + 2) ao cap bs (a, 0, 0) from
    ⟨⟨heap_new (by simp), hB.fr ((((Fr.refl (fun _ => False) w).alloc _).alloc _).alloc _) (fun _ _ _ e => e)⟩, fun e => by have := hnb _ e; omega, ha⟩)
  have HNB := hideIt hnb
  have HCM := hideIt hcm
  clear hB ht hnb hcm
  go_enter Try.func19, Try.ntmps19
  go_wp2_with fail
  refine Calls.mono (yint_any (w.heap.size + 2) ao cap bs (a, 0, 0) 1 15 _ HY0.out hb) ?_
  rw [h0]
  rintro e w2 ⟨rfl, hy, hF⟩
  have hFa : Fr (fun _ => False) w w2 := ((((Fr.refl (fun _ => False) w).alloc _).alloc _).alloc _).trans hF (fun k hk e => by omega)
  have hsz : w.heap.size + 2 < w2.heap.size := hy.1.lt
  have hF3 : Fr (fun _ => False) w2 (w2.alloc (.cells (icells ⟨v, 0, 0, 0, 0, ⟨#[]⟩⟩) 23)) := (Fr.refl _ _).alloc _
  have HR0 := hideIt (show RS w (w2.alloc (.cells (icells ⟨v, 0, 0, 0, 0, ⟨#[]⟩⟩) 23)) w2.heap.size ao cap bs s0 ⟨v, 0, 0, 0, 0, ⟨#[]⟩⟩ from
    ⟨⟨hy.1.fr hF3 (fun e => e) (fun _ _ _ e => e), hy.2⟩, heap_new rfl, heap_old ((hF.block w.heap.size (by simp; omega) (by omega)).trans (heap_old (heap_old (heap_new rfl)))), heap_old ((hF.block (w.heap.size + 1) (by simp) (by omega)).trans (heap_old (heap_new (by simp)))), hFa.trans hF3 (fun _ _ e => e), hsz, HNB.out⟩)
  clear hy hF hFa hF3 HY0 HNB h0 ha
  go_wp2_with fail
  refine Calls.mono (HH.out _) ?_
  rintro e wx ⟨rfl, rfl⟩
  clear HH
  unfold icells at HR0
  go_wp2_with fail
  refine Calls.mono (rs_int HR0.out hb 0 7 va h1) ?_
  rintro e w10 ⟨rfl, hR⟩
  have hc := hR.j.c1
  have hzf := hR.j.fz 1
  have hlt := hR.j.lt
  dsimp only [Ins.put] at hc
  have HR1 := hideIt (hR.putN 1 (by decide) (by decide) va)
  clear hR HR0
  go_wp2_with fail
  clear hc hzf hlt
  refine Calls.mono (rs_int HR1.out hb 0 7 vb h2) ?_
  rintro e w11 ⟨rfl, hR⟩
  have hc := hR.j.c2
  have hzf := hR.j.fz 2
  have hlt := hR.j.lt
  dsimp only [Ins.put] at hc
  have HR2 := hideIt (hR.putN 2 (by decide) (by decide) vb)
  clear hR HR1
  go_wp2_with fail
  clear hc hzf hlt
  refine Calls.mono (rs_int HR2.out hb 0 7 vc h3) ?_
  rintro e w12 ⟨rfl, hR⟩
  have hc := hR.j.c3
  have hzf := hR.j.fz 3
  have hlt := hR.j.lt
  dsimp only [Ins.put] at hc
  have HR3 := hideIt (hR.putN 3 (by decide) (by decide) vc)
  clear hR HR2
  obtain ⟨pl, er, ea⟩ := s3
  have c2 := HR3.out.y.1.c2
  dsimp only at c2
  by_cases hz : er = 0
  · subst hz
    have HE := hideIt (show endR ⟨v, va, vb, vc, 0, ⟨#[]⟩⟩ (pl, 0, ea) = (⟨v, va, vb, vc, 0, ⟨#[]⟩⟩, (pl : Int), 0, 0) from if_pos rfl)
    have HS := hideIt HR3.out.held
    have HA8h := hideIt HR3.out.adrew
    have HF8h := hideIt HR3.out.fdrew
    have HFL := hideIt HR3.out.flt
    have HFRw := hideIt HR3.out.frdrew
    go_wp2_with fail
    refine wp_region_held_drew (S := fun w0 => InsAt w0 w2.heap.size ⟨v, va, vb, vc, 0, ⟨#[]⟩⟩ ∧ w0.cell? ⟨w.heap.size + 2, 1, none⟩ = some (.int .i64 (pl : Int)) ∧ w0.cell? ⟨w.heap.size + 2, 2, none⟩ = some (.int .i64 0) ∧ w0.cell? ⟨w.heap.size + 2, 3, none⟩ = some (.int .i64 ea)) (by kernel_rfl) ?_ (fun hHeld => ?_)
    · exact HS.out _ (Fr.refl _ _).drew
    refine wpAnyH_take (i := 0) (v := ?v353) rfl (by kernel_rfl) (by kernel_rfl) (by kernel_rfl) (fun _ _ _ h => h) (Or.inl ⟨by rfl, ?hy353⟩) (by assumption) ?rest353
    case hy353 => intro w hSw; (try dsimp only at hSw); obtain ⟨hSI, hS1, hS2, hS3⟩ := hSw; have c0 := hSI.c0; have c1 := hSI.c1; have c2 := hSI.c2; have c3 := hSI.c3; have c4 := hSI.c4; have c5 := hSI.c5; go_simp; (try with_reducible rfl)
    try simp only [Act.put, List.getElem_toArray, List.getElem_cons_zero, List.getElem_cons_succ, List.setIfInBounds_toArray, List.set_cons_zero, List.set_cons_succ]
    refine wpAnyH_take (i := 1) (v := ?v354) rfl (by kernel_rfl) (by kernel_rfl) (by kernel_rfl) (fun _ _ _ h => h) (Or.inl ⟨by rfl, ?hy354⟩) (by assumption) ?rest354
    case hy354 => intro w hSw; (try dsimp only at hSw); go_simp; (try with_reducible rfl)
    try simp only [Act.put, List.getElem_toArray, List.getElem_cons_zero, List.getElem_cons_succ, List.setIfInBounds_toArray, List.set_cons_zero, List.set_cons_succ]
    refine wpAnyH_take (i := 2) (v := ?v355) rfl (by kernel_rfl) (by kernel_rfl) (by kernel_rfl) (fun _ _ _ h => h) (Or.inl ⟨by rfl, ?hy355⟩) (by assumption) ?rest355
    case hy355 => intro w hSw; (try dsimp only at hSw); go_simp; (try with_reducible rfl)
    try simp only [Act.put, List.getElem_toArray, List.getElem_cons_zero, List.getElem_cons_succ, List.setIfInBounds_toArray, List.set_cons_zero, List.set_cons_succ]
    refine wpAnyH_take (i := 3) (v := ?v356) rfl (by kernel_rfl) (by kernel_rfl) (by kernel_rfl) (fun _ _ _ h => h) (Or.inl ⟨by rfl, ?hy356⟩) (by assumption) ?rest356
    case hy356 => intro w hSw; (try dsimp only at hSw); go_simp; (try with_reducible rfl)
    try simp only [Act.put, List.getElem_toArray, List.getElem_cons_zero, List.getElem_cons_succ, List.setIfInBounds_toArray, List.set_cons_zero, List.set_cons_succ]
    refine wpAnyH_take (i := 4) (v := ?v357) rfl (by kernel_rfl) (by kernel_rfl) (by kernel_rfl) (fun _ _ _ h => h) (Or.inl ⟨by rfl, ?hy357⟩) (by assumption) ?rest357
    case hy357 => intro w hSw; (try dsimp only at hSw); go_simp; (try with_reducible rfl)
    try simp only [Act.put, List.getElem_toArray, List.getElem_cons_zero, List.getElem_cons_succ, List.setIfInBounds_toArray, List.set_cons_zero, List.set_cons_succ]
    refine wpAnyH_take (i := 5) (v := ?v358) rfl (by kernel_rfl) (by kernel_rfl) (by kernel_rfl) (fun _ _ _ h => h) (Or.inl ⟨by rfl, ?hy358⟩) (by assumption) ?rest358
    case hy358 => intro w hSw; (try dsimp only at hSw); go_simp; (try with_reducible rfl)
    try simp only [Act.put, List.getElem_toArray, List.getElem_cons_zero, List.getElem_cons_succ, List.setIfInBounds_toArray, List.set_cons_zero, List.set_cons_succ]
    refine wpAnyH_ready (rs := [6]) (by kernel_rfl) (by simp) ?_
    refine AllReadyH.cons rfl (fun K hK => ?_) AllReadyH.nil
    rw [if_pos (by rfl)]
    refine wp_store_mid 23 _ _ rfl w.heap.size 0 (icells ⟨v, va, vb, vc, 0, ⟨#[]⟩⟩) rfl rfl (there_row HA8h.out _ (Nat.le_refl _)) (by kernel_rfl) (icells_one _) ?_
    obtain ⟨hst, hfr⟩ := store_over (V := (icells ⟨v, va, vb, vc, 0, ⟨#[]⟩⟩)) HA8h.out (by rfl)
    have HA10 := hideIt hst
    have HFr10 := hideIt (hfr.mono (S' := fun k => k = w.heap.size ∨ k = w.heap.size + 1) (fun _ e => Or.inl e))
    have HG10 := hideIt ((hfr.block (w.heap.size + 1) HFL.out (by omega)).trans HF8h.out)
    clear hst hfr
    generalize hW10 : World.setCells _ w.heap.size 0 _ = W10 at *
    clear hW10
    refine hK.out _ _ ?_ (fun hHeld => ?_)
    · exact HS.out _ ((Fr.refl _ _).drew.trans HFr10.out (fun _ _ e => e))
    clear hK K
    try simp only [Act.put, List.getElem_toArray, List.getElem_cons_zero, List.getElem_cons_succ, List.setIfInBounds_toArray, List.set_cons_zero, List.set_cons_succ]
    refine wpAnyH_take (i := 7) (v := ?v359) rfl (by kernel_rfl) (by kernel_rfl) (by kernel_rfl) (fun _ _ _ h => h) (Or.inl ⟨by rfl, ?hy359⟩) (by assumption) ?rest359
    case hy359 => intro w hSw; (try dsimp only at hSw); go_simp; (try with_reducible rfl)
    try simp only [Act.put, List.getElem_toArray, List.getElem_cons_zero, List.getElem_cons_succ, List.setIfInBounds_toArray, List.set_cons_zero, List.set_cons_succ]
    refine wpAnyH_ready (rs := [8]) (by kernel_rfl) (by simp) ?_
    refine AllReadyH.cons rfl (fun K hK => ?_) AllReadyH.nil
    rw [if_pos (by rfl)]
    refine wp_store_mid 36 _ _ rfl (w.heap.size + 1) 0 #[.int .i64 0, .int .i64 0] rfl rfl (there_row HG10.out _ (Nat.le_refl _)) (by kernel_rfl) (fault_one _ _) ?_
    obtain ⟨hst, hfr⟩ := store_over (V := #[.int .i64 0, .int .i64 0]) HG10.out (by rfl)
    have HG11 := hideIt hst
    have HFr11 := hideIt (HFr10.out.trans hfr (fun _ _ e => Or.inr e))
    have HA11 := hideIt ((hfr.block w.heap.size (Array.getElem?_eq_some_iff.1 HA10.out).1 (by omega)).trans HA10.out)
    clear hst hfr
    generalize hW11 : World.setCells _ (w.heap.size + 1) 0 _ = W11 at *
    clear hW11
    refine hK.out _ _ ?_ (fun hHeld => ?_)
    · exact HS.out _ ((Fr.refl _ _).drew.trans HFr11.out (fun _ _ e => e))
    clear hK K
    try simp only [Act.put, List.getElem_toArray, List.getElem_cons_zero, List.getElem_cons_succ, List.setIfInBounds_toArray, List.set_cons_zero, List.set_cons_succ]
    refine wpAnyH_done (by kernel_rfl) ?_ _
    go_wp2_with fail
    have hA0 := cellOfHeap HA11.out 0 rfl
    have hA1 := cellOfHeap HA11.out 1 rfl
    have hA2 := cellOfHeap HA11.out 2 rfl
    have hA3 := cellOfHeap HA11.out 3 rfl
    have hA4 := cellOfHeap HA11.out 4 rfl
    have hA5 := cellOfHeap HA11.out 5 rfl
    have hF0 := cellOfHeap HG11.out 0 rfl
    have hF1 := cellOfHeap HG11.out 1 rfl
    refine bodyPost_ret (v := readV (⟨v, va, vb, vc, 0, ⟨#[]⟩⟩, (pl : Int), 0, 0)) (by simp [results, Try.results19, go_sem, readV, icells, zeroI, hA0, hA1, hA2, hA3, hA4, hA5, hF0, hF1]) rfl ⟨by rw [HE.out], ?_⟩
    exact HFRw.out.trans HFr11.out (fun k hk e => by omega)
  · have HE := hideIt (show endR ⟨v, va, vb, vc, 0, ⟨#[]⟩⟩ (pl, er, ea) = (zeroI, 0, er, ea) from if_neg hz)
    have hzb : (er != 0) = true := by simpa using hz
    have HS := hideIt HR3.out.held
    have HA8h := hideIt HR3.out.adrew
    have HF8h := hideIt HR3.out.fdrew
    have HFL := hideIt HR3.out.flt
    have HFRw := hideIt HR3.out.frdrew
    go_wp2_with fail
    refine wp_region_held_drew (S := fun w0 => InsAt w0 w2.heap.size ⟨v, va, vb, vc, 0, ⟨#[]⟩⟩ ∧ w0.cell? ⟨w.heap.size + 2, 1, none⟩ = some (.int .i64 (pl : Int)) ∧ w0.cell? ⟨w.heap.size + 2, 2, none⟩ = some (.int .i64 er) ∧ w0.cell? ⟨w.heap.size + 2, 3, none⟩ = some (.int .i64 ea)) (by kernel_rfl) ?_ (fun hHeld => ?_)
    · exact HS.out _ (Fr.refl _ _).drew
    refine wpAnyH_take (i := 0) (v := ?v360) rfl (by kernel_rfl) (by kernel_rfl) (by kernel_rfl) (fun _ _ _ h => h) (Or.inl ⟨by rfl, ?hy360⟩) (by assumption) ?rest360
    case hy360 => intro w hSw; (try dsimp only at hSw); go_simp; (try with_reducible rfl)
    try simp only [Act.put, List.getElem_toArray, List.getElem_cons_zero, List.getElem_cons_succ, List.setIfInBounds_toArray, List.set_cons_zero, List.set_cons_succ]
    refine wpAnyH_take (i := 1) (v := ?v361) rfl (by kernel_rfl) (by kernel_rfl) (by kernel_rfl) (fun _ _ _ h => h) (Or.inl ⟨by rfl, ?hy361⟩) (by assumption) ?rest361
    case hy361 => intro w hSw; (try dsimp only at hSw); go_simp; (try with_reducible rfl)
    try simp only [Act.put, List.getElem_toArray, List.getElem_cons_zero, List.getElem_cons_succ, List.setIfInBounds_toArray, List.set_cons_zero, List.set_cons_succ]
    refine wpAnyH_take (i := 2) (v := ?v362) rfl (by kernel_rfl) (by kernel_rfl) (by kernel_rfl) (fun _ _ _ h => h) (Or.inl ⟨by rfl, ?hy362⟩) (by assumption) ?rest362
    case hy362 => intro w hSw; (try dsimp only at hSw); go_simp; (try with_reducible rfl)
    try simp only [Act.put, List.getElem_toArray, List.getElem_cons_zero, List.getElem_cons_succ, List.setIfInBounds_toArray, List.set_cons_zero, List.set_cons_succ]
    refine wpAnyH_take (i := 3) (v := ?v363) rfl (by kernel_rfl) (by kernel_rfl) (by kernel_rfl) (fun _ _ _ h => h) (Or.inl ⟨by rfl, ?hy363⟩) (by assumption) ?rest363
    case hy363 => intro w hSw; (try dsimp only at hSw); go_simp; (try with_reducible rfl)
    try simp only [Act.put, List.getElem_toArray, List.getElem_cons_zero, List.getElem_cons_succ, List.setIfInBounds_toArray, List.set_cons_zero, List.set_cons_succ]
    refine wpAnyH_take (i := 4) (v := ?v364) rfl (by kernel_rfl) (by kernel_rfl) (by kernel_rfl) (fun _ _ _ h => h) (Or.inl ⟨by rfl, ?hy364⟩) (by assumption) ?rest364
    case hy364 => intro w hSw; (try dsimp only at hSw); go_simp; (try with_reducible rfl)
    try simp only [Act.put, List.getElem_toArray, List.getElem_cons_zero, List.getElem_cons_succ, List.setIfInBounds_toArray, List.set_cons_zero, List.set_cons_succ]
    refine wpAnyH_ready (rs := [5]) (by kernel_rfl) (by simp) ?_
    refine AllReadyH.cons rfl (fun K hK => ?_) AllReadyH.nil
    rw [if_pos (by rfl)]
    refine wp_store_mid 23 _ _ rfl w.heap.size 0 (icells zeroI) rfl rfl (there_row HA8h.out _ (Nat.le_refl _)) (by kernel_rfl) (icells_one _) ?_
    obtain ⟨hst, hfr⟩ := store_over (V := (icells zeroI)) HA8h.out (by rfl)
    have HA10 := hideIt hst
    have HFr10 := hideIt (hfr.mono (S' := fun k => k = w.heap.size ∨ k = w.heap.size + 1) (fun _ e => Or.inl e))
    have HG10 := hideIt ((hfr.block (w.heap.size + 1) HFL.out (by omega)).trans HF8h.out)
    clear hst hfr
    generalize hW10 : World.setCells _ w.heap.size 0 _ = W10 at *
    clear hW10
    refine hK.out _ _ ?_ (fun hHeld => ?_)
    · exact HS.out _ ((Fr.refl _ _).drew.trans HFr10.out (fun _ _ e => e))
    clear hK K
    try simp only [Act.put, List.getElem_toArray, List.getElem_cons_zero, List.getElem_cons_succ, List.setIfInBounds_toArray, List.set_cons_zero, List.set_cons_succ]
    refine wpAnyH_take (i := 6) (v := ?v365) rfl (by kernel_rfl) (by kernel_rfl) (by kernel_rfl) (fun _ _ _ h => h) (Or.inl ⟨by rfl, ?hy365⟩) (by assumption) ?rest365
    case hy365 => intro w hSw; (try dsimp only at hSw); go_simp; (try with_reducible rfl)
    try simp only [Act.put, List.getElem_toArray, List.getElem_cons_zero, List.getElem_cons_succ, List.setIfInBounds_toArray, List.set_cons_zero, List.set_cons_succ]
    refine wpAnyH_ready (rs := [7]) (by kernel_rfl) (by simp) ?_
    refine AllReadyH.cons rfl (fun K hK => ?_) AllReadyH.nil
    rw [if_pos (by rfl)]
    refine wp_store_mid 36 _ _ rfl (w.heap.size + 1) 0 #[.int .i64 er, .int .i64 ea] rfl rfl (there_row HG10.out _ (Nat.le_refl _)) (by kernel_rfl) (fault_one _ _) ?_
    obtain ⟨hst, hfr⟩ := store_over (V := #[.int .i64 er, .int .i64 ea]) HG10.out (by rfl)
    have HG11 := hideIt hst
    have HFr11 := hideIt (HFr10.out.trans hfr (fun _ _ e => Or.inr e))
    have HA11 := hideIt ((hfr.block w.heap.size (Array.getElem?_eq_some_iff.1 HA10.out).1 (by omega)).trans HA10.out)
    clear hst hfr
    generalize hW11 : World.setCells _ (w.heap.size + 1) 0 _ = W11 at *
    clear hW11
    refine hK.out _ _ ?_ (fun hHeld => ?_)
    · exact HS.out _ ((Fr.refl _ _).drew.trans HFr11.out (fun _ _ e => e))
    clear hK K
    try simp only [Act.put, List.getElem_toArray, List.getElem_cons_zero, List.getElem_cons_succ, List.setIfInBounds_toArray, List.set_cons_zero, List.set_cons_succ]
    refine wpAnyH_done (by kernel_rfl) ?_ _
    go_wp2_with fail
    have hA0 := cellOfHeap HA11.out 0 rfl
    have hA1 := cellOfHeap HA11.out 1 rfl
    have hA2 := cellOfHeap HA11.out 2 rfl
    have hA3 := cellOfHeap HA11.out 3 rfl
    have hA4 := cellOfHeap HA11.out 4 rfl
    have hA5 := cellOfHeap HA11.out 5 rfl
    have hF0 := cellOfHeap HG11.out 0 rfl
    have hF1 := cellOfHeap HG11.out 1 rfl
    refine bodyPost_ret (v := readV (zeroI, 0, er, ea)) (by simp [results, Try.results19, go_sem, readV, icells, zeroI, hA0, hA1, hA2, hA3, hA4, hA5, hF0, hF1]) rfl ⟨by rw [HE.out], ?_⟩
    exact HFRw.out.trans HFr11.out (fun k hk e => by omega)

set_option maxRecDepth 100000 in
set_option maxHeartbeats 4000000 in
theorem vread_N (ao : Option Addr) (cap : Nat) (bs : List UInt8) (a : Nat) (w : World) (hB : BsAt w ao bs) (hb : bs.length ≤ 140737488355328) (hcl : bs.length ≤ cap) (hcm : cap ≤ maxLen) (hnb : ∀ k, blk ao k → k < w.heap.size) (ha : a ≤ bs.length) (v : Int) (vn : Int) (mx : Int) (s0 s1 : Nat × Int × Int) (h0 : rInt bs 1 15 (a, 0, 0) = (v, s0)) (h1 : rInt bs 1 mx s0 = (vn, s1)) (hmx : mostZ v = mx) (ht : hasT v = (false, false, false, true, false)) :
    Calls Try.prog 19 #[.slice ao bs.length cap, .int .i64 (a : Int)] w fun e w' => e = .returned (readV (endR ⟨v, 0, 0, 0, vn, ⟨#[]⟩⟩ s1)) ∧ Fr (fun _ => False) w w' := by
  have hd1 : decide ((a : Int) < 0) = false := decide_eq_false (by omega)
  have hd2 : decide ((bs.length : Int) < (a : Int)) = false := decide_eq_false (by omega)
  have HH := hideIt (fun w => by have := vhas_any v w; rw [ht] at this; exact this)
  unfold hasV at HH
  have HM := hideIt (fun w => by have := vmost_any v w; rw [hmx] at this; exact this)
  have HY0 := hideIt (show YOk ((((w.alloc (.cells (icells zeroI) 23)).alloc (.cells #[.int .i64 0, .int .i64 0] 36))).alloc (.cells #[.slice ao bs.length cap, .int .i64 (a : Int), .int .i64 0, .int .i64 0] 73)) (w.heap.size + 2) ao cap bs (a, 0, 0) from
    ⟨⟨heap_new (by simp), hB.fr ((((Fr.refl (fun _ => False) w).alloc _).alloc _).alloc _) (fun _ _ _ e => e)⟩, fun e => by have := hnb _ e; omega, ha⟩)
  have HNB := hideIt hnb
  have HCM := hideIt hcm
  clear hB ht hnb hcm hmx
  go_enter Try.func19, Try.ntmps19
  go_wp2_with fail
  refine Calls.mono (yint_any (w.heap.size + 2) ao cap bs (a, 0, 0) 1 15 _ HY0.out hb) ?_
  rw [h0]
  rintro e w2 ⟨rfl, hy, hF⟩
  have hFa : Fr (fun _ => False) w w2 := ((((Fr.refl (fun _ => False) w).alloc _).alloc _).alloc _).trans hF (fun k hk e => by omega)
  have hsz : w.heap.size + 2 < w2.heap.size := hy.1.lt
  have hF3 : Fr (fun _ => False) w2 (w2.alloc (.cells (icells ⟨v, 0, 0, 0, 0, ⟨#[]⟩⟩) 23)) := (Fr.refl _ _).alloc _
  have HR0 := hideIt (show RS w (w2.alloc (.cells (icells ⟨v, 0, 0, 0, 0, ⟨#[]⟩⟩) 23)) w2.heap.size ao cap bs s0 ⟨v, 0, 0, 0, 0, ⟨#[]⟩⟩ from
    ⟨⟨hy.1.fr hF3 (fun e => e) (fun _ _ _ e => e), hy.2⟩, heap_new rfl, heap_old ((hF.block w.heap.size (by simp; omega) (by omega)).trans (heap_old (heap_old (heap_new rfl)))), heap_old ((hF.block (w.heap.size + 1) (by simp) (by omega)).trans (heap_old (heap_new (by simp)))), hFa.trans hF3 (fun _ _ e => e), hsz, HNB.out⟩)
  clear hy hF hFa hF3 HY0 HNB h0 ha
  go_wp2_with fail
  refine Calls.mono (HH.out _) ?_
  rintro e wx ⟨rfl, rfl⟩
  clear HH
  unfold icells at HR0
  go_wp2_with fail
  refine Calls.mono (HM.out _) ?_
  rintro e wx ⟨rfl, rfl⟩
  go_wp2_with fail
  refine Calls.mono (rs_int HR0.out hb 1 mx vn h1) ?_
  rintro e w10 ⟨rfl, hR⟩
  have hc := hR.j.c4
  have hzf := hR.j.fz 4
  have hlt := hR.j.lt
  dsimp only [Ins.put] at hc
  have HR1 := hideIt (hR.putN 4 (by decide) (by decide) vn)
  clear hR HR0
  obtain ⟨pl, er, ea⟩ := s1
  have c2 := HR1.out.y.1.c2
  dsimp only at c2
  by_cases hz : er = 0
  · subst hz
    have HE := hideIt (show endR ⟨v, 0, 0, 0, vn, ⟨#[]⟩⟩ (pl, 0, ea) = (⟨v, 0, 0, 0, vn, ⟨#[]⟩⟩, (pl : Int), 0, 0) from if_pos rfl)
    have HS := hideIt HR1.out.held
    have HA8h := hideIt HR1.out.adrew
    have HF8h := hideIt HR1.out.fdrew
    have HFL := hideIt HR1.out.flt
    have HFRw := hideIt HR1.out.frdrew
    go_wp2_with fail
    refine wp_region_held_drew (S := fun w0 => InsAt w0 w2.heap.size ⟨v, 0, 0, 0, vn, ⟨#[]⟩⟩ ∧ w0.cell? ⟨w.heap.size + 2, 1, none⟩ = some (.int .i64 (pl : Int)) ∧ w0.cell? ⟨w.heap.size + 2, 2, none⟩ = some (.int .i64 0) ∧ w0.cell? ⟨w.heap.size + 2, 3, none⟩ = some (.int .i64 ea)) (by kernel_rfl) ?_ (fun hHeld => ?_)
    · exact HS.out _ (Fr.refl _ _).drew
    refine wpAnyH_take (i := 0) (v := ?v366) rfl (by kernel_rfl) (by kernel_rfl) (by kernel_rfl) (fun _ _ _ h => h) (Or.inl ⟨by rfl, ?hy366⟩) (by assumption) ?rest366
    case hy366 => intro w hSw; (try dsimp only at hSw); obtain ⟨hSI, hS1, hS2, hS3⟩ := hSw; have c0 := hSI.c0; have c1 := hSI.c1; have c2 := hSI.c2; have c3 := hSI.c3; have c4 := hSI.c4; have c5 := hSI.c5; go_simp; (try with_reducible rfl)
    try simp only [Act.put, List.getElem_toArray, List.getElem_cons_zero, List.getElem_cons_succ, List.setIfInBounds_toArray, List.set_cons_zero, List.set_cons_succ]
    refine wpAnyH_take (i := 1) (v := ?v367) rfl (by kernel_rfl) (by kernel_rfl) (by kernel_rfl) (fun _ _ _ h => h) (Or.inl ⟨by rfl, ?hy367⟩) (by assumption) ?rest367
    case hy367 => intro w hSw; (try dsimp only at hSw); go_simp; (try with_reducible rfl)
    try simp only [Act.put, List.getElem_toArray, List.getElem_cons_zero, List.getElem_cons_succ, List.setIfInBounds_toArray, List.set_cons_zero, List.set_cons_succ]
    refine wpAnyH_take (i := 2) (v := ?v368) rfl (by kernel_rfl) (by kernel_rfl) (by kernel_rfl) (fun _ _ _ h => h) (Or.inl ⟨by rfl, ?hy368⟩) (by assumption) ?rest368
    case hy368 => intro w hSw; (try dsimp only at hSw); go_simp; (try with_reducible rfl)
    try simp only [Act.put, List.getElem_toArray, List.getElem_cons_zero, List.getElem_cons_succ, List.setIfInBounds_toArray, List.set_cons_zero, List.set_cons_succ]
    refine wpAnyH_take (i := 3) (v := ?v369) rfl (by kernel_rfl) (by kernel_rfl) (by kernel_rfl) (fun _ _ _ h => h) (Or.inl ⟨by rfl, ?hy369⟩) (by assumption) ?rest369
    case hy369 => intro w hSw; (try dsimp only at hSw); go_simp; (try with_reducible rfl)
    try simp only [Act.put, List.getElem_toArray, List.getElem_cons_zero, List.getElem_cons_succ, List.setIfInBounds_toArray, List.set_cons_zero, List.set_cons_succ]
    refine wpAnyH_take (i := 4) (v := ?v370) rfl (by kernel_rfl) (by kernel_rfl) (by kernel_rfl) (fun _ _ _ h => h) (Or.inl ⟨by rfl, ?hy370⟩) (by assumption) ?rest370
    case hy370 => intro w hSw; (try dsimp only at hSw); go_simp; (try with_reducible rfl)
    try simp only [Act.put, List.getElem_toArray, List.getElem_cons_zero, List.getElem_cons_succ, List.setIfInBounds_toArray, List.set_cons_zero, List.set_cons_succ]
    refine wpAnyH_take (i := 5) (v := ?v371) rfl (by kernel_rfl) (by kernel_rfl) (by kernel_rfl) (fun _ _ _ h => h) (Or.inl ⟨by rfl, ?hy371⟩) (by assumption) ?rest371
    case hy371 => intro w hSw; (try dsimp only at hSw); go_simp; (try with_reducible rfl)
    try simp only [Act.put, List.getElem_toArray, List.getElem_cons_zero, List.getElem_cons_succ, List.setIfInBounds_toArray, List.set_cons_zero, List.set_cons_succ]
    refine wpAnyH_ready (rs := [6]) (by kernel_rfl) (by simp) ?_
    refine AllReadyH.cons rfl (fun K hK => ?_) AllReadyH.nil
    rw [if_pos (by rfl)]
    refine wp_store_mid 23 _ _ rfl w.heap.size 0 (icells ⟨v, 0, 0, 0, vn, ⟨#[]⟩⟩) rfl rfl (there_row HA8h.out _ (Nat.le_refl _)) (by kernel_rfl) (icells_one _) ?_
    obtain ⟨hst, hfr⟩ := store_over (V := (icells ⟨v, 0, 0, 0, vn, ⟨#[]⟩⟩)) HA8h.out (by rfl)
    have HA10 := hideIt hst
    have HFr10 := hideIt (hfr.mono (S' := fun k => k = w.heap.size ∨ k = w.heap.size + 1) (fun _ e => Or.inl e))
    have HG10 := hideIt ((hfr.block (w.heap.size + 1) HFL.out (by omega)).trans HF8h.out)
    clear hst hfr
    generalize hW10 : World.setCells _ w.heap.size 0 _ = W10 at *
    clear hW10
    refine hK.out _ _ ?_ (fun hHeld => ?_)
    · exact HS.out _ ((Fr.refl _ _).drew.trans HFr10.out (fun _ _ e => e))
    clear hK K
    try simp only [Act.put, List.getElem_toArray, List.getElem_cons_zero, List.getElem_cons_succ, List.setIfInBounds_toArray, List.set_cons_zero, List.set_cons_succ]
    refine wpAnyH_take (i := 7) (v := ?v372) rfl (by kernel_rfl) (by kernel_rfl) (by kernel_rfl) (fun _ _ _ h => h) (Or.inl ⟨by rfl, ?hy372⟩) (by assumption) ?rest372
    case hy372 => intro w hSw; (try dsimp only at hSw); go_simp; (try with_reducible rfl)
    try simp only [Act.put, List.getElem_toArray, List.getElem_cons_zero, List.getElem_cons_succ, List.setIfInBounds_toArray, List.set_cons_zero, List.set_cons_succ]
    refine wpAnyH_ready (rs := [8]) (by kernel_rfl) (by simp) ?_
    refine AllReadyH.cons rfl (fun K hK => ?_) AllReadyH.nil
    rw [if_pos (by rfl)]
    refine wp_store_mid 36 _ _ rfl (w.heap.size + 1) 0 #[.int .i64 0, .int .i64 0] rfl rfl (there_row HG10.out _ (Nat.le_refl _)) (by kernel_rfl) (fault_one _ _) ?_
    obtain ⟨hst, hfr⟩ := store_over (V := #[.int .i64 0, .int .i64 0]) HG10.out (by rfl)
    have HG11 := hideIt hst
    have HFr11 := hideIt (HFr10.out.trans hfr (fun _ _ e => Or.inr e))
    have HA11 := hideIt ((hfr.block w.heap.size (Array.getElem?_eq_some_iff.1 HA10.out).1 (by omega)).trans HA10.out)
    clear hst hfr
    generalize hW11 : World.setCells _ (w.heap.size + 1) 0 _ = W11 at *
    clear hW11
    refine hK.out _ _ ?_ (fun hHeld => ?_)
    · exact HS.out _ ((Fr.refl _ _).drew.trans HFr11.out (fun _ _ e => e))
    clear hK K
    try simp only [Act.put, List.getElem_toArray, List.getElem_cons_zero, List.getElem_cons_succ, List.setIfInBounds_toArray, List.set_cons_zero, List.set_cons_succ]
    refine wpAnyH_done (by kernel_rfl) ?_ _
    go_wp2_with fail
    have hA0 := cellOfHeap HA11.out 0 rfl
    have hA1 := cellOfHeap HA11.out 1 rfl
    have hA2 := cellOfHeap HA11.out 2 rfl
    have hA3 := cellOfHeap HA11.out 3 rfl
    have hA4 := cellOfHeap HA11.out 4 rfl
    have hA5 := cellOfHeap HA11.out 5 rfl
    have hF0 := cellOfHeap HG11.out 0 rfl
    have hF1 := cellOfHeap HG11.out 1 rfl
    refine bodyPost_ret (v := readV (⟨v, 0, 0, 0, vn, ⟨#[]⟩⟩, (pl : Int), 0, 0)) (by simp [results, Try.results19, go_sem, readV, icells, zeroI, hA0, hA1, hA2, hA3, hA4, hA5, hF0, hF1]) rfl ⟨by rw [HE.out], ?_⟩
    exact HFRw.out.trans HFr11.out (fun k hk e => by omega)
  · have HE := hideIt (show endR ⟨v, 0, 0, 0, vn, ⟨#[]⟩⟩ (pl, er, ea) = (zeroI, 0, er, ea) from if_neg hz)
    have hzb : (er != 0) = true := by simpa using hz
    have HS := hideIt HR1.out.held
    have HA8h := hideIt HR1.out.adrew
    have HF8h := hideIt HR1.out.fdrew
    have HFL := hideIt HR1.out.flt
    have HFRw := hideIt HR1.out.frdrew
    go_wp2_with fail
    refine wp_region_held_drew (S := fun w0 => InsAt w0 w2.heap.size ⟨v, 0, 0, 0, vn, ⟨#[]⟩⟩ ∧ w0.cell? ⟨w.heap.size + 2, 1, none⟩ = some (.int .i64 (pl : Int)) ∧ w0.cell? ⟨w.heap.size + 2, 2, none⟩ = some (.int .i64 er) ∧ w0.cell? ⟨w.heap.size + 2, 3, none⟩ = some (.int .i64 ea)) (by kernel_rfl) ?_ (fun hHeld => ?_)
    · exact HS.out _ (Fr.refl _ _).drew
    refine wpAnyH_take (i := 0) (v := ?v373) rfl (by kernel_rfl) (by kernel_rfl) (by kernel_rfl) (fun _ _ _ h => h) (Or.inl ⟨by rfl, ?hy373⟩) (by assumption) ?rest373
    case hy373 => intro w hSw; (try dsimp only at hSw); go_simp; (try with_reducible rfl)
    try simp only [Act.put, List.getElem_toArray, List.getElem_cons_zero, List.getElem_cons_succ, List.setIfInBounds_toArray, List.set_cons_zero, List.set_cons_succ]
    refine wpAnyH_take (i := 1) (v := ?v374) rfl (by kernel_rfl) (by kernel_rfl) (by kernel_rfl) (fun _ _ _ h => h) (Or.inl ⟨by rfl, ?hy374⟩) (by assumption) ?rest374
    case hy374 => intro w hSw; (try dsimp only at hSw); go_simp; (try with_reducible rfl)
    try simp only [Act.put, List.getElem_toArray, List.getElem_cons_zero, List.getElem_cons_succ, List.setIfInBounds_toArray, List.set_cons_zero, List.set_cons_succ]
    refine wpAnyH_take (i := 2) (v := ?v375) rfl (by kernel_rfl) (by kernel_rfl) (by kernel_rfl) (fun _ _ _ h => h) (Or.inl ⟨by rfl, ?hy375⟩) (by assumption) ?rest375
    case hy375 => intro w hSw; (try dsimp only at hSw); go_simp; (try with_reducible rfl)
    try simp only [Act.put, List.getElem_toArray, List.getElem_cons_zero, List.getElem_cons_succ, List.setIfInBounds_toArray, List.set_cons_zero, List.set_cons_succ]
    refine wpAnyH_take (i := 3) (v := ?v376) rfl (by kernel_rfl) (by kernel_rfl) (by kernel_rfl) (fun _ _ _ h => h) (Or.inl ⟨by rfl, ?hy376⟩) (by assumption) ?rest376
    case hy376 => intro w hSw; (try dsimp only at hSw); go_simp; (try with_reducible rfl)
    try simp only [Act.put, List.getElem_toArray, List.getElem_cons_zero, List.getElem_cons_succ, List.setIfInBounds_toArray, List.set_cons_zero, List.set_cons_succ]
    refine wpAnyH_take (i := 4) (v := ?v377) rfl (by kernel_rfl) (by kernel_rfl) (by kernel_rfl) (fun _ _ _ h => h) (Or.inl ⟨by rfl, ?hy377⟩) (by assumption) ?rest377
    case hy377 => intro w hSw; (try dsimp only at hSw); go_simp; (try with_reducible rfl)
    try simp only [Act.put, List.getElem_toArray, List.getElem_cons_zero, List.getElem_cons_succ, List.setIfInBounds_toArray, List.set_cons_zero, List.set_cons_succ]
    refine wpAnyH_ready (rs := [5]) (by kernel_rfl) (by simp) ?_
    refine AllReadyH.cons rfl (fun K hK => ?_) AllReadyH.nil
    rw [if_pos (by rfl)]
    refine wp_store_mid 23 _ _ rfl w.heap.size 0 (icells zeroI) rfl rfl (there_row HA8h.out _ (Nat.le_refl _)) (by kernel_rfl) (icells_one _) ?_
    obtain ⟨hst, hfr⟩ := store_over (V := (icells zeroI)) HA8h.out (by rfl)
    have HA10 := hideIt hst
    have HFr10 := hideIt (hfr.mono (S' := fun k => k = w.heap.size ∨ k = w.heap.size + 1) (fun _ e => Or.inl e))
    have HG10 := hideIt ((hfr.block (w.heap.size + 1) HFL.out (by omega)).trans HF8h.out)
    clear hst hfr
    generalize hW10 : World.setCells _ w.heap.size 0 _ = W10 at *
    clear hW10
    refine hK.out _ _ ?_ (fun hHeld => ?_)
    · exact HS.out _ ((Fr.refl _ _).drew.trans HFr10.out (fun _ _ e => e))
    clear hK K
    try simp only [Act.put, List.getElem_toArray, List.getElem_cons_zero, List.getElem_cons_succ, List.setIfInBounds_toArray, List.set_cons_zero, List.set_cons_succ]
    refine wpAnyH_take (i := 6) (v := ?v378) rfl (by kernel_rfl) (by kernel_rfl) (by kernel_rfl) (fun _ _ _ h => h) (Or.inl ⟨by rfl, ?hy378⟩) (by assumption) ?rest378
    case hy378 => intro w hSw; (try dsimp only at hSw); go_simp; (try with_reducible rfl)
    try simp only [Act.put, List.getElem_toArray, List.getElem_cons_zero, List.getElem_cons_succ, List.setIfInBounds_toArray, List.set_cons_zero, List.set_cons_succ]
    refine wpAnyH_ready (rs := [7]) (by kernel_rfl) (by simp) ?_
    refine AllReadyH.cons rfl (fun K hK => ?_) AllReadyH.nil
    rw [if_pos (by rfl)]
    refine wp_store_mid 36 _ _ rfl (w.heap.size + 1) 0 #[.int .i64 er, .int .i64 ea] rfl rfl (there_row HG10.out _ (Nat.le_refl _)) (by kernel_rfl) (fault_one _ _) ?_
    obtain ⟨hst, hfr⟩ := store_over (V := #[.int .i64 er, .int .i64 ea]) HG10.out (by rfl)
    have HG11 := hideIt hst
    have HFr11 := hideIt (HFr10.out.trans hfr (fun _ _ e => Or.inr e))
    have HA11 := hideIt ((hfr.block w.heap.size (Array.getElem?_eq_some_iff.1 HA10.out).1 (by omega)).trans HA10.out)
    clear hst hfr
    generalize hW11 : World.setCells _ (w.heap.size + 1) 0 _ = W11 at *
    clear hW11
    refine hK.out _ _ ?_ (fun hHeld => ?_)
    · exact HS.out _ ((Fr.refl _ _).drew.trans HFr11.out (fun _ _ e => e))
    clear hK K
    try simp only [Act.put, List.getElem_toArray, List.getElem_cons_zero, List.getElem_cons_succ, List.setIfInBounds_toArray, List.set_cons_zero, List.set_cons_succ]
    refine wpAnyH_done (by kernel_rfl) ?_ _
    go_wp2_with fail
    have hA0 := cellOfHeap HA11.out 0 rfl
    have hA1 := cellOfHeap HA11.out 1 rfl
    have hA2 := cellOfHeap HA11.out 2 rfl
    have hA3 := cellOfHeap HA11.out 3 rfl
    have hA4 := cellOfHeap HA11.out 4 rfl
    have hA5 := cellOfHeap HA11.out 5 rfl
    have hF0 := cellOfHeap HG11.out 0 rfl
    have hF1 := cellOfHeap HG11.out 1 rfl
    refine bodyPost_ret (v := readV (zeroI, 0, er, ea)) (by simp [results, Try.results19, go_sem, readV, icells, zeroI, hA0, hA1, hA2, hA3, hA4, hA5, hF0, hF1]) rfl ⟨by rw [HE.out], ?_⟩
    exact HFRw.out.trans HFr11.out (fun k hk e => by omega)

end Go.Proofs.Ytpieaenfnajlfaa
