/- Code: the document's Read: letters AS, letters AB. -/
import Derived.Test.YtpieaenfnajlfaaDe
namespace Go.Proofs.Ytpieaenfnajlfaa
open Go.RowKit Go.IntWalk Go.Lib
set_option linter.unusedSimpArgs false
set_option linter.unusedVariables false

set_option maxRecDepth 100000 in
set_option maxHeartbeats 4000000 in
theorem vread_AS (ao : Option Addr) (cap : Nat) (bs : List UInt8) (a : Nat) (w : World) (hB : BsAt w ao bs) (hb : bs.length ≤ 140737488355328) (hcl : bs.length ≤ cap) (hcm : cap ≤ maxLen) (hnb : ∀ k, blk ao k → k < w.heap.size) (ha : a ≤ bs.length) (v : Int) (va : Int) (vs : List UInt8) (s0 s1 s2 : Nat × Int × Int) (h0 : rInt bs 1 15 (a, 0, 0) = (v, s0)) (h1 : rInt bs 0 7 s0 = (va, s1)) (h2 : rText bs 64 s1 = (vs, s2)) (ht : hasT v = (true, false, false, false, true)) :
    Calls Try.prog 19 #[.slice ao bs.length cap, .int .i64 (a : Int)] w fun e w' => e = .returned (readV (endR ⟨v, va, 0, 0, 0, ⟨vs.toArray⟩⟩ s2)) ∧ Fr (fun _ => False) w w' := by
  have hd1 : decide ((a : Int) < 0) = false := decide_eq_false (by omega)
  have hd2 : decide ((bs.length : Int) < (a : Int)) = false := decide_eq_false (by omega)
  have HH := hideIt (fun w => by have := vhas_any v w; rw [ht] at this; exact this)
  unfold hasV at HH
  have HY0 := hideIt (show YOk ((((w.alloc (.cells (icells zeroI) 23)).alloc (.cells #[.int .i64 0, .int .i64 0] 36))).alloc (.cells #[.slice ao bs.length cap, .int .i64 (a : Int), .int .i64 0, .int .i64 0] 73)) (w.heap.size + 2) ao cap bs (a, 0, 0) from
    ⟨⟨heap_new (by simp), hB.fr ((((Fr.refl (fun _ => False) w).alloc _).alloc _).alloc _) (fun _ _ _ e => e)⟩, fun e => by have := hnb _ e; omega, ha⟩)
  have HNB := hideIt hnb
  have HCM := hideIt hcm
  clear hB ht hnb hcm
  go_enter Try.func19, Try.ntmps19
  go_wp2_with fail
  refine Calls.mono (yint_any (w.heap.size + 2) ao cap bs (a, 0, 0) 1 15 _ HY0.out hb) ?_
  rw [h0]
  rintro e w2 ⟨rfl, hy, hF⟩
  have hFa : Fr (fun _ => False) w w2 := ((((Fr.refl (fun _ => False) w).alloc _).alloc _).alloc _).trans hF (fun k hk e => by omega)
  have hsz : w.heap.size + 2 < w2.heap.size := hy.1.lt
  have hF3 : Fr (fun _ => False) w2 (w2.alloc (.cells (icells ⟨v, 0, 0, 0, 0, ⟨#[]⟩⟩) 23)) := (Fr.refl _ _).alloc _
  have HR0 := hideIt (show RS w (w2.alloc (.cells (icells ⟨v, 0, 0, 0, 0, ⟨#[]⟩⟩) 23)) w2.heap.size ao cap bs s0 ⟨v, 0, 0, 0, 0, ⟨#[]⟩⟩ from
    ⟨⟨hy.1.fr hF3 (fun e => e) (fun _ _ _ e => e), hy.2⟩, heap_new rfl, heap_old ((hF.block w.heap.size (by simp; omega) (by omega)).trans (heap_old (heap_old (heap_new rfl)))), heap_old ((hF.block (w.heap.size + 1) (by simp) (by omega)).trans (heap_old (heap_new (by simp)))), hFa.trans hF3 (fun _ _ e => e), hsz, HNB.out⟩)
  clear hy hF hFa hF3 HY0 HNB h0 ha
  go_wp2_with fail
  refine Calls.mono (HH.out _) ?_
  rintro e wx ⟨rfl, rfl⟩
  clear HH
  unfold icells at HR0
  go_wp2_with fail
  refine Calls.mono (rs_int HR0.out hb 0 7 va h1) ?_
  rintro e w10 ⟨rfl, hR⟩
  have hc := hR.j.c1
  have hzf := hR.j.fz 1
  have hlt := hR.j.lt
  dsimp only [Ins.put] at hc
  have HR1 := hideIt (hR.putN 1 (by decide) (by decide) va)
  clear hR HR0
  go_wp2_with fail
  clear hc hzf hlt
  refine Calls.mono (rs_text HR1.out hb hcl HCM.out vs h2) ?_
  rintro e w11 ⟨rfl, hR⟩
  have hc := hR.j.c5
  have hzf := hR.j.fz 5
  have hlt := hR.j.lt
  dsimp only [Ins.put] at hc
  have HR2 := hideIt (hR.putS ⟨vs.toArray⟩)
  clear hR HR1
  obtain ⟨pl, er, ea⟩ := s2
  have c2 := HR2.out.y.1.c2
  dsimp only at c2
  by_cases hz : er = 0
  · subst hz
    have HE := hideIt (show endR ⟨v, va, 0, 0, 0, ⟨vs.toArray⟩⟩ (pl, 0, ea) = (⟨v, va, 0, 0, 0, ⟨vs.toArray⟩⟩, (pl : Int), 0, 0) from if_pos rfl)
    have HS := hideIt HR2.out.held
    have HA8h := hideIt HR2.out.adrew
    have HF8h := hideIt HR2.out.fdrew
    have HFL := hideIt HR2.out.flt
    have HFRw := hideIt HR2.out.frdrew
    go_wp2_with fail
    refine wp_region_held_drew (S := fun w0 => InsAt w0 w2.heap.size ⟨v, va, 0, 0, 0, ⟨vs.toArray⟩⟩ ∧ w0.cell? ⟨w.heap.size + 2, 1, none⟩ = some (.int .i64 (pl : Int)) ∧ w0.cell? ⟨w.heap.size + 2, 2, none⟩ = some (.int .i64 0) ∧ w0.cell? ⟨w.heap.size + 2, 3, none⟩ = some (.int .i64 ea)) (by kernel_rfl) ?_ (fun hHeld => ?_)
    · exact HS.out _ (Fr.refl _ _).drew
    refine wpAnyH_take (i := 0) (v := ?v327) rfl (by kernel_rfl) (by kernel_rfl) (by kernel_rfl) (fun _ _ _ h => h) (Or.inl ⟨by rfl, ?hy327⟩) (by assumption) ?rest327
    case hy327 => intro w hSw; (try dsimp only at hSw); obtain ⟨hSI, hS1, hS2, hS3⟩ := hSw; have c0 := hSI.c0; have c1 := hSI.c1; have c2 := hSI.c2; have c3 := hSI.c3; have c4 := hSI.c4; have c5 := hSI.c5; go_simp; (try with_reducible rfl)
    try simp only [Act.put, List.getElem_toArray, List.getElem_cons_zero, List.getElem_cons_succ, List.setIfInBounds_toArray, List.set_cons_zero, List.set_cons_succ]
    refine wpAnyH_take (i := 1) (v := ?v328) rfl (by kernel_rfl) (by kernel_rfl) (by kernel_rfl) (fun _ _ _ h => h) (Or.inl ⟨by rfl, ?hy328⟩) (by assumption) ?rest328
    case hy328 => intro w hSw; (try dsimp only at hSw); go_simp; (try with_reducible rfl)
    try simp only [Act.put, List.getElem_toArray, List.getElem_cons_zero, List.getElem_cons_succ, List.setIfInBounds_toArray, List.set_cons_zero, List.set_cons_succ]
    refine wpAnyH_take (i := 2) (v := ?v329) rfl (by kernel_rfl) (by kernel_rfl) (by kernel_rfl) (fun _ _ _ h => h) (Or.inl ⟨by rfl, ?hy329⟩) (by assumption) ?rest329
    case hy329 => intro w hSw; (try dsimp only at hSw); go_simp; (try with_reducible rfl)
    try simp only [Act.put, List.getElem_toArray, List.getElem_cons_zero, List.getElem_cons_succ, List.setIfInBounds_toArray, List.set_cons_zero, List.set_cons_succ]
    refine wpAnyH_take (i := 3) (v := ?v330) rfl (by kernel_rfl) (by kernel_rfl) (by kernel_rfl) (fun _ _ _ h => h) (Or.inl ⟨by rfl, ?hy330⟩) (by assumption) ?rest330
    case hy330 => intro w hSw; (try dsimp only at hSw); go_simp; (try with_reducible rfl)
    try simp only [Act.put, List.getElem_toArray, List.getElem_cons_zero, List.getElem_cons_succ, List.setIfInBounds_toArray, List.set_cons_zero, List.set_cons_succ]
    refine wpAnyH_take (i := 4) (v := ?v331) rfl (by kernel_rfl) (by kernel_rfl) (by kernel_rfl) (fun _ _ _ h => h) (Or.inl ⟨by rfl, ?hy331⟩) (by assumption) ?rest331
    case hy331 => intro w hSw; (try dsimp only at hSw); go_simp; (try with_reducible rfl)
    try simp only [Act.put, List.getElem_toArray, List.getElem_cons_zero, List.getElem_cons_succ, List.setIfInBounds_toArray, List.set_cons_zero, List.set_cons_succ]
    refine wpAnyH_take (i := 5) (v := ?v332) rfl (by kernel_rfl) (by kernel_rfl) (by kernel_rfl) (fun _ _ _ h => h) (Or.inl ⟨by rfl, ?hy332⟩) (by assumption) ?rest332
    case hy332 => intro w hSw; (try dsimp only at hSw); go_simp; (try with_reducible rfl)
    try simp only [Act.put, List.getElem_toArray, List.getElem_cons_zero, List.getElem_cons_succ, List.setIfInBounds_toArray, List.set_cons_zero, List.set_cons_succ]
    refine wpAnyH_ready (rs := [6]) (by kernel_rfl) (by simp) ?_
    refine AllReadyH.cons rfl (fun K hK => ?_) AllReadyH.nil
    rw [if_pos (by rfl)]
    refine wp_store_mid 23 _ _ rfl w.heap.size 0 (icells ⟨v, va, 0, 0, 0, ⟨vs.toArray⟩⟩) rfl rfl (there_row HA8h.out _ (Nat.le_refl _)) (by kernel_rfl) (icells_one _) ?_
    obtain ⟨hst, hfr⟩ := store_over (V := (icells ⟨v, va, 0, 0, 0, ⟨vs.toArray⟩⟩)) HA8h.out (by rfl)
    have HA10 := hideIt hst
    have HFr10 := hideIt (hfr.mono (S' := fun k => k = w.heap.size ∨ k = w.heap.size + 1) (fun _ e => Or.inl e))
    have HG10 := hideIt ((hfr.block (w.heap.size + 1) HFL.out (by omega)).trans HF8h.out)
    clear hst hfr
    generalize hW10 : World.setCells _ w.heap.size 0 _ = W10 at *
    clear hW10
    refine hK.out _ _ ?_ (fun hHeld => ?_)
    · exact HS.out _ ((Fr.refl _ _).drew.trans HFr10.out (fun _ _ e => e))
    clear hK K
    try simp only [Act.put, List.getElem_toArray, List.getElem_cons_zero, List.getElem_cons_succ, List.setIfInBounds_toArray, List.set_cons_zero, List.set_cons_succ]
    refine wpAnyH_take (i := 7) (v := ?v333) rfl (by kernel_rfl) (by kernel_rfl) (by kernel_rfl) (fun _ _ _ h => h) (Or.inl ⟨by rfl, ?hy333⟩) (by assumption) ?rest333
    case hy333 => intro w hSw; (try dsimp only at hSw); go_simp; (try with_reducible rfl)
    try simp only [Act.put, List.getElem_toArray, List.getElem_cons_zero, List.getElem_cons_succ, List.setIfInBounds_toArray, List.set_cons_zero, List.set_cons_succ]
    refine wpAnyH_ready (rs := [8]) (by kernel_rfl) (by simp) ?_
    refine AllReadyH.cons rfl (fun K hK => ?_) AllReadyH.nil
    rw [if_pos (by rfl)]
    refine wp_store_mid 36 _ _ rfl (w.heap.size + 1) 0 #[.int .i64 0, .int .i64 0] rfl rfl (there_row HG10.out _ (Nat.le_refl _)) (by kernel_rfl) (fault_one _ _) ?_
    obtain ⟨hst, hfr⟩ := store_over (V := #[.int .i64 0, .int .i64 0]) HG10.out (by rfl)
    have HG11 := hideIt hst
    have HFr11 := hideIt (HFr10.out.trans hfr (fun _ _ e => Or.inr e))
    have HA11 := hideIt ((hfr.block w.heap.size (Array.getElem?_eq_some_iff.1 HA10.out).1 (by omega)).trans HA10.out)
    clear hst hfr
    generalize hW11 : World.setCells _ (w.heap.size + 1) 0 _ = W11 at *
    clear hW11
    refine hK.out _ _ ?_ (fun hHeld => ?_)
    · exact HS.out _ ((Fr.refl _ _).drew.trans HFr11.out (fun _ _ e => e))
    clear hK K
    try simp only [Act.put, List.getElem_toArray, List.getElem_cons_zero, List.getElem_cons_succ, List.setIfInBounds_toArray, List.set_cons_zero, List.set_cons_succ]
    refine wpAnyH_done (by kernel_rfl) ?_ _
    go_wp2_with fail
    have hA0 := cellOfHeap HA11.out 0 rfl
    have hA1 := cellOfHeap HA11.out 1 rfl
    have hA2 := cellOfHeap HA11.out 2 rfl
    have hA3 := cellOfHeap HA11.out 3 rfl
    have hA4 := cellOfHeap HA11.out 4 rfl
    have hA5 := cellOfHeap HA11.out 5 rfl
    have hF0 := cellOfHeap HG11.out 0 rfl
    have hF1 := cellOfHeap HG11.out 1 rfl
    refine bodyPost_ret (v := readV (⟨v, va, 0, 0, 0, ⟨vs.toArray⟩⟩, (pl : Int), 0, 0)) (by simp [results, Try.results19, go_sem, readV, icells, zeroI, hA0, hA1, hA2, hA3, hA4, hA5, hF0, hF1]) rfl ⟨by rw [HE.out], ?_⟩
    exact HFRw.out.trans HFr11.out (fun k hk e => by omega)
  · have HE := hideIt (show endR ⟨v, va, 0, 0, 0, ⟨vs.toArray⟩⟩ (pl, er, ea) = (zeroI, 0, er, ea) from if_neg hz)
    have hzb : (er != 0) = true := by simpa using hz
    have HS := hideIt HR2.out.held
    have HA8h := hideIt HR2.out.adrew
    have HF8h := hideIt HR2.out.fdrew
    have HFL := hideIt HR2.out.flt
    have HFRw := hideIt HR2.out.frdrew
    go_wp2_with fail
    refine wp_region_held_drew (S := fun w0 => InsAt w0 w2.heap.size ⟨v, va, 0, 0, 0, ⟨vs.toArray⟩⟩ ∧ w0.cell? ⟨w.heap.size + 2, 1, none⟩ = some (.int .i64 (pl : Int)) ∧ w0.cell? ⟨w.heap.size + 2, 2, none⟩ = some (.int .i64 er) ∧ w0.cell? ⟨w.heap.size + 2, 3, none⟩ = some (.int .i64 ea)) (by kernel_rfl) ?_ (fun hHeld => ?_)
    · exact HS.out _ (Fr.refl _ _).drew
    refine wpAnyH_take (i := 0) (v := ?v334) rfl (by kernel_rfl) (by kernel_rfl) (by kernel_rfl) (fun _ _ _ h => h) (Or.inl ⟨by rfl, ?hy334⟩) (by assumption) ?rest334
    case hy334 => intro w hSw; (try dsimp only at hSw); go_simp; (try with_reducible rfl)
    try simp only [Act.put, List.getElem_toArray, List.getElem_cons_zero, List.getElem_cons_succ, List.setIfInBounds_toArray, List.set_cons_zero, List.set_cons_succ]
    refine wpAnyH_take (i := 1) (v := ?v335) rfl (by kernel_rfl) (by kernel_rfl) (by kernel_rfl) (fun _ _ _ h => h) (Or.inl ⟨by rfl, ?hy335⟩) (by assumption) ?rest335
    case hy335 => intro w hSw; (try dsimp only at hSw); go_simp; (try with_reducible rfl)
    try simp only [Act.put, List.getElem_toArray, List.getElem_cons_zero, List.getElem_cons_succ, List.setIfInBounds_toArray, List.set_cons_zero, List.set_cons_succ]
    refine wpAnyH_take (i := 2) (v := ?v336) rfl (by kernel_rfl) (by kernel_rfl) (by kernel_rfl) (fun _ _ _ h => h) (Or.inl ⟨by rfl, ?hy336⟩) (by assumption) ?rest336
    case hy336 => intro w hSw; (try dsimp only at hSw); go_simp; (try with_reducible rfl)
    try simp only [Act.put, List.getElem_toArray, List.getElem_cons_zero, List.getElem_cons_succ, List.setIfInBounds_toArray, List.set_cons_zero, List.set_cons_succ]
    refine wpAnyH_take (i := 3) (v := ?v337) rfl (by kernel_rfl) (by kernel_rfl) (by kernel_rfl) (fun _ _ _ h => h) (Or.inl ⟨by rfl, ?hy337⟩) (by assumption) ?rest337
    case hy337 => intro w hSw; (try dsimp only at hSw); go_simp; (try with_reducible rfl)
    try simp only [Act.put, List.getElem_toArray, List.getElem_cons_zero, List.getElem_cons_succ, List.setIfInBounds_toArray, List.set_cons_zero, List.set_cons_succ]
    refine wpAnyH_take (i := 4) (v := ?v338) rfl (by kernel_rfl) (by kernel_rfl) (by kernel_rfl) (fun _ _ _ h => h) (Or.inl ⟨by rfl, ?hy338⟩) (by assumption) ?rest338
    case hy338 => intro w hSw; (try dsimp only at hSw); go_simp; (try with_reducible rfl)
    try simp only [Act.put, List.getElem_toArray, List.getElem_cons_zero, List.getElem_cons_succ, List.setIfInBounds_toArray, List.set_cons_zero, List.set_cons_succ]
    refine wpAnyH_ready (rs := [5]) (by kernel_rfl) (by simp) ?_
    refine AllReadyH.cons rfl (fun K hK => ?_) AllReadyH.nil
    rw [if_pos (by rfl)]
    refine wp_store_mid 23 _ _ rfl w.heap.size 0 (icells zeroI) rfl rfl (there_row HA8h.out _ (Nat.le_refl _)) (by kernel_rfl) (icells_one _) ?_
    obtain ⟨hst, hfr⟩ := store_over (V := (icells zeroI)) HA8h.out (by rfl)
    have HA10 := hideIt hst
    have HFr10 := hideIt (hfr.mono (S' := fun k => k = w.heap.size ∨ k = w.heap.size + 1) (fun _ e => Or.inl e))
    have HG10 := hideIt ((hfr.block (w.heap.size + 1) HFL.out (by omega)).trans HF8h.out)
    clear hst hfr
    generalize hW10 : World.setCells _ w.heap.size 0 _ = W10 at *
    clear hW10
    refine hK.out _ _ ?_ (fun hHeld => ?_)
    · exact HS.out _ ((Fr.refl _ _).drew.trans HFr10.out (fun _ _ e => e))
    clear hK K
    try simp only [Act.put, List.getElem_toArray, List.getElem_cons_zero, List.getElem_cons_succ, List.setIfInBounds_toArray, List.set_cons_zero, List.set_cons_succ]
    refine wpAnyH_take (i := 6) (v := ?v339) rfl (by kernel_rfl) (by kernel_rfl) (by kernel_rfl) (fun _ _ _ h => h) (Or.inl ⟨by rfl, ?hy339⟩) (by assumption) ?rest339
    case hy339 => intro w hSw; (try dsimp only at hSw); go_simp; (try with_reducible rfl)
    try simp only [Act.put, List.getElem_toArray, List.getElem_cons_zero, List.getElem_cons_succ, List.setIfInBounds_toArray, List.set_cons_zero, List.set_cons_succ]
    refine wpAnyH_ready (rs := [7]) (by kernel_rfl) (by simp) ?_
    refine AllReadyH.cons rfl (fun K hK => ?_) AllReadyH.nil
    rw [if_pos (by rfl)]
    refine wp_store_mid 36 _ _ rfl (w.heap.size + 1) 0 #[.int .i64 er, .int .i64 ea] rfl rfl (there_row HG10.out _ (Nat.le_refl _)) (by kernel_rfl) (fault_one _ _) ?_
    obtain ⟨hst, hfr⟩ := store_over (V := #[.int .i64 er, .int .i64 ea]) HG10.out (by rfl)
    have HG11 := hideIt hst
    have HFr11 := hideIt (HFr10.out.trans hfr (fun _ _ e => Or.inr e))
    have HA11 := hideIt ((hfr.block w.heap.size (Array.getElem?_eq_some_iff.1 HA10.out).1 (by omega)).trans HA10.out)
    clear hst hfr
    generalize hW11 : World.setCells _ (w.heap.size + 1) 0 _ = W11 at *
    clear hW11
    refine hK.out _ _ ?_ (fun hHeld => ?_)
    · exact HS.out _ ((Fr.refl _ _).drew.trans HFr11.out (fun _ _ e => e))
    clear hK K
    try simp only [Act.put, List.getElem_toArray, List.getElem_cons_zero, List.getElem_cons_succ, List.setIfInBounds_toArray, List.set_cons_zero, List.set_cons_succ]
    refine wpAnyH_done (by kernel_rfl) ?_ _
    go_wp2_with fail
    have hA0 := cellOfHeap HA11.out 0 rfl
    have hA1 := cellOfHeap HA11.out 1 rfl
    have hA2 := cellOfHeap HA11.out 2 rfl
    have hA3 := cellOfHeap HA11.out 3 rfl
    have hA4 := cellOfHeap HA11.out 4 rfl
    have hA5 := cellOfHeap HA11.out 5 rfl
    have hF0 := cellOfHeap HG11.out 0 rfl
    have hF1 := cellOfHeap HG11.out 1 rfl
    refine bodyPost_ret (v := readV (zeroI, 0, er, ea)) (by simp [results, Try.results19, go_sem, readV, icells, zeroI, hA0, hA1, hA2, hA3, hA4, hA5, hF0, hF1]) rfl ⟨by rw [HE.out], ?_⟩
    exact HFRw.out.trans HFr11.out (fun k hk e => by omega)

set_option maxRecDepth 100000 in
set_option maxHeartbeats 4000000 in
theorem vread_AB (ao : Option Addr) (cap : Nat) (bs : List UInt8) (a : Nat) (w : World) (hB : BsAt w ao bs) (hb : bs.length ≤ 140737488355328) (hcl : bs.length ≤ cap) (hcm : cap ≤ maxLen) (hnb : ∀ k, blk ao k → k < w.heap.size) (ha : a ≤ bs.length) (v : Int) (va : Int) (vb : Int) (s0 s1 s2 : Nat × Int × Int) (h0 : rInt bs 1 15 (a, 0, 0) = (v, s0)) (h1 : rInt bs 0 7 s0 = (va, s1)) (h2 : rInt bs 0 7 s1 = (vb, s2)) (ht : hasT v = (true, true, false, false, false)) :
    Calls Try.prog 19 #[.slice ao bs.length cap, .int .i64 (a : Int)] w fun e w' => e = .returned (readV (endR ⟨v, va, vb, 0, 0, ⟨#[]⟩⟩ s2)) ∧ Fr (fun _ => False) w w' := by
  have hd1 : decide ((a : Int) < 0) = false := decide_eq_false (by omega)
  have hd2 : decide ((bs.length : Int) < (a : Int)) = false := decide_eq_false (by omega)
  have HH := hideIt (fun w => by have := vhas_any v w; rw [ht] at this; exact this)
  unfold hasV at HH
  have HY0 := hideIt (show YOk ((((w.alloc (.cells (icells zeroI) 23)).alloc (.cells #[.int .i64 0, .int .i64 0] 36))).alloc (.cells #[.slice ao bs.length cap, .int .i64 (a : Int), .int .i64 0, .int .i64 0] 73)) (w.heap.size + 2) ao cap bs (a, 0, 0) from
    ⟨⟨heap_new (by simp), hB.fr ((((Fr.refl (fun _ => False) w).alloc _).alloc _).alloc _) (fun _ _ _ e => e)⟩, fun e => by have := hnb _ e; omega, ha⟩)
  have HNB := hideIt hnb
  have HCM := hideIt hcm
  clear hB ht hnb hcm
  go_enter Try.func19, Try.ntmps19
  go_wp2_with fail
  refine Calls.mono (yint_any (w.heap.size + 2) ao cap bs (a, 0, 0) 1 15 _ HY0.out hb) ?_
  rw [h0]
  rintro e w2 ⟨rfl, hy, hF⟩
  have hFa : Fr (fun _ => False) w w2 := ((((Fr.refl (fun _ => False) w).alloc _).alloc _).alloc _).trans hF (fun k hk e => by omega)
  have hsz : w.heap.size + 2 < w2.heap.size := hy.1.lt
  have hF3 : Fr (fun _ => False) w2 (w2.alloc (.cells (icells ⟨v, 0, 0, 0, 0, ⟨#[]⟩⟩) 23)) := (Fr.refl _ _).alloc _
  have HR0 := hideIt (show RS w (w2.alloc (.cells (icells ⟨v, 0, 0, 0, 0, ⟨#[]⟩⟩) 23)) w2.heap.size ao cap bs s0 ⟨v, 0, 0, 0, 0, ⟨#[]⟩⟩ from
    ⟨⟨hy.1.fr hF3 (fun e => e) (fun _ _ _ e => e), hy.2⟩, heap_new rfl, heap_old ((hF.block w.heap.size (by simp; omega) (by omega)).trans (heap_old (heap_old (heap_new rfl)))), heap_old ((hF.block (w.heap.size + 1) (by simp) (by omega)).trans (heap_old (heap_new (by simp)))), hFa.trans hF3 (fun _ _ e => e), hsz, HNB.out⟩)
  clear hy hF hFa hF3 HY0 HNB h0 ha
  go_wp2_with fail
  refine Calls.mono (HH.out _) ?_
  rintro e wx ⟨rfl, rfl⟩
  clear HH
  unfold icells at HR0
  go_wp2_with fail
  refine Calls.mono (rs_int HR0.out hb 0 7 va h1) ?_
  rintro e w10 ⟨rfl, hR⟩
  have hc := hR.j.c1
  have hzf := hR.j.fz 1
  have hlt := hR.j.lt
  dsimp only [Ins.put] at hc
  have HR1 := hideIt (hR.putN 1 (by decide) (by decide) va)
  clear hR HR0
  go_wp2_with fail
  clear hc hzf hlt
  refine Calls.mono (rs_int HR1.out hb 0 7 vb h2) ?_
  rintro e w11 ⟨rfl, hR⟩
  have hc := hR.j.c2
  have hzf := hR.j.fz 2
  have hlt := hR.j.lt
  dsimp only [Ins.put] at hc
  have HR2 := hideIt (hR.putN 2 (by decide) (by decide) vb)
  clear hR HR1
  obtain ⟨pl, er, ea⟩ := s2
  have c2 := HR2.out.y.1.c2
  dsimp only at c2
  by_cases hz : er = 0
  · subst hz
    have HE := hideIt (show endR ⟨v, va, vb, 0, 0, ⟨#[]⟩⟩ (pl, 0, ea) = (⟨v, va, vb, 0, 0, ⟨#[]⟩⟩, (pl : Int), 0, 0) from if_pos rfl)
    have HS := hideIt HR2.out.held
    have HA8h := hideIt HR2.out.adrew
    have HF8h := hideIt HR2.out.fdrew
    have HFL := hideIt HR2.out.flt
    have HFRw := hideIt HR2.out.frdrew
    go_wp2_with fail
    refine wp_region_held_drew (S := fun w0 => InsAt w0 w2.heap.size ⟨v, va, vb, 0, 0, ⟨#[]⟩⟩ ∧ w0.cell? ⟨w.heap.size + 2, 1, none⟩ = some (.int .i64 (pl : Int)) ∧ w0.cell? ⟨w.heap.size + 2, 2, none⟩ = some (.int .i64 0) ∧ w0.cell? ⟨w.heap.size + 2, 3, none⟩ = some (.int .i64 ea)) (by kernel_rfl) ?_ (fun hHeld => ?_)
    · exact HS.out _ (Fr.refl _ _).drew
    refine wpAnyH_take (i := 0) (v := ?v340) rfl (by kernel_rfl) (by kernel_rfl) (by kernel_rfl) (fun _ _ _ h => h) (Or.inl ⟨by rfl, ?hy340⟩) (by assumption) ?rest340
    case hy340 => intro w hSw; (try dsimp only at hSw); obtain ⟨hSI, hS1, hS2, hS3⟩ := hSw; have c0 := hSI.c0; have c1 := hSI.c1; have c2 := hSI.c2; have c3 := hSI.c3; have c4 := hSI.c4; have c5 := hSI.c5; go_simp; (try with_reducible rfl)
    try simp only [Act.put, List.getElem_toArray, List.getElem_cons_zero, List.getElem_cons_succ, List.setIfInBounds_toArray, List.set_cons_zero, List.set_cons_succ]
    refine wpAnyH_take (i := 1) (v := ?v341) rfl (by kernel_rfl) (by kernel_rfl) (by kernel_rfl) (fun _ _ _ h => h) (Or.inl ⟨by rfl, ?hy341⟩) (by assumption) ?rest341
    case hy341 => intro w hSw; (try dsimp only at hSw); go_simp; (try with_reducible rfl)
    try simp only [Act.put, List.getElem_toArray, List.getElem_cons_zero, List.getElem_cons_succ, List.setIfInBounds_toArray, List.set_cons_zero, List.set_cons_succ]
    refine wpAnyH_take (i := 2) (v := ?v342) rfl (by kernel_rfl) (by kernel_rfl) (by kernel_rfl) (fun _ _ _ h => h) (Or.inl ⟨by rfl, ?hy342⟩) (by assumption) ?rest342
    case hy342 => intro w hSw; (try dsimp only at hSw); go_simp; (try with_reducible rfl)
    try simp only [Act.put, List.getElem_toArray, List.getElem_cons_zero, List.getElem_cons_succ, List.setIfInBounds_toArray, List.set_cons_zero, List.set_cons_succ]
    refine wpAnyH_take (i := 3) (v := ?v343) rfl (by kernel_rfl) (by kernel_rfl) (by kernel_rfl) (fun _ _ _ h => h) (Or.inl ⟨by rfl, ?hy343⟩) (by assumption) ?rest343
    case hy343 => intro w hSw; (try dsimp only at hSw); go_simp; (try with_reducible rfl)
    try simp only [Act.put, List.getElem_toArray, List.getElem_cons_zero, List.getElem_cons_succ, List.setIfInBounds_toArray, List.set_cons_zero, List.set_cons_succ]
    refine wpAnyH_take (i := 4) (v := ?v344) rfl (by kernel_rfl) (by kernel_rfl) (by kernel_rfl) (fun _ _ _ h => h) (Or.inl ⟨by rfl, ?hy344⟩) (by assumption) ?rest344
    case hy344 => intro w hSw; (try dsimp only at hSw); go_simp; (try with_reducible rfl)
    try simp only [Act.put, List.getElem_toArray, List.getElem_cons_zero, List.getElem_cons_succ, List.setIfInBounds_toArray, List.set_cons_zero, List.set_cons_succ]
    refine wpAnyH_take (i := 5) (v := ?v345) rfl (by kernel_rfl) (by kernel_rfl) (by kernel_rfl) (fun _ _ _ h => h) (Or.inl ⟨by rfl, ?hy345⟩) (by assumption) ?rest345
    case hy345 => intro w hSw; (try dsimp only at hSw); go_simp; (try with_reducible rfl)
    try simp only [Act.put, List.getElem_toArray, List.getElem_cons_zero, List.getElem_cons_succ, List.setIfInBounds_toArray, List.set_cons_zero, List.set_cons_succ]
    refine wpAnyH_ready (rs := [6]) (by kernel_rfl) (by simp) ?_
    refine AllReadyH.cons rfl (fun K hK => ?_) AllReadyH.nil
    rw [if_pos (by rfl)]
    refine wp_store_mid 23 _ _ rfl w.heap.size 0 (icells ⟨v, va, vb, 0, 0, ⟨#[]⟩⟩) rfl rfl (there_row HA8h.out _ (Nat.le_refl _)) (by kernel_rfl) (icells_one _) ?_
    obtain ⟨hst, hfr⟩ := store_over (V := (icells ⟨v, va, vb, 0, 0, ⟨#[]⟩⟩)) HA8h.out (by rfl)
    have HA10 := hideIt hst
    have HFr10 := hideIt (hfr.mono (S' := fun k => k = w.heap.size ∨ k = w.heap.size + 1) (fun _ e => Or.inl e))
    have HG10 := hideIt ((hfr.block (w.heap.size + 1) HFL.out (by omega)).trans HF8h.out)
    clear hst hfr
    generalize hW10 : World.setCells _ w.heap.size 0 _ = W10 at *
    clear hW10
    refine hK.out _ _ ?_ (fun hHeld => ?_)
    · exact HS.out _ ((Fr.refl _ _).drew.trans HFr10.out (fun _ _ e => e))
    clear hK K
    try simp only [Act.put, List.getElem_toArray, List.getElem_cons_zero, List.getElem_cons_succ, List.setIfInBounds_toArray, List.set_cons_zero, List.set_cons_succ]
    refine wpAnyH_take (i := 7) (v := ?v346) rfl (by kernel_rfl) (by kernel_rfl) (by kernel_rfl) (fun _ _ _ h => h) (Or.inl ⟨by rfl, ?hy346⟩) (by assumption) ?rest346
    case hy346 => intro w hSw; (try dsimp only at hSw); go_simp; (try with_reducible rfl)
    try simp only [Act.put, List.getElem_toArray, List.getElem_cons_zero, List.getElem_cons_succ, List.setIfInBounds_toArray, List.set_cons_zero, List.set_cons_succ]
    refine wpAnyH_ready (rs := [8]) (by kernel_rfl) (by simp) ?_
    refine AllReadyH.cons rfl (fun K hK => ?_) AllReadyH.nil
    rw [if_pos (by rfl)]
    refine wp_store_mid 36 _ _ rfl (w.heap.size + 1) 0 #[.int .i64 0, .int .i64 0] rfl rfl (there_row HG10.out _ (Nat.le_refl _)) (by kernel_rfl) (fault_one _ _) ?_
    obtain ⟨hst, hfr⟩ := store_over (V := #[.int .i64 0, .int .i64 0]) HG10.out (by rfl)
    have HG11 := hideIt hst
    have HFr11 := hideIt (HFr10.out.trans hfr (fun _ _ e => Or.inr e))
    have HA11 := hideIt ((hfr.block w.heap.size (Array.getElem?_eq_some_iff.1 HA10.out).1 (by omega)).trans HA10.out)
    clear hst hfr
    generalize hW11 : World.setCells _ (w.heap.size + 1) 0 _ = W11 at *
    clear hW11
    refine hK.out _ _ ?_ (fun hHeld => ?_)
    · exact HS.out _ ((Fr.refl _ _).drew.trans HFr11.out (fun _ _ e => e))
    clear hK K
    try simp only [Act.put, List.getElem_toArray, List.getElem_cons_zero, List.getElem_cons_succ, List.setIfInBounds_toArray, List.set_cons_zero, List.set_cons_succ]
    refine wpAnyH_done (by kernel_rfl) ?_ _
    go_wp2_with fail
    have hA0 := cellOfHeap HA11.out 0 rfl
    have hA1 := cellOfHeap HA11.out 1 rfl
    have hA2 := cellOfHeap HA11.out 2 rfl
    have hA3 := cellOfHeap HA11.out 3 rfl
    have hA4 := cellOfHeap HA11.out 4 rfl
    have hA5 := cellOfHeap HA11.out 5 rfl
    have hF0 := cellOfHeap HG11.out 0 rfl
    have hF1 := cellOfHeap HG11.out 1 rfl
    refine bodyPost_ret (v := readV (⟨v, va, vb, 0, 0, ⟨#[]⟩⟩, (pl : Int), 0, 0)) (by simp [results, Try.results19, go_sem, readV, icells, zeroI, hA0, hA1, hA2, hA3, hA4, hA5, hF0, hF1]) rfl ⟨by rw [HE.out], ?_⟩
    exact HFRw.out.trans HFr11.out (fun k hk e => by omega)
  · have HE := hideIt (show endR ⟨v, va, vb, 0, 0, ⟨#[]⟩⟩ (pl, er, ea) = (zeroI, 0, er, ea) from if_neg hz)
    have hzb : (er != 0) = true := by simpa using hz
    have HS := hideIt HR2.out.held
    have HA8h := hideIt HR2.out.adrew
    have HF8h := hideIt HR2.out.fdrew
    have HFL := hideIt HR2.out.flt
    have HFRw := hideIt HR2.out.frdrew
    go_wp2_with fail
    refine wp_region_held_drew (S := fun w0 => InsAt w0 w2.heap.size ⟨v, va, vb, 0, 0, ⟨#[]⟩⟩ ∧ w0.cell? ⟨w.heap.size + 2, 1, none⟩ = some (.int .i64 (pl : Int)) ∧ w0.cell? ⟨w.heap.size + 2, 2, none⟩ = some (.int .i64 er) ∧ w0.cell? ⟨w.heap.size + 2, 3, none⟩ = some (.int .i64 ea)) (by kernel_rfl) ?_ (fun hHeld => ?_)
    · exact HS.out _ (Fr.refl _ _).drew
    refine wpAnyH_take (i := 0) (v := ?v347) rfl (by kernel_rfl) (by kernel_rfl) (by kernel_rfl) (fun _ _ _ h => h) (Or.inl ⟨by rfl, ?hy347⟩) (by assumption) ?rest347
    case hy347 => intro w hSw; (try dsimp only at hSw); go_simp; (try with_reducible rfl)
    try simp only [Act.put, List.getElem_toArray, List.getElem_cons_zero, List.getElem_cons_succ, List.setIfInBounds_toArray, List.set_cons_zero, List.set_cons_succ]
    refine wpAnyH_take (i := 1) (v := ?v348) rfl (by kernel_rfl) (by kernel_rfl) (by kernel_rfl) (fun _ _ _ h => h) (Or.inl ⟨by rfl, ?hy348⟩) (by assumption) ?rest348
    case hy348 => intro w hSw; (try dsimp only at hSw); go_simp; (try with_reducible rfl)
    try simp only [Act.put, List.getElem_toArray, List.getElem_cons_zero, List.getElem_cons_succ, List.setIfInBounds_toArray, List.set_cons_zero, List.set_cons_succ]
    refine wpAnyH_take (i := 2) (v := ?v349) rfl (by kernel_rfl) (by kernel_rfl) (by kernel_rfl) (fun _ _ _ h => h) (Or.inl ⟨by rfl, ?hy349⟩) (by assumption) ?rest349
    case hy349 => intro w hSw; (try dsimp only at hSw); go_simp; (try with_reducible rfl)
    try simp only [Act.put, List.getElem_toArray, List.getElem_cons_zero, List.getElem_cons_succ, List.setIfInBounds_toArray, List.set_cons_zero, List.set_cons_succ]
    refine wpAnyH_take (i := 3) (v := ?v350) rfl (by kernel_rfl) (by kernel_rfl) (by kernel_rfl) (fun _ _ _ h => h) (Or.inl ⟨by rfl, ?hy350⟩) (by assumption) ?rest350
    case hy350 => intro w hSw; (try dsimp only at hSw); go_simp; (try with_reducible rfl)
    try simp only [Act.put, List.getElem_toArray, List.getElem_cons_zero, List.getElem_cons_succ, List.setIfInBounds_toArray, List.set_cons_zero, List.set_cons_succ]
    refine wpAnyH_take (i := 4) (v := ?v351) rfl (by kernel_rfl) (by kernel_rfl) (by kernel_rfl) (fun _ _ _ h => h) (Or.inl ⟨by rfl, ?hy351⟩) (by assumption) ?rest351
    case hy351 => intro w hSw; (try dsimp only at hSw); go_simp; (try with_reducible rfl)
    try simp only [Act.put, List.getElem_toArray, List.getElem_cons_zero, List.getElem_cons_succ, List.setIfInBounds_toArray, List.set_cons_zero, List.set_cons_succ]
    refine wpAnyH_ready (rs := [5]) (by kernel_rfl) (by simp) ?_
    refine AllReadyH.cons rfl (fun K hK => ?_) AllReadyH.nil
    rw [if_pos (by rfl)]
    refine wp_store_mid 23 _ _ rfl w.heap.size 0 (icells zeroI) rfl rfl (there_row HA8h.out _ (Nat.le_refl _)) (by kernel_rfl) (icells_one _) ?_
    obtain ⟨hst, hfr⟩ := store_over (V := (icells zeroI)) HA8h.out (by rfl)
    have HA10 := hideIt hst
    have HFr10 := hideIt (hfr.mono (S' := fun k => k = w.heap.size ∨ k = w.heap.size + 1) (fun _ e => Or.inl e))
    have HG10 := hideIt ((hfr.block (w.heap.size + 1) HFL.out (by omega)).trans HF8h.out)
    clear hst hfr
    generalize hW10 : World.setCells _ w.heap.size 0 _ = W10 at *
    clear hW10
    refine hK.out _ _ ?_ (fun hHeld => ?_)
    · exact HS.out _ ((Fr.refl _ _).drew.trans HFr10.out (fun _ _ e => e))
    clear hK K
    try simp only [Act.put, List.getElem_toArray, List.getElem_cons_zero, List.getElem_cons_succ, List.setIfInBounds_toArray, List.set_cons_zero, List.set_cons_succ]
    refine wpAnyH_take (i := 6) (v := ?v352) rfl (by kernel_rfl) (by kernel_rfl) (by kernel_rfl) (fun _ _ _ h => h) (Or.inl ⟨by rfl, ?hy352⟩) (by assumption) ?rest352
    case hy352 => intro w hSw; (try dsimp only at hSw); go_simp; (try with_reducible rfl)
    try simp only [Act.put, List.getElem_toArray, List.getElem_cons_zero, List.getElem_cons_succ, List.setIfInBounds_toArray, List.set_cons_zero, List.set_cons_succ]
    refine wpAnyH_ready (rs := [7]) (by kernel_rfl) (by simp) ?_
    refine AllReadyH.cons rfl (fun K hK => ?_) AllReadyH.nil
    rw [if_pos (by rfl)]
    refine wp_store_mid 36 _ _ rfl (w.heap.size + 1) 0 #[.int .i64 er, .int .i64 ea] rfl rfl (there_row HG10.out _ (Nat.le_refl _)) (by kernel_rfl) (fault_one _ _) ?_
    obtain ⟨hst, hfr⟩ := store_over (V := #[.int .i64 er, .int .i64 ea]) HG10.out (by rfl)
    have HG11 := hideIt hst
    have HFr11 := hideIt (HFr10.out.trans hfr (fun _ _ e => Or.inr e))
    have HA11 := hideIt ((hfr.block w.heap.size (Array.getElem?_eq_some_iff.1 HA10.out).1 (by omega)).trans HA10.out)
    clear hst hfr
    generalize hW11 : World.setCells _ (w.heap.size + 1) 0 _ = W11 at *
    clear hW11
    refine hK.out _ _ ?_ (fun hHeld => ?_)
    · exact HS.out _ ((Fr.refl _ _).drew.trans HFr11.out (fun _ _ e => e))
    clear hK K
    try simp only [Act.put, List.getElem_toArray, List.getElem_cons_zero, List.getElem_cons_succ, List.setIfInBounds_toArray, List.set_cons_zero, List.set_cons_succ]
    refine wpAnyH_done (by kernel_rfl) ?_ _
    go_wp2_with fail
    have hA0 := cellOfHeap HA11.out 0 rfl
    have hA1 := cellOfHeap HA11.out 1 rfl
    have hA2 := cellOfHeap HA11.out 2 rfl
    have hA3 := cellOfHeap HA11.out 3 rfl
    have hA4 := cellOfHeap HA11.out 4 rfl
    have hA5 := cellOfHeap HA11.out 5 rfl
    have hF0 := cellOfHeap HG11.out 0 rfl
    have hF1 := cellOfHeap HG11.out 1 rfl
    refine bodyPost_ret (v := readV (zeroI, 0, er, ea)) (by simp [results, Try.results19, go_sem, readV, icells, zeroI, hA0, hA1, hA2, hA3, hA4, hA5, hF0, hF1]) rfl ⟨by rw [HE.out], ?_⟩
    exact HFRw.out.trans HFr11.out (fun k hk e => by omega)

end Go.Proofs.Ytpieaenfnajlfaa
