/- Code: the document's Read: letters none, letters A. -/
import Derived.Test.YtpieaenfnajlfaaDe
namespace Go.Proofs.Ytpieaenfnajlfaa
open Go.RowKit Go.IntWalk Go.Lib
set_option linter.unusedSimpArgs false
set_option linter.unusedVariables false

set_option maxRecDepth 100000 in
set_option maxHeartbeats 4000000 in
theorem vread_O (ao : Option Addr) (cap : Nat) (bs : List UInt8) (a : Nat) (w : World) (hB : BsAt w ao bs) (hb : bs.length ≤ 140737488355328) (hcl : bs.length ≤ cap) (hcm : cap ≤ maxLen) (hnb : ∀ k, blk ao k → k < w.heap.size) (ha : a ≤ bs.length) (v : Int) (s0 : Nat × Int × Int) (h0 : rInt bs 1 15 (a, 0, 0) = (v, s0)) (ht : hasT v = (false, false, false, false, false)) :
    Calls Try.prog 19 #[.slice ao bs.length cap, .int .i64 (a : Int)] w fun e w' => e = .returned (readV (endR ⟨v, 0, 0, 0, 0, ⟨#[]⟩⟩ s0)) ∧ Fr (fun _ => False) w w' := by
  have hd1 : decide ((a : Int) < 0) = false := decide_eq_false (by omega)
  have hd2 : decide ((bs.length : Int) < (a : Int)) = false := decide_eq_false (by omega)
  have HH := hideIt (fun w => by have := vhas_any v w; rw [ht] at this; exact this)
  unfold hasV at HH
  have HY0 := hideIt (show YOk ((((w.alloc (.cells (icells zeroI) 23)).alloc (.cells #[.int .i64 0, .int .i64 0] 36))).alloc (.cells #[.slice ao bs.length cap, .int .i64 (a : Int), .int .i64 0, .int .i64 0] 73)) (w.heap.size + 2) ao cap bs (a, 0, 0) from
    ⟨⟨heap_new (by simp), hB.fr ((((Fr.refl (fun _ => False) w).alloc _).alloc _).alloc _) (fun _ _ _ e => e)⟩, fun e => by have := hnb _ e; omega, ha⟩)
  have HNB := hideIt hnb
  have HCM := hideIt hcm
  clear hB ht hnb hcm
  go_enter Try.func19, Try.ntmps19
  go_wp2_with fail
  refine Calls.mono (yint_any (w.heap.size + 2) ao cap bs (a, 0, 0) 1 15 _ HY0.out hb) ?_
  rw [h0]
  rintro e w2 ⟨rfl, hy, hF⟩
  have hFa : Fr (fun _ => False) w w2 := ((((Fr.refl (fun _ => False) w).alloc _).alloc _).alloc _).trans hF (fun k hk e => by omega)
  have hsz : w.heap.size + 2 < w2.heap.size := hy.1.lt
  have hF3 : Fr (fun _ => False) w2 (w2.alloc (.cells (icells ⟨v, 0, 0, 0, 0, ⟨#[]⟩⟩) 23)) := (Fr.refl _ _).alloc _
  have HR0 := hideIt (show RS w (w2.alloc (.cells (icells ⟨v, 0, 0, 0, 0, ⟨#[]⟩⟩) 23)) w2.heap.size ao cap bs s0 ⟨v, 0, 0, 0, 0, ⟨#[]⟩⟩ from
    ⟨⟨hy.1.fr hF3 (fun e => e) (fun _ _ _ e => e), hy.2⟩, heap_new rfl, heap_old ((hF.block w.heap.size (by simp; omega) (by omega)).trans (heap_old (heap_old (heap_new rfl)))), heap_old ((hF.block (w.heap.size + 1) (by simp) (by omega)).trans (heap_old (heap_new (by simp)))), hFa.trans hF3 (fun _ _ e => e), hsz, HNB.out⟩)
  clear hy hF hFa hF3 HY0 HNB h0 ha
  go_wp2_with fail
  refine Calls.mono (HH.out _) ?_
  rintro e wx ⟨rfl, rfl⟩
  clear HH
  unfold icells at HR0
  obtain ⟨pl, er, ea⟩ := s0
  have c2 := HR0.out.y.1.c2
  dsimp only at c2
  by_cases hz : er = 0
  · subst hz
    have HE := hideIt (show endR ⟨v, 0, 0, 0, 0, ⟨#[]⟩⟩ (pl, 0, ea) = (⟨v, 0, 0, 0, 0, ⟨#[]⟩⟩, (pl : Int), 0, 0) from if_pos rfl)
    have HS := hideIt HR0.out.held
    have HA8h := hideIt HR0.out.adrew
    have HF8h := hideIt HR0.out.fdrew
    have HFL := hideIt HR0.out.flt
    have HFRw := hideIt HR0.out.frdrew
    go_wp2_with fail
    refine wp_region_held_drew (S := fun w0 => InsAt w0 w2.heap.size ⟨v, 0, 0, 0, 0, ⟨#[]⟩⟩ ∧ w0.cell? ⟨w.heap.size + 2, 1, none⟩ = some (.int .i64 (pl : Int)) ∧ w0.cell? ⟨w.heap.size + 2, 2, none⟩ = some (.int .i64 0) ∧ w0.cell? ⟨w.heap.size + 2, 3, none⟩ = some (.int .i64 ea)) (by kernel_rfl) ?_ (fun hHeld => ?_)
    · exact HS.out _ (Fr.refl _ _).drew
    refine wpAnyH_take (i := 0) (v := ?v301) rfl (by kernel_rfl) (by kernel_rfl) (by kernel_rfl) (fun _ _ _ h => h) (Or.inl ⟨by rfl, ?hy301⟩) (by assumption) ?rest301
    case hy301 => intro w hSw; (try dsimp only at hSw); obtain ⟨hSI, hS1, hS2, hS3⟩ := hSw; have c0 := hSI.c0; have c1 := hSI.c1; have c2 := hSI.c2; have c3 := hSI.c3; have c4 := hSI.c4; have c5 := hSI.c5; go_simp; (try with_reducible rfl)
    try simp only [Act.put, List.getElem_toArray, List.getElem_cons_zero, List.getElem_cons_succ, List.setIfInBounds_toArray, List.set_cons_zero, List.set_cons_succ]
    refine wpAnyH_take (i := 1) (v := ?v302) rfl (by kernel_rfl) (by kernel_rfl) (by kernel_rfl) (fun _ _ _ h => h) (Or.inl ⟨by rfl, ?hy302⟩) (by assumption) ?rest302
    case hy302 => intro w hSw; (try dsimp only at hSw); go_simp; (try with_reducible rfl)
    try simp only [Act.put, List.getElem_toArray, List.getElem_cons_zero, List.getElem_cons_succ, List.setIfInBounds_toArray, List.set_cons_zero, List.set_cons_succ]
    refine wpAnyH_take (i := 2) (v := ?v303) rfl (by kernel_rfl) (by kernel_rfl) (by kernel_rfl) (fun _ _ _ h => h) (Or.inl ⟨by rfl, ?hy303⟩) (by assumption) ?rest303
    case hy303 => intro w hSw; (try dsimp only at hSw); go_simp; (try with_reducible rfl)
    try simp only [Act.put, List.getElem_toArray, List.getElem_cons_zero, List.getElem_cons_succ, List.setIfInBounds_toArray, List.set_cons_zero, List.set_cons_succ]
    refine wpAnyH_take (i := 3) (v := ?v304) rfl (by kernel_rfl) (by kernel_rfl) (by kernel_rfl) (fun _ _ _ h => h) (Or.inl ⟨by rfl, ?hy304⟩) (by assumption) ?rest304
    case hy304 => intro w hSw; (try dsimp only at hSw); go_simp; (try with_reducible rfl)
    try simp only [Act.put, List.getElem_toArray, List.getElem_cons_zero, List.getElem_cons_succ, List.setIfInBounds_toArray, List.set_cons_zero, List.set_cons_succ]
    refine wpAnyH_take (i := 4) (v := ?v305) rfl (by kernel_rfl) (by kernel_rfl) (by kernel_rfl) (fun _ _ _ h => h) (Or.inl ⟨by rfl, ?hy305⟩) (by assumption) ?rest305
    case hy305 => intro w hSw; (try dsimp only at hSw); go_simp; (try with_reducible rfl)
    try simp only [Act.put, List.getElem_toArray, List.getElem_cons_zero, List.getElem_cons_succ, List.setIfInBounds_toArray, List.set_cons_zero, List.set_cons_succ]
    refine wpAnyH_take (i := 5) (v := ?v306) rfl (by kernel_rfl) (by kernel_rfl) (by kernel_rfl) (fun _ _ _ h => h) (Or.inl ⟨by rfl, ?hy306⟩) (by assumption) ?rest306
    case hy306 => intro w hSw; (try dsimp only at hSw); go_simp; (try with_reducible rfl)
    try simp only [Act.put, List.getElem_toArray, List.getElem_cons_zero, List.getElem_cons_succ, List.setIfInBounds_toArray, List.set_cons_zero, List.set_cons_succ]
    refine wpAnyH_ready (rs := [6]) (by kernel_rfl) (by simp) ?_
    refine AllReadyH.cons rfl (fun K hK => ?_) AllReadyH.nil
    rw [if_pos (by rfl)]
    refine wp_store_mid 23 _ _ rfl w.heap.size 0 (icells ⟨v, 0, 0, 0, 0, ⟨#[]⟩⟩) rfl rfl (there_row HA8h.out _ (Nat.le_refl _)) (by kernel_rfl) (icells_one _) ?_
    obtain ⟨hst, hfr⟩ := store_over (V := (icells ⟨v, 0, 0, 0, 0, ⟨#[]⟩⟩)) HA8h.out (by rfl)
    have HA10 := hideIt hst
    have HFr10 := hideIt (hfr.mono (S' := fun k => k = w.heap.size ∨ k = w.heap.size + 1) (fun _ e => Or.inl e))
    have HG10 := hideIt ((hfr.block (w.heap.size + 1) HFL.out (by omega)).trans HF8h.out)
    clear hst hfr
    generalize hW10 : World.setCells _ w.heap.size 0 _ = W10 at *
    clear hW10
    refine hK.out _ _ ?_ (fun hHeld => ?_)
    · exact HS.out _ ((Fr.refl _ _).drew.trans HFr10.out (fun _ _ e => e))
    clear hK K
    try simp only [Act.put, List.getElem_toArray, List.getElem_cons_zero, List.getElem_cons_succ, List.setIfInBounds_toArray, List.set_cons_zero, List.set_cons_succ]
    refine wpAnyH_take (i := 7) (v := ?v307) rfl (by kernel_rfl) (by kernel_rfl) (by kernel_rfl) (fun _ _ _ h => h) (Or.inl ⟨by rfl, ?hy307⟩) (by assumption) ?rest307
    case hy307 => intro w hSw; (try dsimp only at hSw); go_simp; (try with_reducible rfl)
    try simp only [Act.put, List.getElem_toArray, List.getElem_cons_zero, List.getElem_cons_succ, List.setIfInBounds_toArray, List.set_cons_zero, List.set_cons_succ]
    refine wpAnyH_ready (rs := [8]) (by kernel_rfl) (by simp) ?_
    refine AllReadyH.cons rfl (fun K hK => ?_) AllReadyH.nil
    rw [if_pos (by rfl)]
    refine wp_store_mid 36 _ _ rfl (w.heap.size + 1) 0 #[.int .i64 0, .int .i64 0] rfl rfl (there_row HG10.out _ (Nat.le_refl _)) (by kernel_rfl) (fault_one _ _) ?_
    obtain ⟨hst, hfr⟩ := store_over (V := #[.int .i64 0, .int .i64 0]) HG10.out (by rfl)
    have HG11 := hideIt hst
    have HFr11 := hideIt (HFr10.out.trans hfr (fun _ _ e => Or.inr e))
    have HA11 := hideIt ((hfr.block w.heap.size (Array.getElem?_eq_some_iff.1 HA10.out).1 (by omega)).trans HA10.out)
    clear hst hfr
    generalize hW11 : World.setCells _ (w.heap.size + 1) 0 _ = W11 at *
    clear hW11
    refine hK.out _ _ ?_ (fun hHeld => ?_)
    · exact HS.out _ ((Fr.refl _ _).drew.trans HFr11.out (fun _ _ e => e))
    clear hK K
    try simp only [Act.put, List.getElem_toArray, List.getElem_cons_zero, List.getElem_cons_succ, List.setIfInBounds_toArray, List.set_cons_zero, List.set_cons_succ]
    refine wpAnyH_done (by kernel_rfl) ?_ _
    go_wp2_with fail
    have hA0 := cellOfHeap HA11.out 0 rfl
    have hA1 := cellOfHeap HA11.out 1 rfl
    have hA2 := cellOfHeap HA11.out 2 rfl
    have hA3 := cellOfHeap HA11.out 3 rfl
    have hA4 := cellOfHeap HA11.out 4 rfl
    have hA5 := cellOfHeap HA11.out 5 rfl
    have hF0 := cellOfHeap HG11.out 0 rfl
    have hF1 := cellOfHeap HG11.out 1 rfl
    refine bodyPost_ret (v := readV (⟨v, 0, 0, 0, 0, ⟨#[]⟩⟩, (pl : Int), 0, 0)) (by simp [results, Try.results19, go_sem, readV, icells, zeroI, hA0, hA1, hA2, hA3, hA4, hA5, hF0, hF1]) rfl ⟨by rw [HE.out], ?_⟩
    exact HFRw.out.trans HFr11.out (fun k hk e => by omega)
  · have HE := hideIt (show endR ⟨v, 0, 0, 0, 0, ⟨#[]⟩⟩ (pl, er, ea) = (zeroI, 0, er, ea) from if_neg hz)
    have hzb : (er != 0) = true := by simpa using hz
    have HS := hideIt HR0.out.held
    have HA8h := hideIt HR0.out.adrew
    have HF8h := hideIt HR0.out.fdrew
    have HFL := hideIt HR0.out.flt
    have HFRw := hideIt HR0.out.frdrew
    go_wp2_with fail
    refine wp_region_held_drew (S := fun w0 => InsAt w0 w2.heap.size ⟨v, 0, 0, 0, 0, ⟨#[]⟩⟩ ∧ w0.cell? ⟨w.heap.size + 2, 1, none⟩ = some (.int .i64 (pl : Int)) ∧ w0.cell? ⟨w.heap.size + 2, 2, none⟩ = some (.int .i64 er) ∧ w0.cell? ⟨w.heap.size + 2, 3, none⟩ = some (.int .i64 ea)) (by kernel_rfl) ?_ (fun hHeld => ?_)
    · exact HS.out _ (Fr.refl _ _).drew
    refine wpAnyH_take (i := 0) (v := ?v308) rfl (by kernel_rfl) (by kernel_rfl) (by kernel_rfl) (fun _ _ _ h => h) (Or.inl ⟨by rfl, ?hy308⟩) (by assumption) ?rest308
    case hy308 => intro w hSw; (try dsimp only at hSw); go_simp; (try with_reducible rfl)
    try simp only [Act.put, List.getElem_toArray, List.getElem_cons_zero, List.getElem_cons_succ, List.setIfInBounds_toArray, List.set_cons_zero, List.set_cons_succ]
    refine wpAnyH_take (i := 1) (v := ?v309) rfl (by kernel_rfl) (by kernel_rfl) (by kernel_rfl) (fun _ _ _ h => h) (Or.inl ⟨by rfl, ?hy309⟩) (by assumption) ?rest309
    case hy309 => intro w hSw; (try dsimp only at hSw); go_simp; (try with_reducible rfl)
    try simp only [Act.put, List.getElem_toArray, List.getElem_cons_zero, List.getElem_cons_succ, List.setIfInBounds_toArray, List.set_cons_zero, List.set_cons_succ]
    refine wpAnyH_take (i := 2) (v := ?v310) rfl (by kernel_rfl) (by kernel_rfl) (by kernel_rfl) (fun _ _ _ h => h) (Or.inl ⟨by rfl, ?hy310⟩) (by assumption) ?rest310
    case hy310 => intro w hSw; (try dsimp only at hSw); go_simp; (try with_reducible rfl)
    try simp only [Act.put, List.getElem_toArray, List.getElem_cons_zero, List.getElem_cons_succ, List.setIfInBounds_toArray, List.set_cons_zero, List.set_cons_succ]
    refine wpAnyH_take (i := 3) (v := ?v311) rfl (by kernel_rfl) (by kernel_rfl) (by kernel_rfl) (fun _ _ _ h => h) (Or.inl ⟨by rfl, ?hy311⟩) (by assumption) ?rest311
    case hy311 => intro w hSw; (try dsimp only at hSw); go_simp; (try with_reducible rfl)
    try simp only [Act.put, List.getElem_toArray, List.getElem_cons_zero, List.getElem_cons_succ, List.setIfInBounds_toArray, List.set_cons_zero, List.set_cons_succ]
    refine wpAnyH_take (i := 4) (v := ?v312) rfl (by kernel_rfl) (by kernel_rfl) (by kernel_rfl) (fun _ _ _ h => h) (Or.inl ⟨by rfl, ?hy312⟩) (by assumption) ?rest312
    case hy312 => intro w hSw; (try dsimp only at hSw); go_simp; (try with_reducible rfl)
    try simp only [Act.put, List.getElem_toArray, List.getElem_cons_zero, List.getElem_cons_succ, List.setIfInBounds_toArray, List.set_cons_zero, List.set_cons_succ]
    refine wpAnyH_ready (rs := [5]) (by kernel_rfl) (by simp) ?_
    refine AllReadyH.cons rfl (fun K hK => ?_) AllReadyH.nil
    rw [if_pos (by rfl)]
    refine wp_store_mid 23 _ _ rfl w.heap.size 0 (icells zeroI) rfl rfl (there_row HA8h.out _ (Nat.le_refl _)) (by kernel_rfl) (icells_one _) ?_
    obtain ⟨hst, hfr⟩ := store_over (V := (icells zeroI)) HA8h.out (by rfl)
    have HA10 := hideIt hst
    have HFr10 := hideIt (hfr.mono (S' := fun k => k = w.heap.size ∨ k = w.heap.size + 1) (fun _ e => Or.inl e))
    have HG10 := hideIt ((hfr.block (w.heap.size + 1) HFL.out (by omega)).trans HF8h.out)
    clear hst hfr
    generalize hW10 : World.setCells _ w.heap.size 0 _ = W10 at *
    clear hW10
    refine hK.out _ _ ?_ (fun hHeld => ?_)
    · exact HS.out _ ((Fr.refl _ _).drew.trans HFr10.out (fun _ _ e => e))
    clear hK K
    try simp only [Act.put, List.getElem_toArray, List.getElem_cons_zero, List.getElem_cons_succ, List.setIfInBounds_toArray, List.set_cons_zero, List.set_cons_succ]
    refine wpAnyH_take (i := 6) (v := ?v313) rfl (by kernel_rfl) (by kernel_rfl) (by kernel_rfl) (fun _ _ _ h => h) (Or.inl ⟨by rfl, ?hy313⟩) (by assumption) ?rest313
    case hy313 => intro w hSw; (try dsimp only at hSw); go_simp; (try with_reducible rfl)
    try simp only [Act.put, List.getElem_toArray, List.getElem_cons_zero, List.getElem_cons_succ, List.setIfInBounds_toArray, List.set_cons_zero, List.set_cons_succ]
    refine wpAnyH_ready (rs := [7]) (by kernel_rfl) (by simp) ?_
    refine AllReadyH.cons rfl (fun K hK => ?_) AllReadyH.nil
    rw [if_pos (by rfl)]
    refine wp_store_mid 36 _ _ rfl (w.heap.size + 1) 0 #[.int .i64 er, .int .i64 ea] rfl rfl (there_row HG10.out _ (Nat.le_refl _)) (by kernel_rfl) (fault_one _ _) ?_
    obtain ⟨hst, hfr⟩ := store_over (V := #[.int .i64 er, .int .i64 ea]) HG10.out (by rfl)
    have HG11 := hideIt hst
    have HFr11 := hideIt (HFr10.out.trans hfr (fun _ _ e => Or.inr e))
    have HA11 := hideIt ((hfr.block w.heap.size (Array.getElem?_eq_some_iff.1 HA10.out).1 (by omega)).trans HA10.out)
    clear hst hfr
    generalize hW11 : World.setCells _ (w.heap.size + 1) 0 _ = W11 at *
    clear hW11
    refine hK.out _ _ ?_ (fun hHeld => ?_)
    · exact HS.out _ ((Fr.refl _ _).drew.trans HFr11.out (fun _ _ e => e))
    clear hK K
    try simp only [Act.put, List.getElem_toArray, List.getElem_cons_zero, List.getElem_cons_succ, List.setIfInBounds_toArray, List.set_cons_zero, List.set_cons_succ]
    refine wpAnyH_done (by kernel_rfl) ?_ _
    go_wp2_with fail
    have hA0 := cellOfHeap HA11.out 0 rfl
    have hA1 := cellOfHeap HA11.out 1 rfl
    have hA2 := cellOfHeap HA11.out 2 rfl
    have hA3 := cellOfHeap HA11.out 3 rfl
    have hA4 := cellOfHeap HA11.out 4 rfl
    have hA5 := cellOfHeap HA11.out 5 rfl
    have hF0 := cellOfHeap HG11.out 0 rfl
    have hF1 := cellOfHeap HG11.out 1 rfl
    refine bodyPost_ret (v := readV (zeroI, 0, er, ea)) (by simp [results, Try.results19, go_sem, readV, icells, zeroI, hA0, hA1, hA2, hA3, hA4, hA5, hF0, hF1]) rfl ⟨by rw [HE.out], ?_⟩
    exact HFRw.out.trans HFr11.out (fun k hk e => by omega)

set_option maxRecDepth 100000 in
set_option maxHeartbeats 4000000 in
theorem vread_A (ao : Option Addr) (cap : Nat) (bs : List UInt8) (a : Nat) (w : World) (hB : BsAt w ao bs) (hb : bs.length ≤ 140737488355328) (hcl : bs.length ≤ cap) (hcm : cap ≤ maxLen) (hnb : ∀ k, blk ao k → k < w.heap.size) (ha : a ≤ bs.length) (v : Int) (va : Int) (s0 s1 : Nat × Int × Int) (h0 : rInt bs 1 15 (a, 0, 0) = (v, s0)) (h1 : rInt bs 0 7 s0 = (va, s1)) (ht : hasT v = (true, false, false, false, false)) :
    Calls Try.prog 19 #[.slice ao bs.length cap, .int .i64 (a : Int)] w fun e w' => e = .returned (readV (endR ⟨v, va, 0, 0, 0, ⟨#[]⟩⟩ s1)) ∧ Fr (fun _ => False) w w' := by
  have hd1 : decide ((a : Int) < 0) = false := decide_eq_false (by omega)
  have hd2 : decide ((bs.length : Int) < (a : Int)) = false := decide_eq_false (by omega)
  have HH := hideIt (fun w => by have := vhas_any v w; rw [ht] at this; exact this)
  unfold hasV at HH
  have HY0 := hideIt (show YOk ((((w.alloc (.cells (icells zeroI) 23)).alloc (.cells #[.int .i64 0, .int .i64 0] 36))).alloc (.cells #[.slice ao bs.length cap, .int .i64 (a : Int), .int .i64 0, .int .i64 0] 73)) (w.heap.size + 2) ao cap bs (a, 0, 0) from
    ⟨⟨heap_new (by simp), hB.fr ((((Fr.refl (fun _ => False) w).alloc _).alloc _).alloc _) (fun _ _ _ e => e)⟩, fun e => by have := hnb _ e; omega, ha⟩)
  have HNB := hideIt hnb
  have HCM := hideIt hcm
  clear hB ht hnb hcm
  go_enter Try.func19, Try.ntmps19
  go_wp2_with fail
  refine Calls.mono (yint_any (w.heap.size + 2) ao cap bs (a, 0, 0) 1 15 _ HY0.out hb) ?_
  rw [h0]
  rintro e w2 ⟨rfl, hy, hF⟩
  have hFa : Fr (fun _ => False) w w2 := ((((Fr.refl (fun _ => False) w).alloc _).alloc _).alloc _).trans hF (fun k hk e => by omega)
  have hsz : w.heap.size + 2 < w2.heap.size := hy.1.lt
  have hF3 : Fr (fun _ => False) w2 (w2.alloc (.cells (icells ⟨v, 0, 0, 0, 0, ⟨#[]⟩⟩) 23)) := (Fr.refl _ _).alloc _
  have HR0 := hideIt (show RS w (w2.alloc (.cells (icells ⟨v, 0, 0, 0, 0, ⟨#[]⟩⟩) 23)) w2.heap.size ao cap bs s0 ⟨v, 0, 0, 0, 0, ⟨#[]⟩⟩ from
    ⟨⟨hy.1.fr hF3 (fun e => e) (fun _ _ _ e => e), hy.2⟩, heap_new rfl, heap_old ((hF.block w.heap.size (by simp; omega) (by omega)).trans (heap_old (heap_old (heap_new rfl)))), heap_old ((hF.block (w.heap.size + 1) (by simp) (by omega)).trans (heap_old (heap_new (by simp)))), hFa.trans hF3 (fun _ _ e => e), hsz, HNB.out⟩)
  clear hy hF hFa hF3 HY0 HNB h0 ha
  go_wp2_with fail
  refine Calls.mono (HH.out _) ?_
  rintro e wx ⟨rfl, rfl⟩
  clear HH
  unfold icells at HR0
  go_wp2_with fail
  refine Calls.mono (rs_int HR0.out hb 0 7 va h1) ?_
  rintro e w10 ⟨rfl, hR⟩
  have hc := hR.j.c1
  have hzf := hR.j.fz 1
  have hlt := hR.j.lt
  dsimp only [Ins.put] at hc
  have HR1 := hideIt (hR.putN 1 (by decide) (by decide) va)
  clear hR HR0
  obtain ⟨pl, er, ea⟩ := s1
  have c2 := HR1.out.y.1.c2
  dsimp only at c2
  by_cases hz : er = 0
  · subst hz
    have HE := hideIt (show endR ⟨v, va, 0, 0, 0, ⟨#[]⟩⟩ (pl, 0, ea) = (⟨v, va, 0, 0, 0, ⟨#[]⟩⟩, (pl : Int), 0, 0) from if_pos rfl)
    have HS := hideIt HR1.out.held
    have HA8h := hideIt HR1.out.adrew
    have HF8h := hideIt HR1.out.fdrew
    have HFL := hideIt HR1.out.flt
    have HFRw := hideIt HR1.out.frdrew
    go_wp2_with fail
    refine wp_region_held_drew (S := fun w0 => InsAt w0 w2.heap.size ⟨v, va, 0, 0, 0, ⟨#[]⟩⟩ ∧ w0.cell? ⟨w.heap.size + 2, 1, none⟩ = some (.int .i64 (pl : Int)) ∧ w0.cell? ⟨w.heap.size + 2, 2, none⟩ = some (.int .i64 0) ∧ w0.cell? ⟨w.heap.size + 2, 3, none⟩ = some (.int .i64 ea)) (by kernel_rfl) ?_ (fun hHeld => ?_)
    · exact HS.out _ (Fr.refl _ _).drew
    refine wpAnyH_take (i := 0) (v := ?v314) rfl (by kernel_rfl) (by kernel_rfl) (by kernel_rfl) (fun _ _ _ h => h) (Or.inl ⟨by rfl, ?hy314⟩) (by assumption) ?rest314
    case hy314 => intro w hSw; (try dsimp only at hSw); obtain ⟨hSI, hS1, hS2, hS3⟩ := hSw; have c0 := hSI.c0; have c1 := hSI.c1; have c2 := hSI.c2; have c3 := hSI.c3; have c4 := hSI.c4; have c5 := hSI.c5; go_simp; (try with_reducible rfl)
    try simp only [Act.put, List.getElem_toArray, List.getElem_cons_zero, List.getElem_cons_succ, List.setIfInBounds_toArray, List.set_cons_zero, List.set_cons_succ]
    refine wpAnyH_take (i := 1) (v := ?v315) rfl (by kernel_rfl) (by kernel_rfl) (by kernel_rfl) (fun _ _ _ h => h) (Or.inl ⟨by rfl, ?hy315⟩) (by assumption) ?rest315
    case hy315 => intro w hSw; (try dsimp only at hSw); go_simp; (try with_reducible rfl)
    try simp only [Act.put, List.getElem_toArray, List.getElem_cons_zero, List.getElem_cons_succ, List.setIfInBounds_toArray, List.set_cons_zero, List.set_cons_succ]
    refine wpAnyH_take (i := 2) (v := ?v316) rfl (by kernel_rfl) (by kernel_rfl) (by kernel_rfl) (fun _ _ _ h => h) (Or.inl ⟨by rfl, ?hy316⟩) (by assumption) ?rest316
    case hy316 => intro w hSw; (try dsimp only at hSw); go_simp; (try with_reducible rfl)
    try simp only [Act.put, List.getElem_toArray, List.getElem_cons_zero, List.getElem_cons_succ, List.setIfInBounds_toArray, List.set_cons_zero, List.set_cons_succ]
    refine wpAnyH_take (i := 3) (v := ?v317) rfl (by kernel_rfl) (by kernel_rfl) (by kernel_rfl) (fun _ _ _ h => h) (Or.inl ⟨by rfl, ?hy317⟩) (by assumption) ?rest317
    case hy317 => intro w hSw; (try dsimp only at hSw); go_simp; (try with_reducible rfl)
    try simp only [Act.put, List.getElem_toArray, List.getElem_cons_zero, List.getElem_cons_succ, List.setIfInBounds_toArray, List.set_cons_zero, List.set_cons_succ]
    refine wpAnyH_take (i := 4) (v := ?v318) rfl (by kernel_rfl) (by kernel_rfl) (by kernel_rfl) (fun _ _ _ h => h) (Or.inl ⟨by rfl, ?hy318⟩) (by assumption) ?rest318
    case hy318 => intro w hSw; (try dsimp only at hSw); go_simp; (try with_reducible rfl)
    try simp only [Act.put, List.getElem_toArray, List.getElem_cons_zero, List.getElem_cons_succ, List.setIfInBounds_toArray, List.set_cons_zero, List.set_cons_succ]
    refine wpAnyH_take (i := 5) (v := ?v319) rfl (by kernel_rfl) (by kernel_rfl) (by kernel_rfl) (fun _ _ _ h => h) (Or.inl ⟨by rfl, ?hy319⟩) (by assumption) ?rest319
    case hy319 => intro w hSw; (try dsimp only at hSw); go_simp; (try with_reducible rfl)
    try simp only [Act.put, List.getElem_toArray, List.getElem_cons_zero, List.getElem_cons_succ, List.setIfInBounds_toArray, List.set_cons_zero, List.set_cons_succ]
    refine wpAnyH_ready (rs := [6]) (by kernel_rfl) (by simp) ?_
    refine AllReadyH.cons rfl (fun K hK => ?_) AllReadyH.nil
    rw [if_pos (by rfl)]
    refine wp_store_mid 23 _ _ rfl w.heap.size 0 (icells ⟨v, va, 0, 0, 0, ⟨#[]⟩⟩) rfl rfl (there_row HA8h.out _ (Nat.le_refl _)) (by kernel_rfl) (icells_one _) ?_
    obtain ⟨hst, hfr⟩ := store_over (V := (icells ⟨v, va, 0, 0, 0, ⟨#[]⟩⟩)) HA8h.out (by rfl)
    have HA10 := hideIt hst
    have HFr10 := hideIt (hfr.mono (S' := fun k => k = w.heap.size ∨ k = w.heap.size + 1) (fun _ e => Or.inl e))
    have HG10 := hideIt ((hfr.block (w.heap.size + 1) HFL.out (by omega)).trans HF8h.out)
    clear hst hfr
    generalize hW10 : World.setCells _ w.heap.size 0 _ = W10 at *
    clear hW10
    refine hK.out _ _ ?_ (fun hHeld => ?_)
    · exact HS.out _ ((Fr.refl _ _).drew.trans HFr10.out (fun _ _ e => e))
    clear hK K
    try simp only [Act.put, List.getElem_toArray, List.getElem_cons_zero, List.getElem_cons_succ, List.setIfInBounds_toArray, List.set_cons_zero, List.set_cons_succ]
    refine wpAnyH_take (i := 7) (v := ?v320) rfl (by kernel_rfl) (by kernel_rfl) (by kernel_rfl) (fun _ _ _ h => h) (Or.inl ⟨by rfl, ?hy320⟩) (by assumption) ?rest320
    case hy320 => intro w hSw; (try dsimp only at hSw); go_simp; (try with_reducible rfl)
    try simp only [Act.put, List.getElem_toArray, List.getElem_cons_zero, List.getElem_cons_succ, List.setIfInBounds_toArray, List.set_cons_zero, List.set_cons_succ]
    refine wpAnyH_ready (rs := [8]) (by kernel_rfl) (by simp) ?_
    refine AllReadyH.cons rfl (fun K hK => ?_) AllReadyH.nil
    rw [if_pos (by rfl)]
    refine wp_store_mid 36 _ _ rfl (w.heap.size + 1) 0 #[.int .i64 0, .int .i64 0] rfl rfl (there_row HG10.out _ (Nat.le_refl _)) (by kernel_rfl) (fault_one _ _) ?_
    obtain ⟨hst, hfr⟩ := store_over (V := #[.int .i64 0, .int .i64 0]) HG10.out (by rfl)
    have HG11 := hideIt hst
    have HFr11 := hideIt (HFr10.out.trans hfr (fun _ _ e => Or.inr e))
    have HA11 := hideIt ((hfr.block w.heap.size (Array.getElem?_eq_some_iff.1 HA10.out).1 (by omega)).trans HA10.out)
    clear hst hfr
    generalize hW11 : World.setCells _ (w.heap.size + 1) 0 _ = W11 at *
    clear hW11
    refine hK.out _ _ ?_ (fun hHeld => ?_)
    · exact HS.out _ ((Fr.refl _ _).drew.trans HFr11.out (fun _ _ e => e))
    clear hK K
    try simp only [Act.put, List.getElem_toArray, List.getElem_cons_zero, List.getElem_cons_succ, List.setIfInBounds_toArray, List.set_cons_zero, List.set_cons_succ]
    refine wpAnyH_done (by kernel_rfl) ?_ _
    go_wp2_with fail
    have hA0 := cellOfHeap HA11.out 0 rfl
    have hA1 := cellOfHeap HA11.out 1 rfl
    have hA2 := cellOfHeap HA11.out 2 rfl
    have hA3 := cellOfHeap HA11.out 3 rfl
    have hA4 := cellOfHeap HA11.out 4 rfl
    have hA5 := cellOfHeap HA11.out 5 rfl
    have hF0 := cellOfHeap HG11.out 0 rfl
    have hF1 := cellOfHeap HG11.out 1 rfl
    refine bodyPost_ret (v := readV (⟨v, va, 0, 0, 0, ⟨#[]⟩⟩, (pl : Int), 0, 0)) (by simp [results, Try.results19, go_sem, readV, icells, zeroI, hA0, hA1, hA2, hA3, hA4, hA5, hF0, hF1]) rfl ⟨by rw [HE.out], ?_⟩
    exact HFRw.out.trans HFr11.out (fun k hk e => by omega)
  · have HE := hideIt (show endR ⟨v, va, 0, 0, 0, ⟨#[]⟩⟩ (pl, er, ea) = (zeroI, 0, er, ea) from if_neg hz)
    have hzb : (er != 0) = true := by simpa using hz
    have HS := hideIt HR1.out.held
    have HA8h := hideIt HR1.out.adrew
    have HF8h := hideIt HR1.out.fdrew
    have HFL := hideIt HR1.out.flt
    have HFRw := hideIt HR1.out.frdrew
    go_wp2_with fail
    refine wp_region_held_drew (S := fun w0 => InsAt w0 w2.heap.size ⟨v, va, 0, 0, 0, ⟨#[]⟩⟩ ∧ w0.cell? ⟨w.heap.size + 2, 1, none⟩ = some (.int .i64 (pl : Int)) ∧ w0.cell? ⟨w.heap.size + 2, 2, none⟩ = some (.int .i64 er) ∧ w0.cell? ⟨w.heap.size + 2, 3, none⟩ = some (.int .i64 ea)) (by kernel_rfl) ?_ (fun hHeld => ?_)
    · exact HS.out _ (Fr.refl _ _).drew
    refine wpAnyH_take (i := 0) (v := ?v321) rfl (by kernel_rfl) (by kernel_rfl) (by kernel_rfl) (fun _ _ _ h => h) (Or.inl ⟨by rfl, ?hy321⟩) (by assumption) ?rest321
    case hy321 => intro w hSw; (try dsimp only at hSw); go_simp; (try with_reducible rfl)
    try simp only [Act.put, List.getElem_toArray, List.getElem_cons_zero, List.getElem_cons_succ, List.setIfInBounds_toArray, List.set_cons_zero, List.set_cons_succ]
    refine wpAnyH_take (i := 1) (v := ?v322) rfl (by kernel_rfl) (by kernel_rfl) (by kernel_rfl) (fun _ _ _ h => h) (Or.inl ⟨by rfl, ?hy322⟩) (by assumption) ?rest322
    case hy322 => intro w hSw; (try dsimp only at hSw); go_simp; (try with_reducible rfl)
    try simp only [Act.put, List.getElem_toArray, List.getElem_cons_zero, List.getElem_cons_succ, List.setIfInBounds_toArray, List.set_cons_zero, List.set_cons_succ]
    refine wpAnyH_take (i := 2) (v := ?v323) rfl (by kernel_rfl) (by kernel_rfl) (by kernel_rfl) (fun _ _ _ h => h) (Or.inl ⟨by rfl, ?hy323⟩) (by assumption) ?rest323
    case hy323 => intro w hSw; (try dsimp only at hSw); go_simp; (try with_reducible rfl)
    try simp only [Act.put, List.getElem_toArray, List.getElem_cons_zero, List.getElem_cons_succ, List.setIfInBounds_toArray, List.set_cons_zero, List.set_cons_succ]
    refine wpAnyH_take (i := 3) (v := ?v324) rfl (by kernel_rfl) (by kernel_rfl) (by kernel_rfl) (fun _ _ _ h => h) (Or.inl ⟨by rfl, ?hy324⟩) (by assumption) ?rest324
    case hy324 => intro w hSw; (try dsimp only at hSw); go_simp; (try with_reducible rfl)
    try simp only [Act.put, List.getElem_toArray, List.getElem_cons_zero, List.getElem_cons_succ, List.setIfInBounds_toArray, List.set_cons_zero, List.set_cons_succ]
    refine wpAnyH_take (i := 4) (v := ?v325) rfl (by kernel_rfl) (by kernel_rfl) (by kernel_rfl) (fun _ _ _ h => h) (Or.inl ⟨by rfl, ?hy325⟩) (by assumption) ?rest325
    case hy325 => intro w hSw; (try dsimp only at hSw); go_simp; (try with_reducible rfl)
    try simp only [Act.put, List.getElem_toArray, List.getElem_cons_zero, List.getElem_cons_succ, List.setIfInBounds_toArray, List.set_cons_zero, List.set_cons_succ]
    refine wpAnyH_ready (rs := [5]) (by kernel_rfl) (by simp) ?_
    refine AllReadyH.cons rfl (fun K hK => ?_) AllReadyH.nil
    rw [if_pos (by rfl)]
    refine wp_store_mid 23 _ _ rfl w.heap.size 0 (icells zeroI) rfl rfl (there_row HA8h.out _ (Nat.le_refl _)) (by kernel_rfl) (icells_one _) ?_
    obtain ⟨hst, hfr⟩ := store_over (V := (icells zeroI)) HA8h.out (by rfl)
    have HA10 := hideIt hst
    have HFr10 := hideIt (hfr.mono (S' := fun k => k = w.heap.size ∨ k = w.heap.size + 1) (fun _ e => Or.inl e))
    have HG10 := hideIt ((hfr.block (w.heap.size + 1) HFL.out (by omega)).trans HF8h.out)
    clear hst hfr
    generalize hW10 : World.setCells _ w.heap.size 0 _ = W10 at *
    clear hW10
    refine hK.out _ _ ?_ (fun hHeld => ?_)
    · exact HS.out _ ((Fr.refl _ _).drew.trans HFr10.out (fun _ _ e => e))
    clear hK K
    try simp only [Act.put, List.getElem_toArray, List.getElem_cons_zero, List.getElem_cons_succ, List.setIfInBounds_toArray, List.set_cons_zero, List.set_cons_succ]
    refine wpAnyH_take (i := 6) (v := ?v326) rfl (by kernel_rfl) (by kernel_rfl) (by kernel_rfl) (fun _ _ _ h => h) (Or.inl ⟨by rfl, ?hy326⟩) (by assumption) ?rest326
    case hy326 => intro w hSw; (try dsimp only at hSw); go_simp; (try with_reducible rfl)
    try simp only [Act.put, List.getElem_toArray, List.getElem_cons_zero, List.getElem_cons_succ, List.setIfInBounds_toArray, List.set_cons_zero, List.set_cons_succ]
    refine wpAnyH_ready (rs := [7]) (by kernel_rfl) (by simp) ?_
    refine AllReadyH.cons rfl (fun K hK => ?_) AllReadyH.nil
    rw [if_pos (by rfl)]
    refine wp_store_mid 36 _ _ rfl (w.heap.size + 1) 0 #[.int .i64 er, .int .i64 ea] rfl rfl (there_row HG10.out _ (Nat.le_refl _)) (by kernel_rfl) (fault_one _ _) ?_
    obtain ⟨hst, hfr⟩ := store_over (V := #[.int .i64 er, .int .i64 ea]) HG10.out (by rfl)
    have HG11 := hideIt hst
    have HFr11 := hideIt (HFr10.out.trans hfr (fun _ _ e => Or.inr e))
    have HA11 := hideIt ((hfr.block w.heap.size (Array.getElem?_eq_some_iff.1 HA10.out).1 (by omega)).trans HA10.out)
    clear hst hfr
    generalize hW11 : World.setCells _ (w.heap.size + 1) 0 _ = W11 at *
    clear hW11
    refine hK.out _ _ ?_ (fun hHeld => ?_)
    · exact HS.out _ ((Fr.refl _ _).drew.trans HFr11.out (fun _ _ e => e))
    clear hK K
    try simp only [Act.put, List.getElem_toArray, List.getElem_cons_zero, List.getElem_cons_succ, List.setIfInBounds_toArray, List.set_cons_zero, List.set_cons_succ]
    refine wpAnyH_done (by kernel_rfl) ?_ _
    go_wp2_with fail
    have hA0 := cellOfHeap HA11.out 0 rfl
    have hA1 := cellOfHeap HA11.out 1 rfl
    have hA2 := cellOfHeap HA11.out 2 rfl
    have hA3 := cellOfHeap HA11.out 3 rfl
    have hA4 := cellOfHeap HA11.out 4 rfl
    have hA5 := cellOfHeap HA11.out 5 rfl
    have hF0 := cellOfHeap HG11.out 0 rfl
    have hF1 := cellOfHeap HG11.out 1 rfl
    refine bodyPost_ret (v := readV (zeroI, 0, er, ea)) (by simp [results, Try.results19, go_sem, readV, icells, zeroI, hA0, hA1, hA2, hA3, hA4, hA5, hF0, hF1]) rfl ⟨by rw [HE.out], ?_⟩
    exact HFRw.out.trans HFr11.out (fun k hk e => by omega)

end Go.Proofs.Ytpieaenfnajlfaa
