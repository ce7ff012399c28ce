/- WordTold: what was written is read: the walk. -/
import Derived.Test.YtahhpecgckiaaaaP6a
namespace Go.Proofs.Ytahhpecgckiaaaa
open Go.RowKit Go.IntWalk
set_option linter.unusedSimpArgs false
set_option linter.unusedVariables false

set_option maxRecDepth 100000 in
set_option maxHeartbeats 4000000 in
theorem told_good (aoL : Option Addr) (capL : Nat) (l : List Th) (aoM : Option Addr) (capM : Nat) (m : List Th) (w : World) (hL : l = [] ∨ ThsAt w aoL l) (hM : m = [] ∨ ThsAt w aoM m) (okL : ∀ x ∈ l, ThOk x) (okM : ∀ x ∈ m, ThOk x) (sL : ∀ x ∈ l, x.s.size ≤ 140737488355328) (sM : ∀ x ∈ m, x.s.size ≤ 140737488355328) (bl : bulkyB l = false) (bm : bulkyB m = false) (hbl : l.any badT = false) (hbm : m.any badT = false) :
    Calls Try.prog 7 #[.slice aoL l.length capL, .slice aoM m.length capM] w fun e w' => e = .returned (.bool true) ∧ Fr (fun _ => False) w w' := by
  have hll := (slim l bl).1
  have hml := (slim m bm).1
  have hls : (l.map thW).sum ≤ 140737488355328 := by rw [slim_sum]; have := slim l bl; omega
  have hms : (m.map thW).sum ≤ 140737488355328 := by rw [slim_sum]; have := slim m bm; omega
  have hbs : ((l ++ m).map thW).sum ≤ 100000 := by rw [List.map_append, List.sum_append_nat, slim_sum, slim_sum]; have := slim l bl; have := slim m bm; omega
  have okB : ∀ x ∈ l ++ m, ThOk x := fun x hx => by
    rcases List.mem_append.1 hx with hx | hx
    · exact okL x hx
    · exact okM x hx
  have HK := hideIt (known_any w)
  have hLM : ∀ w', Fr (fun _ => False) w w' → (l = [] ∨ ThsAt w' aoL l) ∧ (m = [] ∨ ThsAt w' aoM m) := fun w' hF => ⟨hL.imp id fun h => h.fr hF (fun _ _ _ e => e), hM.imp id fun h => h.fr hF (fun _ _ _ e => e)⟩
  have HBL := hideIt (fun w' (hF : Fr (fun _ => False) w w') => bulky_any aoL capL l w' (hLM w' hF).1 (sum_take l sL) (by unfold maxLen; omega))
  have HBM := hideIt (fun w' (hF : Fr (fun _ => False) w w') => bulky_any aoM capM m w' (hLM w' hF).2 (sum_take m sM) (by unfold maxLen; omega))
  simp only [bl] at HBL
  simp only [bm] at HBM
  have HAL := hideIt (fun w' (hF : Fr (fun _ => False) w w') => all_ex aoL capL l w' (hLM w' hF).1 okL hls)
  have HAM := hideIt (fun w' (hF : Fr (fun _ => False) w w') => all_ex aoM capM m w' (hLM w' hF).2 okM hms)
  simp only [hbl, Bool.false_eq_true, if_false, Bool.not_false] at HAL
  simp only [hbm, Bool.false_eq_true, if_false, Bool.not_false] at HAM
  have HAP := hideIt (fun (w' : World) (hF : Fr (fun _ => False) w w') => things_both aoL capL l aoM capM m w' (hLM w' hF).1 (hLM w' hF).2 (fun x hx => (okL x hx).id) (fun x hx => (okM x hx).id) (by omega))
  have HOKB := hideIt okB
  clear hLM hL hM okL okM sL sM hls hms bl bm okB
  go_enter Try.func7, Try.ntmps7
  go_wp2_with fail
  refine Calls.mono HK.out ?_
  rintro e w1 ⟨rfl, hF1⟩
  have HF1 := hideIt hF1
  clear hF1
  go_wp2_with fail
  refine Calls.mono (HBL.out w1 HF1.out) ?_
  rintro e w1' ⟨rfl, rfl⟩
  go_wp2_with fail
  refine Calls.mono (HBM.out w1' HF1.out) ?_
  rintro e w1'' ⟨rfl, rfl⟩
  go_wp2_with fail
  refine Calls.mono (HAL.out w1'' HF1.out) ?_
  rintro e w2 ⟨A, aoA, capA, hA, rfl, hrA, hF2, hnA⟩
  have HF2 := hideIt (HF1.out.trans hF2 (fun _ _ e => e))
  have HRA := hideIt hrA
  have HA := hideIt hA
  clear hrA hF2 hnA hA
  go_wp2_with fail
  refine Calls.mono (HAM.out w2 HF2.out) ?_
  rintro e w3 ⟨E, aoB, capB, hE, rfl, hrB, hF3, hnB⟩
  have HF3 := hideIt (HF2.out.trans hF3 (fun _ _ e => e))
  have HRA3 := hideIt (HRA.out.bs.fr hF3 (fun _ _ _ e => e))
  have HRB := hideIt hrB
  have HE := hideIt hE
  clear hrB hF3 hnB HRA hE
  obtain ⟨ao4, cap4, w4, ao5, cap5, w5, B, hB, run4, run5, hrow5, hF5, hn5⟩ := HAP.out w3 HF3.out
  have HB := hideIt hB
  have hBl : B.length ≤ 60 := by rw [hB, List.length_append]; omega
  have HOB := hideIt (show ∀ x ∈ B, ThOk x by rw [hB]; exact HOKB.out)
  have HBS := hideIt (show (B.map thW).sum ≤ 100000 by rw [hB]; exact hbs)
  clear hB hbs HOKB
  have HR4 := hideIt run4
  have HR5 := hideIt run5
  have HROW := hideIt hrow5
  have HF5 := hideIt (HF3.out.trans hF5 (fun _ _ e => e))
  have HRA5 := hideIt (HRA3.out.fr hF5 (fun _ _ _ e => e))
  have HRB5 := hideIt (HRB.out.bs.fr hF5 (fun _ _ _ e => e))
  have HN5 := hideIt hn5
  have hs3 : w.heap.size ≤ w3.heap.size := HF3.out.size
  clear run4 run5 hrow5 hF5 hn5 HAP HBL HBM HAL HAM HK HRA3 HRB
  go_wp2_with (first | (at_builtin; refine wpList_append_run _ rfl (.tmp 35) (.tmp 36) 22 22 rfl _ _ _ _ rfl rfl HR4.out ?_) | (at_builtin; refine wpList_append_run _ rfl (.tmp 37) (.tmp 38) 22 22 rfl _ _ _ _ rfl rfl HR5.out ?_))
  have HAB := hideIt (all_ex ao5 cap5 B w5 (Or.inr (HROW.out.at (fun x hx => (HOB.out x hx).id))) HOB.out (Nat.le_trans HBS.out (by omega)))
  have hab : B.any badT = false := by rw [HB.out, List.any_append, hbl, hbm]; rfl
  simp only [hab, Bool.false_eq_true, if_false, Bool.not_false] at HAB
  have HBAD := hideIt hab
  have hm1 : ∀ (x : Bool) (w : World), (Op.unary .not (.bool x)).run Try.prog w = .ok (.bool (!x)) w := fun _ _ => rfl
  clear hab hbl hbm
  refine Calls.mono HAB.out ?_
  rintro e w6 ⟨C, aoC, capC, hC, rfl, hrC, hF6, hnC⟩
  have hCl : C.length ≤ 100000 := by rw [hC]; exact Nat.le_trans (flat_short B HOB.out) HBS.out
  have hAE : C = A ++ E := by rw [hC, HA.out, HE.out, HB.out, List.flatMap_append]
  have HC := hideIt hC
  have HAE := hideIt hAE
  have hAl : A.length + E.length ≤ 100000 := by rw [← List.length_append, ← hAE]; exact hCl
  have HF6 := hideIt (HF5.out.trans hF6 (fun _ _ e => e))
  have HROW6 := hideIt (HROW.out.fr hF6 (fun _ _ e => e))
  have HRA6 := hideIt (HRA5.out.fr hF6 (fun _ _ _ e => e))
  have HRB6 := hideIt (HRB5.out.fr hF6 (fun _ _ _ e => e))
  have HRC := hideIt hrC.bs
  have HRC0 := hideIt hrC.cap0
  clear hC hAE hF6 hrC hnC HAB HA HE HB HROW HRA5 HRB5 HR4 HR5 HF5 HBS
  go_wp2_with fail
  refine Calls.mono (open_any aoC capC C w6 HRC.out HRC0.out (by omega)) ?_
  rintro e w7 ⟨p, t, ao7, cap7, rfl, hQ, hF7, hp, ht, hn7⟩
  have hs6 := HF6.out.size
  have hp0 : w.heap.size ≤ p := by omega
  have ht0 : w.heap.size ≤ t := by omega
  have HR7 := hideIt (show ROk w7 p t ao7 cap7 C (0, 0, 0) from ⟨hQ, Nat.zero_le _⟩)
  have HF7 := hideIt (HF6.out.trans hF7 (fun _ _ e => e))
  have HT5 := hideIt (show ¬ blk ao5 t from fun e => by have := HROW6.out.lt e; omega)
  have HROW7 := hideIt (HROW6.out.fr hF7 (fun _ _ e => e))
  have HRA7 := hideIt (HRA6.out.fr hF7 (fun _ _ _ e => e))
  have HRB7 := hideIt (HRB6.out.fr hF7 (fun _ _ _ e => e))
  have HRC7 := hideIt (HRC.out.fr hF7 (fun _ _ _ e => e))
  clear hQ hF7 hp ht hn7 HROW6 HRA6 HRB6 HRC HRC0 HF6 hs6
  go_wp2_with fail
  refine Calls.mono (copy_any aoA capA A w7 HRA7.out (by omega)) ?_
  rintro e w8 ⟨ao8, cap8, rfl, hr8, hF8, hn8⟩
  obtain ⟨ao9, cap9, w9, run9, row9, hF9, _⟩ := app_row w8 28 ao8 cap8 A E hr8 _ ((HRB7.out.fr hF8 (fun _ _ _ e => e)).src capB) (by omega)
  have hF79 : Fr (fun _ => False) w7 w9 := hF8.trans hF9 (fun i hi e => by have := hn8 i e; omega)
  obtain ⟨D, hD⟩ : ∃ D, D = A ++ E := ⟨_, rfl⟩
  have hDl : A.length + E.length = D.length := by rw [hD, List.length_append]
  have hDC : (D == C) = true := by rw [hD, HAE.out]; simp
  have HR9 := hideIt (by rw [hDl] at run9; exact run9)
  have HD9 := hideIt (by have := row9.bs; rw [← hD] at this; exact this)
  have HC9 := hideIt (HRC7.out.fr hF79 (fun _ _ _ e => e))
  have R0 := HR7.out.fr0 hF79
  have F0 := HF7.out.trans hF79 (fun _ _ e => e)
  have Row0 := HROW7.out.fr hF79 (fun _ _ e => e)
  clear run9 row9 hF9 hF8 hr8 hn8 hF79 hD hDl HRA7 HRB7 HRC7 HR7 HF7 HROW7 HAE
  have HR0 := hideIt R0
  have HF0 := hideIt F0
  have HRow0 := hideIt Row0
  clear R0 F0 Row0
  go_wp2_with (first | (at_builtin; refine wpList_append_want rfl (.tmp 65) (.tmp 66) 28 28 rfl _ _ _ _ rfl rfl HR9.out ?_))
  refine Calls.mono (same_any ao9 aoC cap9 capC D C w9 HD9.out HC9.out) ?_
  rintro e w9' ⟨rfl, rfl⟩
  clear HR9 HD9 HC9 hAl
  go_wp2_with fail
  go_loopw [14, 15] (fun n i wr => ∃ (k N : Nat), i = .int .i64 k ∧ k ≤ B.length ∧ n = .int .i64 N ∧ Hid (N = ((B.take k).flatMap encT).length) ∧ ROk wr p t ao7 cap7 C (N, 0, 0) ∧ Fr (fun _ => False) w wr ∧ ThRow wr ao5 cap5 B)
    (fun _ i _ => (B.length - intOf i).toNat)
  case atStart => exact ⟨0, 0, rfl, Nat.zero_le _, rfl, hideIt rfl, HR0.out, HF0.out, HRow0.out⟩
  case round =>
    clear HR0 HF0 HRow0
    obtain ⟨k, N, rfl, hk, rfl, HN, hR, hF, hrow⟩ := hrel
    have hNl : N ≤ C.length := hR.2
    by_cases hlt : k < B.length
    · have hsplit : ∃ pre rest, C = pre ++ (encT B[k] ++ rest) ∧ pre.length = N := ⟨(B.take k).flatMap encT, (B.drop (k + 1)).flatMap encT, by rw [HC.out]; exact flat_at B k hlt, HN.out.symm⟩
      have HNX := hideIt (show N + (encT B[k]).length = ((B.take (k + 1)).flatMap encT).length by rw [flat_next B k hlt, HN.out])
      obtain ⟨b, off, eao, hbl, hc⟩ : ∃ b off, ao5 = some ⟨b, off, none⟩ ∧ b < wr.heap.size ∧ ∀ i (h : i < B.length), wr.rangeAt b (off + i * 35) (thL B[i]) := by
        rcases hrow.at (fun x hx => (HOB.out x hx).id) with ⟨_, h0⟩ | h0
        · rw [h0] at hlt
          exact absurd hlt (by simp)
        · exact h0
      have HTH := hideIt (hc k hlt)
      have HOK := hideIt (HOB.out B[k] (List.getElem_mem hlt))
      have HBD := hideIt (show badT B[k] = false by
        have h1 := HBAD.out
        rw [List.any_eq_false] at h1
        simpa using h1 _ (List.getElem_mem hlt))
      clear hc
      generalize B[k] = x at *
      obtain ⟨pre, rest, hCe, hpl⟩ := hsplit
      have hL : N + (encT x).length ≤ C.length := by rw [hCe, ← hpl]; simp
      have HCE := hideIt hCe
      have HPL := hideIt hpl
      have HTI := hideIt (show (Try.prog.info? 35).map (·.size) = some (thL x).length by rw [thL_len _ HOK.out.id]; exact Try.infoTh)
      have HT2 := hideIt (thereNew (wr.alloc (.cells thZ 35)) wr.heap.size thZ 35 (heap_new rfl) (thA x).size (by rw [thA_size x HOK.out.id]; rfl))
      have HI2 := hideIt (show (Try.prog.info? 35).map (·.size) = some (thA x).size by rw [thA_size x HOK.out.id]; exact Try.infoTh)
      have H12 := hideIt (thA_one x)
      have HBX := hideIt (boxed_th x HOK.out.id wr)
      have HR := hideIt hR
      have HF := hideIt hF
      have HROW := hideIt hrow
      have htl := hR.1.tp.lt
      have hwt : ¬ wr.heap.size = t := by omega
      clear hCe hpl hR hF hrow
      subst eao
      obtain ⟨xk, xn, xs, xid⟩ := x
      by_cases k0 : xk = 0
      · subst k0
        obtain ⟨n, rfl⟩ : ∃ n : Nat, xn = n := Int.eq_ofNat_of_zero_le (by simpa [badT] using HBD.out)
        have hnm : n ≤ 9223372036854775807 := by have := HOK.out.n; simp only at this; omega
        have HRD := hideIt (by have := read_int ⟨0, n, xs, xid⟩ pre rest HOK.out rfl HBD.out; rw [← HCE.out, HPL.out] at this; exact this)
        have HEL := hideIt (show (encT ⟨0, n, xs, xid⟩).length = (sevens n).length by simp [encT])
        obtain ⟨M, hM⟩ : ∃ M, M = (sevens n).length := ⟨_, rfl⟩
        rw [HEL.out, ← hM] at HRD HNX hL
        have HM := hideIt hM
        clear hM HEL
        go_wp2_with (first | (refine wpList_load_mid rfl 35 (.tmp 80) rfl b (off + k * 35) rfl (thL ⟨0, n, xs, xid⟩) _ HTH.out Try.underlying35 rfl HTI.out ?_) | (refine wpList_store_abs rfl 35 (.tmp 16) (.tmp 81) rfl wr.heap.size 0 (thA ⟨0, n, xs, xid⟩) rfl rfl HT2.out HI2.out H12.out ?_; intro W5 hW5; obtain ⟨hb5, hF5⟩ := HBX.out W5 hW5; have c0 := cellOfHeap hb5 0 (thA_0 ⟨0, n, xs, xid⟩); have c1 := cellOfHeap hb5 1 (thA_1 ⟨0, n, xs, xid⟩); have c2 := cellOfHeap hb5 2 (thA_2 ⟨0, n, xs, xid⟩); have HB5 := hideIt hb5; have HF5 := hideIt hF5; have HR5 := hideIt (HR.out.fr0 hF5); have l5 := (Array.getElem?_eq_some_iff.1 hb5).1; clear hb5 hF5 hW5))
        refine Calls.mono (size_nat n W5 hnm) ?_
        rintro e W5' ⟨rfl, rfl⟩
        rw [← HM.out]
        have hNM : N + M ≤ 100000 := by omega
        go_wp2_with fail
        have HS := hideIt (show ∀ w', Fr (fun k => k = t) W5' w' → w'.cell? ⟨wr.heap.size, 1, none⟩ = some (.int .i64 (n : Int)) ∧ Fr (fun k => k = t) W5' w' from fun w' hF' => ⟨cellOfHeap ((hF'.block _ l5 hwt).trans HB5.out) 1 (thA_1 ⟨0, n, xs, xid⟩), hF'⟩)
        go_region_held2 (fun w' => w'.cell? ⟨wr.heap.size, 1, none⟩ = some (.int .i64 (n : Int)) ∧ Fr (fun k => k = t) W5' w')
          (first | exact HS.out _ (by assumption) | exact HS.out _ ((Fr.refl _ _).drew))
          (first | (go_at_call 25; refine Calls.mono (rint_any p t ao7 cap7 C (N, 0, 0) (n : Int) (n : Int) _ (HR5.out.fr0 (Fr.refl (fun _ => False) W5').drew) (by omega)) ?_; rw [HRD.out]; rintro e wA ⟨rfl, hRA, hFA⟩; have hWA := Fr.trans ((Fr.refl (fun k => k = t) W5').drew) hFA (fun _ _ e => e)))
        go_wp2_with fail
        refine Calls.mono (rat_any p t ao7 cap7 C (N + M, 0, 0) wA hRA) ?_
        rintro e wA' ⟨rfl, rfl⟩
        have HRA := hideIt hRA
        have HWA := hideIt hWA
        clear hRA hWA hFA
        go_wp2_with fail
        go_roundw
        case measure => simp [intOf]; omega
        case rel => exact ⟨k + 1, N + M, by go_num, by omega, by go_num, HNX, HRA.out, (HF.out.trans HF5.out (fun _ _ e => e)).trans HWA.out (fun i hi e => by omega), (HROW.out.fr HF5.out (fun _ _ e => e)).fr HWA.out (fun j hj e => HT5.out (by subst e; exact hj))⟩
      by_cases k1 : xk = 1
      · subst k1
        have hsm : xs.size ≤ 9223372036854775807 := HOK.out.s
        have HRD := hideIt (by have := read_text ⟨1, xn, xs, xid⟩ pre rest HOK.out rfl; rw [← HCE.out, HPL.out] at this; exact this)
        have HEL := hideIt (show (encT ⟨1, xn, xs, xid⟩).length = (sevens xs.size).length + xs.size by simp [encT])
        obtain ⟨M, hM⟩ : ∃ M, M = (sevens xs.size).length := ⟨_, rfl⟩
        rw [HEL.out, ← hM] at HRD HNX hL
        have HSZ := hideIt (show ∀ w, Calls Try.prog 15 #[.int .i64 (xs.size : Int)] w fun e w' => e = .returned (.int .i64 (M : Int)) ∧ w' = w by rw [hM]; exact fun w => size_nat xs.size w hsm)
        have HRT := hideIt (show ∀ w', ROk w' p t ao7 cap7 C (N, 0, 0) → Calls Try.prog 29 #[.pointer (some ⟨p, 0, none⟩), .int .i64 (xs.size : Int)] w' fun e w'' => e = .returned (.string xs) ∧ ROk w'' p t ao7 cap7 C (N + (M + xs.size), 0, 0) ∧ Fr (fun k => k = t) w' w'' from fun w' h => by
          have := rtext_any p t ao7 cap7 C (N, 0, 0) xs.size w' h (by omega)
          rw [HRD.out] at this
          simpa using this)
        clear hM HEL HRD
        go_wp2_with (first | (refine wpList_load_mid rfl 35 (.tmp 80) rfl b (off + k * 35) rfl (thL ⟨1, xn, xs, xid⟩) _ HTH.out Try.underlying35 rfl HTI.out ?_) | (refine wpList_store_abs rfl 35 (.tmp 16) (.tmp 81) rfl wr.heap.size 0 (thA ⟨1, xn, xs, xid⟩) rfl rfl HT2.out HI2.out H12.out ?_; intro W5 hW5; obtain ⟨hb5, hF5⟩ := HBX.out W5 hW5; have c0 := cellOfHeap hb5 0 (thA_0 ⟨1, xn, xs, xid⟩); have c1 := cellOfHeap hb5 1 (thA_1 ⟨1, xn, xs, xid⟩); have c2 := cellOfHeap hb5 2 (thA_2 ⟨1, xn, xs, xid⟩); have HB5 := hideIt hb5; have HF5 := hideIt hF5; have HR5 := hideIt (HR.out.fr0 hF5); have l5 := (Array.getElem?_eq_some_iff.1 hb5).1; clear hb5 hF5 hW5))
        have hNM : N + (M + xs.size) ≤ 100000 := by omega
        go_quiet ((go_at_call 15; exact Calls.quiet_of_same (HSZ.out _)))
        go_wp2_with fail
        have HS := hideIt (show ∀ w', Fr (fun k => k = t) W5 w' → w'.cell? ⟨wr.heap.size, 2, none⟩ = some (.string xs) ∧ Fr (fun k => k = t) W5 w' from fun w' hF' => ⟨cellOfHeap ((hF'.block _ l5 hwt).trans HB5.out) 2 (thA_2 ⟨1, xn, xs, xid⟩), hF'⟩)
        go_region_held2 (fun w' => w'.cell? ⟨wr.heap.size, 2, none⟩ = some (.string xs) ∧ Fr (fun k => k = t) W5 w')
          (first | exact HS.out _ (by assumption) | exact HS.out _ (((Fr.refl _ _).drewN _).drew))
          (first | (go_at_call 29; refine Calls.mono (HRT.out _ (HR5.out.fr0 (((Fr.refl (fun _ => False) W5).drewN _).drew))) ?_; rintro e wA ⟨rfl, hRA, hFA⟩; have hWA := Fr.trans (((Fr.refl (fun k => k = t) W5).drewN _).drew) hFA (fun _ _ e => e)))
        go_wp2_with fail
        refine Calls.mono (rat_any p t ao7 cap7 C (N + (M + xs.size), 0, 0) wA hRA) ?_
        rintro e wA' ⟨rfl, rfl⟩
        have HRA := hideIt hRA
        have HWA := hideIt hWA
        clear hRA hWA hFA
        go_wp2_with fail
        go_roundw
        case measure => simp [intOf]; omega
        case rel => exact ⟨k + 1, N + (M + xs.size), by go_num, by omega, by go_num, HNX, HRA.out, (HF.out.trans HF5.out (fun _ _ e => e)).trans HWA.out (fun i hi e => by omega), (HROW.out.fr HF5.out (fun _ _ e => e)).fr HWA.out (fun j hj e => HT5.out (by subst e; exact hj))⟩
      by_cases k2 : xk = 2
      · subst k2
        have h32 : xid.length = 32 := HOK.out.id
        have HRD := hideIt (by have := read_id ⟨2, xn, xs, xid⟩ pre rest HOK.out rfl; rw [← HCE.out, HPL.out] at this; exact this)
        have HEL := hideIt (show (encT ⟨2, xn, xs, xid⟩).length = 32 by simp [encT, h32])
        rw [HEL.out] at HRD HNX hL
        have HRT := hideIt (show ∀ w', ROk w' p t ao7 cap7 C (N, 0, 0) → Calls Try.prog 31 #[.pointer (some ⟨p, 0, none⟩)] w' fun e w'' => e = .returned (.agg (bv xid).toArray) ∧ ROk w'' p t ao7 cap7 C (N + 32, 0, 0) ∧ Fr (fun k => k = t) w' w'' from fun w' h => by
          have := rid_any p t ao7 cap7 C (N, 0, 0) w' h (by omega)
          rw [HRD.out] at this
          exact this)
        have HID := hideIt (show (Try.prog.info? 33).map (·.size) = some (bv xid).length by rw [bv_length, h32]; exact Try.infoIDj)
        have HNE := hideIt (fun w => ids_neq w xid xid h32 h32)
        have hxx : (!(xid == xid)) = false := by simp
        rw [hxx] at HNE
        clear HEL HRD h32 hxx
        go_wp2_with (first | (refine wpList_load_mid rfl 35 (.tmp 80) rfl b (off + k * 35) rfl (thL ⟨2, xn, xs, xid⟩) _ HTH.out Try.underlying35 rfl HTI.out ?_) | (refine wpList_store_abs rfl 35 (.tmp 16) (.tmp 81) rfl wr.heap.size 0 (thA ⟨2, xn, xs, xid⟩) rfl rfl HT2.out HI2.out H12.out ?_; intro W5 hW5; obtain ⟨hb5, hF5⟩ := HBX.out W5 hW5; have c0 := cellOfHeap hb5 0 (thA_0 ⟨2, xn, xs, xid⟩); have c1 := cellOfHeap hb5 1 (thA_1 ⟨2, xn, xs, xid⟩); have c2 := cellOfHeap hb5 2 (thA_2 ⟨2, xn, xs, xid⟩); have HB5 := hideIt hb5; have HF5 := hideIt hF5; have HR5 := hideIt (HR.out.fr0 hF5); have l5 := (Array.getElem?_eq_some_iff.1 hb5).1; clear hb5 hF5 hW5))
        have hNM : N + 32 ≤ 100000 := by omega
        have HS := hideIt (show ∀ w', Fr (fun k => k = t) W5 w' → w'.rangeAt wr.heap.size 3 (bv xid) ∧ Fr (fun k => k = t) W5 w' from fun w' hF' => ⟨fun j v hv => by
          rw [cell_of_row w' wr.heap.size (3 + j) _ _ _ ((hF'.block _ l5 hwt).trans HB5.out), ← hv, show 3 + j = j + 1 + 1 + 1 by omega]
          simp [thA, thL], hF'⟩)
        refine wp_region_held_drew (S := fun w' => w'.rangeAt wr.heap.size 3 (bv xid) ∧ Fr (fun k => k = t) W5 w') (by kernel_rfl) ?_ (fun hHeld => ?_)
        · exact HS.out _ ((Fr.refl _ _).drew)
        refine wpAnyH_take (i := 0) (v := ?v1) rfl (by kernel_rfl) (by kernel_rfl) (by kernel_rfl) (fun _ _ _ h => h) (Or.inl ⟨by rfl, ?hy1⟩) (by assumption) ?rest1
        case hy1 => intro w hSw; (try dsimp only at hSw); go_simp; (try with_reducible rfl)
        try simp only [Act.put, List.setIfInBounds_toArray, List.set_cons_zero, List.set_cons_succ]
        refine wpAnyH_take (i := 2) (v := ?v2) rfl (by kernel_rfl) (by kernel_rfl) (by kernel_rfl) (fun _ _ _ h => h) (Or.inl ⟨by rfl, ?hy2⟩) (by assumption) ?rest2
        case hy2 => intro w hSw; (try dsimp only at hSw); go_simp; (try with_reducible rfl)
        try simp only [Act.put, List.setIfInBounds_toArray, List.set_cons_zero, List.set_cons_succ]
        refine wpAnyH_take (i := 3) (v := .agg (bv xid).toArray) rfl (by kernel_rfl) (by kernel_rfl) (by kernel_rfl) (fun _ _ _ h => h) (Or.inl ⟨by rfl, fun w hSw => yields_load_mid 33 (.tmp 126) rfl wr.heap.size 3 rfl (bv xid) _ hSw.1 Try.underlying33 rfl HID.out⟩) (by assumption) ?_
        try simp only [Act.put, List.setIfInBounds_toArray, List.set_cons_zero, List.set_cons_succ]
        refine wpAnyH_ready (rs := [1]) (by kernel_rfl) (by simp) ?_
        refine AllReadyH.cons rfl (fun K hK => ?_) AllReadyH.nil
        go_simp
        refine Calls.mono (HRT.out _ (HR5.out.fr0 (Fr.refl (fun _ => False) W5).drew)) ?_
        rintro e wA ⟨rfl, hRA, hFA⟩
        have hWA := Fr.trans ((Fr.refl (fun k => k = t) W5).drew) hFA (fun _ _ e => e)
        refine hK.out _ _ ?_ (fun hHeld => ?_)
        · exact HS.out _ hWA
        clear hK K
        try simp only [Act.put, List.setIfInBounds_toArray, List.set_cons_zero, List.set_cons_succ]
        refine wpAnyH_take (i := 4) (v := .bool false) rfl (by kernel_rfl) (by kernel_rfl) (by kernel_rfl) (fun _ _ _ h => h) (Or.inl ⟨by rfl, fun w hSw => yields_bin .neq 33 33 (.tmp 125) (.tmp 127) rfl _ _ (.bool false) rfl rfl (HNE.out _) (ids_grd _ _ _ _ _ _)⟩) (by assumption) ?_
        try simp only [Act.put, List.setIfInBounds_toArray, List.set_cons_zero, List.set_cons_succ]
        refine wpAnyH_done (by kernel_rfl) ?_ _
        go_wp2_with fail
        refine Calls.mono (rat_any p t ao7 cap7 C (N + 32, 0, 0) wA hRA) ?_
        rintro e wA' ⟨rfl, rfl⟩
        have HRA := hideIt hRA
        have HWA := hideIt hWA
        clear hRA hWA hFA
        go_wp2_with fail
        go_roundw
        case measure => simp [intOf]; omega
        case rel => exact ⟨k + 1, N + 32, by go_num, by omega, by go_num, HNX, HRA.out, (HF.out.trans HF5.out (fun _ _ e => e)).trans HWA.out (fun i hi e => by omega), (HROW.out.fr HF5.out (fun _ _ e => e)).fr HWA.out (fun j hj e => HT5.out (by subst e; exact hj))⟩
      · have e0 : (xk == 0) = false := by simpa using k0
        have e1 : (xk == 1) = false := by simpa using k1
        have e2 : (xk == 2) = false := by simpa using k2
        have HEL := hideIt (show (encT ⟨xk, xn, xs, xid⟩).length = 0 by simp [encT, k0, k1, k2])
        rw [HEL.out] at HNX hL
        clear HEL k0 k1 k2
        go_wp2_with (first | (refine wpList_load_mid rfl 35 (.tmp 80) rfl b (off + k * 35) rfl (thL ⟨xk, xn, xs, xid⟩) _ HTH.out Try.underlying35 rfl HTI.out ?_) | (refine wpList_store_abs rfl 35 (.tmp 16) (.tmp 81) rfl wr.heap.size 0 (thA ⟨xk, xn, xs, xid⟩) rfl rfl HT2.out HI2.out H12.out ?_; intro W5 hW5; obtain ⟨hb5, hF5⟩ := HBX.out W5 hW5; have c0 := cellOfHeap hb5 0 (thA_0 ⟨xk, xn, xs, xid⟩); have c1 := cellOfHeap hb5 1 (thA_1 ⟨xk, xn, xs, xid⟩); have c2 := cellOfHeap hb5 2 (thA_2 ⟨xk, xn, xs, xid⟩); have HB5 := hideIt hb5; have HF5 := hideIt hF5; have HR5 := hideIt (HR.out.fr0 hF5); have l5 := (Array.getElem?_eq_some_iff.1 hb5).1; clear hb5 hF5 hW5))
        refine Calls.mono (rat_any p t ao7 cap7 C (N, 0, 0) W5 HR5.out) ?_
        rintro e W5' ⟨rfl, rfl⟩
        go_wp2_with fail
        go_roundw
        case measure => simp [intOf]; omega
        case rel => exact ⟨k + 1, N, by go_num, by omega, rfl, HNX, HR5.out, HF.out.trans HF5.out (fun _ _ e => e), HROW.out.fr HF5.out (fun _ _ e => e)⟩
    · obtain rfl : k = B.length := by omega
      have hNC : N = C.length := by rw [HN.out, List.take_length, HC.out]
      subst hNC
      have HE2 : rEnd C (C.length, 0, 0) = (0, 0) := by simp [rEnd]
      have HEN := hideIt (by have := rend_any p t ao7 cap7 C (C.length, 0, 0) wr hR (by omega); rw [HE2] at this; exact this)
      have HF := hideIt hF
      clear HE2 hR hF hrow HN
      go_wp2_with fail
      refine Calls.mono HEN.out ?_
      rintro e wz ⟨rfl, hFz⟩
      have HFz := hideIt hFz
      clear hFz
      go_wp2_with fail
      go_ret
      exact ⟨rfl, HF.out.trans HFz.out (fun _ _ e => e)⟩

end Go.Proofs.Ytahhpecgckiaaaa
