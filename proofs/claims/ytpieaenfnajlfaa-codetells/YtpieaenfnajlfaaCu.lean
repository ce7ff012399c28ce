/- Code: the document's Check: the walk. -/
import Derived.Test.YtpieaenfnajlfaaCv
namespace Go.Proofs.Ytpieaenfnajlfaa
open Go.RowKit Go.IntWalk Go.Lib
set_option linter.unusedSimpArgs false
set_option linter.unusedVariables false

/-- A region's end: which temporaries it leaves, whatever the order. -/
def ViaV (F : (Nat → Value) → Act) (R : (Nat → Value) → World → Prop) : Exit → Act → World → Prop
  | .normal, a', w' => ∃ v, a' = F v ∧ R v w'
  | _, _, _ => False

theorem wp_viaV {P : Program} {c : Code} {Q : Exit → Act → World → Prop} {a : Act} {w : World} (F : Act → (Nat → Value) → Act) (R : (Nat → Value) → World → Prop) (h1 : c.wp P (ViaV (F a) R) a w) (h2 : ∀ v w', R v w' → Q .normal (F a v) w') : c.wp P Q a w :=
  Code.wp_mono (fun e a' w' h => by
    cases e <;> first | exact (h : False).elim | (obtain ⟨v, rfl, hr⟩ := h; exact h2 v w' hr)) h1

theorem viaV_leaf19 {F : (Nat → Value) → Act} {R : (Nat → Value) → World → Prop} {a' : Act} {w' : World} (h : a' = F (fun i => a'.tmps.getD (19 + i) undef)) (hr : R (fun i => a'.tmps.getD (19 + i) undef) w') : ViaV F R .normal a' w' := ⟨_, h, hr⟩

set_option maxRecDepth 100000 in
set_option maxHeartbeats 4000000 in
theorem vcheck_any (i : Ins) (w : World) : Calls Try.prog 13 #[.agg (icells i)] w fun e w' => e = .returned (.int .i64 (vchk i)) ∧ Fr (fun _ => False) w w' := by
  have HH := hideIt (fun w => vhas_any i.op w)
  have HM := hideIt (fun w => vmost_any i.op w)
  have HR := hideIt vreg_any
  have HE := hideIt (show vchk i = vchk i from rfl)
  rw [show vchk i = (if decide (i.op < 1) then 2 else if decide (15 < i.op) then 2 else if vchkB i then 0 else 2) from rfl]
  unfold vchkB
  generalize hasT i.op = t at *
  generalize mostZ i.op = mx at *
  obtain ⟨ha, hb, hc, hn, hs⟩ := t
  obtain ⟨op, a, b, c, n, s⟩ := i
  clear HE
  unfold icells hasV at *
  dsimp only at HH HM ⊢
  have hA := HR.out a ha
  have hB := HR.out b hb
  have hC := HR.out c hc
  generalize regB a ha = ra at *
  generalize regB b hb = rb at *
  generalize regB c hc = rc at *
  have HA := hideIt hA
  have HB := hideIt hB
  have HC := hideIt hC
  clear hA hB hC HR
  obtain ⟨q8, hq8⟩ : ∃ q, numB n mx hn = q := ⟨_, rfl⟩
  obtain ⟨q9, hq9⟩ : ∃ q, txtB s hs = q := ⟨_, rfl⟩
  rw [hq8, hq9]
  obtain ⟨res, hres⟩ : ∃ r : Int, (if decide (op < 1) then 2 else if decide (15 < op) then 2 else if (ra && (rb && (rc && (q8 && q9)))) then 0 else 2) = r := ⟨_, rfl⟩
  rw [hres]
  have HQ8 := hideIt hq8
  have HQ9 := hideIt hq9
  have HRES := hideIt hres
  clear hq8 hq9 hres
  go_enter Try.func13, Try.ntmps13
  go_wp2_with fail
  refine Calls.mono (HH.out _) ?_
  rintro e w1 ⟨rfl, rfl⟩
  go_wp2_with fail
  refine wp_viaV (fun a v => ({ a with tmps := (a.tmps.toList.take 19 ++ [v 0, v 1, v 2, v 3, v 4, v 5, v 6, v 7, v 8, v 9, v 10, v 11, v 12, v 13, v 14, v 15, v 16, v 17, v 18, v 19, v 20, v 21, v 22] ++ a.tmps.toList.drop 42).toArray } : Act).put (some 8) (v 22)) (fun v w' => v 22 = .bool q8 ∧ ∃ k, w' = (w.alloc (.cells #[.int .i64 op, .int .i64 a, .int .i64 b, .int .i64 c, .int .i64 n, .string s] 23)).drewN k) ?_ ?_
  · cases hn
    · obtain rfl : (n == 0) = q8 := HQ8.out
      clear HQ8 HRES
      go_quiet (fail)
      exact viaV_leaf19 (by kernel_rfl) ⟨by kernel_rfl, _, rfl⟩
    · have hq : (decide (1 ≤ n) && decide (n ≤ mx)) = q8 := HQ8.out
      clear HQ8 HRES
      by_cases h1 : 1 ≤ n
      · have e1 : decide (1 ≤ n) = true := by simp [h1]
        rw [e1, Bool.true_and] at hq
        by_cases h2 : n ≤ mx
        · have e2 : decide (n ≤ mx) = true := by simp [h2]
          obtain rfl : _ = q8 := e2.symm.trans hq
          clear hq
          go_quiet ((go_at_call 37; exact Calls.quiet_of_same (HM.out _)))
          exact viaV_leaf19 (by kernel_rfl) ⟨by kernel_rfl, _, rfl⟩
        · have e2 : decide (n ≤ mx) = false := by simp [h2]
          obtain rfl : _ = q8 := e2.symm.trans hq
          clear hq
          go_quiet ((go_at_call 37; exact Calls.quiet_of_same (HM.out _)))
          exact viaV_leaf19 (by kernel_rfl) ⟨by kernel_rfl, _, rfl⟩
      · have e1 : decide (1 ≤ n) = false := by simp [h1]
        obtain rfl : false = q8 := by rw [← hq, e1]; rfl
        clear hq
        go_quiet (fail)
        exact viaV_leaf19 (by kernel_rfl) ⟨by kernel_rfl, _, rfl⟩
  · intro vv w2 hR
    obtain ⟨e22, k2, rfl⟩ := hR
    simp only [List.toList_toArray, List.take_succ_cons, List.take_zero, List.drop_succ_cons, List.drop_zero, List.cons_append, List.nil_append, e22]
    try simp only [Act.put, List.setIfInBounds_toArray, List.set_cons_zero, List.set_cons_succ]
    clear HH HM HQ8
    have hq9 := HQ9.out
    clear HQ9
    have HFR := hideIt (((Fr.refl (fun _ => False) w).alloc (.cells #[.int .i64 op, .int .i64 a, .int .i64 b, .int .i64 c, .int .i64 n, .string s] 23)).drewN k2)
    cases hs
    · obtain rfl : (s.toList == []) = q9 := hq9
      obtain ⟨q9, hq9⟩ : ∃ q, (s.toList == []) = q := ⟨_, rfl⟩
      rw [hq9] at HRES
      by_cases g1 : op < 1
      · have d1 : decide (op < 1) = true := by simp [g1]
        clear g1
        go_wp2_with fail
        go_ret
        exact ⟨by rw [← HRES.out]; simp [d1], HFR.out⟩
      have d1 : decide (op < 1) = false := by simp [g1]
      by_cases g2 : 15 < op
      · have d2 : decide (15 < op) = true := by simp [g2]
        clear g1 g2
        go_wp2_with fail
        go_ret
        exact ⟨by rw [← HRES.out]; simp [d1, d2], HFR.out⟩
      have d2 : decide (15 < op) = false := by simp [g2]
      clear g1 g2
      cases ra
      · skip
        go_wp2_with fail
        refine Calls.mono (HA.out _) ?_
        rintro e wx ⟨rfl, rfl⟩
        go_wp2_with fail
        go_ret
        exact ⟨by rw [← HRES.out]; simp [d1, d2], HFR.out⟩
      cases rb
      · skip
        go_wp2_with fail
        refine Calls.mono (HA.out _) ?_
        rintro e wx ⟨rfl, rfl⟩
        go_wp2_with fail
        refine Calls.mono (HB.out _) ?_
        rintro e wx ⟨rfl, rfl⟩
        go_wp2_with fail
        go_ret
        exact ⟨by rw [← HRES.out]; simp [d1, d2], HFR.out⟩
      cases rc
      · skip
        go_wp2_with fail
        refine Calls.mono (HA.out _) ?_
        rintro e wx ⟨rfl, rfl⟩
        go_wp2_with fail
        refine Calls.mono (HB.out _) ?_
        rintro e wx ⟨rfl, rfl⟩
        go_wp2_with fail
        refine Calls.mono (HC.out _) ?_
        rintro e wx ⟨rfl, rfl⟩
        go_wp2_with fail
        go_ret
        exact ⟨by rw [← HRES.out]; simp [d1, d2], HFR.out⟩
      cases q8
      · skip
        go_wp2_with fail
        refine Calls.mono (HA.out _) ?_
        rintro e wx ⟨rfl, rfl⟩
        go_wp2_with fail
        refine Calls.mono (HB.out _) ?_
        rintro e wx ⟨rfl, rfl⟩
        go_wp2_with fail
        refine Calls.mono (HC.out _) ?_
        rintro e wx ⟨rfl, rfl⟩
        go_wp2_with fail
        go_ret
        exact ⟨by rw [← HRES.out]; simp [d1, d2], HFR.out⟩
      cases q9
      · skip
        go_wp2_with fail
        refine Calls.mono (HA.out _) ?_
        rintro e wx ⟨rfl, rfl⟩
        go_wp2_with fail
        refine Calls.mono (HB.out _) ?_
        rintro e wx ⟨rfl, rfl⟩
        go_wp2_with fail
        refine Calls.mono (HC.out _) ?_
        rintro e wx ⟨rfl, rfl⟩
        go_wp2_with fail
        go_ret
        exact ⟨by rw [← HRES.out]; simp [d1, d2], HFR.out⟩
      · skip
        go_wp2_with fail
        refine Calls.mono (HA.out _) ?_
        rintro e wx ⟨rfl, rfl⟩
        go_wp2_with fail
        refine Calls.mono (HB.out _) ?_
        rintro e wx ⟨rfl, rfl⟩
        go_wp2_with fail
        refine Calls.mono (HC.out _) ?_
        rintro e wx ⟨rfl, rfl⟩
        go_wp2_with fail
        go_ret
        exact ⟨by rw [← HRES.out]; simp [d1, d2], HFR.out⟩
    · by_cases hz : (s.size : Int) ≤ 64
      · have ez : decide ((s.size : Int) ≤ 64) = true := by simp; omega
        obtain rfl : q9 = true := by rw [← hq9]; exact ez
        clear hq9 hz
        by_cases g1 : op < 1
        · have d1 : decide (op < 1) = true := by simp [g1]
          clear g1
          go_wp2_with fail
          go_ret
          exact ⟨by rw [← HRES.out]; simp [d1], HFR.out⟩
        have d1 : decide (op < 1) = false := by simp [g1]
        by_cases g2 : 15 < op
        · have d2 : decide (15 < op) = true := by simp [g2]
          clear g1 g2
          go_wp2_with fail
          go_ret
          exact ⟨by rw [← HRES.out]; simp [d1, d2], HFR.out⟩
        have d2 : decide (15 < op) = false := by simp [g2]
        clear g1 g2
        cases ra
        · skip
          go_wp2_with fail
          refine Calls.mono (HA.out _) ?_
          rintro e wx ⟨rfl, rfl⟩
          go_wp2_with fail
          go_ret
          exact ⟨by rw [← HRES.out]; simp [d1, d2], HFR.out⟩
        cases rb
        · skip
          go_wp2_with fail
          refine Calls.mono (HA.out _) ?_
          rintro e wx ⟨rfl, rfl⟩
          go_wp2_with fail
          refine Calls.mono (HB.out _) ?_
          rintro e wx ⟨rfl, rfl⟩
          go_wp2_with fail
          go_ret
          exact ⟨by rw [← HRES.out]; simp [d1, d2], HFR.out⟩
        cases rc
        · skip
          go_wp2_with fail
          refine Calls.mono (HA.out _) ?_
          rintro e wx ⟨rfl, rfl⟩
          go_wp2_with fail
          refine Calls.mono (HB.out _) ?_
          rintro e wx ⟨rfl, rfl⟩
          go_wp2_with fail
          refine Calls.mono (HC.out _) ?_
          rintro e wx ⟨rfl, rfl⟩
          go_wp2_with fail
          go_ret
          exact ⟨by rw [← HRES.out]; simp [d1, d2], HFR.out⟩
        cases q8
        · skip
          go_wp2_with fail
          refine Calls.mono (HA.out _) ?_
          rintro e wx ⟨rfl, rfl⟩
          go_wp2_with fail
          refine Calls.mono (HB.out _) ?_
          rintro e wx ⟨rfl, rfl⟩
          go_wp2_with fail
          refine Calls.mono (HC.out _) ?_
          rintro e wx ⟨rfl, rfl⟩
          go_wp2_with fail
          go_ret
          exact ⟨by rw [← HRES.out]; simp [d1, d2], HFR.out⟩
        · skip
          go_wp2_with fail
          refine Calls.mono (HA.out _) ?_
          rintro e wx ⟨rfl, rfl⟩
          go_wp2_with fail
          refine Calls.mono (HB.out _) ?_
          rintro e wx ⟨rfl, rfl⟩
          go_wp2_with fail
          refine Calls.mono (HC.out _) ?_
          rintro e wx ⟨rfl, rfl⟩
          go_wp2_with fail
          go_ret
          exact ⟨by rw [← HRES.out]; simp [d1, d2], HFR.out⟩
      · have ez : decide ((s.size : Int) ≤ 64) = false := by simp; omega
        obtain rfl : q9 = false := by rw [← hq9]; exact ez
        clear hq9 hz
        by_cases g1 : op < 1
        · have d1 : decide (op < 1) = true := by simp [g1]
          clear g1
          go_wp2_with fail
          go_ret
          exact ⟨by rw [← HRES.out]; simp [d1], HFR.out⟩
        have d1 : decide (op < 1) = false := by simp [g1]
        by_cases g2 : 15 < op
        · have d2 : decide (15 < op) = true := by simp [g2]
          clear g1 g2
          go_wp2_with fail
          go_ret
          exact ⟨by rw [← HRES.out]; simp [d1, d2], HFR.out⟩
        have d2 : decide (15 < op) = false := by simp [g2]
        clear g1 g2
        cases ra
        · skip
          go_wp2_with fail
          refine Calls.mono (HA.out _) ?_
          rintro e wx ⟨rfl, rfl⟩
          go_wp2_with fail
          go_ret
          exact ⟨by rw [← HRES.out]; simp [d1, d2], HFR.out⟩
        cases rb
        · skip
          go_wp2_with fail
          refine Calls.mono (HA.out _) ?_
          rintro e wx ⟨rfl, rfl⟩
          go_wp2_with fail
          refine Calls.mono (HB.out _) ?_
          rintro e wx ⟨rfl, rfl⟩
          go_wp2_with fail
          go_ret
          exact ⟨by rw [← HRES.out]; simp [d1, d2], HFR.out⟩
        cases rc
        · skip
          go_wp2_with fail
          refine Calls.mono (HA.out _) ?_
          rintro e wx ⟨rfl, rfl⟩
          go_wp2_with fail
          refine Calls.mono (HB.out _) ?_
          rintro e wx ⟨rfl, rfl⟩
          go_wp2_with fail
          refine Calls.mono (HC.out _) ?_
          rintro e wx ⟨rfl, rfl⟩
          go_wp2_with fail
          go_ret
          exact ⟨by rw [← HRES.out]; simp [d1, d2], HFR.out⟩
        cases q8
        · skip
          go_wp2_with fail
          refine Calls.mono (HA.out _) ?_
          rintro e wx ⟨rfl, rfl⟩
          go_wp2_with fail
          refine Calls.mono (HB.out _) ?_
          rintro e wx ⟨rfl, rfl⟩
          go_wp2_with fail
          refine Calls.mono (HC.out _) ?_
          rintro e wx ⟨rfl, rfl⟩
          go_wp2_with fail
          go_ret
          exact ⟨by rw [← HRES.out]; simp [d1, d2], HFR.out⟩
        · skip
          go_wp2_with fail
          refine Calls.mono (HA.out _) ?_
          rintro e wx ⟨rfl, rfl⟩
          go_wp2_with fail
          refine Calls.mono (HB.out _) ?_
          rintro e wx ⟨rfl, rfl⟩
          go_wp2_with fail
          refine Calls.mono (HC.out _) ?_
          rintro e wx ⟨rfl, rfl⟩
          go_wp2_with fail
          go_ret
          exact ⟨by rw [← HRES.out]; simp [d1, d2], HFR.out⟩
end Go.Proofs.Ytpieaenfnajlfaa
