/- KeysSorted, walked. -/
import Derived.Test.YtcejebelellemaaKe
namespace Go.Proofs.Ytcejebelellemaa
open Go.RowKit Go.IntWalk
set_option linter.unusedSimpArgs false
set_option linter.unusedVariables false

theorem rises_same (l : List ByteArray) : risesB l = decide (setL l = l) := by
  rw [Bool.eq_iff_iff, decide_eq_true_eq, risesB_iff]
  exact ⟨setL_self, fun h => h ▸ setL_rises l⟩

theorem le_maxLen {n : Nat} (h : n ≤ 100) : n ≤ maxLen := by unfold maxLen; omega

set_option maxRecDepth 100000 in
set_option maxHeartbeats 4000000 in
theorem sorted_all (ao : Option Addr) (cap : Nat) (l : List ByteArray) (x : Int) (w : World) (h : l = [] ∨ KsAt w ao l) (hl : l.length ≤ 9223372036854775807) :
    Calls Try.prog 6 #[.slice ao l.length cap, .int .i64 x] w fun e w' => e = .returned (.bool true) ∧ Fr (fun _ => False) w w' := by
  have HH := hideIt h
  clear h
  go_enter Try.func6, Try.ntmps6
  go_wp2_with fail
  refine Calls.mono (kawake_any _) ?_
  rintro e w1 ⟨rfl, hF1⟩
  have HF1 := hideIt hF1
  have hLo := hideIt (klong_any ao cap l 100 w1 (kats_fr0 HH.out hF1) hl (by decide))
  clear hF1
  go_wp2_with fail
  refine Calls.mono hLo.out ?_
  rintro e w1' ⟨v, rfl, rfl, hv⟩
  have HV := hideIt hv
  clear hv hLo
  cases v
  case true =>
    go_wp2_with fail
    go_ret
    exact ⟨rfl, HF1.out⟩
  case false =>
    have hl100 : l.length ≤ 100 := (HV.out rfl).1
    have HKS := hideIt (fun x hx => le_maxLen ((HV.out rfl).2 x hx))
    have hS := hideIt (ksort_any ao cap l w1' (kats_fr0 HH.out HF1.out) (by omega) HKS.out)
    clear HV
    have HSL := hideIt (setL_self (setL_rises l))
    have HRS := hideIt ((risesB_iff (setL l)).2 (setL_rises l))
    have hsl := setL_len l
    have HRL := hideIt (rises_same l)
    have HMS := hideIt (mem_setL l)
    have HNL := hideIt (show (setL l).length = 0 ↔ l.length = 0 by rw [List.length_eq_zero_iff, List.length_eq_zero_iff, setL_nil])
    generalize setL l = s at *
    go_wp2_with fail
    refine Calls.mono hS.out ?_
    rintro e w2 ⟨ao2, cap2, rfl, hrow2, hF2, hn2⟩
    have HF2 := hideIt (HF1.out.trans hF2 (fun _ _ e => e))
    have HR2 := hideIt hrow2.at
    clear hF2 hrow2 hn2 hS
    have hC := hideIt (fun u (hF : Fr (fun _ => False) w2 u) => by have := kcheck_any ao2 cap2 s u (Or.inr (HR2.out.fr0 hF)) (by omega); rw [HRS.out] at this; exact this)
    go_wp2_with fail
    refine Calls.mono (hC.out _ (Fr.refl _ _)) ?_
    rintro e w3 ⟨rfl, hF3⟩
    have HF3 := hideIt hF3
    clear hF3 hC HRS
    have hgt : ¬ (l.length : Int) < (s.length : Int) := by omega
    have hS2 := hideIt (by have := ksort_any ao2 cap2 s w3 (Or.inr (HR2.out.fr0 HF3.out)) (by omega) (fun k hk => HKS.out k ((HMS.out k).1 hk)); rw [HSL.out] at this; exact this)
    go_wp2_with fail
    refine Calls.mono hS2.out ?_
    rintro e w4 ⟨ao4, cap4, rfl, hrow4, hF4, hn4⟩
    have HF4 := hideIt (HF3.out.trans hF4 (fun _ _ e => e))
    have hE := hideIt (by have := ksame_any ao4 ao2 cap4 cap2 s s w4 (Or.inr hrow4.at) (Or.inr (HR2.out.fr0 HF4.out)) (by omega) (by omega); rw [show decide (s = s) = true by simp] at this; exact this)
    clear hF4 hrow4 hn4 hS2 HSL HF3
    go_wp2_with fail
    refine Calls.mono hE.out ?_
    rintro e w5 ⟨rfl, hF5⟩
    have HF5 := hideIt (HF4.out.trans hF5 (fun _ _ e => e))
    clear hF5 hE HF4
    have hC := hideIt (kcheck_any ao cap l w5 (kats_fr0 HH.out (HF2.out.trans HF5.out (fun _ _ e => e))) (by omega))
    have hE := hideIt (fun u (hF : Fr (fun _ => False) w2 u) => by have := ksame_any ao2 ao cap2 cap s l u (Or.inr (HR2.out.fr0 hF)) (kats_fr0 HH.out (HF2.out.trans hF (fun _ _ e => e))) (by omega) (by omega); rw [← HRL.out] at this; exact this)
    clear HRL
    generalize risesB l = v at *
    go_wp2_with fail
    refine Calls.mono hC.out ?_
    rintro e w6 ⟨rfl, hF6⟩
    have HF6 := hideIt (HF5.out.trans hF6 (fun _ _ e => e))
    clear hF6 HF5 hC
    go_wp2_with fail
    refine Calls.mono (hE.out _ HF6.out) ?_
    rintro e w7 ⟨rfl, hF7⟩
    have HF7 := hideIt (HF6.out.trans hF7 (fun _ _ e => e))
    clear hF7 HF6 hE
    have hvv : (v != v) = false := by cases v <;> rfl
    go_wp2_with fail
    have hdf : decide (l.length < s.length) = false := decide_eq_false (by omega)
    simp only [hdf]
    clear hdf hgt hvv
    go_loopw [7] (fun i wr => ∃ j : Nat, i = .int .i64 j ∧ j ≤ s.length ∧ Fr (fun _ => False) w2 wr) (fun i _ => s.length - (intOf i).toNat)
    case atStart => exact ⟨0, rfl, Nat.zero_le _, HF7.out⟩
    case round =>
      obtain ⟨j, rfl, hj, hFj⟩ := hrel
      have HFJ := hideIt hFj
      clear hFj
      by_cases hlt : j < s.length
      · obtain ⟨b, off, rfl, hbl, c0⟩ := KsAt.get (Or.inr (HR2.out.fr0 HFJ.out)) j hlt
        have hH := hideIt (by have := khas_any ao cap l s[j] _ (kats_fr0 HH.out (HF2.out.trans HFJ.out (fun _ _ e => e))) (by omega); rw [(inL_iff l s[j]).2 ((HMS.out _).1 (List.getElem_mem hlt))] at this; exact this)
        generalize s[j] = y at *
        go_wp2_with fail
        refine Calls.mono hH.out ?_
        rintro e w8 ⟨rfl, rfl⟩
        clear hH
        go_wp2_with fail
        go_roundw
        case measure => simp [intOf]; omega
        case rel => exact ⟨j + 1, by go_num, by omega, HFJ.out⟩
      · obtain rfl : j = s.length := by omega
        by_cases h0 : l.length = 0
        · have h0' : ((l.length : Int) == 0) = true := by simp [h0]
          have h1' : ((s.length : Int) == 0) = true := by simp [HNL.out.2 h0]
          clear h0
          go_wp2_with fail
          go_ret
          exact ⟨rfl, HF2.out.trans HFJ.out (fun _ _ e => e)⟩
        · have h0' : ((l.length : Int) == 0) = false := beq_eq_false_iff_ne.2 (by omega)
          have h1' : ((s.length : Int) == 0) = false := beq_eq_false_iff_ne.2 (by have := mt HNL.out.1 h0; omega)
          have hP := hideIt (fun u => kpick_any x l.length (by omega) (by omega) u)
          clear h0
          go_wp2_with fail
          refine Calls.mono (hP.out _) ?_
          rintro e w9 ⟨⟨r, rfl, hr⟩, rfl⟩
          obtain ⟨b, off, rfl, hbl, c0⟩ := KsAt.get (kats_fr0 HH.out (HF2.out.trans HFJ.out (fun _ _ e => e))) r hr
          have hH := hideIt (by have := khas_any ao2 cap2 s l[r] _ (Or.inr (HR2.out.fr0 HFJ.out)) (by omega); rw [(inL_iff s l[r]).2 ((HMS.out _).2 (List.getElem_mem hr))] at this; exact this)
          generalize l[r] = y at *
          have hr' : (r : Int) < (l.length : Int) := by omega
          go_wp2_with fail
          refine Calls.mono hH.out ?_
          rintro e w10 ⟨rfl, rfl⟩
          clear hH
          go_wp2_with fail
          go_ret
          exact ⟨rfl, HF2.out.trans HFJ.out (fun _ _ e => e)⟩

end Go.Proofs.Ytcejebelellemaa
