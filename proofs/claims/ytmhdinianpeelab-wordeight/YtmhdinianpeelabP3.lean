/- WordEight: only the last eight bytes count. -/
import Derived.Test.YtmhdinianpeelabE
import Derived.Test.YtmhdinianpeelabN
import Derived.BigQuiet
namespace Go.Proofs.Ytmhdinianpeelab
open Go.RowKit Go.IntWalk
set_option linter.unusedSimpArgs false
set_option linter.unusedVariables false

theorem val_some (n : Nat) (hn : n < 18446744073709551616) (w : World) : Calls Try.prog 23 #[.int .u64 n] w fun e w' => ∃ v : ByteArray, v.data.toList = valB n ∧ v.size = 8 ∧ e = .returned (.string v) ∧ Fr (fun _ => False) w w' :=
  (val_any n hn w).mono fun e w' ⟨h1, h2⟩ => ⟨⟨(valB n).toArray⟩, rfl, rfl, h1, h2⟩

theorem ba_ext {x y : ByteArray} (h : x.data.toList = y.data.toList) : x = y := by
  cases x; cases y
  simp only [ByteArray.mk.injEq]
  exact Array.ext' h

set_option maxRecDepth 100000 in
set_option maxHeartbeats 600000 in
theorem eight_full (s a : ByteArray) (n m N : Nat) (w : World) (hn : n < 18446744073709551616) (hm : m < 18446744073709551616) (hs : s.size ≤ 300) (ha : a.size ≤ 300) (h8 : 8 ≤ s.size) (hNl : N < 18446744073709551616) (hNv : valB N = s.data.toList.drop (s.size - 8))
    (hN : ∀ w, Calls Try.prog 24 #[.string s] w fun e w' => e = .returned (.int .u64 N) ∧ w' = w)
    (hNa : ∀ w, Calls Try.prog 24 #[.string (a ++ s)] w fun e w' => e = .returned (.int .u64 N) ∧ w' = w)
    (hNz : ∀ w, Calls Try.prog 24 #[.string (ByteArray.mk #[0] ++ s)] w fun e w' => e = .returned (.int .u64 N) ∧ w' = w) :
    Calls Try.prog 5 #[.string s, .string a, .int .u64 n, .int .u64 m] w fun e w' => e = .returned (.bool true) ∧ Fr (fun _ => False) w w' := by
  have HA := hideIt (awake_any w)
  have HN := hideIt hN
  have HNa := hideIt hNa
  have HNz := hideIt hNz
  have HV := hideIt val_some
  have HM := hideIt (fun s w hs => num_any s w hs)
  have HE := hideIt hNv
  clear hN hNa hNz hNv
  have hmin : min (s.size : Int) 8 = 8 := by omega
  go_enter Try.func5, Try.ntmps5
  go_wp2_with fail
  refine Calls.mono HA.out ?_
  rintro e w1 ⟨rfl, hF⟩
  go_wp2_with fail
  refine Calls.mono (HN.out _) ?_
  rintro e w2 ⟨rfl, rfl⟩
  go_wp2_with fail
  refine Calls.mono (HV.out _ hNl _) ?_
  rintro e w2 ⟨v, hvd0, hv8, rfl, hF2⟩
  have hvd := hideIt hvd0
  clear hvd0
  have hx : v.extract 0 8 = s.extract (s.size - 8) s.size := ba_ext (by
    have hl : v.data.toList.length = 8 := by simpa using hv8
    simp only [ByteArray.data_extract, Array.toList_extract, List.extract_eq_take_drop]
    rw [List.drop_zero, List.take_of_length_le (by omega), hvd.out, HE.out, List.take_of_length_le (by simp)])
  go_wp2_with fail
  go_quiet (first | (go_at_call 24; first | with_reducible exact Calls.quiet_of_same (HN.out _) | with_reducible exact Calls.quiet_of_same (HNa.out _) | with_reducible exact Calls.quiet_of_same (HNz.out _)))
  go_wp2_with fail
  go_loop [12] (fun i => i = .int .i64 0) (fun _ => 0)
  case atStart => rfl
  case round =>
    subst hrel
    go_wp2_with fail
    refine Calls.mono (HV.out _ hn _) ?_
    rintro e w3 ⟨v1, hv1, hv18, rfl, hF3⟩
    have hV1 := hideIt hv1
    clear hv1
    go_wp2_with fail
    refine Calls.mono (HM.out v1 _ (by unfold maxLen; omega)) ?_
    rintro e w4 ⟨rfl, rfl⟩
    rw [hv18, Nat.sub_self, List.drop_zero, hV1.out, numOf_valB n hn]
    go_wp2_with fail
    refine Calls.mono (HV.out _ hn _) ?_
    rintro e w5 ⟨v2, hv2, hv28, rfl, hF5⟩
    have hV2 := hideIt hv2
    clear hv2
    go_wp2_with fail
    refine Calls.mono (HV.out _ hm _) ?_
    rintro e w6 ⟨v3, hv3, hv38, rfl, hF6⟩
    have hless : Op.bytesLess v2.toList v3.toList = decide ((n : Int) < m) := by
      rw [ByteArray.toList_eq, ByteArray.toList_eq, hV2.out, hv3, less_valB n m hn hm]
      exact decide_eq_decide.mpr (by omega)
    clear hv3
    go_wp2_with fail
    go_ret
    exact ⟨rfl, (((hF.trans hF2 (fun _ _ e => e)).drewN nq).trans hF3 (fun _ _ e => e)).trans (hF5.trans hF6 (fun _ _ e => e)) (fun _ _ e => e)⟩

end Go.Proofs.Ytmhdinianpeelab
