/- Keys: whether a key is in joined spans; Among. -/
import Derived.Test.YtcejebelellemaaKl
namespace Go.Proofs.Ytcejebelellemaa
open Go.RowKit Go.IntWalk
set_option linter.unusedSimpArgs false
set_option linter.unusedVariables false

theorem kj_jd (l : List Sp) : Jd (joinC l) := (sortC_sorted l).jd
theorem kj_has (l : List Sp) (k : By) : hasB (joinC l) k = hasB l k := by
  rw [Bool.eq_iff_iff, hasB_iff, hasB_iff]
  exact (sortC_sorted l).keys k

set_option maxRecDepth 100000 in
set_option maxHeartbeats 1000000 in
theorem karea_any (ao : Option Addr) (cap : Nat) (l : List Sp) (k : ByteArray) (w : World) (h : l = [] ∨ SpsAt w ao l) (hj : Jd l) (hl : l.length ≤ 1000000) :
    Calls Try.prog 38 #[.slice ao l.length cap, .string k] w fun e w' => e = .returned (.bool (hasB l k.toList)) ∧ Fr (fun _ => False) w w' := by
  have hB := hideIt (kbsf_any ao cap l k w h hj hl)
  have HH := hideIt h
  have HJ := hideIt hj
  clear h hj
  go_enter Try.func38, Try.ntmps38
  go_wp2_with fail
  refine Calls.mono hB.out ?_
  rintro e w1 ⟨n, f, rfl, hst, hf, hF⟩
  have HST := hideIt hst
  have HFF := hideIt hf
  have HF := hideIt hF
  have hle := hst.le
  clear hst hf hF hB
  cases f with
  | true =>
    have HX := hideIt (show hasB l k.toList = true from by obtain ⟨h1, h2⟩ := HFF.out.1 rfl; exact HST.out.hits HJ.out h1 h2)
    go_wp2_with fail
    go_ret
    exact ⟨by rw [HX.out]; rfl, HF.out⟩
  | false =>
    have HNE := hideIt (fun (hh : n < l.length) => show lo l[n] ≠ k.toList from fun e => by have := HFF.out.2 ⟨hh, e⟩; cases this)
    cases n with
    | zero =>
      have HX := hideIt (HST.out.none HJ.out HNE.out)
      go_wp2_with fail
      go_ret
      exact ⟨by rw [HX.out]; rfl, HF.out⟩
    | succ m =>
      have hm : m < l.length := by omega
      obtain ⟨b, off, rfl, hbl, c0, c1⟩ := SpsAt.get (ats_fr0 HH.out HF.out) m hm
      have HX := hideIt (show hasB l k.toList = decide (KeyIn l[m] k.toList) from HST.out.last HJ.out (by omega) HNE.out)
      have hI := hideIt (fun u => in_any l[m] k u)
      have h0 : (0 : Int) < ((m + 1 : Nat) : Int) := by omega
      have h1 : IntKind.i64.wrap (((m + 1 : Nat) : Int) - 1) = (m : Int) := by rw [show (((m + 1 : Nat) : Int) - 1) = (m : Int) by omega]; exact i64_in _ (by omega)
      have h2 : (m : Int) < (l.length : Int) := by omega
      generalize l[m] = x at *
      generalize decide (KeyIn x k.toList) = v at *
      clear HNE HST HFF
      go_wp2_with fail
      refine Calls.mono (hI.out _) ?_
      rintro e w2 ⟨rfl, hF2⟩
      have HF2 := hideIt (HF.out.trans hF2 (fun _ _ e => e))
      clear hF2
      go_wp2_with fail
      go_ret
      exact ⟨by rw [HX.out]; rfl, HF2.out⟩

end Go.Proofs.Ytcejebelellemaa
