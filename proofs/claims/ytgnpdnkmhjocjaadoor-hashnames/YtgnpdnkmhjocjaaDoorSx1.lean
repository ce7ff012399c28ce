/- Package hash, the laws' own: awake, walked. -/
import Derived.Test.YtgnpdnkmhjocjaaDoorSr
namespace Go.Proofs.YtgnpdnkmhjocjaaDoor
open Go.RowKit Go.IntWalk
set_option linter.unusedSimpArgs false
set_option linter.unusedVariables false

theorem prs_63 : prs (List.replicate 63 (48 : UInt8)) = (zeros32, 4, 63) := by kernel_rfl

set_option maxRecDepth 100000 in
set_option maxHeartbeats 4000000 in
theorem hawake_any (w : World) (hG : Glob w) : Calls Tryd.prog 11 #[] w fun e w' => e = .returned (.bool true) ∧ Fr (fun _ => False) w w' := by
  have HG := hideIt hG
  have H1 := hideIt (hnamed_any ⟨#[]⟩ [101, 51, 98, 48, 99, 52, 52, 50, 57, 56, 102, 99, 49, 99, 49, 52, 57, 97, 102, 98, 102, 52, 99, 56, 57, 57, 54, 102, 98, 57, 50, 52, 50, 55, 97, 101, 52, 49, 101, 52, 54, 52, 57, 98, 57, 51, 52, 99, 97, 52, 57, 53, 57, 57, 49, 98, 55, 56, 53, 50, 98, 56, 53, 53] (by decide) w hG)
  rw [show ((⟨#[]⟩ : ByteArray).data.toList) = [] from rfl, named_empty] at H1
  clear hG
  go_enter Tryd.func11, Tryd.ntmps11
  go_wp2_with fail
  refine Calls.mono H1.out ?_
  rintro e w1 ⟨rfl, hF1⟩
  have HF1 := hideIt hF1
  have H2 := hideIt (hnamed_any ⟨#[97, 98, 99]⟩ [98, 97, 55, 56, 49, 54, 98, 102, 56, 102, 48, 49, 99, 102, 101, 97, 52, 49, 52, 49, 52, 48, 100, 101, 53, 100, 97, 101, 50, 50, 50, 51, 98, 48, 48, 51, 54, 49, 97, 51, 57, 54, 49, 55, 55, 97, 57, 99, 98, 52, 49, 48, 102, 102, 54, 49, 102, 50, 48, 48, 49, 53, 97, 100] (by decide) w1 (HG.out.fr0 hF1))
  rw [show ((⟨#[97, 98, 99]⟩ : ByteArray).data.toList) = [97, 98, 99] from rfl, named_abc] at H2
  clear hF1 H1
  go_wp2_with fail
  refine Calls.mono H2.out ?_
  rintro e w2 ⟨rfl, hF2⟩
  have HF2 := hideIt (HF1.out.trans hF2 (fun _ _ e => e))
  have H3 := hideIt (hnoughts_any 63 (by decide) (by decide) w2)
  clear hF2 H2 HF1
  go_wp2_with fail
  refine Calls.mono H3.out ?_
  rintro e w3 ⟨rfl, hF3⟩
  have HF3 := hideIt (HF2.out.trans hF3 (fun _ _ e => e))
  have H4 := hideIt (hstops_any ⟨(List.replicate 63 (48 : UInt8)).toArray⟩ (by decide) 63 prs_63 w3)
  clear hF3 H3 HF2
  generalize (⟨(List.replicate 63 (48 : UInt8)).toArray⟩ : ByteArray) = S at *
  go_wp2_with fail
  refine Calls.mono H4.out ?_
  rintro e w4 ⟨rfl, hF4⟩
  have HF4 := hideIt (HF3.out.trans hF4 (fun _ _ e => e))
  clear hF4 H4 HF3
  go_wp2_with fail
  go_ret
  exact ⟨rfl, HF4.out⟩

end Go.Proofs.YtgnpdnkmhjocjaaDoor
