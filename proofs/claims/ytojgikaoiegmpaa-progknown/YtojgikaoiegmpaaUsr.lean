/- ProgKnown holds: the closed law returns true. No condition. -/
import Derived.Test.YtojgikaoiegmpaaRows
import Derived.Test.YtojgikaoiegmpaaQ16
import Derived.Test.YtojgikaoiegmpaaQ17
import Derived.ProofKit
import Derived.OpenShut
namespace Go.Proofs.Ytojgikaoiegmpaa
open Go.ChangeShapes Go.WideShapes Go.ChangeAt Go.RowKit
set_option linter.unusedSimpArgs false
set_option linter.unusedVariables false
set_option maxRecDepth 100000

theorem pknown_own : ownKnob Try.prog.godebug = none := by kernel_rfl

theorem pknown_walk (w : World) : Calls Try.prog 4 #[] w fun e w' => e = .returned (.bool true) ∧ Below w.heap.size w w' := by
  refine (pknown_any (fun w => ?_) w).mono ?_
  · refine Calls.mono (Try.strings_Repeat_main ⟨#[120]⟩ 64 w (by decide) (by decide) (by decide) (by decide)) ?_
    rintro e w' ⟨rfl, hB⟩
    exact ⟨rfl, Fr.of_new hB⟩
  rintro e w' ⟨rfl, hF⟩
  exact ⟨rfl, hF.below (Nat.le_refl _) (fun _ e => e.elim)⟩

set_option maxRecDepth 100000 in
theorem pknown_lifted (os : Os) (started : os.Started) (H : Type) (enc : TypeId × Value → H) :
    ReturnsInHanded {} Try.checked os 4 .any (Rows.progKnownSpec.pre6 enc Try.prog Try.f4 Rows.progKnownRow.domain false) (Rows.progKnownSpec.post enc Try.prog Try.f4 false true false false) := by
  refine returnsInHanded_of_change (C := Try.checked) pknown_own started (by kernel_rfl) Try.func4
    (ChangeSpec.witness6 (enc := enc) (C := Try.checked) false ⟨#[], #[], []⟩ 8 (by kernel_rfl) (by kernel_rfl) (by kernel_rfl) (by kernel_rfl)) ?_
  intro W base args ds gs before hval0 hW hcnd _
  have hW' := hW
  obtain ⟨p, q, hA0, hV, rfl, hfz, hnd⟩ := hW
  have hA : DataW.TrodAll enc Try.prog W 0 (fun _ => true) true Try.f4.params.toList args.toList ds p := hA0
  rw [Try.params4] at hA
  obtain ⟨rfl, rfl, rfl⟩ := trodAll_none hA
  obtain ⟨rfl, rfl⟩ := trodVars_none hV
  clear hA0 hval0
  refine (pknown_walk W).mono fun e W' ⟨he, bel⟩ => ?_
  subst he
  exact ⟨_, rfl, _, _, _, [], _, [], hW', trodAll_mk1 (shut_bool Try.underlying4 _), trodAll_mk0, rfl, bel.frame _, fun h => by cases h⟩

theorem pknown_holds : Rows.ProgKnownSaid :=
  OpenClaim.holds_of_wide 4 Try.f4 rfl rfl rfl rfl rfl rfl rfl ⟨rfl, rfl, rfl, rfl, rfl⟩ rfl rfl rfl rfl rfl (by kernel_rfl) Try.func4 (by kernel_rfl)
    (of_decide_eq_true (by kernel_rfl)) (by unfold Func.isWrapper; first | (rw [if_pos (by decide +kernel)]; kernel_rfl) | (rw [if_neg (by decide +kernel)]; exact ⟨rfl, rfl⟩))
    (fun os started H enc _ => pknown_lifted os started H enc)
#print axioms pknown_holds

end Go.Proofs.Ytojgikaoiegmpaa
