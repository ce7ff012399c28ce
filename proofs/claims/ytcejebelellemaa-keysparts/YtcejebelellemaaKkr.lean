/- KeysParts holds: for all two lists of texts and every text the law returns true and its arguments are as they were. No condition. -/
import Derived.Test.YtcejebelellemaaRows
import Derived.Test.YtcejebelellemaaKk
import Derived.Test.YtcejebelellemaaKy
import Derived.ProofKit
import Derived.OpenShut
import Derived.Carry
namespace Go.Proofs.Ytcejebelellemaa
open Go.ChangeShapes Go.WideShapes Go.ChangeAt Go.RowKit
open Go.ChangeMaps (open_string)
set_option linter.unusedSimpArgs false
set_option linter.unusedVariables false

theorem parts_own : ownKnob Try.prog.godebug = none := by kernel_rfl

theorem parts_row (ao : Option Addr) (ca : Nat) (a : List ByteArray) (bo : Option Addr) (cb : Nat) (b : List ByteArray) (k : ByteArray) (w : World) (ha : a = [] ∨ KsAt w ao a) (hal : a.length ≤ 9223372036854775807) (hb : b = [] ∨ KsAt w bo b) (hbl : b.length ≤ 9223372036854775807) :
    Calls Try.prog 5 #[.slice ao a.length ca, .slice bo b.length cb, .string k] w fun e w' => e = .returned (.bool true) ∧ Fr (fun _ => False) w w' := parts_all ao bo ca cb a b k w ha hb hal hbl
set_option maxRecDepth 100000 in
set_option maxHeartbeats 1000000 in
theorem parts_lifted (os : Os) (started : os.Started) (H : Type) (enc : TypeId × Value → H) :
    ReturnsInHanded {} Try.checked os 5 .any (Rows.keysPartsSpec.pre6 enc Try.prog Try.f5 Rows.keysPartsRow.domain false) (Rows.keysPartsSpec.post enc Try.prog Try.f5 false true false false) := by
  refine returnsInHanded_of_change (C := Try.checked) parts_own started (by kernel_rfl) Try.func5
    (ChangeSpec.witness6 (enc := enc) (C := Try.checked) false ⟨#[], #[.slice none 0 0, .slice none 0 0, .string ⟨#[]⟩], []⟩ 8 (by kernel_rfl) (by kernel_rfl) (by kernel_rfl) (by kernel_rfl)) ?_
  intro W base args ds gs before hval0 hW hcnd _
  have hval : ∀ (j : Nat) t v, Try.f5.params[j]? = some t → args[j]? = some v → Value.okWide Try.prog W .any base t v := hval0
  have hW' := hW
  obtain ⟨p, q, hA0, hV, rfl, hfz, hnd⟩ := hW
  have hA : DataW.TrodAll enc Try.prog W 0 (fun _ => true) true Try.f5.params.toList args.toList ds p := hA0
  rw [Try.params5] at hA hval
  obtain ⟨v0, v1, v2, d0, d1, d2, p0, p1, p2, rfl, rfl, rfl, h0, h1, h2⟩ := trodAll_three hA
  obtain ⟨rfl, rfl⟩ := trodVars_none hV
  obtain ⟨ao0, len0, cap0, rfl⟩ := okWide_slice Try.underlying22 (hval 0 22 v0 rfl rfl)
  obtain ⟨l0, rfl, hat0, hcp0, hlm0⟩ := open_ks rfl h0
  obtain ⟨ao1, len1, cap1, rfl⟩ := okWide_slice Try.underlying22 (hval 1 22 v1 rfl rfl)
  obtain ⟨l1, rfl, hat1, hcp1, hlm1⟩ := open_ks rfl h1
  obtain ⟨x2, e2, _, _, _⟩ := open_string Try.underlying9 (hval 2 9 v2 rfl rfl) h2
  subst e2
  clear hA0 hval0
  simp only [List.append_nil] at hW'
  have hlt : ∀ x ∈ p0 ++ p1 ++ p2, x.block < W.heap.size := fun x hx => by simpa using hW'.lt x (by simpa using hx)
  refine (parts_row ao0 cap0 l0 ao1 cap1 l1 x2 W hat0 (by unfold maxLen at hlm0; exact hlm0) hat1 (by unfold maxLen at hlm1; exact hlm1)).mono fun e W' ⟨he, hFr⟩ => ?_
  have bel : Below W.heap.size W W' := hFr.below (Nat.le_refl _) (fun _ e => e.elim)
  subst he
  exact ⟨_, rfl, _, _, _, [], _, [], hW', trodAll_mk1 (shut_bool Try.underlying4 _), (trodAll_cons_mk (Below.trod (by kernel_rfl) (by kernel_rfl) (of_decide_eq_true (by kernel_rfl)) h0 bel (fun x hx => hlt x (by simp [hx]))) (trodAll_cons_mk (Below.trod (by kernel_rfl) (by kernel_rfl) (of_decide_eq_true (by kernel_rfl)) h1 bel (fun x hx => hlt x (by simp [hx]))) (trodAll_cons_mk (Below.trod (by kernel_rfl) (by kernel_rfl) (of_decide_eq_true (by kernel_rfl)) h2 bel (fun x hx => hlt x (by simp [hx]))) trodAll_mk0))), rfl, bel.frame _, fun h => by cases h⟩

theorem parts_holds : Rows.KeysPartsSaid :=
  OpenClaim.holds_of_wide 5 Try.f5 rfl rfl rfl rfl rfl rfl rfl ⟨rfl, rfl, rfl, rfl, rfl⟩ rfl rfl rfl rfl rfl (by kernel_rfl) Try.func5 (by kernel_rfl)
    (of_decide_eq_true (by kernel_rfl)) (by unfold Func.isWrapper; first | (rw [if_pos (by decide +kernel)]; kernel_rfl) | (rw [if_neg (by decide +kernel)]; exact ⟨rfl, rfl⟩))
    (fun os started H enc _ => parts_lifted os started H enc)
#print axioms parts_holds

end Go.Proofs.Ytcejebelellemaa
