/- WordTold holds: for any two lists of things the law returns true and its arguments are as they were. No condition. -/
import Derived.Test.YtahhpecgckiaaaaRows
import Derived.Test.YtahhpecgckiaaaaP6b
import Derived.Test.YtahhpecgckiaaaaO4
import Derived.ProofKit
import Derived.OpenShut
namespace Go.Proofs.Ytahhpecgckiaaaa
open Go.ChangeShapes Go.WideShapes Go.ChangeAt Go.RowKit
set_option linter.unusedSimpArgs false
set_option linter.unusedVariables false

theorem told_own : ownKnob Try.prog.godebug = none := by kernel_rfl

theorem told_walk (aoL : Option Addr) (capL : Nat) (l : List Th) (aoM : Option Addr) (capM : Nat) (m : List Th) (w : World) (hL : l = [] ∨ ThsAt w aoL l) (hM : m = [] ∨ ThsAt w aoM m)
    (okL : ∀ x ∈ l, ThOk x ∧ x.s.size ≤ 140737488355328) (okM : ∀ x ∈ m, ThOk x ∧ x.s.size ≤ 140737488355328) (hl : l.length ≤ maxLen) (hm : m.length ≤ maxLen) :
    Calls Try.prog 7 #[.slice aoL l.length capL, .slice aoM m.length capM] w fun e w' => e = .returned (.bool true) ∧ Below w.heap.size w w' := by
  have done : ∀ (e : Ending) (w' : World), (e = .returned (.bool true) ∧ Fr (fun _ => False) w w') → (e = .returned (.bool true) ∧ Below w.heap.size w w') := fun e w' h => ⟨h.1, h.2.below (Nat.le_refl _) (fun _ e => e.elim)⟩
  have o1 := fun x hx => (okL x hx).1
  have o2 := fun x hx => (okM x hx).1
  have s1 := fun x hx => (okL x hx).2
  have s2 := fun x hx => (okM x hx).2
  cases h1 : bulkyB l with
  | true => exact (told_long aoL capL l aoM capM m w hL hM o1 o2 s1 s2 hl hm (Or.inl h1)).mono done
  | false =>
    cases h2 : bulkyB m with
    | true => exact (told_long aoL capL l aoM capM m w hL hM o1 o2 s1 s2 hl hm (Or.inr h2)).mono done
    | false =>
      cases h3 : l.any badT with
      | true => exact (told_bad1 aoL capL l aoM capM m w hL hM o1 o2 s1 s2 h1 h2 h3).mono done
      | false =>
        cases h4 : m.any badT with
        | true => exact (told_bad2 aoL capL l aoM capM m w hL hM o1 o2 s1 s2 h1 h2 h3 h4).mono done
        | false => exact (told_good aoL capL l aoM capM m w hL hM o1 o2 s1 s2 h1 h2 h3 h4).mono done

theorem trodAll_pair {H : Type} {enc : TypeId × Value → H} {P : Program} {w : World} {base : Nat} {spare : Nat → Bool} {held : Bool} {t0 t1 : TypeId} {args : Array Value} {ds : List (DataW H)} {ps : List MemPlace}
    (h : DataW.TrodAll enc P w base spare held [t0, t1] args.toList ds ps) :
    ∃ v0 v1 d0 d1 p0 p1, args = #[v0, v1] ∧ ds = [d0, d1] ∧ ps = p0 ++ p1 ∧ DataW.Trod enc P w base spare held t0 v0 d0 p0 ∧ DataW.Trod enc P w base spare held t1 v1 d1 p1 := by
  obtain ⟨v0, vs0, d0, ds0, p0, q0, hargs, rfl, rfl, e0, h⟩ := trodAll_cons h
  obtain ⟨v1, vs1, d1, ds1, p1, q1, rfl, rfl, rfl, e1, h⟩ := trodAll_cons h
  obtain ⟨rfl, rfl, rfl⟩ := trodAll_nil h
  exact ⟨v0, v1, d0, d1, p0, p1, by cases args; simp_all, rfl, by simp, e0, e1⟩

set_option maxRecDepth 100000 in
theorem told_lifted (os : Os) (started : os.Started) (H : Type) (enc : TypeId × Value → H) :
    ReturnsInHanded {} Try.checked os 7 .any (Rows.wordToldSpec.pre6 enc Try.prog Try.f7 Rows.wordToldRow.domain false) (Rows.wordToldSpec.post enc Try.prog Try.f7 false true false false) := by
  refine returnsInHanded_of_change_sized (C := Try.checked) told_own started (by kernel_rfl) Try.func7
    (ChangeSpec.witness6 (enc := enc) (C := Try.checked) false ⟨#[], #[.slice none 0 0, .slice none 0 0], []⟩ 8 (by kernel_rfl) (by kernel_rfl) (by kernel_rfl) (by kernel_rfl)) ?_
  intro W base args ds gs before hval0 hW hcnd hsz0 _
  have hval : ∀ (j : Nat) t v, Try.f7.params[j]? = some t → args[j]? = some v → Value.okWide Try.prog W .any base t v := hval0
  have hsz : (DataW.weightsEach Try.prog (Try.f7.params.toList ++ Rows.wordToldSpec.plain.varTypes Try.prog) (ds ++ gs)).all (· ≤ reachBytes) = true := hsz0
  have hW' := hW
  obtain ⟨p, q, hA0, hV, rfl, hfz, hnd⟩ := hW
  have hA : DataW.TrodAll enc Try.prog W 0 (fun _ => true) true Try.f7.params.toList args.toList ds p := hA0
  rw [Try.params7] at hA hval hsz
  obtain ⟨v0, v1, d0, d1, p0, p1, rfl, rfl, rfl, h0, h1⟩ := trodAll_pair hA
  obtain ⟨rfl, rfl⟩ := trodVars_none hV
  rw [List.all_eq_true] at hsz
  have w0 : ∀ n ∈ d0.weights Try.prog 22, n ≤ reachBytes := fun n hn => by simpa using hsz n (DataW.weights_mem_each (j := 0) rfl rfl _ hn)
  have w1 : ∀ n ∈ d1.weights Try.prog 22, n ≤ reachBytes := fun n hn => by simpa using hsz n (DataW.weights_mem_each (j := 1) rfl rfl _ hn)
  obtain ⟨aoL, lenL, capL, rfl⟩ := okWide_slice Try.underlying22 (hval 0 22 v0 rfl rfl)
  obtain ⟨l, rfl, hL, okL, hl⟩ := open_things_w rfl h0 w0
  obtain ⟨aoM, lenM, capM, rfl⟩ := okWide_slice Try.underlying22 (hval 1 22 v1 rfl rfl)
  obtain ⟨m, rfl, hM, okM, hm⟩ := open_things_w rfl h1 w1
  clear hA0 hval0 hsz0
  simp only [List.append_nil] at hW'
  have hlt : ∀ x ∈ p0 ++ p1, x.block < W.heap.size := fun x hx => by simpa using hW'.lt x hx
  refine (told_walk aoL capL l aoM capM m W hL hM okL okM hl hm).mono fun e W' ⟨he, bel⟩ => ?_
  subst he
  exact ⟨_, rfl, _, _, _, [], _, [], hW', trodAll_mk1 (shut_bool Try.underlying4 _), (trodAll_cons_mk (Below.trod (by kernel_rfl) (by kernel_rfl) (of_decide_eq_true (by kernel_rfl)) h0 bel (fun x hx => hlt x (by simp [hx]))) (trodAll_cons_mk (Below.trod (by kernel_rfl) (by kernel_rfl) (of_decide_eq_true (by kernel_rfl)) h1 bel (fun x hx => hlt x (by simp [hx]))) trodAll_mk0)), rfl, bel.frame _, fun h => by cases h⟩

theorem told_holds : Rows.WordToldSaid :=
  OpenClaim.holds_of_wide 7 Try.f7 rfl rfl rfl rfl rfl rfl rfl ⟨rfl, rfl, rfl, rfl, rfl⟩ rfl rfl rfl rfl rfl (by kernel_rfl) Try.func7 (by kernel_rfl)
    (of_decide_eq_true (by kernel_rfl)) (by unfold Func.isWrapper; first | (rw [if_pos (by decide +kernel)]; kernel_rfl) | (rw [if_neg (by decide +kernel)]; exact ⟨rfl, rfl⟩))
    (fun os started H enc _ => told_lifted os started H enc)
#print axioms told_holds

end Go.Proofs.Ytahhpecgckiaaaa
