/- WordNobody holds: for every thing and every ask the law returns true and its arguments are as they were. No condition. -/
import Derived.Test.YtahhpecgckiaaaaRows
import Derived.Test.YtahhpecgckiaaaaP7
import Derived.Test.YtahhpecgckiaaaaO4
import Derived.ProofKit
import Derived.OpenShut
namespace Go.Proofs.Ytahhpecgckiaaaa
open Go.ChangeShapes Go.WideShapes Go.ChangeAt Go.RowKit
set_option linter.unusedSimpArgs false
set_option linter.unusedVariables false

theorem nobody_own : ownKnob Try.prog.godebug = none := by kernel_rfl

set_option maxRecDepth 100000 in
theorem nobody_bulk (x : Th) (q : Int × Int × Int) (w : World) (hx : ThOk x) (hb : bulkyB [x] = true) (hs : x.s.size ≤ 140737488355328) :
    Calls Try.prog 5 #[.agg (thA x), askV q] w fun e w' => e = .returned (.bool true) ∧ Fr (fun _ => False) w w' := by
  have HBK := hideIt (by have := bulky_any (some ⟨(nbA w x q).heap.size, 0, none⟩) 1 [x] ((nbA w x q).alloc (.cells (thA x) 35)) (Or.inr (thsAt_one x (nbA w x q))) (sum_take [x] (fun y hy => by obtain rfl := List.mem_singleton.1 hy; exact hs)) (by simp [maxLen]); rw [hb] at this; exact this)
  have HLO := hideIt (show (nbA w x q).rangeAt w.heap.size 0 (thL x) from rangeOf (heap_old (heap_new rfl)))
  have HIL := hideIt (show (Try.prog.info? 35).map (·.size) = some (thL x).length by rw [thL_len x hx.id]; exact Try.infoTh)
  have HSO := hideIt (slice_one x hx.id (nbA w x q))
  have HAW := hideIt (awake_any ((nbA w x q).alloc (.cells (thA x) 35)))
  have HF0 := hideIt (show Fr (fun _ => False) w ((nbA w x q).alloc (.cells (thA x) 35)) from (((Fr.refl _ w).alloc _).alloc _).alloc _)
  clear hb hs hx
  obtain ⟨qk, low, n⟩ := q
  go_enter Try.func5, Try.ntmps5
  go_wp2_with (first | (refine wpList_load_mid rfl 35 (.tmp 2) rfl w.heap.size 0 rfl (thL x) _ HLO.out Try.underlying35 rfl HIL.out ?_) | (refine wpList_slice_one rfl 22 (.tmp 13) rfl (.agg (thA x)) rfl _ _ HSO.out ?_))
  refine Calls.mono HBK.out ?_
  rintro e w1 ⟨rfl, rfl⟩
  go_wp2_with fail
  refine Calls.mono HAW.out ?_
  rintro e w2 ⟨rfl, hF2⟩
  have HF2 := hideIt hF2
  clear hF2
  go_wp2_with fail
  go_ret
  exact ⟨rfl, HF0.out.trans HF2.out (fun _ _ e => e)⟩

theorem nobody_walk (x : Th) (q : Int × Int × Int) (w : World) (hx : ThOk x) (hs : x.s.size ≤ 140737488355328) :
    Calls Try.prog 5 #[.agg (thA x), askV q] w fun e w' => e = .returned (.bool true) ∧ Below w.heap.size w w' := by
  have done : ∀ (e : Ending) (w' : World), (e = .returned (.bool true) ∧ Fr (fun _ => False) w w') → (e = .returned (.bool true) ∧ Below w.heap.size w w') := fun e w' h => ⟨h.1, h.2.below (Nat.le_refl _) (fun _ e => e.elim)⟩
  cases hb : bulkyB [x] with
  | true => exact (nobody_bulk x q w hx hb hs).mono done
  | false => exact (nobody_slim x q w hx hb hs).mono done

theorem trodAll_both {H : Type} {enc : TypeId × Value → H} {P : Program} {w : World} {base : Nat} {spare : Nat → Bool} {held : Bool} {t0 t1 : TypeId} {args : Array Value} {ds : List (DataW H)} {ps : List MemPlace}
    (h : DataW.TrodAll enc P w base spare held [t0, t1] args.toList ds ps) :
    ∃ v0 v1 d0 d1 p0 p1, args = #[v0, v1] ∧ ds = [d0, d1] ∧ ps = p0 ++ p1 ∧ DataW.Trod enc P w base spare held t0 v0 d0 p0 ∧ DataW.Trod enc P w base spare held t1 v1 d1 p1 := by
  obtain ⟨v0, vs0, d0, ds0, p0, q0, hargs, rfl, rfl, e0, h⟩ := trodAll_cons h
  obtain ⟨v1, vs1, d1, ds1, p1, q1, rfl, rfl, rfl, e1, h⟩ := trodAll_cons h
  obtain ⟨rfl, rfl, rfl⟩ := trodAll_nil h
  exact ⟨v0, v1, d0, d1, p0, p1, by cases args; simp_all, rfl, by simp, e0, e1⟩

set_option maxRecDepth 100000 in
theorem nobody_lifted (os : Os) (started : os.Started) (H : Type) (enc : TypeId × Value → H) :
    ReturnsInHanded {} Try.checked os 5 .any (Rows.wordNobodySpec.pre6 enc Try.prog Try.f5 Rows.wordNobodyRow.domain false) (Rows.wordNobodySpec.post enc Try.prog Try.f5 false true false false) := by
  refine returnsInHanded_of_change_sized (C := Try.checked) nobody_own started (by kernel_rfl) Try.func5
    (ChangeSpec.witness6 (enc := enc) (C := Try.checked) false ⟨#[], #[.agg thZ, .agg #[.int .i64 0, .int .i64 0, .int .i64 0]], []⟩ 8 (by kernel_rfl) (by kernel_rfl) (by kernel_rfl) (by kernel_rfl)) ?_
  intro W base args ds gs before hval0 hW hcnd hsz0 _
  have hval : ∀ (j : Nat) t v, Try.f5.params[j]? = some t → args[j]? = some v → Value.okWide Try.prog W .any base t v := hval0
  have hsz : (DataW.weightsEach Try.prog (Try.f5.params.toList ++ Rows.wordNobodySpec.plain.varTypes Try.prog) (ds ++ gs)).all (· ≤ reachBytes) = true := hsz0
  have hW' := hW
  obtain ⟨p, q, hA0, hV, rfl, hfz, hnd⟩ := hW
  have hA : DataW.TrodAll enc Try.prog W 0 (fun _ => true) true Try.f5.params.toList args.toList ds p := hA0
  rw [Try.params5] at hA hval hsz
  obtain ⟨v0, v1, d0, d1, p0, p1, rfl, rfl, rfl, h0, h1⟩ := trodAll_both hA
  obtain ⟨rfl, rfl⟩ := trodVars_none hV
  rw [List.all_eq_true] at hsz
  have w0 : ∀ n ∈ d0.weights Try.prog 35, n ≤ reachBytes := fun n hn => by simpa using hsz n (DataW.weights_mem_each (j := 0) rfl rfl _ hn)
  obtain ⟨cs0, rfl, _⟩ := okWide_struct Try.underlying35 (hval 0 35 v0 rfl rfl)
  obtain ⟨cs1, rfl, _⟩ := okWide_struct Try.underlying52 (hval 1 52 v1 rfl rfl)
  obtain ⟨x, hcx, hx, hxw⟩ : ∃ x : Th, cs0 = thA x ∧ ThOk x ∧ x.s.size ∈ d0.weights Try.prog 35 := by
    obtain ⟨fuel, h⟩ := h0
    obtain ⟨x, e, hx, hxw⟩ := thing_w h
    have e' : cs0.toList = thL x := e
    exact ⟨x, by rw [thA, ← e'], hx, hxw⟩
  obtain ⟨a, hca⟩ : ∃ a : Int × Int × Int, cs1 = #[.int .i64 a.1, .int .i64 a.2.1, .int .i64 a.2.2] := by
    obtain ⟨fuel, h⟩ := h1
    obtain ⟨a, e⟩ := asks_of h
    have e' : cs1.toList = [.int .i64 a.1, .int .i64 a.2.1, .int .i64 a.2.2] := e
    exact ⟨a, Array.ext' e'⟩
  subst hcx hca
  have hxs : x.s.size ≤ 140737488355328 := Nat.le_trans (w0 _ hxw) (by decide)
  clear hA0 hval0 hsz0
  simp only [List.append_nil] at hW'
  have hlt : ∀ y ∈ p0 ++ p1, y.block < W.heap.size := fun y hy => by simpa using hW'.lt y hy
  refine (nobody_walk x a W hx hxs).mono fun e W' ⟨he, bel⟩ => ?_
  subst he
  exact ⟨_, rfl, _, _, _, [], _, [], hW', trodAll_mk1 (shut_bool Try.underlying4 _), (trodAll_cons_mk (Below.trod (by kernel_rfl) (by kernel_rfl) (of_decide_eq_true (by kernel_rfl)) h0 bel (fun y hy => hlt y (by simp [hy]))) (trodAll_cons_mk (Below.trod (by kernel_rfl) (by kernel_rfl) (of_decide_eq_true (by kernel_rfl)) h1 bel (fun y hy => hlt y (by simp [hy]))) trodAll_mk0)), rfl, bel.frame _, fun h => by cases h⟩

theorem nobody_holds : Rows.WordNobodySaid :=
  OpenClaim.holds_of_wide 5 Try.f5 rfl rfl rfl rfl rfl rfl rfl ⟨rfl, rfl, rfl, rfl, rfl⟩ rfl rfl rfl rfl rfl (by kernel_rfl) Try.func5 (by kernel_rfl)
    (of_decide_eq_true (by kernel_rfl)) (by unfold Func.isWrapper; first | (rw [if_pos (by decide +kernel)]; kernel_rfl) | (rw [if_neg (by decide +kernel)]; exact ⟨rfl, rfl⟩))
    (fun os started H enc _ => nobody_lifted os started H enc)
#print axioms nobody_holds

end Go.Proofs.Ytahhpecgckiaaaa
