/- SpanKnown: the chapter's examples are answered as it says. -/
import Derived.Test.YthancjilkkhfcaaTp
namespace Go.Proofs.Ythancjilkkhfcaa
open Go.RowKit Go.IntWalk
set_option linter.unusedSimpArgs false
set_option linter.unusedVariables false

theorem joinC_of {l m : List Sp} (h : Sorted l m) : joinC l = jl m := (sortC_sorted l).one h (fun _ => Iff.rfl)

theorem jn_len : ∀ (r : List Sp) (last : Sp), (jn last r).length ≤ r.length + 1
  | [], _ => by simp [jn]
  | s :: r, last => by
    rw [jn]
    split
    · have := jn_len r s
      simp only [List.length_cons]
      omega
    · have := jn_len r (grow1 last s)
      simp only [List.length_cons]
      omega

theorem joinC_len (l : List Sp) : (joinC l).length ≤ l.length := by
  have h : (sortC (fulls l)).length ≤ l.length := by rw [sortC_len]; exact fulls_len l
  unfold joinC
  generalize sortC (fulls l) = m at *
  cases m with
  | nil => simp [jl]
  | cons s r => exact Nat.le_trans (jn_len r s) h

/-- Spans that are not empty, and whose Lo rise, are in their order. -/
theorem sorted_self {l : List Sp} (h1 : ∀ s ∈ l, NonE s) (h2 : l.Pairwise (fun a b => ¬ lo b < lo a)) : Sorted l l := ⟨fun s => ⟨fun h => ⟨h, h1 s h⟩, fun h => h.1⟩, h2⟩

theorem covers_fr {w0 : World} (ao : Option Addr) (cap : Nat) (l : List Sp) (s : Sp) (v : Bool) {w : World} (hat : SpsAt w ao l) (hv : (if NonE s then covB (joinC l) s else true) = v) (hb : l.length ≤ 1099511627774) (h : Fr (fun _ => False) w0 w) :
    Calls Try.prog 28 #[.slice ao l.length cap, .agg #[.string s.1, .string s.2]] w fun e w' => e = .returned (.bool v) ∧ Fr (fun _ => False) w0 w' :=
  (covers_any ao cap l s w (Or.inr hat) hb (Nat.le_trans (joinC_len l) hb)).mono fun _ _ ⟨he, hF⟩ => ⟨by rw [he, hv], h.trans hF (fun _ _ e => e)⟩

theorem eql_ab (a b c d : ByteArray) (w : World) : (binOp .eql 23 (.agg #[.string a, .string b]) (.agg #[.string c, .string d])).run Try.prog w = .ok (.bool (decide ((a, b) = (c, d)))) w := eql_sp (a, b) (c, d) w

theorem cov1 : (if NonE (⟨#[97]⟩, ⟨#[99]⟩) then covB (joinC [(⟨#[97]⟩, ⟨#[98]⟩), (⟨#[98]⟩, ⟨#[99]⟩)]) (⟨#[97]⟩, ⟨#[99]⟩) else true) = true := by
  rw [joinC_of (sorted_self (l := [(⟨#[97]⟩, ⟨#[98]⟩), (⟨#[98]⟩, ⟨#[99]⟩)]) (by simp only [NonE, hi, lo, Lib.toList_data]; decide) (by simp only [lo, Lib.toList_data]; decide))]
  simp only [NonE, jl, jn, short, grow1, outl, covB, KeyIn, hi, lo, Lib.toList_data]
  decide +kernel

theorem cov2 : (if NonE (⟨#[97]⟩, ⟨#[100]⟩) then covB (joinC [(⟨#[97]⟩, ⟨#[98]⟩), (⟨#[99]⟩, ⟨#[100]⟩)]) (⟨#[97]⟩, ⟨#[100]⟩) else true) = false := by
  rw [joinC_of (sorted_self (l := [(⟨#[97]⟩, ⟨#[98]⟩), (⟨#[99]⟩, ⟨#[100]⟩)]) (by simp only [NonE, hi, lo, Lib.toList_data]; decide) (by simp only [lo, Lib.toList_data]; decide))]
  simp only [NonE, jl, jn, short, grow1, outl, covB, KeyIn, hi, lo, Lib.toList_data]
  decide +kernel

set_option maxRecDepth 100000 in
set_option maxHeartbeats 4000000 in
theorem known_any (w : World) : Calls Try.prog 8 #[] w fun e w' => e = .returned (.bool true) ∧ Fr (fun _ => False) w w' := by
  have hF0 : Fr (fun _ => False) w w := Fr.refl _ _
  have hq1 : ∀ w, (binOp .eql 23 (.agg #[.string ⟨#[107]⟩, .string ⟨#[107, 0]⟩]) (.agg #[.string ⟨#[107]⟩, .string ⟨#[107, 0]⟩])).run Try.prog w = .ok (.bool true) w := fun w => (eql_ab _ _ _ _ w).trans (by simp)
  have hq2 : ∀ w, (binOp .eql 23 (.agg #[.string ⟨#[97]⟩, .string ⟨#[107, 0]⟩]) (.agg #[.string ⟨#[97]⟩, .string ⟨#[107, 0]⟩])).run Try.prog w = .ok (.bool true) w := fun w => (eql_ab _ _ _ _ w).trans (by simp)
  have hq3 : ∀ w, (binOp .eql 23 (.agg #[.string ⟨#[97]⟩, .string ⟨#[99]⟩]) (.agg #[.string ⟨#[97]⟩, .string ⟨#[99]⟩])).run Try.prog w = .ok (.bool true) w := fun w => (eql_ab _ _ _ _ w).trans (by simp)
  have H1 := hideIt (show ∀ w' : World, Fr (fun _ => False) w w' → Calls Try.prog 16 #[.string ⟨#[107]⟩] w' fun e w'' => e = .returned (.agg #[.string ⟨#[107]⟩, .string ⟨#[107, 0]⟩]) ∧ Fr (fun _ => False) w w'' from fun w' h => (one_any ⟨#[107]⟩ (by decide) w').mono fun _ _ ⟨he, hF⟩ => ⟨he, h.trans hF (fun _ _ e => e)⟩)
  have H2 := hideIt (show ∀ w' : World, Fr (fun _ => False) w w' → Calls Try.prog 18 #[.agg #[.string ⟨#[97]⟩, .string ⟨#[122]⟩], .string ⟨#[107]⟩] w' fun e w'' => e = .returned (.agg #[.string ⟨#[97]⟩, .string ⟨#[107, 0]⟩]) ∧ Fr (fun _ => False) w w'' from fun w' h => (upto_any (⟨#[97]⟩, ⟨#[122]⟩) ⟨#[107]⟩ (by decide) w').mono fun _ _ ⟨he, hF⟩ => ⟨by rw [he, show uptoS (⟨#[97]⟩, ⟨#[122]⟩) ⟨#[107]⟩ = (⟨#[97]⟩, ⟨#[107, 0]⟩) by simp only [uptoS, endS, cmpS, hi, bhd_toList, Lib.toList_data]; decide +kernel], h.trans hF (fun _ _ e => e)⟩)
  have H3 := hideIt (show ∀ w' : World, Fr (fun _ => False) w w' → Calls Try.prog 18 #[.agg #[.string ⟨#[97]⟩, .string ⟨#[99]⟩], .string ⟨#[107]⟩] w' fun e w'' => e = .returned (.agg #[.string ⟨#[97]⟩, .string ⟨#[99]⟩]) ∧ Fr (fun _ => False) w w'' from fun w' h => (upto_any (⟨#[97]⟩, ⟨#[99]⟩) ⟨#[107]⟩ (by decide) w').mono fun _ _ ⟨he, hF⟩ => ⟨by rw [he, show uptoS (⟨#[97]⟩, ⟨#[99]⟩) ⟨#[107]⟩ = (⟨#[97]⟩, ⟨#[99]⟩) by simp only [uptoS, endS, cmpS, hi, bhd_toList, Lib.toList_data]; decide +kernel], h.trans hF (fun _ _ e => e)⟩)
  go_enter Try.func8, Try.ntmps8
  go_wp2_with fail
  refine Calls.mono (of_fr (w0 := w) ⟨#[98]⟩ ⟨#[100]⟩ (by assumption)) ?_
  rintro e w1 ⟨rfl, hF1⟩
  go_wp2_with fail
  refine Calls.mono (in_fr (w0 := w) ⟨#[98]⟩ ⟨#[100]⟩ ⟨#[100]⟩ false (by simp only [KeyIn, hi, lo, Lib.toList_data]; decide) (by assumption)) ?_
  rintro e w2 ⟨rfl, hF2⟩
  go_wp2_with fail
  refine Calls.mono (of_fr (w0 := w) ⟨#[98]⟩ ⟨#[]⟩ (by assumption)) ?_
  rintro e w3 ⟨rfl, hF3⟩
  go_wp2_with fail
  refine Calls.mono (in_fr (w0 := w) ⟨#[98]⟩ ⟨#[]⟩ ⟨#[122, 122]⟩ true (by simp only [KeyIn, hi, lo, Lib.toList_data]; decide) (by assumption)) ?_
  rintro e w4 ⟨rfl, hF4⟩
  go_wp2_with fail
  refine Calls.mono (of_fr (w0 := w) ⟨#[]⟩ ⟨#[]⟩ (by assumption)) ?_
  rintro e w5 ⟨rfl, hF5⟩
  go_wp2_with fail
  refine Calls.mono (empty_fr (w0 := w) ⟨#[]⟩ ⟨#[]⟩ false (by simp only [NonE, hi, lo, Lib.toList_data]; decide) (by assumption)) ?_
  rintro e w6 ⟨rfl, hF6⟩
  go_wp2_with fail
  refine Calls.mono (of_fr (w0 := w) ⟨#[97]⟩ ⟨#[98]⟩ (by assumption)) ?_
  rintro e w7 ⟨rfl, hF7⟩
  go_wp2_with fail
  refine Calls.mono (of_fr (w0 := w) ⟨#[98]⟩ ⟨#[99]⟩ (by assumption)) ?_
  rintro e w8 ⟨rfl, hF8⟩
  go_wp2_with fail
  refine Calls.mono (meets_fr (w0 := w) ⟨#[97]⟩ ⟨#[98]⟩ ⟨#[98]⟩ ⟨#[99]⟩ false (by simp only [KeyIn, hi, lo, Lib.toList_data, Lib.maxS]; decide) (by assumption)) ?_
  rintro e w9 ⟨rfl, hF9⟩
  go_wp2_with fail
  refine Calls.mono (of_fr (w0 := w) ⟨#[99]⟩ ⟨#[98]⟩ (by assumption)) ?_
  rintro e w10 ⟨rfl, hF10⟩
  go_wp2_with fail
  refine Calls.mono (of_fr (w0 := w) ⟨#[]⟩ ⟨#[]⟩ (by assumption)) ?_
  rintro e w11 ⟨rfl, hF11⟩
  go_wp2_with fail
  refine Calls.mono (meets_fr (w0 := w) ⟨#[99]⟩ ⟨#[98]⟩ ⟨#[]⟩ ⟨#[]⟩ false (by simp only [KeyIn, hi, lo, Lib.toList_data, Lib.maxS]; decide) (by assumption)) ?_
  rintro e w12 ⟨rfl, hF12⟩
  go_wp2_with fail
  refine Calls.mono (H1.out _ (by assumption)) ?_
  rintro e w13 ⟨rfl, hF13⟩
  go_wp2_with fail
  refine Calls.mono (of_fr (w0 := w) ⟨#[107]⟩ ⟨#[107, 0]⟩ (by assumption)) ?_
  rintro e w14 ⟨rfl, hF14⟩
  go_wp2_with fail
  refine Calls.mono (of_fr (w0 := w) ⟨#[97]⟩ ⟨#[122]⟩ (by assumption)) ?_
  rintro e w15 ⟨rfl, hF15⟩
  go_wp2_with fail
  refine Calls.mono (H2.out _ (by assumption)) ?_
  rintro e w16 ⟨rfl, hF16⟩
  go_wp2_with fail
  refine Calls.mono (of_fr (w0 := w) ⟨#[97]⟩ ⟨#[107, 0]⟩ (by assumption)) ?_
  rintro e w17 ⟨rfl, hF17⟩
  go_wp2_with fail
  refine Calls.mono (of_fr (w0 := w) ⟨#[97]⟩ ⟨#[99]⟩ (by assumption)) ?_
  rintro e w18 ⟨rfl, hF18⟩
  go_wp2_with fail
  refine Calls.mono (H3.out _ (by assumption)) ?_
  rintro e w19 ⟨rfl, hF19⟩
  go_wp2_with fail
  refine Calls.mono (of_fr (w0 := w) ⟨#[97]⟩ ⟨#[99]⟩ (by assumption)) ?_
  rintro e w20 ⟨rfl, hF20⟩
  go_wp2_with fail
  refine Calls.mono (of_fr (w0 := w) ⟨#[97]⟩ ⟨#[98]⟩ (by assumption)) ?_
  rintro e w21 ⟨rfl, hF21⟩
  go_wp2_with fail
  refine Calls.mono (of_fr (w0 := w) ⟨#[98]⟩ ⟨#[99]⟩ (by assumption)) ?_
  rintro e w22 ⟨rfl, hF22⟩
  go_wp2_with fail
  refine Calls.mono (of_any ⟨#[97]⟩ ⟨#[99]⟩ _) ?_
  rintro e w23 ⟨rfl, hX23⟩
  have hF23 : Fr (fun _ => False) w w23 := (Fr.alloc (by assumption) _).trans hX23 (fun _ _ e => e)
  go_wp2_with fail
  refine Calls.mono (covers_fr (w0 := w) _ 2 [(⟨#[97]⟩, ⟨#[98]⟩), (⟨#[98]⟩, ⟨#[99]⟩)] (⟨#[97]⟩, ⟨#[99]⟩) true (show SpsAt w23 (some ⟨w22.heap.size, 0, none⟩) [(⟨#[97]⟩, ⟨#[98]⟩), (⟨#[98]⟩, ⟨#[99]⟩)] from (sps_arr [(⟨#[97]⟩, ⟨#[98]⟩), (⟨#[98]⟩, ⟨#[99]⟩)] w22).fr0 hX23) cov1 (by decide) (by assumption)) ?_
  rintro e w24 ⟨rfl, hF24⟩
  go_wp2_with fail
  refine Calls.mono (of_fr (w0 := w) ⟨#[97]⟩ ⟨#[98]⟩ (by assumption)) ?_
  rintro e w25 ⟨rfl, hF25⟩
  go_wp2_with fail
  refine Calls.mono (of_fr (w0 := w) ⟨#[99]⟩ ⟨#[100]⟩ (by assumption)) ?_
  rintro e w26 ⟨rfl, hF26⟩
  go_wp2_with fail
  refine Calls.mono (of_any ⟨#[97]⟩ ⟨#[100]⟩ _) ?_
  rintro e w27 ⟨rfl, hX27⟩
  have hF27 : Fr (fun _ => False) w w27 := (Fr.alloc (by assumption) _).trans hX27 (fun _ _ e => e)
  go_wp2_with fail
  refine Calls.mono (covers_fr (w0 := w) _ 2 [(⟨#[97]⟩, ⟨#[98]⟩), (⟨#[99]⟩, ⟨#[100]⟩)] (⟨#[97]⟩, ⟨#[100]⟩) false (show SpsAt w27 (some ⟨w26.heap.size, 0, none⟩) [(⟨#[97]⟩, ⟨#[98]⟩), (⟨#[99]⟩, ⟨#[100]⟩)] from (sps_arr [(⟨#[97]⟩, ⟨#[98]⟩), (⟨#[99]⟩, ⟨#[100]⟩)] w26).fr0 hX27) cov2 (by decide) (by assumption)) ?_
  rintro e w28 ⟨rfl, hF28⟩
  go_wp2_with fail
  refine Calls.mono (awake_any _) ?_
  rintro e wz ⟨rfl, hFz⟩
  go_wp2_with fail
  go_ret
  exact ⟨rfl, Fr.trans (by assumption) hFz (fun _ _ e => e)⟩

end Go.Proofs.Ythancjilkkhfcaa
