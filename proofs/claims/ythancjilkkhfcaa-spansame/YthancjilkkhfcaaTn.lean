/- Spans: the document's examples. -/
import Derived.Test.YthancjilkkhfcaaTm
namespace Go.Proofs.Ythancjilkkhfcaa
open Go.RowKit Go.IntWalk
set_option linter.unusedSimpArgs false
set_option linter.unusedVariables false

theorem sps_arr (l : List Sp) (w : World) : SpsAt (w.alloc (.cells (l.flatMap spL).toArray 23)) (some ⟨w.heap.size, 0, none⟩) l := by
  refine Or.inr ⟨w.heap.size, 0, rfl, by simp, fun i hi => ?_⟩
  rw [cellNew w _ _ _ _ rfl, cellNew w _ _ _ _ rfl]
  have h0 := flat2_get l i 0 hi (by omega)
  have h1 := flat2_get l i 1 hi (by omega)
  simp only [List.getElem?_toArray, Nat.zero_add]
  exact ⟨h0, h1⟩

def litJ : List Sp := [(⟨#[99]⟩, ⟨#[100]⟩), (⟨#[97]⟩, ⟨#[98]⟩), (⟨#[98]⟩, ⟨#[99]⟩), (⟨#[101]⟩, ⟨#[101]⟩), (⟨#[102]⟩, ⟨#[]⟩)]
def litS : List Sp := [(⟨#[97]⟩, ⟨#[98]⟩), (⟨#[98]⟩, ⟨#[99]⟩), (⟨#[99]⟩, ⟨#[100]⟩), (⟨#[102]⟩, ⟨#[]⟩)]
def litR : List Sp := [(⟨#[97]⟩, ⟨#[100]⟩), (⟨#[102]⟩, ⟨#[]⟩)]

theorem litJ_sorted : Sorted litJ litS := by
  refine ⟨fun s => ?_, ?_⟩
  · constructor
    · intro h
      simp only [litS, List.mem_cons, List.not_mem_nil, or_false] at h
      rcases h with rfl | rfl | rfl | rfl <;> exact ⟨by simp [litJ], by simp only [NonE, hi, lo, Lib.toList_data]; decide⟩
    · rintro ⟨h, hn⟩
      simp only [litJ, List.mem_cons, List.not_mem_nil, or_false] at h
      rcases h with rfl | rfl | rfl | rfl | rfl
      · simp [litS]
      · simp [litS]
      · simp [litS]
      · exact absurd hn (by simp only [NonE, hi, lo, Lib.toList_data]; decide)
      · simp [litS]
  · simp only [litS, lo, Lib.toList_data]; decide

theorem litJ_join : joinC litJ = litR := by
  have h : joinC litJ = jl litS := (sortC_sorted litJ).one litJ_sorted (fun k => Iff.rfl)
  rw [h]
  simp only [litS, litR, jl, jn, short, grow1, outl, hi, lo, Lib.toList_data]
  decide +kernel

section
variable {w0 : World}
theorem of_fr (a b : ByteArray) {w : World} (h : Fr (fun _ => False) w0 w) : Calls Try.prog 31 #[.string a, .string b] w fun e w' => e = .returned (.agg #[.string a, .string b]) ∧ Fr (fun _ => False) w0 w' :=
  (of_any a b w).mono fun _ _ ⟨he, hF⟩ => ⟨he, h.trans hF (fun _ _ e => e)⟩
theorem in_fr (a b k : ByteArray) (v : Bool) (hv : decide (KeyIn (a, b) k.toList) = v) {w : World} (h : Fr (fun _ => False) w0 w) : Calls Try.prog 10 #[.agg #[.string a, .string b], .string k] w fun e w' => e = .returned (.bool v) ∧ Fr (fun _ => False) w0 w' :=
  (in_any (a, b) k w).mono fun _ _ ⟨he, hF⟩ => ⟨by rw [he, hv], h.trans hF (fun _ _ e => e)⟩
theorem empty_fr (a b : ByteArray) (v : Bool) (hv : decide (¬ NonE (a, b)) = v) {w : World} (h : Fr (fun _ => False) w0 w) : Calls Try.prog 12 #[.agg #[.string a, .string b]] w fun e w' => e = .returned (.bool v) ∧ Fr (fun _ => False) w0 w' :=
  (empty_any (a, b) w).mono fun _ _ ⟨he, hF⟩ => ⟨by rw [he, hv], h.trans hF (fun _ _ e => e)⟩
theorem meets_fr (a b c d : ByteArray) (v : Bool) (hv : (decide (KeyIn (a, b) (Lib.maxS a c).toList) && decide (KeyIn (c, d) (Lib.maxS a c).toList)) = v) {w : World} (h : Fr (fun _ => False) w0 w) : Calls Try.prog 14 #[.agg #[.string a, .string b], .agg #[.string c, .string d]] w fun e w' => e = .returned (.bool v) ∧ Fr (fun _ => False) w0 w' :=
  (meets_any (a, b) (c, d) w).mono fun _ _ ⟨he, hF⟩ => ⟨by rw [he, ← hv], h.trans hF (fun _ _ e => e)⟩
end

set_option maxRecDepth 100000 in
set_option maxHeartbeats 1000000 in
theorem awake_any (w : World) : Calls Try.prog 20 #[] w fun e w' => e = .returned (.bool true) ∧ Fr (fun _ => False) w w' := by
  have v1 : decide (KeyIn (⟨#[98]⟩, ⟨#[100]⟩) (⟨#[98]⟩ : ByteArray).toList) = true := by simp only [KeyIn, hi, lo, Lib.toList_data]; decide
  have v2 : decide (¬ NonE (⟨#[98]⟩, ⟨#[98]⟩)) = true := by simp only [NonE, hi, lo, Lib.toList_data]; decide
  have v3 : (decide (KeyIn (⟨#[97]⟩, ⟨#[99]⟩) (Lib.maxS ⟨#[97]⟩ ⟨#[98]⟩).toList) && decide (KeyIn (⟨#[98]⟩, ⟨#[100]⟩) (Lib.maxS ⟨#[97]⟩ ⟨#[98]⟩).toList)) = true := by
    have e : Lib.maxS ⟨#[97]⟩ ⟨#[98]⟩ = ⟨#[98]⟩ := by decide
    rw [e]
    simp only [KeyIn, hi, lo, Lib.toList_data]; decide
  have H1 := hideIt (fun (w' : World) (h : Fr (fun _ => False) w w') => in_fr _ _ _ _ v1 h)
  have H2 := hideIt (fun (w' : World) (h : Fr (fun _ => False) w w') => empty_fr _ _ _ v2 h)
  have H3 := hideIt (fun (w' : World) (h : Fr (fun _ => False) w w') => meets_fr _ _ _ _ _ v3 h)
  have HJ := hideIt (show ∀ w' : World, Fr (fun _ => False) w w' → Calls Try.prog 22 #[.slice (some ⟨w'.heap.size, 0, none⟩) 5 5] (w'.alloc (.cells #[.string ⟨#[99]⟩, .string ⟨#[100]⟩, .string ⟨#[97]⟩, .string ⟨#[98]⟩, .string ⟨#[98]⟩, .string ⟨#[99]⟩, .string ⟨#[101]⟩, .string ⟨#[101]⟩, .string ⟨#[102]⟩, .string ⟨#[]⟩] 23)) fun e w'' => ∃ ao' cap', e = .returned (.slice ao' 2 cap') ∧ SpRow w'' ao' cap' litR ∧ Fr (fun _ => False) w w'' from fun w' h => by
    have hj := join_any (some ⟨w'.heap.size, 0, none⟩) 5 litJ _ (Or.inr (sps_arr litJ w')) (by decide)
    rw [litJ_join] at hj
    refine Calls.mono hj ?_
    rintro e w'' ⟨ao', cap', rfl, hrow, hF, _⟩
    exact ⟨ao', cap', rfl, hrow, (h.alloc _).trans hF (fun _ _ e => e)⟩)
  have HS := hideIt (show ∀ (ao' : Option Addr) (cap' : Nat) (w' : World), SpRow w' ao' cap' litR → Calls Try.prog 23 #[.slice ao' 2 cap', .slice (some ⟨w'.heap.size, 0, none⟩) 2 2] (w'.alloc (.cells #[.string ⟨#[97]⟩, .string ⟨#[100]⟩, .string ⟨#[102]⟩, .string ⟨#[]⟩] 23)) fun e w'' => e = .returned (.bool true) ∧ Fr (fun _ => False) w' w'' from fun ao' cap' w' h => by
    have hF1 : Fr (fun _ => False) w' (w'.alloc (.cells #[.string ⟨#[97]⟩, .string ⟨#[100]⟩, .string ⟨#[102]⟩, .string ⟨#[]⟩] 23)) := (Fr.refl _ _).alloc _
    have hs := sames_any ao' (some ⟨w'.heap.size, 0, none⟩) cap' 2 litR litR _ (Or.inr ((h.fr hF1 (fun _ _ e => e)).at)) (Or.inr (sps_arr litR w')) (by decide) (by decide)
    refine Calls.mono hs ?_
    rintro e w'' ⟨rfl, hF⟩
    exact ⟨by simp, hF1.trans hF (fun _ _ e => e)⟩)
  have hF0 : Fr (fun _ => False) w w := Fr.refl _ _
  clear v1 v2 v3
  go_enter Try.func20, Try.ntmps20
  go_wp2_with (first | (go_at_call 31; refine (of_fr _ _ (by assumption)).mono ?_; rintro e w' ⟨rfl, hF⟩) | (go_at_call 10; refine (H1.out _ (by assumption)).mono ?_; rintro e w' ⟨rfl, hF⟩) | (go_at_call 12; refine (H2.out _ (by assumption)).mono ?_; rintro e w' ⟨rfl, hF⟩) | (go_at_call 14; refine (H3.out _ (by assumption)).mono ?_; rintro e w' ⟨rfl, hF⟩))
  refine Calls.mono (HJ.out _ (by assumption)) ?_
  rintro e w2 ⟨ao2, cap2, rfl, hrow2, hF2⟩
  go_wp2_with fail
  refine (of_any _ _ _).mono ?_
  rintro e w3 ⟨rfl, hF3⟩
  go_wp2_with fail
  refine (of_any _ _ _).mono ?_
  rintro e w4 ⟨rfl, hF4⟩
  have hF24 := hF3.trans hF4 (fun _ _ e => e)
  go_wp2_with fail
  refine Calls.mono (HS.out ao2 cap2 w4 (hrow2.fr hF24 (fun _ _ e => e))) ?_
  rintro e w5 ⟨rfl, hF5⟩
  go_wp2_with fail
  go_ret
  exact ⟨rfl, (hF2.trans hF24 (fun _ _ e => e)).trans hF5 (fun _ _ e => e)⟩

end Go.Proofs.Ythancjilkkhfcaa
