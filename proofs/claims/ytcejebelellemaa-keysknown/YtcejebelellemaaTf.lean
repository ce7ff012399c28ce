/- Spans: those that are not empty, by rising Lo. -/
import Derived.Test.YtcejebelellemaaTe
namespace Go.Proofs.Ytcejebelellemaa
open Go.RowKit Go.IntWalk Go.Sort Go.Shelf
set_option linter.unusedSimpArgs false
set_option linter.unusedVariables false

theorem cf_neg (x y : Sp) : cf x y < 0 ↔ lo x < lo y ∨ lo x = lo y ∧ hi x < hi y := by
  unfold cf cmpS
  by_cases h1 : lo x < lo y
  · simp [h1]
  · by_cases h2 : lo x = lo y
    · have h3 : ¬ lo y < lo y := List.lt_irrefl _
      simp only [h2, h3, if_false, if_true, false_or, true_and]
      by_cases h4 : hi x < hi y
      · simp [h4]
      · by_cases h5 : hi x = hi y
        · rw [h5] at h4 ⊢
          simp [h4]
        · simp [h4, h5]
    · simp [h1, h2]

theorem lt_cf (x y : Sp) : ltOf cf x y = decide (lo x < lo y ∨ lo x = lo y ∧ hi x < hi y) := by
  unfold ltOf
  exact decide_eq_decide.mpr (cf_neg x y)

theorem swo_cf : SWO (ltOf cf) where
  irrefl x := by rw [lt_cf]; simp [List.lt_irrefl]
  trans x y z h1 h2 := by
    simp only [lt_cf, decide_eq_true_eq] at *
    generalize lo x = a at *
    generalize lo y = b at *
    generalize lo z = c at *
    generalize hi x = d at *
    generalize hi y = e at *
    generalize hi z = f at *
    obtain ⟨g, hl, he⟩ := rank [a, b, c, d, e, f]
    simp only [hl, he, List.mem_cons, true_or, or_true] at *
    omega
  ntrans x y z h1 h2 := by
    simp only [lt_cf, decide_eq_false_iff_not] at *
    generalize lo x = a at *
    generalize lo y = b at *
    generalize lo z = c at *
    generalize hi x = d at *
    generalize hi y = e at *
    generalize hi z = f at *
    obtain ⟨g, hl, he⟩ := rank [a, b, c, d, e, f]
    simp only [hl, he, List.mem_cons, true_or, or_true] at *
    omega

theorem tot_cf (x y : Sp) (h1 : ltOf cf x y = false) (h2 : ltOf cf y x = false) : x = y := by
  simp only [lt_cf, decide_eq_false_iff_not] at *
  have h3 : lo x = lo y ∧ hi x = hi y := by
    generalize lo x = a at *
    generalize lo y = b at *
    generalize hi x = d at *
    generalize hi y = e at *
    obtain ⟨g, hl, he⟩ := rank [a, b, d, e]
    simp only [hl, he, List.mem_cons, true_or, or_true] at *
    omega
  exact sp_ext h3.1 h3.2

/-- Spans by where they begin, then by where they end. -/
def sortC (l : List Sp) : List Sp := l.mergeSort fun x y => !ltOf cf y x

theorem sortC_len (l : List Sp) : (sortC l).length = l.length := List.length_mergeSort l

theorem sortC_sorted (l : List Sp) : Sorted l (sortC (l.filter fun x => decide (NonE x))) := by
  refine ⟨fun s => ?_, ?_⟩
  · unfold sortC
    rw [List.mem_mergeSort, List.mem_filter, decide_eq_true_eq]
  · refine List.Pairwise.imp ?_ (List.pairwise_mergeSort (le := fun x y => !ltOf cf y x) ?_ ?_ _)
    · intro a b h
      simp only [lt_cf, Bool.not_eq_true', decide_eq_false_iff_not, not_or] at h
      exact h.1
    · intro a b c h1 h2
      simp only [Bool.not_eq_true'] at *
      exact swo_cf.ntrans _ _ _ h2 h1
    · intro a b
      simp only [Bool.or_eq_true, Bool.not_eq_true']
      cases h : ltOf cf b a with
      | false => exact Or.inl rfl
      | true =>
        right
        cases h' : ltOf cf a b with
        | false => rfl
        | true => have := swo_cf.trans _ _ _ h h'; rw [swo_cf.irrefl] at this; cases this

theorem sort_any (ao : Option Addr) (cap : Nat) (l : List Sp) (w : World) (h : SpRow w ao cap l) (hb : l.length ≤ 1099511627776) :
    Calls Try.prog 65 #[.slice ao l.length cap, .func (.func 66) #[] #[]] w fun e w' => e = .returned (.tuple #[]) ∧ (sortC l = [] ∨ SpsAt w' ao (sortC l)) ∧ Fr (blk ao) w w' := by
  rcases h.form with ⟨rfl, rfl, rfl⟩ | ⟨g, cur, rfl, hg, hc⟩
  · refine Calls.mono (AnyF.slices_SortFunc_none { Try.sortSp with } none 0 (.func (.func 66) #[] #[]) w) ?_
    rintro e w' ⟨rfl, rfl⟩
    exact ⟨rfl, Or.inl (by simp [sortC]), Fr.refl _ _⟩
  · have hlt : g < w.heap.size := (Array.getElem?_eq_some_iff.1 hg).1
    have hH := holdsK_of h
    have eg : ∀ args w, (callFunc 66 args).run Try.prog w = .ok (.enter 66 args) w := enters_of Try.func66 (by kernel_rfl) rfl
    have hcon := AnyQ.slices_SortFunc_total Try.sortSp 2 Try.isAgg41 Try.sizeOf41 spL (fun _ => rfl) (fun x v hv => by simp [spL] at hv; rcases hv with rfl | rfl <;> rfl) cf swo_cf 66 #[] g 0 cap l.toArray w eg (fun _ _ _ _ x y => closure_any x y _) hH hlt (by simp; omega) tot_cf
    refine Calls.mono hcon ?_
    rintro e w' ⟨rfl, n, os, rfl⟩
    refine ⟨rfl, Or.inr ?_, fr_sorted.mono fun k e => ⟨_, rfl, e.symm⟩⟩
    refine sps_of_holdsK ?_ (lt_sortWorldK spL 2 w g 0 n _ os hlt)
    exact holdsK_sortWorldK spL 2 w g 0 n l.toArray _ os hlt hH (by simp [List.length_mergeSort])

end Go.Proofs.Ytcejebelellemaa
