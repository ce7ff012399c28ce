/- Names and their texts, on paper: the text of a name has its order. Nothing here speaks of a program. -/
import Derived.Test.YtgnpdnkmhjocjaaDoorSl
namespace Go.Proofs.YtgnpdnkmhjocjaaDoor
set_option linter.unusedSimpArgs false
set_option linter.unusedVariables false

theorem hexC_lt : ∀ i, i < 16 → ∀ j, j < 16 → (hexC i < hexC j ↔ i < j) := by decide
theorem hexC_inj : ∀ i, i < 16 → ∀ j, j < 16 → (hexC i = hexC j ↔ i = j) := by decide
theorem hex_lt : ∀ x y : List UInt8, x.length = y.length → (hexL x < hexL y ↔ x < y)
  | [], [], _ => by simp [hexL]
  | a :: x, b :: y, h => by
    have ih := hex_lt x y (by simpa using h)
    have la := a.toNat_lt
    have lb := b.toNat_lt
    rw [hexL_cons, hexL_cons, List.cons_lt_cons_iff, List.cons_lt_cons_iff, List.cons_lt_cons_iff, ih, hexC_lt _ (by omega) _ (by omega), hexC_lt _ (by omega) _ (by omega), hexC_inj _ (by omega) _ (by omega), hexC_inj _ (by omega) _ (by omega), UInt8.lt_iff_toNat_lt, ← UInt8.toNat_inj]
    by_cases hR : x < y <;> simp only [hR, and_true, and_false, or_false] <;> omega
theorem hex_inj : ∀ x y : List UInt8, x.length = y.length → (hexL x = hexL y ↔ x = y)
  | [], [], _ => by simp
  | a :: x, b :: y, h => by
    have ih := hex_inj x y (by simpa using h)
    have la := a.toNat_lt
    have lb := b.toNat_lt
    rw [hexL_cons, hexL_cons, List.cons.injEq, List.cons.injEq, List.cons.injEq, ih, hexC_inj _ (by omega) _ (by omega), hexC_inj _ (by omega) _ (by omega), ← UInt8.toNat_inj]
    by_cases hR : x = y <;> simp only [hR, and_true, and_false, or_false] <;> omega
theorem lex_step (x y : List UInt8) (i : Nat) (hx : i < x.length) (hy : i < y.length) : decide (x.drop i < y.drop i) = if x.getD i 0 = y.getD i 0 then decide (x.drop (i + 1) < y.drop (i + 1)) else decide (x.getD i 0 < y.getD i 0) := by
  have e1 : x.getD i 0 = x[i] := by simp [List.getD, hx]
  have e2 : y.getD i 0 = y[i] := by simp [List.getD, hy]
  rw [e1, e2]
  by_cases h : x[i] = y[i]
  · rw [if_pos h]
    refine decide_eq_decide.2 ?_
    rw [List.drop_eq_getElem_cons hx, List.drop_eq_getElem_cons hy, List.cons_lt_cons_iff, h]
    simp [UInt8.lt_irrefl]
  · rw [if_neg h]
    refine decide_eq_decide.2 ?_
    rw [List.drop_eq_getElem_cons hx, List.drop_eq_getElem_cons hy, List.cons_lt_cons_iff]
    simp [h]

end Go.Proofs.YtgnpdnkmhjocjaaDoor
