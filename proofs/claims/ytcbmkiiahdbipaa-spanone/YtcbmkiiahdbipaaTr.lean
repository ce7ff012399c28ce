/- Spans: the code's answers and the document's are one. -/
import Derived.Test.YtcbmkiiahdbipaaTq
import Derived.Test.YtcbmkiiahdbipaaTc
namespace Go.Proofs.Ytcbmkiiahdbipaa
open Go.RowKit Go.IntWalk
set_option linter.unusedSimpArgs false
set_option linter.unusedVariables false

theorem maxS_toList (a b : ByteArray) : (Lib.maxS a b).toList = if a.toList < b.toList then b.toList else a.toList := by
  unfold Lib.maxS
  rw [Lib.toList_data a, Lib.toList_data b]
  split
  · exact Lib.toList_data b
  · exact Lib.toList_data a

theorem leastS_toList (a b : ByteArray) : (leastS a b).toList = if a.toList = [] ∨ b.toList ≠ [] ∧ b.toList < a.toList then b.toList else a.toList := by
  unfold leastS
  split <;> rfl

theorem meets_eq (a b : Sp) : (decide (KeyIn a (Lib.maxS a.1 b.1).toList) && decide (KeyIn b (Lib.maxS a.1 b.1).toList)) = decide (NonE (Lib.maxS a.1 b.1, leastS a.2 b.2)) := by
  rw [← Bool.decide_and]
  refine decide_eq_decide.mpr ?_
  unfold NonE KeyIn
  show _ ↔ (leastS a.2 b.2).toList = [] ∨ (Lib.maxS a.1 b.1).toList < (leastS a.2 b.2).toList
  rw [maxS_toList, leastS_toList]
  show (¬ (if lo a < lo b then lo b else lo a) < lo a ∧ (hi a = [] ∨ (if lo a < lo b then lo b else lo a) < hi a)) ∧ (¬ (if lo a < lo b then lo b else lo a) < lo b ∧ (hi b = [] ∨ (if lo a < lo b then lo b else lo a) < hi b)) ↔ (if hi a = [] ∨ hi b ≠ [] ∧ hi b < hi a then hi b else hi a) = [] ∨ (if lo a < lo b then lo b else lo a) < (if hi a = [] ∨ hi b ≠ [] ∧ hi b < hi a then hi b else hi a)
  generalize lo a = p
  generalize lo b = q
  generalize hi a = x
  generalize hi b = y
  have key : ∀ m : By, ¬ m < p → ¬ m < q → ((¬ m < p ∧ (x = [] ∨ m < x)) ∧ (¬ m < q ∧ (y = [] ∨ m < y)) ↔ (if x = [] ∨ y ≠ [] ∧ y < x then y else x) = [] ∨ m < (if x = [] ∨ y ≠ [] ∧ y < x then y else x)) := by
    intro m h1 h2
    by_cases hx : x = []
    · simp only [hx, true_or, if_true, h1, h2, not_false_eq_true, true_and]
    · by_cases hy : y = []
      · simp only [hx, hy, ne_eq, not_true_eq_false, false_and, or_self, if_false, false_or, true_or, h1, h2, not_false_eq_true, true_and, and_true]
      · simp only [hx, hy, ne_eq, not_false_eq_true, true_and, false_or, h1, h2]
        by_cases hyx : y < x
        · rw [if_pos hyx]
          simp only [hy, false_or]
          clear h1 h2 hx hy
          obtain ⟨f, hl, he⟩ := rank [m, x, y]
          simp only [hl, he, List.mem_cons, true_or, or_true] at *
          omega
        · rw [if_neg hyx]
          simp only [hx, false_or]
          clear h1 h2 hx hy
          obtain ⟨f, hl, he⟩ := rank [m, x, y]
          simp only [hl, he, List.mem_cons, true_or, or_true] at *
          omega
  by_cases hpq : p < q
  · rw [if_pos hpq]
    exact key q (fun e => List.lt_irrefl _ (List.lt_trans e hpq)) (List.lt_irrefl _)
  · rw [if_neg hpq]
    exact key p (List.lt_irrefl _) hpq

theorem upto_eq (s : Sp) (k : ByteArray) : uptoS s k = (s.1, leastS s.2 (bhd k)) := by
  unfold uptoS leastS
  have hp := endS_pos (hi s) (bhd k).toList
  have hb : (bhd k).toList ≠ [] := by rw [bhd_toList]; simp
  by_cases h : hi s = [] ∨ (bhd k).toList < hi s
  · rw [if_neg (by have := hp.2 h; omega), if_pos]
    rcases h with h | h
    · exact Or.inl h
    · exact Or.inr ⟨hb, h⟩
  · rw [if_pos (by have h1 : ¬ 0 < endS (hi s) (bhd k).toList := fun e => h (hp.1 e); omega), if_neg]
    rintro (e | e)
    · exact h (Or.inl e)
    · exact h (Or.inr e.2)

def litAB (a b : Sp) : Array Value := #[.string a.1, .string a.2, .string b.1, .string b.2]

theorem long2 (a b : Sp) (w : World) : Calls Try.prog 9 #[.slice (some ⟨w.heap.size, 0, none⟩) 2 2, .int .i64 2] (w.alloc (.cells #[.string a.1, .string a.2, .string b.1, .string b.2] 23)) fun e w' => (∃ v, e = .returned (.bool v)) ∧ w' = w.alloc (.cells #[.string a.1, .string a.2, .string b.1, .string b.2] 23) := by
  refine Calls.mono (long_any (some ⟨w.heap.size, 0, none⟩) 2 [a, b] 2 _ (Or.inr (sps_arr [a, b] w)) (by simp) (by decide)) ?_
  rintro e w' ⟨v, rfl, rfl, _⟩
  exact ⟨⟨v, rfl⟩, rfl⟩

end Go.Proofs.Ytcbmkiiahdbipaa
