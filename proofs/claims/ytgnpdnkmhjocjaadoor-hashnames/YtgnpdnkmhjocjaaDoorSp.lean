/- SHA-256, lists of words: how a block's words come about, byte by byte and word by word. -/
import Derived.Test.YtgnpdnkmhjocjaaDoorSa
namespace Go.Proofs.YtgnpdnkmhjocjaaDoor
namespace Sha
set_option linter.unusedSimpArgs false
set_option linter.unusedVariables false

theorem word_snoc (l : List UInt8) (b : UInt8) : word (l ++ [b]) = word l * 256 + b.toNat := by simp [word]
theorem word_lt (l : List UInt8) : word l < 256 ^ l.length := by
  have H : ∀ (l : List UInt8) (n : Nat), l.foldl (fun n b => n * 256 + b.toNat) n < (n + 1) * 256 ^ l.length := by
    intro l
    induction l with
    | nil => intro n; simp
    | cons b l ih =>
      intro n
      have h1 := ih (n * 256 + b.toNat)
      have h2 := UInt8.toNat_lt b
      have h3 : (n * 256 + b.toNat + 1) * 256 ^ l.length ≤ ((n + 1) * 256) * 256 ^ l.length := Nat.mul_le_mul_right _ (by omega)
      rw [List.foldl_cons, List.length_cons, Nat.pow_succ, Nat.mul_comm (256 ^ l.length) 256, ← Nat.mul_assoc]
      omega
  have := H l 0
  simpa [word] using this

/-- The words of a block's first k bytes. -/
def part (blk : List UInt8) (k : Nat) : List Nat := (List.range 64).map fun j => word (((blk.take k).drop (4 * j)).take 4)
theorem part_len (blk : List UInt8) (k : Nat) : (part blk k).length = 64 := by simp [part]
theorem part_get (blk : List UInt8) (k j : Nat) (hj : j < 64) : (part blk k).getD j 0 = word (((blk.take k).drop (4 * j)).take 4) := by simp [part, List.getD, hj]
theorem part_zero (blk : List UInt8) : part blk 0 = List.replicate 64 0 := by
  unfold part
  rw [List.eq_replicate_iff]
  refine ⟨by simp, fun x hx => ?_⟩
  obtain ⟨j, _, rfl⟩ := List.mem_map.1 hx
  simp [word]
theorem part_lt (blk : List UInt8) (k : Nat) : ∀ x ∈ part blk k, x < 4294967296 := by
  intro x hx
  obtain ⟨j, _, rfl⟩ := List.mem_map.1 hx
  have h1 := word_lt (((blk.take k).drop (4 * j)).take 4)
  have h2 : (((blk.take k).drop (4 * j)).take 4).length ≤ 4 := List.length_take_le _ _
  have h3 : 256 ^ (((blk.take k).drop (4 * j)).take 4).length ≤ 256 ^ 4 := Nat.pow_le_pow_right (by decide) h2
  have : (256 : Nat) ^ 4 = 4294967296 := by decide
  omega
/-- Where a byte goes to, there are at most three so far. -/
theorem part_small (blk : List UInt8) (k : Nat) (hk : k < 64) : (part blk k).getD (k / 4) 0 < 16777216 := by
  rw [part_get blk k (k / 4) (by omega)]
  have h1 := word_lt (((blk.take k).drop (4 * (k / 4))).take 4)
  have h2 : (((blk.take k).drop (4 * (k / 4))).take 4).length ≤ 3 := by simp; omega
  have h3 : 256 ^ (((blk.take k).drop (4 * (k / 4))).take 4).length ≤ 256 ^ 3 := Nat.pow_le_pow_right (by decide) h2
  have : (256 : Nat) ^ 3 = 16777216 := by decide
  omega
theorem part_succ (blk : List UInt8) (k : Nat) (hl : blk.length = 64) (hk : k < 64) : part blk (k + 1) = (part blk k).set (k / 4) ((part blk k).getD (k / 4) 0 * 256 + (blk[k]'(by omega)).toNat) := by
  have ht : blk.take (k + 1) = blk.take k ++ [blk[k]'(by omega)] := List.take_succ_eq_append_getElem (by omega)
  have hkl : (blk.take k).length = k := by simp; omega
  apply List.ext_getElem
  · simp [part]
  intro j h1 h2
  have hj : j < 64 := by simpa [part] using h1
  rw [List.getElem_set]
  split
  · rename_i e
    subst e
    rw [part_get blk k (k / 4) (by omega)]
    simp only [part, List.getElem_map, List.getElem_range]
    have a1 : ((blk.take k).drop (4 * (k / 4)) ++ [blk[k]'(by omega)]).take 4 = (blk.take k).drop (4 * (k / 4)) ++ [blk[k]'(by omega)] := List.take_of_length_le (by simp; omega)
    have a2 : ((blk.take k).drop (4 * (k / 4))).take 4 = (blk.take k).drop (4 * (k / 4)) := List.take_of_length_le (by simp; omega)
    rw [ht, List.drop_append_of_le_length (by omega), a1, a2, word_snoc]
  · rename_i e
    simp only [part, List.getElem_map, List.getElem_range]
    rw [ht]
    by_cases hlt : j < k / 4
    · rw [List.drop_append_of_le_length (by omega), List.take_append_of_le_length (by simp; omega)]
    · rw [List.drop_of_length_le (by simp; omega), List.drop_of_length_le (by simp; omega)]

theorem words_len (n : Nat) : ∀ l : List UInt8, (words n l).length = n := by
  induction n with
  | zero => intro l; rfl
  | succ n ih => intro l; simp [words, ih]
theorem words_get : ∀ (n : Nat) (l : List UInt8) (j : Nat) (h : j < (words n l).length), (words n l)[j] = word ((l.drop (4 * j)).take 4)
  | 0, l, j, h => by simp [words] at h
  | n + 1, l, 0, h => by simp [words]
  | n + 1, l, j + 1, h => by
    have := words_get n (l.drop 4) j (by simpa [words] using h)
    simp only [words, List.getElem_cons_succ, this, List.drop_drop]
    rw [show 4 + 4 * j = 4 * (j + 1) by omega]
/-- All of a block's bytes: its own sixteen words, and noughts. -/
theorem part_all (blk : List UInt8) (hl : blk.length = 64) : part blk 64 = words 16 blk ++ List.replicate 48 0 := by
  have ht : blk.take 64 = blk := List.take_of_length_le (by omega)
  apply List.ext_getElem
  · simp [part, words_len]
  intro j h1 h2
  have hj : j < 64 := by simpa [part] using h1
  simp only [part, List.getElem_map, List.getElem_range, ht]
  by_cases h16 : j < 16
  · rw [List.getElem_append_left (by rw [words_len]; exact h16), words_get]
  · rw [List.getElem_append_right (by rw [words_len]; omega), List.getElem_replicate, List.drop_of_length_le (by omega)]
    rfl

theorem grow_len (n : Nat) : ∀ l : List Nat, (grow n l).length = l.length + n := by
  induction n with
  | zero => intro l; rfl
  | succ n ih => intro l; simp [grow, ih]; omega
theorem grow_succ (n : Nat) : ∀ l : List Nat, grow (n + 1) l = grow n l ++ [more (grow n l)] := by
  induction n with
  | zero => intro l; rfl
  | succ n ih =>
    intro l
    rw [grow, ih]
    rfl
theorem more_lt (l : List Nat) : more l < 4294967296 := Nat.mod_lt _ (by decide)
theorem words_lt (n : Nat) : ∀ l : List UInt8, ∀ x ∈ words n l, x < 4294967296 := by
  induction n with
  | zero => intro l x hx; simp [words] at hx
  | succ n ih =>
    intro l x hx
    rcases List.mem_cons.1 hx with rfl | hx
    · have h1 := word_lt (l.take 4)
      have h2 : (l.take 4).length ≤ 4 := List.length_take_le _ _
      have h3 : 256 ^ (l.take 4).length ≤ 256 ^ 4 := Nat.pow_le_pow_right (by decide) h2
      have : (256 : Nat) ^ 4 = 4294967296 := by decide
      omega
    · exact ih _ x hx
theorem grow_lt (n : Nat) : ∀ l : List Nat, (∀ x ∈ l, x < 4294967296) → ∀ x ∈ grow n l, x < 4294967296 := by
  induction n with
  | zero => intro l h; exact h
  | succ n ih =>
    intro l h
    refine ih _ fun x hx => ?_
    rcases List.mem_append.1 hx with hx | hx
    · exact h x hx
    · obtain rfl := List.mem_singleton.1 hx
      exact more_lt l

/-- The words up to t, and noughts. -/
def upto (blk : List UInt8) (t : Nat) : List Nat := grow (t - 16) (words 16 blk) ++ List.replicate (64 - t) 0
theorem upto_len (blk : List UInt8) (t : Nat) (h : 16 ≤ t) (h2 : t ≤ 64) : (upto blk t).length = 64 := by simp [upto, grow_len, words_len]; omega
theorem upto_lt (blk : List UInt8) (t : Nat) : ∀ x ∈ upto blk t, x < 4294967296 := by
  intro x hx
  rcases List.mem_append.1 hx with hx | hx
  · exact grow_lt _ _ (words_lt 16 blk) x hx
  · have := (List.mem_replicate.1 hx).2
    omega
theorem upto_succ (blk : List UInt8) (t : Nat) (h : 16 ≤ t) (h2 : t < 64) :
    upto blk (t + 1) = (upto blk t).set t (add (add (add (loQ ((upto blk t).getD (t - 2) 0)) ((upto blk t).getD (t - 7) 0)) (loP ((upto blk t).getD (t - 15) 0))) ((upto blk t).getD (t - 16) 0)) := by
  have hl : (grow (t - 16) (words 16 blk)).length = t := by rw [grow_len, words_len]; omega
  have hg : ∀ j, j < t → (upto blk t).getD j 0 = (grow (t - 16) (words 16 blk)).getD j 0 := fun j hj => by
    unfold upto List.getD
    rw [List.getElem?_append_left (by omega)]
  rw [hg _ (by omega), hg _ (by omega), hg _ (by omega), hg _ (by omega)]
  have hm : more (grow (t - 16) (words 16 blk)) = add (add (add (loQ ((grow (t - 16) (words 16 blk)).getD (t - 2) 0)) ((grow (t - 16) (words 16 blk)).getD (t - 7) 0)) (loP ((grow (t - 16) (words 16 blk)).getD (t - 15) 0))) ((grow (t - 16) (words 16 blk)).getD (t - 16) 0) := by
    unfold more
    rw [hl]
  rw [← hm]
  unfold upto
  rw [show t + 1 - 16 = (t - 16) + 1 by omega, grow_succ, List.set_append_right _ _ (by omega), hl, Nat.sub_self, show 64 - t = (64 - (t + 1)) + 1 by omega, List.replicate_succ, List.set_cons_zero, List.append_assoc]
  rfl
theorem upto_first (blk : List UInt8) (hl : blk.length = 64) : upto blk 16 = part blk 64 := by
  rw [part_all blk hl]
  rfl
theorem upto_last (blk : List UInt8) : upto blk 64 = sched blk := by simp [upto, sched]

end Sha
end Go.Proofs.YtgnpdnkmhjocjaaDoor
