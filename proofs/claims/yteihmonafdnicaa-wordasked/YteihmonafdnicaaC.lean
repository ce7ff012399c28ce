/- What is written is read: the bytes of a number, of a text. -/
import Derived.Test.YteihmonafdnicaaJ2
namespace Go.Proofs.Yteihmonafdnicaa
set_option linter.unusedSimpArgs false
set_option linter.unusedVariables false

theorem scan_sevens (n : Nat) : ∀ (i acc : Nat) (rest : List UInt8), i ≤ 8 → n < 128 ^ (9 - i) → (0 < i → 0 < n) → scan (sevens n ++ rest) i acc = .ok (acc + n * 128 ^ i, i + (sevens n).length) := by
  induction n using Nat.strongRecOn with
  | ind n ih =>
    intro i acc rest hi hn hp
    by_cases h : n < 128
    · rw [sevens_lt h]
      have hb : (UInt8.ofNat n).toNat = n := by simp; omega
      have hm : n % 128 = n := Nat.mod_eq_of_lt h
      have c1 : ¬ (128 ≤ n ∧ i + 1 = 9) := by omega
      have c2 : ¬ (n = 0 ∧ 0 < i) := fun e => by have := hp e.2; omega
      rw [List.singleton_append, scan, hb, if_neg c1, if_neg c2, if_pos h, hm]
      rfl
    · rw [sevens_ge h]
      have hb : (UInt8.ofNat (n % 128 + 128)).toNat = n % 128 + 128 := by simp; omega
      have hi8 : i < 8 := by
        rcases Nat.lt_or_ge i 8 with h8 | h8
        · exact h8
        · obtain rfl : i = 8 := by omega
          simp at hn
          omega
      have hq : n / 128 < 128 ^ (9 - (i + 1)) := by
        rw [show 9 - i = (9 - (i + 1)) + 1 by omega, Nat.pow_succ] at hn
        exact Nat.div_lt_of_lt_mul (by rw [Nat.mul_comm]; exact hn)
      have := ih (n / 128) (by omega) (i + 1) (acc + (n % 128 + 128) % 128 * 128 ^ i) rest (by omega) hq (fun _ => by omega)
      have c1 : ¬ (128 ≤ n % 128 + 128 ∧ i + 1 = 9) := by omega
      have c2 : ¬ (n % 128 + 128 = 0 ∧ 0 < i) := by omega
      have c3 : ¬ (n % 128 + 128 < 128) := by omega
      rw [List.cons_append, scan, hb, if_neg c1, if_neg c2, if_neg c3, this, List.length_cons]
      have e1 : (n % 128 + 128) % 128 = n % 128 := by omega
      have e2 : acc + n % 128 * 128 ^ i + n / 128 * 128 ^ (i + 1) = acc + n * 128 ^ i := by
        rw [Nat.pow_succ, ← Nat.mul_assoc, Nat.mul_comm (n / 128 * 128 ^ i) 128, ← Nat.mul_assoc, Nat.add_assoc, ← Nat.add_mul]
        congr 2
        omega
      rw [e1, e2]
      congr 2
      omega

theorem rdNum_sevens (pre rest : List UInt8) (n : Nat) (low high above : Int) (hn : n ≤ 9223372036854775807) :
    rdNum (pre ++ (sevens n ++ rest)) pre.length low high above = if (n : Int) < low then .inl (5, (pre.length : Int)) else if high < (n : Int) then .inl (above, (pre.length : Int)) else .inr (n, pre.length + (sevens n).length) := by
  have h := scan_sevens n 0 0 rest (by omega) (by rw [show (128 : Nat) ^ (9 - 0) = 9223372036854775808 by decide]; omega) (by omega)
  unfold rdNum
  rw [List.drop_left, h]
  simp

theorem rInt_sevens (pre rest : List UInt8) (n : Nat) (low high ea : Int) (hn : n ≤ 9223372036854775807) :
    rInt (pre ++ (sevens n ++ rest)) low high (pre.length, 0, ea) = if (n : Int) < low ∨ high < (n : Int) then (0, (pre.length, 5, (pre.length : Int))) else ((n : Int), (pre.length + (sevens n).length, 0, ea)) := by
  unfold rInt
  rw [rdNum_sevens pre rest n low high 5 hn]
  by_cases h1 : (n : Int) < low
  · simp [h1]
  · by_cases h2 : high < (n : Int)
    · simp [h1, h2]
    · simp [h1, h2]

theorem rCount_sevens (pre rest : List UInt8) (n : Nat) (most ea : Int) (hn : n ≤ 9223372036854775807) :
    rCount (pre ++ (sevens n ++ rest)) most (pre.length, 0, ea) = if most < (n : Int) then (0, (pre.length, 3, (pre.length : Int))) else ((n : Int), (pre.length + (sevens n).length, 0, ea)) := by
  unfold rCount
  rw [rdNum_sevens pre rest n 0 most 3 hn]
  have h1 : ¬ (n : Int) < 0 := by omega
  by_cases h2 : most < (n : Int)
  · simp [h1, h2]
  · simp [h1, h2]

theorem rText_sevens (pre x rest : List UInt8) (most ea : Int) (hx : x.length ≤ 9223372036854775807) (hm : (x.length : Int) ≤ most) :
    rText (pre ++ (sevens x.length ++ (x ++ rest))) most (pre.length, 0, ea) = (x, (pre.length + (sevens x.length).length + x.length, 0, ea)) := by
  have e : rdText (pre ++ (sevens x.length ++ (x ++ rest))) pre.length most = .inr (x, pre.length + (sevens x.length).length + x.length) := by
    unfold rdText
    rw [rdNum_sevens pre (x ++ rest) x.length 0 most 3 hx, if_neg (by omega), if_neg (by omega)]
    simp only
    rw [if_neg (by simp; omega)]
    congr 2
    rw [← List.append_assoc, show pre.length + (sevens x.length).length = (pre ++ sevens x.length).length by simp, List.drop_left, List.take_left]
  unfold rText
  simp [e]

theorem rID_bytes (pre x rest : List UInt8) (ea : Int) (hx : x.length = 32) : rID (pre ++ (x ++ rest)) (pre.length, 0, ea) = (x, (pre.length + 32, 0, ea)) := by
  unfold rID
  rw [if_neg (by simp), if_neg (by simp; omega)]
  simp only
  rw [List.drop_left, ← hx, List.take_left]

end Go.Proofs.Yteihmonafdnicaa
