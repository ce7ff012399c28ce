/- Numbers in eight bytes: what is read of them, what they are behind noughts, in which order they are. -/
import Derived.Test.YtmhdinianpeelabG
namespace Go.Proofs.Ytmhdinianpeelab
open Go.RowKit Go.IntWalk
set_option linter.unusedSimpArgs false
set_option linter.unusedVariables false

def valOf (bs : List UInt8) : Nat := bs.foldl (fun n b => n * 256 + b.toNat) 0
theorem valOf_from (bs : List UInt8) : ∀ m, bs.foldl (fun n b => n * 256 + b.toNat) m = m * 256 ^ bs.length + valOf bs := by
  induction bs with
  | nil => intro m; simp [valOf]
  | cons b bs ih =>
    intro m
    have h0 := ih b.toNat
    have h1 := ih (m * 256 + b.toNat)
    have e : valOf (b :: bs) = bs.foldl (fun n b => n * 256 + b.toNat) b.toNat := by simp [valOf]
    rw [List.foldl_cons, h1, e, h0, List.length_cons, Nat.pow_succ, Nat.add_mul]
    rw [Nat.mul_assoc, Nat.mul_comm 256, Nat.add_assoc]
theorem valOf_cons (b : UInt8) (bs : List UInt8) : valOf (b :: bs) = b.toNat * 256 ^ bs.length + valOf bs := by
  have h := valOf_from bs b.toNat
  rw [← h]
  simp [valOf]
theorem valOf_lt : ∀ bs : List UInt8, valOf bs < 256 ^ bs.length
  | [] => by simp [valOf]
  | b :: bs => by
    have ih := valOf_lt bs
    have hb := UInt8.toNat_lt b
    rw [valOf_cons, List.length_cons, Nat.pow_succ]
    have : b.toNat * 256 ^ bs.length ≤ 255 * 256 ^ bs.length := Nat.mul_le_mul_right _ (by omega)
    omega
theorem numOf_from (bs : List UInt8) : ∀ m, bs.foldl (fun n b => (n * 256 + b.toNat) % 18446744073709551616) m % 18446744073709551616 = (m * 256 ^ bs.length + valOf bs) % 18446744073709551616 := by
  induction bs with
  | nil => intro m; simp [valOf]
  | cons b bs ih =>
    intro m
    rw [List.foldl_cons, ih, ← valOf_from, ← valOf_from]
    have e := valOf_from bs (m * 256 + b.toNat)
    rw [valOf_from, List.foldl_cons, e]
    rw [Nat.add_mod, Nat.mul_mod, Nat.mod_mod, ← Nat.mul_mod, ← Nat.add_mod]
theorem numOf_eight (bs : List UInt8) (h : bs.length ≤ 8) : numOf bs = valOf bs := by
  have h1 := numOf_from bs 0
  have e2 : bs.foldl (fun n b => (n * 256 + b.toNat) % 18446744073709551616) 0 = numOf bs := rfl
  have l := valOf_lt bs
  have l3 : 256 ^ bs.length ≤ 256 ^ 8 := Nat.pow_le_pow_right (by omega) h
  rw [show (256 : Nat) ^ 8 = 18446744073709551616 by decide] at l3
  rw [e2, Nat.mod_eq_of_lt (numOf_lt bs), Nat.mod_eq_of_lt (by omega)] at h1
  omega
theorem numOf_nought (bs : List UInt8) : numOf (0 :: bs) = numOf bs := by simp [numOf]

theorem valOf_valB (n : Nat) (hn : n < 18446744073709551616) : valOf (valB n) = n := by
  simp only [valB, valOf, List.foldl_cons, List.foldl_nil, UInt8.toNat_ofNat']
  have h0 : n = n / 256 * 256 + n % 256 := by omega
  have h1 : n / 256 = n / 65536 * 256 + n / 256 % 256 := by omega
  have h2 : n / 65536 = n / 16777216 * 256 + n / 65536 % 256 := by omega
  have h3 : n / 16777216 = n / 4294967296 * 256 + n / 16777216 % 256 := by omega
  have h4 : n / 4294967296 = n / 1099511627776 * 256 + n / 4294967296 % 256 := by omega
  have h5 : n / 1099511627776 = n / 281474976710656 * 256 + n / 1099511627776 % 256 := by omega
  have h6 : n / 281474976710656 = n / 72057594037927936 * 256 + n / 281474976710656 % 256 := by omega
  have h7 : n / 72057594037927936 < 256 := by omega
  generalize n / 72057594037927936 = q7 at *
  generalize n / 281474976710656 = q6 at *
  generalize n / 1099511627776 = q5 at *
  generalize n / 4294967296 = q4 at *
  generalize n / 16777216 = q3 at *
  generalize n / 65536 = q2 at *
  generalize n / 256 = q1 at *
  simp only [Nat.reducePow, Nat.mod_mod]
  omega
theorem numOf_valB (n : Nat) (hn : n < 18446744073709551616) : numOf (valB n) = n := by
  rw [numOf_eight _ (by simp [valB]), valOf_valB n hn]

theorem byte_of (b : UInt8) (m : Nat) (h : m % 256 = b.toNat) : UInt8.ofNat m = b := by
  apply UInt8.toNat_inj.mp
  simpa using h
/-- Bytes are those of the number that they say. -/
theorem valB_of_eight (c : List UInt8) (h : c.length = 8) : valB (valOf c) = c := by
  match c, h with
  | [b0, b1, b2, b3, b4, b5, b6, b7], _ =>
    have h0 := UInt8.toNat_lt b0
    have h1 := UInt8.toNat_lt b1
    have h2 := UInt8.toNat_lt b2
    have h3 := UInt8.toNat_lt b3
    have h4 := UInt8.toNat_lt b4
    have h5 := UInt8.toNat_lt b5
    have h6 := UInt8.toNat_lt b6
    have h7 := UInt8.toNat_lt b7
    have e : valOf [b0, b1, b2, b3, b4, b5, b6, b7] = b0.toNat * 72057594037927936 + b1.toNat * 281474976710656 + b2.toNat * 1099511627776 + b3.toNat * 4294967296 + b4.toNat * 16777216 + b5.toNat * 65536 + b6.toNat * 256 + b7.toNat := by
      simp only [valOf, List.foldl_cons, List.foldl_nil]
      omega
    rw [e]
    unfold valB
    rw [byte_of b0 _ (by omega), byte_of b1 _ (by omega), byte_of b2 _ (by omega), byte_of b3 _ (by omega), byte_of b4 _ (by omega), byte_of b5 _ (by omega), byte_of b6 _ (by omega), byte_of b7 _ (by omega)]
theorem valOf_noughts (bs : List UInt8) : ∀ k, valOf (List.replicate k 0 ++ bs) = valOf bs
  | 0 => by simp
  | k + 1 => by
    rw [List.replicate_succ, List.cons_append, valOf_cons, valOf_noughts bs k]
    simp
theorem valB_of (c : List UInt8) (h : c.length ≤ 8) : valB (numOf c) = List.replicate (8 - c.length) 0 ++ c := by
  rw [numOf_eight c h, ← valOf_noughts c (8 - c.length)]
  exact valB_of_eight _ (by simp; omega)

/-- The order of equally many bytes is that of what they say. -/
theorem less_valOf : ∀ (x y : List UInt8), x.length = y.length → Op.bytesLess x y = decide (valOf x < valOf y)
  | [], [], _ => by simp [Op.bytesLess, valOf]
  | a :: x, b :: y, h => by
    simp only [List.length_cons, Nat.add_right_cancel_iff] at h
    have ih := less_valOf x y h
    have lx := valOf_lt x
    have ly := valOf_lt y
    rw [Op.bytesLess, ih, valOf_cons, valOf_cons, h]
    rw [h] at lx
    generalize 256 ^ y.length = p at *
    by_cases h1 : a.toNat < b.toNat
    · have : (a.toNat + 1) * p ≤ b.toNat * p := Nat.mul_le_mul_right _ h1
      rw [Nat.add_mul] at this
      have hd : decide (a.toNat * p + valOf x < b.toNat * p + valOf y) = true := decide_eq_true (by omega)
      rw [hd]
      have : a < b := UInt8.lt_iff_toNat_lt.mpr h1
      simp [this]
    · by_cases h2 : a = b
      · subst h2
        simp
      · have h3 : b.toNat < a.toNat := by
          have : a.toNat ≠ b.toNat := fun e => h2 (UInt8.toNat_inj.mp e)
          omega
        have : (b.toNat + 1) * p ≤ a.toNat * p := Nat.mul_le_mul_right _ h3
        rw [Nat.add_mul] at this
        have hd : decide (a.toNat * p + valOf x < b.toNat * p + valOf y) = false := decide_eq_false (by omega)
        rw [hd]
        have n1 : ¬ a < b := fun e => h1 (UInt8.lt_iff_toNat_lt.mp e)
        simp [n1, h2]
theorem less_valB (n m : Nat) (hn : n < 18446744073709551616) (hm : m < 18446744073709551616) : Op.bytesLess (valB n) (valB m) = decide (n < m) := by
  rw [less_valOf (valB n) (valB m) rfl, valOf_valB n hn, valOf_valB m hm]

theorem numOf_last (a c : List UInt8) (h : 8 ≤ c.length) : numOf (a ++ c) = numOf c := by
  have e : ∀ m, m * 256 ^ c.length % 18446744073709551616 = 0 := fun m => by
    obtain ⟨d, hd⟩ : ∃ d, c.length = 8 + d := ⟨c.length - 8, by omega⟩
    rw [hd, Nat.pow_add, show (256 : Nat) ^ 8 = 18446744073709551616 by decide, Nat.mul_comm m, Nat.mul_assoc]
    exact Nat.mul_mod_right _ _
  have h1 := numOf_from c (numOf a)
  have h2 := numOf_from c 0
  have e1 : numOf (a ++ c) = c.foldl (fun n b => (n * 256 + b.toNat) % 18446744073709551616) (numOf a) := by simp [numOf]
  have l1 := numOf_lt (a ++ c)
  have l2 := numOf_lt c
  rw [← e1, Nat.mod_eq_of_lt l1, Nat.add_mod, e] at h1
  have e2 : c.foldl (fun n b => (n * 256 + b.toNat) % 18446744073709551616) 0 = numOf c := rfl
  rw [e2, Nat.mod_eq_of_lt l2] at h2
  rw [h1, h2]
  simp

end Go.Proofs.Ytmhdinianpeelab
