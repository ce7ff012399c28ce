/- WordRegisters: what registers say, and what numbers are in them, is as the document says: for every text and every number. -/
import Derived.Test.YtmhdinianpeelaaH
import Derived.Test.YtmhdinianpeelaaN
namespace Go.Proofs.Ytmhdinianpeelaa
open Go.RowKit Go.IntWalk
set_option linter.unusedSimpArgs false
set_option linter.unusedVariables false

def valOf (bs : List UInt8) : Nat := bs.foldl (fun n b => n * 256 + b.toNat) 0
theorem valOf_from (bs : List UInt8) : ∀ m, bs.foldl (fun n b => n * 256 + b.toNat) m = m * 256 ^ bs.length + valOf bs := by
  induction bs with
  | nil => intro m; simp [valOf]
  | cons b bs ih =>
    intro m
    have h0 := ih b.toNat
    have h1 := ih (m * 256 + b.toNat)
    have e : valOf (b :: bs) = bs.foldl (fun n b => n * 256 + b.toNat) b.toNat := by simp [valOf]
    rw [List.foldl_cons, h1, e, h0, List.length_cons, Nat.pow_succ, Nat.add_mul]
    rw [Nat.mul_assoc, Nat.mul_comm 256, Nat.add_assoc]
theorem numOf_from (bs : List UInt8) : ∀ m, bs.foldl (fun n b => (n * 256 + b.toNat) % 18446744073709551616) m % 18446744073709551616 = (m * 256 ^ bs.length + valOf bs) % 18446744073709551616 := by
  induction bs with
  | nil => intro m; simp [valOf]
  | cons b bs ih =>
    intro m
    rw [List.foldl_cons, ih, ← valOf_from, ← valOf_from]
    have e := valOf_from bs (m * 256 + b.toNat)
    rw [valOf_from, List.foldl_cons, e]
    rw [Nat.add_mod, Nat.mul_mod, Nat.mod_mod, ← Nat.mul_mod, ← Nat.add_mod]

theorem numOf_last (a c : List UInt8) (h : 8 ≤ c.length) : numOf (a ++ c) = numOf c := by
  have e : ∀ m, m * 256 ^ c.length % 18446744073709551616 = 0 := fun m => by
    obtain ⟨d, hd⟩ : ∃ d, c.length = 8 + d := ⟨c.length - 8, by omega⟩
    rw [hd, Nat.pow_add, show (256 : Nat) ^ 8 = 18446744073709551616 by decide, Nat.mul_comm m, Nat.mul_assoc]
    exact Nat.mul_mod_right _ _
  have h1 := numOf_from c (numOf a)
  have h2 := numOf_from c 0
  have e1 : numOf (a ++ c) = c.foldl (fun n b => (n * 256 + b.toNat) % 18446744073709551616) (numOf a) := by simp [numOf]
  have l1 := numOf_lt (a ++ c)
  have l2 := numOf_lt c
  rw [← e1, Nat.mod_eq_of_lt l1, Nat.add_mod, e] at h1
  have e2 : c.foldl (fun n b => (n * 256 + b.toNat) % 18446744073709551616) 0 = numOf c := rfl
  rw [e2, Nat.mod_eq_of_lt l2] at h2
  rw [h1, h2]
  simp

theorem numOf_drop (l : List UInt8) : numOf (l.drop (l.length - 8)) = numOf l := by
  by_cases h : 8 ≤ l.length
  · have := numOf_last (l.take (l.length - 8)) (l.drop (l.length - 8)) (by simp; omega)
    rw [List.take_append_drop] at this
    exact this.symm
  · rw [show l.length - 8 = 0 by omega, List.drop_zero]

theorem registers_any (s : ByteArray) (n : Nat) (w : World) (hs : s.size ≤ maxLen) (hn : n < 18446744073709551616) : Calls Try.prog 5 #[.string s, .int .u64 n] w fun e w' => e = .returned (.bool true) ∧ Fr (fun _ => False) w w' := by
  by_cases h300 : 300 < s.size
  · have HA := hideIt (awake_any w)
    go_enter Try.func5, Try.ntmps5
    go_wp2_with fail
    refine Calls.mono HA.out ?_
    rintro e w1 ⟨rfl, hF⟩
    go_wp2_with fail
    go_ret
    exact ⟨rfl, hF⟩
  · have hd := numOf_drop s.data.toList
    rw [show s.data.toList.length = s.size by simp] at hd
    have H1 := hideIt (num_any s w hs)
    rw [hd] at H1
    have H2 := hideIt (xnum_any s w hs)
    have H3 := hideIt (val_any n hn w)
    have HX := hideIt (xval_any n hn)
    have HA := hideIt awake_any
    clear hd
    go_enter Try.func5, Try.ntmps5
    go_wp2_with fail
    refine Calls.mono H1.out ?_
    rintro e w1 ⟨rfl, rfl⟩
    go_wp2_with fail
    refine Calls.mono H2.out ?_
    rintro e w2 ⟨rfl, rfl⟩
    go_wp2_with fail
    refine Calls.mono H3.out ?_
    rintro e w3 ⟨rfl, hF3⟩
    go_wp2_with fail
    refine Calls.mono (HX.out w3) ?_
    rintro e w4 ⟨rfl, hF4⟩
    go_wp2_with fail
    refine Calls.mono (HA.out w4) ?_
    rintro e w5 ⟨rfl, hF5⟩
    go_wp2_with fail
    go_ret
    exact ⟨rfl, (hF3.trans hF4 (fun _ _ e => e)).trans hF5 (fun _ _ e => e)⟩

end Go.Proofs.Ytmhdinianpeelaa
