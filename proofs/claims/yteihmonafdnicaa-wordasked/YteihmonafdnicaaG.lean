/- Registers: Num and Val, the program's and the document's. -/
import Derived.Test.YteihmonafdnicaaQ
namespace Go.Proofs.Yteihmonafdnicaa
open Go.RowKit Go.IntWalk
set_option linter.unusedSimpArgs false
set_option linter.unusedVariables false

/-- What bytes say, the highest first, of which the last eight count. -/
def numOf (bs : List UInt8) : Nat := bs.foldl (fun n b => (n * 256 + b.toNat) % 18446744073709551616) 0
theorem numOf_snoc (bs : List UInt8) (b : UInt8) : numOf (bs ++ [b]) = (numOf bs * 256 + b.toNat) % 18446744073709551616 := by simp [numOf]
theorem numOf_lt (bs : List UInt8) : numOf bs < 18446744073709551616 := by
  cases h : bs.reverse with
  | nil => rw [List.reverse_eq_nil_iff] at h; subst h; decide
  | cons b l =>
    obtain rfl : bs = l.reverse ++ [b] := by rw [← List.reverse_reverse bs, h]; simp
    rw [numOf_snoc]
    exact Nat.mod_lt _ (by decide)

theorem or_byte (n b : Nat) (hb : b < 256) : bits .or .u64 (IntKind.u64.wrap ((n : Int) * 256)) (IntKind.u64.wrap (b : Int)) = (((n * 256 + b) % 18446744073709551616 : Nat) : Int) := by
  have e : IntKind.u64.wrap ((n : Int) * 256) = ((n * 256 % 18446744073709551616 : Nat) : Int) := by simp [IntKind.wrap, IntKind.bits, IntKind.signed]
  rw [e, u64_in (b : Int) (by omega), (bits_nat .u64 64 (by decide) (fun n h0 h1 => u64_in n (by omega)) (n * 256 % 18446744073709551616) b (by omega) (by omega)).2]
  rw [show n * 256 % 18446744073709551616 = 2 ^ 8 * (n % 72057594037927936) by omega, ← Nat.two_pow_add_eq_or_of_lt (by omega : b < 2 ^ 8)]
  omega

theorem drop_snoc (s : ByteArray) (k c : Nat) (hk : k < s.size) (hc : c ≤ k) : (s.data.toList.take (k + 1)).drop c = (s.data.toList.take k).drop c ++ [s[k]] := by
  rw [List.take_succ_eq_append_getElem (by simpa using hk), List.drop_append_of_le_length (by simp; omega)]
  rfl

set_option maxRecDepth 100000 in
set_option maxHeartbeats 1000000 in
theorem num_any (s : ByteArray) (w : World) (hs : s.size ≤ maxLen) : Calls Try.prog 41 #[.string s] w fun e w' => e = .returned (.int .u64 (numOf (s.data.toList.drop (s.size - 8)))) ∧ w' = w := by
  unfold maxLen at hs
  go_enter Try.func41, Try.ntmps41
  go_wp2
  go_loop [3, 4] (fun n i => ∃ k : Nat, s.size - 8 ≤ k ∧ k ≤ s.size ∧ i = .int .i64 k ∧ n = .int .u64 (numOf ((s.data.toList.take k).drop (s.size - 8)))) (fun _ i => s.size - (intOf i).toNat)
  case atStart => exact ⟨s.size - 8, Nat.le_refl _, by omega, by rw [show max (0 : Int) ((s.size : Int) - 8) = ((s.size - 8 : Nat) : Int) by omega], by rw [List.drop_of_length_le (by simp)]; rfl⟩
  case round =>
    obtain ⟨k, hk0, hk, rfl, rfl⟩ := hrel
    have hnl := numOf_lt ((s.data.toList.take k).drop (s.size - 8))
    by_cases hlt : k < s.size
    · have HS := hideIt (show numOf ((s.data.toList.take (k + 1)).drop (s.size - 8)) = _ by rw [drop_snoc s k _ hlt hk0, numOf_snoc])
      have HO := hideIt (or_byte (numOf ((s.data.toList.take k).drop (s.size - 8))) s[k].toNat (UInt8.toNat_lt _))
      generalize numOf ((s.data.toList.take k).drop (s.size - 8)) = m at *
      go_wp2
      go_round
      case rel => exact ⟨k + 1, by omega, by omega, by go_num, by rw [HS.out, ← HO.out]⟩
      case measure => simp [intOf]; omega
    · obtain rfl : k = s.size := by omega
      go_wp2
      go_ret
      exact ⟨congrArg Ending.returned (congrArg (Value.int IntKind.u64) (by rw [List.take_of_length_le (by simp)])), rfl⟩

end Go.Proofs.Yteihmonafdnicaa
