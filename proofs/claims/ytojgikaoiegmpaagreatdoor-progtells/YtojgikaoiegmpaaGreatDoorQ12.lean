/- ProgTells, part 12 of the road: what the program's functions do, each by its own walk. -/
import Derived.Test.YtojgikaoiegmpaaGreatDoorQ3
import Derived.Test.YtojgikaoiegmpaaGreatDoorQ11
import Derived.Handy

/- Size, Val, Num of package word. -/
namespace Go.Proofs.YtojgikaoiegmpaaGreatDoor
open Go.RowKit Go.IntWalk
set_option linter.unusedSimpArgs false
set_option linter.unusedVariables false
set_option maxRecDepth 100000

theorem sevens_bits (n : Nat) (hn : n < 18446744073709551616) : (sevens n).length = max 1 ((Lib.bitLen n + 6) / 7) := by
  induction n using Nat.strongRecOn with
  | ind n ih =>
    by_cases h : n < 128
    · have := Lib.bitLen_le n 7 (by omega) (by simpa using h)
      rw [sevens_lt h]
      simp
      omega
    · rw [sevens_ge h, List.length_cons, ih (n / 128) (by omega) (by omega)]
      have s := Lib.bitLen_shift 7 n (by simpa using h) (by rw [show (2 : Nat) ^ 64 = 18446744073709551616 by decide]; exact hn)
      rw [show (2 : Nat) ^ 7 = 128 by decide] at s
      have hp : 0 < Lib.bitLen (n / 128) := by
        rcases Nat.eq_zero_or_pos (Lib.bitLen (n / 128)) with h0 | h0
        · have hs := Lib.bitLen_half (n / 128) (by omega) (by rw [show (2 : Nat) ^ 64 = 18446744073709551616 by decide]; omega)
          omega
        · exact h0
      omega

theorem size_neg (n : Int) (w : World) (h : n < 0) : Calls Tryz.prog 68 #[.int .i64 n] w fun e w' => e = .returned (.int .i64 0) ∧ w' = w := by
  go_enter Tryz.func68, Tryz.ntmps68
  go_wp2
  go_ret
  exact ⟨rfl, rfl⟩

theorem size_nat (n : Nat) (w : World) (h : n ≤ 9223372036854775807) : Calls Tryz.prog 68 #[.int .i64 n] w fun e w' => e = .returned (.int .i64 (sevens n).length) ∧ w' = w := by
  have hs := sevens_bits n (by omega)
  have hl := Lib.bitLen_le n 63 (by omega) (by rw [show (2 : Nat) ^ 63 = 9223372036854775808 by decide]; omega)
  have HS := hideIt hs
  clear hs
  go_enter Tryz.func68, Tryz.ntmps68
  go_wp2_with (go_at_call 89; refine (len64_any _ _ (by omega) (by omega)).mono ?_; rintro e w' ⟨rfl, rfl⟩)
  go_ret
  exact ⟨congrArg Ending.returned (congrArg (Value.int IntKind.i64) (by have := HS.out; show max (1 : Int) (((Lib.bitLen n : Nat) : Int) + 7 - 1 |> (· / 7)) = _; simp only; omega)), rfl⟩

/-- A number's eight bytes, the highest first. -/
def valB (n : Nat) : List UInt8 := [UInt8.ofNat (n / 72057594037927936), UInt8.ofNat (n / 281474976710656 % 256), UInt8.ofNat (n / 1099511627776 % 256), UInt8.ofNat (n / 4294967296 % 256), UInt8.ofNat (n / 16777216 % 256), UInt8.ofNat (n / 65536 % 256), UInt8.ofNat (n / 256 % 256), UInt8.ofNat (n % 256)]


theorem ofNat_int (m : Nat) (h : m < 256) : ((UInt8.ofNat m).toNat : Int) = m := by
  simp
  omega



end Go.Proofs.YtojgikaoiegmpaaGreatDoor
