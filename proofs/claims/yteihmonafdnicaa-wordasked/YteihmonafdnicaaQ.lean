/- Size, Val, Num of package word. -/
import Derived.Test.YteihmonafdnicaaK
import Derived.Test.YteihmonafdnicaaZ
import Derived.Handy
namespace Go.Proofs.Yteihmonafdnicaa
open Go.RowKit Go.IntWalk
set_option linter.unusedSimpArgs false
set_option linter.unusedVariables false

theorem sevens_bits (n : Nat) (hn : n < 18446744073709551616) : (sevens n).length = max 1 ((Lib.bitLen n + 6) / 7) := by
  induction n using Nat.strongRecOn with
  | ind n ih =>
    by_cases h : n < 128
    · have := Lib.bitLen_le n 7 (by omega) (by simpa using h)
      rw [sevens_lt h]
      simp
      omega
    · rw [sevens_ge h, List.length_cons, ih (n / 128) (by omega) (by omega)]
      have s := Lib.bitLen_shift 7 n (by simpa using h) (by rw [show (2 : Nat) ^ 64 = 18446744073709551616 by decide]; exact hn)
      rw [show (2 : Nat) ^ 7 = 128 by decide] at s
      have hp : 0 < Lib.bitLen (n / 128) := by
        rcases Nat.eq_zero_or_pos (Lib.bitLen (n / 128)) with h0 | h0
        · have hs := Lib.bitLen_half (n / 128) (by omega) (by rw [show (2 : Nat) ^ 64 = 18446744073709551616 by decide]; omega)
          omega
        · exact h0
      omega

theorem size_neg (n : Int) (w : World) (h : n < 0) : Calls Try.prog 14 #[.int .i64 n] w fun e w' => e = .returned (.int .i64 0) ∧ w' = w := by
  go_enter Try.func14, Try.ntmps14
  go_wp2
  go_ret
  exact ⟨rfl, rfl⟩

theorem size_nat (n : Nat) (w : World) (h : n ≤ 9223372036854775807) : Calls Try.prog 14 #[.int .i64 n] w fun e w' => e = .returned (.int .i64 (sevens n).length) ∧ w' = w := by
  have hs := sevens_bits n (by omega)
  have hl := Lib.bitLen_le n 63 (by omega) (by rw [show (2 : Nat) ^ 63 = 9223372036854775808 by decide]; omega)
  have HS := hideIt hs
  clear hs
  go_enter Try.func14, Try.ntmps14
  go_wp2_with (go_at_call 48; refine (len64_any _ _ (by omega) (by omega)).mono ?_; rintro e w' ⟨rfl, rfl⟩)
  go_ret
  exact ⟨congrArg Ending.returned (congrArg (Value.int IntKind.i64) (by have := HS.out; show max (1 : Int) (((Lib.bitLen n : Nat) : Int) + 7 - 1 |> (· / 7)) = _; simp only; omega)), rfl⟩

/-- A number's eight bytes, the highest first. -/
def valB (n : Nat) : List UInt8 := [UInt8.ofNat (n / 72057594037927936), UInt8.ofNat (n / 281474976710656 % 256), UInt8.ofNat (n / 1099511627776 % 256), UInt8.ofNat (n / 4294967296 % 256), UInt8.ofNat (n / 16777216 % 256), UInt8.ofNat (n / 65536 % 256), UInt8.ofNat (n / 256 % 256), UInt8.ofNat (n % 256)]

/-- The block that Val fills. -/
def valO (n : Nat) : Obj := .cells #[.int .u8 ((n : Int) / 72057594037927936), .int .u8 ((n : Int) / 281474976710656 % 256), .int .u8 ((n : Int) / 1099511627776 % 256), .int .u8 ((n : Int) / 4294967296 % 256), .int .u8 ((n : Int) / 16777216 % 256), .int .u8 ((n : Int) / 65536 % 256), .int .u8 ((n : Int) / 256 % 256), .int .u8 ((n : Int) % 256)] 87 (0, 0)

theorem ofNat_int (m : Nat) (h : m < 256) : ((UInt8.ofNat m).toNat : Int) = m := by
  simp
  omega

theorem valO_bs (n : Nat) (hn : n < 18446744073709551616) (w : World) : BsAt (w.alloc (valO n)) (some ⟨w.heap.size, 0, none⟩) (valB n) := by
  refine Or.inr ⟨w.heap.size, 0, rfl, fun j hj => ?_⟩
  rw [cell_of_row _ _ _ _ _ _ (heap_alloc_new w (valO n)), Nat.zero_add]
  have hj8 : j < 8 := hj
  match j, hj8, hj with
  | 0, _, hj => simp [valB]; omega
  | 1, _, hj => simp [valB]
  | 2, _, hj => simp [valB]
  | 3, _, hj => simp [valB]
  | 4, _, hj => simp [valB]
  | 5, _, hj => simp [valB]
  | 6, _, hj => simp [valB]
  | 7, _, hj => simp [valB]

set_option maxRecDepth 100000 in
set_option maxHeartbeats 2000000 in
theorem val_any (n : Nat) (hn : n < 18446744073709551616) (w : World) : Calls Try.prog 43 #[.int .u64 n] w fun e w' => e = .returned (.string ⟨(valB n).toArray⟩) ∧ Fr (fun _ => False) w w' := by
  have hconv := (valO_bs n hn w).conv 8
  rw [show (valB n).length = 8 from rfl] at hconv
  generalize (valB n).toArray = arr at hconv ⊢
  unfold valO at hconv
  go_enter Try.func43, Try.ntmps43
  go_wp2
  go_rounds 9
  go_ret
  exact ⟨rfl, (Fr.refl _ _).alloc _⟩

end Go.Proofs.Yteihmonafdnicaa
