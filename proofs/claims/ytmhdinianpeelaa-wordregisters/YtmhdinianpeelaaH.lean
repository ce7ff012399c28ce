/- Registers as the document says them. -/
import Derived.Test.YtmhdinianpeelaaG
namespace Go.Proofs.Ytmhdinianpeelaa
open Go.RowKit Go.IntWalk
set_option linter.unusedSimpArgs false
set_option linter.unusedVariables false

theorem add_byte (n b : Nat) (hb : b < 256) : IntKind.u64.wrap (IntKind.u64.wrap ((n : Int) * 256) + IntKind.u64.wrap (b : Int)) = (((n * 256 + b) % 18446744073709551616 : Nat) : Int) := by
  simp [IntKind.wrap, IntKind.bits, IntKind.signed]

set_option maxRecDepth 100000 in
set_option maxHeartbeats 1000000 in
theorem xnum_any (s : ByteArray) (w : World) (hs : s.size ≤ maxLen) : Calls Try.prog 41 #[.string s] w fun e w' => e = .returned (.int .u64 (numOf s.data.toList)) ∧ w' = w := by
  unfold maxLen at hs
  go_enter Try.func41, Try.ntmps41
  go_wp2
  go_loop [3, 4] (fun n i => ∃ k : Nat, k ≤ s.size ∧ i = .int .i64 k ∧ n = .int .u64 (numOf (s.data.toList.take k))) (fun _ i => s.size - (intOf i).toNat)
  case atStart => exact ⟨0, Nat.zero_le _, rfl, rfl⟩
  case round =>
    obtain ⟨k, hk, rfl, rfl⟩ := hrel
    have hnl := numOf_lt (s.data.toList.take k)
    by_cases hlt : k < s.size
    · have HS := hideIt (show numOf (s.data.toList.take (k + 1)) = (numOf (s.data.toList.take k) * 256 + s[k].toNat) % 18446744073709551616 by have := drop_snoc s k 0 hlt (Nat.zero_le _); rw [List.drop_zero, List.drop_zero] at this; rw [this, numOf_snoc])
      have HO := hideIt (add_byte (numOf (s.data.toList.take k)) s[k].toNat (UInt8.toNat_lt _))
      generalize numOf (s.data.toList.take k) = m at *
      go_wp2
      go_round
      case rel => exact ⟨k + 1, by omega, by go_num, by rw [HS.out, ← HO.out]⟩
      case measure => simp [intOf]; omega
    · obtain rfl : k = s.size := by omega
      go_wp2
      go_ret
      exact ⟨congrArg Ending.returned (congrArg (Value.int IntKind.u64) (by rw [List.take_of_length_le (by simp)])), rfl⟩

/-- The last k bytes of a number. -/
def xval (n : Nat) : Nat → List UInt8
  | 0 => []
  | k + 1 => UInt8.ofNat (n / 256 ^ k % 256) :: xval n k

theorem xval_len (n k : Nat) : (xval n k).length = k := by
  induction k with
  | zero => rfl
  | succ k ih => simp [xval, ih]

theorem cat_one (b : UInt8) (l : List UInt8) : (⟨#[b]⟩ : ByteArray) ++ ⟨l.toArray⟩ = ⟨(b :: l).toArray⟩ := by
  apply ByteArray.ext
  simp

theorem xval_eight (n : Nat) (hn : n < 18446744073709551616) : xval n 8 = valB n := by
  simp only [xval, valB]
  rw [show n / 256 ^ 7 % 256 = n / 72057594037927936 by omega]
  simp

set_option maxRecDepth 100000 in
set_option maxHeartbeats 1000000 in
theorem xval_any (n : Nat) (hn : n < 18446744073709551616) (w : World) : Calls Try.prog 43 #[.int .u64 n] w fun e w' => e = .returned (.string ⟨(valB n).toArray⟩) ∧ Fr (fun _ => False) w w' := by
  have hconv : ∀ (w : World) (x : Int), (convert 28 9 (.slice (some ⟨w.heap.size, 0, none⟩) 1 1)).run Try.prog (w.alloc (.cells #[.int .u8 x] 5)) = .ok (.string ⟨#[UInt8.ofNat x.toNat]⟩) (w.alloc (.cells #[.int .u8 x] 5)) := fun w x =>
    run_convert_bytes_arg (P := Try.prog) _ 28 5 Try.underlying28 Try.underlying5 w.heap.size 0 1 1 [x] rfl (fun i hi => by rw [show i = 0 by omega, World.cell?_alloc_at _ _ _ _ rfl]; rfl) 9 Try.underlying9
  rw [← xval_eight n hn]
  go_enter Try.func43, Try.ntmps43
  go_wp2
  go_loopw [0, 3, 4] (fun m s i wr => ∃ k : Nat, k ≤ 8 ∧ i = .int .i64 k ∧ m = .int .u64 ((n / 256 ^ k : Nat) : Int) ∧ s = .string ⟨(xval n k).toArray⟩ ∧ Fr (fun _ => False) w wr) (fun _ _ i _ => (8 - intOf i).toNat)
  case atStart => exact ⟨0, by omega, rfl, by simp, rfl, Fr.refl _ _⟩
  case round =>
    obtain ⟨k, hk, rfl, rfl, rfl, hF⟩ := hrel
    have hd : n / 256 ^ k < 18446744073709551616 := Nat.lt_of_le_of_lt (Nat.div_le_self _ _) hn
    by_cases hlt : k < 8
    · have HM := hideIt (show n / 256 ^ (k + 1) = n / 256 ^ k / 256 by rw [Nat.pow_succ, Nat.div_div_eq_div_mul])
      have HX := hideIt (show xval n (k + 1) = UInt8.ofNat (n / 256 ^ k % 256) :: xval n k from rfl)
      have hxl : (xval n k).length ≤ 8 := by rw [xval_len]; omega
      generalize n / 256 ^ k = m at *
      generalize xval n k = l at *
      go_wp2
      go_roundw
      case measure => simp [intOf]; omega
      case rel => exact ⟨k + 1, by omega, by go_num, by rw [HM.out]; simp, congrArg Value.string (by rw [HX.out]; exact cat_one _ _), hF.alloc _⟩
    · obtain rfl : k = 8 := by omega
      go_wp2
      go_ret
      exact ⟨rfl, hF⟩

end Go.Proofs.Ytmhdinianpeelaa
