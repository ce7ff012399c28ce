/- WordEight: for every text, whatever stands ahead of it, and any two numbers. -/
import Derived.Test.YtmhdinianpeelabP3a
import Derived.Test.YtmhdinianpeelabP3b
namespace Go.Proofs.Ytmhdinianpeelab
open Go.RowKit Go.IntWalk
set_option linter.unusedSimpArgs false
set_option linter.unusedVariables false

theorem numOf_drop (l : List UInt8) : numOf (l.drop (l.length - 8)) = numOf l := by
  by_cases h : 8 ≤ l.length
  · have := numOf_last (l.take (l.length - 8)) (l.drop (l.length - 8)) (by simp; omega)
    rw [List.take_append_drop] at this
    exact this.symm
  · rw [show l.length - 8 = 0 by omega, List.drop_zero]
theorem num_all (s : ByteArray) (N : Nat) (hs : s.size ≤ maxLen) (h : numOf s.data.toList = N) (w : World) : Calls Try.prog 24 #[.string s] w fun e w' => e = .returned (.int .u64 N) ∧ w' = w := by
  have hd := numOf_drop s.data.toList
  rw [show s.data.toList.length = s.size by simp, h] at hd
  have := num_any s w hs
  rw [hd] at this
  exact this

theorem eight_any (s a : ByteArray) (n m : Nat) (w : World) (hn : n < 18446744073709551616) (hm : m < 18446744073709551616) (hs : s.size ≤ maxLen) (ha : a.size ≤ maxLen) : Calls Try.prog 5 #[.string s, .string a, .int .u64 n, .int .u64 m] w fun e w' => e = .returned (.bool true) ∧ Fr (fun _ => False) w w' := by
  by_cases h1 : 300 < s.size
  · exact eight_long s a n m w hs ha h1
  by_cases h2 : 300 < a.size
  · exact eight_ahead s a n m w hs ha h1 h2
  have hlen : s.data.toList.length = s.size := by simp
  have hz : numOf (ByteArray.mk #[0] ++ s).data.toList = numOf s.data.toList := by
    rw [show (ByteArray.mk #[0] ++ s).data.toList = 0 :: s.data.toList by simp [ByteArray.data_append]]
    exact numOf_nought _
  have hzs : (ByteArray.mk #[0] ++ s).size ≤ maxLen := by
    have : (ByteArray.mk #[0] ++ s).size = 1 + s.size := by rw [ByteArray.size_append]; rfl
    unfold maxLen
    omega
  by_cases h8 : 8 ≤ s.size
  · have hd := numOf_drop s.data.toList
    rw [hlen] at hd
    have hb := valB_of (s.data.toList.drop (s.size - 8)) (by simp; omega)
    have hl8 : (s.data.toList.drop (s.size - 8)).length = 8 := by simp; omega
    rw [hd, hl8] at hb
    refine eight_full s a n m _ w hn hm (by omega) (by omega) h8 (numOf_lt s.data.toList) (by simpa using hb) (num_all s _ hs rfl) (num_all _ _ (by rw [ByteArray.size_append]; unfold maxLen; omega) ?_) (num_all _ _ hzs hz)
    rw [ByteArray.data_append, Array.toList_append]
    exact numOf_last _ _ (by omega)
  · have hb := valB_of s.data.toList (by omega)
    rw [hlen] at hb
    exact eight_short s a n m _ w hn hm (by omega) (by omega) (by omega) (numOf_lt s.data.toList) hb (num_all s _ hs rfl) (num_all _ _ hzs hz)

end Go.Proofs.Ytmhdinianpeelab
