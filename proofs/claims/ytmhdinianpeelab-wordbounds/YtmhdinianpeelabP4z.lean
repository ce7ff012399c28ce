/- WordBounds, for every number, all bounds, every text ahead, any asks behind. -/
import Derived.Test.YtmhdinianpeelabP4a
import Derived.Test.YtmhdinianpeelabP4c
import Derived.Test.YtmhdinianpeelabP4d
import Derived.Test.YtmhdinianpeelabP4e
import Derived.Test.YtmhdinianpeelabP4f
namespace Go.Proofs.Ytmhdinianpeelab
open Go.RowKit Go.IntWalk
set_option linter.unusedSimpArgs false
set_option linter.unusedVariables false

theorem bounds_any (n low high : Int) (a : ByteArray) (ao : Option Addr) (cap : Nat) (l : List (Int × Int × Int)) (w : World) (hA : AsksAt w ao l) (hn : n ≤ 9223372036854775807) (hl : l.length ≤ maxLen) (ha : a.size ≤ maxLen) :
    Calls Try.prog 4 #[.int .i64 n, .int .i64 low, .int .i64 high, .string a, .slice ao l.length cap] w fun e w' => e = .returned (.bool true) ∧ Fr (fun _ => False) w w' := by
  by_cases h0 : 300 < a.size
  · exact bounds_long n low high a ao cap l w hn hl ha h0
  by_cases h1 : 30 < l.length
  · exact bounds_many n low high a ao cap l w hn hl ha h0 h1
  by_cases hneg : n < 0
  · exact bounds_neg n low high a ao cap l w hn hl ha (by omega) (by omega) hneg
  obtain ⟨N, rfl⟩ := Int.eq_ofNat_of_zero_le (show 0 ≤ n by omega)
  have h9 := sevens_nine (n := N) (by omega)
  have h9' := sevens_nine (n := a.size) (by omega)
  have hlen := bnd_len a N
  have hT := bnd_text a N (by omega)
  have hI := bnd_int a N low high (by omega)
  have hC := bnd_count a N high (by omega)
  have hall := fun w => all_two a (N : Int) (by omega) hn w
  simp only [hneg, if_false, decide_false, Bool.not_false, Int.toNat_natCast] at hall
  by_cases hhi : high < (N : Int)
  · rw [if_pos (Or.inr hhi)] at hI
    rw [if_pos hhi] at hC
    by_cases hlo : (N : Int) < low
    · exact bounds_f N _ (bndB a N) low high a ao cap l w hA (by omega) (by omega) (by omega) hlo hhi (by omega) (by omega) hT hI hC hall
    · exact bounds_e N _ (bndB a N) low high a ao cap l w hA (by omega) (by omega) (by omega) (by omega) hhi (by omega) (by omega) hT hI hC hall
  · rw [if_neg hhi] at hC
    by_cases hlo : (N : Int) < low
    · rw [if_pos (Or.inl hlo)] at hI
      exact bounds_d N _ (bndB a N) low high a ao cap l w hA (by omega) (by omega) (by omega) hlo (by omega) (by omega) (by omega) hT hI hC hall
    · rw [if_neg (by omega)] at hI
      exact bounds_c N _ (bndB a N) low high a ao cap l w hA (by omega) (by omega) (by omega) (by omega) (by omega) (by omega) (by omega) hT hI hC hall

end Go.Proofs.Ytmhdinianpeelab
