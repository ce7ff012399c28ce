/- WordEight: only the last eight bytes count. -/
import Derived.Test.YtmhdinianpeelabE
import Derived.Test.YtmhdinianpeelabN
import Derived.BigQuiet
namespace Go.Proofs.Ytmhdinianpeelab
open Go.RowKit Go.IntWalk
set_option linter.unusedSimpArgs false
set_option linter.unusedVariables false

theorem eight_long (s a : ByteArray) (n m : Nat) (w : World) (hs : s.size ≤ maxLen) (ha : a.size ≤ maxLen) (h : 300 < s.size) : Calls Try.prog 5 #[.string s, .string a, .int .u64 n, .int .u64 m] w fun e w' => e = .returned (.bool true) ∧ Fr (fun _ => False) w w' := by
  have HA := hideIt (awake_any w)
  go_enter Try.func5, Try.ntmps5
  go_wp2_with fail
  refine Calls.mono HA.out ?_
  rintro e w1 ⟨rfl, hF⟩
  go_wp2_with fail
  go_ret
  exact ⟨rfl, hF⟩
theorem eight_ahead (s a : ByteArray) (n m : Nat) (w : World) (hs : s.size ≤ maxLen) (ha : a.size ≤ maxLen) (h0 : ¬ 300 < s.size) (h : 300 < a.size) : Calls Try.prog 5 #[.string s, .string a, .int .u64 n, .int .u64 m] w fun e w' => e = .returned (.bool true) ∧ Fr (fun _ => False) w w' := by
  have HA := hideIt (awake_any w)
  go_enter Try.func5, Try.ntmps5
  go_wp2_with fail
  refine Calls.mono HA.out ?_
  rintro e w1 ⟨rfl, hF⟩
  go_wp2_with fail
  go_ret
  exact ⟨rfl, hF⟩

end Go.Proofs.Ytmhdinianpeelab
