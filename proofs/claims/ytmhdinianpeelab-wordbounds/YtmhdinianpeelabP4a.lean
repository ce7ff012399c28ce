/- WordBounds: the walks. -/
import Derived.Test.YtmhdinianpeelabP4
namespace Go.Proofs.Ytmhdinianpeelab
open Go.RowKit Go.IntWalk
set_option linter.unusedSimpArgs false
set_option linter.unusedVariables false

set_option maxRecDepth 100000 in
theorem bounds_long (n low high : Int) (a : ByteArray) (ao : Option Addr) (cap : Nat) (l : List (Int × Int × Int)) (w : World) (hn : n ≤ 9223372036854775807) (hl : l.length ≤ maxLen) (ha : a.size ≤ maxLen) (h : 300 < a.size) :
    Calls Try.prog 4 #[.int .i64 n, .int .i64 low, .int .i64 high, .string a, .slice ao l.length cap] w fun e w' => e = .returned (.bool true) ∧ Fr (fun _ => False) w w' := by
  have HA := hideIt (awake_any w)
  go_enter Try.func4, Try.ntmps4
  go_wp2_with fail
  refine Calls.mono HA.out ?_
  rintro e w1 ⟨rfl, hF⟩
  go_wp2_with fail
  go_ret
  exact ⟨rfl, hF⟩

set_option maxRecDepth 100000 in
theorem bounds_many (n low high : Int) (a : ByteArray) (ao : Option Addr) (cap : Nat) (l : List (Int × Int × Int)) (w : World) (hn : n ≤ 9223372036854775807) (hl : l.length ≤ maxLen) (ha : a.size ≤ maxLen) (h0 : ¬ 300 < a.size) (h : 30 < l.length) :
    Calls Try.prog 4 #[.int .i64 n, .int .i64 low, .int .i64 high, .string a, .slice ao l.length cap] w fun e w' => e = .returned (.bool true) ∧ Fr (fun _ => False) w w' := by
  have HA := hideIt (awake_any w)
  go_enter Try.func4, Try.ntmps4
  go_wp2_with fail
  refine Calls.mono HA.out ?_
  rintro e w1 ⟨rfl, hF⟩
  go_wp2_with fail
  go_ret
  exact ⟨rfl, hF⟩

set_option maxRecDepth 100000 in
set_option maxHeartbeats 1000000 in
theorem bounds_neg (n low high : Int) (a : ByteArray) (ao : Option Addr) (cap : Nat) (l : List (Int × Int × Int)) (w : World) (hn : n ≤ 9223372036854775807) (hl : l.length ≤ maxLen) (ha : a.size ≤ maxLen) (h0 : a.size ≤ 300) (h : l.length ≤ 30) (hneg : n < 0) :
    Calls Try.prog 4 #[.int .i64 n, .int .i64 low, .int .i64 high, .string a, .slice ao l.length cap] w fun e w' => e = .returned (.bool true) ∧ Fr (fun _ => False) w w' := by
  have H2 := hideIt (fun w => by have := all_two a n h0 hn w; simp only [hneg, if_true, decide_true, Bool.not_true] at this; exact this)
  have hm1 : ∀ (x : Bool) (w : World), (Op.unary .not (.bool x)).run Try.prog w = .ok (.bool (!x)) w := fun _ _ => rfl
  have HA := hideIt (awake_any w)
  go_enter Try.func4, Try.ntmps4
  go_wp2_with fail
  refine Calls.mono HA.out ?_
  rintro e w1 ⟨rfl, hF1⟩
  go_wp2_with fail
  refine Calls.mono (H2.out w1) ?_
  rintro e w2 ⟨aoA, capA, rfl, hrowA, hF2, hnA⟩
  go_wp2_with fail
  go_ret
  exact ⟨rfl, hF1.trans hF2 (fun _ _ e => e)⟩

end Go.Proofs.Ytmhdinianpeelab
