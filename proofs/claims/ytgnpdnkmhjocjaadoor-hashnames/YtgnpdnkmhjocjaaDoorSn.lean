/- Package hash: digits (digit), walked; what a text is, on paper. -/
import Derived.Test.YtgnpdnkmhjocjaaDoorSl
namespace Go.Proofs.YtgnpdnkmhjocjaaDoor
open Go.RowKit Go.IntWalk
set_option linter.unusedSimpArgs false
set_option linter.unusedVariables false

def isDg (c : Nat) : Bool := decide (48 ≤ c ∧ c ≤ 57) || decide (97 ≤ c ∧ c ≤ 102)
def dgN (c : Nat) : Nat := if 48 ≤ c ∧ c ≤ 57 then c - 48 else if 97 ≤ c ∧ c ≤ 102 then c - 87 else 0

set_option maxRecDepth 100000 in
theorem hdigit_any (c : Nat) (hc : c < 256) (w : World) : Calls Tryd.prog 35 #[.int .u8 (c : Int)] w fun e w' => e = .returned (.tuple #[.int .u8 (dgN c : Int), .bool (isDg c)]) ∧ w' = w := by
  by_cases h1 : c < 48
  · have e1 : dgN c = 0 := by unfold dgN; rw [if_neg (by omega), if_neg (by omega)]
    have e2 : isDg c = false := by unfold isDg; simp; omega
    have a1 : ¬ (48 : Int) ≤ (c : Int) := by omega
    have a2 : ¬ (97 : Int) ≤ (c : Int) := by omega
    rw [e1, e2]
    clear e1 e2
    go_enter Tryd.func35, Tryd.ntmps35
    go_wp2_with fail
    go_ret2
    exact ⟨rfl, rfl⟩
  · by_cases h2 : c ≤ 57
    · have e1 : (dgN c : Int) = (c : Int) - 48 := by unfold dgN; rw [if_pos (by omega)]; omega
      have e2 : isDg c = true := by unfold isDg; simp; omega
      have a1 : (48 : Int) ≤ (c : Int) := by omega
      have a2 : (c : Int) ≤ 57 := by omega
      have a3 : IntKind.u8.wrap ((c : Int) - 48) = (c : Int) - 48 := by rw [IntKind.wrap_u8]; omega
      rw [e1, e2]
      clear e1 e2
      go_enter Tryd.func35, Tryd.ntmps35
      go_wp2_with fail
      go_ret2
      exact ⟨rfl, rfl⟩
    · by_cases h3 : c < 97
      · have e1 : dgN c = 0 := by unfold dgN; rw [if_neg (by omega), if_neg (by omega)]
        have e2 : isDg c = false := by unfold isDg; simp; omega
        have a1 : (48 : Int) ≤ (c : Int) := by omega
        have a2 : ¬ (c : Int) ≤ 57 := by omega
        have a3 : ¬ (97 : Int) ≤ (c : Int) := by omega
        rw [e1, e2]
        clear e1 e2
        go_enter Tryd.func35, Tryd.ntmps35
        go_wp2_with fail
        go_ret2
        exact ⟨rfl, rfl⟩
      · by_cases h4 : c ≤ 102
        · have e1 : (dgN c : Int) = (c : Int) - 97 + 10 := by unfold dgN; rw [if_neg (by omega), if_pos (by omega)]; omega
          have e2 : isDg c = true := by unfold isDg; simp; omega
          have a1 : (48 : Int) ≤ (c : Int) := by omega
          have a2 : ¬ (c : Int) ≤ 57 := by omega
          have a3 : (97 : Int) ≤ (c : Int) := by omega
          have a4 : (c : Int) ≤ 102 := by omega
          have a5 : IntKind.u8.wrap ((c : Int) - 97) = (c : Int) - 97 := by rw [IntKind.wrap_u8]; omega
          have a6 : IntKind.u8.wrap ((c : Int) - 97 + 10) = (c : Int) - 97 + 10 := by rw [IntKind.wrap_u8]; omega
          rw [e1, e2]
          clear e1 e2
          go_enter Tryd.func35, Tryd.ntmps35
          go_wp2_with fail
          go_ret2
          exact ⟨rfl, rfl⟩
        · have e1 : dgN c = 0 := by unfold dgN; rw [if_neg (by omega), if_neg (by omega)]
          have e2 : isDg c = false := by unfold isDg; simp; omega
          have a1 : (48 : Int) ≤ (c : Int) := by omega
          have a2 : ¬ (c : Int) ≤ 57 := by omega
          have a3 : (97 : Int) ≤ (c : Int) := by omega
          have a4 : ¬ (c : Int) ≤ 102 := by omega
          rw [e1, e2]
          clear e1 e2
          go_enter Tryd.func35, Tryd.ntmps35
          go_wp2_with fail
          go_ret2
          exact ⟨rfl, rfl⟩

end Go.Proofs.YtgnpdnkmhjocjaaDoor
