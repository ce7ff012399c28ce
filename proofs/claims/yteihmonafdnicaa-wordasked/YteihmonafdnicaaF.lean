/- The statements' bulky. -/
import Derived.Test.YteihmonafdnicaaO2
namespace Go.Proofs.Yteihmonafdnicaa
open Go.RowKit Go.IntWalk
set_option linter.unusedSimpArgs false
set_option linter.unusedVariables false

def sumS (l : List Th) : Nat := (l.map fun x => x.s.size).sum
theorem sumS_take (l : List Th) (k : Nat) (h : k < l.length) : sumS (l.take (k + 1)) = sumS (l.take k) + l[k].s.size := by
  unfold sumS
  rw [List.take_succ_eq_append_getElem h, List.map_append, List.sum_append]
  simp only [List.map_cons, List.map_nil, List.sum_cons, List.sum_nil, Nat.add_zero]
/-- More than is gone through. -/
def bulkyB (l : List Th) : Bool := decide (30 < l.length) || decide (2000 < sumS (l.take 31))

set_option maxRecDepth 100000 in
set_option maxHeartbeats 1000000 in
theorem bulky_any (ao : Option Addr) (cap : Nat) (l : List Th) (w : World) (h : l = [] ∨ ThsAt w ao l) (hS : ∀ k, k ≤ 31 → sumS (l.take k) ≤ 4611686018427387904) (hlen : l.length ≤ maxLen) :
    Calls Try.prog 8 #[.slice ao l.length cap] w fun e w' => e = .returned (.bool (bulkyB l)) ∧ w' = w := by
  have HH := hideIt h
  have HS := hideIt hS
  clear h hS
  unfold maxLen at hlen
  go_enter Try.func8, Try.ntmps8
  go_wp2_with fail
  go_loop [3, 4] (fun n i => ∃ k : Nat, k ≤ l.length ∧ k ≤ 31 ∧ i = .int .i64 k ∧ n = .int .i64 (sumS (l.take k) : Nat)) (fun _ i => 31 - (intOf i).toNat)
  case atStart => exact ⟨0, Nat.zero_le _, by omega, rfl, rfl⟩
  case round =>
    obtain ⟨k, hk, hk31, rfl, rfl⟩ := hrel
    have hsl := HS.out k hk31
    by_cases hlt : k < l.length
    · by_cases h31 : k < 31
      · obtain ⟨b, off, rfl, hbl, hc⟩ : ∃ b off, ao = some ⟨b, off, none⟩ ∧ b < w.heap.size ∧ ∀ i (h : i < l.length), w.rangeAt b (off + i * 35) (thL l[i]) := by
          rcases HH.out with h0 | ⟨_, h0⟩ | h0
          · rw [h0] at hlt
            exact absurd hlt (by simp)
          · rw [h0] at hlt
            exact absurd hlt (by simp)
          · exact h0
        have hcell : w.cell? ⟨b, off + k * 35 + 2, none⟩ = some (.string l[k].s) := hc k hlt 2 _ rfl
        have hsz := HS.out (k + 1) (by omega)
        rw [sumS_take l k hlt] at hsz
        have HT := hideIt (sumS_take l k hlt)
        clear hc
        generalize l[k] = x at *
        go_wp2_with fail
        go_round
        case rel => exact ⟨k + 1, by omega, by omega, by go_num, by rw [HT.out]; go_num⟩
        case measure => simp [intOf]; omega
      · obtain rfl : k = 31 := by omega
        have e : bulkyB l = true := by simp [bulkyB]; omega
        have HE := hideIt e
        clear e
        go_wp2_with fail
        go_ret
        exact ⟨by rw [HE.out]; rfl, rfl⟩
    · obtain rfl : k = l.length := by omega
      have e : bulkyB l = (decide (30 < l.length) || decide (2000 < sumS (l.take l.length))) := by
        unfold bulkyB
        rw [List.take_of_length_le (show l.length ≤ 31 by omega), List.take_length]
      generalize sumS (l.take l.length) = S at *
      by_cases h30 : 30 < l.length
      · have e2 : decide (30 < l.length) = true := decide_eq_true h30
        rw [e2, Bool.true_or] at e
        have HE := hideIt e
        clear e e2
        go_wp2_with fail
        go_ret
        exact ⟨by rw [HE.out]; rfl, rfl⟩
      · have e2 : decide (30 < l.length) = false := decide_eq_false h30
        have e3 : decide (2000 < S) = decide ((2000 : Int) < (S : Int)) := decide_eq_decide.mpr (by omega)
        rw [e2, Bool.false_or, e3] at e
        have HE := hideIt e
        clear e e2 e3
        go_wp2_with fail
        go_ret
        have e4 : decide ((30 : Int) < (l.length : Int)) = false := decide_eq_false (by omega)
        refine ⟨?_, rfl⟩
        show Ending.returned (.bool (decide ((30 : Int) < (l.length : Int)) || decide ((2000 : Int) < (S : Int)))) = _
        rw [e4, HE.out, Bool.false_or]

end Go.Proofs.Yteihmonafdnicaa
