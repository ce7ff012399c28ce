/- Package hash: what stands behind a message (ending). -/
import Derived.Test.YtgnpdnkmhjocjaaDoorSf
import Derived.Laws.OwnMore
import Derived.Deep.OwnRows
namespace Go.Proofs.YtgnpdnkmhjocjaaDoor
open Go.RowKit Go.IntWalk
set_option linter.unusedSimpArgs false
set_option linter.unusedVariables false

def nou (n : Nat) : Nat := (119 - n % 64) % 64
theorem ending_len (n : Nat) : (Sha.ending n).length = 9 + nou n := by
  unfold Sha.ending nou
  simp [Sha.bytesOf]
  omega
theorem bytes8_get (x i : Nat) (hi : i < 8) : (Sha.bytesOf 8 x).getD (7 - i) 0 = UInt8.ofNat (x / 256 ^ i % 256) := by
  obtain rfl | rfl | rfl | rfl | rfl | rfl | rfl | rfl : i = 0 ∨ i = 1 ∨ i = 2 ∨ i = 3 ∨ i = 4 ∨ i = 5 ∨ i = 6 ∨ i = 7 := by omega
  all_goals simp [Sha.bytesOf, Nat.div_div_eq_div_mul]
theorem ending_get (n i : Nat) (hi : i < 8) : (Sha.ending n).getD (8 + nou n - i) 0 = UInt8.ofNat (n * 8 / 256 ^ i % 256) := by
  rw [← bytes8_get (n * 8) i hi]
  unfold Sha.ending
  rw [show (119 - n % 64) % 64 = nou n from rfl, show 8 + nou n - i = (nou n + (7 - i)) + 1 by omega]
  simp only [List.getD_cons_succ]
  simp [List.getD, List.getElem?_append_right]

/-- Its last bytes are laid. -/
def LaidB (n i : Nat) (ds : List UInt8) : Prop := ds.length = 9 + nou n ∧ ∀ t, t < 9 + nou n → ds.getD t 0 = if 9 + nou n - i ≤ t then (Sha.ending n).getD t 0 else if t = 0 then 128 else 0
theorem LaidB.step {n i : Nat} {ds : List UInt8} (h : LaidB n i ds) (hi : i < 8) (b : UInt8) (hb : b = (Sha.ending n).getD (8 + nou n - i) 0) : LaidB n (i + 1) (ds.set (8 + nou n - i) b) := by
  refine ⟨by rw [List.length_set]; exact h.1, fun t ht => ?_⟩
  have hl := h.1
  by_cases e : t = 8 + nou n - i
  · subst e
    have hlt : 8 + nou n - i < ds.length := by omega
    rw [if_pos (by omega), ← hb]
    simp [List.getD, List.getElem?_set, hlt]
  · have h2 := h.2 t ht
    have e1 : (ds.set (8 + nou n - i) b).getD t 0 = ds.getD t 0 := by simp [List.getD, List.getElem?_set, Ne.symm e]
    rw [e1, h2]
    by_cases hc : 9 + nou n - i ≤ t
    · have h3 : 9 + nou n - (i + 1) ≤ t := by omega
      rw [if_pos hc, if_pos h3]
    · have h3 : ¬ 9 + nou n - (i + 1) ≤ t := by omega
      rw [if_neg hc, if_neg h3]
theorem LaidB.all {n : Nat} {ds : List UInt8} (h : LaidB n 8 ds) : ds = Sha.ending n := by
  apply List.ext_getElem
  · rw [h.1, ending_len]
  · intro t g1 g2
    have h2 := h.2 t (by rw [← h.1]; exact g1)
    have e1 : ds.getD t 0 = ds[t] := by simp [List.getD, g1]
    have e2 : (Sha.ending n).getD t 0 = (Sha.ending n)[t] := by simp [List.getD, g2]
    rw [← e1, ← e2, h2]
    by_cases hc : 9 + nou n - 8 ≤ t
    · rw [if_pos hc]
    · rw [if_neg hc]
      unfold Sha.ending
      by_cases t0 : t = 0
      · subst t0
        rfl
      · obtain ⟨u, rfl⟩ : ∃ u, t = u + 1 := ⟨t - 1, by omega⟩
        have hu : u < nou n := by omega
        rw [if_neg t0, List.getD_cons_succ, show (119 - n % 64) % 64 = nou n from rfl]
        simp [List.getD, List.getElem?_append_left (show u < (List.replicate (nou n) (0 : UInt8)).length by simpa using hu), hu]

end Go.Proofs.YtgnpdnkmhjocjaaDoor
