/- Package hash: what a running digest has, on paper. -/
import Derived.Test.YtgnpdnkmhjocjaaDoorSe
namespace Go.Proofs.YtgnpdnkmhjocjaaDoor
set_option linter.unusedSimpArgs false
set_option linter.unusedVariables false

open Sha (blkW)
theorem blocks_blkW (n : Nat) (l : List UInt8) (s : Sha.St) : Sha.blocks n l s = blkW Sha.block n l s := rfl
theorem blkW_append (f : Sha.St → List UInt8 → Sha.St) (n : Nat) : ∀ (m c : List UInt8) (s : Sha.St), 64 * n ≤ m.length → blkW f n (m ++ c) s = blkW f n m s := by
  induction n with
  | zero => intro m c s _; rfl
  | succ n ih =>
    intro m c s h
    rw [blkW, blkW, List.take_append_of_le_length (by omega), List.drop_append_of_le_length (by omega), ih _ _ _ (by rw [List.length_drop]; omega)]
theorem blkW_succ (f : Sha.St → List UInt8 → Sha.St) (n : Nat) : ∀ (l : List UInt8) (s : Sha.St), blkW f (n + 1) l s = f (blkW f n l s) ((l.drop (64 * n)).take 64) := by
  induction n with
  | zero => intro l s; rfl
  | succ n ih =>
    intro l s
    rw [blkW, ih, blkW, List.drop_drop, show 64 + 64 * n = 64 * (n + 1) by omega]
theorem blkW_all (f : Sha.St → List UInt8 → Sha.St) (P : Sha.St → Prop) (hf : ∀ s b, P (f s b)) (n : Nat) : ∀ (l : List UInt8) (s : Sha.St), P s → P (blkW f n l s) := by
  induction n with
  | zero => intro l s h; exact h
  | succ n ih => intro l s h; rw [blkW]; exact ih _ _ (hf _ _)

/-- A state and a block are those of a digest that has the bytes m. -/
structure Has (m : List UInt8) (s : Sha.St) (blk : List UInt8) : Prop where
  len : blk.length = 64
  st : s = blkW Sha.block (m.length / 64) m Sha.first
  tail : blk.take (m.length % 64) = m.drop (64 * (m.length / 64))
theorem Has.new : Has [] Sha.first zeros64 := ⟨by decide, rfl, rfl⟩
theorem Has.st32 {m : List UInt8} {s : Sha.St} {blk : List UInt8} (h : Has m s blk) : St32 s := by
  rw [h.st]
  exact blkW_all _ St32 (fun s b => St32.block s b) _ _ _ St32.first

/-- A block with bytes laid into it. -/
def over (blk : List UInt8) (r : Nat) (c : List UInt8) : List UInt8 := blk.take r ++ c ++ blk.drop (r + c.length)
theorem over_len (blk : List UInt8) (r : Nat) (c : List UInt8) (hl : blk.length = 64) (h : r + c.length ≤ 64) : (over blk r c).length = 64 := by
  unfold over
  simp
  omega
theorem over_take (blk : List UInt8) (r : Nat) (c : List UInt8) (hl : blk.length = 64) (h : r + c.length ≤ 64) : (over blk r c).take (r + c.length) = blk.take r ++ c := by
  unfold over
  rw [List.take_append_of_le_length (by simp; omega), List.take_of_length_le (by simp; omega)]
theorem Has.put {m : List UInt8} {s : Sha.St} {blk : List UInt8} (h : Has m s blk) (c : List UInt8) (hc : m.length % 64 + c.length < 64) : Has (m ++ c) s (over blk (m.length % 64) c) := by
  have hq : (m ++ c).length / 64 = m.length / 64 := by rw [List.length_append]; omega
  have hr : (m ++ c).length % 64 = m.length % 64 + c.length := by rw [List.length_append]; omega
  refine ⟨over_len _ _ _ h.len (by omega), ?_, ?_⟩
  · rw [hq, blkW_append _ _ _ _ _ (by omega)]
    exact h.st
  · rw [hq, hr, over_take _ _ _ h.len (by omega), h.tail, List.drop_append_of_le_length (by omega)]
theorem Has.full {m : List UInt8} {s : Sha.St} {blk : List UInt8} (h : Has m s blk) (c : List UInt8) (hc : m.length % 64 + c.length = 64) : Has (m ++ c) (Sha.block s (over blk (m.length % 64) c)) (over blk (m.length % 64) c) := by
  have hq : (m ++ c).length / 64 = m.length / 64 + 1 := by rw [List.length_append]; omega
  have hr : (m ++ c).length % 64 = 0 := by rw [List.length_append]; omega
  have ho : over blk (m.length % 64) c = m.drop (64 * (m.length / 64)) ++ c := by
    have h1 := over_take blk (m.length % 64) c h.len (by omega)
    rw [hc, List.take_of_length_le (by rw [over_len _ _ _ h.len (by omega)]; exact Nat.le_refl _), h.tail] at h1
    exact h1
  have hl := over_len blk (m.length % 64) c h.len (by omega)
  refine ⟨hl, ?_, ?_⟩
  · rw [hq, blkW_succ, blkW_append _ _ _ _ _ (by omega), ← h.st, List.drop_append_of_le_length (by omega), ← ho, List.take_of_length_le (by omega)]
  · rw [hq, hr, List.take_zero, List.drop_of_length_le (by rw [List.length_append]; omega)]

/-- The ID of what a digest has, with what ends it. -/
theorem Has.sum {m : List UInt8} {s : Sha.St} {blk : List UInt8} (h : Has (m ++ Sha.ending m.length) s blk) : Sha.name s = Sha.sum m := by
  unfold Sha.sum Sha.message
  rw [blocks_blkW, h.st]

end Go.Proofs.YtgnpdnkmhjocjaaDoor
