/- WordBounds: a number is taken just if its bounds have it. What goes ahead. -/
import Derived.Test.YtmhdinianpeelabO
import Derived.Test.YtmhdinianpeelabC
import Derived.BigQuiet
namespace Go.Proofs.Ytmhdinianpeelab
open Go.RowKit Go.IntWalk
set_option linter.unusedSimpArgs false
set_option linter.unusedVariables false

theorem ROk.fr0 {w w' : World} {p t : Nat} {ao : Option Addr} {cap : Nat} {bs : List UInt8} {s : Nat × Int × Int} (h : ROk w p t ao cap bs s) (hF : Fr (fun _ => False) w w') : ROk w' p t ao cap bs s := ⟨h.1.fr hF (fun e => e) (fun _ _ e => e), h.2⟩
theorem ROk.other {w w' : World} {p t t0 : Nat} {ao : Option Addr} {cap : Nat} {bs : List UInt8} {s : Nat × Int × Int} (h : ROk w p t ao cap bs s) (hF : Fr (fun k => k = t0) w w') (hp : p ≠ t0) (hs : ¬ wset t ao t0) : ROk w' p t ao cap bs s :=
  ⟨h.1.fr hF hp (fun k hk e => hs (by subst e; exact hk)), h.2⟩

theorem thsAt_two (x y : Th) (hx : x.id.length = 32) (w : World) : ThsAt (w.alloc (.cells (thL x ++ thL y).toArray 35)) (some ⟨w.heap.size, 0, none⟩) [x, y] := by
  refine Or.inr ⟨w.heap.size, 0, rfl, by simp, fun i hi j v hv => ?_⟩
  rw [World.cell?_alloc_at _ _ _ _ rfl]
  have hl := thL_len x hx
  have hi2 : i < 2 := hi
  match i, hi2, hi with
  | 0, _, hi =>
    have hj : j < (thL x).length := (List.getElem?_eq_some_iff.1 hv).1
    simp only [Nat.zero_mul, Nat.add_zero, Nat.zero_add, List.getElem?_toArray]
    rw [List.getElem?_append_left hj]
    exact hv
  | 1, _, hi =>
    simp only [Nat.one_mul, Nat.zero_add, List.getElem?_toArray]
    rw [List.getElem?_append_right (by omega), show 35 + j - (thL x).length = j by omega]
    exact hv

/-- The bytes of a text, and of a number behind it. -/
def bndB (a : ByteArray) (n : Nat) : List UInt8 := sevens a.size ++ (a.data.toList ++ sevens n)
def thS (a : ByteArray) : Th := ⟨1, 0, a, List.replicate 32 0⟩

theorem all_two (a : ByteArray) (n : Int) (ha : a.size ≤ 300) (hn : n ≤ 9223372036854775807) (w : World) :
    Calls Try.prog 8 #[.slice (some ⟨w.heap.size, 0, none⟩) 2 2] (w.alloc (.cells (thL (thS a) ++ thL (thN n)).toArray 35)) fun e w' => ∃ ao' cap', e = .returned (.tuple #[.slice ao' (if n < 0 then [] else bndB a n.toNat).length cap', .bool (!decide (n < 0))]) ∧ Row w' 5 ao' cap' (if n < 0 then [] else bndB a n.toNat) ∧ Fr (fun _ => False) w w' ∧ ∀ k, blk ao' k → w.heap.size ≤ k := by
  have h := all_any (some ⟨w.heap.size, 0, none⟩) 2 [thS a, thN n] _ (thsAt_two (thS a) (thN n) (by simp [thS]) w)
    (fun x hx => by
      rcases List.mem_cons.1 hx with rfl | hx
      · exact ⟨by simp [thS], by simp [thS], by show a.size ≤ _; omega⟩
      · obtain rfl := List.mem_singleton.1 hx
        exact thN_ok n hn) (by show 64 + a.size + (64 + 0 + 0) ≤ _; omega)
  have hsz : a.data.toList.length = a.size := by simp
  have e : wAll [thS a, thN n] = if n < 0 then (sevens a.size ++ a.data.toList, true) else (bndB a n.toNat, false) := by
    by_cases hn0 : n < 0
    · simp [wAll, wTh, thS, thN, wInt, wText, hn0, bndB, hsz]
    · simp [wAll, wTh, thS, thN, wInt, wText, hn0, bndB, hsz]
  rw [e] at h
  refine h.mono ?_
  rintro e w' ⟨ao', cap', rfl, hrow, hF, hnn⟩
  refine ⟨ao', cap', ?_, ?_, ((Fr.refl _ w).alloc _).trans hF (fun _ _ e => e), fun k hk => by have := hnn k hk; simp at this; omega⟩
  · by_cases hn0 : n < 0
    · simp [hn0]
    · simp [hn0]
  · by_cases hn0 : n < 0
    · simpa [hn0] using hrow
    · simpa [hn0] using hrow

theorem bnd_text (a : ByteArray) (n : Nat) (ha : a.size ≤ 300) : rText (bndB a n) 300 (0, 0, 0) = (a.data.toList, ((sevens a.size).length + a.size, 0, 0)) := by
  have hsz : a.data.toList.length = a.size := by simp
  have := rText_sevens [] a.data.toList (sevens n) 300 0 (by omega) (by omega)
  rw [hsz] at this
  simpa [bndB] using this
theorem bnd_split (a : ByteArray) (n : Nat) : bndB a n = (sevens a.size ++ a.data.toList) ++ (sevens n ++ []) := by simp [bndB]
theorem bnd_pre (a : ByteArray) : (sevens a.size ++ a.data.toList).length = (sevens a.size).length + a.size := by simp
theorem bnd_len (a : ByteArray) (n : Nat) : (bndB a n).length = (sevens a.size).length + a.size + (sevens n).length := by simp [bndB]; omega
theorem bnd_int (a : ByteArray) (n : Nat) (low high : Int) (hn : n ≤ 9223372036854775807) :
    rInt (bndB a n) low high ((sevens a.size).length + a.size, 0, 0) = if (n : Int) < low ∨ high < (n : Int) then (0, ((sevens a.size).length + a.size, 5, (((sevens a.size).length + a.size : Nat) : Int))) else ((n : Int), ((bndB a n).length, 0, 0)) := by
  have := rInt_sevens (sevens a.size ++ a.data.toList) [] n low high 0 hn
  rw [bnd_pre, ← bnd_split, ← bnd_len] at this
  exact this
theorem bnd_count (a : ByteArray) (n : Nat) (high : Int) (hn : n ≤ 9223372036854775807) :
    rCount (bndB a n) high ((sevens a.size).length + a.size, 0, 0) = if high < (n : Int) then (0, ((sevens a.size).length + a.size, 3, (((sevens a.size).length + a.size : Nat) : Int))) else ((n : Int), ((bndB a n).length, 0, 0)) := by
  have := rCount_sevens (sevens a.size ++ a.data.toList) [] n high 0 hn
  rw [bnd_pre, ← bnd_split, ← bnd_len] at this
  exact this

/-- Behind a fault nothing is told, nor moved. -/
theorem ask_shut (bs : List UInt8) (q : Int × Int × Int) (at_ : Nat) (er ea : Int) (h : er ≠ 0) : ∃ k, askS bs q (at_, er, ea) = (⟨k, 0, ⟨#[]⟩, zeros32⟩, (at_, er, ea)) := by
  unfold askS
  by_cases h0 : q.1 = 0
  · exact ⟨0, by simp [h0, rInt, h]⟩
  by_cases h1 : q.1 = 1
  · exact ⟨0, by simp [h0, h1, rCount, h]⟩
  by_cases h2 : q.1 = 2
  · exact ⟨1, by simp [h0, h1, h2, rText, h]⟩
  by_cases h3 : q.1 = 3
  · exact ⟨2, by simp [h0, h1, h2, h3, rID, h]⟩
  · exact ⟨3, by simp [h0, h1, h2, h3]⟩

end Go.Proofs.Ytmhdinianpeelab
