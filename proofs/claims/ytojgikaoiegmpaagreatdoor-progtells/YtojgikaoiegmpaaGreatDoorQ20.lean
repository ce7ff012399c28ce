/- ProgTells, part 20 of the road: what the program's functions do, each by its own walk. -/
import Derived.Test.YtojgikaoiegmpaaGreatDoorQ6
import Derived.Test.YtojgikaoiegmpaaGreatDoorQ19
import Derived.Laws.CopyRow
import Derived.Lib.SlBuf
import Derived.Laws.OwnMore
import Derived.Deep.OwnRows

/- (Hash) Bytes that are lent, with three marks behind them; whether they were kept. -/
namespace Go.Proofs.YtojgikaoiegmpaaGreatDoor
open Go.RowKit Go.IntWalk
set_option linter.unusedSimpArgs false
set_option linter.unusedVariables false
set_option maxRecDepth 100000

def mark (j : Nat) : UInt8 := UInt8.ofNat (160 + j % 90)
def marks (n : Nat) : List UInt8 := [mark n, mark (n + 1), mark (n + 2)]

theorem marks_of (bs ds : List UInt8) (hd : ds.length = bs.length + 3) (h1 : ds.take bs.length = bs) (h2 : ∀ j (h : j < ds.length), bs.length ≤ j → ds[j] = mark j) : ds = bs ++ marks bs.length := by
  have e : ds = ds.take bs.length ++ ds.drop bs.length := (List.take_append_drop _ _).symm
  rw [e, h1]
  congr 1
  apply List.ext_getElem
  · simp [marks, hd]
  · intro i g1 g2
    rw [List.getElem_drop, h2 _ _ (by omega)]
    have hi : i < 3 := g2
    obtain rfl | rfl | rfl : i = 0 ∨ i = 1 ∨ i = 2 := by omega
    all_goals rfl

theorem Fr.setRow (w : World) (g : Nat) (cs : Array Value) : Fr (fun k => k = g) w (w.setRow g cs) :=
  ⟨rfl, rfl, rfl, by simp [World.setRow], fun k _ hne => setRow_other w g k cs hne⟩

/-- The bytes that came in go over into the row. -/
theorem copy_in (w : World) (g n : Nat) (ao : Option Addr) (cap : Nat) (bs : List UInt8) (h : w.heap[g]? = some (.cells (bv (List.replicate (bs.length + 3) 0)).toArray 5 (0, 0))) (hB : BtAt w ⟨ao, cap, bs⟩) :
    ∃ w', (Builtin.copy_ #[29, 29] 3 #[.slice (some ⟨g, 0, none⟩) (bs.length + 3) (bs.length + 3), .slice ao bs.length cap]).run Tryz.prog w = .ok (goInt bs.length) w' ∧
      w'.heap[g]? = some (.cells (bv (bs ++ List.replicate 3 0)).toArray 5 (0, 0)) ∧ Fr (fun k => k = g) w w' := by
  have hs1 : (Tryz.prog.info? 5).map (·.size) = some 1 := by kernel_rfl
  obtain ⟨h1, h2, h3, h4⟩ := hB
  cases hao : ao with
  | none =>
    have hbn : bs = [] := by
      apply Classical.byContradiction
      intro hn
      obtain ⟨b, off, e, _⟩ := h4 hn
      have e2 : ao = some ⟨b, off, none⟩ := e
      rw [hao] at e2
      cases e2
    subst hbn
    have hc0 : cap = 0 := h3 hao
    subst hc0
    exact ⟨w, run_copy_nil (P := Tryz.prog) w 29 29 3 5 _ _ _ Tryz.underlying29 (by rw [hs1]; rfl), h, Fr.refl _ _⟩
  | some a =>
    refine ⟨_, by
      have := run_copy_row (P := Tryz.prog) w 29 29 3 5 g 0 (bs.length + 3) (bs.length + 3) a bs.length cap _ 5 (bv bs) Tryz.underlying29 hs1 h (by rw [bv_length]; exact (Nat.min_eq_left (by omega)).symm) (fun j v hv => by
        have hj : j < bs.length := by rw [← bv_length bs]; exact (List.getElem?_eq_some_iff.1 hv).1
        rw [bv_get _ _ hj] at hv
        obtain rfl := Option.some.inj hv
        obtain ⟨b, off, e, hc⟩ := h4 (by intro e; rw [show bs = [] from e] at hj; simp at hj)
        have e2 : ao = some ⟨b, off, none⟩ := e
        rw [hao] at e2
        obtain rfl := Option.some.inj e2
        have e : (⟨b, off, none⟩ : Addr).add j = ⟨b, off + j, none⟩ := Addr.add_lit _ _ _
        rw [e]
        exact hc j hj) (by simp [bv]) (by simp [bv, Value.oneCell'])
      rw [bv_length] at this
      exact this, ?_, Fr.setRow _ _ _⟩
    rw [setRow_heap w g _ _ _ _ h]
    simp [bv, List.map_append]

/-- What was lent was kept. -/
def Lent (w : World) (g : Nat) (bs : List UInt8) : Prop := w.heap[g]? = some (.cells (bv (bs ++ marks bs.length)).toArray 5 (0, 0))
theorem Lent.fr {S : Nat → Prop} {w w' : World} {g : Nat} {bs : List UInt8} (h : Lent w g bs) (hF : Fr S w w') (hS : ¬ S g) : Lent w' g bs := (hF.block g (Array.getElem?_eq_some_iff.1 h).1 hS).trans h
theorem Lent.full {w : World} {g : Nat} {bs : List UInt8} (h : Lent w g bs) : BsAt w (some ⟨g, 0, none⟩) (bs ++ marks bs.length) :=
  Or.inr ⟨g, 0, rfl, fun j hj => by
    rw [Nat.zero_add]
    refine cellOfHeap h j ?_
    simp only [List.getElem?_toArray]
    rw [bv_get _ _ hj]⟩
theorem Lent.bs {w : World} {g : Nat} {bs : List UInt8} (h : Lent w g bs) : BsAt w (some ⟨g, 0, none⟩) bs :=
  Or.inr ⟨g, 0, rfl, fun j hj => by
    rw [Nat.zero_add]
    refine cellOfHeap h j ?_
    simp only [List.getElem?_toArray]
    rw [bv_get _ _ (by simp; omega), List.getElem_append_left hj]⟩

end Go.Proofs.YtojgikaoiegmpaaGreatDoor
