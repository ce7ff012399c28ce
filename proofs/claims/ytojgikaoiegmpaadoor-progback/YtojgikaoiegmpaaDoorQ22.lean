/- ProgBack, part 22 of the road: what the program's functions do, each by its own walk. -/
import Derived.Test.YtojgikaoiegmpaaDoorQ5
import Derived.ProofKit
import Derived.OpenShut
import Derived.Carry
import Derived.Deep.Strs

/- Bytes that came in: where they lie. -/
namespace Go.Proofs.YtojgikaoiegmpaaDoor
open Go.RowKit Go.IntWalk Go.Deep
set_option linter.unusedSimpArgs false
set_option linter.unusedVariables false
set_option maxRecDepth 100000

theorem okWide_spot {P : Program} {w : World} {r : Reach} {base : Nat} {t e : TypeId} {a : Addr} {len cap : Nat} (ht : P.underlying t = some (.slice e)) (h : Value.okWide P w r base t (.slice (some a) len cap)) : a.spot = none := by
  simp only [Value.okWide, ht, Cell.okWide] at h
  simp only [Cell.ok, ht, World.has] at h
  exact h.2.2.2.1

theorem okWide_lt {P : Program} {w : World} {r : Reach} {base : Nat} {t e : TypeId} {ao : Option Addr} {len cap : Nat} (ht : P.underlying t = some (.slice e)) (h : Value.okWide P w r base t (.slice ao len cap)) : ∀ k, blk ao k → k < w.heap.size := by
  rintro k ⟨a, rfl, rfl⟩
  simp only [Value.okWide, ht, Cell.okWide] at h
  simp only [Cell.ok, ht, World.has] at h
  obtain ⟨_, _, _, _, row, cells, hs, _⟩ := h
  unfold World.shape? at hs
  cases hb : w.heap[a.block]? with
  | none => rw [hb] at hs; simp at hs
  | some o => exact (Array.getElem?_eq_some_iff.1 hb).1

theorem open_bytes {H : Type} {enc : TypeId × Value → H} {w : World} {v : Value} {d : DataW H} {ps : List MemPlace} {a0 : Option Addr} {len0 cap0 : Nat} (hv : v = .slice a0 len0 cap0) (hsp : ∀ a, a0 = some a → a.spot = none)
    (h : DataW.Trod enc Tryd.prog w 0 (fun _ => true) true 23 v d ps) : ∃ bs : List UInt8, len0 = bs.length ∧ BsAt w a0 bs ∧ len0 ≤ cap0 ∧ cap0 ≤ maxLen ∧ (a0 = none → cap0 = 0) := by
  subst hv
  obtain ⟨fuel, h⟩ := h
  rcases open_slice1 Tryd.underlying23 (by kernel_rfl) h with ⟨h0, _⟩ | ⟨a, len, cap, m, n, V, D, Pl, hcs, hb, hl, hm, hmm, _, hx⟩
  · have e : a0 = none ∧ len0 = 0 ∧ cap0 = 0 := by simpa [Value.cells] using h0
    obtain ⟨rfl, rfl, rfl⟩ := e
    exact ⟨[], rfl, Or.inl ⟨rfl, rfl⟩, Nat.le_refl _, Nat.zero_le _, fun _ => rfl⟩
  · have e : a0 = some a ∧ len0 = len ∧ cap0 = cap := by simpa [Value.cells] using hcs
    obtain ⟨rfl, rfl, rfl⟩ := e
    have hlm : len0 ≤ m := by rw [hmm]; split <;> omega
    have each : ∀ i, ∃ b : UInt8, i < len0 → w.cell? (a.add i) = some (.int .u8 b.toNat) := fun i => by
      by_cases hi : i < len0
      · obtain ⟨h1, h2⟩ := hx i (by omega)
        obtain ⟨k, r, _, wf⟩ := DataW.trod_int Tryd.underlying5 h2
        have hb := bounds_u8 wf
        obtain ⟨k', rfl⟩ := Int.eq_ofNat_of_zero_le hb.1
        have e : V i = .int .u8 (k' : Int) := by simpa using r
        refine ⟨UInt8.ofNat k', fun _ => ?_⟩
        rw [h1, e]
        have em : ((UInt8.ofNat k').toNat : Int) = (k' : Int) := by simp; omega
        rw [em]
      · exact ⟨0, fun e => absurd e hi⟩
    refine ⟨(List.range len0).map fun i => (each i).choose, by simp, ?_, hl, hm, fun e => by cases e⟩
    by_cases h0 : len0 = 0
    · subst h0
      have hs := hsp a rfl
      obtain ⟨b, off, sp⟩ := a
      simp only at hs
      subst hs
      exact Or.inr ⟨b, off, rfl, fun j hj => by simp at hj⟩
    · have hspot := hsp a rfl
      obtain ⟨b, off, sp⟩ := a
      simp only at hspot
      subst hspot
      refine Or.inr ⟨b, off, rfl, fun j hj => ?_⟩
      simp only [List.length_map, List.length_range] at hj
      simp only [List.getElem_map, List.getElem_range]
      have h1 := (each j).choose_spec hj
      have e : (⟨b, off, none⟩ : Addr).add j = ⟨b, off + j, none⟩ := Addr.add_lit _ _ _
      exact (congrArg w.cell? e).symm.trans h1

end Go.Proofs.YtojgikaoiegmpaaDoor
