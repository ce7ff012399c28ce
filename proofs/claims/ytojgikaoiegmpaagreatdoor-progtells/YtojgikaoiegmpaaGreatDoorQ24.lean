/- ProgTells, part 24 of the road: what the program's functions do, each by its own walk. -/
import Derived.Test.YtojgikaoiegmpaaGreatDoorQ6
import Derived.Test.YtojgikaoiegmpaaGreatDoorQ23
import Derived.Deep.Slices

/- Transactions that came in: slices of instructions. -/
namespace Go.Proofs.YtojgikaoiegmpaaGreatDoor
open Go.ChangeShapes Go.WideShapes Go.ChangeAt Go.RowKit Go.Deep
set_option linter.unusedSimpArgs false
set_option linter.unusedVariables false
set_option maxRecDepth 100000

section
variable {H : Type} {enc : TypeId × Value → H} {w : World} {spare : Nat → Bool}

theorem list6 {cs : List Value} (h : cs.length = 6) : ∃ c0 c1 c2 c3 c4 c5, cs = [c0, c1, c2, c3, c4, c5] := by
  match cs, h with
  | [c0, c1, c2, c3, c4, c5], _ => exact ⟨c0, c1, c2, c3, c4, c5, rfl⟩

set_option maxRecDepth 100000 in
theorem open_insr {v : Value} {d : DataW H} {ps : List MemPlace} {a0 : Option Addr} {len0 cap0 : Nat} (hv : v = .slice a0 len0 cap0)
    (h : DataW.Trod enc Tryz.prog w 0 (fun _ => true) true 22 v d ps) : ∃ l : List Ins, len0 = l.length ∧ InsRow w a0 l ∧ len0 ≤ cap0 ∧ (a0 = none → cap0 = 0) ∧ len0 ≤ maxLen := by
  subst hv
  obtain ⟨fuel, h⟩ := h
  rcases open_slice Tryz.underlying22 h with ⟨h0, _⟩ | ⟨a, len, cap, m, n, D, Pl, hcs, hb, hl, hm, hmm, _, hx⟩
  · have e : a0 = none ∧ len0 = 0 ∧ cap0 = 0 := by simpa [Value.cells] using h0
    exact ⟨[], e.2.1, Or.inl rfl, by omega, fun _ => e.2.2, by rw [e.2.1]; exact Nat.zero_le _⟩
  · have e : a0 = some a ∧ len0 = len ∧ cap0 = cap := by simpa [Value.cells] using hcs
    obtain ⟨rfl, rfl, rfl⟩ := e
    have hlm : len0 ≤ m := by rw [hmm]; split <;> omega
    have c6 : Tryz.prog.cellsOf 40 = 6 := by kernel_rfl
    have each : ∀ i, ∃ q : Ins, i < len0 → ∀ j u, (icells q).toList[j]? = some u → w.cell? ((a.add (i * 6)).add j) = some u := fun i => by
      by_cases hi : i < len0
      · obtain ⟨cs, h1, h2⟩ := hx i (by omega)
        rw [c6] at h1
        obtain ⟨_, hlen, hcell⟩ := World.cells?_some h1
        obtain ⟨c0, c1, c2, c3, c4, c5, rfl⟩ := list6 hlen
        obtain ⟨q, hq⟩ := ins_of h2
        exact ⟨q, fun _ j u hu => by
          have hj : j < 6 := by have := (List.getElem?_eq_some_iff.1 hu).1; simpa [icells] using this
          rw [hcell j hj, ← hu, ← hq]⟩
      · exact ⟨⟨0, 0, 0, 0, 0, ⟨#[]⟩⟩, fun e => absurd e hi⟩
    refine ⟨(List.range len0).map fun i => (each i).choose, by simp, ?_, by omega, fun e => (by cases e), by omega⟩
    by_cases h0 : len0 = 0
    · exact Or.inl (by simp [h0])
    · right
      have hc0 := (each 0).choose_spec (by omega) 0 _ rfl
      have hspot : a.spot = none := by
        cases hs : a.spot with
        | none => rfl
        | some k =>
          exfalso
          have ea : (a.add (0 * 6)).add 0 = a := by simp [Addr.add]
          rw [ea] at hc0
          unfold World.cell? at hc0
          split at hc0
          · simp [hs] at hc0
          · cases hc0
      obtain ⟨b, off, sp⟩ := a
      simp only at hspot
      subst hspot
      refine ⟨b, off, rfl, block_lt_of_cell hc0, fun i hi => ?_⟩
      simp only [List.length_map, List.length_range] at hi
      simp only [List.getElem_map, List.getElem_range]
      have key : ∀ q : Ins, (∀ j u, (icells q).toList[j]? = some u → w.cell? (((⟨b, off, none⟩ : Addr).add (i * 6)).add j) = some u) → w.rangeAt b (off + i * 6) (icells q).toList := fun q hq j u hu => by
        have k0 := hq j u hu
        rw [Addr.add_lit, Addr.add_lit] at k0
        exact k0
      exact key _ ((each i).choose_spec hi)
end

end Go.Proofs.YtojgikaoiegmpaaGreatDoor
