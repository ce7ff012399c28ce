/- Keys that came in: a slice of texts. -/
import Derived.Test.YtcejebelellemaaKb
import Derived.Deep.Slices
namespace Go.Proofs.Ytcejebelellemaa
open Go.RowKit Go.IntWalk Go.Deep
set_option linter.unusedSimpArgs false
set_option linter.unusedVariables false

section
variable {H : Type} {enc : TypeId × Value → H} {w : World} {spare : Nat → Bool}

theorem text_of {n : Nat} {cs : List Value} {x : DataW H × List MemPlace} (h : DataW.trod enc Try.prog w 0 spare true n 9 cs = some x) : ∃ q : ByteArray, cs = [.string q] := by
  obtain ⟨s, hs, _, _⟩ := DataW.trod_string Try.underlying9 h
  exact ⟨s, hs⟩

theorem open_ks {v : Value} {d : DataW H} {ps : List MemPlace} {a0 : Option Addr} {len0 cap0 : Nat} (hv : v = .slice a0 len0 cap0)
    (h : DataW.Trod enc Try.prog w 0 (fun _ => true) true 22 v d ps) : ∃ l : List ByteArray, len0 = l.length ∧ (l = [] ∨ KsAt w a0 l) ∧ len0 ≤ cap0 ∧ len0 ≤ maxLen := by
  subst hv
  obtain ⟨fuel, h⟩ := h
  rcases open_slice Try.underlying22 h with ⟨h0, _⟩ | ⟨a, len, cap, m, n, D, Pl, hcs, hb, hl, hm, hmm, _, hx⟩
  · have e : a0 = none ∧ len0 = 0 ∧ cap0 = 0 := by simpa [Value.cells] using h0
    exact ⟨[], e.2.1, Or.inl rfl, by omega, by rw [e.2.1]; exact Nat.zero_le _⟩
  · have e : a0 = some a ∧ len0 = len ∧ cap0 = cap := by simpa [Value.cells] using hcs
    obtain ⟨rfl, rfl, rfl⟩ := e
    have hlm : len0 ≤ m := by rw [hmm]; split <;> omega
    have c2 : Try.prog.cellsOf 9 = 1 := by kernel_rfl
    have each : ∀ i, ∃ q : ByteArray, i < len0 → w.cell? (a.add i) = some (.string q) := fun i => by
      by_cases hi : i < len0
      · obtain ⟨cs, h1, h2⟩ := hx i (by omega)
        obtain ⟨q, rfl⟩ := text_of h2
        rw [c2] at h1
        obtain ⟨_, hlen, hcell⟩ := World.cells?_some h1
        exact ⟨q, fun _ => by
          have := hcell 0 (by omega)
          simpa [Addr.add] using this⟩
      · exact ⟨⟨#[]⟩, fun e => absurd e hi⟩
    refine ⟨(List.range len0).map fun i => (each i).choose, by simp, ?_, by omega, by omega⟩
    by_cases h0 : len0 = 0
    · exact Or.inl (by simp [h0])
    · right
      obtain ⟨q0, hq0⟩ : ∃ q : ByteArray, w.cell? (a.add 0) = some (.string q) := ⟨_, (each 0).choose_spec (by omega)⟩
      have hc0 := hq0
      have hspot : a.spot = none := by
        cases hs : a.spot with
        | none => rfl
        | some k =>
          exfalso
          have ea : a.add 0 = a := by simp [Addr.add]
          rw [ea] at hc0
          unfold World.cell? at hc0
          split at hc0
          · simp [hs] at hc0
          · cases hc0
      obtain ⟨b, off, sp⟩ := a
      simp only at hspot
      subst hspot
      refine Or.inr ⟨b, off, rfl, block_lt_of_cell hc0, fun i hi => ?_⟩
      simp only [List.length_map, List.length_range] at hi
      simp only [List.getElem_map, List.getElem_range]
      have key : ∀ q : ByteArray, w.cell? ((⟨b, off, none⟩ : Addr).add i) = some (.string q) → w.cell? ⟨b, off + i, none⟩ = some (.string q) := fun q hq => by
        rw [Addr.add_lit] at hq
        exact hq
      exact key _ ((each i).choose_spec hi)
end

end Go.Proofs.Ytcejebelellemaa
