/- KeysMeets, part 9 of the road: what the program's functions do, each by its own walk. -/
import Derived.Test.YtnjogpojikjflaaQ5
import Derived.Deep.Slices

/- Spans that came in: a slice of them. -/
namespace Go.Proofs.Ytnjogpojikjflaa
open Go.RowKit Go.IntWalk Go.Deep
set_option linter.unusedSimpArgs false
set_option linter.unusedVariables false
set_option maxRecDepth 100000

section
variable {H : Type} {enc : TypeId × Value → H} {w : World} {spare : Nat → Bool}

set_option maxRecDepth 100000 in
theorem span_of {n : Nat} {cs : List Value} {x : DataW H × List MemPlace} (h : DataW.trod enc Try.prog w 0 spare true n 43 cs = some x) : ∃ q : Sp, cs = spL q := by
  obtain ⟨xs, k, rfl, rfl, hlen, hxl, hf⟩ := DataW.trod_struct Try.underlying43 h
  have h2 : cs.length = 2 := hlen.trans (by kernel_rfl)
  match cs, h2 with
  | [v0, v1], _ =>
    have hl2 : xs.length = 2 := hxl
    have e0 : DataW.trod enc Try.prog w 0 spare true k 9 (List.take (Try.prog.cellsOf 9) (List.drop 0 [v0, v1])) = xs[0]? := hf 0 _ rfl
    have e1 : DataW.trod enc Try.prog w 0 spare true k 9 (List.take (Try.prog.cellsOf 9) (List.drop 1 [v0, v1])) = xs[1]? := hf 1 _ rfl
    rw [show Try.prog.cellsOf 9 = 1 by kernel_rfl] at e0 e1
    match xs, hl2 with
    | [y0, y1], _ =>
      obtain ⟨s0, r0, _, _⟩ := DataW.trod_string Try.underlying9 e0
      obtain ⟨s1, r1, _, _⟩ := DataW.trod_string Try.underlying9 e1
      simp at r0 r1
      subst r0 r1
      exact ⟨(s0, s1), rfl⟩

set_option maxRecDepth 100000 in
theorem open_sps {v : Value} {d : DataW H} {ps : List MemPlace} {a0 : Option Addr} {len0 cap0 : Nat} (hv : v = .slice a0 len0 cap0)
    (h : DataW.Trod enc Try.prog w 0 (fun _ => true) true 33 v d ps) : ∃ l : List Sp, len0 = l.length ∧ (l = [] ∨ SpsAt w a0 l) ∧ len0 ≤ cap0 ∧ len0 ≤ maxLen := by
  subst hv
  obtain ⟨fuel, h⟩ := h
  rcases open_slice Try.underlying33 h with ⟨h0, _⟩ | ⟨a, len, cap, m, n, D, Pl, hcs, hb, hl, hm, hmm, _, hx⟩
  · have e : a0 = none ∧ len0 = 0 ∧ cap0 = 0 := by simpa [Value.cells] using h0
    exact ⟨[], e.2.1, Or.inl rfl, by omega, by rw [e.2.1]; exact Nat.zero_le _⟩
  · have e : a0 = some a ∧ len0 = len ∧ cap0 = cap := by simpa [Value.cells] using hcs
    obtain ⟨rfl, rfl, rfl⟩ := e
    have hlm : len0 ≤ m := by rw [hmm]; split <;> omega
    have c2 : Try.prog.cellsOf 43 = 2 := by kernel_rfl
    have each : ∀ i, ∃ q : Sp, i < len0 → ∀ j u, (spL q)[j]? = some u → w.cell? ((a.add (i * 2)).add j) = some u := fun i => by
      by_cases hi : i < len0
      · obtain ⟨cs, h1, h2⟩ := hx i (by omega)
        obtain ⟨q, rfl⟩ := span_of h2
        rw [c2] at h1
        obtain ⟨_, hlen, hcell⟩ := World.cells?_some h1
        exact ⟨q, fun _ j u hu => by
          have hj : j < 2 := by have := (List.getElem?_eq_some_iff.1 hu).1; simpa [spL] using this
          rw [hcell j hj, hu]⟩
      · exact ⟨(⟨#[]⟩, ⟨#[]⟩), fun e => absurd e hi⟩
    refine ⟨(List.range len0).map fun i => (each i).choose, by simp, ?_, by omega, by omega⟩
    by_cases h0 : len0 = 0
    · exact Or.inl (by simp [h0])
    · right
      have hc0 := (each 0).choose_spec (by omega) 0 _ rfl
      have hspot : a.spot = none := by
        cases hs : a.spot with
        | none => rfl
        | some k =>
          exfalso
          have ea : (a.add (0 * 2)).add 0 = a := by simp [Addr.add]
          rw [ea] at hc0
          unfold World.cell? at hc0
          split at hc0
          · simp [hs] at hc0
          · cases hc0
      obtain ⟨b, off, sp⟩ := a
      simp only at hspot
      subst hspot
      refine Or.inr ⟨b, off, rfl, block_lt_of_cell hc0, fun i hi => ?_⟩
      simp only [List.length_map, List.length_range] at hi
      simp only [List.getElem_map, List.getElem_range]
      have key : ∀ q : Sp, (∀ j u, (spL q)[j]? = some u → w.cell? (((⟨b, off, none⟩ : Addr).add (i * 2)).add j) = some u) → w.cell? ⟨b, off + i * 2, none⟩ = some (.string q.1) ∧ w.cell? ⟨b, off + i * 2 + 1, none⟩ = some (.string q.2) := fun q hq => by
        have k0 := hq 0 _ rfl
        have k1 := hq 1 _ rfl
        rw [Addr.add_lit, Addr.add_lit] at k0 k1
        exact ⟨k0, k1⟩
      exact key _ ((each i).choose_spec hi)
end

end Go.Proofs.Ytnjogpojikjflaa
