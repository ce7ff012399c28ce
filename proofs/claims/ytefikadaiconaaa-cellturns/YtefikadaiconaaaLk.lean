/- Pairs, writes that came in: slices of them. -/
import Derived.Test.YtefikadaiconaaaLh
import Derived.Deep.Slices
namespace Go.Proofs.Ytefikadaiconaaa
open Go.RowKit Go.IntWalk Go.Deep
set_option linter.unusedSimpArgs false
set_option linter.unusedVariables false

section
variable {H : Type} {enc : TypeId × Value → H} {w : World} {spare : Nat → Bool}

set_option maxRecDepth 100000 in
theorem pair_of {n : Nat} {cs : List Value} {x : DataW H × List MemPlace} (h : DataW.trod enc Try.prog w 0 spare true n 60 cs = some x) : ∃ q : Sp, cs = spL q := by
  obtain ⟨xs, k, rfl, rfl, hlen, hxl, hf⟩ := DataW.trod_struct Try.underlying60 h
  have h2 : cs.length = 2 := hlen.trans (by kernel_rfl)
  match cs, h2 with
  | [v0, v1], _ =>
    have hl2 : xs.length = 2 := hxl
    have e0 : DataW.trod enc Try.prog w 0 spare true k 9 (List.take (Try.prog.cellsOf 9) (List.drop 0 [v0, v1])) = xs[0]? := hf 0 _ rfl
    have e1 : DataW.trod enc Try.prog w 0 spare true k 9 (List.take (Try.prog.cellsOf 9) (List.drop 1 [v0, v1])) = xs[1]? := hf 1 _ rfl
    rw [show Try.prog.cellsOf 9 = 1 by kernel_rfl] at e0 e1
    match xs, hl2 with
    | [y0, y1], _ =>
      obtain ⟨s0, r0, _, _⟩ := DataW.trod_string Try.underlying9 e0
      obtain ⟨s1, r1, _, _⟩ := DataW.trod_string Try.underlying9 e1
      simp at r0 r1
      subst r0 r1
      exact ⟨(s0, s1), rfl⟩

set_option maxRecDepth 100000 in
theorem open_prs {v : Value} {d : DataW H} {ps : List MemPlace} {a0 : Option Addr} {len0 cap0 : Nat} (hv : v = .slice a0 len0 cap0)
    (h : DataW.Trod enc Try.prog w 0 (fun _ => true) true 22 v d ps) : ∃ l : List Sp, len0 = l.length ∧ (l = [] ∨ SpsAt w a0 l) ∧ len0 ≤ cap0 ∧ len0 ≤ maxLen := by
  subst hv
  obtain ⟨fuel, h⟩ := h
  rcases open_slice Try.underlying22 h with ⟨h0, _⟩ | ⟨a, len, cap, m, n, D, Pl, hcs, hb, hl, hm, hmm, _, hx⟩
  · have e : a0 = none ∧ len0 = 0 ∧ cap0 = 0 := by simpa [Value.cells] using h0
    exact ⟨[], e.2.1, Or.inl rfl, by omega, by rw [e.2.1]; exact Nat.zero_le _⟩
  · have e : a0 = some a ∧ len0 = len ∧ cap0 = cap := by simpa [Value.cells] using hcs
    obtain ⟨rfl, rfl, rfl⟩ := e
    have hlm : len0 ≤ m := by rw [hmm]; split <;> omega
    have c2 : Try.prog.cellsOf 60 = 2 := by kernel_rfl
    have each : ∀ i, ∃ q : Sp, i < len0 → ∀ j u, (spL q)[j]? = some u → w.cell? ((a.add (i * 2)).add j) = some u := fun i => by
      by_cases hi : i < len0
      · obtain ⟨cs, h1, h2⟩ := hx i (by omega)
        obtain ⟨q, rfl⟩ := pair_of h2
        rw [c2] at h1
        obtain ⟨_, hlen, hcell⟩ := World.cells?_some h1
        exact ⟨q, fun _ j u hu => by
          have hj : j < 2 := by have := (List.getElem?_eq_some_iff.1 hu).1; simpa [spL] using this
          rw [hcell j hj, hu]⟩
      · exact ⟨(⟨#[]⟩, ⟨#[]⟩), fun e => absurd e hi⟩
    refine ⟨(List.range len0).map fun i => (each i).choose, by simp, ?_, by omega, by omega⟩
    by_cases h0 : len0 = 0
    · exact Or.inl (by simp [h0])
    · right
      have hc0 := (each 0).choose_spec (by omega) 0 _ rfl
      have hspot : a.spot = none := by
        cases hs : a.spot with
        | none => rfl
        | some k =>
          exfalso
          have ea : (a.add (0 * 2)).add 0 = a := by simp [Addr.add]
          rw [ea] at hc0
          unfold World.cell? at hc0
          split at hc0
          · simp [hs] at hc0
          · cases hc0
      obtain ⟨b, off, sp⟩ := a
      simp only at hspot
      subst hspot
      refine Or.inr ⟨b, off, rfl, block_lt_of_cell hc0, fun i hi => ?_⟩
      simp only [List.length_map, List.length_range] at hi
      simp only [List.getElem_map, List.getElem_range]
      have key : ∀ q : Sp, (∀ j u, (spL q)[j]? = some u → w.cell? (((⟨b, off, none⟩ : Addr).add (i * 2)).add j) = some u) → w.cell? ⟨b, off + i * 2, none⟩ = some (.string q.1) ∧ w.cell? ⟨b, off + i * 2 + 1, none⟩ = some (.string q.2) := fun q hq => by
        have k0 := hq 0 _ rfl
        have k1 := hq 1 _ rfl
        rw [Addr.add_lit, Addr.add_lit] at k0 k1
        exact ⟨k0, k1⟩
      exact key _ ((each i).choose_spec hi)
/-- A write's cells. -/
def wrL (q : Wr) : List Value := [.string q.1, .string q.2.1, .bool q.2.2]
set_option maxRecDepth 100000 in
theorem wr_of {n : Nat} {cs : List Value} {x : DataW H × List MemPlace} (h : DataW.trod enc Try.prog w 0 spare true n 52 cs = some x) : ∃ q : Wr, cs = wrL q := by
  obtain ⟨xs, k, rfl, rfl, hlen, hxl, hf⟩ := DataW.trod_struct Try.underlying52 h
  have h3 : cs.length = 3 := hlen.trans (by kernel_rfl)
  match cs, h3 with
  | [v0, v1, v2], _ =>
    have hl3 : xs.length = 3 := hxl
    have e0 : DataW.trod enc Try.prog w 0 spare true k 9 (List.take (Try.prog.cellsOf 9) (List.drop 0 [v0, v1, v2])) = xs[0]? := hf 0 _ rfl
    have e1 : DataW.trod enc Try.prog w 0 spare true k 9 (List.take (Try.prog.cellsOf 9) (List.drop 1 [v0, v1, v2])) = xs[1]? := hf 1 _ rfl
    have e2 : DataW.trod enc Try.prog w 0 spare true k 4 (List.take (Try.prog.cellsOf 4) (List.drop 2 [v0, v1, v2])) = xs[2]? := hf 2 _ rfl
    rw [show Try.prog.cellsOf 9 = 1 by kernel_rfl] at e0 e1
    rw [show Try.prog.cellsOf 4 = 1 by kernel_rfl] at e2
    match xs, hl3 with
    | [y0, y1, y2], _ =>
      obtain ⟨s0, r0, _, _⟩ := DataW.trod_string Try.underlying9 e0
      obtain ⟨s1, r1, _, _⟩ := DataW.trod_string Try.underlying9 e1
      obtain ⟨s2, r2, _⟩ := DataW.trod_bool Try.underlying4 e2
      simp at r0 r1 r2
      subst r0 r1 r2
      exact ⟨(s0, s1, s2), rfl⟩

set_option maxRecDepth 100000 in
theorem open_ws {v : Value} {d : DataW H} {ps : List MemPlace} {a0 : Option Addr} {len0 cap0 : Nat} (hv : v = .slice a0 len0 cap0)
    (h : DataW.Trod enc Try.prog w 0 (fun _ => true) true 39 v d ps) : ∃ l : List Wr, len0 = l.length ∧ (l = [] ∨ WsAt w a0 l) ∧ len0 ≤ cap0 ∧ len0 ≤ maxLen := by
  subst hv
  obtain ⟨fuel, h⟩ := h
  rcases open_slice Try.underlying39 h with ⟨h0, _⟩ | ⟨a, len, cap, m, n, D, Pl, hcs, hb, hl, hm, hmm, _, hx⟩
  · have e : a0 = none ∧ len0 = 0 ∧ cap0 = 0 := by simpa [Value.cells] using h0
    exact ⟨[], e.2.1, Or.inl rfl, by omega, by rw [e.2.1]; exact Nat.zero_le _⟩
  · have e : a0 = some a ∧ len0 = len ∧ cap0 = cap := by simpa [Value.cells] using hcs
    obtain ⟨rfl, rfl, rfl⟩ := e
    have hlm : len0 ≤ m := by rw [hmm]; split <;> omega
    have c3 : Try.prog.cellsOf 52 = 3 := by kernel_rfl
    have each : ∀ i, ∃ q : Wr, i < len0 → ∀ j u, (wrL q)[j]? = some u → w.cell? ((a.add (i * 3)).add j) = some u := fun i => by
      by_cases hi : i < len0
      · obtain ⟨cs, h1, h2⟩ := hx i (by omega)
        obtain ⟨q, rfl⟩ := wr_of h2
        rw [c3] at h1
        obtain ⟨_, hlen, hcell⟩ := World.cells?_some h1
        exact ⟨q, fun _ j u hu => by
          have hj : j < 3 := by have := (List.getElem?_eq_some_iff.1 hu).1; simpa [wrL] using this
          rw [hcell j hj, hu]⟩
      · exact ⟨wr0, fun e => absurd e hi⟩
    refine ⟨(List.range len0).map fun i => (each i).choose, by simp, ?_, by omega, by omega⟩
    by_cases h0 : len0 = 0
    · exact Or.inl (by simp [h0])
    · right
      have hc0 := (each 0).choose_spec (by omega) 0 _ rfl
      have hspot : a.spot = none := by
        cases hs : a.spot with
        | none => rfl
        | some k =>
          exfalso
          have ea : (a.add (0 * 3)).add 0 = a := by simp [Addr.add]
          rw [ea] at hc0
          unfold World.cell? at hc0
          split at hc0
          · simp [hs] at hc0
          · cases hc0
      obtain ⟨b, off, sp⟩ := a
      simp only at hspot
      subst hspot
      refine Or.inr ⟨b, off, rfl, block_lt_of_cell hc0, fun i hi => ?_⟩
      simp only [List.length_map, List.length_range] at hi
      simp only [List.getElem_map, List.getElem_range]
      have key : ∀ q : Wr, (∀ j u, (wrL q)[j]? = some u → w.cell? (((⟨b, off, none⟩ : Addr).add (i * 3)).add j) = some u) → w.cell? ⟨b, off + i * 3, none⟩ = some (.string q.1) ∧ w.cell? ⟨b, off + i * 3 + 1, none⟩ = some (.string q.2.1) ∧ w.cell? ⟨b, off + i * 3 + 2, none⟩ = some (.bool q.2.2) := fun q hq => by
        have k0 := hq 0 _ rfl
        have k1 := hq 1 _ rfl
        have k2 := hq 2 _ rfl
        rw [Addr.add_lit, Addr.add_lit] at k0 k1 k2
        exact ⟨k0, k1, k2⟩
      exact key _ ((each i).choose_spec hi)
end

end Go.Proofs.Ytefikadaiconaaa
