/- Asks that came in: where they lie. -/
import Derived.Test.YteihmonafdnicaaB3
import Derived.Deep.Slices
import Derived.Carry
namespace Go.Proofs.Yteihmonafdnicaa
open Go.RowKit Go.IntWalk Go.Deep
set_option linter.unusedSimpArgs false
set_option linter.unusedVariables false

/-- Asks, one behind the other, in memory. -/
def AsksAt (w : World) (ao : Option Addr) (l : List (Int × Int × Int)) : Prop :=
  l = [] ∨ ∃ b off, ao = some ⟨b, off, none⟩ ∧ b < w.heap.size ∧ ∀ i (h : i < l.length), w.rangeAt b (off + i * 3) [.int .i64 l[i].1, .int .i64 l[i].2.1, .int .i64 l[i].2.2]

theorem AsksAt.fr {w w' : World} {ao : Option Addr} {l : List (Int × Int × Int)} {S : Nat → Prop} (h : AsksAt w ao l) (hf : Fr S w w') (hS : ∀ k, k < w.heap.size → blk ao k → ¬ S k) : AsksAt w' ao l := by
  rcases h with h | ⟨b, off, rfl, hb, hc⟩
  · exact Or.inl h
  · refine Or.inr ⟨b, off, rfl, Nat.lt_of_lt_of_le hb hf.size, fun i hi j v hv => ?_⟩
    exact (World.cell?_of_block (a := ⟨b, off + i * 3 + j, none⟩) (hf.block b hb (hS b hb ⟨_, rfl, rfl⟩))).trans (hc i hi j v hv)

theorem asks_of {H : Type} {enc : TypeId × Value → H} {w : World} {spare : Nat → Bool} {n : Nat} {cs : List Value} {x : DataW H × List MemPlace}
    (h : DataW.trod enc Try.prog w 0 spare true n 52 cs = some x) : ∃ q : Int × Int × Int, cs = [.int .i64 q.1, .int .i64 q.2.1, .int .i64 q.2.2] := by
  obtain ⟨xs, k, rfl, rfl, hlen, hxl, hf⟩ := DataW.trod_struct Try.underlying52 h
  have h3 : cs.length = 3 := hlen.trans (by kernel_rfl)
  match cs, h3 with
  | [v0, v1, v2], _ =>
    have e0 : DataW.trod enc Try.prog w 0 spare true k 3 (List.take (Try.prog.cellsOf 3) (List.drop 0 [v0, v1, v2])) = xs[0]? := hf 0 _ rfl
    have e1 : DataW.trod enc Try.prog w 0 spare true k 3 (List.take (Try.prog.cellsOf 3) (List.drop 1 [v0, v1, v2])) = xs[1]? := hf 1 _ rfl
    have e2 : DataW.trod enc Try.prog w 0 spare true k 3 (List.take (Try.prog.cellsOf 3) (List.drop 2 [v0, v1, v2])) = xs[2]? := hf 2 _ rfl
    have c1 : Try.prog.cellsOf 3 = 1 := by kernel_rfl
    rw [c1] at e0 e1 e2
    have hl3 : xs.length = 3 := hxl
    match xs, hl3 with
    | [y0, y1, y2], _ =>
      obtain ⟨n0, r0, _⟩ := DataW.trod_int Try.underlying3 e0
      obtain ⟨n1, r1, _⟩ := DataW.trod_int Try.underlying3 e1
      obtain ⟨n2, r2, _⟩ := DataW.trod_int Try.underlying3 e2
      simp at r0 r1 r2
      subst r0 r1 r2
      exact ⟨(n0, n1, n2), rfl⟩

theorem open_asks {H : Type} {enc : TypeId × Value → H} {w : World} {v : Value} {d : DataW H} {ps : List MemPlace} {a0 : Option Addr} {len0 cap0 : Nat} (hv : v = .slice a0 len0 cap0)
    (h : DataW.Trod enc Try.prog w 0 (fun _ => true) true 45 v d ps) : ∃ l : List (Int × Int × Int), len0 = l.length ∧ AsksAt w a0 l ∧ len0 ≤ maxLen := by
  subst hv
  obtain ⟨fuel, h⟩ := h
  rcases open_slice Try.underlying45 h with ⟨h0, _⟩ | ⟨a, len, cap, m, n, D, Pl, hcs, hb, hl, hm, hmm, _, hx⟩
  · have e : a0 = none ∧ len0 = 0 ∧ cap0 = 0 := by simpa [Value.cells] using h0
    exact ⟨[], e.2.1, Or.inl rfl, by rw [e.2.1]; exact Nat.zero_le _⟩
  · have e : a0 = some a ∧ len0 = len ∧ cap0 = cap := by simpa [Value.cells] using hcs
    obtain ⟨rfl, rfl, rfl⟩ := e
    have hlm : len0 ≤ m := by rw [hmm]; split <;> omega
    have c3 : Try.prog.cellsOf 52 = 3 := by kernel_rfl
    have each : ∀ i, ∃ q : Int × Int × Int, i < len0 → ∀ j u, [Value.int .i64 q.1, Value.int .i64 q.2.1, Value.int .i64 q.2.2][j]? = some u → w.cell? ((a.add (i * 3)).add j) = some u := fun i => by
      by_cases hi : i < len0
      · obtain ⟨cs, h1, h2⟩ := hx i (by omega)
        obtain ⟨q, rfl⟩ := asks_of h2
        rw [c3] at h1
        obtain ⟨_, hlen, hcell⟩ := World.cells?_some h1
        exact ⟨q, fun _ j u hu => by
          have hj : j < 3 := (List.getElem?_eq_some_iff.1 hu).1
          rw [hcell j hj, hu]⟩
      · exact ⟨(0, 0, 0), fun e => absurd e hi⟩
    refine ⟨(List.range len0).map fun i => (each i).choose, by simp, ?_, by omega⟩
    by_cases h0 : len0 = 0
    · exact Or.inl (by simp [h0])
    · right
      have hc0 := (each 0).choose_spec (by omega) 0 _ rfl
      have hspot : a.spot = none := by
        cases hs : a.spot with
        | none => rfl
        | some k =>
          exfalso
          have ea : (a.add (0 * 3)).add 0 = a := by simp [Addr.add]
          rw [ea] at hc0
          unfold World.cell? at hc0
          split at hc0
          · simp [hs] at hc0
          · cases hc0
      obtain ⟨b, off, sp⟩ := a
      simp only at hspot
      subst hspot
      refine ⟨b, off, rfl, block_lt_of_cell hc0, fun i hi j u hu => ?_⟩
      simp only [List.length_map, List.length_range] at hi
      simp only [List.getElem_map, List.getElem_range] at hu
      have := (each i).choose_spec hi j u hu
      rw [Addr.add_lit, Addr.add_lit] at this
      exact this

end Go.Proofs.Yteihmonafdnicaa
