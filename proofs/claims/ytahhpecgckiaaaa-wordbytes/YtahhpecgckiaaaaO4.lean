/- Things that came in: where they lie, and that each text is within the form's own reach. -/
import Derived.Test.YtahhpecgckiaaaaO2
import Derived.SizedLaws
namespace Go.Proofs.Ytahhpecgckiaaaa
open Go.RowKit Go.IntWalk Go.Deep
set_option linter.unusedSimpArgs false
set_option linter.unusedVariables false

theorem weightsAll_mem {H : Type} {P : Program} {e : TypeId} {d : DataW H} {n : Nat} (hn : n ∈ d.weights P e) : ∀ {l : List (DataW H)}, d ∈ l → n ∈ DataW.weightsAll P e l
  | [], h => by cases h
  | d0 :: l, h => by
    simp only [DataW.weightsAll, List.mem_append]
    rcases List.mem_cons.1 h with rfl | h
    · exact Or.inl hn
    · exact Or.inr (weightsAll_mem hn h)

section
variable {H : Type} {enc : TypeId × Value → H} {w : World} {spare : Nat → Bool}
theorem thing_w {n : Nat} {cs : List Value} {x : DataW H × List MemPlace} (h : DataW.trod enc Try.prog w 0 spare true n 35 cs = some x) : ∃ q : Th, cs = thL q ∧ ThOk q ∧ q.s.size ∈ x.1.weights Try.prog 35 := by
  obtain ⟨xs, k, rfl, rfl, hlen, hxl, hf⟩ := DataW.trod_struct Try.underlying35 h
  have h35 : cs.length = 35 := hlen.trans (by kernel_rfl)
  match cs, h35 with
  | v0 :: v1 :: v2 :: vs, h35 =>
    have hvs : vs.length = 32 := by simpa using h35
    have hl4 : xs.length = 4 := hxl
    have e0 : DataW.trod enc Try.prog w 0 spare true k 3 (List.take (Try.prog.cellsOf 3) (List.drop 0 (v0 :: v1 :: v2 :: vs))) = xs[0]? := hf 0 _ rfl
    have e1 : DataW.trod enc Try.prog w 0 spare true k 3 (List.take (Try.prog.cellsOf 3) (List.drop 1 (v0 :: v1 :: v2 :: vs))) = xs[1]? := hf 1 _ rfl
    have e2 : DataW.trod enc Try.prog w 0 spare true k 9 (List.take (Try.prog.cellsOf 9) (List.drop 2 (v0 :: v1 :: v2 :: vs))) = xs[2]? := hf 2 _ rfl
    have e3 : DataW.trod enc Try.prog w 0 spare true k 33 (List.take (Try.prog.cellsOf 33) (List.drop 3 (v0 :: v1 :: v2 :: vs))) = xs[3]? := hf 3 _ rfl
    rw [show Try.prog.cellsOf 3 = 1 by kernel_rfl] at e0 e1
    rw [show Try.prog.cellsOf 9 = 1 by kernel_rfl] at e2
    rw [show Try.prog.cellsOf 33 = 32 by kernel_rfl] at e3
    match xs, hl4 with
    | [y0, y1, y2, y3], _ =>
      obtain ⟨n0, r0, _, _⟩ := DataW.trod_int Try.underlying3 e0
      obtain ⟨n1, r1, _, f1⟩ := DataW.trod_int Try.underlying3 e1
      obtain ⟨s, r2, g2, f2⟩ := DataW.trod_string Try.underlying9 e2
      obtain ⟨bs, r3, f3⟩ := id_of e3
      simp at r0 r1 r2
      rw [show List.drop 3 (v0 :: v1 :: v2 :: vs) = vs from rfl, List.take_of_length_le (by omega)] at r3
      subst r0 r1 r2 r3
      have hb := bounds_i64 f1
      have hw : s.size ∈ (y2.1).weights Try.prog 9 := by
        rw [g2]
        simp [DataW.weights]
      refine ⟨⟨n0, n1, s, bs⟩, rfl, ⟨f3, hb.2, by show s.size ≤ _; unfold maxLen at f2; omega⟩, ?_⟩
      have e : DataW.weights Try.prog 35 (.agg [y0.1, y1.1, y2.1, y3.1]) = DataW.weightsEach Try.prog [3, 3, 9, 33] [y0.1, y1.1, y2.1, y3.1] := by
        rw [DataW.weights, Try.underlying35]
        rfl
      show s.size ∈ DataW.weights Try.prog 35 (.agg [y0.1, y1.1, y2.1, y3.1])
      rw [e]
      exact DataW.weights_mem_each (j := 2) rfl rfl _ hw

theorem open_things_w {v : Value} {d : DataW H} {ps : List MemPlace} {a0 : Option Addr} {len0 cap0 : Nat} (hv : v = .slice a0 len0 cap0)
    (h : DataW.Trod enc Try.prog w 0 (fun _ => true) true 22 v d ps) (hw : ∀ n ∈ d.weights Try.prog 22, n ≤ reachBytes) : ∃ l : List Th, len0 = l.length ∧ (l = [] ∨ ThsAt w a0 l) ∧ (∀ x ∈ l, ThOk x ∧ x.s.size ≤ 140737488355328) ∧ len0 ≤ maxLen := by
  subst hv
  obtain ⟨fuel, h⟩ := h
  rcases open_slice Try.underlying22 h with ⟨h0, _⟩ | ⟨a, len, cap, m, n, D, Pl, hcs, hb, hl, hm, hmm, hd, hx⟩
  · have e : a0 = none ∧ len0 = 0 ∧ cap0 = 0 := by simpa [Value.cells] using h0
    exact ⟨[], e.2.1, Or.inl rfl, fun x hx => by simp at hx, by rw [e.2.1]; exact Nat.zero_le _⟩
  · have e : a0 = some a ∧ len0 = len ∧ cap0 = cap := by simpa [Value.cells] using hcs
    obtain ⟨rfl, rfl, rfl⟩ := e
    have hlm : len0 ≤ m := by rw [hmm]; split <;> omega
    have c35 : Try.prog.cellsOf 35 = 35 := by kernel_rfl
    have hd1 := congrArg Prod.fst hd
    simp only at hd1
    subst hd1
    have wD : ∀ i, i < len0 → ∀ k ∈ (D i).weights Try.prog 35, k ≤ reachBytes := fun i hi k hk => hw k (by
      rw [DataW.weights, Try.underlying22]
      simp only [List.mem_cons, List.mem_append]
      exact Or.inr (Or.inl (weightsAll_mem hk (List.mem_map.2 ⟨i, List.mem_range.2 hi, rfl⟩))))
    have each : ∀ i, ∃ q : Th, i < len0 → (ThOk q ∧ q.s.size ≤ 140737488355328) ∧ ∀ j u, (thL q)[j]? = some u → w.cell? ((a.add (i * 35)).add j) = some u := fun i => by
      by_cases hi : i < len0
      · obtain ⟨cs, h1, h2⟩ := hx i (by omega)
        obtain ⟨q, rfl, hq, hqw⟩ := thing_w h2
        have hqs := wD i hi _ hqw
        rw [c35] at h1
        obtain ⟨_, hlen, hcell⟩ := World.cells?_some h1
        exact ⟨q, fun _ => ⟨⟨hq, Nat.le_trans hqs (by decide)⟩, fun j u hu => by
          have hj : j < (thL q).length := (List.getElem?_eq_some_iff.1 hu).1
          rw [thL_len q hq.id] at hj
          rw [hcell j hj, hu]⟩⟩
      · exact ⟨thN 0, fun e => absurd e hi⟩
    refine ⟨(List.range len0).map fun i => (each i).choose, by simp, ?_, fun x hx => ?_, by omega⟩
    · by_cases h0 : len0 = 0
      · exact Or.inl (by simp [h0])
      · right
        have hc0 := ((each 0).choose_spec (by omega)).2 0 _ rfl
        have hspot : a.spot = none := by
          cases hs : a.spot with
          | none => rfl
          | some k =>
            exfalso
            have ea : (a.add (0 * 35)).add 0 = a := by simp [Addr.add]
            rw [ea] at hc0
            unfold World.cell? at hc0
            split at hc0
            · simp [hs] at hc0
            · cases hc0
        obtain ⟨b, off, sp⟩ := a
        simp only at hspot
        subst hspot
        refine Or.inr ⟨b, off, rfl, block_lt_of_cell hc0, fun i hi j u hu => ?_⟩
        simp only [List.length_map, List.length_range] at hi
        simp only [List.getElem_map, List.getElem_range] at hu
        have := ((each i).choose_spec hi).2 j u hu
        rw [Addr.add_lit, Addr.add_lit] at this
        exact this
    · simp only [List.mem_map, List.mem_range] at hx
      obtain ⟨i, hi, rfl⟩ := hx
      exact ((each i).choose_spec hi).1
end

end Go.Proofs.Ytahhpecgckiaaaa
