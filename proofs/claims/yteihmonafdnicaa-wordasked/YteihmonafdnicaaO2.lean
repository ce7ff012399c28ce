/- Things that came in: where they lie. -/
import Derived.Test.YteihmonafdnicaaO
import Derived.OpenShut
namespace Go.Proofs.Yteihmonafdnicaa
open Go.RowKit Go.IntWalk Go.Deep
set_option linter.unusedSimpArgs false
set_option linter.unusedVariables false

theorem bytes_of : ∀ (cs : List Value), (∀ i, i < cs.length → ∃ n : Int, cs[i]? = some (.int .u8 n) ∧ 0 ≤ n ∧ n ≤ 255) → ∃ bs : List UInt8, cs = bv bs
  | [], _ => ⟨[], rfl⟩
  | c :: cs, h => by
    obtain ⟨n, h0, h1, h2⟩ := h 0 (by simp)
    obtain ⟨bs, rfl⟩ := bytes_of cs (fun i hi => by
      obtain ⟨m, hm⟩ := h (i + 1) (by simpa using hi)
      exact ⟨m, by simpa using hm⟩)
    obtain ⟨m, rfl⟩ := Int.eq_ofNat_of_zero_le h1
    refine ⟨UInt8.ofNat m :: bs, ?_⟩
    have e : c = .int .u8 (m : Int) := by simpa using h0
    have em : ((UInt8.ofNat m).toNat : Int) = (m : Int) := by simp; omega
    show c :: bv bs = .int .u8 ((UInt8.ofNat m).toNat : Int) :: bv bs
    rw [em, e]

section
variable {H : Type} {enc : TypeId × Value → H} {w : World} {spare : Nat → Bool}
theorem id_of {n : Nat} {cs : List Value} {x : DataW H × List MemPlace} (h : DataW.trod enc Try.prog w 0 spare true n 33 cs = some x) : ∃ bs : List UInt8, cs = bv bs ∧ bs.length = 32 := by
  obtain ⟨xs, m, rfl, rfl, hlen, hxl, hf⟩ := DataW.trod_array Try.underlying33 h
  have h32 : cs.length = 32 := hlen.trans (by kernel_rfl)
  have c1 : Try.prog.cellsOf 5 = 1 := by kernel_rfl
  obtain ⟨bs, rfl⟩ := bytes_of cs (fun i hi => by
    have hi32 : i < 32 := by omega
    have e := hf i hi32
    rw [c1, Nat.mul_one, List.getElem?_eq_getElem (by omega)] at e
    obtain ⟨k, r, _, wf⟩ := DataW.trod_int Try.underlying5 e
    have hb := bounds_u8 wf
    refine ⟨k, ?_, hb.1, hb.2⟩
    have hd : (List.take 1 (List.drop i cs))[0]? = cs[i]? := by simp
    rw [← hd, r]
    rfl)
  exact ⟨bs, rfl, by rw [← bv_length bs]; exact h32⟩

theorem thing_of {n : Nat} {cs : List Value} {x : DataW H × List MemPlace} (h : DataW.trod enc Try.prog w 0 spare true n 35 cs = some x) : ∃ q : Th, cs = thL q ∧ ThOk q ∧ q.s.size ≤ maxLen := by
  obtain ⟨xs, k, rfl, rfl, hlen, hxl, hf⟩ := DataW.trod_struct Try.underlying35 h
  have h35 : cs.length = 35 := hlen.trans (by kernel_rfl)
  match cs, h35 with
  | v0 :: v1 :: v2 :: vs, h35 =>
    have hvs : vs.length = 32 := by simpa using h35
    have hl4 : xs.length = 4 := hxl
    have e0 : DataW.trod enc Try.prog w 0 spare true k 3 (List.take (Try.prog.cellsOf 3) (List.drop 0 (v0 :: v1 :: v2 :: vs))) = xs[0]? := hf 0 _ rfl
    have e1 : DataW.trod enc Try.prog w 0 spare true k 3 (List.take (Try.prog.cellsOf 3) (List.drop 1 (v0 :: v1 :: v2 :: vs))) = xs[1]? := hf 1 _ rfl
    have e2 : DataW.trod enc Try.prog w 0 spare true k 9 (List.take (Try.prog.cellsOf 9) (List.drop 2 (v0 :: v1 :: v2 :: vs))) = xs[2]? := hf 2 _ rfl
    have e3 : DataW.trod enc Try.prog w 0 spare true k 33 (List.take (Try.prog.cellsOf 33) (List.drop 3 (v0 :: v1 :: v2 :: vs))) = xs[3]? := hf 3 _ rfl
    rw [show Try.prog.cellsOf 3 = 1 by kernel_rfl] at e0 e1
    rw [show Try.prog.cellsOf 9 = 1 by kernel_rfl] at e2
    rw [show Try.prog.cellsOf 33 = 32 by kernel_rfl] at e3
    match xs, hl4 with
    | [y0, y1, y2, y3], _ =>
      obtain ⟨n0, r0, _, _⟩ := DataW.trod_int Try.underlying3 e0
      obtain ⟨n1, r1, _, f1⟩ := DataW.trod_int Try.underlying3 e1
      obtain ⟨s, r2, _, f2⟩ := DataW.trod_string Try.underlying9 e2
      obtain ⟨bs, r3, f3⟩ := id_of e3
      simp at r0 r1 r2
      rw [show List.drop 3 (v0 :: v1 :: v2 :: vs) = vs from rfl, List.take_of_length_le (by omega)] at r3
      subst r0 r1 r2 r3
      have hb := bounds_i64 f1
      exact ⟨⟨n0, n1, s, bs⟩, rfl, ⟨f3, hb.2, by show s.size ≤ _; unfold maxLen at f2; omega⟩, f2⟩

theorem open_things {v : Value} {d : DataW H} {ps : List MemPlace} {a0 : Option Addr} {len0 cap0 : Nat} (hv : v = .slice a0 len0 cap0)
    (h : DataW.Trod enc Try.prog w 0 (fun _ => true) true 22 v d ps) : ∃ l : List Th, len0 = l.length ∧ (l = [] ∨ ThsAt w a0 l) ∧ (∀ x ∈ l, ThOk x ∧ x.s.size ≤ maxLen) ∧ len0 ≤ maxLen := by
  subst hv
  obtain ⟨fuel, h⟩ := h
  rcases open_slice Try.underlying22 h with ⟨h0, _⟩ | ⟨a, len, cap, m, n, D, Pl, hcs, hb, hl, hm, hmm, _, hx⟩
  · have e : a0 = none ∧ len0 = 0 ∧ cap0 = 0 := by simpa [Value.cells] using h0
    exact ⟨[], e.2.1, Or.inl rfl, fun x hx => by simp at hx, by rw [e.2.1]; exact Nat.zero_le _⟩
  · have e : a0 = some a ∧ len0 = len ∧ cap0 = cap := by simpa [Value.cells] using hcs
    obtain ⟨rfl, rfl, rfl⟩ := e
    have hlm : len0 ≤ m := by rw [hmm]; split <;> omega
    have c35 : Try.prog.cellsOf 35 = 35 := by kernel_rfl
    have each : ∀ i, ∃ q : Th, i < len0 → (ThOk q ∧ q.s.size ≤ maxLen) ∧ ∀ j u, (thL q)[j]? = some u → w.cell? ((a.add (i * 35)).add j) = some u := fun i => by
      by_cases hi : i < len0
      · obtain ⟨cs, h1, h2⟩ := hx i (by omega)
        obtain ⟨q, rfl, hq, hqs⟩ := thing_of h2
        rw [c35] at h1
        obtain ⟨_, hlen, hcell⟩ := World.cells?_some h1
        exact ⟨q, fun _ => ⟨⟨hq, hqs⟩, fun j u hu => by
          have hj : j < (thL q).length := (List.getElem?_eq_some_iff.1 hu).1
          rw [thL_len q hq.id] at hj
          rw [hcell j hj, hu]⟩⟩
      · exact ⟨thN 0, fun e => absurd e hi⟩
    refine ⟨(List.range len0).map fun i => (each i).choose, by simp, ?_, fun x hx => ?_, by omega⟩
    · by_cases h0 : len0 = 0
      · exact Or.inl (by simp [h0])
      · right
        have hc0 := ((each 0).choose_spec (by omega)).2 0 _ rfl
        have hspot : a.spot = none := by
          cases hs : a.spot with
          | none => rfl
          | some k =>
            exfalso
            have ea : (a.add (0 * 35)).add 0 = a := by simp [Addr.add]
            rw [ea] at hc0
            unfold World.cell? at hc0
            split at hc0
            · simp [hs] at hc0
            · cases hc0
        obtain ⟨b, off, sp⟩ := a
        simp only at hspot
        subst hspot
        refine Or.inr ⟨b, off, rfl, block_lt_of_cell hc0, fun i hi j u hu => ?_⟩
        simp only [List.length_map, List.length_range] at hi
        simp only [List.getElem_map, List.getElem_range] at hu
        have := ((each i).choose_spec hi).2 j u hu
        rw [Addr.add_lit, Addr.add_lit] at this
        exact this
    · simp only [List.mem_map, List.mem_range] at hx
      obtain ⟨i, hi, rfl⟩ := hx
      exact ((each i).choose_spec hi).1
end

end Go.Proofs.Yteihmonafdnicaa
