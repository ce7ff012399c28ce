/- ProgTells, part 23 of the road: what the program's functions do, each by its own walk. -/
import Derived.Test.YtojgikaoiegmpaaGreatDoorQ5
import Derived.ProofKit
import Derived.OpenShut
import Derived.Lib.SmallJoins

/- Instructions that came in. -/
namespace Go.Proofs.YtojgikaoiegmpaaGreatDoor
open Go.ChangeShapes Go.WideShapes Go.ChangeAt Go.RowKit Go.Joins
set_option linter.unusedSimpArgs false
set_option linter.unusedVariables false
set_option maxRecDepth 100000

theorem array6 {α : Type} {cs : Array α} (h : cs.size = 6) : ∃ c0 c1 c2 c3 c4 c5, cs = #[c0, c1, c2, c3, c4, c5] := by
  obtain ⟨l⟩ := cs
  match l, h with
  | [c0, c1, c2, c3, c4, c5], _ => exact ⟨c0, c1, c2, c3, c4, c5, rfl⟩

set_option maxRecDepth 100000 in
theorem ins_of {H : Type} {enc : TypeId × Value → H} {w : World} {spare : Nat → Bool} {n : Nat} {c0 c1 c2 c3 c4 c5 : Value} {x : DataW H × List MemPlace}
    (h : DataW.trod enc Tryz.prog w 0 spare true n 40 [c0, c1, c2, c3, c4, c5] = some x) : ∃ i : Ins, #[c0, c1, c2, c3, c4, c5] = icells i := by
  obtain ⟨xs, k, rfl, rfl, hlen, hxl, hf⟩ := DataW.trod_struct Tryz.underlying40 h
  have e0 : DataW.trod enc Tryz.prog w 0 spare true k 3 [c0] = xs[0]? := hf 0 _ rfl
  have e1 : DataW.trod enc Tryz.prog w 0 spare true k 3 [c1] = xs[1]? := hf 1 _ rfl
  have e2 : DataW.trod enc Tryz.prog w 0 spare true k 3 [c2] = xs[2]? := hf 2 _ rfl
  have e3 : DataW.trod enc Tryz.prog w 0 spare true k 3 [c3] = xs[3]? := hf 3 _ rfl
  have e4 : DataW.trod enc Tryz.prog w 0 spare true k 3 [c4] = xs[4]? := hf 4 _ rfl
  have e5 : DataW.trod enc Tryz.prog w 0 spare true k 9 [c5] = xs[5]? := hf 5 _ rfl
  have hl6 : xs.length = 6 := hxl
  clear hf hlen hxl
  match xs, hl6 with
  | [y0, y1, y2, y3, y4, y5], _ =>
    obtain ⟨n0, r0, _⟩ := DataW.trod_int Tryz.underlying3 e0
    obtain ⟨n1, r1, _⟩ := DataW.trod_int Tryz.underlying3 e1
    obtain ⟨n2, r2, _⟩ := DataW.trod_int Tryz.underlying3 e2
    obtain ⟨n3, r3, _⟩ := DataW.trod_int Tryz.underlying3 e3
    obtain ⟨n4, r4, _⟩ := DataW.trod_int Tryz.underlying3 e4
    obtain ⟨s, r5, _⟩ := DataW.trod_string Tryz.underlying9 e5
    simp at r0 r1 r2 r3 r4 r5
    subst r0 r1 r2 r3 r4 r5
    exact ⟨⟨n0, n1, n2, n3, n4, s⟩, rfl⟩

set_option maxRecDepth 100000 in
theorem open_ins {H : Type} {enc : TypeId × Value → H} {w : World} {spare : Nat → Bool} {base : Nat} {v : Value} {d : DataW H} {ps : List MemPlace} (hv : Value.okWide Tryz.prog w .any base 40 v) (h : DataW.Trod enc Tryz.prog w 0 spare true 40 v d ps) : ∃ i : Ins, v = .agg (icells i) := by
  obtain ⟨cs, rfl, hsz⟩ := okWide_struct Tryz.underlying40 hv
  obtain ⟨c0, c1, c2, c3, c4, c5, rfl⟩ := array6 (hsz.trans (by kernel_rfl))
  obtain ⟨fuel, hf⟩ := h
  obtain ⟨i, e⟩ := ins_of (show DataW.trod enc Tryz.prog w 0 spare true fuel 40 [c0, c1, c2, c3, c4, c5] = some _ from by simpa [Value.cells] using hf)
  exact ⟨i, by rw [e]⟩

end Go.Proofs.YtojgikaoiegmpaaGreatDoor
