/- Names that came in. -/
import Derived.Test.YtgnpdnkmhjocjaaDoorSm
import Derived.ProofKit
import Derived.OpenShut
import Derived.Lib.SmallJoins
namespace Go.Proofs.YtgnpdnkmhjocjaaDoor
open Go.ChangeShapes Go.WideShapes Go.ChangeAt Go.RowKit Go.Deep
set_option linter.unusedSimpArgs false
set_option linter.unusedVariables false

theorem open_id {H : Type} {enc : TypeId × Value → H} {w : World} {spare : Nat → Bool} {base : Nat} {v : Value} {d : DataW H} {ps : List MemPlace} (hv : Value.okWide Tryd.prog w .any base 30 v) (h : DataW.Trod enc Tryd.prog w 0 spare true 30 v d ps) : ∃ x : List UInt8, v = .agg (bv x).toArray ∧ x.length = 32 := by
  simp only [Value.okWide, Tryd.underlying30] at hv
  obtain ⟨cs, rfl, hsz, _⟩ := hv
  have c32 : Tryd.prog.cellsOf 30 = 32 := by kernel_rfl
  have c1 : Tryd.prog.cellsOf 5 = 1 := by kernel_rfl
  rw [c32] at hsz
  obtain ⟨fuel, hf⟩ := h
  obtain ⟨xs, m, rfl, hx, hlen, hn, hel⟩ := DataW.trod_array Tryd.underlying30 (show DataW.trod enc Tryd.prog w 0 spare true fuel 30 cs.toList = some _ from by simpa [Value.cells] using hf)
  have each : ∀ i, i < 32 → ∃ b : UInt8, cs[i]? = some (.int .u8 b.toNat) := fun i hi => by
    have h1 := hel i hi
    have hjx : i < xs.length := by omega
    rw [List.getElem?_eq_getElem hjx, c1] at h1
    obtain ⟨k, e1, e2, wf⟩ := DataW.trod_int Tryd.underlying5 h1
    have hb := bounds_u8 wf
    obtain ⟨k', rfl⟩ := Int.eq_ofNat_of_zero_le hb.1
    refine ⟨UInt8.ofNat k', ?_⟩
    have h3 := congrArg (fun l => l[0]?) e1
    have em : ((UInt8.ofNat k').toNat : Int) = (k' : Int) := by simp; omega
    rw [em]
    simpa [List.getElem?_take] using h3
  have each2 : ∀ i, ∃ b : UInt8, i < 32 → cs[i]? = some (.int .u8 b.toNat) := fun i => by
    by_cases hi : i < 32
    · obtain ⟨b, hb⟩ := each i hi
      exact ⟨b, fun _ => hb⟩
    · exact ⟨0, fun e => absurd e hi⟩
  refine ⟨(List.range 32).map fun i => (each2 i).choose, ?_, by simp⟩
  congr 1
  apply Array.ext (by simp [bv, hsz])
  intro i h1 h2
  have hi : i < 32 := by omega
  have h3 := (each2 i).choose_spec hi
  have h4 := Option.some.inj ((Array.getElem?_eq_getElem h1).symm.trans h3)
  rw [h4]
  simp [bv]

end Go.Proofs.YtgnpdnkmhjocjaaDoor
