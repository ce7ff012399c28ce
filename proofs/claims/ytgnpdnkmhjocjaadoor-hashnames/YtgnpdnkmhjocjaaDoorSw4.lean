/- Rows: noughts appended. -/
import Derived.Test.YtgnpdnkmhjocjaaDoorSw3
import Derived.Lib.AppendZeros
namespace Go.Proofs.YtgnpdnkmhjocjaaDoor
open Go.RowKit Go.IntWalk Go.Lib
set_option linter.unusedSimpArgs false
set_option linter.unusedVariables false

theorem append_zeros_eq (w : World) (i : TypeInfo) (hi : Tryd.prog.info? 5 = some i) (hz : i.zero = some (.int .u8 0)) (hs : i.size = 1) (hb : i.bytes = 1) (ao : Option Addr) (len cap n : Nat) (hn : n ≤ 1000) (hl : len ≤ 140737488000000) :
    (Builtin.append_ #[27, 3] 27 #[.slice ao len cap, .int .i64 (n : Int)]).run Tryd.prog w = (Builtin.append_ #[27, 9] 27 #[.slice ao len cap, .string ⟨(List.replicate n (0 : UInt8)).toArray⟩]).run Tryd.prog w := by
  have hw : IntKind.i64.wrap (n : Int) = n := by rw [IntKind.wrap_i64]; omega
  have hneg : ¬ ((n : Int) < 0) := by omega
  have h48i : ¬ (281474976710656 < (n : Int)) := by omega
  have h63 : ¬ (9223372036854775807 < (len : Int) + (n : Int)) := by omega
  obtain ⟨S, hS⟩ : ∃ S : ByteArray, S = ⟨(List.replicate n (0 : UInt8)).toArray⟩ := ⟨_, rfl⟩
  have hsz : S.size = n := by rw [hS]; show (List.replicate n (0 : UInt8)).toArray.size = n; simp
  have hcl : ∀ w, (Builtin.firstCells 1 n (.string S)).run Tryd.prog w = .ok (bv (List.replicate n 0)).toArray w := fun w => by
    have h := (Src.ofString (P := Tryd.prog) w Tryd.underlying9 S).cells
    have hb : byteCells S = bv (List.replicate n 0) := by rw [hS]; simp [byteCells, bv]
    rw [hsz, hb] at h
    exact h
  have hzc : Builtin.zeroCells #[.int .u8 0] n = (bv (List.replicate n 0)).toArray := by
    apply Array.ext'
    simp [Builtin.zeroCells, bv, Nat.mod_one, List.map_const']
  rw [← hS]
  have hz0 : n = 0 → (bv (List.replicate n 0)).toArray = #[] := fun e => by rw [e]; rfl
  clear hS
  generalize (bv (List.replicate n 0)).toArray = Z at *
  have hlen : ∀ w, (Builtin.lenOf (.string S)).run Tryd.prog w = .ok n w := fun w => by simp [Builtin.lenOf, hsz]
  have hzv : ∀ w, (zeroValue 5).run Tryd.prog w = .ok (.int .u8 0) w := fun w => by simp [zeroValue, typeInfo, hi, hz, Sem.run_bind]
  by_cases hroom : len + n ≤ cap
  · simp [-Sem.runT_eq, Builtin.append_, sizeOf, typeInfo, asInt, asIntOf, run_underlying Tryd.underlying27, run_underlying Tryd.underlying3, run_underlying Tryd.underlying9, hi, hs, hb, hw, hneg, h48i, h63, hlen, Sem.run_bind, hcl, hzc, hzv, Value.cells, hroom]
    intro e
    rw [hz0 e]
  · have hgf : ¬ 281474976710656 < Builtin.nextslicecap (len + n) cap := by
      have := growslice_fits (bytes := 1) (show cap < len + n by omega) (by omega)
      omega
    simp [-Sem.runT_eq, Builtin.append_, sizeOf, typeInfo, asInt, asIntOf, run_underlying Tryd.underlying27, run_underlying Tryd.underlying3, run_underlying Tryd.underlying9, hi, hs, hb, hw, hneg, h48i, h63, hlen, Sem.run_bind, hcl, hzc, hzv, Value.cells, hroom, hgf]
    by_cases hn0 : n = 0
    · have hZ := hz0 hn0
      subst hZ
      simp only [if_pos hn0, Array.empty_append]
    · simp only [if_neg hn0]

end Go.Proofs.YtgnpdnkmhjocjaaDoor
