/- ProgTells, part 10 of the road: what the program's functions do, each by its own walk. -/
import Derived.Test.YtojgikaoiegmpaaGreatDoorQ9
import Derived.ProofKit
import Derived.LaidMore
import Derived.OpenShut
import Derived.Stop.Joined

/- Package hash: what the row's listed variables give: the package's variables as its text lays them. -/
namespace Go.Proofs.YtojgikaoiegmpaaGreatDoor
open Go.RowKit Go.IntWalk Go.ChangeShapes Go.WideShapes Go.ChangeAt
set_option linter.unusedSimpArgs false
set_option linter.unusedVariables false
set_option maxRecDepth 100000

theorem u32_cells {H : Type} {enc : TypeId × Value → H} {w : World} {base : Nat} {spare : Nat → Bool} {held : Bool} {fuel n : Nat} {T : TypeId} {cs : List Value} {ns : List Int} {pl : List MemPlace}
    (ht : Tryz.prog.underlying T = some (.array n 89)) (h : DataW.trod enc Tryz.prog w base spare held fuel T cs = some (.agg (ns.map fun k => .lit (.int .u32 k)), pl)) (j : Nat) (k : Int) (hk : ns[j]? = some k) : cs[j]? = some (.int .u32 k) := by
  obtain ⟨xs, m, rfl, hx, hlen, hn, hel⟩ := DataW.trod_array ht h
  simp only [Prod.mk.injEq, DataW.agg.injEq] at hx
  have hl : ns.length = n := by
    have := congrArg List.length hx.1
    simpa [hn] using this
  have hj : j < n := by
    rw [← hl]
    exact (List.getElem?_eq_some_iff.1 hk).1
  have hjx : j < xs.length := by omega
  have h1 := hel j hj
  rw [List.getElem?_eq_getElem hjx] at h1
  have c1 : Tryz.prog.cellsOf 89 = 1 := by kernel_rfl
  rw [c1] at h1
  obtain ⟨k', e1, e2, _⟩ := DataW.trod_int Tryz.underlying89 h1
  have h2 : (ns.map fun k => (DataW.lit (.int .u32 k) : DataW H))[j]? = (xs.map (·.1))[j]? := by rw [hx.1]
  simp only [List.getElem?_map, hk, List.getElem?_eq_getElem hjx, Option.map_some, e2] at h2
  have hkk : k = k' := by simpa using h2
  subst hkk
  have e3 : (cs.drop (j * 1))[0]? = some (.int .u32 k) := by
    have h3 := congrArg (fun l => l[0]?) e1
    simpa [List.getElem?_take] using h3
  simpa using e3

def lv : List (String × DataW Unit) := [("retcon/hash.first", Rows.laid_retcon_hash_first), ("retcon/hash.roots", Rows.laid_retcon_hash_roots)]
theorem gFirst : Tryz.prog.globalNamed "retcon/hash.first" = some 0 := by kernel_rfl
theorem gRoots : Tryz.prog.globalNamed "retcon/hash.roots" = some 1 := by kernel_rfl
theorem tFirst : (Tryz.prog.globals[0]?).map (·.type) = some 110 := by kernel_rfl
theorem tRoots : (Tryz.prog.globals[1]?).map (·.type) = some 130 := by kernel_rfl
theorem dFirst {H : Type} : (Rows.laid_retcon_hash_first : DataW H) = .agg (([(Sha.first.a : Int), (Sha.first.b : Int), (Sha.first.c : Int), (Sha.first.d : Int), (Sha.first.e : Int), (Sha.first.f : Int), (Sha.first.g : Int), (Sha.first.h : Int)]).map fun k => .lit (.int .u32 k)) := by kernel_rfl
theorem dRoots {H : Type} : (Rows.laid_retcon_hash_roots : DataW H) = .agg ((Sha.K.map fun (n : Nat) => (n : Int)).map fun k => .lit (.int .u32 k)) := by kernel_rfl

/-- The listed variables read as the program's text lays them. -/
theorem glob_of_laid {W : World} (h : laidMetH Tryz.prog lv W) : Glob W := by
  rw [MakeChecks.laidMetH_plain _ _ _ (by kernel_rfl)] at h
  obtain ⟨ps, ⟨g0, t0, cs0, f0, p0, q0, hg0, ht0, hv0, hd0, ⟨g1, t1, cs1, f1, p1, q1, hg1, ht1, hv1, hd1, _, _⟩, _⟩, _, _⟩ := h
  obtain rfl := Option.some.inj (gFirst.symm.trans hg0)
  obtain rfl := Option.some.inj (gRoots.symm.trans hg1)
  obtain rfl := Option.some.inj (tFirst.symm.trans ht0)
  obtain rfl := Option.some.inj (tRoots.symm.trans ht1)
  rw [dFirst] at hd0
  rw [dRoots] at hd1
  refine ⟨fun j v hv => ?_, fun j hj => ?_⟩
  · have hj : j < 8 := (Array.getElem?_eq_some_iff.1 hv).1
    have h1 := World.var?_cell hg0 hv0 j
    have hk : ∃ k : Int, ([(Sha.first.a : Int), (Sha.first.b : Int), (Sha.first.c : Int), (Sha.first.d : Int), (Sha.first.e : Int), (Sha.first.f : Int), (Sha.first.g : Int), (Sha.first.h : Int)])[j]? = some k ∧ v = .int .u32 k := by
      obtain rfl | rfl | rfl | rfl | rfl | rfl | rfl | rfl : j = 0 ∨ j = 1 ∨ j = 2 ∨ j = 3 ∨ j = 4 ∨ j = 5 ∨ j = 6 ∨ j = 7 := by omega
      all_goals exact ⟨_, rfl, (Option.some.inj hv).symm⟩
    obtain ⟨k, hk, rfl⟩ := hk
    have h2 := u32_cells Tryz.underlying110 hd0 j k hk
    rw [h1]
    simpa using h2
  · have h1 := World.var?_cell hg1 hv1 j
    have hjk : j < Sha.K.length := by rw [K_len]; exact hj
    have hk : (Sha.K.map fun (n : Nat) => (n : Int))[j]? = some ((Sha.K.getD j 0 : Nat) : Int) := by
      simp [List.getD, hjk]
    have h2 := u32_cells Tryz.underlying130 hd1 j _ hk
    rw [h1]
    simpa using h2

/-- The heap that the variables' own door leaves meets it. -/
theorem door_met (os : Os) (args : Array Value) : laidMetH Tryz.prog lv ((World.doorLaid Tryz.prog 19 os).forCall (fun _ _ => 0) ⟨#[], args, []⟩).memory :=
  laidMetH_of_parts3 (fuel := 8) (laidMet_of_run' 8 (by kernel_rfl) (by kernel_rfl)) (by kernel_rfl) (by kernel_rfl)

end Go.Proofs.YtojgikaoiegmpaaGreatDoor
