/- ProgTells, part 1 of the road: what the program's functions do, each by its own walk. -/
import Derived.Test.YtojgikaoiegmpaaGreatDoorRows
import Derived.WalkKit
import Derived.WalkSpells
import Derived.WalkLawsBesides
import Derived.Defers
import Derived.Recover
import Derived.Laws.Pointers
import Derived.Deep.RegionWith

/- The tape of package word: none, fail, do: what each call does to the world. -/
namespace Go.Proofs.YtojgikaoiegmpaaGreatDoor
open Go.RowKit
set_option linter.unusedSimpArgs false
set_option linter.unusedVariables false
set_option maxRecDepth 100000

theorem wnone_nil (w : World) : Calls Tryz.prog 70 #[.pointer none] w fun e w' => e = .returned (.bool true) ∧ w' = w := by
  go_enter Tryz.func70, Tryz.ntmps70
  go_wp2
  go_ret
  exact ⟨rfl, rfl⟩

theorem wnone_bare (p : Nat) (w : World) (hp : w.cell? ⟨p, 0, none⟩ = some (.pointer none)) : Calls Tryz.prog 70 #[.pointer (some ⟨p, 0, none⟩)] w fun e w' => e = .returned (.bool true) ∧ w' = w := by
  go_enter Tryz.func70, Tryz.ntmps70
  go_wp2
  go_ret
  exact ⟨rfl, rfl⟩

theorem wnone_some (p t : Nat) (w : World) (hp : w.cell? ⟨p, 0, none⟩ = some (.pointer (some ⟨t, 0, none⟩))) : Calls Tryz.prog 70 #[.pointer (some ⟨p, 0, none⟩)] w fun e w' => e = .returned (.bool false) ∧ w' = w := by
  go_enter Tryz.func70, Tryz.ntmps70
  go_wp2
  go_ret
  exact ⟨rfl, rfl⟩

theorem rnone_nil (w : World) : Calls Tryz.prog 85 #[.pointer none] w fun e w' => e = .returned (.bool true) ∧ w' = w := by
  go_enter Tryz.func85, Tryz.ntmps85
  go_wp2
  go_ret
  exact ⟨rfl, rfl⟩

theorem rnone_bare (p : Nat) (w : World) (hp : w.cell? ⟨p, 0, none⟩ = some (.pointer none)) : Calls Tryz.prog 85 #[.pointer (some ⟨p, 0, none⟩)] w fun e w' => e = .returned (.bool true) ∧ w' = w := by
  go_enter Tryz.func85, Tryz.ntmps85
  go_wp2
  go_ret
  exact ⟨rfl, rfl⟩

theorem rnone_some (p t : Nat) (w : World) (hp : w.cell? ⟨p, 0, none⟩ = some (.pointer (some ⟨t, 0, none⟩))) : Calls Tryz.prog 85 #[.pointer (some ⟨p, 0, none⟩)] w fun e w' => e = .returned (.bool false) ∧ w' = w := by
  go_enter Tryz.func85, Tryz.ntmps85
  go_wp2
  go_ret
  exact ⟨rfl, rfl⟩

/-- What a step panics with. -/
def gu (e a : Int) : List PanicEntry := [{ v := .iface 128 (.agg #[.int .i64 e, .int .i64 a]), recovered := false }]

theorem fail_any (v : Value) (e a : Int) (w : World) : Calls Tryz.prog 91 #[v, .int .i64 e, .int .i64 a] w fun e' w' => e' = .panicked (gu e a) ∧ w' = w := by
  go_enter Tryz.func91, Tryz.ntmps91
  go_wp2
  exact ⟨rfl, rfl, rfl⟩

theorem do1_idle (p : Addr) (w : World) :
    CallsD Tryz.prog 90 #[.pointer (some p)] .returning w fun e u' w' => e = .returned (.tuple #[]) ∧ u' = .returning ∧ w' = w := by
  refine callsD_of_wpS Tryz.func90 rfl fun c₀ cs hu => ?_
  apply wpS_seq
  apply wpS_region
  simp [wpOpsS, go_sem, recoverD, hu, Tryz.ntmps90, Exit.thenS]
  refine wpS_of_wp ?_
  go_wp2
  cases c₀
  simp_all [bodyPostS, results, Tryz.results90]

set_option maxHeartbeats 1000000 in
theorem do1_caught (b t : Nat) (e a : Int) (older : List PanicEntry) (v2 v3 : Value) (w : World) (hb : w.cell? ⟨b, 0, none⟩ = some (.pointer (some ⟨t, 0, none⟩))) (h2 : w.cell? ⟨t, 2, none⟩ = some v2) (h3 : w.cell? ⟨t, 3, none⟩ = some v3)
    (hz2 : w.frozen? ⟨t, 2, none⟩ = false) (hz3 : w.frozen? ⟨t, 3, none⟩ = false) (hlt : t < w.heap.size) (hlb : b < w.heap.size) :
    CallsD Tryz.prog 90 #[.pointer (some ⟨b, 0, none⟩)] (.panicking ({ v := .iface 128 (.agg #[.int .i64 e, .int .i64 a]), recovered := false } :: older)) w fun e' u' w' =>
      e' = .returned (.tuple #[]) ∧ u' = .panicking ({ v := .iface 128 (.agg #[.int .i64 e, .int .i64 a]), recovered := true } :: older) ∧
      w' = ((w.setCell ⟨t, 2, none⟩ (.int .i64 e)).setCell ⟨t, 3, none⟩ (.int .i64 a)).alloc (.cells #[.int .i64 e, .int .i64 a] 128) := by
  have hta : ∀ w : World, (Instr.typeAssert (.iface 128 (.agg #[.int .i64 e, .int .i64 a])) 20 128 true).run Tryz.prog w = .ok (.tuple #[.agg #[.int .i64 e, .int .i64 a], .bool true]) w := fun _ => by kernel_rfl
  refine callsD_of_wpS Tryz.func90 rfl fun c₀ cs hu => ?_
  apply wpS_seq
  apply wpS_region
  simp [wpOpsS, go_sem, recoverD, hu, Tryz.ntmps90, Exit.thenS, Array.replicate, List.replicate]
  refine wpS_of_wp ?_
  go_wp2
  exact ⟨rfl, _, rfl, _, by simp [results, Tryz.results90, go_sem], rfl, rfl, rfl⟩

/-- The variable that holds the tape while a step is made. -/
def boxed (w : World) (t : Nat) : World := w.alloc (.cells #[.pointer (some ⟨t, 0, none⟩)] 103)

theorem do_shut (t : Nat) (fv : Value) (w : World) (er : Int) (h2 : w.cell? ⟨t, 2, none⟩ = some (.int .i64 er)) (hne : (er != 0) = true) (hlt : t < w.heap.size) :
    Calls Tryz.prog 71 #[.pointer (some ⟨t, 0, none⟩), fv] w fun e w' => e = .returned (.tuple #[]) ∧ w' = boxed w t := by
  go_enter_defers Tryz.func71, Tryz.ntmps71
  go_wp2
  simp [bodyPostD, Leaves, results, Tryz.results71, go_sem]
  rfl

/-- How the last statement of do ends. -/
def doPost (B t : Nat) (Q : Ending → World → Prop) : Exit → Act → World → Prop
  | .normal, a, w' => a.defers = [{ target := Target.fn (Fn.func 90) #[.pointer (some ⟨B, 0, none⟩)], args := #[] }] ∧ ∃ n w2, Q (.returned (.int .i64 n)) w2 ∧ w' = w2.setCell ⟨t, 1, none⟩ (.int .i64 n)
  | .panic c, a, w' => a.defers = [{ target := Target.fn (Fn.func 90) #[.pointer (some ⟨B, 0, none⟩)], args := #[] }] ∧ ∃ er b, c = gu er b ∧ Q (.panicked (gu er b)) w'
  | _, _, _ => False

/-- What a step must leave: the variable of do, the tape's cells, and an end of its own. -/
def StepEnd (B t : Nat) (e : Ending) (w' : World) : Prop :=
  w'.cell? ⟨B, 0, none⟩ = some (.pointer (some ⟨t, 0, none⟩)) ∧ (∃ v1 v2 v3, w'.cell? ⟨t, 1, none⟩ = some v1 ∧ w'.cell? ⟨t, 2, none⟩ = some v2 ∧ w'.cell? ⟨t, 3, none⟩ = some v3) ∧
    w'.frozen? ⟨t, 1, none⟩ = false ∧ w'.frozen? ⟨t, 2, none⟩ = false ∧ w'.frozen? ⟨t, 3, none⟩ = false ∧ B < w'.heap.size ∧ t < B ∧
    ((∃ n, e = .returned (.int .i64 n)) ∨ ∃ er a, e = .panicked (gu er a))

theorem do_out (B t : Nat) (Q R : Ending → World → Prop) (hQ : ∀ e w', Q e w' → StepEnd B t e w')
    (h1 : ∀ n w2, Q (.returned (.int .i64 n)) w2 → R (.returned (.tuple #[])) (w2.setCell ⟨t, 1, none⟩ (.int .i64 n)))
    (h2 : ∀ er a w2, Q (.panicked (gu er a)) w2 → R (.returned (.tuple #[])) (((w2.setCell ⟨t, 2, none⟩ (.int .i64 er)).setCell ⟨t, 3, none⟩ (.int .i64 a)).alloc (.cells #[.int .i64 er, .int .i64 a] 128)))
    (e : Exit) (a : Act) (w : World) (h : doPost B t Q e a w) : bodyPostD Tryz.prog Tryz.f71 R e a w := by
  cases e with
  | normal =>
    obtain ⟨hd, n, w2, hq, rfl⟩ := h
    obtain ⟨hb, ⟨v1, v2, v3, c1, c2, c3⟩, z1, z2, z3, hl, hlt, _⟩ := hQ _ _ hq
    show Leaves Tryz.prog Tryz.f71 a.tmps R a.defers .returning _
    rw [hd]
    refine leaves_cons (f := 90) (args := #[.pointer (some ⟨B, 0, none⟩)]) (by simp) (by simp [go_sem]) ?_
    refine (do1_idle ⟨B, 0, none⟩ _).mono ?_
    rintro e u' w'' ⟨rfl, rfl, rfl⟩
    simp [Leaves, settle, results, Tryz.results71, go_sem]
    exact h1 n w2 hq
  | panic c =>
    obtain ⟨hd, er, b, rfl, hq⟩ := h
    obtain ⟨hb, ⟨v1, v2, v3, c1, c2, c3⟩, z1, z2, z3, hl, hlt, _⟩ := hQ _ _ hq
    show Leaves Tryz.prog Tryz.f71 a.tmps R a.defers (.panicking (gu er b)) _
    rw [hd]
    refine leaves_cons (f := 90) (args := #[.pointer (some ⟨B, 0, none⟩)]) (by simp) (by simp [go_sem]) ?_
    refine (do1_caught B t er b [] v2 v3 w hb c2 c3 z2 z3 (by omega) hl).mono ?_
    rintro e u' w'' ⟨rfl, rfl, rfl⟩
    simp [Leaves, settle, results, Tryz.results71, go_sem]
    exact h2 er b w hq
  | _ => exact h.elim

set_option maxHeartbeats 1000000 in
theorem do_step (t f : Nat) (caps : Array Value) (w : World) (Q R : Ending → World → Prop) (h2 : w.cell? ⟨t, 2, none⟩ = some (.int .i64 0)) (hlt : t < w.heap.size)
    (hcf : ∀ w : World, (callFunc f caps).run Tryz.prog w = .ok (.enter f caps) w) (hstep : Calls Tryz.prog f caps (boxed w t).drew Q)
    (hQ : ∀ e w', Q e w' → StepEnd w.heap.size t e w')
    (hr : ∀ n w2, Q (.returned (.int .i64 n)) w2 → R (.returned (.tuple #[])) (w2.setCell ⟨t, 1, none⟩ (.int .i64 n)))
    (hp : ∀ er a w2, Q (.panicked (gu er a)) w2 → R (.returned (.tuple #[])) (((w2.setCell ⟨t, 2, none⟩ (.int .i64 er)).setCell ⟨t, 3, none⟩ (.int .i64 a)).alloc (.cells #[.int .i64 er, .int .i64 a] 128))) :
    Calls Tryz.prog 71 #[.pointer (some ⟨t, 0, none⟩), .func (.func f) #[] caps] w R := by
  have hmf : ∀ (fn : Fn) (first cap : Array Value) (w : World), (Instr.makeFunc fn first cap).run Tryz.prog w = .ok (.func fn first cap) w := fun _ _ _ _ => rfl
  go_enter_defers Tryz.func71, Tryz.ntmps71
  go_wp2
  refine Code.wp_mono (do_out w.heap.size t Q R hQ hr hp) ?_
  clear hr hp
  go_region_with (refine hstep.mono ?_; intro e w' hq; obtain ⟨hb, ⟨v1, v2, v3, c1, c2, c3⟩, z1, z2, z3, hl, hlt', ⟨n, rfl⟩ | ⟨er, b, rfl⟩⟩ := hQ e w' hq; rotate_left; exact ⟨rfl, er, b, rfl, hq⟩; skip)
  all_goals exact ⟨rfl, n, w', hq, rfl⟩

end Go.Proofs.YtojgikaoiegmpaaGreatDoor
