/- ProgReads, part 1 of the road: what the program's functions do, each by its own walk. -/
import Derived.Test.YtojgikaoiegmpaaRows
import Derived.WalkKit
import Derived.WalkSpells
import Derived.WalkLawsBesides
import Derived.Defers
import Derived.Recover
import Derived.Laws.Pointers
import Derived.Deep.RegionWith
import Derived.Deep.RegionLaw
import Derived.Deep.Upon
import Derived.Deep.QuietTactic
import Derived.BigQuiet
import Derived.Deep.RegionHeld3
import Derived.Deep.CutBlock
import Derived.Deep.CutRange
import Derived.Deep.RegionHeld2
import Derived.Laws.CopyOwn
import Derived.Lib.OthersKept

/- The tape of package word: none, fail, do: what each call does to the world. -/
namespace Go.Proofs.Ytojgikaoiegmpaa
open Go.RowKit
set_option linter.unusedSimpArgs false
set_option linter.unusedVariables false
set_option maxRecDepth 100000

theorem wnone_nil (w : World) : Calls Try.prog 81 #[.pointer none] w fun e w' => e = .returned (.bool true) ∧ w' = w := by
  go_enter Try.func81, Try.ntmps81
  go_wp2
  go_ret
  exact ⟨rfl, rfl⟩

theorem wnone_bare (p : Nat) (w : World) (hp : w.cell? ⟨p, 0, none⟩ = some (.pointer none)) : Calls Try.prog 81 #[.pointer (some ⟨p, 0, none⟩)] w fun e w' => e = .returned (.bool true) ∧ w' = w := by
  go_enter Try.func81, Try.ntmps81
  go_wp2
  go_ret
  exact ⟨rfl, rfl⟩

theorem wnone_some (p t : Nat) (w : World) (hp : w.cell? ⟨p, 0, none⟩ = some (.pointer (some ⟨t, 0, none⟩))) : Calls Try.prog 81 #[.pointer (some ⟨p, 0, none⟩)] w fun e w' => e = .returned (.bool false) ∧ w' = w := by
  go_enter Try.func81, Try.ntmps81
  go_wp2
  go_ret
  exact ⟨rfl, rfl⟩

theorem rnone_nil (w : World) : Calls Try.prog 48 #[.pointer none] w fun e w' => e = .returned (.bool true) ∧ w' = w := by
  go_enter Try.func48, Try.ntmps48
  go_wp2
  go_ret
  exact ⟨rfl, rfl⟩

theorem rnone_bare (p : Nat) (w : World) (hp : w.cell? ⟨p, 0, none⟩ = some (.pointer none)) : Calls Try.prog 48 #[.pointer (some ⟨p, 0, none⟩)] w fun e w' => e = .returned (.bool true) ∧ w' = w := by
  go_enter Try.func48, Try.ntmps48
  go_wp2
  go_ret
  exact ⟨rfl, rfl⟩

theorem rnone_some (p t : Nat) (w : World) (hp : w.cell? ⟨p, 0, none⟩ = some (.pointer (some ⟨t, 0, none⟩))) : Calls Try.prog 48 #[.pointer (some ⟨p, 0, none⟩)] w fun e w' => e = .returned (.bool false) ∧ w' = w := by
  go_enter Try.func48, Try.ntmps48
  go_wp2
  go_ret
  exact ⟨rfl, rfl⟩

/-- What a step panics with. -/
def gu (e a : Int) : List PanicEntry := [{ v := .iface 123 (.agg #[.int .i64 e, .int .i64 a]), recovered := false }]

theorem fail_any (v : Value) (e a : Int) (w : World) : Calls Try.prog 76 #[v, .int .i64 e, .int .i64 a] w fun e' w' => e' = .panicked (gu e a) ∧ w' = w := by
  go_enter Try.func76, Try.ntmps76
  go_wp2
  exact ⟨rfl, rfl, rfl⟩

theorem do1_idle (p : Addr) (w : World) :
    CallsD Try.prog 74 #[.pointer (some p)] .returning w fun e u' w' => e = .returned (.tuple #[]) ∧ u' = .returning ∧ w' = w := by
  refine callsD_of_wpS Try.func74 rfl fun c₀ cs hu => ?_
  apply wpS_seq
  apply wpS_region
  simp [wpOpsS, go_sem, recoverD, hu, Try.ntmps74, Exit.thenS]
  refine wpS_of_wp ?_
  go_wp2
  cases c₀
  simp_all [bodyPostS, results, Try.results74]

set_option maxHeartbeats 1000000 in
theorem do1_caught (b t : Nat) (e a : Int) (older : List PanicEntry) (v2 v3 : Value) (w : World) (hb : w.cell? ⟨b, 0, none⟩ = some (.pointer (some ⟨t, 0, none⟩))) (h2 : w.cell? ⟨t, 2, none⟩ = some v2) (h3 : w.cell? ⟨t, 3, none⟩ = some v3)
    (hz2 : w.frozen? ⟨t, 2, none⟩ = false) (hz3 : w.frozen? ⟨t, 3, none⟩ = false) (hlt : t < w.heap.size) (hlb : b < w.heap.size) :
    CallsD Try.prog 74 #[.pointer (some ⟨b, 0, none⟩)] (.panicking ({ v := .iface 123 (.agg #[.int .i64 e, .int .i64 a]), recovered := false } :: older)) w fun e' u' w' =>
      e' = .returned (.tuple #[]) ∧ u' = .panicking ({ v := .iface 123 (.agg #[.int .i64 e, .int .i64 a]), recovered := true } :: older) ∧
      w' = ((w.setCell ⟨t, 2, none⟩ (.int .i64 e)).setCell ⟨t, 3, none⟩ (.int .i64 a)).alloc (.cells #[.int .i64 e, .int .i64 a] 123) := by
  have hta : ∀ w : World, (Instr.typeAssert (.iface 123 (.agg #[.int .i64 e, .int .i64 a])) 20 123 true).run Try.prog w = .ok (.tuple #[.agg #[.int .i64 e, .int .i64 a], .bool true]) w := fun _ => by kernel_rfl
  refine callsD_of_wpS Try.func74 rfl fun c₀ cs hu => ?_
  apply wpS_seq
  apply wpS_region
  simp [wpOpsS, go_sem, recoverD, hu, Try.ntmps74, Exit.thenS, Array.replicate, List.replicate]
  refine wpS_of_wp ?_
  go_wp2
  exact ⟨rfl, _, rfl, _, by simp [results, Try.results74, go_sem], rfl, rfl, rfl⟩

/-- The variable that holds the tape while a step is made. -/
def boxed (w : World) (t : Nat) : World := w.alloc (.cells #[.pointer (some ⟨t, 0, none⟩)] 86)

theorem do_shut (t : Nat) (fv : Value) (w : World) (er : Int) (h2 : w.cell? ⟨t, 2, none⟩ = some (.int .i64 er)) (hne : (er != 0) = true) (hlt : t < w.heap.size) :
    Calls Try.prog 49 #[.pointer (some ⟨t, 0, none⟩), fv] w fun e w' => e = .returned (.tuple #[]) ∧ w' = boxed w t := by
  go_enter_defers Try.func49, Try.ntmps49
  go_wp2
  simp [bodyPostD, Leaves, results, Try.results49, go_sem]
  rfl

/-- How the last statement of do ends. -/
def doPost (B t : Nat) (Q : Ending → World → Prop) : Exit → Act → World → Prop
  | .normal, a, w' => a.defers = [{ target := Target.fn (Fn.func 74) #[.pointer (some ⟨B, 0, none⟩)], args := #[] }] ∧ ∃ n w2, Q (.returned (.int .i64 n)) w2 ∧ w' = w2.setCell ⟨t, 1, none⟩ (.int .i64 n)
  | .panic c, a, w' => a.defers = [{ target := Target.fn (Fn.func 74) #[.pointer (some ⟨B, 0, none⟩)], args := #[] }] ∧ ∃ er b, c = gu er b ∧ Q (.panicked (gu er b)) w'
  | _, _, _ => False

/-- What a step must leave: the variable of do, the tape's cells, and an end of its own. -/
def StepEnd (B t : Nat) (e : Ending) (w' : World) : Prop :=
  w'.cell? ⟨B, 0, none⟩ = some (.pointer (some ⟨t, 0, none⟩)) ∧ (∃ v1 v2 v3, w'.cell? ⟨t, 1, none⟩ = some v1 ∧ w'.cell? ⟨t, 2, none⟩ = some v2 ∧ w'.cell? ⟨t, 3, none⟩ = some v3) ∧
    w'.frozen? ⟨t, 1, none⟩ = false ∧ w'.frozen? ⟨t, 2, none⟩ = false ∧ w'.frozen? ⟨t, 3, none⟩ = false ∧ B < w'.heap.size ∧ t < B ∧
    ((∃ n, e = .returned (.int .i64 n)) ∨ ∃ er a, e = .panicked (gu er a))

theorem do_out (B t : Nat) (Q R : Ending → World → Prop) (hQ : ∀ e w', Q e w' → StepEnd B t e w')
    (h1 : ∀ n w2, Q (.returned (.int .i64 n)) w2 → R (.returned (.tuple #[])) (w2.setCell ⟨t, 1, none⟩ (.int .i64 n)))
    (h2 : ∀ er a w2, Q (.panicked (gu er a)) w2 → R (.returned (.tuple #[])) (((w2.setCell ⟨t, 2, none⟩ (.int .i64 er)).setCell ⟨t, 3, none⟩ (.int .i64 a)).alloc (.cells #[.int .i64 er, .int .i64 a] 123)))
    (e : Exit) (a : Act) (w : World) (h : doPost B t Q e a w) : bodyPostD Try.prog Try.f49 R e a w := by
  cases e with
  | normal =>
    obtain ⟨hd, n, w2, hq, rfl⟩ := h
    obtain ⟨hb, ⟨v1, v2, v3, c1, c2, c3⟩, z1, z2, z3, hl, hlt, _⟩ := hQ _ _ hq
    show Leaves Try.prog Try.f49 a.tmps R a.defers .returning _
    rw [hd]
    refine leaves_cons (f := 74) (args := #[.pointer (some ⟨B, 0, none⟩)]) (by simp) (by simp [go_sem]) ?_
    refine (do1_idle ⟨B, 0, none⟩ _).mono ?_
    rintro e u' w'' ⟨rfl, rfl, rfl⟩
    simp [Leaves, settle, results, Try.results49, go_sem]
    exact h1 n w2 hq
  | panic c =>
    obtain ⟨hd, er, b, rfl, hq⟩ := h
    obtain ⟨hb, ⟨v1, v2, v3, c1, c2, c3⟩, z1, z2, z3, hl, hlt, _⟩ := hQ _ _ hq
    show Leaves Try.prog Try.f49 a.tmps R a.defers (.panicking (gu er b)) _
    rw [hd]
    refine leaves_cons (f := 74) (args := #[.pointer (some ⟨B, 0, none⟩)]) (by simp) (by simp [go_sem]) ?_
    refine (do1_caught B t er b [] v2 v3 w hb c2 c3 z2 z3 (by omega) hl).mono ?_
    rintro e u' w'' ⟨rfl, rfl, rfl⟩
    simp [Leaves, settle, results, Try.results49, go_sem]
    exact h2 er b w hq
  | _ => exact h.elim

set_option maxHeartbeats 1000000 in
theorem do_step (t f : Nat) (caps : Array Value) (w : World) (Q R : Ending → World → Prop) (h2 : w.cell? ⟨t, 2, none⟩ = some (.int .i64 0)) (hlt : t < w.heap.size)
    (hcf : ∀ w : World, (callFunc f caps).run Try.prog w = .ok (.enter f caps) w) (hstep : Calls Try.prog f caps (boxed w t).drew Q)
    (hQ : ∀ e w', Q e w' → StepEnd w.heap.size t e w')
    (hr : ∀ n w2, Q (.returned (.int .i64 n)) w2 → R (.returned (.tuple #[])) (w2.setCell ⟨t, 1, none⟩ (.int .i64 n)))
    (hp : ∀ er a w2, Q (.panicked (gu er a)) w2 → R (.returned (.tuple #[])) (((w2.setCell ⟨t, 2, none⟩ (.int .i64 er)).setCell ⟨t, 3, none⟩ (.int .i64 a)).alloc (.cells #[.int .i64 er, .int .i64 a] 123))) :
    Calls Try.prog 49 #[.pointer (some ⟨t, 0, none⟩), .func (.func f) #[] caps] w R := by
  have hmf : ∀ (fn : Fn) (first cap : Array Value) (w : World), (Instr.makeFunc fn first cap).run Try.prog w = .ok (.func fn first cap) w := fun _ _ _ _ => rfl
  go_enter_defers Try.func49, Try.ntmps49
  go_wp2
  refine Code.wp_mono (do_out w.heap.size t Q R hQ hr hp) ?_
  clear hr hp
  go_region_with (refine hstep.mono ?_; intro e w' hq; obtain ⟨hb, ⟨v1, v2, v3, c1, c2, c3⟩, z1, z2, z3, hl, hlt', ⟨n, rfl⟩ | ⟨er, b, rfl⟩⟩ := hQ e w' hq; rotate_left; exact ⟨rfl, er, b, rfl, hq⟩; skip)
  all_goals exact ⟨rfl, n, w', hq, rfl⟩

end Go.Proofs.Ytojgikaoiegmpaa

/- Memory: frames with a footprint, rows of bytes that are appended to. Nothing here speaks of one program. -/
namespace Go.Proofs.Ytojgikaoiegmpaa
open Go.RowKit
set_option linter.unusedSimpArgs false
set_option linter.unusedVariables false
set_option maxRecDepth 100000

/-- Of what was there in w, all blocks but those of S are as they were in w'. -/
structure Fr (S : Nat → Prop) (w w' : World) : Prop where
  os : w'.os = w.os
  tape : w'.tape = w.tape
  output : w'.output = w.output
  size : w.heap.size ≤ w'.heap.size
  block : ∀ k, k < w.heap.size → ¬ S k → w'.heap[k]? = w.heap[k]?

theorem Fr.refl (S : Nat → Prop) (w : World) : Fr S w w := ⟨rfl, rfl, rfl, Nat.le_refl _, fun _ _ _ => rfl⟩

theorem Fr.trans {S S' : Nat → Prop} {a b c : World} (h : Fr S a b) (k : Fr S' b c) (hs : ∀ i, i < a.heap.size → S' i → S i) : Fr S a c :=
  ⟨k.os.trans h.os, k.tape.trans h.tape, k.output.trans h.output, Nat.le_trans h.size k.size,
    fun i hi hn => (k.block i (Nat.lt_of_lt_of_le hi h.size) (fun e => hn (hs i hi e))).trans (h.block i hi hn)⟩

theorem Fr.mono {S S' : Nat → Prop} {a b : World} (h : Fr S a b) (hs : ∀ i, S i → S' i) : Fr S' a b :=
  ⟨h.os, h.tape, h.output, h.size, fun i hi hn => h.block i hi (fun e => hn (hs i e))⟩

theorem Fr.alloc {S : Nat → Prop} {a b : World} (h : Fr S a b) (o : Obj) : Fr S a (b.alloc o) :=
  h.trans (S' := fun _ => False) ⟨rfl, rfl, rfl, by simp, fun k hk _ => Below.heap_alloc _ _ _ hk⟩ (fun _ _ e => e.elim)

theorem Fr.drew {S : Nat → Prop} {a b : World} (h : Fr S a b) : Fr S a b.drew := ⟨h.os, h.tape, h.output, h.size, h.block⟩

theorem Fr.drewN {S : Nat → Prop} {a b : World} (h : Fr S a b) (n : Nat) : Fr S a (b.drewN n) := ⟨h.os, h.tape, h.output, h.size, h.block⟩

theorem Fr.setCell {S : Nat → Prop} {a b : World} (h : Fr S a b) {p : Addr} (hp : p.block < a.heap.size → S p.block) (u : Value) : Fr S a (b.setCell p u) :=
  h.trans (S' := fun k => k = p.block) ⟨rfl, rfl, rfl, by simp, fun k _ hn => heap_setCell_other _ _ _ _ hn⟩ (fun i hi e => by subst e; exact hp hi)

theorem Fr.grown {S : Nat → Prop} {a b c : World} {row : Option Nat} (h : Fr S a b) (hg : b.grownBy c row) (hr : ∀ k, row = some k → k < a.heap.size → S k) : Fr S a c :=
  h.trans (S' := fun k => some k = row) ⟨hg.os, hg.tape, hg.output, hg.size, fun k hk hn => hg.block k hk hn⟩ (fun i hi e => hr i e.symm hi)

theorem Fr.below {S : Nat → Prop} {w w' : World} (h : Fr S w w') {B : Nat} (hB : B ≤ w.heap.size) (hS : ∀ k, S k → B ≤ k) : Below B w w' :=
  ⟨h.os, h.tape, h.output, h.size, fun k hk => h.block k (Nat.lt_of_lt_of_le hk hB) (fun e => by have := hS k e; omega)⟩

theorem Fr.of_below {B : Nat} {w w' : World} (h : Below B w w') : Fr (fun k => B ≤ k) w w' :=
  ⟨h.os, h.tape, h.output, h.size, fun k _ hn => h.block k (by omega)⟩

theorem Fr.of_new {w w' : World} (h : Below w.heap.size w w') : Fr (fun _ => False) w w' :=
  ⟨h.os, h.tape, h.output, h.size, fun k hk _ => h.block k hk⟩

theorem cellA {w : World} {a : Addr} {v : Value} (h : w.cell? a = some v) (o : Obj) : (w.alloc o).cell? a = some v := (World.cell?_of_block (Below.heap_alloc w o _ (block_lt_of_cell h))).trans h

/-- A fact, kept from the walk. -/
theorem hideIt {p : Prop} (h : p) : Hid p := h

/-- Bytes, as cells. -/
def bv (bs : List UInt8) : List Value := bs.map fun b => Value.int .u8 b.toNat
theorem bv_length (bs : List UInt8) : (bv bs).length = bs.length := by simp [bv]
theorem bv_append (a b : List UInt8) : bv (a ++ b) = bv a ++ bv b := by simp [bv]
theorem bv_one (bs : List UInt8) : ∀ u ∈ bv bs, u.oneCell' = true := by
  intro u hu
  obtain ⟨_, _, rfl⟩ := List.mem_map.1 hu
  rfl
theorem bv_get (bs : List UInt8) (j : Nat) (h : j < bs.length) : (bv bs)[j]? = some (.int .u8 bs[j].toNat) := by simp [bv, h]

/-- A slice of bytes that lies in memory of its own. -/
def Row (w : World) (e : TypeId) (ao : Option Addr) (cap : Nat) (bs : List UInt8) : Prop := w.ownsRow 0 e 1 (.slice ao bs.length cap) bs.length (bv bs)

/-- Its block. -/
def blk (ao : Option Addr) (k : Nat) : Prop := ∃ a, ao = some a ∧ a.block = k

theorem Row.keep {w w' : World} {e : TypeId} {ao : Option Addr} {cap : Nat} {bs : List UInt8} (h : Row w e ao cap bs) (hb : ∀ k, k < w.heap.size → blk ao k → w'.heap[k]? = w.heap[k]?) : Row w' e ao cap bs := by
  refine ⟨h.1, ?_⟩
  rcases h.2 with hn | ⟨g, c, cur, hv, hg, hh, r⟩
  · exact Or.inl hn
  · refine Or.inr ⟨g, c, cur, hv, hg, ?_, r⟩
    have hlt : g < w.heap.size := (Array.getElem?_eq_some_iff.1 hh).1
    rw [hb g hlt ⟨⟨g, 0, none⟩, by simpa using (Value.slice.inj hv).1, rfl⟩]
    exact hh

theorem Row.form {w : World} {e : TypeId} {ao : Option Addr} {cap : Nat} {bs : List UInt8} (h : Row w e ao cap bs) :
    (ao = none ∧ bs = [] ∧ cap = 0) ∨ ∃ g cur, ao = some ⟨g, 0, none⟩ ∧ w.heap[g]? = some (.cells cur e (0, 0)) ∧ bs.length ≤ cap ∧ cap ≤ maxLen ∧ cur.size = cap ∧ cur.toList.take bs.length = bv bs := by
  rcases h.2 with ⟨hv, hn⟩ | ⟨g, c, cur, hv, _, hh, h1, h2, h3, h4⟩
  · obtain ⟨rfl, _, rfl⟩ := Value.slice.inj hv
    exact Or.inl ⟨rfl, List.eq_nil_of_length_eq_zero hn, rfl⟩
  · obtain ⟨rfl, _, rfl⟩ := Value.slice.inj hv
    exact Or.inr ⟨g, cur, rfl, hh, h1, h2, by simpa using h3, by simpa using h4⟩

theorem Row.lt {w : World} {e : TypeId} {ao : Option Addr} {cap : Nat} {bs : List UInt8} (h : Row w e ao cap bs) {k : Nat} (hk : blk ao k) : k < w.heap.size := by
  obtain ⟨a, rfl, rfl⟩ := hk
  rcases h.form with ⟨h0, _⟩ | ⟨g, cur, h0, hh, _⟩
  · cases h0
  · obtain rfl := Option.some.inj h0
    exact (Array.getElem?_eq_some_iff.1 hh).1

theorem Row.cell {w : World} {e : TypeId} {g : Nat} {cap : Nat} {bs : List UInt8} (h : Row w e (some ⟨g, 0, none⟩) cap bs) (j : Nat) (hj : j < bs.length) : w.cell? ⟨g, j, none⟩ = some (.int .u8 bs[j].toNat) := by
  have := World.ownsRow.cellAt h j (by simpa using hj)
  rw [this, bv_get _ _ hj]

/-- append onto bytes, of whatever is appended: the row is the same, or a new one. -/
theorem append_row {P : Program} (w : World) (t tx ty e : TypeId) (i : TypeInfo) (z : Value) (ht : P.underlying t = some (.slice e)) (hi : P.info? e = some i) (hz : i.zero = some z) (hsize : i.size = 1) (hby : i.bytes = 1) (hzs : z.cells.size = 1)
    (ao : Option Addr) (cap : Nat) (bs cs : List UInt8) (hown : Row w e ao cap bs) (x : Value) (hs : Src P 1 tx x cs.length (bv cs) w) (hb : bs.length + cs.length ≤ 140737488355328) :
    ∃ ao' cap' w', (Builtin.append_ #[t, tx] ty #[.slice ao bs.length cap, x]).run P w = .ok (.slice ao' (bs.length + cs.length) cap') w' ∧ Row w' e ao' cap' (bs ++ cs) ∧ Fr (blk ao) w w' ∧ (ao' = ao ∨ ao' = some ⟨w.heap.size, 0, none⟩) := by
  have hm : bs.length + cs.length ≤ maxLen := by unfold maxLen; omega
  have hfr : ∀ (cur : Array Value), Fr (blk ao) w (w.drew.alloc (.cells cur e)) := fun cur => (Fr.refl _ _).drew.alloc _
  have grow : cap < bs.length + cs.length → (Builtin.firstCells i.size bs.length (.slice ao bs.length cap)).run P w.drew = .ok (bv bs).toArray w.drew →
      ∃ ao' cap' w', (Builtin.append_ #[t, tx] ty #[.slice ao bs.length cap, x]).run P w = .ok (.slice ao' (bs.length + cs.length) cap') w' ∧ Row w' e ao' cap' (bs ++ cs) ∧ Fr (blk ao) w w' ∧ (ao' = ao ∨ ao' = some ⟨w.heap.size, 0, none⟩) := by
    intro hlt hold
    have hr := run_append_grow_src (P := P) w t tx ty e i z ht hi hz ao bs.length cap (bv bs) hold x cs.length (bv cs) (by rw [hsize]; exact hs) hlt (by unfold maxLen at hm; omega) (growslice_fits hlt (by rw [hby]; omega))
    refine ⟨_, _, _, hr, ?_, hfr _, Or.inr rfl⟩
    have hge := grownCap_ge w (bs.length + cs.length) cap e
    have hcm := grownCap_le_maxLen w (bs.length + cs.length) cap e hm
    refine ⟨by simp [bv_length], Or.inr ⟨w.heap.size, _, _, by simp, Nat.zero_le _, heap_alloc_new w.drew _, by simpa using hge, hcm, ?_, ?_⟩⟩
    · simp only [Array.size_append, List.size_toArray, size_zeroCells, hzs, List.length_append, bv_length, Nat.mul_one]
      omega
    · simp only [Array.toList_append, Nat.mul_one, bv_append]
      rw [show (bs ++ cs).length = (bv bs ++ bv cs).length by simp [bv_length]]
      exact List.take_left
  rcases hown.form with ⟨rfl, rfl, rfl⟩ | ⟨g, cur, rfl, hg, hle, hcm, hcs, htake⟩
  · by_cases hc : cs = []
    · subst hc
      refine ⟨none, 0, w, ?_, hown, Fr.refl _ _, Or.inl rfl⟩
      exact run_append_nothing (P := P) w t tx ty e i ht hi none 0 0 (Nat.le_refl _) x (by rw [hsize]; exact hs)
    · exact grow (by have := List.length_pos_iff.2 hc; simpa using this) (run_firstCells_none w.drew i.size 0 0 0)
  · by_cases hroom : bs.length + cs.length ≤ cap
    · have hst := run_storeCells_at P g (bs.length * i.size) e (bv cs) 0 cur w hg (by rw [hsize, bv_length, hcs]; omega) (bv_one cs)
      simp only [Nat.add_zero] at hst
      have hcells := hs.cells
      rw [← hsize] at hcells
      refine ⟨some ⟨g, 0, none⟩, cap, w.setRow g (cur.toList.take (bs.length * i.size) ++ bv cs ++ cur.toList.drop (bs.length * i.size + (bv cs).length)).toArray, ?_, ?_, ?_, Or.inl rfl⟩
      · rcases hs.kind with ⟨e', hk⟩ | hk <;> simp [Builtin.append_, run_underlying ht, run_underlying hk, sizeOf, typeInfo, hi, hs.len, hroom, hcells, Addr.add_lit, hst]
      · refine ⟨by simp [bv_length], Or.inr ⟨g, cap, _, by simp, Nat.zero_le _, setRow_heap w g cur _ e _ hg, by simpa using hroom, hcm, ?_, ?_⟩⟩
        · simp only [List.size_toArray, List.length_append, List.length_take, List.length_drop, Array.length_toList, bv_length, hsize]
          omega
        · simp only [hsize, Nat.mul_one, htake, bv_append]
          rw [show (bs ++ cs).length = (bv bs ++ bv cs).length by simp [bv_length]]
          exact List.take_left
      · exact ⟨rfl, rfl, rfl, by simp, fun k _ hk => setRow_other w g k _ (fun e => hk ⟨⟨g, 0, none⟩, rfl, by simp [e]⟩)⟩
    · refine grow (by omega) (run_firstCells_some w.drew i.size bs.length ⟨g, 0, none⟩ bs.length cap (bv bs) (by rw [hsize, bv_length]; omega) (fun j u hu => ?_))
      have := hown.cells (g := g) rfl j u hu
      simpa using this

/-- append, as one step of a region that draws its order, by its run. -/
theorem step_append_run {P : Program} {ops : Array Oper} {o : Oper} {a : Act} {w : World} {K : Act → World → Prop} {Q : Exit → Act → World → Prop} {E : Prop}
    (hg : o.guard = none) (s x : Operand) (t tx : TypeId) (hop : o.op = Op.call { callee := Callee.builtin Builtin.append, args := #[s, x], argTypes := #[t, tx] })
    (v y v' : Value) (w' : World) (hs : a.eval s = v) (hx : a.eval x = y) (hrun : (Builtin.append_ #[t, tx] o.type #[v, y]).run P w = .ok v' w') (hK : K (a.put o.dst v') w') :
    if Region.wanted o (yielded ops a.tmps) = true then Oper.wp P o a w K Q else E := by
  have hw : Region.wanted o (yielded ops a.tmps) = true := by simp [Region.wanted, hg]
  rw [if_pos hw]
  unfold Oper.wp
  simp [execOp, hop, resolve, invoke, builtin, hs, hx, hrun, Result.andThen]
  exact hK

/-- append, by its run, outside such a region. -/
theorem wpList_append_run {P : Program} (w : World) {ops : Array Oper} {rest : List Oper} {o : Oper} {a : Act} {Q : Exit → Act → World → Prop} (hgd : o.guard = none) (s x : Operand) (t tx : TypeId)
    (ho : o.op = .call { callee := .builtin .append, args := #[s, x], argTypes := #[t, tx] }) (v y v' : Value) (w' : World) (hs : a.eval s = v) (hx : a.eval x = y)
    (hrun : (Builtin.append_ #[t, tx] o.type #[v, y]).run P w = .ok v' w') (hK : wpList P ops Q rest (a.put o.dst v') w') : wpList P ops Q (o :: rest) a w := by
  refine wpList_plain hgd fun K hK' => ?_
  unfold Oper.wp
  simp [execOp, ho, resolve, invoke, builtin, hs, hx, hrun, Result.andThen]
  exact hK' _ _ hK

end Go.Proofs.Ytojgikaoiegmpaa

/- The writer of package word: what each call does to the world. -/
namespace Go.Proofs.Ytojgikaoiegmpaa
open Go.RowKit Go.IntWalk
set_option linter.unusedSimpArgs false
set_option linter.unusedVariables false
set_option maxRecDepth 100000

/-- A tape in memory. -/
structure TapeAt (w : World) (t : Nat) (ao : Option Addr) (cap : Nat) (bs : List UInt8) (at_ er ea : Int) : Prop where
  blk : w.heap[t]? = some (.cells #[.slice ao bs.length cap, .int .i64 at_, .int .i64 er, .int .i64 ea] 88 (0, 0))
  row : Row w 5 ao cap bs

/-- A writer in memory: itself, and its tape. -/
structure WAt (w : World) (p t : Nat) (ao : Option Addr) (cap : Nat) (bs : List UInt8) (at_ er ea : Int) : Prop where
  box : w.heap[p]? = some (.cells #[.pointer (some ⟨t, 0, none⟩)] 130 (0, 0))
  tp : TapeAt w t ao cap bs at_ er ea

/-- What a writer's calls may turn. -/
def wset (t : Nat) (ao : Option Addr) (k : Nat) : Prop := k = t ∨ blk ao k

section
variable {w w' : World} {p t : Nat} {ao : Option Addr} {cap : Nat} {bs : List UInt8} {at_ er ea : Int}

theorem TapeAt.lt (h : TapeAt w t ao cap bs at_ er ea) : t < w.heap.size := (Array.getElem?_eq_some_iff.1 h.blk).1
theorem WAt.lt (h : WAt w p t ao cap bs at_ er ea) : p < w.heap.size := (Array.getElem?_eq_some_iff.1 h.box).1
theorem TapeAt.c0 (h : TapeAt w t ao cap bs at_ er ea) : w.cell? ⟨t, 0, none⟩ = some (.slice ao bs.length cap) := by rw [cell_of_row w t 0 _ _ _ h.blk]; rfl
theorem TapeAt.c1 (h : TapeAt w t ao cap bs at_ er ea) : w.cell? ⟨t, 1, none⟩ = some (.int .i64 at_) := by rw [cell_of_row w t 1 _ _ _ h.blk]; rfl
theorem TapeAt.c2 (h : TapeAt w t ao cap bs at_ er ea) : w.cell? ⟨t, 2, none⟩ = some (.int .i64 er) := by rw [cell_of_row w t 2 _ _ _ h.blk]; rfl
theorem TapeAt.c3 (h : TapeAt w t ao cap bs at_ er ea) : w.cell? ⟨t, 3, none⟩ = some (.int .i64 ea) := by rw [cell_of_row w t 3 _ _ _ h.blk]; rfl
theorem TapeAt.fz (h : TapeAt w t ao cap bs at_ er ea) (j : Nat) : w.frozen? ⟨t, j, none⟩ = false := frozen_of_row w t j _ _ h.blk
theorem WAt.c (h : WAt w p t ao cap bs at_ er ea) : w.cell? ⟨p, 0, none⟩ = some (.pointer (some ⟨t, 0, none⟩)) := by rw [cell_of_row w p 0 _ _ _ h.box]; rfl

theorem TapeAt.apart (h : TapeAt w t ao cap bs at_ er ea) : ¬ Go.Proofs.Ytojgikaoiegmpaa.blk ao t := by
  rintro ⟨a, rfl, hb⟩
  rcases h.row.form with ⟨h0, _⟩ | ⟨g, cur, h0, hh, _⟩
  · cases h0
  · obtain rfl := Option.some.inj h0
    simp only at hb
    subst hb
    have := h.blk.symm.trans hh
    simp at this

theorem TapeAt.keep (h : TapeAt w t ao cap bs at_ er ea) (hb : ∀ k, k < w.heap.size → wset t ao k → w'.heap[k]? = w.heap[k]?) : TapeAt w' t ao cap bs at_ er ea :=
  ⟨(hb t h.lt (Or.inl rfl)).trans h.blk, h.row.keep (fun k hk e => hb k hk (Or.inr e))⟩

theorem WAt.keep (h : WAt w p t ao cap bs at_ er ea) (hp : w'.heap[p]? = w.heap[p]?) (hb : ∀ k, k < w.heap.size → wset t ao k → w'.heap[k]? = w.heap[k]?) : WAt w' p t ao cap bs at_ er ea :=
  ⟨hp.trans h.box, h.tp.keep hb⟩

/-- Where a frame turns nothing of a writer's, it is as it was. -/
theorem WAt.fr {S : Nat → Prop} (h : WAt w p t ao cap bs at_ er ea) (hf : Fr S w w') (hp : ¬ S p) (hS : ∀ k, wset t ao k → ¬ S k) : WAt w' p t ao cap bs at_ er ea :=
  h.keep (hf.block p h.lt hp) (fun k hk e => hf.block k hk (hS k e))

theorem TapeAt.fr {S : Nat → Prop} (h : TapeAt w t ao cap bs at_ er ea) (hf : Fr S w w') (hS : ∀ k, wset t ao k → ¬ S k) : TapeAt w' t ao cap bs at_ er ea :=
  h.keep (fun k hk e => hf.block k hk (hS k e))

theorem WAt.ne (h : WAt w p t ao cap bs at_ er ea) : p ≠ t := by
  rintro rfl
  have := h.box.symm.trans h.tp.blk
  simp at this

theorem WAt.apart (h : WAt w p t ao cap bs at_ er ea) : ¬ Go.Proofs.Ytojgikaoiegmpaa.blk ao p := by
  rintro ⟨a, rfl, hb⟩
  rcases h.tp.row.form with ⟨h0, _⟩ | ⟨g, cur, h0, hh, _⟩
  · cases h0
  · obtain rfl := Option.some.inj h0
    simp only at hb
    subst hb
    have := h.box.symm.trans hh
    simp at this

theorem WAt.pset (h : WAt w p t ao cap bs at_ er ea) : ¬ wset t ao p := by
  rintro (e | e)
  · exact h.ne e
  · exact h.apart e
end

/-- A number by sevens, at most f bytes and one. -/
def sevensF : Nat → Nat → List UInt8
  | 0, n => [UInt8.ofNat n]
  | f + 1, n => if n < 128 then [UInt8.ofNat n] else UInt8.ofNat (n % 128 + 128) :: sevensF f (n / 128)

theorem sevensF_eq (f : Nat) : ∀ g n, n < 128 ^ (f + 1) → n < 128 ^ (g + 1) → sevensF f n = sevensF g n := by
  induction f with
  | zero =>
    intro g n h _
    cases g with
    | zero => rfl
    | succ g => simp only [sevensF]; rw [if_pos (by omega)]
  | succ f ih =>
    intro g n h h'
    by_cases h1 : n < 128
    · cases g with
      | zero => simp only [sevensF]; rw [if_pos h1]
      | succ g => simp only [sevensF]; rw [if_pos h1, if_pos h1]
    · cases g with
      | zero => omega
      | succ g =>
        simp only [sevensF]
        rw [if_neg h1, if_neg h1, ih g (n / 128) (by rw [Nat.div_lt_iff_lt_mul (by omega)]; rw [Nat.pow_succ] at h; exact h) (by rw [Nat.div_lt_iff_lt_mul (by omega)]; rw [Nat.pow_succ] at h'; exact h')]

/-- A number by sevens. -/
def sevens (n : Nat) : List UInt8 := sevensF n n

theorem lt_pow (n : Nat) : n < 128 ^ (n + 1) := Nat.lt_of_lt_of_le (Nat.lt_pow_self (by decide)) (Nat.pow_le_pow_right (by decide) (Nat.le_succ n))

theorem sevens_lt {n : Nat} (h : n < 128) : sevens n = [UInt8.ofNat n] := by
  unfold sevens
  cases n with
  | zero => rfl
  | succ n => simp only [sevensF]; rw [if_pos h]
theorem sevens_ge {n : Nat} (h : ¬ n < 128) : sevens n = UInt8.ofNat (n % 128 + 128) :: sevens (n / 128) := by
  unfold sevens
  cases n with
  | zero => omega
  | succ n =>
    have e : sevensF (n + 1) (n + 1) = UInt8.ofNat ((n + 1) % 128 + 128) :: sevensF n ((n + 1) / 128) := by simp only [sevensF]; rw [if_neg h]
    rw [e, sevensF_eq n ((n + 1) / 128) ((n + 1) / 128) (by have := lt_pow n; omega) (lt_pow _)]

/-- fail, told in two ways, of which the second is none: a region's walk wants a way that goes on. -/
theorem fail_two (v : Value) (e a : Int) (w : World) : Calls Try.prog 76 #[v, .int .i64 e, .int .i64 a] w fun e' w' => (e' = .panicked (gu e a) ∧ w' = w) ∨ (e' = .returned (.tuple #[]) ∧ w' = w ∧ Hid False) :=
  (fail_any v e a w).mono fun _ _ h => Or.inl h

theorem sevens_pos (n : Nat) : 0 < (sevens n).length := by
  by_cases h : n < 128
  · simp [sevens_lt h]
  · simp [sevens_ge h]

theorem sevens_le (k : Nat) : ∀ n, n < 128 ^ (k + 1) → (sevens n).length ≤ k + 1 := by
  induction k with
  | zero => intro n h; rw [sevens_lt (by omega)]; simp
  | succ k ih =>
    intro n h
    by_cases h1 : n < 128
    · simp [sevens_lt h1]
    · rw [sevens_ge h1]
      have : n / 128 < 128 ^ (k + 1) := by rw [Nat.div_lt_iff_lt_mul (by omega)]; rw [Nat.pow_succ] at h; exact h
      have := ih _ this
      simp only [List.length_cons]
      omega

theorem pow9 : (128 : Nat) ^ (8 + 1) = 9223372036854775808 := by decide
theorem sevens_nine {n : Nat} (h : n ≤ 9223372036854775807) : (sevens n).length ≤ 9 := sevens_le 8 n (by rw [pow9]; omega)

theorem number_neg (p t : Nat) (ao : Option Addr) (cap : Nat) (bs : List UInt8) (at_ er ea n : Int) (w : World) (h : WAt w p t ao cap bs at_ er ea) (hn : n < 0) :
    Calls Try.prog 83 #[.pointer (some ⟨p, 0, none⟩), .int .i64 n] w fun e w' => e = .panicked (gu 5 at_) ∧ ∃ k, w' = w.drewN k := by
  have hc := h.c
  have h1 := h.tp.c1
  go_enter Try.func83, Try.ntmps83
  go_wp2
  go_region_with (go_at_call 76; refine (fail_two _ _ _ _).mono ?_; rintro e w' (⟨rfl, rfl⟩ | ⟨rfl, rfl, hF⟩); exact ⟨rfl, rfl, 1, rfl⟩; skip)
  all_goals exact hF.out.elim

theorem Try.infoU8 : (Try.prog.info? 5).map (fun i => (i.zero, i.size, i.bytes)) = some (some (.int .u8 0), 1, 1) := by kernel_rfl

/-- append of whatever, at this program. -/
theorem app_row (w : World) (tx : TypeId) (ao : Option Addr) (cap : Nat) (bs cs : List UInt8) (hown : Row w 5 ao cap bs) (x : Value) (hs : Src Try.prog 1 tx x cs.length (bv cs) w) (hb : bs.length + cs.length ≤ 140737488355328) :
    ∃ ao' cap' w', (Builtin.append_ #[22, tx] 22 #[.slice ao bs.length cap, x]).run Try.prog w = .ok (.slice ao' (bs.length + cs.length) cap') w' ∧ Row w' 5 ao' cap' (bs ++ cs) ∧ Fr (blk ao) w w' ∧ (ao' = ao ∨ ao' = some ⟨w.heap.size, 0, none⟩) := by
  obtain ⟨i0, hi, hz0, hz1, hz2⟩ := info_parts Try.infoU8
  exact append_row w 22 tx 22 5 i0 (.int .u8 0) Try.underlying22 hi hz0 hz1 hz2 rfl ao cap bs cs hown x hs hb

theorem Row.alloc {w : World} {e : TypeId} {ao : Option Addr} {cap : Nat} {bs : List UInt8} (h : Row w e ao cap bs) (o : Obj) : Row (w.alloc o) e ao cap bs := h.keep (fun k hk _ => Below.heap_alloc w o k hk)
theorem Row.drew {w : World} {e : TypeId} {ao : Option Addr} {cap : Nat} {bs : List UInt8} (h : Row w e ao cap bs) : Row w.drew e ao cap bs := h

/-- One byte, laid and appended. -/
theorem app_byte (wr : World) (ao : Option Addr) (cap : Nat) (bs : List UInt8) (h : Row wr 5 ao cap bs) (x : Int) (b : UInt8) (hx : x = b.toNat) (hb : bs.length + 1 ≤ 140737488355328) :
    ∃ ao' cap' w1, (Builtin.append_ #[22, 22] 22 #[.slice ao bs.length cap, .slice (some ⟨wr.heap.size, 0, none⟩) 1 1]).run Try.prog (wr.alloc (.cells #[.int .u8 x] 5)).drew = .ok (.slice ao' (bs.length + 1) cap') w1 ∧
      Row w1 5 ao' cap' (bs ++ [b]) ∧ Fr (blk ao) wr w1 ∧ (ao' = ao ∨ ∀ k, blk ao' k → wr.heap.size ≤ k) := by
  subst hx
  have hs : Src Try.prog 1 22 (.slice (some ⟨wr.heap.size, 0, none⟩) 1 1) 1 (bv [b]) (wr.alloc (.cells #[.int .u8 b.toNat] 5)).drew := by
    refine Src.ofSlice _ Try.underlying22 ⟨wr.heap.size, 0, none⟩ 1 1 (bv [b]) rfl (fun j u hu => ?_) (bv_one _)
    match j, hu with
    | 0, hu => simp [bv] at hu; subst hu; simp [Addr.add]
  obtain ⟨ao', cap', w1, h1, h2, h3, h4⟩ := app_row (wr.alloc (.cells #[.int .u8 b.toNat] 5)).drew 22 ao cap bs [b] (h.alloc _).drew _ hs hb
  refine ⟨ao', cap', w1, h1, h2, ((Fr.refl (blk ao) wr).alloc _).drew.trans h3 (fun _ _ e => e), ?_⟩
  rcases h4 with h4 | h4
  · exact Or.inl h4
  · refine Or.inr fun k hk => ?_
    obtain ⟨a, e1, e2⟩ := hk
    rw [h4] at e1
    obtain rfl := Option.some.inj e1
    simp at e2
    omega

theorem WAt.stored {w w1 : World} {p t : Nat} {ao ao' : Option Addr} {cap cap' : Nat} {bs bs' : List UInt8} {at_ er ea : Int} (h : WAt w p t ao cap bs at_ er ea) (hf : Fr (blk ao) w w1) (hr : Row w1 5 ao' cap' bs') (hao : ao' = ao ∨ ∀ k, blk ao' k → w.heap.size ≤ k) :
    WAt (w1.setCell ⟨t, 0, none⟩ (.slice ao' bs'.length cap')) p t ao' cap' bs' at_ er ea ∧ Fr (wset t ao) w (w1.setCell ⟨t, 0, none⟩ (.slice ao' bs'.length cap')) := by
  have ht := (hf.block t h.tp.lt h.tp.apart).trans h.tp.blk
  have hne : ∀ k, blk ao' k → k ≠ t := fun k hk e => by
    subst e
    rcases hao with rfl | hao
    · exact h.tp.apart hk
    · have := hao _ hk; have := h.tp.lt; omega
  refine ⟨⟨?_, ?_, ?_⟩, (hf.mono (S' := wset t ao) fun k e => Or.inr e).setCell (fun _ => Or.inl rfl) _⟩
  · rw [heap_setCell_other _ _ _ _ h.ne]
    exact (hf.block p h.lt h.apart).trans h.box
  · rw [heap_setCell_same _ _ _ _ _ _ ht]; rfl
  · exact hr.keep fun k _ e => heap_setCell_other _ _ _ _ (hne k e)

theorem byte_more (m : Nat) (hm : m ≤ 9223372036854775807) : IntKind.u8.wrap (IntKind.i64.wrap ((m : Int).tmod 128 + 128)) = ((UInt8.ofNat (m % 128 + 128)).toNat : Int) := by
  rw [rem_in _ _ (by omega), i64_in _ (by omega), u8_in _ (by omega)]
  simp
  omega

theorem byte_last (m : Nat) (hm : m < 128) : IntKind.u8.wrap (m : Int) = ((UInt8.ofNat m).toNat : Int) := by
  rw [u8_in _ (by omega)]
  simp
  omega

theorem fresh_trans {w wr : World} {a b c : Option Addr} (hs : w.heap.size ≤ wr.heap.size) (h : b = a ∨ ∀ k, blk b k → w.heap.size ≤ k) (h' : c = b ∨ ∀ k, blk c k → wr.heap.size ≤ k) : c = a ∨ ∀ k, blk c k → w.heap.size ≤ k := by
  rcases h' with rfl | h'
  · exact h
  · exact Or.inr fun k hk => Nat.le_trans hs (h' k hk)

theorem wset_trans {w wr w' : World} {t : Nat} {a b : Option Addr} (h : Fr (wset t a) w wr) (hb : b = a ∨ ∀ k, blk b k → w.heap.size ≤ k) (h' : Fr (wset t b) wr w') : Fr (wset t a) w w' := by
  refine h.trans h' fun i hi e => ?_
  rcases e with e | e
  · exact Or.inl e
  · rcases hb with rfl | hb
    · exact Or.inr e
    · have := hb i e; omega

set_option maxRecDepth 100000 in
set_option maxHeartbeats 1000000 in
theorem number_nat (p t : Nat) (ao : Option Addr) (cap : Nat) (bs : List UInt8) (at_ er ea : Int) (n : Nat) (w : World) (h : WAt w p t ao cap bs at_ er ea) (hn : n ≤ 9223372036854775807) (hb : bs.length + 20 ≤ 140737488355328) :
    Calls Try.prog 83 #[.pointer (some ⟨p, 0, none⟩), .int .i64 n] w fun e w' => e = .returned (.tuple #[]) ∧ ∃ ao' cap', WAt w' p t ao' cap' (bs ++ sevens n) at_ er ea ∧ Fr (wset t ao) w w' ∧ (ao' = ao ∨ ∀ k, blk ao' k → w.heap.size ≤ k) := by
  go_enter Try.func83, Try.ntmps83
  go_wp2
  go_loopw [1] (fun x wr => ∃ (m : Nat) (cs : List UInt8) (aor : Option Addr) (capr : Nat), x = .int .i64 m ∧ m ≤ n ∧ cs.length + (sevens m).length ≤ bs.length + 19 ∧ cs ++ sevens m = bs ++ sevens n ∧ WAt wr p t aor capr cs at_ er ea ∧ Fr (wset t ao) w wr ∧ (aor = ao ∨ ∀ k, blk aor k → w.heap.size ≤ k))
    (fun x _ => (intOf x).toNat)
  case atStart => exact ⟨n, bs, ao, cap, rfl, Nat.le_refl _, by have := sevens_nine hn; omega, rfl, h, Fr.refl _ _, Or.inl rfl⟩
  case round =>
    obtain ⟨m, cs, aor, capr, rfl, hm, hlen, hpre, hW, hF, hao⟩ := hrel
    by_cases hge : 128 ≤ m
    · obtain ⟨ao1, cap1, w1, hrun, hrow, hf1, hao1⟩ := app_byte wr aor capr cs hW.tp.row _ _ (byte_more m (by omega)) (by omega)
      have HP : Hid (cs ++ sevens m = bs ++ sevens n) := hpre
      have HR : Hid _ := hrun
      have hst := hW.stored hf1 hrow hao1
      rw [List.length_append, List.length_singleton] at hst
      have hst : Hid _ := hst
      have hc := hW.c
      have h0 := hW.tp.c0
      have hz := hW.tp.fz 0
      have hpl := hW.lt
      have htl := hW.tp.lt
      have hc1 : w1.cell? ⟨p, 0, none⟩ = _ := (World.cell?_of_block (a := ⟨p, 0, none⟩) (hf1.block p hpl hW.apart)).trans hc
      have h01 : w1.cell? ⟨t, 0, none⟩ = _ := (World.cell?_of_block (a := ⟨t, 0, none⟩) (hf1.block t htl hW.tp.apart)).trans h0
      have hz1 : w1.frozen? ⟨t, 0, none⟩ = _ := (World.frozen?_of_block (a := ⟨t, 0, none⟩) (hf1.block t htl hW.tp.apart)).trans hz
      have hne := hW.ne
      have hne' := hW.ne.symm
      clear hpre hrun
      go_wp2
      refine wp_region_held_drew (S := fun w' => w'.cell? ⟨p, 0, none⟩ = some (.pointer (some ⟨t, 0, none⟩))) (by kernel_rfl) ?_ (fun hHeld => ?_)
      · exact hc
      refine wpAnyH_take (i := 0) (v := ?v1) rfl (by kernel_rfl) (by kernel_rfl) (by kernel_rfl) (fun _ _ _ h => h) (Or.inl ⟨by rfl, ?hy1⟩) (by assumption) ?rest1
      case hy1 => intro w hSw; (try dsimp only at hSw); go_simp; (try with_reducible rfl)
      try simp only [Act.put, List.setIfInBounds_toArray, List.set_cons_zero, List.set_cons_succ]
      refine wpAnyH_take (i := 1) (v := ?v2) rfl (by kernel_rfl) (by kernel_rfl) (by kernel_rfl) (fun _ _ _ h => h) (Or.inl ⟨by rfl, ?hy2⟩) (by assumption) ?rest2
      case hy2 => intro w hSw; (try dsimp only at hSw); go_simp; (try with_reducible rfl)
      try simp only [Act.put, List.setIfInBounds_toArray, List.set_cons_zero, List.set_cons_succ]
      refine wpAnyH_take (i := 2) (v := ?v3) rfl (by kernel_rfl) (by kernel_rfl) (by kernel_rfl) (fun _ _ _ h => h) (Or.inl ⟨by rfl, ?hy3⟩) (by assumption) ?rest3
      case hy3 => intro w hSw; (try dsimp only at hSw); go_simp; (try with_reducible rfl)
      try simp only [Act.put, List.setIfInBounds_toArray, List.set_cons_zero, List.set_cons_succ]
      refine wpAnyH_take (i := 3) (v := ?v4) rfl (by kernel_rfl) (by kernel_rfl) (by kernel_rfl) (fun _ _ _ h => h) (Or.inl ⟨by rfl, ?hy4⟩) (by assumption) ?rest4
      case hy4 => intro w hSw; (try dsimp only at hSw); go_simp; (try with_reducible rfl)
      try simp only [Act.put, List.setIfInBounds_toArray, List.set_cons_zero, List.set_cons_succ]
      refine wpAnyH_take (i := 4) (v := ?v5) rfl (by kernel_rfl) (by kernel_rfl) (by kernel_rfl) (fun _ _ _ h => h) (Or.inl ⟨by rfl, ?hy5⟩) (by assumption) ?rest5
      case hy5 => intro w hSw; (try dsimp only at hSw); go_simp; (try with_reducible rfl)
      try simp only [Act.put, List.setIfInBounds_toArray, List.set_cons_zero, List.set_cons_succ]
      refine wpAnyH_take (i := 5) (v := ?v6) rfl (by kernel_rfl) (by kernel_rfl) (by kernel_rfl) (fun _ _ _ h => h) (Or.inl ⟨by rfl, ?hy6⟩) (by assumption) ?rest6
      case hy6 => intro w hSw; (try dsimp only at hSw); go_simp; (try with_reducible rfl)
      try simp only [Act.put, List.setIfInBounds_toArray, List.set_cons_zero, List.set_cons_succ]
      refine wpAnyH_take (i := 6) (v := ?v7) rfl (by kernel_rfl) (by kernel_rfl) (by kernel_rfl) (fun _ _ _ h => h) (Or.inl ⟨by rfl, ?hy7⟩) (by assumption) ?rest7
      case hy7 => intro w hSw; (try dsimp only at hSw); go_simp; (try with_reducible rfl)
      try simp only [Act.put, List.setIfInBounds_toArray, List.set_cons_zero, List.set_cons_succ]
      refine wpAnyH_take (i := 7) (v := ?v8) rfl (by kernel_rfl) (by kernel_rfl) (by kernel_rfl) (fun _ _ _ h => h) (Or.inl ⟨by rfl, ?hy8⟩) (by assumption) ?rest8
      case hy8 => intro w hSw; (try dsimp only at hSw); go_simp; (try with_reducible rfl)
      try simp only [Act.put, List.setIfInBounds_toArray, List.set_cons_zero, List.set_cons_succ]
      refine wpAnyH_take (i := 8) (v := ?v9) rfl (by kernel_rfl) (by kernel_rfl) (by kernel_rfl) (fun _ _ _ h => h) (Or.inl ⟨by rfl, ?hy9⟩) (by assumption) ?rest9
      case hy9 => intro w hSw; (try dsimp only at hSw); go_simp; (try with_reducible rfl)
      try simp only [Act.put, List.setIfInBounds_toArray, List.set_cons_zero, List.set_cons_succ]
      refine wpAnyH_take (i := 9) (v := ?v10) rfl (by kernel_rfl) (by kernel_rfl) (by kernel_rfl) (fun _ _ _ h => h) (Or.inl ⟨by rfl, ?hy10⟩) (by assumption) ?rest10
      case hy10 => intro w hSw; (try dsimp only at hSw); go_simp; (try with_reducible rfl)
      try simp only [Act.put, List.setIfInBounds_toArray, List.set_cons_zero, List.set_cons_succ]
      refine wpAnyH_take (i := 11) (v := ?v11) rfl (by kernel_rfl) (by kernel_rfl) (by kernel_rfl) (fun _ _ _ h => h) (Or.inl ⟨by rfl, ?hy11⟩) (by assumption) ?rest11
      case hy11 => intro w hSw; (try dsimp only at hSw); go_simp; (try with_reducible rfl)
      try simp only [Act.put, List.setIfInBounds_toArray, List.set_cons_zero, List.set_cons_succ]
      refine wpAnyH_take (i := 12) (v := ?v12) rfl (by kernel_rfl) (by kernel_rfl) (by kernel_rfl) (fun _ _ _ h => h) (Or.inl ⟨by rfl, ?hy12⟩) (by assumption) ?rest12
      case hy12 => intro w hSw; (try dsimp only at hSw); go_simp; (try with_reducible rfl)
      try simp only [Act.put, List.setIfInBounds_toArray, List.set_cons_zero, List.set_cons_succ]
      refine wpAnyH_take (i := 13) (v := ?v13) rfl (by kernel_rfl) (by kernel_rfl) (by kernel_rfl) (fun _ _ _ h => h) (Or.inl ⟨by rfl, ?hy13⟩) (by assumption) ?rest13
      case hy13 => intro w hSw; (try dsimp only at hSw); go_simp; (try with_reducible rfl)
      try simp only [Act.put, List.setIfInBounds_toArray, List.set_cons_zero, List.set_cons_succ]
      refine wpAnyH_take (i := 14) (v := ?v14) rfl (by kernel_rfl) (by kernel_rfl) (by kernel_rfl) (fun _ _ _ h => h) (Or.inl ⟨by rfl, ?hy14⟩) (by assumption) ?rest14
      case hy14 => intro w hSw; (try dsimp only at hSw); go_simp; (try with_reducible rfl)
      try simp only [Act.put, List.setIfInBounds_toArray, List.set_cons_zero, List.set_cons_succ]
      refine wpAnyH_ready (rs := [10, 15]) (by kernel_rfl) (by simp) ?_
      refine AllReadyH.cons rfl (fun K hK => ?_) ?_
      · go_simp
        refine hK.out _ _ ?_ (fun hHeld => ?_)
        · exact hc
        clear hK K
        try simp only [Act.put, List.setIfInBounds_toArray, List.set_cons_zero, List.set_cons_succ]
        refine wpAnyH_ready (rs := [15]) (by kernel_rfl) (by simp) ?_
        refine AllReadyH.cons rfl (fun K hK => ?_) AllReadyH.nil
        go_simp
        refine hK.out _ _ ?_ (fun hHeld => ?_)
        · exact cellA hc _
        clear hK K
        try simp only [Act.put, List.setIfInBounds_toArray, List.set_cons_zero, List.set_cons_succ]
        refine wpAnyH_ready (rs := [16]) (by kernel_rfl) (by simp) ?_
        refine AllReadyH.cons rfl (fun K hK => ?_) AllReadyH.nil
        refine step_append_run rfl (.tmp 32) (.tmp 37) 22 22 rfl _ _ _ _ rfl rfl HR.out ?_
        refine hK.out _ _ ?_ (fun hHeld => ?_)
        · exact hc1
        clear hK K
        try simp only [Act.put, List.setIfInBounds_toArray, List.set_cons_zero, List.set_cons_succ]
        refine wpAnyH_take (i := 17) (v := ?v15) rfl (by kernel_rfl) (by kernel_rfl) (by kernel_rfl) (fun _ _ _ h => h) (Or.inl ⟨by rfl, ?hy15⟩) (by assumption) ?rest15
        case hy15 => intro w hSw; (try dsimp only at hSw); go_simp; (try with_reducible rfl)
        try simp only [Act.put, List.setIfInBounds_toArray, List.set_cons_zero, List.set_cons_succ]
        refine wpAnyH_take (i := 18) (v := ?v16) rfl (by kernel_rfl) (by kernel_rfl) (by kernel_rfl) (fun _ _ _ h => h) (Or.inl ⟨by rfl, ?hy16⟩) (by assumption) ?rest16
        case hy16 => intro w hSw; (try dsimp only at hSw); go_simp; (try with_reducible rfl)
        try simp only [Act.put, List.setIfInBounds_toArray, List.set_cons_zero, List.set_cons_succ]
        refine wpAnyH_ready (rs := [19]) (by kernel_rfl) (by simp) ?_
        refine AllReadyH.cons rfl (fun K hK => ?_) AllReadyH.nil
        go_simp
        refine hK.out _ _ ?_ (fun hHeld => ?_)
        · exact hst.out.1.c
        clear hK K
        try simp only [Act.put, List.setIfInBounds_toArray, List.set_cons_zero, List.set_cons_succ]
        refine wpAnyH_done (by kernel_rfl) ?_ _
        go_wp2
        go_roundw
        case measure => simp [intOf]; omega
        case rel => exact ⟨m / 128, cs ++ [UInt8.ofNat (m % 128 + 128)], ao1, cap1, by go_num, by omega, by rw [sevens_ge (by omega)] at hlen; simp at hlen ⊢; omega, by have := HP.out; rw [sevens_ge (by omega)] at this; rw [← this]; simp, hst.out.1, wset_trans hF hao hst.out.2, fresh_trans hF.size hao hao1⟩
      refine AllReadyH.cons rfl (fun K hK => ?_) ?_
      · go_simp
        refine hK.out _ _ ?_ (fun hHeld => ?_)
        · exact cellA hc _
        clear hK K
        try simp only [Act.put, List.setIfInBounds_toArray, List.set_cons_zero, List.set_cons_succ]
        refine wpAnyH_ready (rs := [10]) (by kernel_rfl) (by simp) ?_
        refine AllReadyH.cons rfl (fun K hK => ?_) AllReadyH.nil
        go_simp
        refine hK.out _ _ ?_ (fun hHeld => ?_)
        · exact cellA hc _
        clear hK K
        try simp only [Act.put, List.setIfInBounds_toArray, List.set_cons_zero, List.set_cons_succ]
        refine wpAnyH_ready (rs := [16]) (by kernel_rfl) (by simp) ?_
        refine AllReadyH.cons rfl (fun K hK => ?_) AllReadyH.nil
        refine step_append_run rfl (.tmp 32) (.tmp 37) 22 22 rfl _ _ _ _ rfl rfl HR.out ?_
        refine hK.out _ _ ?_ (fun hHeld => ?_)
        · exact hc1
        clear hK K
        try simp only [Act.put, List.setIfInBounds_toArray, List.set_cons_zero, List.set_cons_succ]
        refine wpAnyH_take (i := 17) (v := ?v17) rfl (by kernel_rfl) (by kernel_rfl) (by kernel_rfl) (fun _ _ _ h => h) (Or.inl ⟨by rfl, ?hy17⟩) (by assumption) ?rest17
        case hy17 => intro w hSw; (try dsimp only at hSw); go_simp; (try with_reducible rfl)
        try simp only [Act.put, List.setIfInBounds_toArray, List.set_cons_zero, List.set_cons_succ]
        refine wpAnyH_take (i := 18) (v := ?v18) rfl (by kernel_rfl) (by kernel_rfl) (by kernel_rfl) (fun _ _ _ h => h) (Or.inl ⟨by rfl, ?hy18⟩) (by assumption) ?rest18
        case hy18 => intro w hSw; (try dsimp only at hSw); go_simp; (try with_reducible rfl)
        try simp only [Act.put, List.setIfInBounds_toArray, List.set_cons_zero, List.set_cons_succ]
        refine wpAnyH_ready (rs := [19]) (by kernel_rfl) (by simp) ?_
        refine AllReadyH.cons rfl (fun K hK => ?_) AllReadyH.nil
        go_simp
        refine hK.out _ _ ?_ (fun hHeld => ?_)
        · exact hst.out.1.c
        clear hK K
        try simp only [Act.put, List.setIfInBounds_toArray, List.set_cons_zero, List.set_cons_succ]
        refine wpAnyH_done (by kernel_rfl) ?_ _
        go_wp2
        go_roundw
        case measure => simp [intOf]; omega
        case rel => exact ⟨m / 128, cs ++ [UInt8.ofNat (m % 128 + 128)], ao1, cap1, by go_num, by omega, by rw [sevens_ge (by omega)] at hlen; simp at hlen ⊢; omega, by have := HP.out; rw [sevens_ge (by omega)] at this; rw [← this]; simp, hst.out.1, wset_trans hF hao hst.out.2, fresh_trans hF.size hao hao1⟩
      exact AllReadyH.nil
    · have hlt : m < 128 := by omega
      obtain ⟨ao1, cap1, w1, hrun, hrow, hf1, hao1⟩ := app_byte wr aor capr cs hW.tp.row _ _ (byte_last m hlt) (by omega)
      have HP : Hid (cs ++ sevens m = bs ++ sevens n) := hpre
      have HR : Hid _ := hrun
      have hst := hW.stored hf1 hrow hao1
      rw [List.length_append, List.length_singleton] at hst
      have hst : Hid _ := hst
      have hc := hW.c
      have h0 := hW.tp.c0
      have hz := hW.tp.fz 0
      have hpl := hW.lt
      have htl := hW.tp.lt
      have hc1 : w1.cell? ⟨p, 0, none⟩ = _ := (World.cell?_of_block (a := ⟨p, 0, none⟩) (hf1.block p hpl hW.apart)).trans hc
      have h01 : w1.cell? ⟨t, 0, none⟩ = _ := (World.cell?_of_block (a := ⟨t, 0, none⟩) (hf1.block t htl hW.tp.apart)).trans h0
      have hz1 : w1.frozen? ⟨t, 0, none⟩ = _ := (World.frozen?_of_block (a := ⟨t, 0, none⟩) (hf1.block t htl hW.tp.apart)).trans hz
      clear hpre hrun
      go_wp2
      refine wp_region_held_drew (S := fun w' => w'.cell? ⟨p, 0, none⟩ = some (.pointer (some ⟨t, 0, none⟩))) (by kernel_rfl) ?_ (fun hHeld => ?_)
      · exact hc
      refine wpAnyH_take (i := 0) (v := ?v19) rfl (by kernel_rfl) (by kernel_rfl) (by kernel_rfl) (fun _ _ _ h => h) (Or.inl ⟨by rfl, ?hy19⟩) (by assumption) ?rest19
      case hy19 => intro w hSw; (try dsimp only at hSw); go_simp; (try with_reducible rfl)
      try simp only [Act.put, List.setIfInBounds_toArray, List.set_cons_zero, List.set_cons_succ]
      refine wpAnyH_take (i := 1) (v := ?v20) rfl (by kernel_rfl) (by kernel_rfl) (by kernel_rfl) (fun _ _ _ h => h) (Or.inl ⟨by rfl, ?hy20⟩) (by assumption) ?rest20
      case hy20 => intro w hSw; (try dsimp only at hSw); go_simp; (try with_reducible rfl)
      try simp only [Act.put, List.setIfInBounds_toArray, List.set_cons_zero, List.set_cons_succ]
      refine wpAnyH_take (i := 2) (v := ?v21) rfl (by kernel_rfl) (by kernel_rfl) (by kernel_rfl) (fun _ _ _ h => h) (Or.inl ⟨by rfl, ?hy21⟩) (by assumption) ?rest21
      case hy21 => intro w hSw; (try dsimp only at hSw); go_simp; (try with_reducible rfl)
      try simp only [Act.put, List.setIfInBounds_toArray, List.set_cons_zero, List.set_cons_succ]
      refine wpAnyH_take (i := 3) (v := ?v22) rfl (by kernel_rfl) (by kernel_rfl) (by kernel_rfl) (fun _ _ _ h => h) (Or.inl ⟨by rfl, ?hy22⟩) (by assumption) ?rest22
      case hy22 => intro w hSw; (try dsimp only at hSw); go_simp; (try with_reducible rfl)
      try simp only [Act.put, List.setIfInBounds_toArray, List.set_cons_zero, List.set_cons_succ]
      refine wpAnyH_take (i := 4) (v := ?v23) rfl (by kernel_rfl) (by kernel_rfl) (by kernel_rfl) (fun _ _ _ h => h) (Or.inl ⟨by rfl, ?hy23⟩) (by assumption) ?rest23
      case hy23 => intro w hSw; (try dsimp only at hSw); go_simp; (try with_reducible rfl)
      try simp only [Act.put, List.setIfInBounds_toArray, List.set_cons_zero, List.set_cons_succ]
      refine wpAnyH_take (i := 5) (v := ?v24) rfl (by kernel_rfl) (by kernel_rfl) (by kernel_rfl) (fun _ _ _ h => h) (Or.inl ⟨by rfl, ?hy24⟩) (by assumption) ?rest24
      case hy24 => intro w hSw; (try dsimp only at hSw); go_simp; (try with_reducible rfl)
      try simp only [Act.put, List.setIfInBounds_toArray, List.set_cons_zero, List.set_cons_succ]
      refine wpAnyH_take (i := 6) (v := ?v25) rfl (by kernel_rfl) (by kernel_rfl) (by kernel_rfl) (fun _ _ _ h => h) (Or.inl ⟨by rfl, ?hy25⟩) (by assumption) ?rest25
      case hy25 => intro w hSw; (try dsimp only at hSw); go_simp; (try with_reducible rfl)
      try simp only [Act.put, List.setIfInBounds_toArray, List.set_cons_zero, List.set_cons_succ]
      refine wpAnyH_take (i := 7) (v := ?v26) rfl (by kernel_rfl) (by kernel_rfl) (by kernel_rfl) (fun _ _ _ h => h) (Or.inl ⟨by rfl, ?hy26⟩) (by assumption) ?rest26
      case hy26 => intro w hSw; (try dsimp only at hSw); go_simp; (try with_reducible rfl)
      try simp only [Act.put, List.setIfInBounds_toArray, List.set_cons_zero, List.set_cons_succ]
      refine wpAnyH_take (i := 8) (v := ?v27) rfl (by kernel_rfl) (by kernel_rfl) (by kernel_rfl) (fun _ _ _ h => h) (Or.inl ⟨by rfl, ?hy27⟩) (by assumption) ?rest27
      case hy27 => intro w hSw; (try dsimp only at hSw); go_simp; (try with_reducible rfl)
      try simp only [Act.put, List.setIfInBounds_toArray, List.set_cons_zero, List.set_cons_succ]
      refine wpAnyH_take (i := 9) (v := ?v28) rfl (by kernel_rfl) (by kernel_rfl) (by kernel_rfl) (fun _ _ _ h => h) (Or.inl ⟨by rfl, ?hy28⟩) (by assumption) ?rest28
      case hy28 => intro w hSw; (try dsimp only at hSw); go_simp; (try with_reducible rfl)
      try simp only [Act.put, List.setIfInBounds_toArray, List.set_cons_zero, List.set_cons_succ]
      refine wpAnyH_take (i := 11) (v := ?v29) rfl (by kernel_rfl) (by kernel_rfl) (by kernel_rfl) (fun _ _ _ h => h) (Or.inl ⟨by rfl, ?hy29⟩) (by assumption) ?rest29
      case hy29 => intro w hSw; (try dsimp only at hSw); go_simp; (try with_reducible rfl)
      try simp only [Act.put, List.setIfInBounds_toArray, List.set_cons_zero, List.set_cons_succ]
      refine wpAnyH_take (i := 12) (v := ?v30) rfl (by kernel_rfl) (by kernel_rfl) (by kernel_rfl) (fun _ _ _ h => h) (Or.inl ⟨by rfl, ?hy30⟩) (by assumption) ?rest30
      case hy30 => intro w hSw; (try dsimp only at hSw); go_simp; (try with_reducible rfl)
      try simp only [Act.put, List.setIfInBounds_toArray, List.set_cons_zero, List.set_cons_succ]
      refine wpAnyH_ready (rs := [10, 13]) (by kernel_rfl) (by simp) ?_
      refine AllReadyH.cons rfl (fun K hK => ?_) ?_
      · go_simp
        refine hK.out _ _ ?_ (fun hHeld => ?_)
        · exact hc
        clear hK K
        try simp only [Act.put, List.setIfInBounds_toArray, List.set_cons_zero, List.set_cons_succ]
        refine wpAnyH_ready (rs := [13]) (by kernel_rfl) (by simp) ?_
        refine AllReadyH.cons rfl (fun K hK => ?_) AllReadyH.nil
        go_simp
        refine hK.out _ _ ?_ (fun hHeld => ?_)
        · exact cellA hc _
        clear hK K
        try simp only [Act.put, List.setIfInBounds_toArray, List.set_cons_zero, List.set_cons_succ]
        refine wpAnyH_ready (rs := [14]) (by kernel_rfl) (by simp) ?_
        refine AllReadyH.cons rfl (fun K hK => ?_) AllReadyH.nil
        refine step_append_run rfl (.tmp 51) (.tmp 54) 22 22 rfl _ _ _ _ rfl rfl HR.out ?_
        refine hK.out _ _ ?_ (fun hHeld => ?_)
        · exact hc1
        clear hK K
        try simp only [Act.put, List.setIfInBounds_toArray, List.set_cons_zero, List.set_cons_succ]
        refine wpAnyH_take (i := 15) (v := ?v31) rfl (by kernel_rfl) (by kernel_rfl) (by kernel_rfl) (fun _ _ _ h => h) (Or.inl ⟨by rfl, ?hy31⟩) (by assumption) ?rest31
        case hy31 => intro w hSw; (try dsimp only at hSw); go_simp; (try with_reducible rfl)
        try simp only [Act.put, List.setIfInBounds_toArray, List.set_cons_zero, List.set_cons_succ]
        refine wpAnyH_take (i := 16) (v := ?v32) rfl (by kernel_rfl) (by kernel_rfl) (by kernel_rfl) (fun _ _ _ h => h) (Or.inl ⟨by rfl, ?hy32⟩) (by assumption) ?rest32
        case hy32 => intro w hSw; (try dsimp only at hSw); go_simp; (try with_reducible rfl)
        try simp only [Act.put, List.setIfInBounds_toArray, List.set_cons_zero, List.set_cons_succ]
        refine wpAnyH_ready (rs := [17]) (by kernel_rfl) (by simp) ?_
        refine AllReadyH.cons rfl (fun K hK => ?_) AllReadyH.nil
        go_simp
        refine hK.out _ _ ?_ (fun hHeld => ?_)
        · exact hst.out.1.c
        clear hK K
        try simp only [Act.put, List.setIfInBounds_toArray, List.set_cons_zero, List.set_cons_succ]
        refine wpAnyH_done (by kernel_rfl) ?_ _
        go_end0
        exact ⟨rfl, ao1, cap1, by have := HP.out; rw [sevens_lt hlt] at this; rw [← this]; exact hst.out.1, wset_trans hF hao hst.out.2, fresh_trans hF.size hao hao1⟩
      refine AllReadyH.cons rfl (fun K hK => ?_) ?_
      · go_simp
        refine hK.out _ _ ?_ (fun hHeld => ?_)
        · exact cellA hc _
        clear hK K
        try simp only [Act.put, List.setIfInBounds_toArray, List.set_cons_zero, List.set_cons_succ]
        refine wpAnyH_ready (rs := [10]) (by kernel_rfl) (by simp) ?_
        refine AllReadyH.cons rfl (fun K hK => ?_) AllReadyH.nil
        go_simp
        refine hK.out _ _ ?_ (fun hHeld => ?_)
        · exact cellA hc _
        clear hK K
        try simp only [Act.put, List.setIfInBounds_toArray, List.set_cons_zero, List.set_cons_succ]
        refine wpAnyH_ready (rs := [14]) (by kernel_rfl) (by simp) ?_
        refine AllReadyH.cons rfl (fun K hK => ?_) AllReadyH.nil
        refine step_append_run rfl (.tmp 51) (.tmp 54) 22 22 rfl _ _ _ _ rfl rfl HR.out ?_
        refine hK.out _ _ ?_ (fun hHeld => ?_)
        · exact hc1
        clear hK K
        try simp only [Act.put, List.setIfInBounds_toArray, List.set_cons_zero, List.set_cons_succ]
        refine wpAnyH_take (i := 15) (v := ?v33) rfl (by kernel_rfl) (by kernel_rfl) (by kernel_rfl) (fun _ _ _ h => h) (Or.inl ⟨by rfl, ?hy33⟩) (by assumption) ?rest33
        case hy33 => intro w hSw; (try dsimp only at hSw); go_simp; (try with_reducible rfl)
        try simp only [Act.put, List.setIfInBounds_toArray, List.set_cons_zero, List.set_cons_succ]
        refine wpAnyH_take (i := 16) (v := ?v34) rfl (by kernel_rfl) (by kernel_rfl) (by kernel_rfl) (fun _ _ _ h => h) (Or.inl ⟨by rfl, ?hy34⟩) (by assumption) ?rest34
        case hy34 => intro w hSw; (try dsimp only at hSw); go_simp; (try with_reducible rfl)
        try simp only [Act.put, List.setIfInBounds_toArray, List.set_cons_zero, List.set_cons_succ]
        refine wpAnyH_ready (rs := [17]) (by kernel_rfl) (by simp) ?_
        refine AllReadyH.cons rfl (fun K hK => ?_) AllReadyH.nil
        go_simp
        refine hK.out _ _ ?_ (fun hHeld => ?_)
        · exact hst.out.1.c
        clear hK K
        try simp only [Act.put, List.setIfInBounds_toArray, List.set_cons_zero, List.set_cons_succ]
        refine wpAnyH_done (by kernel_rfl) ?_ _
        go_end0
        exact ⟨rfl, ao1, cap1, by have := HP.out; rw [sevens_lt hlt] at this; rw [← this]; exact hst.out.1, wset_trans hF hao hst.out.2, fresh_trans hF.size hao hao1⟩
      exact AllReadyH.nil

end Go.Proofs.Ytojgikaoiegmpaa

/- The writer's methods, by what they leave of it. -/
namespace Go.Proofs.Ytojgikaoiegmpaa
open Go.RowKit Go.IntWalk
set_option linter.unusedSimpArgs false
set_option linter.unusedVariables false
set_option maxRecDepth 100000

theorem stepEnd_of {S : Nat → Prop} {w2 w' : World} {t : Nat} {ao : Option Addr} {cap : Nat} {bs : List UInt8} {at_ er ea : Int} {e : Ending} (hT : TapeAt w' t ao cap bs at_ er ea) (hF : Fr S (boxed w2 t).drew w') (hS : ¬ S w2.heap.size) (hlt : t < w2.heap.size)
    (he : (∃ n, e = .returned (.int .i64 n)) ∨ ∃ er a, e = .panicked (gu er a)) : StepEnd w2.heap.size t e w' := by
  have hsz : (boxed w2 t).drew.heap.size = w2.heap.size + 1 := by simp [boxed]
  have hb : (boxed w2 t).drew.heap[w2.heap.size]? = some (.cells #[.pointer (some ⟨t, 0, none⟩)] 86 (0, 0)) := heap_alloc_new w2 _
  have hb' := (hF.block w2.heap.size (by rw [hsz]; omega) hS).trans hb
  refine ⟨by rw [cell_of_row w' _ 0 _ _ _ hb']; rfl, ⟨_, _, _, hT.c1, hT.c2, hT.c3⟩, hT.fz 1, hT.fz 2, hT.fz 3, ?_, hlt, he⟩
  have := hF.size
  omega

/-- A writer, by what it has written, and whether a number below 0 was among it. -/
def WOk (w : World) (p t : Nat) (ao : Option Addr) (cap : Nat) (s : List UInt8 × Bool) : Prop := ∃ at_ ea, WAt w p t ao cap s.1 at_ (if s.2 then 5 else 0) ea

def wInt (n : Int) (s : List UInt8 × Bool) : List UInt8 × Bool := if s.2 then s else if n < 0 then (s.1, true) else (s.1 ++ sevens n.toNat, false)
def wText (x : List UInt8) (s : List UInt8 × Bool) : List UInt8 × Bool := if s.2 then s else (s.1 ++ (sevens x.length ++ x), false)
def wID (x : List UInt8) (s : List UInt8 × Bool) : List UInt8 × Bool := if s.2 then s else (s.1 ++ x, false)

theorem new_any (w : World) : Calls Try.prog 59 #[] w fun e w' => e = .returned (.pointer (some ⟨w.heap.size + 1, 0, none⟩)) ∧ WOk w' (w.heap.size + 1) w.heap.size none 0 ([], false) ∧ Fr (fun _ => False) w w' ∧ w'.heap.size = w.heap.size + 2 := by
  go_enter Try.func59, Try.ntmps59
  go_wp2
  go_ret
  refine ⟨rfl, ⟨0, 0, ⟨?_, ?_, World.ownsRow_nil _ _ _ _⟩⟩, ((Fr.refl _ _).alloc _).alloc _, by simp⟩
  · exact heap_alloc2_new w _ _
  · exact heap_alloc2_old w _ _

theorem wint1_neg (p t a b : Nat) (ao : Option Addr) (cap : Nat) (bs : List UInt8) (at_ er ea n : Int) (w : World) (h : WAt w p t ao cap bs at_ er ea) (hneg : n < 0)
    (ha : w.cell? ⟨a, 0, none⟩ = some (.pointer (some ⟨p, 0, none⟩))) (hbn : w.cell? ⟨b, 0, none⟩ = some (.int .i64 n)) :
    Calls Try.prog 82 #[.pointer (some ⟨a, 0, none⟩), .pointer (some ⟨b, 0, none⟩)] w fun e w' => e = .panicked (gu 5 at_) ∧ ∃ k, w' = w.drewN k := by
  go_enter Try.func82, Try.ntmps82
  go_wp2_with (go_at_call 83; refine (number_neg p t ao cap bs at_ er ea n w h hneg).mono ?_; rintro e w' ⟨rfl, k, rfl⟩)
  exact ⟨rfl, rfl, k, rfl⟩

theorem wint1_nat (p t a b : Nat) (ao : Option Addr) (cap : Nat) (bs : List UInt8) (at_ er ea : Int) (n : Nat) (w : World) (h : WAt w p t ao cap bs at_ er ea) (hn : n ≤ 9223372036854775807) (hb : bs.length + 20 ≤ 140737488355328)
    (ha : w.cell? ⟨a, 0, none⟩ = some (.pointer (some ⟨p, 0, none⟩))) (hbn : w.cell? ⟨b, 0, none⟩ = some (.int .i64 n)) (hS : ¬ wset t ao a) (hal : a < w.heap.size) :
    Calls Try.prog 82 #[.pointer (some ⟨a, 0, none⟩), .pointer (some ⟨b, 0, none⟩)] w fun e w' =>
      e = .returned (.int .i64 (bs ++ sevens n).length) ∧ ∃ ao' cap', WAt w' p t ao' cap' (bs ++ sevens n) at_ er ea ∧ Fr (wset t ao) w w' ∧ (ao' = ao ∨ ∀ k, blk ao' k → w.heap.size ≤ k) := by
  have HN := number_nat p t ao cap bs at_ er ea n w h hn hb
  generalize bs ++ sevens n = cs at HN ⊢
  go_enter Try.func82, Try.ntmps82
  go_wp2_with fail
  refine HN.mono ?_
  rintro e w' ⟨rfl, ao', cap', hW', hF, hao⟩
  have ha' : w'.cell? ⟨a, 0, none⟩ = _ := (World.cell?_of_block (a := ⟨a, 0, none⟩) (hF.block a hal hS)).trans ha
  have hc := hW'.c
  have h0 := hW'.tp.c0
  clear hbn HN
  go_wp2_with fail
  go_ret
  exact ⟨rfl, ao', cap', hW', hF, hao⟩

/-- A variable that holds a writer, and one that holds what is to be written, and the one of do: the writer stands as it did. -/
theorem WAt.boxes {w : World} {p t : Nat} {ao : Option Addr} {cap : Nat} {bs : List UInt8} {at_ er ea : Int} (h : WAt w p t ao cap bs at_ er ea) (o1 o2 : Obj) : WAt (boxed ((w.alloc o1).alloc o2) t).drew p t ao cap bs at_ er ea :=
  h.fr ((((Fr.refl (fun _ => False) w).alloc o1).alloc o2).alloc _).drew (fun e => e) (fun _ _ e => e)

/-- What a call of a writer leaves of it. -/
def WPost (w : World) (p t : Nat) (ao : Option Addr) (s : List UInt8 × Bool) (w' : World) : Prop :=
  ∃ ao' cap', WOk w' p t ao' cap' s ∧ Fr (wset t ao) w w' ∧ (ao' = ao ∨ ∀ k, blk ao' k → w.heap.size ≤ k)

/-- The world in which a writer's step is handed to do. -/
def wboxes (w : World) (p : Nat) (o : Obj) : World := (w.alloc (.cells #[.pointer (some ⟨p, 0, none⟩)] 100)).alloc o

theorem wint_via (p t : Nat) (n : Int) (w : World) (R : World → Prop) (hc : w.cell? ⟨p, 0, none⟩ = some (.pointer (some ⟨t, 0, none⟩))) (hpl : p < w.heap.size)
    (hdo : Calls Try.prog 49 #[.pointer (some ⟨t, 0, none⟩), .func (.func 82) #[] #[.pointer (some ⟨w.heap.size, 0, none⟩), .pointer (some ⟨w.heap.size + 1, 0, none⟩)]] (wboxes w p (.cells #[.int .i64 n] 3)) fun e w' => e = .returned (.tuple #[]) ∧ R w') :
    Calls Try.prog 60 #[.pointer (some ⟨p, 0, none⟩), .int .i64 n] w fun e w' => e = .returned (.tuple #[]) ∧ R w' := by
  have hmf : ∀ (fn : Fn) (first cap : Array Value) (w : World), (Instr.makeFunc fn first cap).run Try.prog w = .ok (.func fn first cap) w := fun _ _ _ _ => rfl
  have HD := hideIt hdo
  clear hdo
  go_enter Try.func60, Try.ntmps60
  go_wp2_with (go_at_call 81; refine (wnone_some p t _ ?_).mono ?_; go_simp; rintro e w' ⟨rfl, rfl⟩)
  refine Calls.mono HD.out ?_
  rintro e w' ⟨rfl, hr⟩
  have HR := hideIt hr
  clear hr
  go_wp2_with fail
  go_end0
  exact ⟨rfl, HR.out⟩

theorem wtext_via (p t : Nat) (x : ByteArray) (w : World) (R : World → Prop) (hc : w.cell? ⟨p, 0, none⟩ = some (.pointer (some ⟨t, 0, none⟩))) (hpl : p < w.heap.size)
    (hdo : Calls Try.prog 49 #[.pointer (some ⟨t, 0, none⟩), .func (.func 94) #[] #[.pointer (some ⟨w.heap.size, 0, none⟩), .pointer (some ⟨w.heap.size + 1, 0, none⟩)]] (wboxes w p (.cells #[.string x] 9)) fun e w' => e = .returned (.tuple #[]) ∧ R w') :
    Calls Try.prog 86 #[.pointer (some ⟨p, 0, none⟩), .string x] w fun e w' => e = .returned (.tuple #[]) ∧ R w' := by
  have hmf : ∀ (fn : Fn) (first cap : Array Value) (w : World), (Instr.makeFunc fn first cap).run Try.prog w = .ok (.func fn first cap) w := fun _ _ _ _ => rfl
  have HD := hideIt hdo
  clear hdo
  go_enter Try.func86, Try.ntmps86
  go_wp2_with (go_at_call 81; refine (wnone_some p t _ ?_).mono ?_; go_simp; rintro e w' ⟨rfl, rfl⟩)
  refine Calls.mono HD.out ?_
  rintro e w' ⟨rfl, hr⟩
  have HR := hideIt hr
  clear hr
  go_wp2_with fail
  go_end0
  exact ⟨rfl, HR.out⟩

theorem WAt.inBoxes {w : World} {p t : Nat} {ao : Option Addr} {cap : Nat} {bs : List UInt8} {at_ er ea : Int} (h : WAt w p t ao cap bs at_ er ea) (o : Obj) : WAt (wboxes w p o) p t ao cap bs at_ er ea :=
  h.fr (((Fr.refl (fun _ => False) w).alloc _).alloc _) (fun e => e) (fun _ _ e => e)

theorem TapeAt.moved {w : World} {t : Nat} {ao : Option Addr} {cap : Nat} {bs : List UInt8} {at_ er ea : Int} (h : TapeAt w t ao cap bs at_ er ea) (n : Int) : TapeAt (w.setCell ⟨t, 1, none⟩ (.int .i64 n)) t ao cap bs n er ea := by
  refine ⟨?_, h.row.keep fun k _ e => heap_setCell_other _ _ _ _ (fun e' => h.apart (by subst e'; exact e))⟩
  rw [heap_setCell_same _ _ _ _ _ _ h.blk]; rfl

theorem TapeAt.faulted {w : World} {t : Nat} {ao : Option Addr} {cap : Nat} {bs : List UInt8} {at_ er ea : Int} (h : TapeAt w t ao cap bs at_ er ea) (e a : Int) (o : Obj) : TapeAt (((w.setCell ⟨t, 2, none⟩ (.int .i64 e)).setCell ⟨t, 3, none⟩ (.int .i64 a)).alloc o) t ao cap bs at_ e a := by
  have h1 : TapeAt (w.setCell ⟨t, 2, none⟩ (.int .i64 e)) t ao cap bs at_ e ea := by
    refine ⟨?_, h.row.keep fun k _ e => heap_setCell_other _ _ _ _ (fun e' => h.apart (by subst e'; exact e))⟩
    rw [heap_setCell_same _ _ _ _ _ _ h.blk]; rfl
  have h2 : TapeAt ((w.setCell ⟨t, 2, none⟩ (.int .i64 e)).setCell ⟨t, 3, none⟩ (.int .i64 a)) t ao cap bs at_ e a := by
    refine ⟨?_, h1.row.keep fun k _ e => heap_setCell_other _ _ _ _ (fun e' => h.apart (by subst e'; exact e))⟩
    rw [heap_setCell_same _ _ _ _ _ _ h1.blk]; rfl
  exact h2.fr ((Fr.refl (fun _ => False) _).alloc o) (fun _ _ e => e)

theorem Fr.moved (w : World) (t : Nat) (v : Value) : Fr (fun k => k = t) w (w.setCell ⟨t, 1, none⟩ v) := (Fr.refl (fun k => k = t) w).setCell (fun _ => rfl) _
theorem Fr.faulted (w : World) (t : Nat) (u v : Value) (o : Obj) : Fr (fun k => k = t) w (((w.setCell ⟨t, 2, none⟩ u).setCell ⟨t, 3, none⟩ v).alloc o) := (((Fr.refl (fun k => k = t) w).setCell (fun _ => rfl) _).setCell (fun _ => rfl) _).alloc o

theorem WAt.moved {w : World} {p t : Nat} {ao : Option Addr} {cap : Nat} {bs : List UInt8} {at_ er ea : Int} (h : WAt w p t ao cap bs at_ er ea) (n : Int) : WAt (w.setCell ⟨t, 1, none⟩ (.int .i64 n)) p t ao cap bs n er ea :=
  ⟨((Fr.moved w t _).block p h.lt h.ne).trans h.box, h.tp.moved n⟩
theorem WAt.faulted {w : World} {p t : Nat} {ao : Option Addr} {cap : Nat} {bs : List UInt8} {at_ er ea : Int} (h : WAt w p t ao cap bs at_ er ea) (e a : Int) (o : Obj) : WAt (((w.setCell ⟨t, 2, none⟩ (.int .i64 e)).setCell ⟨t, 3, none⟩ (.int .i64 a)).alloc o) p t ao cap bs at_ e a :=
  ⟨((Fr.faulted w t _ _ o).block p h.lt h.ne).trans h.box, h.tp.faulted e a o⟩

theorem wboxes_size (w : World) (p : Nat) (o : Obj) : (wboxes w p o).heap.size = w.heap.size + 2 := by simp [wboxes]
theorem boxed_size (w : World) (t : Nat) : (boxed w t).drew.heap.size = w.heap.size + 1 := by simp [boxed]
theorem Fr.wboxes (w : World) (p : Nat) (o : Obj) (S : Nat → Prop) : Fr S w (Go.Proofs.Ytojgikaoiegmpaa.wboxes w p o) := ((Fr.refl S w).alloc _).alloc _
theorem Fr.boxed (w : World) (t : Nat) (S : Nat → Prop) : Fr S w (Go.Proofs.Ytojgikaoiegmpaa.boxed w t).drew := ((Fr.refl S w).alloc _).drew

theorem cell_box1 (w : World) (p : Nat) (o : Obj) (t : Nat) : (boxed (wboxes w p o) t).drew.cell? ⟨w.heap.size, 0, none⟩ = some (.pointer (some ⟨p, 0, none⟩)) := by
  show (((w.alloc _).alloc _).alloc _).cell? _ = _
  rw [World.cell?_alloc_past _ _ _ (by simp; omega), World.cell?_alloc_past _ _ _ (by simp), World.cell?_alloc_at _ _ _ _ rfl]
  rfl

theorem cell_box2 (w : World) (p : Nat) (cs : Array Value) (T : TypeId) (t i : Nat) : (boxed (wboxes w p (.cells cs T)) t).drew.cell? ⟨w.heap.size + 1, i, none⟩ = cs[i]? := by
  show (((w.alloc _).alloc _).alloc _).cell? _ = _
  rw [World.cell?_alloc_past _ _ _ (by simp), World.cell?_alloc_at _ _ _ _ (by simp)]

/-- do over a writer's step that goes well. -/
theorem wdo_ok (f p t : Nat) (o : Obj) (ao : Option Addr) (cap : Nat) (bs cs : List UInt8) (at_ ea : Int) (w : World) (h : WAt w p t ao cap bs at_ 0 ea)
    (hcf : ∀ w' : World, (callFunc f #[.pointer (some ⟨w.heap.size, 0, none⟩), .pointer (some ⟨w.heap.size + 1, 0, none⟩)]).run Try.prog w' = .ok (.enter f #[.pointer (some ⟨w.heap.size, 0, none⟩), .pointer (some ⟨w.heap.size + 1, 0, none⟩)]) w')
    (hstep : Calls Try.prog f #[.pointer (some ⟨w.heap.size, 0, none⟩), .pointer (some ⟨w.heap.size + 1, 0, none⟩)] (boxed (wboxes w p o) t).drew fun e w' =>
      e = .returned (.int .i64 cs.length) ∧ ∃ ao' cap', WAt w' p t ao' cap' cs at_ 0 ea ∧ Fr (wset t ao) (boxed (wboxes w p o) t).drew w' ∧ (ao' = ao ∨ ∀ k, blk ao' k → (boxed (wboxes w p o) t).drew.heap.size ≤ k)) :
    Calls Try.prog 49 #[.pointer (some ⟨t, 0, none⟩), .func (.func f) #[] #[.pointer (some ⟨w.heap.size, 0, none⟩), .pointer (some ⟨w.heap.size + 1, 0, none⟩)]] (wboxes w p o) fun e w' => e = .returned (.tuple #[]) ∧ WPost w p t ao (cs, false) w' := by
  have hb := h.inBoxes o
  have hlt := h.tp.lt
  have hplt := h.lt
  have hrlt : ∀ k, blk ao k → k < w.heap.size := fun k e => h.tp.row.lt e
  refine do_step t f _ (wboxes w p o) _ _ hb.tp.c2 hb.tp.lt hcf hstep ?_ ?_ ?_
  · rintro e w' ⟨rfl, ao', cap', hW, hF, hao⟩
    refine stepEnd_of hW.tp hF ?_ hb.tp.lt (Or.inl ⟨_, rfl⟩)
    rw [wboxes_size]
    rintro (e | e)
    · omega
    · have := hrlt _ e; omega
  · rintro n w2 ⟨he, ao', cap', hW, hF, hao⟩
    obtain rfl : n = cs.length := by simpa using he
    refine ⟨rfl, ao', cap', ⟨_, _, hW.moved _⟩, ?_, ?_⟩
    · refine (((Fr.wboxes w p o _).trans (Fr.boxed _ t (fun _ => False)) (fun _ _ e => e.elim)).trans hF (fun _ _ e => e)).trans (Fr.moved _ t _) (fun i _ e => Or.inl e)
    · rcases hao with e | hao
      · exact Or.inl e
      · exact Or.inr fun k hk => by have := hao k hk; rw [boxed_size, wboxes_size] at this; omega
  · rintro er a w2 ⟨he, _⟩
    cases he

/-- do over a writer's step that gives up. -/
theorem wdo_bad (f p t : Nat) (o : Obj) (ao : Option Addr) (cap : Nat) (bs : List UInt8) (at_ ea : Int) (w : World) (h : WAt w p t ao cap bs at_ 0 ea)
    (hcf : ∀ w' : World, (callFunc f #[.pointer (some ⟨w.heap.size, 0, none⟩), .pointer (some ⟨w.heap.size + 1, 0, none⟩)]).run Try.prog w' = .ok (.enter f #[.pointer (some ⟨w.heap.size, 0, none⟩), .pointer (some ⟨w.heap.size + 1, 0, none⟩)]) w')
    (hstep : Calls Try.prog f #[.pointer (some ⟨w.heap.size, 0, none⟩), .pointer (some ⟨w.heap.size + 1, 0, none⟩)] (boxed (wboxes w p o) t).drew fun e w' => e = .panicked (gu 5 at_) ∧ ∃ k, w' = (boxed (wboxes w p o) t).drew.drewN k) :
    Calls Try.prog 49 #[.pointer (some ⟨t, 0, none⟩), .func (.func f) #[] #[.pointer (some ⟨w.heap.size, 0, none⟩), .pointer (some ⟨w.heap.size + 1, 0, none⟩)]] (wboxes w p o) fun e w' => e = .returned (.tuple #[]) ∧ WPost w p t ao (bs, true) w' := by
  have hb := h.inBoxes o
  have hF0 : ∀ (k : Nat), Fr (fun _ => False) w ((boxed (wboxes w p o) t).drew.drewN k) := fun k => ((Fr.wboxes w p o _).trans (Fr.boxed _ t (fun _ => False)) (fun _ _ e => e.elim)).drewN k
  have hW : ∀ (k : Nat), WAt ((boxed (wboxes w p o) t).drew.drewN k) p t ao cap bs at_ 0 ea := fun k => h.fr (hF0 k) (fun e => e) (fun _ _ e => e)
  refine do_step t f _ (wboxes w p o) _ _ hb.tp.c2 hb.tp.lt hcf hstep ?_ ?_ ?_
  · rintro e w' ⟨rfl, k, rfl⟩
    exact stepEnd_of (hW k).tp ((Fr.refl (fun _ => False) _).drewN k) (fun e => e) hb.tp.lt (Or.inr ⟨_, _, rfl⟩)
  · rintro n w2 ⟨he, _⟩
    cases he
  · rintro er a w2 ⟨he, k, rfl⟩
    obtain ⟨rfl, rfl⟩ : 5 = er ∧ at_ = a := by simpa [gu, eq_comm] using he
    exact ⟨rfl, ao, cap, ⟨_, _, (hW k).faulted _ _ _⟩, ((hF0 k).mono (fun _ e => e.elim)).trans (Fr.faulted _ t _ _ _) (fun i _ e => Or.inl e), Or.inl rfl⟩

/-- do over a writer that has a fault. -/
theorem wdo_shut (p t : Nat) (fv : Value) (o : Obj) (ao : Option Addr) (cap : Nat) (bs : List UInt8) (at_ ea : Int) (w : World) (h : WAt w p t ao cap bs at_ 5 ea) :
    Calls Try.prog 49 #[.pointer (some ⟨t, 0, none⟩), fv] (wboxes w p o) fun e w' => e = .returned (.tuple #[]) ∧ WPost w p t ao (bs, true) w' := by
  have hb := h.inBoxes o
  refine (do_shut t fv (wboxes w p o) 5 hb.tp.c2 (by decide) hb.tp.lt).mono ?_
  rintro e w' ⟨rfl, rfl⟩
  have hF : Fr (fun _ => False) w (boxed (wboxes w p o) t) := (Fr.wboxes w p o _).alloc _
  exact ⟨rfl, ao, cap, ⟨_, _, h.fr hF (fun e => e) (fun _ _ e => e)⟩, hF.mono (fun _ e => e.elim), Or.inl rfl⟩

theorem wint_any (p t : Nat) (ao : Option Addr) (cap : Nat) (s : List UInt8 × Bool) (n : Int) (w : World) (h : WOk w p t ao cap s) (hn : n ≤ 9223372036854775807) (hb : s.1.length + 20 ≤ 140737488355328) :
    Calls Try.prog 60 #[.pointer (some ⟨p, 0, none⟩), .int .i64 n] w fun e w' => e = .returned (.tuple #[]) ∧ WPost w p t ao (wInt n s) w' := by
  obtain ⟨at_, ea, hW⟩ := h
  obtain ⟨bs, bad⟩ := s
  refine wint_via p t n w _ hW.c hW.lt ?_
  have hlt := hW.tp.lt
  have hrlt : ∀ k, blk ao k → k < w.heap.size := fun k e => hW.tp.row.lt e
  cases bad with
  | true => exact wdo_shut p t _ _ ao cap bs at_ ea w hW
  | false =>
    have hB := hW.boxes (.cells #[.pointer (some ⟨p, 0, none⟩)] 100) (.cells #[.int .i64 n] 3)
    by_cases hneg : n < 0
    · rw [show wInt n (bs, false) = (bs, true) by simp [wInt, hneg]]
      exact wdo_bad 82 p t _ ao cap bs at_ ea w hW (fun _ => by kernel_rfl) (wint1_neg p t _ _ ao cap bs at_ 0 ea n _ hB hneg (cell_box1 w p _ t) (cell_box2 w p _ _ t 0))
    · obtain ⟨m, rfl⟩ : ∃ m : Nat, n = m := ⟨n.toNat, by omega⟩
      rw [show wInt m (bs, false) = (bs ++ sevens m, false) by simp [wInt]]
      refine wdo_ok 82 p t _ ao cap bs _ at_ ea w hW (fun _ => by kernel_rfl) (wint1_nat p t _ _ ao cap bs at_ 0 ea m _ hB (by omega) hb (cell_box1 w p _ t) (cell_box2 w p _ _ t 0) ?_ ?_)
      · rintro (e | e)
        · omega
        · have := hrlt _ e; omega
      · rw [boxed_size, wboxes_size]; omega

end Go.Proofs.Ytojgikaoiegmpaa

/- Bytes that are cloned, compared; what a writer tells. -/
namespace Go.Proofs.Ytojgikaoiegmpaa
open Go.RowKit Go.IntWalk
set_option linter.unusedSimpArgs false
set_option linter.unusedVariables false
set_option maxRecDepth 100000

/-- A slice's bytes, wherever they lie. -/
def BsAt (w : World) (ao : Option Addr) (bs : List UInt8) : Prop :=
  (ao = none ∧ bs = []) ∨ ∃ b off, ao = some ⟨b, off, none⟩ ∧ ∀ j (h : j < bs.length), w.cell? ⟨b, off + j, none⟩ = some (.int .u8 bs[j].toNat)

theorem Row.bs {w : World} {e : TypeId} {ao : Option Addr} {cap : Nat} {bs : List UInt8} (h : Row w e ao cap bs) : BsAt w ao bs := by
  rcases h.form with ⟨rfl, rfl, _⟩ | ⟨g, cur, rfl, _⟩
  · exact Or.inl ⟨rfl, rfl⟩
  · exact Or.inr ⟨g, 0, rfl, fun j hj => by rw [Nat.zero_add]; exact h.cell j hj⟩

theorem BsAt.keep {w w' : World} {ao : Option Addr} {bs : List UInt8} (h : BsAt w ao bs) (hb : ∀ k, k < w.heap.size → blk ao k → w'.heap[k]? = w.heap[k]?) : BsAt w' ao bs := by
  rcases h with h | ⟨b, off, rfl, hc⟩
  · exact Or.inl h
  · refine Or.inr ⟨b, off, rfl, fun j hj => ?_⟩
    have h1 := hc j hj
    rw [← h1]
    exact World.cell?_of_block (a := ⟨b, off + j, none⟩) (hb b (block_lt_of_cell h1) ⟨_, rfl, rfl⟩)

theorem BsAt.fr {S : Nat → Prop} {w w' : World} {ao : Option Addr} {bs : List UInt8} (h : BsAt w ao bs) (hf : Fr S w w') (hS : ∀ k, k < w.heap.size → blk ao k → ¬ S k) : BsAt w' ao bs :=
  h.keep fun k hk e => hf.block k hk (hS k hk e)

theorem BsAt.src {w : World} {ao : Option Addr} {bs : List UInt8} (h : BsAt w ao bs) (cap : Nat) : Src Try.prog 1 22 (.slice ao bs.length cap) bs.length (bv bs) w := by
  rcases h with ⟨rfl, rfl⟩ | ⟨b, off, rfl, hc⟩
  · exact Src.ofNil w Try.underlying22 cap
  · refine Src.ofSlice w Try.underlying22 ⟨b, off, none⟩ bs.length cap (bv bs) (by simp [bv_length]) (fun j u hu => ?_) (bv_one _)
    have hj : j < bs.length := by have := (List.getElem?_eq_some_iff.1 hu).1; rwa [bv_length] at this
    rw [bv_get _ _ hj] at hu
    obtain rfl := Option.some.inj hu
    rw [Addr.add_lit]
    exact hc j hj

theorem BsAt.conv {w : World} {ao : Option Addr} {bs : List UInt8} (h : BsAt w ao bs) (cap : Nat) : (convert 22 9 (.slice ao bs.length cap)).run Try.prog w = .ok (.string ⟨bs.toArray⟩) w := by
  rcases h with ⟨rfl, rfl⟩ | ⟨b, off, rfl, hc⟩
  · exact run_convert_bytes_nil w 22 5 Try.underlying22 Try.underlying5 _ _ 9 Try.underlying9
  · have := run_convert_bytes_arg (P := Try.prog) w 22 5 Try.underlying22 Try.underlying5 b off bs.length cap (bs.map fun b => (b.toNat : Int)) (by simp) (fun i hi => by rw [hc i hi]; simp [hi]) 9 Try.underlying9
    rw [this]
    have e : strOfNums (bs.map fun b => (b.toNat : Int)) = ⟨bs.toArray⟩ := by
      unfold strOfNums
      congr 1
      congr 1
      rw [List.map_map]
      conv => rhs; rw [← List.map_id bs]
      apply List.map_congr_left
      intro a _
      simp
    rw [e]

theorem same_any (ao bo : Option Addr) (ca cb : Nat) (xs bs : List UInt8) (w : World) (ha : BsAt w ao xs) (hb : BsAt w bo bs) :
    Calls Try.prog 17 #[.slice ao xs.length ca, .slice bo bs.length cb] w fun e w' => e = .returned (.bool (xs == bs)) ∧ w' = w := by
  have h1 := ha.conv ca
  have h2 := hb.conv cb
  go_enter Try.func17, Try.ntmps17
  go_wp2
  go_ret
  exact ⟨rfl, rfl⟩

theorem clone_nil (w : World) : Calls Try.prog 47 #[.slice none 0 0] w fun e w' => e = .returned (.slice none 0 0) ∧ w' = w := by
  have hnil : ∀ (a : Option Addr) (n c : Nat) (w : World), (binOp .eql 22 (.slice a n c) (.slice none 0 0)).run Try.prog w = .ok (.bool a.isNone) w := fun a n c w => Lib.run_eql_slice_nil (P := Try.prog) w 22 5 a n c 0 0 Try.underlying22
  go_enter Try.func47, Try.ntmps47
  go_wp2
  go_ret
  exact ⟨rfl, rfl⟩

theorem clone_some (a : Addr) (cap : Nat) (bs : List UInt8) (w : World) (h : BsAt w (some a) bs) (hb : bs.length ≤ 140737488355328) :
    Calls Try.prog 47 #[.slice (some a) bs.length cap] w fun e w' => ∃ ao' cap', e = .returned (.slice ao' bs.length cap') ∧ Row w' 5 ao' cap' bs ∧ Fr (fun _ => False) w w' ∧ ∀ k, blk ao' k → w.heap.size ≤ k := by
  have h1 : BsAt (w.alloc (.cells #[] 5)) (some a) bs := h.fr ((Fr.refl (fun _ => False) w).alloc _) (fun _ _ _ e => e)
  obtain ⟨ao', cap', w1, hrun, hrow, hf, hao⟩ := app_row (w.alloc (.cells #[] 5)) 22 (some ⟨w.heap.size, 0, none⟩) 0 [] bs (World.ownsRow_made w #[] 0 (Nat.zero_le _) (by decide) rfl) _ (h1.src cap) (by simpa using hb)
  have HR := hideIt hrun
  clear hrun
  have hnil : ∀ (a : Option Addr) (n c : Nat) (w : World), (binOp .eql 22 (.slice a n c) (.slice none 0 0)).run Try.prog w = .ok (.bool a.isNone) w := fun a n c w => Lib.run_eql_slice_nil (P := Try.prog) w 22 5 a n c 0 0 Try.underlying22
  go_enter Try.func47, Try.ntmps47
  go_wp2_with (first | (at_builtin; refine wpList_append_run _ rfl (.tmp 5) (.tmp 6) 22 22 rfl _ _ _ _ rfl rfl HR.out ?_))
  go_ret
  refine ⟨ao', cap', rfl, hrow, (((Fr.refl (fun _ => False) w).alloc _).trans (hf.mono (S' := fun k => k = w.heap.size) ?_) ?_), ?_⟩
  · rintro k ⟨x, e1, e2⟩
    obtain rfl := Option.some.inj e1
    exact e2.symm
  · intro i hi e
    omega
  · rintro k ⟨x, e1, e2⟩
    rcases hao with rfl | rfl
    · obtain rfl := Option.some.inj e1
      simp only at e2
      omega
    · obtain rfl := Option.some.inj e1
      simp at e2
      omega

theorem clone_any (ao : Option Addr) (cap : Nat) (bs : List UInt8) (w : World) (h : BsAt w ao bs) (hcap : ao = none → cap = 0) (hb : bs.length ≤ 140737488355328) :
    Calls Try.prog 47 #[.slice ao bs.length cap] w fun e w' => ∃ ao' cap', e = .returned (.slice ao' bs.length cap') ∧ Row w' 5 ao' cap' bs ∧ Fr (fun _ => False) w w' ∧ ∀ k, blk ao' k → w.heap.size ≤ k := by
  cases ao with
  | some a => exact clone_some a cap bs w h hb
  | none =>
    obtain rfl := hcap rfl
    rcases h with ⟨_, rfl⟩ | ⟨_, _, e, _⟩
    · refine (clone_nil w).mono ?_
      rintro e w' ⟨rfl, rfl⟩
      exact ⟨none, 0, rfl, World.ownsRow_nil _ _ _ _, Fr.refl _ _, fun k ⟨_, e, _⟩ => by cases e⟩
    · cases e

theorem Row.cap0 {w : World} {e : TypeId} {ao : Option Addr} {cap : Nat} {bs : List UInt8} (h : Row w e ao cap bs) : ao = none → cap = 0 := by
  rintro rfl
  rcases h.form with ⟨_, _, rfl⟩ | ⟨_, _, e, _⟩
  · rfl
  · cases e

theorem out_bad (p t : Nat) (ao : Option Addr) (cap : Nat) (bs : List UInt8) (at_ ea : Int) (w : World) (h : WAt w p t ao cap bs at_ 5 ea) :
    Calls Try.prog 61 #[.pointer (some ⟨p, 0, none⟩)] w fun e w' => e = .returned (.tuple #[.slice none 0 0, .int .i64 5]) ∧ Fr (fun _ => False) w w' := by
  have hc := h.c
  have h2 := h.tp.c2
  go_enter Try.func61, Try.ntmps61
  go_wp2_with (go_at_call 81; refine (wnone_some p t _ hc).mono ?_; rintro e w' ⟨rfl, rfl⟩)
  go_quiet (fail)
  go_wp2
  go_ret2
  exact ⟨rfl, (Fr.refl _ _).drewN _⟩

theorem out_ok (p t : Nat) (ao : Option Addr) (cap : Nat) (bs : List UInt8) (at_ ea : Int) (w : World) (h : WAt w p t ao cap bs at_ 0 ea) (hb : bs.length ≤ 140737488355328) :
    Calls Try.prog 61 #[.pointer (some ⟨p, 0, none⟩)] w fun e w' => ∃ ao' cap', e = .returned (.tuple #[.slice ao' bs.length cap', .int .i64 0]) ∧ Row w' 5 ao' cap' bs ∧ Fr (fun _ => False) w w' ∧ ∀ k, blk ao' k → w.heap.size ≤ k := by
  have hc := h.c
  have h0 := h.tp.c0
  have h2 := h.tp.c2
  go_enter Try.func61, Try.ntmps61
  go_wp2_with (go_at_call 81; refine (wnone_some p t _ hc).mono ?_; rintro e w' ⟨rfl, rfl⟩)
  refine (clone_any ao cap bs _ h.tp.row.bs h.tp.row.cap0 hb).mono ?_
  rintro e w' ⟨ao', cap', rfl, hrow, hF, hnew⟩
  go_wp2
  go_ret2
  exact ⟨ao', cap', rfl, hrow, hF, hnew⟩

theorem out_nil (w : World) : Calls Try.prog 61 #[.pointer none] w fun e w' => e = .returned (.tuple #[.slice none 0 0, .int .i64 1]) ∧ w' = w := by
  go_enter Try.func61, Try.ntmps61
  go_wp2_with (go_at_call 81; refine (wnone_nil _).mono ?_; rintro e w' ⟨rfl, rfl⟩)
  go_ret2
  exact ⟨rfl, rfl⟩

theorem out_bare (p : Nat) (w : World) (hc : w.cell? ⟨p, 0, none⟩ = some (.pointer none)) : Calls Try.prog 61 #[.pointer (some ⟨p, 0, none⟩)] w fun e w' => e = .returned (.tuple #[.slice none 0 0, .int .i64 1]) ∧ w' = w := by
  go_enter Try.func61, Try.ntmps61
  go_wp2_with (go_at_call 81; refine (wnone_bare p _ hc).mono ?_; rintro e w' ⟨rfl, rfl⟩)
  go_ret2
  exact ⟨rfl, rfl⟩

end Go.Proofs.Ytojgikaoiegmpaa

/- The reader of package word: numbers. -/
namespace Go.Proofs.Ytojgikaoiegmpaa
open Go.RowKit Go.IntWalk
set_option linter.unusedSimpArgs false
set_option linter.unusedVariables false
set_option maxRecDepth 100000

/-- A reader in memory: itself, and its tape. -/
structure RAt (w : World) (p t : Nat) (ao : Option Addr) (cap : Nat) (bs : List UInt8) (at_ er ea : Int) : Prop where
  box : w.heap[p]? = some (.cells #[.pointer (some ⟨t, 0, none⟩)] 90 (0, 0))
  tp : TapeAt w t ao cap bs at_ er ea

section
variable {w w' : World} {p t : Nat} {ao : Option Addr} {cap : Nat} {bs : List UInt8} {at_ er ea : Int}
theorem RAt.lt (h : RAt w p t ao cap bs at_ er ea) : p < w.heap.size := (Array.getElem?_eq_some_iff.1 h.box).1
theorem RAt.c (h : RAt w p t ao cap bs at_ er ea) : w.cell? ⟨p, 0, none⟩ = some (.pointer (some ⟨t, 0, none⟩)) := by rw [cell_of_row w p 0 _ _ _ h.box]; rfl
theorem RAt.ne (h : RAt w p t ao cap bs at_ er ea) : p ≠ t := by
  rintro rfl
  have := h.box.symm.trans h.tp.blk
  simp at this
theorem RAt.fr {S : Nat → Prop} (h : RAt w p t ao cap bs at_ er ea) (hf : Fr S w w') (hp : ¬ S p) (hS : ∀ k, wset t ao k → ¬ S k) : RAt w' p t ao cap bs at_ er ea :=
  ⟨(hf.block p h.lt hp).trans h.box, h.tp.fr hf hS⟩
theorem RAt.moved (h : RAt w p t ao cap bs at_ er ea) (n : Int) : RAt (w.setCell ⟨t, 1, none⟩ (.int .i64 n)) p t ao cap bs n er ea :=
  ⟨((Fr.moved w t _).block p h.lt h.ne).trans h.box, h.tp.moved n⟩
theorem RAt.faulted (h : RAt w p t ao cap bs at_ er ea) (e a : Int) (o : Obj) : RAt (((w.setCell ⟨t, 2, none⟩ (.int .i64 e)).setCell ⟨t, 3, none⟩ (.int .i64 a)).alloc o) p t ao cap bs at_ e a :=
  ⟨((Fr.faulted w t _ _ o).block p h.lt h.ne).trans h.box, h.tp.faulted e a o⟩
end

theorem open_any (ao : Option Addr) (cap : Nat) (bs : List UInt8) (w : World) (h : BsAt w ao bs) (hcap : ao = none → cap = 0) (hb : bs.length ≤ 140737488355328) :
    Calls Try.prog 24 #[.slice ao bs.length cap] w fun e w' => ∃ p t ao' cap', e = .returned (.pointer (some ⟨p, 0, none⟩)) ∧ RAt w' p t ao' cap' bs 0 0 0 ∧ Fr (fun _ => False) w w' ∧ w.heap.size ≤ p ∧ w.heap.size ≤ t ∧ ∀ k, blk ao' k → w.heap.size ≤ k := by
  go_enter Try.func24, Try.ntmps24
  go_wp2_with fail
  refine (clone_any ao cap bs _ h hcap hb).mono ?_
  rintro e w1 ⟨ao', cap', rfl, hrow, hF, hnew⟩
  go_wp2
  go_ret
  have hs := hF.size
  exact ⟨w1.heap.size + 1, w1.heap.size, ao', cap', rfl, ⟨heap_alloc2_new w1 _ _, heap_alloc2_old w1 _ _, (hrow.alloc _).alloc _⟩, (hF.alloc _).alloc _, by omega, hs, hnew⟩

theorem behind_ok (p t : Nat) (ao : Option Addr) (cap : Nat) (bs : List UInt8) (at_ er ea : Int) (a n : Int) (w : World) (h : RAt w p t ao cap bs at_ er ea) (hb : bs.length ≤ 140737488355328) (ha : 0 ≤ a) (hn : 0 ≤ n) (hle : a + n ≤ bs.length) :
    Calls Try.prog 91 #[.pointer (some ⟨p, 0, none⟩), .int .i64 a, .int .i64 n] w fun e w' => e = .returned (.int .i64 (a + n)) ∧ w' = w := by
  have hc := h.c
  have h0 := h.tp.c0
  go_enter Try.func91, Try.ntmps91
  go_wp2
  go_ret
  exact ⟨rfl, rfl⟩

set_option maxHeartbeats 1000000 in
theorem behind_bad (p t : Nat) (ao : Option Addr) (cap : Nat) (bs : List UInt8) (at_ er ea : Int) (a n : Int) (w : World) (h : RAt w p t ao cap bs at_ er ea) (hb : bs.length ≤ 140737488355328) (ha : 0 ≤ a) (ha' : a ≤ bs.length) (hn : 0 ≤ n) (hlt : (bs.length : Int) - a < n) :
    Calls Try.prog 91 #[.pointer (some ⟨p, 0, none⟩), .int .i64 a, .int .i64 n] w fun e w' => e = .panicked (gu 4 bs.length) ∧ ∃ k, w' = w.drewN k := by
  have hc := h.c
  have h0 := h.tp.c0
  go_enter Try.func91, Try.ntmps91
  go_wp2
  go_region_held2 (fun w' => w'.cell? ⟨p, 0, none⟩ = some (.pointer (some ⟨t, 0, none⟩)) ∧ w'.cell? ⟨t, 0, none⟩ = some (.slice ao bs.length cap)) (go_keep) (first | (go_at_call 76; refine (fail_two _ _ _ _).mono ?_; rintro e w' (⟨rfl, rfl⟩ | ⟨rfl, rfl, hF⟩); exact ⟨rfl, rfl, 1, rfl⟩; skip))
  all_goals exact hF.out.elim

/-- The number that stands at the head of bytes: it and how many bytes it has; else 0: a byte is missing; 1: it is too great; 2: it ends by 0. (i: how many bytes stand ahead of it, what these come to.) -/
def scan : List UInt8 → Nat → Nat → Except Nat (Nat × Nat)
  | [], _, _ => .error 0
  | b :: bs, i, acc => if 128 ≤ b.toNat ∧ i + 1 = 9 then .error 1 else if b.toNat = 0 ∧ 0 < i then .error 2 else
      if b.toNat < 128 then .ok (acc + b.toNat % 128 * 128 ^ i, i + 1) else scan bs (i + 1) (acc + b.toNat % 128 * 128 ^ i)

def scanEnd (len at_ : Int) : Except Nat (Nat × Nat) → Ending
  | .error 0 => .panicked (gu 4 len)
  | .error 1 => .panicked (gu 5 at_)
  | .error _ => .panicked (gu 4 at_)
  | .ok (n, k) => .returned (.tuple #[.int .i64 n, .int .i64 (at_ + k)])

theorem pow7 (i : Nat) : 2 ^ (7 * i) = 128 ^ i := by rw [Nat.pow_mul]

theorem or_sevens (acc b i : Nat) (hacc : acc < 128 ^ i) (hi : i ≤ 8) : bits .or .i64 (acc : Int) (wrap64 ((b : Int) % 128 * 2 ^ (7 * i))) = ((acc + b % 128 * 128 ^ i : Nat) : Int) := by
  have h8 : 128 ^ i ≤ 128 ^ 8 := Nat.pow_le_pow_right (by decide) hi
  have h88 : (128 : Nat) ^ 8 = 72057594037927936 := by decide
  have hm : b % 128 < 128 := Nat.mod_lt _ (by decide)
  have hlt : b % 128 * 128 ^ i ≤ 127 * 128 ^ i := Nat.mul_le_mul_right _ (by omega)
  have e : (b : Int) % 128 * 2 ^ (7 * i) = ((b % 128 * 128 ^ i : Nat) : Int) := by
    rw [← pow7]; simp
  rw [e, wrap64_in _ (by omega), (bits_nat .i64 63 (by decide) (fun n h0 h1 => i64_in n (by omega)) acc (b % 128 * 128 ^ i) (by omega) (by omega)).2, Nat.or_comm, ← pow7, Nat.mul_comm, ← Nat.two_pow_add_eq_or_of_lt (by rw [pow7]; exact hacc), Nat.add_comm]

theorem or_nought (acc i : Nat) (hacc : acc < 128 ^ i) (hi : i = 0) : bits .or .i64 (acc : Int) 0 = 0 := by
  subst hi
  obtain rfl : acc = 0 := by simpa using hacc
  decide

theorem pow_acc (acc b i : Nat) (hacc : acc < 128 ^ i) : acc + b % 128 * 128 ^ i < 128 ^ (i + 1) := by
  have hm : b % 128 < 128 := Nat.mod_lt _ (by decide)
  have hlt : b % 128 * 128 ^ i ≤ 127 * 128 ^ i := Nat.mul_le_mul_right _ (by omega)
  rw [Nat.pow_succ]
  omega

theorem scan_end (i acc : Nat) : scan [] i acc = .error 0 := rfl
theorem scan_big {b : UInt8} {bs : List UInt8} {i acc : Nat} (h : 128 ≤ b.toNat ∧ i + 1 = 9) : scan (b :: bs) i acc = .error 1 := by rw [scan, if_pos h]
theorem scan_zero {b : UInt8} {bs : List UInt8} {i acc : Nat} (h : b.toNat = 0 ∧ 0 < i) : scan (b :: bs) i acc = .error 2 := by rw [scan, if_neg (by omega), if_pos h]
theorem scan_last {b : UInt8} {bs : List UInt8} {i acc : Nat} (h : ¬ (b.toNat = 0 ∧ 0 < i)) (h' : b.toNat < 128) : scan (b :: bs) i acc = .ok (acc + b.toNat % 128 * 128 ^ i, i + 1) := by rw [scan, if_neg (by omega), if_neg h, if_pos h']
theorem scan_more {b : UInt8} {bs : List UInt8} {i acc : Nat} (h : ¬ (128 ≤ b.toNat ∧ i + 1 = 9)) (h' : ¬ b.toNat < 128) : scan (b :: bs) i acc = scan bs (i + 1) (acc + b.toNat % 128 * 128 ^ i) := by rw [scan, if_neg h, if_neg (by omega), if_neg h']

set_option maxRecDepth 100000 in
set_option maxHeartbeats 2000000 in
theorem rnumber_any (p t : Nat) (ao : Option Addr) (cap : Nat) (bs : List UInt8) (at_ : Nat) (er ea : Int) (w : World) (h : RAt w p t ao cap bs at_ er ea) (hb : bs.length ≤ 140737488355328) (hat : at_ ≤ bs.length) :
    Calls Try.prog 75 #[.pointer (some ⟨p, 0, none⟩)] w fun e w' => e = scanEnd bs.length at_ (scan (bs.drop at_) 0 0) ∧ ∃ k, w' = w.drewN k := by
  have hc := h.c
  have h0 := h.tp.c0
  have h1 := h.tp.c1
  go_enter Try.func75, Try.ntmps75
  go_wp2
  go_loop [2, 3, 4, 5] (fun x _ y _ => ∃ (i acc : Nat), x = .int .i64 acc ∧ y = .int .i64 i ∧ i ≤ 8 ∧ acc < 128 ^ i ∧ at_ + i ≤ bs.length ∧ scan (bs.drop (at_ + i)) i acc = scan (bs.drop at_) 0 0)
    (fun _ _ y _ => (9 - intOf y).toNat)
  case atStart => exact ⟨0, 0, rfl, rfl, by omega, by simp, by omega, rfl⟩
  case round =>
    obtain ⟨i, acc, rfl, rfl, hi, hacc, hlen, hscan⟩ := hrel
    have HS := hideIt hscan
    clear hscan
    by_cases hend : at_ + i = bs.length
    · have HE := hideIt (show Ending.panicked (gu 4 bs.length) = scanEnd bs.length at_ (scan (bs.drop at_) 0 0) by rw [← HS.out, List.drop_of_length_le (by omega)]; rfl)
      have hge : bs.length ≤ at_ + i := by omega
      clear hend
      go_wp2_with (first | (go_at_call 91; refine (behind_bad p t ao cap bs _ er ea _ _ _ h hb (by omega) (by omega) (by omega) (by omega)).mono ?_; rintro e w' ⟨rfl, k, rfl⟩))
      exact ⟨rfl, HE.out, k, rfl⟩
    have hlt : at_ + i < bs.length := by omega
    obtain ⟨g, rfl⟩ : ∃ g, ao = some ⟨g, 0, none⟩ := by
      rcases h.tp.row.form with ⟨_, rfl, _⟩ | ⟨g, _, rfl, _⟩
      · simp at hlt
      · exact ⟨g, rfl⟩
    have hcell := h.tp.row.cell (at_ + i) hlt
    have hb256 : bs[at_ + i].toNat < 256 := UInt8.toNat_lt _
    have HB := hideIt (List.drop_eq_getElem_cons hlt)
    generalize hbv : bs[at_ + i] = bb at *
    clear hbv hend
    have HT := hideIt (HS.out.symm.trans (by rw [HB.out]))
    have HO := hideIt (or_sevens acc bb.toNat i hacc hi)
    by_cases hlow : bb.toNat < 128
    · have hl1 : ¬ 128 ≤ (bb.toNat : Int) := by omega
      by_cases hz : bb.toNat = 0 ∧ 0 < i
      · have hz1 : ((bb.toNat : Int) == 0) = true := by simp [hz.1]
        have hi0 : 0 < (i : Int) := by omega
        have HE := hideIt (show Ending.panicked (gu 4 at_) = scanEnd bs.length at_ (scan (bs.drop at_) 0 0) by rw [HT.out, scan_zero hz]; rfl)
        clear hz
        go_wp2_with (first | (go_at_call 91; refine (behind_ok p t (some ⟨g, 0, none⟩) cap bs _ er ea _ _ _ h hb (by omega) (by omega) (by omega)).mono ?_; rintro e w' ⟨rfl, rfl⟩))
        go_region_held2 (fun w' => w'.cell? ⟨p, 0, none⟩ = some (.pointer (some ⟨t, 0, none⟩)) ∧ w'.cell? ⟨t, 1, none⟩ = some (.int .i64 at_)) (go_keep) (first | (go_at_call 76; refine (fail_two _ _ _ _).mono ?_; rintro e w' (⟨rfl, rfl⟩ | ⟨rfl, rfl, hF⟩); exact ⟨rfl, HE.out, 1, rfl⟩; skip))
        all_goals exact hF.out.elim
      · have HE := hideIt (show Ending.returned (.tuple #[.int .i64 ((acc + bb.toNat % 128 * 128 ^ i : Nat) : Int), .int .i64 ((at_ : Int) + (i : Int) + 1)]) = scanEnd bs.length at_ (scan (bs.drop at_) 0 0) by
          rw [HT.out, scan_last hz hlow]; simp [scanEnd]; omega)
        by_cases hz0 : bb.toNat = 0
        · have hz1 : ((bb.toNat : Int) == 0) = true := by simp [hz0]
          have hi0 : ¬ 0 < (i : Int) := by omega
          clear hz hz0
          go_wp2_with (first | (go_at_call 91; refine (behind_ok p t (some ⟨g, 0, none⟩) cap bs _ er ea _ _ _ h hb (by omega) (by omega) (by omega)).mono ?_; rintro e w' ⟨rfl, rfl⟩))
          go_ret2
          exact ⟨by rw [← HE.out, ← HO.out]; rfl, 0, rfl⟩
        · have hz1 : ((bb.toNat : Int) == 0) = false := by simp [hz0]
          clear hz hz0
          go_wp2_with (first | (go_at_call 91; refine (behind_ok p t (some ⟨g, 0, none⟩) cap bs _ er ea _ _ _ h hb (by omega) (by omega) (by omega)).mono ?_; rintro e w' ⟨rfl, rfl⟩))
          go_ret2
          exact ⟨by rw [← HE.out, ← HO.out]; rfl, 0, rfl⟩
    · have hl1 : 128 ≤ (bb.toNat : Int) := by omega
      have hz1 : ((bb.toNat : Int) == 0) = false := by simp; omega
      by_cases h9 : i + 1 = 9
      · have HE := hideIt (show Ending.panicked (gu 5 at_) = scanEnd bs.length at_ (scan (bs.drop at_) 0 0) by rw [HT.out, scan_big ⟨by omega, h9⟩]; rfl)
        have h91 : ((i : Int) + 1 == 9) = true := by simp; omega
        clear h9
        go_wp2_with (first | (go_at_call 91; refine (behind_ok p t (some ⟨g, 0, none⟩) cap bs _ er ea _ _ _ h hb (by omega) (by omega) (by omega)).mono ?_; rintro e w' ⟨rfl, rfl⟩))
        go_region_held2 (fun w' => w'.cell? ⟨p, 0, none⟩ = some (.pointer (some ⟨t, 0, none⟩)) ∧ w'.cell? ⟨t, 1, none⟩ = some (.int .i64 at_)) (go_keep) (first | (go_at_call 76; refine (fail_two _ _ _ _).mono ?_; rintro e w' (⟨rfl, rfl⟩ | ⟨rfl, rfl, hF⟩); exact ⟨rfl, HE.out, 1, rfl⟩; skip))
        all_goals exact hF.out.elim
      · have HE := hideIt (HT.out.trans (scan_more (by omega) hlow))
        have h91 : ((i : Int) + 1 == 9) = false := by simp; omega
        have hi7 : i ≤ 7 := by omega
        clear h9
        go_wp2_with (first | (go_at_call 91; refine (behind_ok p t (some ⟨g, 0, none⟩) cap bs _ er ea _ _ _ h hb (by omega) (by omega) (by omega)).mono ?_; rintro e w' ⟨rfl, rfl⟩))
        go_round
        case measure => simp [intOf]; omega
        case rel => exact ⟨i + 1, acc + bb.toNat % 128 * 128 ^ i, by rw [← HO.out], by go_num, by omega, pow_acc _ _ _ hacc, by omega, HE.out.symm⟩

end Go.Proofs.Ytojgikaoiegmpaa

/- The reader's methods: numbers, the place, the fault. -/
namespace Go.Proofs.Ytojgikaoiegmpaa
open Go.RowKit Go.IntWalk
set_option linter.unusedSimpArgs false
set_option linter.unusedVariables false
set_option maxRecDepth 100000

section
variable {w : World} {p t d : Nat} {ao : Option Addr} {cap : Nat} {bs : List UInt8} {at_ er ea : Int}

theorem RAt.apart (h : RAt w p t ao cap bs at_ er ea) : ¬ Go.Proofs.Ytojgikaoiegmpaa.blk ao p := by
  rintro ⟨a, rfl, hb⟩
  rcases h.tp.row.form with ⟨h0, _⟩ | ⟨g, cur, h0, hh, _⟩
  · cases h0
  · obtain rfl := Option.some.inj h0
    simp only at hb
    subst hb
    have := h.box.symm.trans hh
    simp at this
theorem RAt.pset (h : RAt w p t ao cap bs at_ er ea) : ¬ wset t ao p := by
  rintro (e | e)
  · exact h.ne e
  · exact h.apart e
theorem RAt.setlt (h : RAt w p t ao cap bs at_ er ea) {k : Nat} (hk : wset t ao k) : k < w.heap.size := by
  rcases hk with rfl | e
  · exact h.tp.lt
  · exact h.tp.row.lt e

/-- do over a reader's step that goes well: what it told lies in the block d. -/
theorem rdo_ok (f : Nat) (caps : Array Value) (o : Obj) (n : Int) (h : RAt w p t ao cap bs at_ 0 ea) (hd : d < w.heap.size) (hdt : ¬ wset t ao d) (hdp : d ≠ p)
    (hcf : ∀ w' : World, (callFunc f caps).run Try.prog w' = .ok (.enter f caps) w')
    (hstep : Calls Try.prog f caps (boxed w t).drew fun e w' => e = .returned (.int .i64 n) ∧ w'.heap[d]? = some o ∧ Fr (fun k => k = d) (boxed w t).drew w') :
    Calls Try.prog 49 #[.pointer (some ⟨t, 0, none⟩), .func (.func f) #[] caps] w fun e w' => e = .returned (.tuple #[]) ∧ w'.heap[d]? = some o ∧ RAt w' p t ao cap bs n 0 ea ∧ Fr (fun k => k = t ∨ k = d) w w' := by
  have hb : RAt (boxed w t).drew p t ao cap bs at_ 0 ea := h.fr (Fr.boxed w t (fun _ => False)) (fun e => e) (fun _ _ e => e)
  refine do_step t f caps w _ _ h.tp.c2 h.tp.lt hcf hstep ?_ ?_ ?_
  · rintro e w' ⟨rfl, ho, hF⟩
    have hR := hb.fr hF (fun e => hdp e.symm) (fun k hk e => hdt (by subst e; exact hk))
    exact stepEnd_of hR.tp hF (by omega) h.tp.lt (Or.inl ⟨_, rfl⟩)
  · rintro m w2 ⟨he, ho, hF⟩
    obtain rfl : m = n := by simpa using he
    have hR := hb.fr hF (fun e => hdp e.symm) (fun k hk e => hdt (by subst e; exact hk))
    have hne : d ≠ t := fun e => hdt (Or.inl e)
    refine ⟨rfl, (heap_setCell_other _ _ _ _ hne).trans ho, hR.moved m, ?_⟩
    exact ((Fr.boxed w t (fun k => k = t ∨ k = d)).trans hF (fun i _ e => Or.inr e)).trans (Fr.moved w2 t _) (fun i _ e => Or.inl e)
  · rintro er a w2 ⟨he, _⟩
    cases he

/-- do over a reader's step that gives up. -/
theorem rdo_bad (f : Nat) (caps : Array Value) (e0 a0 : Int) (h : RAt w p t ao cap bs at_ 0 ea) (hd : d < w.heap.size) (hdt : ¬ wset t ao d)
    (hcf : ∀ w' : World, (callFunc f caps).run Try.prog w' = .ok (.enter f caps) w')
    (hstep : Calls Try.prog f caps (boxed w t).drew fun e w' => e = .panicked (gu e0 a0) ∧ ∃ k, w' = (boxed w t).drew.drewN k) :
    Calls Try.prog 49 #[.pointer (some ⟨t, 0, none⟩), .func (.func f) #[] caps] w fun e w' => e = .returned (.tuple #[]) ∧ w'.heap[d]? = w.heap[d]? ∧ RAt w' p t ao cap bs at_ e0 a0 ∧ Fr (fun k => k = t ∨ k = d) w w' := by
  have hF0 : ∀ k, Fr (fun _ => False) w ((boxed w t).drew.drewN k) := fun k => (Fr.boxed w t _).drewN k
  have hb : ∀ k, RAt ((boxed w t).drew.drewN k) p t ao cap bs at_ 0 ea := fun k => h.fr (hF0 k) (fun e => e) (fun _ _ e => e)
  refine do_step t f caps w _ _ h.tp.c2 h.tp.lt hcf hstep ?_ ?_ ?_
  · rintro e w' ⟨rfl, k, rfl⟩
    exact stepEnd_of (hb k).tp ((Fr.refl (fun _ => False) _).drewN k) (fun e => e) h.tp.lt (Or.inr ⟨_, _, rfl⟩)
  · rintro m w2 ⟨he, _⟩
    cases he
  · rintro er a w2 ⟨he, k, rfl⟩
    obtain ⟨rfl, rfl⟩ : e0 = er ∧ a0 = a := by simpa [gu, eq_comm] using he
    have hne : d ≠ t := fun e => hdt (Or.inl e)
    have hfr := ((hF0 k).mono (S' := fun k => k = t) (fun _ e => e.elim)).trans (Fr.faulted ((boxed w t).drew.drewN k) t (.int .i64 e0) (.int .i64 a0) (.cells #[.int .i64 e0, .int .i64 a0] 123)) (fun i _ e => e)
    exact ⟨rfl, hfr.block d hd hne, (hb k).faulted _ _ _, hfr.mono (fun k e => Or.inl e)⟩

theorem rdo_shut (fv : Value) (h : RAt w p t ao cap bs at_ er ea) (her : (er != 0) = true) (hd : d < w.heap.size) :
    Calls Try.prog 49 #[.pointer (some ⟨t, 0, none⟩), fv] w fun e w' => e = .returned (.tuple #[]) ∧ w'.heap[d]? = w.heap[d]? ∧ RAt w' p t ao cap bs at_ er ea ∧ Fr (fun k => k = t ∨ k = d) w w' := by
  refine (do_shut t fv w er h.tp.c2 her h.tp.lt).mono ?_
  rintro e w' ⟨rfl, rfl⟩
  have hF : Fr (fun _ => False) w (boxed w t) := (Fr.refl _ w).alloc _
  exact ⟨rfl, hF.block d hd (fun e => e), h.fr hF (fun e => e) (fun _ _ e => e), hF.mono (fun _ e => e.elim)⟩
end

/-- What stands as a number at a place, held against bounds: the fault, or the number and the place behind it. -/
def rdNum (bs : List UInt8) (at_ : Nat) (low high above : Int) : Sum (Int × Int) (Nat × Nat) :=
  match scan (bs.drop at_) 0 0 with
  | .error 0 => .inl (4, bs.length)
  | .error 1 => .inl (5, at_)
  | .error _ => .inl (4, at_)
  | .ok (n, k) => if (n : Int) < low then .inl (5, at_) else if high < (n : Int) then .inl (above, at_) else .inr (n, at_ + k)

theorem scan_bound (bs : List UInt8) : ∀ (i acc : Nat), i ≤ 8 → acc < 128 ^ i → ∀ n k, scan bs i acc = .ok (n, k) → n < 128 ^ 9 ∧ i < k ∧ k ≤ i + bs.length := by
  induction bs with
  | nil => intro i acc _ _ n k h; simp [scan] at h
  | cons b bs ih =>
    intro i acc hi hacc n k h
    by_cases h1 : 128 ≤ b.toNat ∧ i + 1 = 9
    · rw [scan_big h1] at h; cases h
    by_cases h2 : b.toNat = 0 ∧ 0 < i
    · rw [scan_zero h2] at h; cases h
    have hp := pow_acc acc b.toNat i hacc
    by_cases h3 : b.toNat < 128
    · rw [scan_last h2 h3] at h
      obtain ⟨rfl, rfl⟩ : _ = n ∧ _ = k := by simpa using h
      refine ⟨Nat.lt_of_lt_of_le hp (Nat.pow_le_pow_right (by decide) (by omega)), by omega, by simp⟩
    · rw [scan_more h1 h3] at h
      have := ih (i + 1) _ (by omega) hp n k h
      simp only [List.length_cons]
      omega

theorem scan_ok {bs : List UInt8} {at_ n k : Nat} (h : scan (bs.drop at_) 0 0 = .ok (n, k)) (hat : at_ ≤ bs.length) : n ≤ 9223372036854775807 ∧ 0 < k ∧ at_ + k ≤ bs.length := by
  have := scan_bound (bs.drop at_) 0 0 (by omega) (by simp) n k h
  rw [show (128 : Nat) ^ 9 = 9223372036854775808 by decide, List.length_drop] at this
  omega

/-- The number at a place, as number tells it. -/
theorem rnumber_bad (p t : Nat) (ao : Option Addr) (cap : Nat) (bs : List UInt8) (at_ : Nat) (er ea : Int) (w : World) (h : RAt w p t ao cap bs at_ er ea) (hb : bs.length ≤ 140737488355328) (hat : at_ ≤ bs.length) (x : Nat) (hx : scan (bs.drop at_) 0 0 = .error x) :
    Calls Try.prog 75 #[.pointer (some ⟨p, 0, none⟩)] w fun e w' => (∃ e0 a0, e = .panicked (gu e0 a0) ∧ ∀ low high above, rdNum bs at_ low high above = .inl (e0, a0)) ∧ ∃ k, w' = w.drewN k := by
  refine (rnumber_any p t ao cap bs at_ er ea w h hb hat).mono ?_
  rintro e w' ⟨rfl, hk⟩
  refine ⟨?_, hk⟩
  rw [hx]
  match x, hx with
  | 0, hx => exact ⟨_, _, rfl, fun _ _ _ => by simp [rdNum, hx]⟩
  | 1, hx => exact ⟨_, _, rfl, fun _ _ _ => by simp [rdNum, hx]⟩
  | x + 2, hx => exact ⟨_, _, rfl, fun _ _ _ => by simp [rdNum, hx]⟩

theorem rnumber_ok (p t : Nat) (ao : Option Addr) (cap : Nat) (bs : List UInt8) (at_ : Nat) (er ea : Int) (w : World) (h : RAt w p t ao cap bs at_ er ea) (hb : bs.length ≤ 140737488355328) (hat : at_ ≤ bs.length) (n k : Nat) (hx : scan (bs.drop at_) 0 0 = .ok (n, k)) :
    Calls Try.prog 75 #[.pointer (some ⟨p, 0, none⟩)] w fun e w' => e = .returned (.tuple #[.int .i64 n, .int .i64 (at_ + k : Nat)]) ∧ ∃ k, w' = w.drewN k := by
  refine (rnumber_any p t ao cap bs at_ er ea w h hb hat).mono ?_
  rintro e w' ⟨rfl, hk⟩
  refine ⟨?_, hk⟩
  rw [hx]
  simp [scanEnd]

theorem RAt.drewN {w : World} {p t : Nat} {ao : Option Addr} {cap : Nat} {bs : List UInt8} {at_ er ea : Int} (h : RAt w p t ao cap bs at_ er ea) (k : Nat) : RAt (w.drewN k) p t ao cap bs at_ er ea := h.fr ((Fr.refl (fun _ => False) w).drewN k) (fun e => e) (fun _ _ e => e)

set_option maxHeartbeats 1000000 in
theorem rint1_bad (p t a b c d : Nat) (ao : Option Addr) (cap : Nat) (bs : List UInt8) (at_ : Nat) (er ea low high e0 a0 : Int) (w : World) (h : RAt w p t ao cap bs at_ er ea) (hb : bs.length ≤ 140737488355328) (hat : at_ ≤ bs.length)
    (ha : w.cell? ⟨a, 0, none⟩ = some (.pointer (some ⟨p, 0, none⟩))) (hlo : w.cell? ⟨b, 0, none⟩ = some (.int .i64 low)) (hhi : w.cell? ⟨c, 0, none⟩ = some (.int .i64 high)) (hr : rdNum bs at_ low high 5 = .inl (e0, a0)) :
    Calls Try.prog 92 #[.pointer (some ⟨a, 0, none⟩), .pointer (some ⟨b, 0, none⟩), .pointer (some ⟨c, 0, none⟩), .pointer (some ⟨d, 0, none⟩)] w fun e w' => e = .panicked (gu e0 a0) ∧ ∃ k, w' = w.drewN k := by
  cases hx : scan (bs.drop at_) 0 0 with
  | error x =>
    have HN := hideIt (rnumber_bad p t ao cap bs at_ er ea w h hb hat x hx)
    clear hx
    have HR := hideIt hr
    clear hr
    go_enter Try.func92, Try.ntmps92
    go_wp2_with fail
    refine Calls.mono HN.out ?_
    rintro e w' ⟨⟨e1, a1, rfl, hall⟩, k, rfl⟩
    have e2 := HR.out.symm.trans (hall low high 5)
    obtain ⟨rfl, rfl⟩ : e0 = e1 ∧ a0 = a1 := by simpa using e2
    exact ⟨rfl, rfl, k, rfl⟩
  | ok nk =>
    obtain ⟨n, m⟩ := nk
    have hsc := scan_ok hx hat
    have hbad : ((n : Int) < low ∨ high < (n : Int)) ∧ e0 = 5 ∧ a0 = at_ := by
      simp only [rdNum, hx] at hr
      split at hr
      · simp at hr; exact ⟨Or.inl ‹_›, hr.1.symm, hr.2.symm⟩
      · split at hr
        · simp at hr; exact ⟨Or.inr ‹_›, hr.1.symm, hr.2.symm⟩
        · cases hr
    obtain ⟨hcase, rfl, rfl⟩ := hbad
    have HN := hideIt (rnumber_ok p t ao cap bs at_ er ea w h hb hat n m hx)
    clear hx hr
    by_cases hl : (n : Int) < low
    · clear hcase
      go_enter Try.func92, Try.ntmps92
      go_wp2_with fail
      refine Calls.mono HN.out ?_
      rintro e w' ⟨rfl, k, rfl⟩
      have hc := h.c
      have h1 := h.tp.c1
      go_wp2_with fail
      go_region_held2 (fun w' => w'.cell? ⟨a, 0, none⟩ = some (.pointer (some ⟨p, 0, none⟩)) ∧ w'.cell? ⟨p, 0, none⟩ = some (.pointer (some ⟨t, 0, none⟩)) ∧ w'.cell? ⟨t, 1, none⟩ = some (.int .i64 at_)) (go_keep)
        (first | (go_at_call 76; refine (fail_two _ _ _ _).mono ?_; rintro e w' (⟨rfl, rfl⟩ | ⟨rfl, rfl, hF⟩); exact ⟨rfl, rfl, k + 1, rfl⟩; skip))
      all_goals exact hF.out.elim
    · have hh : high < (n : Int) := hcase.resolve_left hl
      clear hcase
      go_enter Try.func92, Try.ntmps92
      go_wp2_with fail
      refine Calls.mono HN.out ?_
      rintro e w' ⟨rfl, k, rfl⟩
      have hc := h.c
      have h1 := h.tp.c1
      go_wp2_with fail
      go_region_held2 (fun w' => w'.cell? ⟨a, 0, none⟩ = some (.pointer (some ⟨p, 0, none⟩)) ∧ w'.cell? ⟨p, 0, none⟩ = some (.pointer (some ⟨t, 0, none⟩)) ∧ w'.cell? ⟨t, 1, none⟩ = some (.int .i64 at_)) (go_keep)
        (first | (go_at_call 76; refine (fail_two _ _ _ _).mono ?_; rintro e w' (⟨rfl, rfl⟩ | ⟨rfl, rfl, hF⟩); exact ⟨rfl, rfl, k + 1, rfl⟩; skip))
      all_goals exact hF.out.elim

theorem rint1_ok (p t a b c d : Nat) (ao : Option Addr) (cap : Nat) (bs : List UInt8) (at_ : Nat) (er ea low high v : Int) (n m : Nat) (w : World) (h : RAt w p t ao cap bs at_ er ea) (hb : bs.length ≤ 140737488355328) (hat : at_ ≤ bs.length)
    (ha : w.cell? ⟨a, 0, none⟩ = some (.pointer (some ⟨p, 0, none⟩))) (hlo : w.cell? ⟨b, 0, none⟩ = some (.int .i64 low)) (hhi : w.cell? ⟨c, 0, none⟩ = some (.int .i64 high)) (hd : w.heap[d]? = some (.cells #[.int .i64 v] 3 (0, 0))) (hr : rdNum bs at_ low high 5 = .inr (n, m)) :
    Calls Try.prog 92 #[.pointer (some ⟨a, 0, none⟩), .pointer (some ⟨b, 0, none⟩), .pointer (some ⟨c, 0, none⟩), .pointer (some ⟨d, 0, none⟩)] w fun e w' => e = .returned (.int .i64 m) ∧ w'.heap[d]? = some (.cells #[.int .i64 n] 3 (0, 0)) ∧ Fr (fun k => k = d) w w' := by
  cases hx : scan (bs.drop at_) 0 0 with
  | error x =>
    match x, hx with
    | 0, hx => simp [rdNum, hx] at hr
    | 1, hx => simp [rdNum, hx] at hr
    | x + 2, hx => simp [rdNum, hx] at hr
  | ok nk =>
    obtain ⟨n', m'⟩ := nk
    have hsc := scan_ok hx hat
    have hgood : ¬ (n' : Int) < low ∧ ¬ high < (n' : Int) ∧ n' = n ∧ at_ + m' = m := by
      simp only [rdNum, hx] at hr
      split at hr
      · cases hr
      · split at hr
        · cases hr
        · simp at hr; exact ⟨‹_›, ‹_›, hr⟩
    obtain ⟨hl, hh, rfl, rfl⟩ := hgood
    have HN := hideIt (rnumber_ok p t ao cap bs at_ er ea w h hb hat n' m' hx)
    have hdc : w.cell? ⟨d, 0, none⟩ = some (.int .i64 v) := by rw [cell_of_row w d 0 _ _ _ hd]; rfl
    have hdz : w.frozen? ⟨d, 0, none⟩ = false := frozen_of_row w d 0 _ _ hd
    clear hx hr
    go_enter Try.func92, Try.ntmps92
    go_wp2_with fail
    refine Calls.mono HN.out ?_
    rintro e w' ⟨rfl, k, rfl⟩
    go_wp2_with fail
    go_ret
    refine ⟨rfl, ?_, ((Fr.refl (fun k => k = d) w).drewN k).setCell (fun _ => rfl) _⟩
    exact heap_setCell_same (w.drewN k) d 0 _ _ _ hd

end Go.Proofs.Ytojgikaoiegmpaa

/- The reader's methods Int, Count, At, Left, Fault, End. -/
namespace Go.Proofs.Ytojgikaoiegmpaa
open Go.RowKit Go.IntWalk
set_option linter.unusedSimpArgs false
set_option linter.unusedVariables false
set_option maxRecDepth 100000

/-- The world in which Int's step is handed to do. -/
def rboxes (w : World) (p : Nat) (low high : Int) : World := (((w.alloc (.cells #[.pointer (some ⟨p, 0, none⟩)] 49)).alloc (.cells #[.int .i64 low] 3)).alloc (.cells #[.int .i64 high] 3)).alloc (.cells #[.int .i64 0] 3)
theorem rboxes_size (w : World) (p : Nat) (low high : Int) : (rboxes w p low high).heap.size = w.heap.size + 4 := by simp [rboxes]
theorem Fr.rboxes (w : World) (p : Nat) (low high : Int) (S : Nat → Prop) : Fr S w (Go.Proofs.Ytojgikaoiegmpaa.rboxes w p low high) := ((((Fr.refl S w).alloc _).alloc _).alloc _).alloc _

theorem heap_new {w : World} {o : Obj} {k : Nat} (hk : k = w.heap.size) : (w.alloc o).heap[k]? = some o := by subst hk; exact heap_alloc_new w o
theorem heap_old {w : World} {o o' : Obj} {k : Nat} (h : w.heap[k]? = some o') : (w.alloc o).heap[k]? = some o' := (Below.heap_alloc w o k (Array.getElem?_eq_some_iff.1 h).1).trans h

theorem rboxes_get (w : World) (p : Nat) (low high : Int) :
    (rboxes w p low high).heap[w.heap.size]? = some (.cells #[.pointer (some ⟨p, 0, none⟩)] 49 (0, 0)) ∧ (rboxes w p low high).heap[w.heap.size + 1]? = some (.cells #[.int .i64 low] 3 (0, 0)) ∧
    (rboxes w p low high).heap[w.heap.size + 1 + 1]? = some (.cells #[.int .i64 high] 3 (0, 0)) ∧ (rboxes w p low high).heap[w.heap.size + 1 + 1 + 1]? = some (.cells #[.int .i64 0] 3 (0, 0)) :=
  ⟨heap_old (heap_old (heap_old (heap_new rfl))), heap_old (heap_old (heap_new (by simp))), heap_old (heap_new (by simp)), heap_new (by simp)⟩

theorem cellOfHeap {w : World} {g : Nat} {cs : Array Value} {T : TypeId} (h : w.heap[g]? = some (.cells cs T (0, 0))) (i : Nat) {v : Value} (hv : cs[i]? = some v) : w.cell? ⟨g, i, none⟩ = some v := (cell_of_row w g i _ _ _ h).trans hv

theorem rint_via (p t : Nat) (low high v : Int) (w : World) (R : World → Prop) (hc : w.cell? ⟨p, 0, none⟩ = some (.pointer (some ⟨t, 0, none⟩))) (hpl : p < w.heap.size)
    (hdo : Calls Try.prog 49 #[.pointer (some ⟨t, 0, none⟩), .func (.func 92) #[] #[.pointer (some ⟨w.heap.size, 0, none⟩), .pointer (some ⟨w.heap.size + 1, 0, none⟩), .pointer (some ⟨w.heap.size + 1 + 1, 0, none⟩), .pointer (some ⟨w.heap.size + 1 + 1 + 1, 0, none⟩)]] (rboxes w p low high)
      fun e w' => e = .returned (.tuple #[]) ∧ w'.heap[w.heap.size + 1 + 1 + 1]? = some (.cells #[.int .i64 v] 3 (0, 0)) ∧ R w') :
    Calls Try.prog 77 #[.pointer (some ⟨p, 0, none⟩), .int .i64 low, .int .i64 high] w fun e w' => e = .returned (.int .i64 v) ∧ R w' := by
  have hmf : ∀ (fn : Fn) (first cap : Array Value) (w : World), (Instr.makeFunc fn first cap).run Try.prog w = .ok (.func fn first cap) w := fun _ _ _ _ => rfl
  have HD := hideIt hdo
  have hc4 := fun o1 o2 o3 o4 => cellA (cellA (cellA (cellA hc o1) o2) o3) o4
  clear hdo
  go_enter Try.func77, Try.ntmps77
  go_wp2_with (go_at_call 48; refine (rnone_some p t _ (cellA (cellA (cellA hc _) _) _)).mono ?_; rintro e w' ⟨rfl, rfl⟩)
  refine Calls.mono HD.out ?_
  rintro e w' ⟨rfl, hv, hr⟩
  have HR := hideIt hr
  have hcv := cellOfHeap hv 0 rfl
  clear hr hv
  go_wp2_with fail
  go_ret
  exact ⟨rfl, HR.out⟩

/-- What Int tells, and the state behind it: the place, the fault. -/
def rInt (bs : List UInt8) (low high : Int) (s : Nat × Int × Int) : Int × (Nat × Int × Int) :=
  if s.2.1 ≠ 0 then (0, s) else match rdNum bs s.1 low high 5 with
    | .inl (e, a) => (0, (s.1, e, a))
    | .inr (n, m) => (n, (m, 0, s.2.2))

/-- A reader, by its place and its fault. -/
def ROk (w : World) (p t : Nat) (ao : Option Addr) (cap : Nat) (bs : List UInt8) (s : Nat × Int × Int) : Prop := RAt w p t ao cap bs s.1 s.2.1 s.2.2 ∧ s.1 ≤ bs.length

theorem rdNum_le {bs : List UInt8} {at_ n m : Nat} {low high above : Int} (h : rdNum bs at_ low high above = .inr (n, m)) (hat : at_ ≤ bs.length) : m ≤ bs.length := by
  unfold rdNum at h
  split at h
  · cases h
  · cases h
  · cases h
  · rename_i n' k' hx
    have := scan_ok hx hat
    split at h
    · cases h
    · split at h
      · cases h
      · simp at h; omega

theorem rint_any (p t : Nat) (ao : Option Addr) (cap : Nat) (bs : List UInt8) (s : Nat × Int × Int) (low high : Int) (w : World) (h : ROk w p t ao cap bs s) (hb : bs.length ≤ 140737488355328) :
    Calls Try.prog 77 #[.pointer (some ⟨p, 0, none⟩), .int .i64 low, .int .i64 high] w fun e w' => e = .returned (.int .i64 (rInt bs low high s).1) ∧ ROk w' p t ao cap bs (rInt bs low high s).2 ∧ Fr (fun k => k = t) w w' := by
  obtain ⟨at_, er, ea⟩ := s
  obtain ⟨hR, hat⟩ := h
  simp only at hR hat
  obtain ⟨g0, g1, g2, g3⟩ := rboxes_get w p low high
  have hsz := rboxes_size w p low high
  have hB : RAt (rboxes w p low high) p t ao cap bs at_ er ea := hR.fr (Fr.rboxes w p low high (fun _ => False)) (fun e => e) (fun _ _ e => e)
  have hlt := hR.lt
  have hd : w.heap.size + 1 + 1 + 1 < (rboxes w p low high).heap.size := by omega
  have hdt : ¬ wset t ao (w.heap.size + 1 + 1 + 1) := fun e => by have := hR.setlt e; omega
  have hB2 : RAt (boxed (rboxes w p low high) t).drew p t ao cap bs at_ er ea := hB.fr (Fr.boxed _ t (fun _ => False)) (fun e => e) (fun _ _ e => e)
  have hbx : ∀ k, k < (rboxes w p low high).heap.size → (boxed (rboxes w p low high) t).drew.heap[k]? = (rboxes w p low high).heap[k]? := fun k hk => (Fr.boxed _ t (fun _ => False)).block k hk (fun e => e)
  have hfin : ∀ w' : World, Fr (fun k => k = t ∨ k = w.heap.size + 1 + 1 + 1) (rboxes w p low high) w' → Fr (fun k => k = t) w w' := fun w' hF =>
    (Fr.rboxes w p low high _).trans hF (fun i hi e => e.resolve_right (by omega))
  by_cases her : er = 0
  · subst her
    cases hr : rdNum bs at_ low high 5 with
    | inl ea0 =>
      obtain ⟨e0, a0⟩ := ea0
      rw [show rInt bs low high (at_, 0, ea) = (0, (at_, e0, a0)) by simp [rInt, hr]]
      refine rint_via p t low high 0 w (fun w' => ROk w' p t ao cap bs (at_, e0, a0) ∧ Fr (fun k => k = t) w w') hR.c hlt ?_
      refine (rdo_bad (d := w.heap.size + 1 + 1 + 1) 92 _ e0 a0 hB hd hdt (fun _ => by kernel_rfl) (rint1_bad p t _ _ _ _ ao cap bs at_ 0 ea low high e0 a0 _ hB2 hb hat
        (cellOfHeap ((hbx _ (by omega)).trans g0) 0 rfl) (cellOfHeap ((hbx _ (by omega)).trans g1) 0 rfl) (cellOfHeap ((hbx _ (by omega)).trans g2) 0 rfl) hr)).mono ?_
      rintro e w' ⟨rfl, h1, h2, h3⟩
      exact ⟨rfl, h1.trans g3, ⟨h2, hat⟩, hfin w' h3⟩
    | inr nm =>
      obtain ⟨n, m⟩ := nm
      rw [show rInt bs low high (at_, 0, ea) = ((n : Int), (m, 0, ea)) by simp [rInt, hr]]
      refine rint_via p t low high n w (fun w' => ROk w' p t ao cap bs (m, 0, ea) ∧ Fr (fun k => k = t) w w') hR.c hlt ?_
      refine (rdo_ok (d := w.heap.size + 1 + 1 + 1) 92 _ _ m hB hd hdt (by omega) (fun _ => by kernel_rfl) (rint1_ok p t _ _ _ _ ao cap bs at_ 0 ea low high 0 n m _ hB2 hb hat
        (cellOfHeap ((hbx _ (by omega)).trans g0) 0 rfl) (cellOfHeap ((hbx _ (by omega)).trans g1) 0 rfl) (cellOfHeap ((hbx _ (by omega)).trans g2) 0 rfl) ((hbx _ (by omega)).trans g3) hr)).mono ?_
      rintro e w' ⟨rfl, h1, h2, h3⟩
      exact ⟨rfl, h1, ⟨h2, rdNum_le hr hat⟩, hfin w' h3⟩
  · rw [show rInt bs low high (at_, er, ea) = (0, (at_, er, ea)) by simp [rInt, her]]
    refine rint_via p t low high 0 w (fun w' => ROk w' p t ao cap bs (at_, er, ea) ∧ Fr (fun k => k = t) w w') hR.c hlt ?_
    refine (rdo_shut (d := w.heap.size + 1 + 1 + 1) _ hB (by simpa using her) hd).mono ?_
    rintro e w' ⟨rfl, h1, h2, h3⟩
    exact ⟨rfl, h1.trans g3, ⟨h2, hat⟩, hfin w' h3⟩

theorem rat_any (p t : Nat) (ao : Option Addr) (cap : Nat) (bs : List UInt8) (s : Nat × Int × Int) (w : World) (h : ROk w p t ao cap bs s) : Calls Try.prog 28 #[.pointer (some ⟨p, 0, none⟩)] w fun e w' => e = .returned (.int .i64 s.1) ∧ w' = w := by
  have hc := h.1.c
  have h1 := h.1.tp.c1
  go_enter Try.func28, Try.ntmps28
  go_wp2_with (go_at_call 48; refine (rnone_some p t _ hc).mono ?_; rintro e w' ⟨rfl, rfl⟩)
  go_ret
  exact ⟨rfl, rfl⟩


theorem rfault_any (p t : Nat) (ao : Option Addr) (cap : Nat) (bs : List UInt8) (s : Nat × Int × Int) (w : World) (h : ROk w p t ao cap bs s) : Calls Try.prog 26 #[.pointer (some ⟨p, 0, none⟩)] w fun e w' => e = .returned (.agg #[.int .i64 s.2.1, .int .i64 s.2.2]) ∧ Fr (fun _ => False) w w' := by
  obtain ⟨at_, er, ea⟩ := s
  obtain ⟨hR, hat⟩ := h
  have hc := hR.c
  have h2 := hR.tp.c2
  have h3 := hR.tp.c3
  have hpl := hR.lt
  have htl := hR.tp.lt
  simp only at h2 h3 ⊢
  go_enter Try.func26, Try.ntmps26
  go_wp2_with (go_at_call 48; refine (rnone_some p t _ (cellA hc _)).mono ?_; rintro e w' ⟨rfl, rfl⟩)
  exact bodyPost_ret (v := .agg #[.int .i64 er, .int .i64 ea]) (by simp [results, Try.results26, go_sem]) rfl ⟨rfl, (Fr.refl _ _).alloc _⟩

end Go.Proofs.Ytojgikaoiegmpaa

/- The reader's Count and Text. -/
namespace Go.Proofs.Ytojgikaoiegmpaa
open Go.RowKit Go.IntWalk
set_option linter.unusedSimpArgs false
set_option linter.unusedVariables false
set_option maxRecDepth 100000

theorem drewN_drewN (w : World) (k k' : Nat) : (w.drewN k).drewN k' = w.drewN (k + k') := by simp [World.drewN, Nat.add_assoc]

theorem rdNum_err {bs : List UInt8} {at_ x : Nat} {low high above : Int} {n m : Nat} (hx : scan (bs.drop at_) 0 0 = .error x) (hr : rdNum bs at_ low high above = .inr (n, m)) : False := by
  match x, hx with
  | 0, hx => simp [rdNum, hx] at hr
  | 1, hx => simp [rdNum, hx] at hr
  | x + 2, hx => simp [rdNum, hx] at hr

set_option maxHeartbeats 1000000 in
theorem count_bad (p t : Nat) (ao : Option Addr) (cap : Nat) (bs : List UInt8) (at_ : Nat) (er ea most e0 a0 : Int) (w : World) (h : RAt w p t ao cap bs at_ er ea) (hb : bs.length ≤ 140737488355328) (hat : at_ ≤ bs.length) (hr : rdNum bs at_ 0 most 3 = .inl (e0, a0)) :
    Calls Try.prog 51 #[.pointer (some ⟨p, 0, none⟩), .int .i64 most] w fun e w' => e = .panicked (gu e0 a0) ∧ ∃ k, w' = w.drewN k := by
  cases hx : scan (bs.drop at_) 0 0 with
  | error x =>
    have HN := hideIt (rnumber_bad p t ao cap bs at_ er ea w h hb hat x hx)
    clear hx
    have HR := hideIt hr
    clear hr
    go_enter Try.func51, Try.ntmps51
    go_wp2_with fail
    refine Calls.mono HN.out ?_
    rintro e w' ⟨⟨e1, a1, rfl, hall⟩, k, rfl⟩
    have e2 := HR.out.symm.trans (hall 0 most 3)
    obtain ⟨rfl, rfl⟩ : e0 = e1 ∧ a0 = a1 := by simpa using e2
    exact ⟨rfl, rfl, k, rfl⟩
  | ok nk =>
    obtain ⟨n, m⟩ := nk
    have hsc := scan_ok hx hat
    have hbad : most < (n : Int) ∧ e0 = 3 ∧ a0 = at_ := by
      simp only [rdNum, hx] at hr
      rw [if_neg (by omega)] at hr
      split at hr
      · simp at hr; exact ⟨‹_›, hr.1.symm, hr.2.symm⟩
      · cases hr
    obtain ⟨hh, rfl, rfl⟩ := hbad
    have HN := hideIt (rnumber_ok p t ao cap bs at_ er ea w h hb hat n m hx)
    clear hx hr
    go_enter Try.func51, Try.ntmps51
    go_wp2_with fail
    refine Calls.mono HN.out ?_
    rintro e w' ⟨rfl, k, rfl⟩
    have hc := h.c
    have h1 := h.tp.c1
    go_wp2_with fail
    go_region_held2 (fun w' => w'.cell? ⟨p, 0, none⟩ = some (.pointer (some ⟨t, 0, none⟩)) ∧ w'.cell? ⟨t, 1, none⟩ = some (.int .i64 at_)) (go_keep)
      (first | (go_at_call 76; refine (fail_two _ _ _ _).mono ?_; rintro e w' (⟨rfl, rfl⟩ | ⟨rfl, rfl, hF⟩); exact ⟨rfl, rfl, k + 1, rfl⟩; skip))
    all_goals exact hF.out.elim

theorem count_ok (p t : Nat) (ao : Option Addr) (cap : Nat) (bs : List UInt8) (at_ : Nat) (er ea most : Int) (n m : Nat) (w : World) (h : RAt w p t ao cap bs at_ er ea) (hb : bs.length ≤ 140737488355328) (hat : at_ ≤ bs.length) (hr : rdNum bs at_ 0 most 3 = .inr (n, m)) :
    Calls Try.prog 51 #[.pointer (some ⟨p, 0, none⟩), .int .i64 most] w fun e w' => e = .returned (.tuple #[.int .i64 n, .int .i64 m]) ∧ ∃ k, w' = w.drewN k := by
  cases hx : scan (bs.drop at_) 0 0 with
  | error x => exact (rdNum_err hx hr).elim
  | ok nk =>
    obtain ⟨n', m'⟩ := nk
    have hsc := scan_ok hx hat
    have hgood : ¬ most < (n' : Int) ∧ n' = n ∧ at_ + m' = m := by
      simp only [rdNum, hx] at hr
      rw [if_neg (by omega)] at hr
      split at hr
      · cases hr
      · simp at hr; exact ⟨‹_›, hr⟩
    obtain ⟨hh, rfl, rfl⟩ := hgood
    have HN := hideIt (rnumber_ok p t ao cap bs at_ er ea w h hb hat n' m' hx)
    clear hx hr
    go_enter Try.func51, Try.ntmps51
    go_wp2_with fail
    refine Calls.mono HN.out ?_
    rintro e w' ⟨rfl, k, rfl⟩
    go_wp2_with fail
    go_ret2
    exact ⟨rfl, k, rfl⟩

theorem rdNum_room {bs : List UInt8} {at_ n m : Nat} {low high above : Int} (h : rdNum bs at_ low high above = .inr (n, m)) (hat : at_ ≤ bs.length) : n ≤ 9223372036854775807 ∧ at_ < m ∧ m ≤ bs.length := by
  unfold rdNum at h
  split at h
  · cases h
  · cases h
  · cases h
  · rename_i n' k' hx
    have := scan_ok hx hat
    split at h
    · cases h
    · split at h
      · cases h
      · simp at h; omega

theorem rcount1_bad (p t a b d : Nat) (ao : Option Addr) (cap : Nat) (bs : List UInt8) (at_ : Nat) (er ea most e0 a0 : Int) (w : World) (h : RAt w p t ao cap bs at_ er ea) (hb : bs.length ≤ 140737488355328) (hat : at_ ≤ bs.length)
    (ha : w.cell? ⟨a, 0, none⟩ = some (.pointer (some ⟨p, 0, none⟩))) (hlo : w.cell? ⟨b, 0, none⟩ = some (.int .i64 most)) (hr : rdNum bs at_ 0 most 3 = .inl (e0, a0)) :
    Calls Try.prog 50 #[.pointer (some ⟨a, 0, none⟩), .pointer (some ⟨b, 0, none⟩), .pointer (some ⟨d, 0, none⟩)] w fun e w' => e = .panicked (gu e0 a0) ∧ ∃ k, w' = w.drewN k := by
  have HC := hideIt (count_bad p t ao cap bs at_ er ea most e0 a0 w h hb hat hr)
  clear hr
  go_enter Try.func50, Try.ntmps50
  go_wp2_with fail
  refine Calls.mono HC.out ?_
  rintro e w' ⟨rfl, k, rfl⟩
  exact ⟨rfl, rfl, k, rfl⟩

theorem rcount1_ok (p t a b d : Nat) (ao : Option Addr) (cap : Nat) (bs : List UInt8) (at_ : Nat) (er ea most v : Int) (n m : Nat) (w : World) (h : RAt w p t ao cap bs at_ er ea) (hb : bs.length ≤ 140737488355328) (hat : at_ ≤ bs.length)
    (ha : w.cell? ⟨a, 0, none⟩ = some (.pointer (some ⟨p, 0, none⟩))) (hlo : w.cell? ⟨b, 0, none⟩ = some (.int .i64 most)) (hd : w.heap[d]? = some (.cells #[.int .i64 v] 3 (0, 0))) (hr : rdNum bs at_ 0 most 3 = .inr (n, m)) :
    Calls Try.prog 50 #[.pointer (some ⟨a, 0, none⟩), .pointer (some ⟨b, 0, none⟩), .pointer (some ⟨d, 0, none⟩)] w fun e w' => e = .returned (.int .i64 m) ∧ w'.heap[d]? = some (.cells #[.int .i64 n] 3 (0, 0)) ∧ Fr (fun k => k = d) w w' := by
  have HC := hideIt (count_ok p t ao cap bs at_ er ea most n m w h hb hat hr)
  have hdc : w.cell? ⟨d, 0, none⟩ = some (.int .i64 v) := by rw [cell_of_row w d 0 _ _ _ hd]; rfl
  have hdz : w.frozen? ⟨d, 0, none⟩ = false := frozen_of_row w d 0 _ _ hd
  clear hr
  go_enter Try.func50, Try.ntmps50
  go_wp2_with fail
  refine Calls.mono HC.out ?_
  rintro e w' ⟨rfl, k, rfl⟩
  go_wp2_with fail
  go_ret
  exact ⟨rfl, heap_setCell_same (w.drewN k) d 0 _ _ _ hd, ((Fr.refl (fun k => k = d) w).drewN k).setCell (fun _ => rfl) _⟩

/-- The world in which Count's or Text's step is handed to do. -/
def rboxes2 (w : World) (p : Nat) (most : Int) (o : Obj) : World := ((w.alloc (.cells #[.pointer (some ⟨p, 0, none⟩)] 49)).alloc (.cells #[.int .i64 most] 3)).alloc o
theorem rboxes2_size (w : World) (p : Nat) (most : Int) (o : Obj) : (rboxes2 w p most o).heap.size = w.heap.size + 3 := by simp [rboxes2]
theorem Fr.rboxes2 (w : World) (p : Nat) (most : Int) (o : Obj) (S : Nat → Prop) : Fr S w (Go.Proofs.Ytojgikaoiegmpaa.rboxes2 w p most o) := (((Fr.refl S w).alloc _).alloc _).alloc _
theorem rboxes2_get (w : World) (p : Nat) (most : Int) (o : Obj) :
    (rboxes2 w p most o).heap[w.heap.size]? = some (.cells #[.pointer (some ⟨p, 0, none⟩)] 49 (0, 0)) ∧ (rboxes2 w p most o).heap[w.heap.size + 1]? = some (.cells #[.int .i64 most] 3 (0, 0)) ∧ (rboxes2 w p most o).heap[w.heap.size + 1 + 1]? = some o :=
  ⟨heap_old (heap_old (heap_new rfl)), heap_old (heap_new (by simp)), heap_new (by simp)⟩

theorem rcount_via (p t : Nat) (most v : Int) (w : World) (R : World → Prop) (hc : w.cell? ⟨p, 0, none⟩ = some (.pointer (some ⟨t, 0, none⟩))) (hpl : p < w.heap.size)
    (hdo : Calls Try.prog 49 #[.pointer (some ⟨t, 0, none⟩), .func (.func 50) #[] #[.pointer (some ⟨w.heap.size, 0, none⟩), .pointer (some ⟨w.heap.size + 1, 0, none⟩), .pointer (some ⟨w.heap.size + 1 + 1, 0, none⟩)]] (rboxes2 w p most (.cells #[.int .i64 0] 3))
      fun e w' => e = .returned (.tuple #[]) ∧ w'.heap[w.heap.size + 1 + 1]? = some (.cells #[.int .i64 v] 3 (0, 0)) ∧ R w') :
    Calls Try.prog 25 #[.pointer (some ⟨p, 0, none⟩), .int .i64 most] w fun e w' => e = .returned (.int .i64 v) ∧ R w' := by
  have hmf : ∀ (fn : Fn) (first cap : Array Value) (w : World), (Instr.makeFunc fn first cap).run Try.prog w = .ok (.func fn first cap) w := fun _ _ _ _ => rfl
  have HD := hideIt hdo
  have hc3 := fun o1 o2 o3 => cellA (cellA (cellA hc o1) o2) o3
  clear hdo
  go_enter Try.func25, Try.ntmps25
  go_wp2_with (go_at_call 48; refine (rnone_some p t _ (cellA (cellA hc _) _)).mono ?_; rintro e w' ⟨rfl, rfl⟩)
  refine Calls.mono HD.out ?_
  rintro e w' ⟨rfl, hv, hr⟩
  have HR := hideIt hr
  have hcv := cellOfHeap hv 0 rfl
  clear hr hv
  go_wp2_with fail
  go_ret
  exact ⟨rfl, HR.out⟩

theorem rtext_via (p t : Nat) (most : Int) (v : ByteArray) (w : World) (R : World → Prop) (hc : w.cell? ⟨p, 0, none⟩ = some (.pointer (some ⟨t, 0, none⟩))) (hpl : p < w.heap.size)
    (hdo : Calls Try.prog 49 #[.pointer (some ⟨t, 0, none⟩), .func (.func 96) #[] #[.pointer (some ⟨w.heap.size, 0, none⟩), .pointer (some ⟨w.heap.size + 1, 0, none⟩), .pointer (some ⟨w.heap.size + 1 + 1, 0, none⟩)]] (rboxes2 w p most (.cells #[.string ⟨#[]⟩] 9))
      fun e w' => e = .returned (.tuple #[]) ∧ w'.heap[w.heap.size + 1 + 1]? = some (.cells #[.string v] 9 (0, 0)) ∧ R w') :
    Calls Try.prog 93 #[.pointer (some ⟨p, 0, none⟩), .int .i64 most] w fun e w' => e = .returned (.string v) ∧ R w' := by
  have hmf : ∀ (fn : Fn) (first cap : Array Value) (w : World), (Instr.makeFunc fn first cap).run Try.prog w = .ok (.func fn first cap) w := fun _ _ _ _ => rfl
  have HD := hideIt hdo
  have hc3 := fun o1 o2 o3 => cellA (cellA (cellA hc o1) o2) o3
  clear hdo
  go_enter Try.func93, Try.ntmps93
  go_wp2_with (go_at_call 48; refine (rnone_some p t _ (cellA (cellA hc _) _)).mono ?_; rintro e w' ⟨rfl, rfl⟩)
  refine Calls.mono HD.out ?_
  rintro e w' ⟨rfl, hv, hr⟩
  have HR := hideIt hr
  have hcv := cellOfHeap hv 0 rfl
  clear hr hv
  go_wp2_with fail
  go_ret
  exact ⟨rfl, HR.out⟩

/-- What Text's step comes to: the fault, or the text and the place behind it. -/
def rdText (bs : List UInt8) (at_ : Nat) (most : Int) : Sum (Int × Int) (List UInt8 × Nat) :=
  match rdNum bs at_ 0 most 3 with
  | .inl f => .inl f
  | .inr (n, m) => if bs.length < m + n then .inl (4, bs.length) else .inr ((bs.drop m).take n, m + n)

theorem rtext1_bad (p t a b d : Nat) (ao : Option Addr) (cap : Nat) (bs : List UInt8) (at_ : Nat) (er ea most e0 a0 : Int) (w : World) (h : RAt w p t ao cap bs at_ er ea) (hb : bs.length ≤ 140737488355328) (hat : at_ ≤ bs.length)
    (ha : w.cell? ⟨a, 0, none⟩ = some (.pointer (some ⟨p, 0, none⟩))) (hlo : w.cell? ⟨b, 0, none⟩ = some (.int .i64 most)) (hr : rdText bs at_ most = .inl (e0, a0)) :
    Calls Try.prog 96 #[.pointer (some ⟨a, 0, none⟩), .pointer (some ⟨b, 0, none⟩), .pointer (some ⟨d, 0, none⟩)] w fun e w' => e = .panicked (gu e0 a0) ∧ ∃ k, w' = w.drewN k := by
  cases hx : rdNum bs at_ 0 most 3 with
  | inl f =>
    obtain ⟨e1, a1⟩ := f
    obtain ⟨rfl, rfl⟩ : e1 = e0 ∧ a1 = a0 := by simpa [rdText, hx] using hr
    have HC := hideIt (count_bad p t ao cap bs at_ er ea most e1 a1 w h hb hat hx)
    clear hr hx
    go_enter Try.func96, Try.ntmps96
    go_wp2_with fail
    refine Calls.mono HC.out ?_
    rintro e w' ⟨rfl, k, rfl⟩
    exact ⟨rfl, rfl, k, rfl⟩
  | inr nm =>
    obtain ⟨n, m⟩ := nm
    have hroom := rdNum_room hx hat
    have hlt : bs.length < m + n ∧ e0 = 4 ∧ a0 = bs.length := by
      simp only [rdText, hx] at hr
      split at hr
      · simp at hr; exact ⟨‹_›, hr.1.symm, hr.2.symm⟩
      · cases hr
    obtain ⟨hlt, rfl, rfl⟩ := hlt
    have HC := hideIt (count_ok p t ao cap bs at_ er ea most n m w h hb hat hx)
    have HB := hideIt (fun k => behind_bad p t ao cap bs at_ er ea m n (w.drewN k) (h.drewN k) hb (by omega) (by omega) (by omega) (by omega))
    clear hr hx
    go_enter Try.func96, Try.ntmps96
    go_wp2_with fail
    refine Calls.mono HC.out ?_
    rintro e w' ⟨rfl, k, rfl⟩
    go_wp2_with fail
    refine Calls.mono (HB.out k) ?_
    rintro e w' ⟨rfl, k', rfl⟩
    exact ⟨rfl, rfl, k + k', drewN_drewN w k k'⟩

theorem BsAt.sub {w : World} {g : Nat} {bs : List UInt8} {e : TypeId} {cap : Nat} (h : Row w e (some ⟨g, 0, none⟩) cap bs) (m n : Nat) (hmn : m + n ≤ bs.length) : BsAt w (some ⟨g, m, none⟩) ((bs.drop m).take n) := by
  refine Or.inr ⟨g, m, rfl, fun j hj => ?_⟩
  simp at hj
  rw [h.cell (m + j) (by omega)]
  simp

set_option maxRecDepth 100000 in
set_option maxHeartbeats 1000000 in
theorem rtext1_ok (p t a b d : Nat) (ao : Option Addr) (cap : Nat) (bs : List UInt8) (at_ : Nat) (er ea most : Int) (v : ByteArray) (x : List UInt8) (m : Nat) (w : World) (h : RAt w p t ao cap bs at_ er ea) (hb : bs.length ≤ 140737488355328) (hat : at_ ≤ bs.length)
    (ha : w.cell? ⟨a, 0, none⟩ = some (.pointer (some ⟨p, 0, none⟩))) (hlo : w.cell? ⟨b, 0, none⟩ = some (.int .i64 most)) (hd : w.heap[d]? = some (.cells #[.string v] 9 (0, 0))) (hr : rdText bs at_ most = .inr (x, m)) :
    Calls Try.prog 96 #[.pointer (some ⟨a, 0, none⟩), .pointer (some ⟨b, 0, none⟩), .pointer (some ⟨d, 0, none⟩)] w fun e w' => e = .returned (.int .i64 m) ∧ w'.heap[d]? = some (.cells #[.string ⟨x.toArray⟩] 9 (0, 0)) ∧ Fr (fun k => k = d) w w' := by
  cases hx : rdNum bs at_ 0 most 3 with
  | inl f => simp [rdText, hx] at hr
  | inr nm =>
    obtain ⟨n, m'⟩ := nm
    have hroom := rdNum_room hx hat
    have hgood : m' + n ≤ bs.length ∧ (bs.drop m').take n = x ∧ m' + n = m := by
      simp only [rdText, hx] at hr
      split at hr
      · cases hr
      · simp at hr; exact ⟨by omega, hr⟩
    obtain ⟨hle, hxe, rfl⟩ := hgood
    obtain ⟨g, rfl⟩ : ∃ g, ao = some ⟨g, 0, none⟩ := by
      rcases h.tp.row.form with ⟨_, rfl, _⟩ | ⟨g, _, rfl, _⟩
      · simp at hroom; omega
      · exact ⟨g, rfl⟩
    have hcap : bs.length ≤ cap ∧ cap ≤ maxLen := by
      rcases h.tp.row.form with ⟨e, _⟩ | ⟨_, _, _, _, h1, h2, _⟩
      · cases e
      · exact ⟨h1, h2⟩
    have hsub := BsAt.sub h.tp.row m' n hle
    rw [hxe] at hsub
    have hxl : x.length = n := by rw [← hxe]; simp; omega
    have hconv := hsub.conv (cap - m')
    rw [hxl] at hconv
    have hconvk := fun k => (show (convert 22 9 (.slice (some ⟨g, m', none⟩) n (cap - m'))).run Try.prog (w.drewN k) = .ok (.string ⟨x.toArray⟩) (w.drewN k) from by have := (hsub.fr ((Fr.refl (fun _ => False) w).drewN k) (fun _ _ _ e => e)).conv (cap - m'); rw [hxl] at this; exact this)
    have HC := hideIt (count_ok p t _ cap bs at_ er ea most n m' w h hb hat hx)
    have HB := hideIt (fun k => behind_ok p t _ cap bs at_ er ea m' n (w.drewN k) (h.drewN k) hb (by omega) (by omega) (by omega))
    have hc := h.c
    have h0 := h.tp.c0
    have hdc : w.cell? ⟨d, 0, none⟩ = some (.string v) := by rw [cell_of_row w d 0 _ _ _ hd]; rfl
    have hdz : w.frozen? ⟨d, 0, none⟩ = false := frozen_of_row w d 0 _ _ hd
    have hcm := hcap.2
    unfold maxLen at hcm
    clear hr hx hxe hconv
    have fin : ∀ k, ((w.drewN k).setCell ⟨d, 0, none⟩ (.string ⟨x.toArray⟩)).heap[d]? = some (.cells #[.string ⟨x.toArray⟩] 9 (0, 0)) ∧ Fr (fun k => k = d) w ((w.drewN k).setCell ⟨d, 0, none⟩ (.string ⟨x.toArray⟩)) :=
      fun k => ⟨heap_setCell_same (w.drewN k) d 0 _ _ _ hd, ((Fr.refl (fun k => k = d) w).drewN k).setCell (fun _ => rfl) _⟩
    have FIN := hideIt fin
    clear fin
    by_cases hcme : cap = m'
    · obtain rfl : x = [] := List.eq_nil_of_length_eq_zero (by omega)
      obtain rfl : n = 0 := by simpa using hxl.symm
      have hconv0 := fun k => (show (convert 22 9 (.slice (some ⟨g, 0, none⟩) 0 0)).run Try.prog (w.drewN k) = .ok (.string ⟨([] : List UInt8).toArray⟩) (w.drewN k) from BsAt.conv (w := w.drewN k) (ao := some ⟨g, 0, none⟩) (bs := []) (Or.inr ⟨g, 0, rfl, fun j hj => by simp at hj⟩) 0)
      subst hcme
      clear hxl hconvk
      go_enter Try.func96, Try.ntmps96
      go_wp2_with fail
      refine Calls.mono HC.out ?_
      rintro e w' ⟨rfl, k, rfl⟩
      go_wp2_with fail
      refine Calls.mono (HB.out k) ?_
      rintro e w' ⟨rfl, rfl⟩
      go_wp2_with fail
      go_ret
      exact ⟨by simp, (FIN.out k).1, (FIN.out k).2⟩
    · clear hxl
      go_enter Try.func96, Try.ntmps96
      go_wp2_with fail
      refine Calls.mono HC.out ?_
      rintro e w' ⟨rfl, k, rfl⟩
      go_wp2_with fail
      refine Calls.mono (HB.out k) ?_
      rintro e w' ⟨rfl, rfl⟩
      go_wp2_with fail
      go_ret
      exact ⟨by simp, (FIN.out k).1, (FIN.out k).2⟩

end Go.Proofs.Ytojgikaoiegmpaa

/- The reader's Count, Text whole; ID; End. -/
namespace Go.Proofs.Ytojgikaoiegmpaa
open Go.RowKit Go.IntWalk
set_option linter.unusedSimpArgs false
set_option linter.unusedVariables false
set_option maxRecDepth 100000

/-- What Count tells, and the state behind it. -/
def rCount (bs : List UInt8) (most : Int) (s : Nat × Int × Int) : Int × (Nat × Int × Int) :=
  if s.2.1 ≠ 0 then (0, s) else match rdNum bs s.1 0 most 3 with
    | .inl (e, a) => (0, (s.1, e, a))
    | .inr (n, m) => (n, (m, 0, s.2.2))

/-- What Text tells, and the state behind it. -/
def rText (bs : List UInt8) (most : Int) (s : Nat × Int × Int) : List UInt8 × (Nat × Int × Int) :=
  if s.2.1 ≠ 0 then ([], s) else match rdText bs s.1 most with
    | .inl (e, a) => ([], (s.1, e, a))
    | .inr (x, m) => (x, (m, 0, s.2.2))

theorem rdText_le {bs : List UInt8} {at_ m : Nat} {x : List UInt8} {most : Int} (h : rdText bs at_ most = .inr (x, m)) : m ≤ bs.length := by
  unfold rdText at h
  split at h
  · cases h
  · split at h
    · cases h
    · simp at h; omega

section
variable {w : World} {p t : Nat} {ao : Option Addr} {cap : Nat} {bs : List UInt8}

/-- What is common to Count and Text: the boxes. -/
theorem rb2 (at_ : Nat) (er ea most : Int) (o : Obj) (hR : RAt w p t ao cap bs at_ er ea) :
    RAt (rboxes2 w p most o) p t ao cap bs at_ er ea ∧ RAt (boxed (rboxes2 w p most o) t).drew p t ao cap bs at_ er ea ∧ w.heap.size + 1 + 1 < (rboxes2 w p most o).heap.size ∧ ¬ wset t ao (w.heap.size + 1 + 1) ∧
    (∀ k, k < (rboxes2 w p most o).heap.size → (boxed (rboxes2 w p most o) t).drew.heap[k]? = (rboxes2 w p most o).heap[k]?) ∧
    (∀ w' : World, Fr (fun k => k = t ∨ k = w.heap.size + 1 + 1) (rboxes2 w p most o) w' → Fr (fun k => k = t) w w') := by
  have hsz := rboxes2_size w p most o
  have hB : RAt (rboxes2 w p most o) p t ao cap bs at_ er ea := hR.fr (Fr.rboxes2 w p most o (fun _ => False)) (fun e => e) (fun _ _ e => e)
  refine ⟨hB, hB.fr (Fr.boxed _ t (fun _ => False)) (fun e => e) (fun _ _ e => e), by omega, fun e => by have := hR.setlt e; omega, fun k hk => (Fr.boxed _ t (fun _ => False)).block k hk (fun e => e), fun w' hF => ?_⟩
  exact (Fr.rboxes2 w p most o _).trans hF (fun i hi e => e.resolve_right (by omega))
end

theorem rcount_any (p t : Nat) (ao : Option Addr) (cap : Nat) (bs : List UInt8) (s : Nat × Int × Int) (most : Int) (w : World) (h : ROk w p t ao cap bs s) (hb : bs.length ≤ 140737488355328) :
    Calls Try.prog 25 #[.pointer (some ⟨p, 0, none⟩), .int .i64 most] w fun e w' => e = .returned (.int .i64 (rCount bs most s).1) ∧ ROk w' p t ao cap bs (rCount bs most s).2 ∧ Fr (fun k => k = t) w w' := by
  obtain ⟨at_, er, ea⟩ := s
  obtain ⟨hR, hat⟩ := h
  simp only at hR hat
  obtain ⟨g0, g1, g2⟩ := rboxes2_get w p most (.cells #[.int .i64 0] 3)
  obtain ⟨hB, hB2, hd, hdt, hbx, hfin⟩ := rb2 at_ er ea most (.cells #[.int .i64 0] 3) hR
  have hlt := hR.lt
  by_cases her : er = 0
  · subst her
    cases hr : rdNum bs at_ 0 most 3 with
    | inl ea0 =>
      obtain ⟨e0, a0⟩ := ea0
      rw [show rCount bs most (at_, 0, ea) = (0, (at_, e0, a0)) by simp [rCount, hr]]
      refine rcount_via p t most 0 w (fun w' => ROk w' p t ao cap bs (at_, e0, a0) ∧ Fr (fun k => k = t) w w') hR.c hlt ?_
      refine (rdo_bad (d := w.heap.size + 1 + 1) 50 _ e0 a0 hB hd hdt (fun _ => by kernel_rfl) (rcount1_bad p t _ _ _ ao cap bs at_ 0 ea most e0 a0 _ hB2 hb hat
        (cellOfHeap ((hbx _ (by omega)).trans g0) 0 rfl) (cellOfHeap ((hbx _ (by omega)).trans g1) 0 rfl) hr)).mono ?_
      rintro e w' ⟨rfl, h1, h2, h3⟩
      exact ⟨rfl, h1.trans g2, ⟨h2, hat⟩, hfin w' h3⟩
    | inr nm =>
      obtain ⟨n, m⟩ := nm
      rw [show rCount bs most (at_, 0, ea) = ((n : Int), (m, 0, ea)) by simp [rCount, hr]]
      refine rcount_via p t most n w (fun w' => ROk w' p t ao cap bs (m, 0, ea) ∧ Fr (fun k => k = t) w w') hR.c hlt ?_
      refine (rdo_ok (d := w.heap.size + 1 + 1) 50 _ _ m hB hd hdt (by omega) (fun _ => by kernel_rfl) (rcount1_ok p t _ _ _ ao cap bs at_ 0 ea most 0 n m _ hB2 hb hat
        (cellOfHeap ((hbx _ (by omega)).trans g0) 0 rfl) (cellOfHeap ((hbx _ (by omega)).trans g1) 0 rfl) ((hbx _ (by omega)).trans g2) hr)).mono ?_
      rintro e w' ⟨rfl, h1, h2, h3⟩
      exact ⟨rfl, h1, ⟨h2, rdNum_le hr hat⟩, hfin w' h3⟩
  · rw [show rCount bs most (at_, er, ea) = (0, (at_, er, ea)) by simp [rCount, her]]
    refine rcount_via p t most 0 w (fun w' => ROk w' p t ao cap bs (at_, er, ea) ∧ Fr (fun k => k = t) w w') hR.c hlt ?_
    refine (rdo_shut (d := w.heap.size + 1 + 1) _ hB (by simpa using her) hd).mono ?_
    rintro e w' ⟨rfl, h1, h2, h3⟩
    exact ⟨rfl, h1.trans g2, ⟨h2, hat⟩, hfin w' h3⟩

theorem rtext_any (p t : Nat) (ao : Option Addr) (cap : Nat) (bs : List UInt8) (s : Nat × Int × Int) (most : Int) (w : World) (h : ROk w p t ao cap bs s) (hb : bs.length ≤ 140737488355328) :
    Calls Try.prog 93 #[.pointer (some ⟨p, 0, none⟩), .int .i64 most] w fun e w' => e = .returned (.string ⟨(rText bs most s).1.toArray⟩) ∧ ROk w' p t ao cap bs (rText bs most s).2 ∧ Fr (fun k => k = t) w w' := by
  obtain ⟨at_, er, ea⟩ := s
  obtain ⟨hR, hat⟩ := h
  simp only at hR hat
  obtain ⟨g0, g1, g2⟩ := rboxes2_get w p most (.cells #[.string ⟨#[]⟩] 9)
  obtain ⟨hB, hB2, hd, hdt, hbx, hfin⟩ := rb2 at_ er ea most (.cells #[.string ⟨#[]⟩] 9) hR
  have hlt := hR.lt
  by_cases her : er = 0
  · subst her
    cases hr : rdText bs at_ most with
    | inl ea0 =>
      obtain ⟨e0, a0⟩ := ea0
      rw [show rText bs most (at_, 0, ea) = ([], (at_, e0, a0)) by simp [rText, hr]]
      refine rtext_via p t most ⟨#[]⟩ w (fun w' => ROk w' p t ao cap bs (at_, e0, a0) ∧ Fr (fun k => k = t) w w') hR.c hlt ?_
      refine (rdo_bad (d := w.heap.size + 1 + 1) 96 _ e0 a0 hB hd hdt (fun _ => by kernel_rfl) (rtext1_bad p t _ _ _ ao cap bs at_ 0 ea most e0 a0 _ hB2 hb hat
        (cellOfHeap ((hbx _ (by omega)).trans g0) 0 rfl) (cellOfHeap ((hbx _ (by omega)).trans g1) 0 rfl) hr)).mono ?_
      rintro e w' ⟨rfl, h1, h2, h3⟩
      exact ⟨rfl, h1.trans g2, ⟨h2, hat⟩, hfin w' h3⟩
    | inr nm =>
      obtain ⟨x, m⟩ := nm
      rw [show rText bs most (at_, 0, ea) = (x, (m, 0, ea)) by simp [rText, hr]]
      refine rtext_via p t most ⟨x.toArray⟩ w (fun w' => ROk w' p t ao cap bs (m, 0, ea) ∧ Fr (fun k => k = t) w w') hR.c hlt ?_
      refine (rdo_ok (d := w.heap.size + 1 + 1) 96 _ _ m hB hd hdt (by omega) (fun _ => by kernel_rfl) (rtext1_ok p t _ _ _ ao cap bs at_ 0 ea most ⟨#[]⟩ x m _ hB2 hb hat
        (cellOfHeap ((hbx _ (by omega)).trans g0) 0 rfl) (cellOfHeap ((hbx _ (by omega)).trans g1) 0 rfl) ((hbx _ (by omega)).trans g2) hr)).mono ?_
      rintro e w' ⟨rfl, h1, h2, h3⟩
      exact ⟨rfl, h1, ⟨h2, rdText_le hr⟩, hfin w' h3⟩
  · rw [show rText bs most (at_, er, ea) = ([], (at_, er, ea)) by simp [rText, her]]
    refine rtext_via p t most ⟨#[]⟩ w (fun w' => ROk w' p t ao cap bs (at_, er, ea) ∧ Fr (fun k => k = t) w w') hR.c hlt ?_
    refine (rdo_shut (d := w.heap.size + 1 + 1) _ hB (by simpa using her) hd).mono ?_
    rintro e w' ⟨rfl, h1, h2, h3⟩
    exact ⟨rfl, h1.trans g2, ⟨h2, hat⟩, hfin w' h3⟩

/-- End: the fault; without one, that bytes are left. -/
def rEnd (bs : List UInt8) (s : Nat × Int × Int) : Int × Int := if s.2.1 = 0 ∧ s.1 < bs.length then (4, s.1) else s.2


end Go.Proofs.Ytojgikaoiegmpaa

/- Code: an instruction in memory, the things that letters stand for (find, fits, clear). -/
namespace Go.Proofs.Ytojgikaoiegmpaa
open Go.RowKit Go.IntWalk
set_option linter.unusedSimpArgs false
set_option linter.unusedVariables false
set_option maxRecDepth 100000

/-- An instruction. -/
structure Ins where
  op : Int
  a : Int
  b : Int
  c : Int
  n : Int
  s : ByteArray

/-- Its number at a place. -/
def Ins.get (i : Ins) (f : Nat) : Int := if f = 0 then i.op else if f = 1 then i.a else if f = 2 then i.b else if f = 3 then i.c else i.n
def Ins.put (i : Ins) (f : Nat) (v : Int) : Ins := if f = 1 then { i with a := v } else if f = 2 then { i with b := v } else if f = 3 then { i with c := v } else { i with n := v }

def icells (i : Ins) : Array Value := #[.int .i64 i.op, .int .i64 i.a, .int .i64 i.b, .int .i64 i.c, .int .i64 i.n, .string i.s]
def InsAt (w : World) (p : Nat) (i : Ins) : Prop := w.heap[p]? = some (.cells (icells i) 40)

section
variable {w w' : World} {p : Nat} {i : Ins}
theorem InsAt.lt (h : InsAt w p i) : p < w.heap.size := (Array.getElem?_eq_some_iff.1 h).1
theorem InsAt.c0 (h : InsAt w p i) : w.cell? ⟨p, 0, none⟩ = some (.int .i64 i.op) := by rw [cell_of_row w p 0 _ _ _ h]; rfl
theorem InsAt.c1 (h : InsAt w p i) : w.cell? ⟨p, 1, none⟩ = some (.int .i64 i.a) := by rw [cell_of_row w p 1 _ _ _ h]; rfl
theorem InsAt.c2 (h : InsAt w p i) : w.cell? ⟨p, 2, none⟩ = some (.int .i64 i.b) := by rw [cell_of_row w p 2 _ _ _ h]; rfl
theorem InsAt.c3 (h : InsAt w p i) : w.cell? ⟨p, 3, none⟩ = some (.int .i64 i.c) := by rw [cell_of_row w p 3 _ _ _ h]; rfl
theorem InsAt.c4 (h : InsAt w p i) : w.cell? ⟨p, 4, none⟩ = some (.int .i64 i.n) := by rw [cell_of_row w p 4 _ _ _ h]; rfl
theorem InsAt.c5 (h : InsAt w p i) : w.cell? ⟨p, 5, none⟩ = some (.string i.s) := by rw [cell_of_row w p 5 _ _ _ h]; rfl
theorem InsAt.fz (h : InsAt w p i) (j : Nat) : w.frozen? ⟨p, j, none⟩ = false := frozen_of_row w p j _ _ h
theorem InsAt.num (h : InsAt w p i) (f : Nat) (h1 : 1 ≤ f) (h4 : f ≤ 4) : w.cell? ⟨p, f, none⟩ = some (.int .i64 (i.get f)) := by
  obtain rfl | rfl | rfl | rfl : f = 1 ∨ f = 2 ∨ f = 3 ∨ f = 4 := by omega
  · exact h.c1
  · exact h.c2
  · exact h.c3
  · exact h.c4
theorem InsAt.keep (h : InsAt w p i) (hb : w'.heap[p]? = w.heap[p]?) : InsAt w' p i := hb.trans h
theorem InsAt.fr {S : Nat → Prop} (h : InsAt w p i) (hf : Fr S w w') (hS : ¬ S p) : InsAt w' p i := (hf.block p h.lt hS).trans h
theorem InsAt.putN (h : InsAt w p i) (f : Nat) (h1 : 1 ≤ f) (h4 : f ≤ 4) (v : Int) : InsAt (w.setCell ⟨p, f, none⟩ (.int .i64 v)) p (i.put f v) := by
  have := heap_setCell_same w p f (icells i) 40 (.int .i64 v) h
  obtain rfl | rfl | rfl | rfl : f = 1 ∨ f = 2 ∨ f = 3 ∨ f = 4 := by omega
  all_goals exact this
theorem InsAt.putS (h : InsAt w p i) (s : ByteArray) : InsAt (w.setCell ⟨p, 5, none⟩ (.string s)) p { i with s := s } :=
  heap_setCell_same w p 5 (icells i) 40 (.string s) h
end

/-- Which field a letter stands for; its bounds. -/
def fld (l : Nat) : Nat := if l = 65 then 1 else if l = 66 then 2 else if l = 67 then 3 else if l = 69 then 4 else if l = 80 then 4 else 5
def lowL (l : Nat) : Int := if l = 69 then 1 else if l = 80 then 1 else 0
def highL (l : Nat) : Int := if l = 69 then 16 else if l = 80 then 60 else 7
def numV (p f : Nat) (lo hi : Int) : Value := .agg #[.pointer (some ⟨p, f, none⟩), .int .i64 lo, .int .i64 hi, .pointer none]
def textV (p : Nat) : Value := .agg #[.pointer none, .int .i64 0, .int .i64 0, .pointer (some ⟨p, 5, none⟩)]
def partV (p l : Nat) : Value := if fld l = 5 then textV p else numV p (fld l) (lowL l) (highL l)
/-- A letter of the table. -/
abbrev Ltr (l : Nat) : Prop := l = 65 ∨ l = 66 ∨ l = 67 ∨ l = 69 ∨ l = 80 ∨ l = 83

theorem find_any (p l : Nat) (hl : Ltr l) (w : World) : Calls Try.prog 64 #[.pointer (some ⟨p, 0, none⟩), .int .i32 (l : Int)] w fun e w' => e = .returned (partV p l) ∧ Fr (fun _ => False) w w' := by
  rcases hl with rfl | rfl | rfl | rfl | rfl | rfl
  · go_enter Try.func64, Try.ntmps64
    go_wp2
    exact bodyPost_ret (v := numV p 1 0 7) (by simp [results, Try.results64, go_sem, numV]) rfl ⟨rfl, (Fr.refl _ _).alloc _⟩
  · go_enter Try.func64, Try.ntmps64
    go_wp2
    exact bodyPost_ret (v := numV p 2 0 7) (by simp [results, Try.results64, go_sem, numV]) rfl ⟨rfl, (Fr.refl _ _).alloc _⟩
  · go_enter Try.func64, Try.ntmps64
    go_wp2
    exact bodyPost_ret (v := numV p 3 0 7) (by simp [results, Try.results64, go_sem, numV]) rfl ⟨rfl, (Fr.refl _ _).alloc _⟩
  · go_enter Try.func64, Try.ntmps64
    go_wp2
    exact bodyPost_ret (v := numV p 4 1 16) (by simp [results, Try.results64, go_sem, numV]) rfl ⟨rfl, (Fr.refl _ _).alloc _⟩
  · go_enter Try.func64, Try.ntmps64
    go_wp2
    exact bodyPost_ret (v := numV p 4 1 60) (by simp [results, Try.results64, go_sem, numV]) rfl ⟨rfl, (Fr.refl _ _).alloc _⟩
  · go_enter Try.func64, Try.ntmps64
    go_wp2
    exact bodyPost_ret (v := textV p) (by simp [results, Try.results64, go_sem, textV]) rfl ⟨rfl, (Fr.refl _ _).alloc _⟩

end Go.Proofs.Ytojgikaoiegmpaa

/- Code: whether a thing fits; cleared, written, read. -/
namespace Go.Proofs.Ytojgikaoiegmpaa
open Go.RowKit Go.IntWalk
set_option linter.unusedSimpArgs false
set_option linter.unusedVariables false
set_option maxRecDepth 100000

theorem fits_num (p f : Nat) (lo hi v : Int) (w : World) (hc : w.cell? ⟨p, f, none⟩ = some (.int .i64 v)) (hpl : p < w.heap.size) :
    Calls Try.prog 84 #[numV p f lo hi] w fun e w' => e = .returned (.bool (decide (lo ≤ v) && decide (v ≤ hi))) ∧ Fr (fun _ => False) w w' := by
  have hc1 : ∀ o, (w.alloc o).cell? ⟨p, f, none⟩ = some (.int .i64 v) := fun o => cellA hc o
  have hne : ¬ w.heap.size = p := by omega
  have hne2 : ¬ p = w.heap.size := by omega
  unfold numV
  by_cases h1 : lo ≤ v
  · have hd : decide (lo ≤ v) = true := by simp [h1]
    go_enter Try.func84, Try.ntmps84
    go_wp2_with fail
    go_quiet (fail)
    go_wp2_with fail
    go_ret
    exact ⟨by simp [h1], ((Fr.refl _ _).alloc _).drewN _⟩
  · have hd : decide (lo ≤ v) = false := by simp [h1]
    go_enter Try.func84, Try.ntmps84
    go_wp2_with fail
    go_quiet (fail)
    go_wp2_with fail
    go_ret
    exact ⟨by rw [hd]; rfl, ((Fr.refl _ _).alloc _).drewN _⟩

theorem fits_text (p : Nat) (x : ByteArray) (w : World) (hc : w.cell? ⟨p, 5, none⟩ = some (.string x)) (hpl : p < w.heap.size) :
    Calls Try.prog 84 #[textV p] w fun e w' => e = .returned (.bool (decide ((x.size : Int) ≤ 64))) ∧ Fr (fun _ => False) w w' := by
  have hc1 : ∀ o, (w.alloc o).cell? ⟨p, 5, none⟩ = some (.string x) := fun o => cellA hc o
  unfold textV
  go_enter Try.func84, Try.ntmps84
  go_wp2_with fail
  go_ret
  exact ⟨rfl, (Fr.refl _ _).alloc _⟩

theorem clear_num (p f : Nat) (lo hi v : Int) (w : World) (hc : w.cell? ⟨p, f, none⟩ = some (.int .i64 v)) (hf : w.frozen? ⟨p, f, none⟩ = false) (hpl : p < w.heap.size) (i : Ins) (hI : InsAt w p i) (h1 : 1 ≤ f) (h4 : f ≤ 4) :
    Calls Try.prog 85 #[numV p f lo hi] w fun e w' => e = .returned (.tuple #[]) ∧ InsAt w' p (i.put f 0) ∧ Fr (fun k => k = p) w w' := by
  have hc1 : ∀ o, (w.alloc o).cell? ⟨p, f, none⟩ = some (.int .i64 v) := fun o => cellA hc o
  have hf1 : ∀ o, (w.alloc o).frozen? ⟨p, f, none⟩ = false := fun o => (World.frozen?_alloc_old _ _ _ (by simp; omega)).trans hf
  have HI := hideIt hI
  clear hI
  unfold numV
  go_enter Try.func85, Try.ntmps85
  go_wp2_with fail
  go_end0
  exact ⟨rfl, (HI.out.putN f h1 h4 0).fr ((Fr.refl (fun _ => False) _).alloc _) (fun e => e), ((Fr.refl (fun k => k = p) _).setCell (p := ⟨p, f, none⟩) (fun _ => rfl) _).alloc _⟩

theorem clear_text (p : Nat) (x : ByteArray) (w : World) (hc : w.cell? ⟨p, 5, none⟩ = some (.string x)) (hf : w.frozen? ⟨p, 5, none⟩ = false) (hpl : p < w.heap.size) (i : Ins) (hI : InsAt w p i) :
    Calls Try.prog 85 #[textV p] w fun e w' => e = .returned (.tuple #[]) ∧ InsAt w' p { i with s := ⟨#[]⟩ } ∧ Fr (fun k => k = p) w w' := by
  have hc1 : ∀ o, (w.alloc o).cell? ⟨p, 5, none⟩ = some (.string x) := fun o => cellA hc o
  have hf1 : ∀ o, (w.alloc o).frozen? ⟨p, 5, none⟩ = false := fun o => (World.frozen?_alloc_old _ _ _ (by simp; omega)).trans hf
  have HI := hideIt hI
  clear hI
  unfold textV
  go_enter Try.func85, Try.ntmps85
  go_wp2_with fail
  refine bodyPost_ret (v := .tuple #[]) (by simp [results, Try.results85, go_sem]) rfl ?_
  exact ⟨rfl, (HI.out.putS _).fr ((Fr.refl (fun _ => False) _).alloc _) (fun e => e), ((Fr.refl (fun k => k = p) _).setCell (p := ⟨p, 5, none⟩) (fun _ => rfl) _).alloc _⟩

/-- The things of a kind. -/
def kindT (n : Nat) : ByteArray := if n = 1 then ⟨#[65, 83]⟩ else if n = 2 then ⟨#[65, 66]⟩ else if n = 3 then ⟨#[65, 66, 67]⟩ else if n = 4 then ⟨#[65, 66]⟩ else if n = 5 then ⟨#[65]⟩ else if n = 6 then ⟨#[65, 66, 67, 69]⟩ else if n = 7 then ⟨#[65, 66, 67]⟩ else if n = 8 then ⟨#[65, 66, 67]⟩ else if n = 9 then ⟨#[65, 66, 67]⟩ else if n = 10 then ⟨#[65, 66, 67]⟩ else if n = 11 then ⟨#[65, 66, 67]⟩ else if n = 12 then ⟨#[65, 80]⟩ else if n = 13 then ⟨#[80]⟩ else if n = 14 then ⟨#[65]⟩ else ⟨#[]⟩
def kindsA : Array Value := #[.string ⟨#[]⟩, .string ⟨#[65, 83]⟩, .string ⟨#[65, 66]⟩, .string ⟨#[65, 66, 67]⟩, .string ⟨#[65, 66]⟩, .string ⟨#[65]⟩, .string ⟨#[65, 66, 67, 69]⟩, .string ⟨#[65, 66, 67]⟩, .string ⟨#[65, 66, 67]⟩, .string ⟨#[65, 66, 67]⟩, .string ⟨#[65, 66, 67]⟩, .string ⟨#[65, 66, 67]⟩, .string ⟨#[65, 80]⟩, .string ⟨#[80]⟩, .string ⟨#[65]⟩, .string ⟨#[]⟩]

theorem kindsA_get (n : Nat) (hn : n ≤ 15) : kindsA[n]? = some (.string (kindT n)) := by
  obtain rfl | rfl | rfl | rfl | rfl | rfl | rfl | rfl | rfl | rfl | rfl | rfl | rfl | rfl | rfl | rfl : n = 0 ∨ n = 1 ∨ n = 2 ∨ n = 3 ∨ n = 4 ∨ n = 5 ∨ n = 6 ∨ n = 7 ∨ n = 8 ∨ n = 9 ∨ n = 10 ∨ n = 11 ∨ n = 12 ∨ n = 13 ∨ n = 14 ∨ n = 15 := by omega
  all_goals rfl

theorem idx_run (n : Nat) (hn : n ≤ 15) (w0 : World) : (Instr.index 104 (.agg kindsA) (.int .i64 (n : Int))).run Try.prog w0 = .ok (.string (kindT n)) w0 := by
  obtain rfl | rfl | rfl | rfl | rfl | rfl | rfl | rfl | rfl | rfl | rfl | rfl | rfl | rfl | rfl | rfl : n = 0 ∨ n = 1 ∨ n = 2 ∨ n = 3 ∨ n = 4 ∨ n = 5 ∨ n = 6 ∨ n = 7 ∨ n = 8 ∨ n = 9 ∨ n = 10 ∨ n = 11 ∨ n = 12 ∨ n = 13 ∨ n = 14 ∨ n = 15 := by omega
  all_goals first | rfl | kernel_rfl

set_option maxRecDepth 100000 in
theorem kinds_any (w : World) : Calls Try.prog 63 #[] w fun e w' => e = .returned (.agg kindsA) ∧ Fr (fun _ => False) w w' := by
  go_enter Try.func63, Try.ntmps63
  go_wp2
  exact bodyPost_ret (v := .agg kindsA) (by simp [results, Try.results63, go_sem, kindsA]) rfl ⟨rfl, (Fr.refl _ _).alloc _⟩

end Go.Proofs.Ytojgikaoiegmpaa

/- The writer's Text and ID. -/
namespace Go.Proofs.Ytojgikaoiegmpaa
open Go.RowKit Go.IntWalk
set_option linter.unusedSimpArgs false
set_option linter.unusedVariables false
set_option maxRecDepth 100000

theorem wset_old {w wr : World} {t k : Nat} {a b : Option Addr} (hs : w.heap.size ≤ wr.heap.size) (hk : k < w.heap.size) (hb : b = a ∨ ∀ k, blk b k → w.heap.size ≤ k) (h : ¬ wset t a k) : ¬ wset t b k := by
  rintro (e | e)
  · exact h (Or.inl e)
  · rcases hb with rfl | hb
    · exact h (Or.inr e)
    · have := hb k e; omega

set_option maxRecDepth 100000 in
set_option maxHeartbeats 4000000 in
theorem wtext1_any (p t a b : Nat) (ao : Option Addr) (cap : Nat) (bs : List UInt8) (at_ er ea : Int) (x : ByteArray) (w : World) (h : WAt w p t ao cap bs at_ er ea) (hb : bs.length + 20 + x.size ≤ 140737488355328)
    (ha : w.cell? ⟨a, 0, none⟩ = some (.pointer (some ⟨p, 0, none⟩))) (hbx : w.cell? ⟨b, 0, none⟩ = some (.string x)) (hS : ¬ wset t ao a) (hS2 : ¬ wset t ao b) :
    Calls Try.prog 94 #[.pointer (some ⟨a, 0, none⟩), .pointer (some ⟨b, 0, none⟩)] w fun e w' =>
      e = .returned (.int .i64 (bs ++ (sevens x.size ++ x.data.toList)).length) ∧ ∃ ao' cap', WAt w' p t ao' cap' (bs ++ (sevens x.size ++ x.data.toList)) at_ er ea ∧ Fr (wset t ao) w w' ∧ (ao' = ao ∨ ∀ k, blk ao' k → w.heap.size ≤ k) := by
  have h9 := sevens_nine (n := x.size) (by omega)
  have hal := block_lt_of_cell ha
  have hbl := block_lt_of_cell hbx
  have HN := hideIt (number_nat p t ao cap bs at_ er ea x.size w h (by omega) (by omega))
  generalize hfs : bs ++ (sevens x.size ++ x.data.toList) = fs
  have HFS := hideIt hfs
  clear hfs
  go_enter Try.func94, Try.ntmps94
  go_wp2_with fail
  refine Calls.mono HN.out ?_
  rintro e w1 ⟨rfl, ao1, cap1, hW, hF, hao⟩
  have ha1 : w1.cell? ⟨a, 0, none⟩ = _ := (World.cell?_of_block (a := ⟨a, 0, none⟩) (hF.block a hal hS)).trans ha
  have hb1 : w1.cell? ⟨b, 0, none⟩ = _ := (World.cell?_of_block (a := ⟨b, 0, none⟩) (hF.block b hbl hS2)).trans hbx
  have hlen : (bs ++ sevens x.size).length ≤ bs.length + 9 := by simp; omega
  have HL := hideIt (List.append_assoc bs (sevens x.size) x.data.toList)
  generalize bs ++ sevens x.size = cs at hW hlen HL
  have hsrc : Src Try.prog 1 9 (.string x) x.data.toList.length (bv x.data.toList) w1.drew := by have := Src.ofString (P := Try.prog) w1.drew Try.underlying9 x; simpa [byteCells, bv] using this
  obtain ⟨ao2, cap2, w2, hrun, hrow, hf, hao2⟩ := app_row w1.drew 9 ao1 cap1 cs x.data.toList hW.tp.row.drew (.string x) hsrc (by simp; omega)
  have hf2 : Fr (blk ao1) w1 w2 := (Fr.refl (blk ao1) w1).drew.trans hf (fun _ _ e => e)
  have hao3 : ao2 = ao1 ∨ ∀ k, blk ao2 k → w1.heap.size ≤ k := hao2.imp id fun e k ⟨y, e1, e2⟩ => by
    rw [e] at e1
    obtain rfl := Option.some.inj e1
    simp at e2
    omega
  have hst := hW.stored hf2 hrow hao3
  have hal1 := block_lt_of_cell ha1
  have hbl1 := block_lt_of_cell hb1
  have hSa : ¬ wset t ao1 a := wset_old hF.size hal hao hS
  have hSb : ¬ wset t ao1 b := wset_old hF.size hbl hao hS2
  have ha2 : w2.cell? ⟨a, 0, none⟩ = some (.pointer (some ⟨p, 0, none⟩)) := (World.cell?_of_block (a := ⟨a, 0, none⟩) (hf2.block a hal1 (fun e => hSa (Or.inr e)))).trans ha1
  have hb2 : w2.cell? ⟨b, 0, none⟩ = some (.string x) := (World.cell?_of_block (a := ⟨b, 0, none⟩) (hf2.block b hbl1 (fun e => hSb (Or.inr e)))).trans hb1
  have hc1 := hW.c
  have h01 := hW.tp.c0
  have hc2 : w2.cell? ⟨p, 0, none⟩ = some (.pointer (some ⟨t, 0, none⟩)) := (World.cell?_of_block (a := ⟨p, 0, none⟩) (hf2.block p hW.lt hW.apart)).trans hc1
  have h02 : w2.cell? ⟨t, 0, none⟩ = some (.slice ao1 cs.length cap1) := (World.cell?_of_block (a := ⟨t, 0, none⟩) (hf2.block t hW.tp.lt hW.tp.apart)).trans h01
  have hz2 : w2.frozen? ⟨t, 0, none⟩ = false := (World.frozen?_of_block (a := ⟨t, 0, none⟩) (hf2.block t hW.tp.lt hW.tp.apart)).trans (hW.tp.fz 0)
  have elen : (cs ++ x.data.toList).length = cs.length + x.size := by simp
  rw [elen] at hst
  have ha3 : (w2.setCell ⟨t, 0, none⟩ (.slice ao2 (cs.length + x.size) cap2)).cell? ⟨a, 0, none⟩ = some (.pointer (some ⟨p, 0, none⟩)) := (World.cell?_of_block (a := ⟨a, 0, none⟩) (hst.2.block a hal1 hSa)).trans ha1
  have hb3 : (w2.setCell ⟨t, 0, none⟩ (.slice ao2 (cs.length + x.size) cap2)).cell? ⟨b, 0, none⟩ = some (.string x) := (World.cell?_of_block (a := ⟨b, 0, none⟩) (hst.2.block b hbl1 hSb)).trans hb1
  have hc3 := hst.1.c
  have h03 := hst.1.tp.c0
  have HR := hideIt hrun
  have HST := hideIt hst
  have HLE := hideIt elen
  clear hrun hst elen hsrc
  rw [show x.data.toList.length = x.size by simp] at HR
  rw [HL.out, HFS.out] at HST HLE h03
  rw [HLE.out] at h03
  go_wp2_with fail
  refine wp_region_held_drew (S := fun w' => w'.cell? ⟨a, 0, none⟩ = some (.pointer (some ⟨p, 0, none⟩)) ∧ w'.cell? ⟨p, 0, none⟩ = some (.pointer (some ⟨t, 0, none⟩)) ∧ w'.cell? ⟨b, 0, none⟩ = some (.string x)) (by kernel_rfl) ?_ (fun hHeld => ?_)
  · exact ⟨ha1, hc1, hb1⟩
  refine wpAnyH_take (i := 0) (v := ?v0) rfl (by kernel_rfl) (by kernel_rfl) (by kernel_rfl) (fun _ _ _ h => h) (Or.inl ⟨by rfl, ?hy0⟩) (by assumption) ?rest0
  case hy0 => intro w hSw; (try dsimp only at hSw); go_simp; (try with_reducible rfl)
  try simp only [Act.put, List.setIfInBounds_toArray, List.set_cons_zero, List.set_cons_succ]
  refine wpAnyH_take (i := 1) (v := ?v1) rfl (by kernel_rfl) (by kernel_rfl) (by kernel_rfl) (fun _ _ _ h => h) (Or.inl ⟨by rfl, ?hy1⟩) (by assumption) ?rest1
  case hy1 => intro w hSw; (try dsimp only at hSw); go_simp; (try with_reducible rfl)
  try simp only [Act.put, List.setIfInBounds_toArray, List.set_cons_zero, List.set_cons_succ]
  refine wpAnyH_take (i := 2) (v := ?v2) rfl (by kernel_rfl) (by kernel_rfl) (by kernel_rfl) (fun _ _ _ h => h) (Or.inl ⟨by rfl, ?hy2⟩) (by assumption) ?rest2
  case hy2 => intro w hSw; (try dsimp only at hSw); go_simp; (try with_reducible rfl)
  try simp only [Act.put, List.setIfInBounds_toArray, List.set_cons_zero, List.set_cons_succ]
  refine wpAnyH_take (i := 3) (v := ?v3) rfl (by kernel_rfl) (by kernel_rfl) (by kernel_rfl) (fun _ _ _ h => h) (Or.inl ⟨by rfl, ?hy3⟩) (by assumption) ?rest3
  case hy3 => intro w hSw; (try dsimp only at hSw); go_simp; (try with_reducible rfl)
  try simp only [Act.put, List.setIfInBounds_toArray, List.set_cons_zero, List.set_cons_succ]
  refine wpAnyH_take (i := 4) (v := ?v4) rfl (by kernel_rfl) (by kernel_rfl) (by kernel_rfl) (fun _ _ _ h => h) (Or.inl ⟨by rfl, ?hy4⟩) (by assumption) ?rest4
  case hy4 => intro w hSw; (try dsimp only at hSw); go_simp; (try with_reducible rfl)
  try simp only [Act.put, List.setIfInBounds_toArray, List.set_cons_zero, List.set_cons_succ]
  refine wpAnyH_take (i := 5) (v := ?v5) rfl (by kernel_rfl) (by kernel_rfl) (by kernel_rfl) (fun _ _ _ h => h) (Or.inl ⟨by rfl, ?hy5⟩) (by assumption) ?rest5
  case hy5 => intro w hSw; (try dsimp only at hSw); go_simp; (try with_reducible rfl)
  try simp only [Act.put, List.setIfInBounds_toArray, List.set_cons_zero, List.set_cons_succ]
  refine wpAnyH_take (i := 6) (v := ?v6) rfl (by kernel_rfl) (by kernel_rfl) (by kernel_rfl) (fun _ _ _ h => h) (Or.inl ⟨by rfl, ?hy6⟩) (by assumption) ?rest6
  case hy6 => intro w hSw; (try dsimp only at hSw); go_simp; (try with_reducible rfl)
  try simp only [Act.put, List.setIfInBounds_toArray, List.set_cons_zero, List.set_cons_succ]
  refine wpAnyH_take (i := 7) (v := ?v7) rfl (by kernel_rfl) (by kernel_rfl) (by kernel_rfl) (fun _ _ _ h => h) (Or.inl ⟨by rfl, ?hy7⟩) (by assumption) ?rest7
  case hy7 => intro w hSw; (try dsimp only at hSw); go_simp; (try with_reducible rfl)
  try simp only [Act.put, List.setIfInBounds_toArray, List.set_cons_zero, List.set_cons_succ]
  refine wpAnyH_take (i := 8) (v := ?v8) rfl (by kernel_rfl) (by kernel_rfl) (by kernel_rfl) (fun _ _ _ h => h) (Or.inl ⟨by rfl, ?hy8⟩) (by assumption) ?rest8
  case hy8 => intro w hSw; (try dsimp only at hSw); go_simp; (try with_reducible rfl)
  try simp only [Act.put, List.setIfInBounds_toArray, List.set_cons_zero, List.set_cons_succ]
  refine wpAnyH_take (i := 9) (v := ?v9) rfl (by kernel_rfl) (by kernel_rfl) (by kernel_rfl) (fun _ _ _ h => h) (Or.inl ⟨by rfl, ?hy9⟩) (by assumption) ?rest9
  case hy9 => intro w hSw; (try dsimp only at hSw); go_simp; (try with_reducible rfl)
  try simp only [Act.put, List.setIfInBounds_toArray, List.set_cons_zero, List.set_cons_succ]
  refine wpAnyH_take (i := 11) (v := ?v11) rfl (by kernel_rfl) (by kernel_rfl) (by kernel_rfl) (fun _ _ _ h => h) (Or.inl ⟨by rfl, ?hy11⟩) (by assumption) ?rest11
  case hy11 => intro w hSw; (try dsimp only at hSw); go_simp; (try with_reducible rfl)
  try simp only [Act.put, List.setIfInBounds_toArray, List.set_cons_zero, List.set_cons_succ]
  refine wpAnyH_ready (rs := [10]) (by kernel_rfl) (by simp) ?_
  refine AllReadyH.cons rfl (fun K hK => ?_) AllReadyH.nil
  go_simp
  refine hK.out _ _ ?_ (fun hHeld => ?_)
  · exact ⟨ha1, hc1, hb1⟩
  clear hK K
  try simp only [Act.put, List.setIfInBounds_toArray, List.set_cons_zero, List.set_cons_succ]
  refine wpAnyH_ready (rs := [12]) (by kernel_rfl) (by simp) ?_
  refine AllReadyH.cons rfl (fun K hK => ?_) AllReadyH.nil
  refine step_append_run rfl (.tmp 17) (.tmp 18) 22 9 rfl _ _ _ _ rfl rfl HR.out ?_
  refine hK.out _ _ ?_ (fun hHeld => ?_)
  · exact ⟨ha2, hc2, hb2⟩
  clear hK K
  try simp only [Act.put, List.setIfInBounds_toArray, List.set_cons_zero, List.set_cons_succ]
  refine wpAnyH_take (i := 13) (v := ?v13) rfl (by kernel_rfl) (by kernel_rfl) (by kernel_rfl) (fun _ _ _ h => h) (Or.inl ⟨by rfl, ?hy13⟩) (by assumption) ?rest13
  case hy13 => intro w hSw; (try dsimp only at hSw); go_simp; (try with_reducible rfl)
  try simp only [Act.put, List.setIfInBounds_toArray, List.set_cons_zero, List.set_cons_succ]
  refine wpAnyH_take (i := 14) (v := ?v14) rfl (by kernel_rfl) (by kernel_rfl) (by kernel_rfl) (fun _ _ _ h => h) (Or.inl ⟨by rfl, ?hy14⟩) (by assumption) ?rest14
  case hy14 => intro w hSw; (try dsimp only at hSw); go_simp; (try with_reducible rfl)
  try simp only [Act.put, List.setIfInBounds_toArray, List.set_cons_zero, List.set_cons_succ]
  refine wpAnyH_ready (rs := [15]) (by kernel_rfl) (by simp) ?_
  refine AllReadyH.cons rfl (fun K hK => ?_) AllReadyH.nil
  go_simp
  refine hK.out _ _ ?_ (fun hHeld => ?_)
  · exact ⟨ha3, hc3, hb3⟩
  clear hK K
  try simp only [Act.put, List.setIfInBounds_toArray, List.set_cons_zero, List.set_cons_succ]
  refine wpAnyH_done (by kernel_rfl) ?_ _
  generalize hw3 : w2.setCell ⟨t, 0, none⟩ (.slice ao2 (cs.length + x.size) cap2) = w3 at *
  go_wp2_with fail
  go_ret
  exact ⟨congrArg Ending.returned (congrArg (Value.int IntKind.i64) (by rw [HLE.out]; simp)), ao2, cap2, HST.out.1, wset_trans hF hao HST.out.2, fresh_trans hF.size hao hao3⟩

theorem wtext_any (p t : Nat) (ao : Option Addr) (cap : Nat) (s : List UInt8 × Bool) (x : ByteArray) (w : World) (h : WOk w p t ao cap s) (hb : s.1.length + 20 + x.size ≤ 140737488355328) :
    Calls Try.prog 86 #[.pointer (some ⟨p, 0, none⟩), .string x] w fun e w' => e = .returned (.tuple #[]) ∧ WPost w p t ao (wText x.data.toList s) w' := by
  obtain ⟨at_, ea, hW⟩ := h
  obtain ⟨bs, bad⟩ := s
  refine wtext_via p t x w _ hW.c hW.lt ?_
  have hlt := hW.tp.lt
  have hrlt : ∀ k, blk ao k → k < w.heap.size := fun k e => hW.tp.row.lt e
  have hno : ∀ k, w.heap.size ≤ k → ¬ wset t ao k := by
    rintro k hk (e | e)
    · omega
    · have := hrlt _ e; omega
  cases bad with
  | true => exact wdo_shut p t _ _ ao cap bs at_ ea w hW
  | false =>
    have hB := hW.boxes (.cells #[.pointer (some ⟨p, 0, none⟩)] 100) (.cells #[.string x] 9)
    rw [show wText x.data.toList (bs, false) = (bs ++ (sevens x.size ++ x.data.toList), false) by simp [wText]]
    exact wdo_ok 94 p t _ ao cap bs _ at_ ea w hW (fun _ => by kernel_rfl) (wtext1_any p t _ _ ao cap bs at_ 0 ea x _ hB hb (cell_box1 w p _ t) (cell_box2 w p _ _ t 0) (hno _ (Nat.le_refl _)) (hno _ (by omega)))




end Go.Proofs.Ytojgikaoiegmpaa

/- Code: a thing is written; a thing is read. -/
namespace Go.Proofs.Ytojgikaoiegmpaa
open Go.RowKit Go.IntWalk
set_option linter.unusedSimpArgs false
set_option linter.unusedVariables false
set_option maxRecDepth 100000

theorem WOk.fr0 {w w' : World} {p t : Nat} {ao : Option Addr} {cap : Nat} {s : List UInt8 × Bool} (h : WOk w p t ao cap s) (hf : Fr (fun _ => False) w w') : WOk w' p t ao cap s := by
  obtain ⟨a, e, h⟩ := h
  exact ⟨a, e, h.fr hf (fun e => e) (fun _ _ e => e)⟩

theorem WPost.after {w0 w w' : World} {p t : Nat} {ao : Option Addr} {s : List UInt8 × Bool} (h : WPost w p t ao s w') (hf : Fr (fun _ => False) w0 w) : WPost w0 p t ao s w' := by
  obtain ⟨ao', cap', hW, hF, hn⟩ := h
  exact ⟨ao', cap', hW, hf.mono (fun _ e => e.elim) |>.trans hF (fun _ _ e => e), hn.imp id (fun g k hk => Nat.le_trans hf.size (g k hk))⟩

theorem write_num (q f p t : Nat) (lo hi v : Int) (ao : Option Addr) (cap : Nat) (s : List UInt8 × Bool) (w : World) (hc : w.cell? ⟨q, f, none⟩ = some (.int .i64 v)) (hpl : q < w.heap.size) (h : WOk w p t ao cap s) (hv : v ≤ 9223372036854775807) (hb : s.1.length + 20 ≤ 140737488355328) :
    Calls Try.prog 65 #[numV q f lo hi, .pointer (some ⟨p, 0, none⟩)] w fun e w' => e = .returned (.tuple #[]) ∧ WPost w p t ao (wInt v s) w' := by
  have hc1 : ∀ o, (w.alloc o).cell? ⟨q, f, none⟩ = some (.int .i64 v) := fun o => cellA hc o
  have HW := hideIt (fun o => wint_any p t ao cap s v (w.alloc o) (h.fr0 ((Fr.refl _ _).alloc o)) hv hb)
  clear h
  unfold numV
  go_enter Try.func65, Try.ntmps65
  go_wp2_with fail
  refine Calls.mono (HW.out _) ?_
  rintro e w1 ⟨rfl, hP⟩
  have HP := hideIt (hP.after ((Fr.refl _ _).alloc _))
  clear hP
  go_wp2_with fail
  go_end0
  exact ⟨rfl, HP.out⟩

theorem write_text (q p t : Nat) (x : ByteArray) (ao : Option Addr) (cap : Nat) (s : List UInt8 × Bool) (w : World) (hc : w.cell? ⟨q, 5, none⟩ = some (.string x)) (hpl : q < w.heap.size) (h : WOk w p t ao cap s) (hb : s.1.length + 20 + x.size ≤ 140737488355328) :
    Calls Try.prog 65 #[textV q, .pointer (some ⟨p, 0, none⟩)] w fun e w' => e = .returned (.tuple #[]) ∧ WPost w p t ao (wText x.data.toList s) w' := by
  have hc1 : ∀ o, (w.alloc o).cell? ⟨q, 5, none⟩ = some (.string x) := fun o => cellA hc o
  have HW := hideIt (fun o => wtext_any p t ao cap s x (w.alloc o) (h.fr0 ((Fr.refl _ _).alloc o)) hb)
  clear h
  unfold textV
  go_enter Try.func65, Try.ntmps65
  go_wp2_with fail
  refine Calls.mono (HW.out _) ?_
  rintro e w1 ⟨rfl, hP⟩
  have HP := hideIt (hP.after ((Fr.refl _ _).alloc _))
  clear hP
  go_wp2_with fail
  refine bodyPost_ret (v := .tuple #[]) (by simp [results, Try.results65, go_sem]) rfl ?_
  exact ⟨rfl, HP.out⟩

theorem ROk.fr0 {w w' : World} {p t : Nat} {ao : Option Addr} {cap : Nat} {bs : List UInt8} {s : Nat × Int × Int} (h : ROk w p t ao cap bs s) (hf : Fr (fun _ => False) w w') : ROk w' p t ao cap bs s := ⟨h.1.fr hf (fun e => e) (fun _ _ e => e), h.2⟩

end Go.Proofs.Ytojgikaoiegmpaa

/- Code: a thing is read. -/
namespace Go.Proofs.Ytojgikaoiegmpaa
open Go.RowKit Go.IntWalk
set_option linter.unusedSimpArgs false
set_option linter.unusedVariables false
set_option maxRecDepth 100000

set_option maxRecDepth 100000 in
theorem take_num (q f p t : Nat) (lo hi v : Int) (i : Ins) (ao : Option Addr) (cap : Nat) (bs : List UInt8) (s : Nat × Int × Int) (w : World) (hc : w.cell? ⟨q, f, none⟩ = some (.int .i64 v)) (hf : w.frozen? ⟨q, f, none⟩ = false) (hpl : q < w.heap.size) (hI : InsAt w q i) (h1 : 1 ≤ f) (h4 : f ≤ 4) (h : ROk w p t ao cap bs s) (hb : bs.length ≤ 140737488355328) (htl : t < w.heap.size) (hqt : ¬ wset t ao q) (hqp : ¬ q = p) :
    Calls Try.prog 78 #[numV q f lo hi, .pointer (some ⟨p, 0, none⟩)] w fun e w' => e = .returned (.tuple #[]) ∧ InsAt w' q (i.put f (rInt bs lo hi s).1) ∧ ROk w' p t ao cap bs (rInt bs lo hi s).2 ∧ Fr (fun k => k = t ∨ k = q) w w' := by
  have hqt' : ¬ q = t := fun e => hqt (Or.inl e)
  have hII := hideIt hI
  have HS0 := hideIt (show (fun w0 => w0.cell? ⟨w.heap.size, 0, none⟩ = some (.pointer (some ⟨q, f, none⟩)) ∧ w0.cell? ⟨w.heap.size, 1, none⟩ = some (.int .i64 lo) ∧ w0.cell? ⟨w.heap.size, 2, none⟩ = some (.int .i64 hi)) (w.alloc (.cells #[.pointer (some ⟨q, f, none⟩), .int .i64 lo, .int .i64 hi, .pointer none] 109)).drew from ⟨cellOfHeap (heap_new rfl) 0 rfl, cellOfHeap (heap_new rfl) 1 rfl, cellOfHeap (heap_new rfl) 2 rfl⟩)
  have HS := hideIt (show ∀ w1, Fr (fun k => k = t) (w.alloc (.cells #[.pointer (some ⟨q, f, none⟩), .int .i64 lo, .int .i64 hi, .pointer none] 109)).drew w1 → (fun w0 => w0.cell? ⟨w.heap.size, 0, none⟩ = some (.pointer (some ⟨q, f, none⟩)) ∧ w0.cell? ⟨w.heap.size, 1, none⟩ = some (.int .i64 lo) ∧ w0.cell? ⟨w.heap.size, 2, none⟩ = some (.int .i64 hi)) w1 from fun w1 hF => by
    have e := (hF.block w.heap.size (by simp) (by omega)).trans (heap_new (o := (.cells #[.pointer (some ⟨q, f, none⟩), .int .i64 lo, .int .i64 hi, .pointer none] 109)) rfl)
    exact ⟨cellOfHeap (e) 0 rfl, cellOfHeap (e) 1 rfl, cellOfHeap (e) 2 rfl⟩)
  have HS1 := hideIt (show ∀ w1, Fr (fun k => k = t) (w.alloc (.cells #[.pointer (some ⟨q, f, none⟩), .int .i64 lo, .int .i64 hi, .pointer none] 109)).drew w1 → ∀ v, (fun w0 => w0.cell? ⟨w.heap.size, 0, none⟩ = some (.pointer (some ⟨q, f, none⟩)) ∧ w0.cell? ⟨w.heap.size, 1, none⟩ = some (.int .i64 lo) ∧ w0.cell? ⟨w.heap.size, 2, none⟩ = some (.int .i64 hi)) (w1.setCell ⟨q, f, none⟩ v) from fun w1 hF v => by
    have e := ((((Fr.refl (fun k => k = q) w1).setCell (p := ⟨q, f, none⟩) (fun _ => rfl) v).block w.heap.size (by have := hF.size; simp at this; omega) (by omega)).trans (hF.block w.heap.size (by simp) (by omega))).trans (heap_new (o := (.cells #[.pointer (some ⟨q, f, none⟩), .int .i64 lo, .int .i64 hi, .pointer none] 109)) rfl)
    exact ⟨cellOfHeap (e) 0 rfl, cellOfHeap (e) 1 rfl, cellOfHeap (e) 2 rfl⟩)
  have HR := hideIt (rint_any p t ao cap bs s lo hi (w.alloc (.cells #[.pointer (some ⟨q, f, none⟩), .int .i64 lo, .int .i64 hi, .pointer none] 109)).drew (h.fr0 (((Fr.refl _ _).alloc _).drew)) hb)
  generalize rInt bs lo hi s = R at *
  clear h
  unfold numV
  go_enter Try.func78, Try.ntmps78
  go_wp2_with fail
  refine wp_region_held_drew (S := fun w0 => w0.cell? ⟨w.heap.size, 0, none⟩ = some (.pointer (some ⟨q, f, none⟩)) ∧ w0.cell? ⟨w.heap.size, 1, none⟩ = some (.int .i64 lo) ∧ w0.cell? ⟨w.heap.size, 2, none⟩ = some (.int .i64 hi)) (by kernel_rfl) ?_ (fun hHeld => ?_)
  · exact HS0.out
  refine wpAnyH_take (i := 0) (v := ?v1) rfl (by kernel_rfl) (by kernel_rfl) (by kernel_rfl) (fun _ _ _ h => h) (Or.inl ⟨by rfl, ?hy1⟩) (by assumption) ?rest1
  case hy1 => intro w hSw; (try dsimp only at hSw); go_simp; (try with_reducible rfl)
  try simp only [Act.put, List.setIfInBounds_toArray, List.set_cons_zero, List.set_cons_succ]
  refine wpAnyH_take (i := 1) (v := ?v2) rfl (by kernel_rfl) (by kernel_rfl) (by kernel_rfl) (fun _ _ _ h => h) (Or.inl ⟨by rfl, ?hy2⟩) (by assumption) ?rest2
  case hy2 => intro w hSw; (try dsimp only at hSw); go_simp; (try with_reducible rfl)
  try simp only [Act.put, List.setIfInBounds_toArray, List.set_cons_zero, List.set_cons_succ]
  refine wpAnyH_take (i := 2) (v := ?v3) rfl (by kernel_rfl) (by kernel_rfl) (by kernel_rfl) (fun _ _ _ h => h) (Or.inl ⟨by rfl, ?hy3⟩) (by assumption) ?rest3
  case hy3 => intro w hSw; (try dsimp only at hSw); go_simp; (try with_reducible rfl)
  try simp only [Act.put, List.setIfInBounds_toArray, List.set_cons_zero, List.set_cons_succ]
  refine wpAnyH_take (i := 3) (v := ?v4) rfl (by kernel_rfl) (by kernel_rfl) (by kernel_rfl) (fun _ _ _ h => h) (Or.inl ⟨by rfl, ?hy4⟩) (by assumption) ?rest4
  case hy4 => intro w hSw; (try dsimp only at hSw); go_simp; (try with_reducible rfl)
  try simp only [Act.put, List.setIfInBounds_toArray, List.set_cons_zero, List.set_cons_succ]
  refine wpAnyH_take (i := 4) (v := ?v5) rfl (by kernel_rfl) (by kernel_rfl) (by kernel_rfl) (fun _ _ _ h => h) (Or.inl ⟨by rfl, ?hy5⟩) (by assumption) ?rest5
  case hy5 => intro w hSw; (try dsimp only at hSw); go_simp; (try with_reducible rfl)
  try simp only [Act.put, List.setIfInBounds_toArray, List.set_cons_zero, List.set_cons_succ]
  refine wpAnyH_take (i := 5) (v := ?v6) rfl (by kernel_rfl) (by kernel_rfl) (by kernel_rfl) (fun _ _ _ h => h) (Or.inl ⟨by rfl, ?hy6⟩) (by assumption) ?rest6
  case hy6 => intro w hSw; (try dsimp only at hSw); go_simp; (try with_reducible rfl)
  try simp only [Act.put, List.setIfInBounds_toArray, List.set_cons_zero, List.set_cons_succ]
  refine wpAnyH_take (i := 6) (v := ?v7) rfl (by kernel_rfl) (by kernel_rfl) (by kernel_rfl) (fun _ _ _ h => h) (Or.inl ⟨by rfl, ?hy7⟩) (by assumption) ?rest7
  case hy7 => intro w hSw; (try dsimp only at hSw); go_simp; (try with_reducible rfl)
  try simp only [Act.put, List.setIfInBounds_toArray, List.set_cons_zero, List.set_cons_succ]
  refine wpAnyH_ready (rs := [7]) (by kernel_rfl) (by simp) ?_
  refine AllReadyH.cons rfl (fun K hK => ?_) AllReadyH.nil
  go_simp
  refine Calls.mono (HR.out) ?_
  rintro e w2 ⟨rfl, hok, hF⟩
  have HOK := hideIt hok
  have HF := hideIt hF
  have hc2 : w2.cell? ⟨q, f, none⟩ = some _ := (World.cell?_of_block (a := ⟨q, f, none⟩) (hF.block q (by simp; omega) (by assumption))).trans (cellA hc _)
  have hf2 : w2.frozen? ⟨q, f, none⟩ = false := (World.frozen?_of_block (a := ⟨q, f, none⟩) (hF.block q (by simp; omega) (by assumption))).trans ((World.frozen?_alloc_old _ _ _ (by simp; omega)).trans hf)
  clear hok hF
  refine hK.out _ _ ?_ (fun hHeld => ?_)
  · exact HS.out _ HF.out
  clear hK K
  try simp only [Act.put, List.setIfInBounds_toArray, List.set_cons_zero, List.set_cons_succ]
  refine wpAnyH_take (i := 8) (v := ?v8) rfl (by kernel_rfl) (by kernel_rfl) (by kernel_rfl) (fun _ _ _ h => h) (Or.inl ⟨by rfl, ?hy8⟩) (by assumption) ?rest8
  case hy8 => intro w hSw; (try dsimp only at hSw); go_simp; (try with_reducible rfl)
  try simp only [Act.put, List.setIfInBounds_toArray, List.set_cons_zero, List.set_cons_succ]
  refine wpAnyH_ready (rs := [9]) (by kernel_rfl) (by simp) ?_
  refine AllReadyH.cons rfl (fun K hK => ?_) AllReadyH.nil
  go_simp
  refine hK.out _ _ ?_ (fun hHeld => ?_)
  · exact HS1.out _ HF.out _
  clear hK K
  try simp only [Act.put, List.setIfInBounds_toArray, List.set_cons_zero, List.set_cons_succ]
  refine wpAnyH_done (by kernel_rfl) ?_ _
  skip
  go_wp2_with fail
  go_end0
  have hFW : Fr (fun k => k = t) w w2 := (((Fr.refl _ _).alloc _).drew).trans HF.out (fun _ _ e => e)
  have hFS := hFW.mono (S' := fun k => k = t ∨ k = q) (fun _ e => Or.inl e)
  have hRS := HOK.out
  exact ⟨rfl, (hII.out.fr hFW hqt').putN f h1 h4 _, ⟨hRS.1.fr ((Fr.refl (fun k => k = q) w2).setCell (p := ⟨q, f, none⟩) (fun _ => rfl) _) (fun e => hqp e.symm) (fun k hk e => hqt (e ▸ hk)), hRS.2⟩, hFS.setCell (fun _ => Or.inr rfl) _⟩

set_option maxRecDepth 100000 in
theorem take_text (q p t : Nat) (v : ByteArray) (i : Ins) (ao : Option Addr) (cap : Nat) (bs : List UInt8) (s : Nat × Int × Int) (w : World) (hc : w.cell? ⟨q, 5, none⟩ = some (.string v)) (hf : w.frozen? ⟨q, 5, none⟩ = false) (hpl : q < w.heap.size) (hI : InsAt w q i) (h : ROk w p t ao cap bs s) (hb : bs.length ≤ 140737488355328) (htl : t < w.heap.size) (hqt : ¬ wset t ao q) (hqp : ¬ q = p) :
    Calls Try.prog 78 #[textV q, .pointer (some ⟨p, 0, none⟩)] w fun e w' => e = .returned (.tuple #[]) ∧ InsAt w' q { i with s := ⟨(rText bs 64 s).1.toArray⟩ } ∧ ROk w' p t ao cap bs (rText bs 64 s).2 ∧ Fr (fun k => k = t ∨ k = q) w w' := by
  have hqt' : ¬ q = t := fun e => hqt (Or.inl e)
  have hII := hideIt hI
  have HS0 := hideIt (show (fun w0 => w0.cell? ⟨w.heap.size, 3, none⟩ = some (.pointer (some ⟨q, 5, none⟩))) (w.alloc (.cells #[.pointer none, .int .i64 0, .int .i64 0, .pointer (some ⟨q, 5, none⟩)] 109)).drew from cellOfHeap (heap_new rfl) 3 rfl)
  have HS := hideIt (show ∀ w1, Fr (fun k => k = t) (w.alloc (.cells #[.pointer none, .int .i64 0, .int .i64 0, .pointer (some ⟨q, 5, none⟩)] 109)).drew w1 → (fun w0 => w0.cell? ⟨w.heap.size, 3, none⟩ = some (.pointer (some ⟨q, 5, none⟩))) w1 from fun w1 hF => by
    have e := (hF.block w.heap.size (by simp) (by omega)).trans (heap_new (o := (.cells #[.pointer none, .int .i64 0, .int .i64 0, .pointer (some ⟨q, 5, none⟩)] 109)) rfl)
    exact cellOfHeap (e) 3 rfl)
  have HS1 := hideIt (show ∀ w1, Fr (fun k => k = t) (w.alloc (.cells #[.pointer none, .int .i64 0, .int .i64 0, .pointer (some ⟨q, 5, none⟩)] 109)).drew w1 → ∀ v, (fun w0 => w0.cell? ⟨w.heap.size, 3, none⟩ = some (.pointer (some ⟨q, 5, none⟩))) (w1.setCell ⟨q, 5, none⟩ v) from fun w1 hF v => by
    have e := ((((Fr.refl (fun k => k = q) w1).setCell (p := ⟨q, 5, none⟩) (fun _ => rfl) v).block w.heap.size (by have := hF.size; simp at this; omega) (by omega)).trans (hF.block w.heap.size (by simp) (by omega))).trans (heap_new (o := (.cells #[.pointer none, .int .i64 0, .int .i64 0, .pointer (some ⟨q, 5, none⟩)] 109)) rfl)
    exact cellOfHeap (e) 3 rfl)
  have HR := hideIt (rtext_any p t ao cap bs s 64 (w.alloc (.cells #[.pointer none, .int .i64 0, .int .i64 0, .pointer (some ⟨q, 5, none⟩)] 109)).drew (h.fr0 (((Fr.refl _ _).alloc _).drew)) hb)
  generalize rText bs 64 s = R at *
  clear h
  unfold textV
  go_enter Try.func78, Try.ntmps78
  go_wp2_with fail
  refine wp_region_held_drew (S := fun w0 => w0.cell? ⟨w.heap.size, 3, none⟩ = some (.pointer (some ⟨q, 5, none⟩))) (by kernel_rfl) ?_ (fun hHeld => ?_)
  · exact HS0.out
  refine wpAnyH_take (i := 0) (v := ?v9) rfl (by kernel_rfl) (by kernel_rfl) (by kernel_rfl) (fun _ _ _ h => h) (Or.inl ⟨by rfl, ?hy9⟩) (by assumption) ?rest9
  case hy9 => intro w hSw; (try dsimp only at hSw); go_simp; (try with_reducible rfl)
  try simp only [Act.put, List.setIfInBounds_toArray, List.set_cons_zero, List.set_cons_succ]
  refine wpAnyH_take (i := 1) (v := ?v10) rfl (by kernel_rfl) (by kernel_rfl) (by kernel_rfl) (fun _ _ _ h => h) (Or.inl ⟨by rfl, ?hy10⟩) (by assumption) ?rest10
  case hy10 => intro w hSw; (try dsimp only at hSw); go_simp; (try with_reducible rfl)
  try simp only [Act.put, List.setIfInBounds_toArray, List.set_cons_zero, List.set_cons_succ]
  refine wpAnyH_take (i := 2) (v := ?v11) rfl (by kernel_rfl) (by kernel_rfl) (by kernel_rfl) (fun _ _ _ h => h) (Or.inl ⟨by rfl, ?hy11⟩) (by assumption) ?rest11
  case hy11 => intro w hSw; (try dsimp only at hSw); go_simp; (try with_reducible rfl)
  try simp only [Act.put, List.setIfInBounds_toArray, List.set_cons_zero, List.set_cons_succ]
  refine wpAnyH_ready (rs := [3]) (by kernel_rfl) (by simp) ?_
  refine AllReadyH.cons rfl (fun K hK => ?_) AllReadyH.nil
  go_simp
  refine Calls.mono (HR.out) ?_
  rintro e w2 ⟨rfl, hok, hF⟩
  have HOK := hideIt hok
  have HF := hideIt hF
  have hc2 : w2.cell? ⟨q, 5, none⟩ = some _ := (World.cell?_of_block (a := ⟨q, 5, none⟩) (hF.block q (by simp; omega) (by assumption))).trans (cellA hc _)
  have hf2 : w2.frozen? ⟨q, 5, none⟩ = false := (World.frozen?_of_block (a := ⟨q, 5, none⟩) (hF.block q (by simp; omega) (by assumption))).trans ((World.frozen?_alloc_old _ _ _ (by simp; omega)).trans hf)
  clear hok hF
  refine hK.out _ _ ?_ (fun hHeld => ?_)
  · exact HS.out _ HF.out
  clear hK K
  try simp only [Act.put, List.setIfInBounds_toArray, List.set_cons_zero, List.set_cons_succ]
  refine wpAnyH_take (i := 4) (v := ?v12) rfl (by kernel_rfl) (by kernel_rfl) (by kernel_rfl) (fun _ _ _ h => h) (Or.inl ⟨by rfl, ?hy12⟩) (by assumption) ?rest12
  case hy12 => intro w hSw; (try dsimp only at hSw); go_simp; (try with_reducible rfl)
  try simp only [Act.put, List.setIfInBounds_toArray, List.set_cons_zero, List.set_cons_succ]
  refine wpAnyH_ready (rs := [5]) (by kernel_rfl) (by simp) ?_
  refine AllReadyH.cons rfl (fun K hK => ?_) AllReadyH.nil
  go_simp
  refine hK.out _ _ ?_ (fun hHeld => ?_)
  · exact HS1.out _ HF.out _
  clear hK K
  try simp only [Act.put, List.setIfInBounds_toArray, List.set_cons_zero, List.set_cons_succ]
  refine wpAnyH_done (by kernel_rfl) ?_ _
  skip
  go_wp2_with fail
  refine bodyPost_ret (v := .tuple #[]) (by simp [results, Try.results78, go_sem]) rfl ?_
  have hFW : Fr (fun k => k = t) w w2 := (((Fr.refl _ _).alloc _).drew).trans HF.out (fun _ _ e => e)
  have hFS := hFW.mono (S' := fun k => k = t ∨ k = q) (fun _ e => Or.inl e)
  have hRS := HOK.out
  exact ⟨rfl, (hII.out.fr hFW hqt').putS _, ⟨hRS.1.fr ((Fr.refl (fun k => k = q) w2).setCell (p := ⟨q, 5, none⟩) (fun _ => rfl) _) (fun e => hqp e.symm) (fun k hk e => hqt (e ▸ hk)), hRS.2⟩, hFS.setCell (fun _ => Or.inr rfl) _⟩

end Go.Proofs.Ytojgikaoiegmpaa

/- Code: letters, on paper and in memory. -/
namespace Go.Proofs.Ytojgikaoiegmpaa
open Go.RowKit Go.IntWalk Go.Lib
set_option linter.unusedSimpArgs false
set_option linter.unusedVariables false
set_option maxRecDepth 100000

/-- The letters of an Op. -/
def ltrs (n : Nat) : List Nat := (kindT n).data.toList.map UInt8.toNat
theorem ltrs_ok (n : Nat) (hn : n ≤ 15) : ∀ l ∈ ltrs n, Ltr l := by
  obtain rfl | rfl | rfl | rfl | rfl | rfl | rfl | rfl | rfl | rfl | rfl | rfl | rfl | rfl | rfl | rfl : n = 0 ∨ n = 1 ∨ n = 2 ∨ n = 3 ∨ n = 4 ∨ n = 5 ∨ n = 6 ∨ n = 7 ∨ n = 8 ∨ n = 9 ∨ n = 10 ∨ n = 11 ∨ n = 12 ∨ n = 13 ∨ n = 14 ∨ n = 15 := by omega
  all_goals decide
theorem ltrs_length (n : Nat) : (ltrs n).length = (kindT n).size := by
  unfold ltrs
  rw [List.length_map, Array.length_toList]
  rfl
theorem ltrs_get (n pos : Nat) (h : pos < (kindT n).size) : ((kindT n)[pos]'h).toNat = (ltrs n)[pos]'(by rw [ltrs_length]; exact h) := by
  unfold ltrs
  rw [List.getElem_map, Array.getElem_toList]
  rfl

/-- The letter at a place. -/
theorem ltrs_at (n pos : Nat) (hn : n ≤ 15) (h : pos < (kindT n).size) : Ltr ((kindT n)[pos]'h).toNat ∧ (ltrs n).drop pos = ((kindT n)[pos]'h).toNat :: (ltrs n).drop (pos + 1) ∧ (ltrs n).take (pos + 1) = (ltrs n).take pos ++ [((kindT n)[pos]'h).toNat] := by
  have hl : pos < (ltrs n).length := by rw [ltrs_length]; exact h
  rw [ltrs_get n pos h]
  exact ⟨ltrs_ok n hn _ (List.getElem_mem hl), List.drop_eq_getElem_cons hl, List.take_succ_eq_append_getElem hl⟩
theorem ltrs_end (n pos : Nat) (h : ¬ pos < (kindT n).size) : (ltrs n).drop pos = [] := List.drop_eq_nil_of_le (by rw [ltrs_length]; omega)

theorem ba_nil {x : ByteArray} (h : x.toList = []) : x = ⟨#[]⟩ := (toList_nil_iff_emptyBytes x).1 h

def fitsB (l : Nat) (i : Ins) : Bool := if fld l = 5 then decide ((i.s.size : Int) ≤ 64) else decide (lowL l ≤ i.get (fld l)) && decide (i.get (fld l) ≤ highL l)
def clr (l : Nat) (i : Ins) : Ins := if fld l = 5 then { i with s := ⟨#[]⟩ } else i.put (fld l) 0
def chkL : List Nat → Ins → Option Ins
  | [], i => some i
  | l :: ls, i => if fitsB l i then chkL ls (clr l i) else none
theorem clr_op (l : Nat) (i : Ins) : (clr l i).op = i.op := by
  unfold clr Ins.put
  split
  · rfl
  split
  · rfl
  split
  · rfl
  split <;> rfl

def poA (p l : Nat) : Option Addr := if fld l = 5 then none else some ⟨p, fld l, none⟩
def poT (p l : Nat) : Option Addr := if fld l = 5 then some ⟨p, 5, none⟩ else none
def hiL (l : Nat) : Int := if fld l = 5 then 0 else highL l
abbrev partW (p l : Nat) : Value := .agg #[.pointer (poA p l), .int .i64 (lowL l), .int .i64 (hiL l), .pointer (poT p l)]
theorem partV_eq (p l : Nat) (hl : Ltr l) : partV p l = partW p l := by rcases hl with rfl | rfl | rfl | rfl | rfl | rfl <;> rfl

theorem find_w (p l : Nat) (hl : Ltr l) (w : World) : Calls Try.prog 64 #[.pointer (some ⟨p, 0, none⟩), .int .i32 (l : Int)] w fun e w' => e = .returned (partW p l) ∧ Fr (fun _ => False) w w' := by
  have h := find_any p l hl w
  rw [partV_eq p l hl] at h
  exact h

theorem fits_w (p l : Nat) (hl : Ltr l) (i : Ins) (w : World) (hI : InsAt w p i) : Calls Try.prog 84 #[partW p l] w fun e w' => e = .returned (.bool (fitsB l i)) ∧ Fr (fun _ => False) w w' := by
  rcases hl with rfl | rfl | rfl | rfl | rfl | rfl
  · exact fits_num p 1 0 7 i.a w hI.c1 hI.lt
  · exact fits_num p 2 0 7 i.b w hI.c2 hI.lt
  · exact fits_num p 3 0 7 i.c w hI.c3 hI.lt
  · exact fits_num p 4 1 16 i.n w hI.c4 hI.lt
  · exact fits_num p 4 1 60 i.n w hI.c4 hI.lt
  · exact fits_text p i.s w hI.c5 hI.lt

theorem clear_w (p l : Nat) (hl : Ltr l) (i : Ins) (w : World) (hI : InsAt w p i) : Calls Try.prog 85 #[partW p l] w fun e w' => e = .returned (.tuple #[]) ∧ InsAt w' p (clr l i) ∧ Fr (fun k => k = p) w w' := by
  rcases hl with rfl | rfl | rfl | rfl | rfl | rfl
  · exact clear_num p 1 0 7 i.a w hI.c1 (hI.fz 1) hI.lt i hI (by decide) (by decide)
  · exact clear_num p 2 0 7 i.b w hI.c2 (hI.fz 2) hI.lt i hI (by decide) (by decide)
  · exact clear_num p 3 0 7 i.c w hI.c3 (hI.fz 3) hI.lt i hI (by decide) (by decide)
  · exact clear_num p 4 1 16 i.n w hI.c4 (hI.fz 4) hI.lt i hI (by decide) (by decide)
  · exact clear_num p 4 1 60 i.n w hI.c4 (hI.fz 4) hI.lt i hI (by decide) (by decide)
  · exact clear_text p i.s w hI.c5 (hI.fz 5) hI.lt i hI

/-- A thing is written. -/
def wL (l : Nat) (i : Ins) (s : List UInt8 × Bool) : List UInt8 × Bool := if fld l = 5 then wText i.s.data.toList s else wInt (i.get (fld l)) s

theorem write_w (q l : Nat) (hl : Ltr l) (i : Ins) (p t : Nat) (ao : Option Addr) (cap : Nat) (s : List UInt8 × Bool) (w : World) (hI : InsAt w q i) (hfit : fitsB l i = true) (h : WOk w p t ao cap s) (hb : s.1.length + 84 ≤ 140737488355328) :
    Calls Try.prog 65 #[partW q l, .pointer (some ⟨p, 0, none⟩)] w fun e w' => e = .returned (.tuple #[]) ∧ WPost w p t ao (wL l i s) w' := by
  rcases hl with rfl | rfl | rfl | rfl | rfl | rfl
  · have hv : 0 ≤ i.a ∧ i.a ≤ 7 := by simpa [fitsB, fld, lowL, highL, Ins.get] using hfit
    exact write_num q 1 p t 0 7 i.a ao cap s w hI.c1 hI.lt h (by omega) (by omega)
  · have hv : 0 ≤ i.b ∧ i.b ≤ 7 := by simpa [fitsB, fld, lowL, highL, Ins.get] using hfit
    exact write_num q 2 p t 0 7 i.b ao cap s w hI.c2 hI.lt h (by omega) (by omega)
  · have hv : 0 ≤ i.c ∧ i.c ≤ 7 := by simpa [fitsB, fld, lowL, highL, Ins.get] using hfit
    exact write_num q 3 p t 0 7 i.c ao cap s w hI.c3 hI.lt h (by omega) (by omega)
  · have hv : 1 ≤ i.n ∧ i.n ≤ 16 := by simpa [fitsB, fld, lowL, highL, Ins.get] using hfit
    exact write_num q 4 p t 1 16 i.n ao cap s w hI.c4 hI.lt h (by omega) (by omega)
  · have hv : 1 ≤ i.n ∧ i.n ≤ 60 := by simpa [fitsB, fld, lowL, highL, Ins.get] using hfit
    exact write_num q 4 p t 1 60 i.n ao cap s w hI.c4 hI.lt h (by omega) (by omega)
  · have hv : (i.s.size : Int) ≤ 64 := by simpa [fitsB, fld] using hfit
    exact write_text q p t i.s ao cap s w hI.c5 hI.lt h (by omega)

/-- A thing is read. -/
def tk (bs : List UInt8) (l : Nat) (i : Ins) (s : Nat × Int × Int) : Ins × (Nat × Int × Int) := if fld l = 5 then ({ i with s := ⟨(rText bs 64 s).1.toArray⟩ }, (rText bs 64 s).2) else (i.put (fld l) (rInt bs (lowL l) (highL l) s).1, (rInt bs (lowL l) (highL l) s).2)

theorem take_w (q l : Nat) (hl : Ltr l) (p t : Nat) (i : Ins) (ao : Option Addr) (cap : Nat) (bs : List UInt8) (s : Nat × Int × Int) (w : World) (hI : InsAt w q i) (h : ROk w p t ao cap bs s) (hb : bs.length ≤ 140737488355328) (hqt : ¬ wset t ao q) (hqp : ¬ q = p) :
    Calls Try.prog 78 #[partW q l, .pointer (some ⟨p, 0, none⟩)] w fun e w' => e = .returned (.tuple #[]) ∧ InsAt w' q (tk bs l i s).1 ∧ ROk w' p t ao cap bs (tk bs l i s).2 ∧ Fr (fun k => k = t ∨ k = q) w w' := by
  have htl := h.1.tp.lt
  rcases hl with rfl | rfl | rfl | rfl | rfl | rfl
  · exact take_num q 1 p t 0 7 i.a i ao cap bs s w hI.c1 (hI.fz 1) hI.lt hI (by decide) (by decide) h hb htl hqt hqp
  · exact take_num q 2 p t 0 7 i.b i ao cap bs s w hI.c2 (hI.fz 2) hI.lt hI (by decide) (by decide) h hb htl hqt hqp
  · exact take_num q 3 p t 0 7 i.c i ao cap bs s w hI.c3 (hI.fz 3) hI.lt hI (by decide) (by decide) h hb htl hqt hqp
  · exact take_num q 4 p t 1 16 i.n i ao cap bs s w hI.c4 (hI.fz 4) hI.lt hI (by decide) (by decide) h hb htl hqt hqp
  · exact take_num q 4 p t 1 60 i.n i ao cap bs s w hI.c4 (hI.fz 4) hI.lt hI (by decide) (by decide) h hb htl hqt hqp
  · exact take_text q p t i.s i ao cap bs s w hI.c5 (hI.fz 5) hI.lt hI h hb htl hqt hqp

/-- What is left of an instruction is nothing. -/
def blank (j : Ins) : Prop := j.a = 0 ∧ j.b = 0 ∧ j.c = 0 ∧ j.n = 0 ∧ j.s = ⟨#[]⟩
open Classical in
noncomputable def checkE (i : Ins) : Int := if 1 ≤ i.op ∧ i.op ≤ 15 ∧ ∃ j, chkL (ltrs i.op.toNat) i = some j ∧ blank j then 0 else 2
theorem checkE_out (i : Ins) (h : ¬ (1 ≤ i.op ∧ i.op ≤ 15)) : checkE i = 2 := by
  unfold checkE
  exact if_neg (fun e => h ⟨e.1, e.2.1⟩)
theorem checkE_none (i : Ins) (h : chkL (ltrs i.op.toNat) i = none) : checkE i = 2 := by
  unfold checkE
  exact if_neg (fun ⟨_, _, j, e, _⟩ => by rw [h] at e; cases e)
theorem checkE_left (i j : Ins) (h : chkL (ltrs i.op.toNat) i = some j) (hj : ¬ blank j) : checkE i = 2 := by
  unfold checkE
  exact if_neg (fun ⟨_, _, k, e, b⟩ => by rw [h] at e; cases e; exact hj b)
theorem checkE_ok (i j : Ins) (h1 : 1 ≤ i.op) (h2 : i.op ≤ 15) (h : chkL (ltrs i.op.toNat) i = some j) (hj : blank j) : checkE i = 0 := by
  unfold checkE
  exact if_pos ⟨h1, h2, j, h, hj⟩

/-- What Check answers. -/
def CheckC : Prop := ∀ (i : Ins) (w : World), Calls Try.prog 62 #[.agg (icells i)] w fun e w' => e = .returned (.int .i64 (checkE i)) ∧ Fr (fun _ => False) w w'

theorem Fr.iterAt {S : Nat → Prop} {a b : World} (h : Fr S a b) {k : Nat} (hk : k < a.heap.size → S k) (s : ByteArray) (pos : Nat) : Fr S a (b.iterAt k s pos) :=
  ⟨h.os, h.tape, h.output, by rw [iterAt_size]; exact h.size, fun j hj hn => by rw [iterAt_other _ _ _ _ _ (fun e => hn (by subst e; exact hk hj))]; exact h.block j hj hn⟩
theorem iterPos_of {w : World} {k : Nat} {s : ByteArray} {p : Nat} (h : w.heap[k]? = some (.stringIter s p)) : w.iterPos k = p := by simp [World.iterPos, h]

end Go.Proofs.Ytojgikaoiegmpaa

/- Code, on paper: an instruction's bytes. -/
namespace Go.Proofs.Ytojgikaoiegmpaa
open Go.RowKit Go.IntWalk
set_option linter.unusedSimpArgs false
set_option linter.unusedVariables false
set_option maxRecDepth 100000

theorem fits_clr (l k : Nat) (hl : Ltr l) (hk : Ltr k) (i : Ins) (h : fld l ≠ fld k) : fitsB l (clr k i) = fitsB l i := by
  rcases hl with rfl | rfl | rfl | rfl | rfl | rfl <;> rcases hk with rfl | rfl | rfl | rfl | rfl | rfl <;> first | rfl | exact absurd rfl h

theorem chkL_fits (ls : List Nat) : ∀ (i j : Ins), chkL ls i = some j → (ls.map fld).Nodup → (∀ l ∈ ls, Ltr l) → ∀ l ∈ ls, fitsB l i = true := by
  induction ls with
  | nil => intro i j _ _ _ l hl; cases hl
  | cons k ls ih =>
    intro i j h hn hL l hl
    have hk : fitsB k i = true := by
      by_cases e : fitsB k i = true
      · exact e
      · simp [chkL, e] at h
    have h' : chkL ls (clr k i) = some j := by simpa [chkL, hk] using h
    rcases List.mem_cons.1 hl with rfl | hl'
    · exact hk
    · have hn' := List.nodup_cons.1 (show (fld k :: ls.map fld).Nodup from hn)
      have := ih (clr k i) j h' hn'.2 (fun x hx => hL x (List.mem_cons_of_mem _ hx)) l hl'
      rw [fits_clr l k (hL l hl) (hL k (List.mem_cons_self ..)) i (fun e => hn'.1 (by rw [← e]; exact List.mem_map_of_mem hl'))] at this
      exact this

theorem ltrs_nodup (n : Nat) (hn : n ≤ 15) : ((ltrs n).map fld).Nodup ∧ (ltrs n).length ≤ 4 := by
  obtain rfl | rfl | rfl | rfl | rfl | rfl | rfl | rfl | rfl | rfl | rfl | rfl | rfl | rfl | rfl | rfl : n = 0 ∨ n = 1 ∨ n = 2 ∨ n = 3 ∨ n = 4 ∨ n = 5 ∨ n = 6 ∨ n = 7 ∨ n = 8 ∨ n = 9 ∨ n = 10 ∨ n = 11 ∨ n = 12 ∨ n = 13 ∨ n = 14 ∨ n = 15 := by omega
  all_goals decide

/-- A thing's bytes. -/
def encL (l : Nat) (i : Ins) : List UInt8 := if fld l = 5 then UInt8.ofNat i.s.size :: i.s.data.toList else [UInt8.ofNat (i.get (fld l)).toNat]
def encs (ls : List Nat) (i : Ins) : List UInt8 := ls.flatMap fun l => encL l i
/-- An instruction's bytes, if it may be. -/
def codeL (i : Ins) : List UInt8 := UInt8.ofNat i.op.toNat :: encs (ltrs i.op.toNat) i
noncomputable def codeI (i : Ins) : List UInt8 := if checkE i = 0 then codeL i else []

theorem wInt_small (v : Int) (h0 : 0 ≤ v) (h1 : v ≤ 127) (x : List UInt8) : wInt v (x, false) = (x ++ [UInt8.ofNat v.toNat], false) := by
  unfold wInt
  rw [if_neg (by simp), if_neg (by omega), sevens_lt (by omega)]

theorem wL_fits (l : Nat) (hl : Ltr l) (i : Ins) (h : fitsB l i = true) (x : List UInt8) : wL l i (x, false) = (x ++ encL l i, false) := by
  rcases hl with rfl | rfl | rfl | rfl | rfl | rfl
  · have hv : 0 ≤ i.a ∧ i.a ≤ 7 := by simpa [fitsB, fld, lowL, highL, Ins.get] using h
    exact wInt_small i.a (by omega) (by omega) x
  · have hv : 0 ≤ i.b ∧ i.b ≤ 7 := by simpa [fitsB, fld, lowL, highL, Ins.get] using h
    exact wInt_small i.b (by omega) (by omega) x
  · have hv : 0 ≤ i.c ∧ i.c ≤ 7 := by simpa [fitsB, fld, lowL, highL, Ins.get] using h
    exact wInt_small i.c (by omega) (by omega) x
  · have hv : 1 ≤ i.n ∧ i.n ≤ 16 := by simpa [fitsB, fld, lowL, highL, Ins.get] using h
    exact wInt_small i.n (by omega) (by omega) x
  · have hv : 1 ≤ i.n ∧ i.n ≤ 60 := by simpa [fitsB, fld, lowL, highL, Ins.get] using h
    exact wInt_small i.n (by omega) (by omega) x
  · have hv : (i.s.size : Int) ≤ 64 := by simpa [fitsB, fld] using h
    have hlen : i.s.data.toList.length = i.s.size := by rw [Array.length_toList]; rfl
    show wText i.s.data.toList (x, false) = (x ++ (UInt8.ofNat i.s.size :: i.s.data.toList), false)
    unfold wText
    rw [if_neg (by simp), hlen, sevens_lt (by omega)]
    rfl

theorem encL_len (l : Nat) (hl : Ltr l) (i : Ins) (h : fitsB l i = true) : (encL l i).length ≤ 65 := by
  rcases hl with rfl | rfl | rfl | rfl | rfl | rfl
  · exact Nat.le_trans (Nat.le_refl 1) (by omega)
  · exact Nat.le_trans (Nat.le_refl 1) (by omega)
  · exact Nat.le_trans (Nat.le_refl 1) (by omega)
  · exact Nat.le_trans (Nat.le_refl 1) (by omega)
  · exact Nat.le_trans (Nat.le_refl 1) (by omega)
  · have hv : (i.s.size : Int) ≤ 64 := by simpa [fitsB, fld] using h
    have hlen : i.s.data.toList.length = i.s.size := by rw [Array.length_toList]; rfl
    show (UInt8.ofNat i.s.size :: i.s.data.toList).length ≤ 65
    rw [List.length_cons, hlen]
    omega

theorem encs_len (ls : List Nat) (i : Ins) (hL : ∀ l ∈ ls, Ltr l) (h : ∀ l ∈ ls, fitsB l i = true) : (encs ls i).length ≤ 65 * ls.length := by
  induction ls with
  | nil => exact Nat.le_refl _
  | cons l ls ih =>
    have h1 := encL_len l (hL l (List.mem_cons_self ..)) i (h l (List.mem_cons_self ..))
    have h2 := ih (fun x hx => hL x (List.mem_cons_of_mem _ hx)) (fun x hx => h x (List.mem_cons_of_mem _ hx))
    show (encL l i ++ encs ls i).length ≤ 65 * (ls.length + 1)
    rw [List.length_append]
    omega
theorem encs_snoc (ls : List Nat) (l : Nat) (i : Ins) : encs (ls ++ [l]) i = encs ls i ++ encL l i := by simp [encs]

/-- What may be: its Op, its things. -/
structure Good (i : Ins) (m : Nat) : Prop where
  op : i.op = m
  lo : 1 ≤ m
  hi : m ≤ 15
  fit : ∀ l ∈ ltrs m, fitsB l i = true
  left : ∃ j, chkL (ltrs m) i = some j ∧ blank j
theorem good_of (i : Ins) (h : checkE i = 0) : ∃ m, Good i m := by
  unfold checkE at h
  by_cases hc : 1 ≤ i.op ∧ i.op ≤ 15 ∧ ∃ j, chkL (ltrs i.op.toNat) i = some j ∧ blank j
  · obtain ⟨h1, h2, j, hj, hb⟩ := hc
    have hm : i.op.toNat ≤ 15 := by omega
    exact ⟨i.op.toNat, by omega, by omega, hm, chkL_fits _ i j hj (ltrs_nodup _ hm).1 (ltrs_ok _ hm), j, hj, hb⟩
  · rw [if_neg hc] at h
    cases h
theorem Good.check {i : Ins} {m : Nat} (h : Good i m) : checkE i = 0 := by
  obtain ⟨j, hj, hb⟩ := h.left
  have e : i.op.toNat = m := by rw [h.op]; rfl
  exact checkE_ok i j (by rw [h.op]; have := h.lo; omega) (by rw [h.op]; have := h.hi; omega) (by rw [e]; exact hj) hb
theorem checkE_or (i : Ins) : checkE i = 0 ∨ checkE i = 2 := by
  unfold checkE
  split
  · exact Or.inl rfl
  · exact Or.inr rfl
theorem Good.code {i : Ins} {m : Nat} (h : Good i m) : codeI i = UInt8.ofNat m :: encs (ltrs m) i := by
  have e : i.op.toNat = m := by rw [h.op]; rfl
  unfold codeI
  rw [if_pos h.check]
  unfold codeL
  rw [e]

end Go.Proofs.Ytojgikaoiegmpaa
