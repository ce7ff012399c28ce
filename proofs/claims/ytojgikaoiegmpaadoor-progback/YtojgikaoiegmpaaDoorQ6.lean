/- ProgBack, part 6 of the road: what the program's functions do, each by its own walk. -/
import Derived.Test.YtojgikaoiegmpaaDoorQ4
import Derived.Test.YtojgikaoiegmpaaDoorQ5
import Derived.Test.YtojgikaoiegmpaaDoorQ3
import Derived.Test.YtojgikaoiegmpaaDoorQ2
import Derived.Deep.MidRow
import Derived.Deep.Upon
import Derived.Deep.QuietTactic
import Derived.BigQuiet
import Derived.Deep.RegionWith
import Derived.Deep.RegionHeld2
import Derived.Deep.RegionHeld3
import Derived.Laws.Pointers
import Derived.Stop.BytesEq

/- Memory, for package hash: rows that are read and written as a whole, bytes, equality of names. -/
namespace Go.Proofs.YtojgikaoiegmpaaDoor
open Go.RowKit Go.IntWalk
set_option linter.unusedSimpArgs false
set_option linter.unusedVariables false
set_option maxRecDepth 100000

/-- Thirty-two noughts. -/
def zeros32 : List UInt8 := List.replicate 32 0

def zA : Array Value := #[.int .u8 0, .int .u8 0, .int .u8 0, .int .u8 0, .int .u8 0, .int .u8 0, .int .u8 0, .int .u8 0, .int .u8 0, .int .u8 0, .int .u8 0, .int .u8 0, .int .u8 0, .int .u8 0, .int .u8 0, .int .u8 0, .int .u8 0, .int .u8 0, .int .u8 0, .int .u8 0, .int .u8 0, .int .u8 0, .int .u8 0, .int .u8 0, .int .u8 0, .int .u8 0, .int .u8 0, .int .u8 0, .int .u8 0, .int .u8 0, .int .u8 0, .int .u8 0]

theorem thereNew (w : World) (b : Nat) (A : Array Value) (t : TypeId) (h : w.heap[b]? = some (.cells A t (0, 0))) (n : Nat) (hn : n = A.size) : w.there b 0 n := by
  subst hn
  intro j hj
  rw [Nat.zero_add, cell_of_row w b j _ _ _ h, frozen_of_row w b j _ _ h]
  simp [hj]

/-- A store of many cells, the world behind it a name. -/
theorem wpList_store_abs {P : Program} {ops : Array Oper} {rest : List Oper} {op : Oper} {a : Act} {w : World} {Q : Exit → Act → World → Prop} (hgd : op.guard = none) (ty : TypeId) (x y : Operand) (ho : op.op = .store ty x y)
    (b o : Nat) (cells : Array Value) (hx : a.eval x = .pointer (some ⟨b, o, none⟩)) (hy : a.eval y = .agg cells)
    (ht : w.there b o cells.size) (hi : (P.info? ty).map (·.size) = some cells.size) (h1 : cells.all (·.oneCell') = true)
    (h : ∀ W, W = w.setCells b o cells.toList → wpList P ops Q rest (a.put op.dst undef) W) : wpList P ops Q (op :: rest) a w :=
  wpList_store_mid hgd ty x y ho b o cells hx hy ht hi h1 (h _ rfl)

theorem rangeOf {w : World} {b : Nat} {A : Array Value} {t : TypeId} (h : w.heap[b]? = some (.cells A t (0, 0))) : w.rangeAt b 0 A.toList := fun j v hv => by
  rw [Nat.zero_add, cell_of_row w b j _ _ _ h, ← hv]
  simp

theorem wpList_build_eq {P : Program} {ops : Array Oper} {rest : List Oper} {o : Oper} {a : Act} {w : World} {Q : Exit → Act → World → Prop} (hg : o.guard = none) (t : TypeId) (parts : Array (Nat × Operand)) (ho : o.op = .build t parts)
    (vs : List (Nat × Value)) (hvs : (parts.map fun (i, x) => (i, a.eval x)).toList = vs) (cells : Array Value) (hb : P.built t vs = some cells)
    (h : wpList P ops Q rest (a.put o.dst (.agg cells)) w) : wpList P ops Q (o :: rest) a w := by
  refine wpList_build hg t parts ho (by rw [hvs, hb]; rfl) ?_
  rw [hvs, hb]
  exact h

section
variable {P : Program} {ops : Array Oper} {rest : List Oper} {o : Oper} {a : Act} {w : World} {Q : Exit → Act → World → Prop}
theorem yields_load_mid (ty : TypeId) (x : Operand) (ho : o.op = .load ty x) (b off : Nat) (hx : a.eval x = .pointer (some ⟨b, off, none⟩)) (cs : List Value) (d : TypeDesc) (hc : w.rangeAt b off cs)
    (hu : P.underlying ty = some d) (hd : d.isRow = true) (hi : (P.info? ty).map (·.size) = some cs.length) : (execOp a.eval o).run P w = .ok (.value (.agg cs.toArray)) w := by
  unfold execOp
  simp only [ho, hx, Instr.loadAt, Instr.sureAddr, Sem.run_bind, Sem.run_pure, Result.andThen_ok, run_loadVar_mid w b off ty cs d hc hu hd hi]
theorem yields_bin (op : BinOp) (t t' : TypeId) (x y : Operand) (ho : o.op = .binOp op t x y t') (v1 v2 v : Value) (hx : a.eval x = v1) (hy : a.eval y = v2)
    (hrun : (binOp op t v1 v2).run P w = .ok v w) (hg : (eqGuard op t x y v1 v2).run P w = .ok () w) : (execOp a.eval o).run P w = .ok (.value v) w := by
  unfold execOp
  simp only [ho, hx, hy, Sem.run_bind, hg, hrun, Result.andThen_ok, Sem.run_pure]
theorem wpList_load_want (hw : Region.wanted o (yielded ops a.tmps) = true) (ty : TypeId) (x : Operand) (ho : o.op = .load ty x)
    (b off : Nat) (hx : a.eval x = .pointer (some ⟨b, off, none⟩)) (cs : List Value) (d : TypeDesc) (hc : w.rangeAt b off cs)
    (hu : P.underlying ty = some d) (hd : d.isRow = true) (hi : (P.info? ty).map (·.size) = some cs.length)
    (h : wpList P ops Q rest (a.put o.dst (.agg cs.toArray)) w) : wpList P ops Q (o :: rest) a w :=
  BigFrame.wpList_want hw fun _ hK => wp_load_mid ty x ho b off hx cs d hc hu hd hi (hK _ _ h)
theorem wpList_build_want (hw : Region.wanted o (yielded ops a.tmps) = true) (t : TypeId) (ho : o.op = .build t #[]) (cells : Array Value) (hb : P.built t [] = some cells)
    (h : wpList P ops Q rest (a.put o.dst (.agg cells)) w) : wpList P ops Q (o :: rest) a w := by
  have e : ((#[] : Array (Nat × Operand)).map fun (i, x) => (i, a.eval x)).toList = [] := by simp
  refine BigFrame.wpList_want hw fun _ hK => wp_build t #[] ho (by rw [e, hb]; rfl) (hK _ _ ?_)
  rw [e, hb]
  exact h
theorem wpList_bin_want (hw : Region.wanted o (yielded ops a.tmps) = true) (op : BinOp) (t t' : TypeId) (x y : Operand) (ho : o.op = .binOp op t x y t') (v1 v2 v : Value) (hx : a.eval x = v1) (hy : a.eval y = v2)
    (hrun : (binOp op t v1 v2).run P w = .ok v w) (hg : (eqGuard op t x y v1 v2).run P w = .ok () w)
    (h : wpList P ops Q rest (a.put o.dst v) w) : wpList P ops Q (o :: rest) a w := by
  refine BigFrame.wpList_want hw fun _ hK => ?_
  unfold Oper.wp execOp
  simp only [ho, hx, hy, Sem.run_bind, hg, hrun, Result.andThen_ok, Sem.run_pure]
  exact hK _ _ h
end

theorem ids_eq (w : World) (a b : List UInt8) (ha : a.length = 32) (hb : b.length = 32) : (Op.equalIn 10000 30 (.agg (bv a).toArray) (.agg (bv b).toArray)).run Tryd.prog w = .ok (a == b) w :=
  run_equalIn_bytes w 9998 30 5 32 Tryd.underlying30 Tryd.underlying5 (fun _ => by kernel_rfl) a b ha hb
theorem ids_neq (w : World) (a b : List UInt8) (ha : a.length = 32) (hb : b.length = 32) : (binOp .neq 30 (.agg (bv a).toArray) (.agg (bv b).toArray)).run Tryd.prog w = .ok (.bool (!(a == b))) w := by
  rw [run_neq_struct, ids_eq w a b ha hb]
  rfl
theorem ids_eql (w : World) (a b : List UInt8) (ha : a.length = 32) (hb : b.length = 32) : (binOp .eql 30 (.agg (bv a).toArray) (.agg (bv b).toArray)).run Tryd.prog w = .ok (.bool (a == b)) w := by
  rw [run_eql_struct, ids_eq w a b ha hb]
  rfl
theorem ids_grd (w : World) (op : BinOp) (x y : Operand) (a b : List UInt8) : (eqGuard op 30 x y (.agg (bv a).toArray) (.agg (bv b).toArray)).run Tryd.prog w = .ok () w := run_eqGuard_agg w op 30 x y _ _ (by kernel_rfl)

end Go.Proofs.YtojgikaoiegmpaaDoor

/- The document's own writer (retconref01.Writer). -/
namespace Go.Proofs.YtojgikaoiegmpaaDoor
open Go.RowKit Go.IntWalk
set_option linter.unusedSimpArgs false
set_option linter.unusedVariables false
set_option maxRecDepth 100000

section
variable {w w' : World} {p : Nat} {ao : Option Addr} {cap : Nat} {bs : List UInt8} {bad : Bool}
end
end Go.Proofs.YtojgikaoiegmpaaDoor

/- The document's own writer: texts, IDs, what it tells. -/
namespace Go.Proofs.YtojgikaoiegmpaaDoor
open Go.RowKit Go.IntWalk
set_option linter.unusedSimpArgs false
set_option linter.unusedVariables false
set_option maxRecDepth 100000

theorem str_src (w : World) (x : ByteArray) : Src Tryd.prog 1 9 (.string x) x.data.toList.length (bv x.data.toList) w := by
  have := Src.ofString (P := Tryd.prog) w Tryd.underlying9 x
  simpa [byteCells, bv] using this

/-- A new row is new, behind whatever was made ahead of it. -/
theorem new_or {w w2 : World} {ao ao3 : Option Addr} (hs : w.heap.size ≤ w2.heap.size) (h : ao3 = ao ∨ ao3 = some ⟨w2.heap.size, 0, none⟩) : ao3 = ao ∨ ∀ k, blk ao3 k → w.heap.size ≤ k :=
  h.imp id fun e k hk => by
    subst e
    obtain ⟨_, e1, rfl⟩ := hk
    obtain rfl := Option.some.inj e1
    exact hs

end Go.Proofs.YtojgikaoiegmpaaDoor

/- Bytes that are told are new memory, all of it bytes; and they are written over. -/
namespace Go.Proofs.YtojgikaoiegmpaaDoor
open Go.RowKit Go.IntWalk
set_option linter.unusedSimpArgs false
set_option linter.unusedVariables false
set_option maxRecDepth 100000

/-- A slice whose whole room is bytes, of memory of its own. -/
def Full (w : World) (ao : Option Addr) (cap : Nat) (bs : List UInt8) : Prop :=
  (ao = none ∧ bs = [] ∧ cap = 0) ∨ ∃ g zs, ao = some ⟨g, 0, none⟩ ∧ w.heap[g]? = some (.cells (bv (bs ++ zs)).toArray 5 (0, 0)) ∧ cap = (bs ++ zs).length ∧ cap ≤ maxLen

theorem Full.bs {w : World} {ao : Option Addr} {cap : Nat} {bs : List UInt8} (h : Full w ao cap bs) : BsAt w ao bs := by
  rcases h with ⟨rfl, rfl, _⟩ | ⟨g, zs, rfl, hh, _⟩
  · exact Or.inl ⟨rfl, rfl⟩
  · refine Or.inr ⟨g, 0, rfl, fun j hj => ?_⟩
    rw [Nat.zero_add]
    refine cellOfHeap hh j ?_
    simp only [List.getElem?_toArray]
    rw [bv_get _ _ (by simp; omega), List.getElem_append_left hj]
theorem Full.lt {w : World} {ao : Option Addr} {cap : Nat} {bs : List UInt8} (h : Full w ao cap bs) {k : Nat} (hk : blk ao k) : k < w.heap.size := by
  obtain ⟨a, rfl, rfl⟩ := hk
  rcases h with ⟨h0, _⟩ | ⟨g, zs, h0, hh, _⟩
  · cases h0
  · obtain rfl := Option.some.inj h0
    exact (Array.getElem?_eq_some_iff.1 hh).1
theorem Full.fr {S : Nat → Prop} {w w' : World} {ao : Option Addr} {cap : Nat} {bs : List UInt8} (h : Full w ao cap bs) (hF : Fr S w w') (hS : ∀ k, blk ao k → ¬ S k) : Full w' ao cap bs := by
  rcases h with h | ⟨g, zs, rfl, hh, r⟩
  · exact Or.inl h
  · exact Or.inr ⟨g, zs, rfl, (hF.block g (Array.getElem?_eq_some_iff.1 hh).1 (hS g ⟨_, rfl, rfl⟩)).trans hh, r⟩

theorem zero_bytes (k : Nat) : Builtin.zeroCells #[.int .u8 0] k = (bv (List.replicate k 0)).toArray := by
  apply Array.ext'
  simp [Builtin.zeroCells, bv]
  apply List.ext_getElem
  · simp
  · intro i h1 h2
    simp [Nat.mod_one]

theorem clone_full (ao : Option Addr) (cap : Nat) (bs : List UInt8) (w : World) (h : BsAt w ao bs) (hcap : ao = none → cap = 0) (hb : bs.length ≤ 140737488355328) :
    Calls Tryd.prog 50 #[.slice ao bs.length cap] w fun e w' => ∃ ao' cap', e = .returned (.slice ao' bs.length cap') ∧ Full w' ao' cap' bs ∧ Fr (fun _ => False) w w' ∧ ∀ k, blk ao' k → w.heap.size ≤ k := by
  cases ao with
  | none =>
    obtain rfl := hcap rfl
    rcases h with ⟨_, rfl⟩ | ⟨_, _, e, _⟩
    · refine (clone_nil w).mono ?_
      rintro e w' ⟨rfl, rfl⟩
      exact ⟨none, 0, rfl, Or.inl ⟨rfl, rfl, rfl⟩, Fr.refl _ _, fun k ⟨_, e, _⟩ => by cases e⟩
    · cases e
  | some a =>
    have hF0 : Fr (fun _ => False) w (w.alloc (.cells #[] 5)) := (Fr.refl _ _).alloc _
    have h1 : BsAt (w.alloc (.cells #[] 5)) (some a) bs := h.fr hF0 (fun _ _ _ e => e)
    have hs := h1.src cap
    obtain ⟨i0, hi, hz0, hz1, hz2⟩ := info_parts Tryd.infoU8
    have hnil : ∀ (a : Option Addr) (n c : Nat) (w : World), (binOp .eql 23 (.slice a n c) (.slice none 0 0)).run Tryd.prog w = .ok (.bool a.isNone) w := fun a n c w => Lib.run_eql_slice_nil (P := Tryd.prog) w 23 5 a n c 0 0 Tryd.underlying23
    have key : ∃ ao' cap' w', (Builtin.append_ #[23, 23] 23 #[.slice (some ⟨w.heap.size, 0, none⟩) 0 0, .slice (some a) bs.length cap]).run Tryd.prog (w.alloc (.cells #[] 5)) = .ok (.slice ao' bs.length cap') w' ∧ Full w' ao' cap' bs ∧ Fr (fun _ => False) w w' ∧ ∀ k, blk ao' k → w.heap.size ≤ k := by
      by_cases he : bs = []
      · subst he
        refine ⟨some ⟨w.heap.size, 0, none⟩, 0, _, run_append_nothing (P := Tryd.prog) _ 23 23 23 5 i0 Tryd.underlying23 hi _ 0 0 (Nat.le_refl _) _ (by rw [hz1]; exact hs), Or.inr ⟨w.heap.size, [], rfl, heap_new rfl, rfl, Nat.zero_le _⟩, hF0, ?_⟩
        rintro k ⟨x, e1, rfl⟩
        obtain rfl := Option.some.inj e1
        exact Nat.le_refl _
      · have hpos : 0 < bs.length := List.length_pos_iff.2 he
        have hr := run_append_grow_src (P := Tryd.prog) (w.alloc (.cells #[] 5)) 23 23 23 5 i0 (.int .u8 0) Tryd.underlying23 hi hz0 (some ⟨w.heap.size, 0, none⟩) 0 0 [] (run_firstCells_some _ _ 0 _ 0 0 [] (by simp) (fun j u hu => by cases hu)) _ bs.length (bv bs) (by rw [hz1]; exact hs) (by omega) (by omega) (growslice_fits (by omega) (by rw [hz2]; omega))
        have hge := grownCap_ge (w.alloc (.cells #[] 5)) (0 + bs.length) 0 5
        have hcm := grownCap_le_maxLen (w.alloc (.cells #[] 5)) (0 + bs.length) 0 5 (by unfold maxLen; omega)
        refine ⟨_, _, _, by simpa using hr, Or.inr ⟨(w.alloc (.cells #[] 5)).heap.size, List.replicate (grownCap (w.alloc (.cells #[] 5)) (0 + bs.length) 0 5 - (0 + bs.length)) 0, rfl, ?_, ?_, by simpa using hcm⟩, (hF0.drew.alloc _), ?_⟩
        · rw [bv_append]
          have e : (Value.int .u8 0).cells = #[.int .u8 0] := rfl
          simp only [e, zero_bytes, List.nil_append, Nat.zero_add]
          have := heap_alloc_new ((w.alloc (.cells #[] 5)).drew) (.cells ((bv bs).toArray ++ (bv (List.replicate (grownCap (w.alloc (.cells #[] 5)) bs.length 0 5 - bs.length) 0)).toArray) 5)
          simpa using this
        · simp only [List.length_append, List.length_replicate, Nat.zero_add]
          simp only [Nat.zero_add] at hge
          omega
        · rintro k ⟨x, e1, rfl⟩
          obtain rfl := Option.some.inj e1
          simp
    obtain ⟨ao', cap', w1, hrun, hfull, hF, hn⟩ := key
    have HR := hideIt hrun
    clear hrun
    go_enter Tryd.func50, Tryd.ntmps50
    go_wp2_with (first | (at_builtin; refine wpList_append_run _ rfl (.tmp 5) (.tmp 6) 23 23 rfl _ _ _ _ rfl rfl HR.out ?_))
    go_ret
    exact ⟨ao', cap', rfl, hfull, hF, hn⟩

theorem out_full (p t : Nat) (ao : Option Addr) (cap : Nat) (bs : List UInt8) (at_ ea : Int) (w : World) (h : WAt w p t ao cap bs at_ 0 ea) (hb : bs.length ≤ 140737488355328) :
    Calls Tryd.prog 45 #[.pointer (some ⟨p, 0, none⟩)] w fun e w' => ∃ ao' cap', e = .returned (.tuple #[.slice ao' bs.length cap', .int .i64 0]) ∧ Full w' ao' cap' bs ∧ Fr (fun _ => False) w w' ∧ ∀ k, blk ao' k → w.heap.size ≤ k := by
  have hc := h.c
  have h0 := h.tp.c0
  have h2 := h.tp.c2
  go_enter Tryd.func45, Tryd.ntmps45
  go_wp2_with (go_at_call 69; refine (wnone_some p t _ hc).mono ?_; rintro e w' ⟨rfl, rfl⟩)
  refine (clone_full ao cap bs _ h.tp.row.bs h.tp.row.cap0 hb).mono ?_
  rintro e w' ⟨ao', cap', rfl, hrow, hF, hnew⟩
  go_wp2
  go_ret2
  exact ⟨ao', cap', rfl, hrow, hF, hnew⟩

theorem xor_fin : ∀ n : Fin 256, bits .xor .u8 (n.val : Int) 90 = (((UInt8.ofNat n.val) ^^^ 90).toNat : Int) := by decide +kernel

end Go.Proofs.YtojgikaoiegmpaaDoor

/- Code: Bytes, Size. -/
namespace Go.Proofs.YtojgikaoiegmpaaDoor
open Go.RowKit Go.IntWalk Go.Lib
set_option linter.unusedSimpArgs false
set_option linter.unusedVariables false
set_option maxRecDepth 100000

theorem WOk.frS {S : Nat → Prop} {w w' : World} {p t : Nat} {ao : Option Addr} {cap : Nat} {s : List UInt8 × Bool} (h : WOk w p t ao cap s) (hf : Fr S w w') (hp : ¬ S p) (hS : ∀ k, wset t ao k → ¬ S k) : WOk w' p t ao cap s := by
  obtain ⟨a, e, h⟩ := h
  exact ⟨a, e, h.fr hf hp hS⟩

/-- What Bytes answers. -/
def BytesP (i : Ins) (w : World) (e : Ending) (w' : World) : Prop :=
  ∃ ao cap, e = .returned (.tuple #[.slice ao (codeI i).length cap, .int .i64 (checkE i)]) ∧ Full w' ao cap (codeI i) ∧ Fr (fun _ => False) w w' ∧ ∀ k, blk ao k → w.heap.size ≤ k

theorem bytes_bad (i : Ins) (h2 : checkE i = 2) (w : World) : Calls Tryd.prog 22 #[.agg (icells i)] w (BytesP i w) := by
  have HC := hideIt (fun w => by have := check_any i w; rw [h2] at this; exact this)
  have hcode : codeI i = [] := by unfold codeI; rw [if_neg (by rw [h2]; decide)]
  have HE := hideIt (And.intro hcode h2)
  clear hcode h2
  obtain ⟨op, a, b, c, n, s⟩ := i
  unfold icells
  go_enter Tryd.func22, Tryd.ntmps22
  go_wp2_with fail
  refine Calls.mono (HC.out _) ?_
  rintro e w1 ⟨rfl, hF1⟩
  have HF1 := hideIt hF1
  clear hF1
  go_wp2_with fail
  go_ret2
  exact ⟨none, 0, by rw [HE.out.1, HE.out.2]; rfl, by rw [HE.out.1]; exact Or.inl ⟨rfl, rfl, rfl⟩, ((Fr.refl _ _).alloc _).trans HF1.out (fun _ _ e => e), fun k hk => by obtain ⟨_, e, _⟩ := hk; cases e⟩

set_option maxRecDepth 100000 in
set_option maxHeartbeats 2000000 in
theorem bytes_good (i : Ins) (m : Nat) (hG : Good i m) (w : World) : Calls Tryd.prog 22 #[.agg (icells i)] w (BytesP i w) := by
  have HC := hideIt (fun w => by have := check_any i w; rw [hG.check] at this; exact this)
  have HE := hideIt (And.intro hG.code hG.check)
  have HG := hideIt hG
  have hm : m ≤ 15 := hG.hi
  have hlen4 := (ltrs_nodup m hm).2
  have hop := hG.op
  clear hG
  have HII := hideIt (show ∀ w1, Fr (fun _ => False) (w.alloc (.cells (icells i) 46)) w1 → InsAt w1 w.heap.size i from fun w1 hF => (hF.block w.heap.size (by simp) (fun e => e)).trans (heap_new rfl))
  obtain ⟨op, a, b, c, n, s⟩ := i
  obtain rfl : op = m := hop
  have HK := hideIt kinds_any
  have hidx := idx_run m hm
  unfold icells
  go_enter Tryd.func22, Tryd.ntmps22
  go_wp2_with fail
  refine Calls.mono (HC.out _) ?_
  rintro e w1 ⟨rfl, hF1⟩
  have HF1 := hideIt hF1
  have hs1 : w.heap.size < w1.heap.size := by have := hF1.size; simp at this; omega
  clear hF1
  go_wp2_with fail
  refine Calls.mono (new_any w1) ?_
  rintro e w2 ⟨rfl, hW2, hF2, hsz2⟩
  have HI2 := hideIt (HII.out _ (HF1.out.trans hF2 (fun _ _ e => e)))
  have HF2 := hideIt (((Fr.refl (fun _ => False) w).alloc _).trans (HF1.out.trans hF2 (fun _ _ e => e)) (fun _ _ e => e))
  have HW2 := hideIt hW2
  clear hW2 hF2
  have c0 := HI2.out.c0
  dsimp only at c0
  go_wp2_with fail
  refine Calls.mono (wint_any (w1.heap.size + 1) w1.heap.size none 0 ([], false) m w2 HW2.out (by omega) (by simp)) ?_
  rintro e w3 ⟨rfl, hP⟩
  rw [wInt_small (m : Int) (by omega) (by omega) [], Int.toNat_natCast] at hP
  obtain ⟨ao, cap, hW3, hF3, hn3⟩ := hP
  have hnP : ¬ wset w1.heap.size none w.heap.size := by
    rintro (e | ⟨_, e, _⟩)
    · omega
    · cases e
  have HI1 := hideIt (fun w' (hF : Fr (fun _ => False) w3 w') => (HI2.out.fr hF3 hnP).fr hF (fun e => e))
  have HF3 := hideIt (HF2.out.trans hF3 (fun k hk e => by rcases e with e | ⟨_, e, _⟩; omega; cases e))
  have HW3 := hideIt hW3
  have HL3 := hideIt (show ∀ k, blk ao k → k < w3.heap.size from by obtain ⟨_, _, h⟩ := hW3; exact fun k hk => h.tp.row.lt hk)
  have HN3 := hideIt (show ∀ k, blk ao k → w2.heap.size ≤ k from hn3.elim (fun e k hk => by subst e; obtain ⟨_, e, _⟩ := hk; cases e) id)
  have hs3 : w2.heap.size ≤ w3.heap.size := hF3.size
  clear hW3 hF3 hn3 c0
  go_wp2_with fail
  refine wp_region_held_drew (S := fun w0 => w0.cell? ⟨w.heap.size, 0, none⟩ = some (.int .i64 (m : Int))) (by kernel_rfl) ?_ (fun hHeld => ?_)
  · exact (HI1.out _ (Fr.refl _ _).drew).c0
  refine wpAnyH_take (i := 1) (v := ?v1) rfl (by kernel_rfl) (by kernel_rfl) (by kernel_rfl) (fun _ _ _ h => h) (Or.inl ⟨by rfl, ?hy1⟩) (by assumption) ?rest1
  case hy1 => intro w hSw; (try dsimp only at hSw); go_simp; (try with_reducible rfl)
  try simp only [Act.put, List.setIfInBounds_toArray, List.set_cons_zero, List.set_cons_succ]
  refine wpAnyH_take (i := 2) (v := ?v2) rfl (by kernel_rfl) (by kernel_rfl) (by kernel_rfl) (fun _ _ _ h => h) (Or.inl ⟨by rfl, ?hy2⟩) (by assumption) ?rest2
  case hy2 => intro w hSw; (try dsimp only at hSw); go_simp; (try with_reducible rfl)
  try simp only [Act.put, List.setIfInBounds_toArray, List.set_cons_zero, List.set_cons_succ]
  refine wpAnyH_ready (rs := [0]) (by kernel_rfl) (by simp) ?_
  refine AllReadyH.cons rfl (fun K hK => ?_) AllReadyH.nil
  go_simp
  refine Calls.mono (HK.out _) ?_
  rintro e w4 ⟨rfl, hF⟩
  have HF := hideIt hF
  clear hF
  refine hK.out _ _ ?_ (fun hHeld => ?_)
  · exact (HI1.out _ ((Fr.refl _ _).drew.trans HF.out (fun _ _ e => e))).c0
  clear hK K
  try simp only [Act.put, List.setIfInBounds_toArray, List.set_cons_zero, List.set_cons_succ]
  refine wpAnyH_take (i := 3) (v := ?v3) rfl (by kernel_rfl) (by kernel_rfl) (by kernel_rfl) (fun _ _ _ h => h) (Or.inl ⟨by rfl, ?hy3⟩) (by assumption) ?rest3
  case hy3 => intro w hSw; (try dsimp only at hSw); go_simp; first | done | exact hidx w | (with_reducible rfl) | rfl
  try simp only [Act.put, List.setIfInBounds_toArray, List.set_cons_zero, List.set_cons_succ]
  refine wpAnyH_ready (rs := [4]) (by kernel_rfl) (by simp) ?_
  refine AllReadyH.cons rfl (fun K hK => ?_) AllReadyH.nil
  go_simp
  refine hK.out _ _ ?_ (fun hHeld => ?_)
  · exact (HI1.out _ (((Fr.refl _ _).drew.trans HF.out (fun _ _ e => e)).alloc _)).c0
  clear hK K
  try simp only [Act.put, List.setIfInBounds_toArray, List.set_cons_zero, List.set_cons_succ]
  refine wpAnyH_done (by kernel_rfl) ?_ _
  skip
  go_wp2_with fail
  have hs4 : w3.heap.size ≤ w4.heap.size := HF.out.size
  have HFW := hideIt (HF3.out.trans ((Fr.refl (fun _ => False) w3).drew.trans HF.out (fun _ _ e => e)) (fun _ _ e => e))
  have HIW := hideIt (HI1.out _ (((Fr.refl _ _).drew.trans HF.out (fun _ _ e => e)).alloc (.stringIter (kindT m) 0)))
  have HWW := hideIt (HW3.out.fr0 (((Fr.refl _ _).drew.trans HF.out (fun _ _ e => e)).alloc (.stringIter (kindT m) 0)))
  clear HI1 HK hidx HF hHeld HW3 HF3 HII HC HF1 HI2 HF2 HW2
  go_loopw [7] (fun _ wr => ∃ (pos : Nat) (ao : Option Addr) (cap : Nat), Hid (wr.heap[w4.heap.size]? = some (.stringIter (kindT m) pos)) ∧ Hid (InsAt wr w.heap.size ⟨m, a, b, c, n, s⟩) ∧ Hid (WOk wr (w1.heap.size + 1) w1.heap.size ao cap (UInt8.ofNat m :: encs ((ltrs m).take pos) ⟨m, a, b, c, n, s⟩, false)) ∧ Hid (Fr (fun _ => False) w wr) ∧ Hid (¬ wset w1.heap.size ao w.heap.size ∧ ¬ wset w1.heap.size ao w4.heap.size ∧ (∀ k, wset w1.heap.size ao k → w.heap.size ≤ k) ∧ pos ≤ (ltrs m).length)) (fun _ wr => (kindT m).size - wr.iterPos w4.heap.size)
  case atStart =>
    refine ⟨0, ao, cap, hideIt (heap_new rfl), HIW, HWW, hideIt (HFW.out.alloc _), hideIt ⟨?_, ?_, ?_, Nat.zero_le _⟩⟩
    · rintro (e | e)
      · omega
      · have := HN3.out _ e; omega
    · rintro (e | e)
      · omega
      · have := HL3.out _ e; omega
    · rintro k (e | e)
      · omega
      · have := HN3.out _ e; omega
  case round =>
    obtain ⟨pos, ao, cap, HIT, HJ, HW, HFR, HP⟩ := hrel
    have hne : w.heap.size ≠ w4.heap.size := by omega
    by_cases hp : pos < (kindT m).size
    · obtain ⟨hl, _, ht0⟩ := ltrs_at m pos hm hp
      have hfit : fitsB ((kindT m)[pos]'hp).toNat ⟨m, a, b, c, n, s⟩ = true := HG.out.fit _ (by rw [ltrs_get m pos hp]; exact List.getElem_mem _)
      have HT := hideIt ht0
      have hnx := fun ty => run_next_ascii_at (P := Tryd.prog) wr w4.heap.size (kindT m) pos ty HIT.out hp (by have := hl; omega)
      clear ht0
      generalize ((kindT m)[pos]'hp).toNat = l at *
      have HFI := hideIt ((Fr.refl (fun k => k = w4.heap.size) wr).iterAt (k := w4.heap.size) (fun _ => rfl) (kindT m) (pos + 1))
      have HJ1 := hideIt (HJ.out.fr HFI.out hne)
      have HW1 := hideIt (HW.out.frS HFI.out (by omega) (fun k hk e => HP.out.2.1 (e ▸ hk)))
      have HIT1 := hideIt (iterAt_heap wr w4.heap.size (kindT m) pos (pos + 1) HIT.out)
      have HFR1 := hideIt (HFR.out.trans HFI.out (fun i hi e => by omega))
      have hpos0 := hideIt (iterPos_of HIT.out)
      generalize wr.iterAt w4.heap.size (kindT m) (pos + 1) = W1 at *
      have hblen : (UInt8.ofNat m :: encs ((ltrs m).take pos) ⟨m, a, b, c, n, s⟩).length + 84 ≤ 140737488355328 := by
        have h1 := encs_len ((ltrs m).take pos) ⟨m, a, b, c, n, s⟩ (fun l hl => ltrs_ok m hm l (List.mem_of_mem_take hl)) (fun l hl => HG.out.fit l (List.mem_of_mem_take hl))
        rw [List.length_take] at h1
        rw [List.length_cons]
        omega
      go_wp2_with fail
      refine Calls.mono (find_w w.heap.size l hl _) ?_
      rintro e w5 ⟨rfl, hF5⟩
      have HJ5 := hideIt (HJ1.out.fr hF5 (fun e => e))
      have HW5 := hideIt (HW1.out.fr0 hF5)
      have HIT5 := hideIt ((hF5.block w4.heap.size (Array.getElem?_eq_some_iff.1 HIT1.out).1 (fun e => e)).trans HIT1.out)
      have HFR5 := hideIt (HFR1.out.trans hF5 (fun _ _ e => e))
      clear hF5
      go_wp2_with fail
      refine Calls.mono (write_w w.heap.size l hl ⟨m, a, b, c, n, s⟩ (w1.heap.size + 1) w1.heap.size ao cap _ w5 HJ5.out hfit HW5.out hblen) ?_
      rintro e w6 ⟨rfl, hP6⟩
      rw [wL_fits l hl _ hfit] at hP6
      obtain ⟨ao6, cap6, hW6, hF6, hn6⟩ := hP6
      have HW6 := hideIt hW6
      have HF6 := hideIt hF6
      have HN6 := hideIt hn6
      have hz5 := HFR5.out.size
      clear hW6 hF6 hn6
      have hk5 : w4.heap.size < w5.heap.size := (Array.getElem?_eq_some_iff.1 HIT5.out).1
      have HIT6 := hideIt ((HF6.out.block w4.heap.size hk5 HP.out.2.1).trans HIT5.out)
      go_wp2_with fail
      go_roundw
      case measure =>
        rw [iterPos_of HIT6.out, hpos0.out]
        omega
      case rel =>
        refine ⟨pos + 1, ao6, cap6, HIT6, hideIt (HJ5.out.fr HF6.out HP.out.1), hideIt ?_, hideIt (HFR5.out.trans HF6.out (fun k hk e => by have := HP.out.2.2.1 k e; omega)), hideIt ⟨?_, ?_, ?_, ?_⟩⟩
        · have := HW6.out
          rw [HT.out, encs_snoc]
          exact this
        · exact wset_old (Nat.le_refl _) HJ5.out.lt HN6.out HP.out.1
        · exact wset_old (Nat.le_refl _) hk5 HN6.out HP.out.2.1
        · intro k hk
          rcases hk with e | e
          · exact HP.out.2.2.1 k (Or.inl e)
          · rcases HN6.out with h | h
            · exact HP.out.2.2.1 k (Or.inr (h ▸ e))
            · have := h k e; omega
        · rw [ltrs_length]; omega
    · have hnx := fun ty => run_next_end_at (P := Tryd.prog) wr w4.heap.size (kindT m) pos ty HIT.out hp
      have htk : (ltrs m).take pos = ltrs m := List.take_of_length_le (by rw [ltrs_length]; omega)
      obtain ⟨at_, ea, hWA⟩ := HW.out
      rw [htk] at hWA
      have hWA' : WAt wr (w1.heap.size + 1) w1.heap.size ao cap (UInt8.ofNat m :: encs (ltrs m) ⟨m, a, b, c, n, s⟩) at_ 0 ea := by simpa using hWA
      have HWA := hideIt hWA'
      clear hWA hWA' htk
      have hblen : (UInt8.ofNat m :: encs (ltrs m) ⟨m, a, b, c, n, s⟩).length ≤ 140737488355328 := by
        have h1 := encs_len (ltrs m) ⟨m, a, b, c, n, s⟩ (ltrs_ok m hm) HG.out.fit
        rw [List.length_cons]
        omega
      go_wp2_with fail
      refine Calls.mono (out_full (w1.heap.size + 1) w1.heap.size ao cap _ at_ ea wr HWA.out hblen) ?_
      rintro e w7 ⟨ao7, cap7, rfl, hfull, hF7, hn7⟩
      have HQ := hideIt (And.intro hfull (And.intro hF7 hn7))
      clear hfull hF7 hn7
      go_wp2_with fail
      go_ret2
      exact ⟨ao7, cap7, by rw [HE.out.1, HE.out.2]; rfl, by rw [HE.out.1]; exact HQ.out.1, HFR.out.trans HQ.out.2.1 (fun _ _ e => e), fun k hk => Nat.le_trans HFR.out.size (HQ.out.2.2 k hk)⟩

theorem bytes_any (i : Ins) (w : World) : Calls Tryd.prog 22 #[.agg (icells i)] w (BytesP i w) := by
  rcases checkE_or i with h | h
  · obtain ⟨m, hG⟩ := good_of i h
    exact bytes_good i m hG w
  · exact bytes_bad i h w

theorem size_any (i : Ins) (w : World) : Calls Tryd.prog 86 #[.agg (icells i)] w fun e w' => e = .returned (.int .i64 (codeI i).length) ∧ Fr (fun _ => False) w w' := by
  have HB := hideIt (bytes_any i)
  obtain ⟨op, a, b, c, n, s⟩ := i
  unfold icells
  go_enter Tryd.func86, Tryd.ntmps86
  go_wp2_with fail
  refine Calls.mono (HB.out _) ?_
  rintro e w1 ⟨ao, cap, rfl, _, hF, _⟩
  have HF := hideIt hF
  clear hF
  go_wp2_with fail
  go_ret
  exact ⟨rfl, ((Fr.refl _ _).alloc _).trans HF.out (fun _ _ e => e)⟩

end Go.Proofs.YtojgikaoiegmpaaDoor

/- Package prog: rows of instructions; passes, mayNot, beyond, walked. -/
namespace Go.Proofs.YtojgikaoiegmpaaDoor
open Go.RowKit Go.IntWalk
set_option linter.unusedSimpArgs false
set_option linter.unusedVariables false
set_option maxRecDepth 100000

theorem store_absG {P : Program} {ops : Array Oper} {rest : List Oper} {op : Oper} {a : Act} {w : World} {Q : Exit → Act → World → Prop} (hgd : op.guard = none) (ty : TypeId) (x y : Operand) (ho : op.op = .store ty x y)
    (b o : Nat) (cells : Array Value) (hx : a.eval x = .pointer (some ⟨b, o, none⟩)) (hy : a.eval y = .agg cells)
    (ht : w.there b o cells.size) (hi : (P.info? ty).map (·.size) = some cells.size) (h1 : cells.all (·.oneCell') = true)
    (h : ∀ W, W = w.setCells b o cells.toList → wpList P ops Q rest (a.put op.dst undef) W) : wpList P ops Q (op :: rest) a w :=
  wpList_store_mid hgd ty x y ho b o cells hx hy ht hi h1 (h _ rfl)

/-- A row of instructions, wherever it lies. -/
def InsRow (w : World) (ao : Option Addr) (l : List Ins) : Prop := l = [] ∨ ∃ b off, ao = some ⟨b, off, none⟩ ∧ b < w.heap.size ∧ ∀ j (h : j < l.length), w.rangeAt b (off + j * 6) (icells l[j]).toList
theorem InsRow.get {w : World} {ao : Option Addr} {l : List Ins} (h : InsRow w ao l) (j : Nat) (hj : j < l.length) : ∃ b off, ao = some ⟨b, off, none⟩ ∧ b < w.heap.size ∧ w.rangeAt b (off + j * 6) (icells l[j]).toList := by
  rcases h with rfl | ⟨b, off, e, hb, hc⟩
  · simp at hj
  · exact ⟨b, off, e, hb, hc j hj⟩
theorem InsRow.fr {S : Nat → Prop} {w w' : World} {ao : Option Addr} {l : List Ins} (h : InsRow w ao l) (hF : Fr S w w') (hS : ∀ k, k < w.heap.size → blk ao k → ¬ S k) : InsRow w' ao l := by
  rcases h with rfl | ⟨b, off, e, hb, hc⟩
  · exact Or.inl rfl
  · have := hF.size
    refine Or.inr ⟨b, off, e, by omega, fun j hj t v hv => ?_⟩
    exact (World.cell?_of_block (a := ⟨b, off + j * 6 + t, none⟩) (hF.block b hb (hS b hb ⟨_, e, rfl⟩))).trans (hc j hj t v hv)

theorem insSize6 : (Tryd.prog.info? 46).map (·.size) = some 6 := by kernel_rfl
theorem insSize (i : Ins) : (Tryd.prog.info? 46).map (·.size) = some (icells i).toList.length := insSize6
theorem insSizeA (i : Ins) : (Tryd.prog.info? 46).map (·.size) = some (icells i).size := insSize6

/-- How many instructions one may pass over. -/
def passI (i : Ins) : Int := if i.op = 12 ∨ i.op = 13 then i.n else 0
theorem gpasses_any (i : Ins) (w : World) : Calls Tryd.prog 56 #[.agg (icells i)] w fun e w' => e = .returned (.int .i64 (passI i)) ∧ Fr (fun _ => False) w w' := by
  have hI : InsAt (w.alloc (.cells (icells i) 46)) w.heap.size i := heap_alloc_new w _
  have c0 := hI.c0
  have c4 := hI.c4
  have HF := hideIt (show Fr (fun _ => False) w (w.alloc (.cells (icells i) 46)) from (Fr.refl _ w).alloc _)
  obtain ⟨op, a, b, c, n, s⟩ := i
  unfold icells at c0 c4 HF ⊢
  dsimp only at c0 c4 HF ⊢
  clear hI
  by_cases h1 : op = 12
  · subst h1
    have hp : passI ⟨12, a, b, c, n, s⟩ = n := by simp [passI]
    rw [hp]
    go_enter Tryd.func56, Tryd.ntmps56
    go_wp2_with fail
    go_ret
    exact ⟨rfl, HF.out⟩
  · by_cases h2 : op = 13
    · subst h2
      have hp : passI ⟨13, a, b, c, n, s⟩ = n := by simp [passI]
      rw [hp]
      go_enter Tryd.func56, Tryd.ntmps56
      go_wp2_with fail
      go_ret
      exact ⟨rfl, HF.out⟩
    · have hp : passI ⟨op, a, b, c, n, s⟩ = 0 := by simp [passI, h1, h2]
      rw [hp]
      have h1b : (op == 12) = false := by simpa using h1
      have h2b : (op == 13) = false := by simpa using h2
      go_enter Tryd.func56, Tryd.ntmps56
      go_wp2_with fail
      go_ret
      exact ⟨rfl, HF.out⟩

set_option maxRecDepth 100000 in
theorem gmaynot_any (i : Ins) (w : World) : Calls Tryd.prog 35 #[.agg (icells i)] w fun e w' => e = .returned (.bool (!(checkE i == 0))) ∧ Fr (fun _ => False) w w' := by
  have hF : Fr (fun _ => False) w (w.alloc (.cells (icells i) 46)) := (Fr.refl _ w).alloc _
  have HF := hideIt hF
  have HC := hideIt (fun w => check_any i w)
  have HR := hideIt (show (w.alloc (.cells (icells i) 46)).rangeAt w.heap.size 0 (icells i).toList from fun j v hv => by
    rw [Nat.zero_add, cell_of_row _ _ _ _ _ _ (heap_alloc_new w _)]
    simpa using hv)
  have HI := hideIt (show (Tryd.prog.info? 46).map (·.size) = some (icells i).toList.length by kernel_rfl)
  clear hF
  generalize checkE i = e0 at *
  generalize icells i = C at *
  go_enter Tryd.func35, Tryd.ntmps35
  go_wp2_with (first | (refine wpList_load_mid rfl 46 (.tmp 1) rfl w.heap.size 0 rfl C.toList _ HR.out Tryd.underlying46 rfl HI.out ?_))
  refine Calls.mono (HC.out _) ?_
  rintro e w1 ⟨rfl, hF1⟩
  have HF1 := hideIt (HF.out.trans hF1 (fun _ _ e => e))
  clear hF1
  go_wp2_with fail
  go_ret
  exact ⟨rfl, HF1.out⟩

/-- The first place at which something holds, or -1. -/
def FirstP (p : Nat → Prop) (n : Nat) (w : World) (e : Ending) (w' : World) : Prop := Fr (fun _ => False) w w' ∧ ((∃ j, j < n ∧ e = .returned (.int .i64 (j : Int)) ∧ p j ∧ ∀ t, t < j → ¬ p t) ∨ (e = .returned (.int .i64 (-1)) ∧ ∀ t, t < n → ¬ p t))

/-- It passes over more than stand behind it. -/
def beyB (l : List Ins) (j : Nat) : Prop := ∃ h : j < l.length, (l.length : Int) - 1 - j < passI l[j]
/-- It may not be. -/
def badB (l : List Ins) (j : Nat) : Prop := ∃ h : j < l.length, ¬ checkE l[j] = 0

set_option maxRecDepth 100000 in
set_option maxHeartbeats 2000000 in
theorem gidx_any (ao : Option Addr) (cap : Nat) (l : List Ins) (hl : l.length ≤ 1000) (w : World) (hB : InsRow w ao l) : Calls Tryd.prog 34 #[.slice ao l.length cap, .func (.func 35) #[] #[]] w (FirstP (badB l) l.length w) := by
  have HB := hideIt (fun W (hF : Fr (fun _ => False) w W) => hB.fr hF (fun _ _ _ e => e))
  have HI := hideIt insSize
  clear hB
  go_enter Tryd.func34, Tryd.ntmps34
  go_wp2_with fail
  go_loopw [8] (fun s8 wr => ∃ j : Nat, s8 = .int .i64 j ∧ j ≤ l.length ∧ Hid (∀ t, t < j → ¬ badB l t) ∧ Hid (Fr (fun _ => False) w wr)) (fun s8 _ => l.length - (intOf s8).toNat)
  case atStart => exact ⟨0, rfl, by omega, hideIt (fun t h => by omega), hideIt (Fr.refl _ _)⟩
  case round =>
    obtain ⟨j, rfl, hj, HN, HF⟩ := hrel
    by_cases hlt : j < l.length
    · have h1 : (j : Int) < (l.length : Int) := by omega
      obtain ⟨b, off, rfl, hb, hR⟩ := (HB.out wr HF.out).get j hlt
      have HR := hideIt hR
      have HIJ := hideIt (HI.out l[j])
      have HM := hideIt (gmaynot_any l[j] wr)
      have HBD := hideIt (show badB l j ↔ ¬ checkE l[j] = 0 from ⟨fun ⟨_, h⟩ => h, fun h => ⟨hlt, h⟩⟩)
      clear hR
      generalize checkE l[j] = e0 at *
      generalize icells l[j] = C at *
      go_wp2_with (first | (refine wpList_load_mid rfl 46 (.tmp 14) rfl b (off + j * 6) rfl C.toList _ HR.out Tryd.underlying46 rfl HIJ.out ?_))
      refine Calls.mono HM.out ?_
      rintro e w1 ⟨rfl, hF1⟩
      have HF1 := hideIt (HF.out.trans hF1 (fun _ _ e => e))
      clear hF1 HF HM HR
      by_cases he : e0 = 0
      · have hN2 := hideIt (show ∀ t, t < j + 1 → ¬ badB l t from fun t ht => by
          by_cases e : t = j
          · subst e; exact fun h => HBD.out.1 h he
          · exact HN.out t (by omega))
        subst he
        go_wp2_with fail
        go_roundw
        case measure => simp [intOf]; omega
        case rel => exact ⟨j + 1, by go_num, by omega, hN2, HF1⟩
      · have hb2 : badB l j := HBD.out.2 he
        have HB2 := hideIt hb2
        have he2 : (e0 == 0) = false := by simpa using he
        clear HBD hb2
        go_wp2_with fail
        go_ret
        exact ⟨HF1.out, Or.inl ⟨j, hlt, rfl, HB2.out, HN.out⟩⟩
    · have hje : j = l.length := by omega
      have hjn : ¬ (j : Int) < (l.length : Int) := by omega
      go_wp2_with fail
      go_ret
      exact ⟨HF.out, Or.inr ⟨rfl, fun t ht => HN.out t (by omega)⟩⟩

set_option maxRecDepth 100000 in
set_option maxHeartbeats 2000000 in
theorem gbeyond_any (ao : Option Addr) (cap : Nat) (l : List Ins) (hl : l.length ≤ 1000) (w : World) (hB : InsRow w ao l) : Calls Tryd.prog 29 #[.slice ao l.length cap] w (FirstP (beyB l) l.length w) := by
  have HB := hideIt (fun W (hF : Fr (fun _ => False) w W) => hB.fr hF (fun _ _ _ e => e))
  have HI := hideIt insSize
  have HIA := hideIt insSizeA
  clear hB
  go_enter Tryd.func29, Tryd.ntmps29
  go_wp2_with fail
  go_loopw [7] (fun s7 wr => ∃ j : Nat, s7 = .int .i64 j ∧ j ≤ l.length ∧ Hid (∀ t, t < j → ¬ beyB l t) ∧ Hid (Fr (fun _ => False) w wr)) (fun s7 _ => l.length - (intOf s7).toNat)
  case atStart => exact ⟨0, rfl, by omega, hideIt (fun t h => by omega), hideIt (Fr.refl _ _)⟩
  case round =>
    obtain ⟨j, rfl, hj, HN, HF⟩ := hrel
    by_cases hlt : j < l.length
    · have h1 : (j : Int) < (l.length : Int) := by omega
      obtain ⟨b, off, rfl, hb, hR⟩ := (HB.out wr HF.out).get j hlt
      have HR := hideIt hR
      obtain ⟨q, hq⟩ : ∃ q, wr.heap.size = q := ⟨_, rfl⟩
      have hZ : (wr.alloc (.cells #[.int .i64 0, .int .i64 0, .int .i64 0, .int .i64 0, .int .i64 0, .string ⟨#[]⟩] 46)).heap[q]? = some (.cells #[.int .i64 0, .int .i64 0, .int .i64 0, .int .i64 0, .int .i64 0, .string ⟨#[]⟩] 46) := by rw [← hq]; exact heap_alloc_new wr _
      have HT := hideIt (there_row hZ (icells l[j]).size (show 6 ≤ 6 from Nat.le_refl _))
      have HO := hideIt (icells_one l[j])
      have HIJ := hideIt (HI.out l[j])
      have HIK := hideIt (HIA.out l[j])
      have HW := hideIt (fun W (h : W = (wr.alloc (.cells #[.int .i64 0, .int .i64 0, .int .i64 0, .int .i64 0, .int .i64 0, .string ⟨#[]⟩] 46)).setCells q 0 (icells l[j]).toList) => show W.rangeAt q 0 (icells l[j]).toList ∧ Fr (fun _ => False) wr W by
        subst h
        have hS := store_over (V := icells l[j]) hZ rfl
        refine ⟨fun t v hv => ?_, ((Fr.refl (fun _ => False) wr).alloc _).trans hS.2 (fun i hi e => by omega)⟩
        rw [Nat.zero_add, cell_of_row _ _ _ _ _ _ hS.1]
        simpa using hv)
      have HM := hideIt (fun w => gpasses_any l[j] w)
      have HBD := hideIt (show beyB l j ↔ (l.length : Int) - 1 - j < passI l[j] from ⟨fun ⟨_, h⟩ => h, fun h => ⟨hlt, h⟩⟩)
      have HQ := hideIt hq
      clear hR hZ
      generalize passI l[j] = e0 at *
      generalize icells l[j] = C at *
      have w1 : IntKind.i64.wrap ((l.length : Int) - 1) = (l.length : Int) - 1 := by rw [IntKind.wrap_i64]; omega
      have w2 : IntKind.i64.wrap ((l.length : Int) - 1 - (j : Int)) = (l.length : Int) - 1 - (j : Int) := by rw [IntKind.wrap_i64]; omega
      go_wp2_with (first | (refine wpList_load_mid rfl 46 (.tmp 10) rfl b (off + j * 6) rfl C.toList _ HR.out Tryd.underlying46 rfl HIJ.out ?_) | (refine store_absG rfl 46 (.tmp 4) (.tmp 11) rfl q 0 C rfl rfl HT.out HIK.out HO.out ?_; intro W2 hW2; obtain ⟨hR2, hF2⟩ := HW.out W2 hW2; have HR2 := hideIt hR2; have HF2 := hideIt (HF.out.trans hF2 (fun _ _ e => e)); clear hW2 HW HT hR2 hF2) | (refine wpList_load_mid rfl 46 (.tmp 4) rfl q 0 rfl C.toList _ HR2.out Tryd.underlying46 rfl HIJ.out ?_))
      refine Calls.mono (HM.out _) ?_
      rintro e w1 ⟨rfl, hF1⟩
      have HF1 := hideIt (HF2.out.trans hF1 (fun _ _ e => e))
      clear hF1 HF HM HR HR2 HF2 hq
      by_cases he : (l.length : Int) - 1 - j < e0
      · have HB2 := hideIt (HBD.out.2 he)
        clear HBD
        go_wp2_with fail
        go_ret
        exact ⟨HF1.out, Or.inl ⟨j, hlt, rfl, HB2.out, HN.out⟩⟩
      · have hN2 := hideIt (show ∀ t, t < j + 1 → ¬ beyB l t from fun t ht => by
          by_cases e : t = j
          · subst e; exact fun h => he (HBD.out.1 h)
          · exact HN.out t (by omega))
        have he2 : e0 ≤ (l.length : Int) - 1 - j := by omega
        clear HBD
        go_wp2_with fail
        go_roundw
        case measure => simp [intOf]; omega
        case rel => exact ⟨j + 1, by go_num, by omega, hN2, HF1⟩
    · have hje : j = l.length := by omega
      have hjn : ¬ (j : Int) < (l.length : Int) := by omega
      go_wp2_with fail
      go_ret
      exact ⟨HF.out, Or.inr ⟨rfl, fun t ht => HN.out t (by omega)⟩⟩

end Go.Proofs.YtojgikaoiegmpaaDoor

/- Code: Read; what the chapter's examples say (is, fails). -/
namespace Go.Proofs.YtojgikaoiegmpaaDoor
open Go.RowKit Go.IntWalk Go.Lib
set_option linter.unusedSimpArgs false
set_option linter.unusedVariables false
set_option maxRecDepth 100000

theorem read_any (ao : Option Addr) (cap : Nat) (bs : List UInt8) (at_ : Int) (w : World) (h : BsAt w ao bs) (hcap0 : ao = none → cap = 0) (hcl : bs.length ≤ cap) (hb : bs.length ≤ 140737488355328) :
    Calls Tryd.prog 55 #[.slice ao bs.length cap, .int .i64 at_] w fun e w' => e = .returned (readV (readR bs at_)) ∧ Fr (fun _ => False) w w' := by
  by_cases hx : at_ < 0 ∨ (bs.length : Int) < at_
  · exact read_out ao cap bs at_ w hx
  · obtain ⟨a, rfl⟩ : ∃ a : Nat, at_ = a := ⟨at_.toNat, by omega⟩
    have hale : a ≤ bs.length := by omega
    by_cases h1 : cap = a
    · exact read_in1 ao cap bs a w h hcap0 hcl hb hale h1
    by_cases h2 : (bs.length : Int) ≤ (a : Int) + 67
    · exact read_in2 ao cap bs a w h hcap0 hcl hb hale h1 h2
    · exact read_in3 ao cap bs a w h hcap0 hcl hb hale h1 (by omega)

theorem bs_new (u : World) (bs : List UInt8) (C : Array Value) (hC : (bv bs).toArray = C) (hl : bs.length ≤ 100) : BsAt (u.alloc (.cells C 5)) (some ⟨u.heap.size, 0, none⟩) bs := by
  subst hC
  refine Full.bs (cap := bs.length) (Or.inr ⟨u.heap.size, [], rfl, by rw [List.append_nil]; exact heap_new rfl, by simp, ?_⟩)
  unfold maxLen
  omega

theorem zI : icells zeroI = #[.int .i64 0, .int .i64 0, .int .i64 0, .int .i64 0, .int .i64 0, .string ⟨#[]⟩] := rfl

theorem read_new (bs : List UInt8) (C : Array Value) (n : Nat) (at_ : Int) (v : Value) (hC : (bv bs).toArray = C) (hn : bs.length = n) (hr : readV (readR bs at_) = v) (hl : n ≤ 100) (u : World) (k : Nat) (hk : k = u.heap.size) :
    Calls Tryd.prog 55 #[.slice (some ⟨k, 0, none⟩) n n, .int .i64 at_] (u.alloc (.cells C 5)) fun e w' => e = .returned v ∧ Fr (fun _ => False) (u.alloc (.cells C 5)) w' := by
  subst hn hr hk
  exact read_any (some ⟨u.heap.size, 0, none⟩) bs.length bs at_ _ (bs_new u bs C hC hl) (fun e => by cases e) (Nat.le_refl _) (by omega)

end Go.Proofs.YtojgikaoiegmpaaDoor

/- Code: awake, CodeKnown. -/
namespace Go.Proofs.YtojgikaoiegmpaaDoor
open Go.RowKit Go.IntWalk Go.Lib
set_option linter.unusedSimpArgs false
set_option linter.unusedVariables false
set_option maxRecDepth 100000

theorem ex1 : readR [9, 2, 1, 2] 1 = (⟨2, 1, 2, 0, 0, ⟨#[]⟩⟩, 4, 0, 0) := by kernel_rfl
theorem ex2 : readR [2, 8] 0 = (zeroI, 0, 5, 1) := by kernel_rfl
theorem ex3 : readR [16] 0 = (zeroI, 0, 5, 0) := by kernel_rfl
theorem ex4 : readR [2, 1] 0 = (zeroI, 0, 4, 2) := by kernel_rfl
theorem ex5 : readR [15] 2 = (zeroI, 0, 5, 0) := by kernel_rfl
theorem cx1 : codeL ⟨1, 1, 0, 0, 0, ⟨#[97, 98]⟩⟩ = [1, 1, 2, 97, 98] := by kernel_rfl
theorem cx2 : codeL ⟨6, 0, 1, 2, 16, ⟨#[]⟩⟩ = [6, 0, 1, 2, 16] := by kernel_rfl
theorem gx1 : Good ⟨1, 1, 0, 0, 0, ⟨#[97, 98]⟩⟩ 1 := ⟨rfl, by decide, by decide, by decide, ⟨1, 0, 0, 0, 0, ⟨#[]⟩⟩, by kernel_rfl, rfl, rfl, rfl, rfl, rfl⟩
theorem gx2 : Good ⟨15, 0, 0, 0, 0, ⟨#[]⟩⟩ 15 := ⟨rfl, by decide, by decide, by decide, ⟨15, 0, 0, 0, 0, ⟨#[]⟩⟩, by kernel_rfl, rfl, rfl, rfl, rfl, rfl⟩
theorem gx3 : Good ⟨6, 0, 1, 2, 16, ⟨#[]⟩⟩ 6 := ⟨rfl, by decide, by decide, by decide, ⟨6, 0, 0, 0, 0, ⟨#[]⟩⟩, by kernel_rfl, rfl, rfl, rfl, rfl, rfl⟩
theorem gx4 : Good ⟨13, 0, 0, 0, 60, ⟨#[]⟩⟩ 13 := ⟨rfl, by decide, by decide, by decide, ⟨13, 0, 0, 0, 0, ⟨#[]⟩⟩, by kernel_rfl, rfl, rfl, rfl, rfl, rfl⟩
theorem gx5 : Good ⟨2, 1, 2, 0, 0, ⟨#[]⟩⟩ 2 := ⟨rfl, by decide, by decide, by decide, ⟨2, 0, 0, 0, 0, ⟨#[]⟩⟩, by kernel_rfl, rfl, rfl, rfl, rfl, rfl⟩
theorem kx1 : checkE ⟨15, 1, 0, 0, 0, ⟨#[]⟩⟩ = 2 := checkE_left _ ⟨15, 1, 0, 0, 0, ⟨#[]⟩⟩ (by kernel_rfl) (fun e => by have := e.1; simp at this)
theorem kx2 : checkE ⟨1, 8, 0, 0, 0, ⟨#[]⟩⟩ = 2 := checkE_none _ (by kernel_rfl)
theorem kx3 : checkE ⟨6, 0, 0, 0, 17, ⟨#[]⟩⟩ = 2 := checkE_none _ (by kernel_rfl)
theorem kx4 : checkE ⟨0, 0, 0, 0, 0, ⟨#[]⟩⟩ = 2 := checkE_out _ (fun e => by have := e.1; simp at this)

end Go.Proofs.YtojgikaoiegmpaaDoor

/- Code: Pick; a copy of bytes. -/
namespace Go.Proofs.YtojgikaoiegmpaaDoor
open Go.RowKit Go.IntWalk Go.Lib
set_option linter.unusedSimpArgs false
set_option linter.unusedVariables false
set_option maxRecDepth 100000

theorem pick_any (x : Int) (n : Nat) (hn : 1 ≤ n) (hb : n ≤ 1000000) (w : World) : Calls Tryd.prog 12 #[.int .i64 x, .int .i64 n] w fun e w' => (∃ r : Nat, e = .returned (.int .i64 r) ∧ r < n) ∧ w' = w := by
  have hn0 : ((n : Int) == 0) = false := by simp; omega
  have hn1 : ¬ (n : Int) < 1 := by omega
  have h1 := Int.tmod_lt_of_pos x (show (0 : Int) < n by omega)
  have h2 := Int.lt_tmod_of_pos x (show (0 : Int) < n by omega)
  go_enter Tryd.func12, Tryd.ntmps12
  go_wp2
  all_goals
    go_ret
    first | exact ⟨⟨(x.tmod n + n).toNat, by rw [Int.toNat_of_nonneg (by omega)]; rfl, by omega⟩, rfl⟩ | exact ⟨⟨(x.tmod n).toNat, by rw [Int.toNat_of_nonneg (by omega)]; rfl, by omega⟩, rfl⟩

theorem copyb_any (ao : Option Addr) (cap : Nat) (bs : List UInt8) (w : World) (h : BsAt w ao bs) (hb : bs.length ≤ 140737488355328) :
    Calls Tryd.prog 13 #[.slice ao bs.length cap] w fun e w' => ∃ ao' cap', e = .returned (.slice ao' bs.length cap') ∧ Row w' 5 ao' cap' bs ∧ Fr (fun _ => False) w w' ∧ ∀ k, blk ao' k → w.heap.size ≤ k := by
  have h1 : BsAt (w.alloc (.cells #[] 5)) ao bs := h.fr ((Fr.refl (fun _ => False) w).alloc _) (fun _ _ _ e => e)
  obtain ⟨ao', cap', w1, hrun, hrow, hf, hao⟩ := app_row (w.alloc (.cells #[] 5)) 23 (some ⟨w.heap.size, 0, none⟩) 0 [] bs (World.ownsRow_made w #[] 0 (Nat.zero_le _) (by decide) rfl) _ (h1.src cap) (by simpa using hb)
  have HR := hideIt hrun
  clear hrun
  go_enter Tryd.func13, Tryd.ntmps13
  go_wp2_with (first | (at_builtin; refine wpList_append_run _ rfl (.tmp 3) (.tmp 4) 23 23 rfl _ _ _ _ rfl rfl HR.out ?_))
  go_ret
  refine ⟨ao', cap', rfl, hrow, (((Fr.refl (fun _ => False) w).alloc _).trans (hf.mono (S' := fun k => k = w.heap.size) ?_) ?_), ?_⟩
  · rintro k ⟨x, e1, e2⟩
    obtain rfl := Option.some.inj e1
    exact e2.symm
  · intro i hi e
    omega
  · rintro k ⟨x, e1, e2⟩
    rcases hao with rfl | rfl
    · obtain rfl := Option.some.inj e1
      simp only at e2
      omega
    · obtain rfl := Option.some.inj e1
      simp at e2
      omega

end Go.Proofs.YtojgikaoiegmpaaDoor
