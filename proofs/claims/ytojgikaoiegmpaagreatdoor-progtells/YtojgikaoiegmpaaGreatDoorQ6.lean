/- ProgTells, part 6 of the road: what the program's functions do, each by its own walk. -/
import Derived.Test.YtojgikaoiegmpaaGreatDoorQ4
import Derived.Test.YtojgikaoiegmpaaGreatDoorQ5
import Derived.Test.YtojgikaoiegmpaaGreatDoorQ3
import Derived.Test.YtojgikaoiegmpaaGreatDoorQ2
import Derived.Deep.MidRow
import Derived.Deep.Upon
import Derived.Deep.QuietTactic
import Derived.BigQuiet
import Derived.Deep.RegionWith
import Derived.Deep.RegionHeld2
import Derived.Deep.RegionHeld3
import Derived.Laws.Pointers
import Derived.Stop.BytesEq

/- Memory, for package hash: rows that are read and written as a whole, bytes, equality of names. -/
namespace Go.Proofs.YtojgikaoiegmpaaGreatDoor
open Go.RowKit Go.IntWalk
set_option linter.unusedSimpArgs false
set_option linter.unusedVariables false
set_option maxRecDepth 100000

/-- Thirty-two noughts. -/
def zeros32 : List UInt8 := List.replicate 32 0

def zA : Array Value := #[.int .u8 0, .int .u8 0, .int .u8 0, .int .u8 0, .int .u8 0, .int .u8 0, .int .u8 0, .int .u8 0, .int .u8 0, .int .u8 0, .int .u8 0, .int .u8 0, .int .u8 0, .int .u8 0, .int .u8 0, .int .u8 0, .int .u8 0, .int .u8 0, .int .u8 0, .int .u8 0, .int .u8 0, .int .u8 0, .int .u8 0, .int .u8 0, .int .u8 0, .int .u8 0, .int .u8 0, .int .u8 0, .int .u8 0, .int .u8 0, .int .u8 0, .int .u8 0]

theorem thereNew (w : World) (b : Nat) (A : Array Value) (t : TypeId) (h : w.heap[b]? = some (.cells A t (0, 0))) (n : Nat) (hn : n = A.size) : w.there b 0 n := by
  subst hn
  intro j hj
  rw [Nat.zero_add, cell_of_row w b j _ _ _ h, frozen_of_row w b j _ _ h]
  simp [hj]

/-- A store of many cells, the world behind it a name. -/
theorem wpList_store_abs {P : Program} {ops : Array Oper} {rest : List Oper} {op : Oper} {a : Act} {w : World} {Q : Exit → Act → World → Prop} (hgd : op.guard = none) (ty : TypeId) (x y : Operand) (ho : op.op = .store ty x y)
    (b o : Nat) (cells : Array Value) (hx : a.eval x = .pointer (some ⟨b, o, none⟩)) (hy : a.eval y = .agg cells)
    (ht : w.there b o cells.size) (hi : (P.info? ty).map (·.size) = some cells.size) (h1 : cells.all (·.oneCell') = true)
    (h : ∀ W, W = w.setCells b o cells.toList → wpList P ops Q rest (a.put op.dst undef) W) : wpList P ops Q (op :: rest) a w :=
  wpList_store_mid hgd ty x y ho b o cells hx hy ht hi h1 (h _ rfl)

theorem rangeOf {w : World} {b : Nat} {A : Array Value} {t : TypeId} (h : w.heap[b]? = some (.cells A t (0, 0))) : w.rangeAt b 0 A.toList := fun j v hv => by
  rw [Nat.zero_add, cell_of_row w b j _ _ _ h, ← hv]
  simp

theorem wpList_build_eq {P : Program} {ops : Array Oper} {rest : List Oper} {o : Oper} {a : Act} {w : World} {Q : Exit → Act → World → Prop} (hg : o.guard = none) (t : TypeId) (parts : Array (Nat × Operand)) (ho : o.op = .build t parts)
    (vs : List (Nat × Value)) (hvs : (parts.map fun (i, x) => (i, a.eval x)).toList = vs) (cells : Array Value) (hb : P.built t vs = some cells)
    (h : wpList P ops Q rest (a.put o.dst (.agg cells)) w) : wpList P ops Q (o :: rest) a w := by
  refine wpList_build hg t parts ho (by rw [hvs, hb]; rfl) ?_
  rw [hvs, hb]
  exact h

section
variable {P : Program} {ops : Array Oper} {rest : List Oper} {o : Oper} {a : Act} {w : World} {Q : Exit → Act → World → Prop}
theorem yields_load_mid (ty : TypeId) (x : Operand) (ho : o.op = .load ty x) (b off : Nat) (hx : a.eval x = .pointer (some ⟨b, off, none⟩)) (cs : List Value) (d : TypeDesc) (hc : w.rangeAt b off cs)
    (hu : P.underlying ty = some d) (hd : d.isRow = true) (hi : (P.info? ty).map (·.size) = some cs.length) : (execOp a.eval o).run P w = .ok (.value (.agg cs.toArray)) w := by
  unfold execOp
  simp only [ho, hx, Instr.loadAt, Instr.sureAddr, Sem.run_bind, Sem.run_pure, Result.andThen_ok, run_loadVar_mid w b off ty cs d hc hu hd hi]
theorem yields_bin (op : BinOp) (t t' : TypeId) (x y : Operand) (ho : o.op = .binOp op t x y t') (v1 v2 v : Value) (hx : a.eval x = v1) (hy : a.eval y = v2)
    (hrun : (binOp op t v1 v2).run P w = .ok v w) (hg : (eqGuard op t x y v1 v2).run P w = .ok () w) : (execOp a.eval o).run P w = .ok (.value v) w := by
  unfold execOp
  simp only [ho, hx, hy, Sem.run_bind, hg, hrun, Result.andThen_ok, Sem.run_pure]
theorem wpList_load_want (hw : Region.wanted o (yielded ops a.tmps) = true) (ty : TypeId) (x : Operand) (ho : o.op = .load ty x)
    (b off : Nat) (hx : a.eval x = .pointer (some ⟨b, off, none⟩)) (cs : List Value) (d : TypeDesc) (hc : w.rangeAt b off cs)
    (hu : P.underlying ty = some d) (hd : d.isRow = true) (hi : (P.info? ty).map (·.size) = some cs.length)
    (h : wpList P ops Q rest (a.put o.dst (.agg cs.toArray)) w) : wpList P ops Q (o :: rest) a w :=
  BigFrame.wpList_want hw fun _ hK => wp_load_mid ty x ho b off hx cs d hc hu hd hi (hK _ _ h)
theorem wpList_build_want (hw : Region.wanted o (yielded ops a.tmps) = true) (t : TypeId) (ho : o.op = .build t #[]) (cells : Array Value) (hb : P.built t [] = some cells)
    (h : wpList P ops Q rest (a.put o.dst (.agg cells)) w) : wpList P ops Q (o :: rest) a w := by
  have e : ((#[] : Array (Nat × Operand)).map fun (i, x) => (i, a.eval x)).toList = [] := by simp
  refine BigFrame.wpList_want hw fun _ hK => wp_build t #[] ho (by rw [e, hb]; rfl) (hK _ _ ?_)
  rw [e, hb]
  exact h
theorem wpList_bin_want (hw : Region.wanted o (yielded ops a.tmps) = true) (op : BinOp) (t t' : TypeId) (x y : Operand) (ho : o.op = .binOp op t x y t') (v1 v2 v : Value) (hx : a.eval x = v1) (hy : a.eval y = v2)
    (hrun : (binOp op t v1 v2).run P w = .ok v w) (hg : (eqGuard op t x y v1 v2).run P w = .ok () w)
    (h : wpList P ops Q rest (a.put o.dst v) w) : wpList P ops Q (o :: rest) a w := by
  refine BigFrame.wpList_want hw fun _ hK => ?_
  unfold Oper.wp execOp
  simp only [ho, hx, hy, Sem.run_bind, hg, hrun, Result.andThen_ok, Sem.run_pure]
  exact hK _ _ h
end

theorem ids_eq (w : World) (a b : List UInt8) (ha : a.length = 32) (hb : b.length = 32) : (Op.equalIn 10000 33 (.agg (bv a).toArray) (.agg (bv b).toArray)).run Tryz.prog w = .ok (a == b) w :=
  run_equalIn_bytes w 9998 33 5 32 Tryz.underlying33 Tryz.underlying5 (fun _ => by kernel_rfl) a b ha hb
theorem ids_neq (w : World) (a b : List UInt8) (ha : a.length = 32) (hb : b.length = 32) : (binOp .neq 33 (.agg (bv a).toArray) (.agg (bv b).toArray)).run Tryz.prog w = .ok (.bool (!(a == b))) w := by
  rw [run_neq_struct, ids_eq w a b ha hb]
  rfl
theorem ids_eql (w : World) (a b : List UInt8) (ha : a.length = 32) (hb : b.length = 32) : (binOp .eql 33 (.agg (bv a).toArray) (.agg (bv b).toArray)).run Tryz.prog w = .ok (.bool (a == b)) w := by
  rw [run_eql_struct, ids_eq w a b ha hb]
  rfl
theorem ids_grd (w : World) (op : BinOp) (x y : Operand) (a b : List UInt8) : (eqGuard op 33 x y (.agg (bv a).toArray) (.agg (bv b).toArray)).run Tryz.prog w = .ok () w := run_eqGuard_agg w op 33 x y _ _ (by kernel_rfl)

end Go.Proofs.YtojgikaoiegmpaaGreatDoor

/- The document's own writer (retconref01.Writer). -/
namespace Go.Proofs.YtojgikaoiegmpaaGreatDoor
open Go.RowKit Go.IntWalk
set_option linter.unusedSimpArgs false
set_option linter.unusedVariables false
set_option maxRecDepth 100000

/-- The document's writer in memory: its bytes, in a row of its own, and whether a number below 0 was to be written. -/
structure XWAt (w : World) (p : Nat) (ao : Option Addr) (cap : Nat) (bs : List UInt8) (bad : Bool) : Prop where
  box : w.heap[p]? = some (.cells #[.slice ao bs.length cap, .bool bad] 84 (0, 0))
  row : Row w 5 ao cap bs
  apart : ¬ blk ao p

section
variable {w w' : World} {p : Nat} {ao : Option Addr} {cap : Nat} {bs : List UInt8} {bad : Bool}
theorem XWAt.lt (h : XWAt w p ao cap bs bad) : p < w.heap.size := (Array.getElem?_eq_some_iff.1 h.box).1
theorem XWAt.c0 (h : XWAt w p ao cap bs bad) : w.cell? ⟨p, 0, none⟩ = some (.slice ao bs.length cap) := cellOfHeap h.box 0 rfl
theorem XWAt.c1 (h : XWAt w p ao cap bs bad) : w.cell? ⟨p, 1, none⟩ = some (.bool bad) := cellOfHeap h.box 1 rfl
theorem XWAt.fr {S : Nat → Prop} (h : XWAt w p ao cap bs bad) (hf : Fr S w w') (hp : ¬ S p) (hS : ∀ k, blk ao k → ¬ S k) : XWAt w' p ao cap bs bad :=
  ⟨(hf.block p h.lt hp).trans h.box, h.row.keep fun k hk hb => hf.block k hk (hS k hb), h.apart⟩
end
/-- What the document's writer is behind a call: the same one, its row the same or a new one. -/
def XPost (w : World) (p : Nat) (ao : Option Addr) (bs : List UInt8) (bad : Bool) (w' : World) : Prop :=
  ∃ ao' cap', XWAt w' p ao' cap' bs bad ∧ Fr (fun k => k = p ∨ blk ao k) w w' ∧ (ao' = ao ∨ ∀ k, blk ao' k → w.heap.size ≤ k)

/-- A new slice and a new flag are laid into the writer. -/
theorem XWAt.laid {w w1 : World} {p : Nat} {ao ao1 : Option Addr} {cap cap1 : Nat} {bs cs : List UInt8} {bad b1 : Bool} (h : XWAt w p ao cap bs bad) (hF : Fr (fun k => k = p ∨ blk ao k) w w1) (hb : w1.heap[p]? = some (.cells #[.slice ao bs.length cap, .bool b1] 84 (0, 0)))
    (hrow : Row w1 5 ao1 cap1 cs) (hao : ao1 = ao ∨ ∀ k, blk ao1 k → w.heap.size ≤ k) : XPost w p ao cs b1 (w1.setCell ⟨p, 0, none⟩ (.slice ao1 cs.length cap1)) := by
  have hap : ¬ blk ao1 p := by
    rcases hao with rfl | hn
    · exact h.apart
    · intro e
      have := hn p e
      have := h.lt
      omega
  have hF1 : Fr (fun k => k = p) w1 (w1.setCell ⟨p, 0, none⟩ (.slice ao1 cs.length cap1)) := (Fr.refl (fun k => k = p) w1).setCell (p := ⟨p, 0, none⟩) (fun _ => rfl) _
  refine ⟨ao1, cap1, ⟨?_, hrow.keep fun k hk hb1 => hF1.block k hk (fun e => hap (by subst e; exact hb1)), hap⟩, hF.trans hF1 (fun _ _ e => Or.inl e), hao⟩
  rw [heap_setCell_same w1 p 0 _ _ _ hb]
  rfl

/-- Sevens, of any number. -/
theorem sevens_any (n : Int) (hn : n ≤ 9223372036854775807) (w : World) : Calls Tryz.prog 32 #[.int .i64 n] w fun e w' => ∃ ao cap xs, xs = (if n < 0 then [] else sevens n.toNat) ∧ e = .returned (.slice ao xs.length cap) ∧ BsAt w' ao xs ∧ Fr (fun _ => False) w w' := by
  by_cases h : n < 0
  · refine (sevens_neg n w h).mono ?_
    rintro e w' ⟨rfl, rfl⟩
    exact ⟨none, 0, [], by rw [if_pos h], rfl, Or.inl ⟨rfl, rfl⟩, Fr.refl _ _⟩
  · obtain ⟨m, rfl⟩ := Int.eq_ofNat_of_zero_le (Int.not_lt.1 h)
    refine (sevens_nat m (by omega) w).mono ?_
    rintro e w' ⟨ao, cap, rfl, hr, hF, _⟩
    exact ⟨ao, cap, sevens m, by rw [if_neg h, Int.toNat_natCast], rfl, hr.bs, hF⟩

set_option maxRecDepth 100000 in
set_option maxHeartbeats 1000000 in
theorem xint_any (p : Nat) (ao : Option Addr) (cap : Nat) (bs xs : List UInt8) (bad : Bool) (n : Int) (w : World) (h : XWAt w p ao cap bs bad) (hn : n ≤ 9223372036854775807) (hxs : xs = (if n < 0 then [] else sevens n.toNat)) (hlen : bs.length + xs.length ≤ 140737488355328) :
    Calls Tryz.prog 52 #[.pointer (some ⟨p, 0, none⟩), .int .i64 n] w fun e w' => e = .returned (.tuple #[]) ∧ XPost w p ao (bs ++ xs) (bad || decide (n < 0)) w' := by
  have HXS := hideIt hxs
  have c0' := h.c0
  have c1 := h.c1
  have hz := frozen_of_row w p 1 _ _ h.box
  have hpl0 := h.lt
  have hap : ¬ blk ao p := h.apart
  have hbx : ∀ b1 : Bool, (w.setCell ⟨p, 1, none⟩ (.bool b1)).heap[p]? = some (.cells #[.slice ao bs.length cap, .bool b1] 84 (0, 0)) := fun b1 => by rw [heap_setCell_same w p 1 _ _ _ h.box]; rfl
  have hf0 : ∀ b1 : Bool, Fr (fun k => k = p ∨ blk ao k) w (w.setCell ⟨p, 1, none⟩ (.bool b1)) := fun b1 => (Fr.refl (fun k => k = p ∨ blk ao k) w).setCell (p := ⟨p, 1, none⟩) (fun _ => Or.inl rfl) _
  have hx1 : ∀ b1 : Bool, Row (w.setCell ⟨p, 1, none⟩ (.bool b1)) 5 ao cap bs := fun b1 => h.row.keep fun k hk hb => by
    have hne : k ≠ p := fun e => hap (by subst e; exact hb)
    exact heap_setCell_other _ _ _ _ hne
  clear hxs
  cases bad with
  | true =>
    have HBX := hideIt (hbx true)
    have HF0 := hideIt (hf0 true)
    have HX1 := hideIt (hx1 true)
    have hpl : p < (w.setCell ⟨p, 1, none⟩ (.bool true)).heap.size := by simpa using hpl0
    have c0 : (w.setCell ⟨p, 1, none⟩ (.bool true)).cell? ⟨p, 0, none⟩ = some (.slice ao bs.length cap) := cellOfHeap HBX.out 0 rfl
    clear hbx hf0 hx1
    go_enter Tryz.func52, Tryz.ntmps52
    go_wp2_with fail
    refine wp_region_held_drew (S := fun _ => True) (by kernel_rfl) trivial (fun hHeld => ?_)
    refine wpAnyH_take (i := 0) (v := ?v1) rfl (by kernel_rfl) (by kernel_rfl) (by kernel_rfl) (fun _ _ _ h => h) (Or.inl ⟨by rfl, ?hy1⟩) (by assumption) ?rest1
    case hy1 => intro w hSw; (try dsimp only at hSw); go_simp; (try with_reducible rfl)
    try simp only [Act.put, List.setIfInBounds_toArray, List.set_cons_zero, List.set_cons_succ]
    refine wpAnyH_take (i := 1) (v := ?v2) rfl (by kernel_rfl) (by kernel_rfl) (by kernel_rfl) (fun _ _ _ h => h) (Or.inl ⟨by rfl, ?hy2⟩) (by assumption) ?rest2
    case hy2 => intro w hSw; (try dsimp only at hSw); go_simp; (try with_reducible rfl)
    try simp only [Act.put, List.setIfInBounds_toArray, List.set_cons_zero, List.set_cons_succ]
    refine wpAnyH_take (i := 2) (v := ?v3) rfl (by kernel_rfl) (by kernel_rfl) (by kernel_rfl) (fun _ _ _ h => h) (Or.inl ⟨by rfl, ?hy3⟩) (by assumption) ?rest3
    case hy3 => intro w hSw; (try dsimp only at hSw); go_simp; (try with_reducible rfl)
    try simp only [Act.put, List.setIfInBounds_toArray, List.set_cons_zero, List.set_cons_succ]
    refine wpAnyH_take (i := 3) (v := ?v4) rfl (by kernel_rfl) (by kernel_rfl) (by kernel_rfl) (fun _ _ _ h => h) (Or.inl ⟨by rfl, ?hy4⟩) (by assumption) ?rest4
    case hy4 => intro w hSw; (try dsimp only at hSw); go_simp; (try with_reducible rfl)
    try simp only [Act.put, List.setIfInBounds_toArray, List.set_cons_zero, List.set_cons_succ]
    refine wpAnyH_take (i := 5) (v := ?v5) rfl (by kernel_rfl) (by kernel_rfl) (by kernel_rfl) (fun _ _ _ h => h) (Or.inl ⟨by rfl, ?hy5⟩) (by assumption) ?rest5
    case hy5 => intro w hSw; (try dsimp only at hSw); go_simp; (try with_reducible rfl)
    try simp only [Act.put, List.setIfInBounds_toArray, List.set_cons_zero, List.set_cons_succ]
    refine wpAnyH_ready (rs := [4, 6]) (by kernel_rfl) (by simp) ?_
    refine AllReadyH.cons rfl (fun K hK => ?_) ?_
    · go_simp
      refine hK.out _ _ trivial (fun hHeld => ?_)
      clear hK K
      try simp only [Act.put, List.setIfInBounds_toArray, List.set_cons_zero, List.set_cons_succ]
      refine wpAnyH_ready (rs := [6]) (by kernel_rfl) (by simp) ?_
      refine AllReadyH.cons rfl (fun K hK => ?_) AllReadyH.nil
      go_simp
      refine Calls.mono (sevens_any n hn _) ?_
      rintro e w2 ⟨aoS, capS, xs, hxs, rfl, hbS, hFS⟩
      obtain ⟨rfl⟩ := hxs.trans HXS.out.symm
      obtain ⟨ao3, cap3, w3, hrun, hrow3, hF3, hao3⟩ := app_row w2 29 ao cap bs _ ((HX1.out).keep fun k hk _ => hFS.block k hk (fun e => e)) _ (hbS.src capS) hlen
      have HRUN := hideIt hrun
      have hc2 : w2.cell? ⟨p, 0, none⟩ = some (.slice ao bs.length cap) := (World.cell?_of_block (a := ⟨p, 0, none⟩) (hFS.block p hpl (fun e => e))).trans c0
      have hb2 := (hFS.block p hpl (fun e => e)).trans HBX.out
      have hb3 := (hF3.block p (Nat.lt_of_lt_of_le hpl hFS.size) hap).trans hb2
      have hc3 : w3.cell? ⟨p, 0, none⟩ = some (.slice ao bs.length cap) := cellOfHeap hb3 0 rfl
      have hz3 := frozen_of_row w3 p 0 _ _ hb3
      have HFIN := hideIt (show XPost w p ao (bs ++ xs) true (w3.setCell ⟨p, 0, none⟩ (.slice ao3 (bs.length + xs.length) cap3)) by
        have := h.laid ((HF0.out.drew.trans (S' := fun _ => False) hFS (fun _ _ e => e.elim)).trans hF3 (fun _ _ e => Or.inr e)) hb3 hrow3 (hao3.imp id fun e k hk => by subst e; obtain ⟨_, e1, rfl⟩ := hk; obtain rfl := Option.some.inj e1; exact Nat.le_trans HF0.out.size hFS.size)
        rw [List.length_append] at this
        exact this)
      clear hrun hrow3 hF3 hao3 hFS hbS hxs hb2 hb3
      refine hK.out _ _ trivial (fun hHeld => ?_)
      clear hK K
      try simp only [Act.put, List.setIfInBounds_toArray, List.set_cons_zero, List.set_cons_succ]
      refine wpAnyH_ready (rs := [7]) (by kernel_rfl) (by simp) ?_
      refine AllReadyH.cons rfl (fun K hK => ?_) AllReadyH.nil
      refine step_append_run rfl (.tmp 19) (.tmp 21) 29 29 rfl _ _ _ _ rfl rfl HRUN.out ?_
      refine hK.out _ _ trivial (fun hHeld => ?_)
      clear hK K
      try simp only [Act.put, List.setIfInBounds_toArray, List.set_cons_zero, List.set_cons_succ]
      refine wpAnyH_take (i := 8) (v := ?v6) rfl (by kernel_rfl) (by kernel_rfl) (by kernel_rfl) (fun _ _ _ h => h) (Or.inl ⟨by rfl, ?hy6⟩) (by assumption) ?rest6
      case hy6 => intro w hSw; (try dsimp only at hSw); go_simp; (try with_reducible rfl)
      try simp only [Act.put, List.setIfInBounds_toArray, List.set_cons_zero, List.set_cons_succ]
      refine wpAnyH_take (i := 9) (v := ?v7) rfl (by kernel_rfl) (by kernel_rfl) (by kernel_rfl) (fun _ _ _ h => h) (Or.inl ⟨by rfl, ?hy7⟩) (by assumption) ?rest7
      case hy7 => intro w hSw; (try dsimp only at hSw); go_simp; (try with_reducible rfl)
      try simp only [Act.put, List.setIfInBounds_toArray, List.set_cons_zero, List.set_cons_succ]
      refine wpAnyH_ready (rs := [10]) (by kernel_rfl) (by simp) ?_
      refine AllReadyH.cons rfl (fun K hK => ?_) AllReadyH.nil
      go_simp
      refine hK.out _ _ trivial (fun hHeld => ?_)
      clear hK K
      try simp only [Act.put, List.setIfInBounds_toArray, List.set_cons_zero, List.set_cons_succ]
      refine wpAnyH_done (by kernel_rfl) ?_ _
      go_wp2_with fail
      go_end0
      exact ⟨rfl, HFIN.out⟩
    refine AllReadyH.cons rfl (fun K hK => ?_) ?_
    · go_simp
      refine Calls.mono (sevens_any n hn _) ?_
      rintro e w2 ⟨aoS, capS, xs, hxs, rfl, hbS, hFS⟩
      obtain ⟨rfl⟩ := hxs.trans HXS.out.symm
      obtain ⟨ao3, cap3, w3, hrun, hrow3, hF3, hao3⟩ := app_row w2 29 ao cap bs _ ((HX1.out).keep fun k hk _ => hFS.block k hk (fun e => e)) _ (hbS.src capS) hlen
      have HRUN := hideIt hrun
      have hc2 : w2.cell? ⟨p, 0, none⟩ = some (.slice ao bs.length cap) := (World.cell?_of_block (a := ⟨p, 0, none⟩) (hFS.block p hpl (fun e => e))).trans c0
      have hb2 := (hFS.block p hpl (fun e => e)).trans HBX.out
      have hb3 := (hF3.block p (Nat.lt_of_lt_of_le hpl hFS.size) hap).trans hb2
      have hc3 : w3.cell? ⟨p, 0, none⟩ = some (.slice ao bs.length cap) := cellOfHeap hb3 0 rfl
      have hz3 := frozen_of_row w3 p 0 _ _ hb3
      have HFIN := hideIt (show XPost w p ao (bs ++ xs) true (w3.setCell ⟨p, 0, none⟩ (.slice ao3 (bs.length + xs.length) cap3)) by
        have := h.laid ((HF0.out.drew.trans (S' := fun _ => False) hFS (fun _ _ e => e.elim)).trans hF3 (fun _ _ e => Or.inr e)) hb3 hrow3 (hao3.imp id fun e k hk => by subst e; obtain ⟨_, e1, rfl⟩ := hk; obtain rfl := Option.some.inj e1; exact Nat.le_trans HF0.out.size hFS.size)
        rw [List.length_append] at this
        exact this)
      clear hrun hrow3 hF3 hao3 hFS hbS hxs hb2 hb3
      refine hK.out _ _ trivial (fun hHeld => ?_)
      clear hK K
      try simp only [Act.put, List.setIfInBounds_toArray, List.set_cons_zero, List.set_cons_succ]
      refine wpAnyH_ready (rs := [4]) (by kernel_rfl) (by simp) ?_
      refine AllReadyH.cons rfl (fun K hK => ?_) AllReadyH.nil
      go_simp
      refine hK.out _ _ trivial (fun hHeld => ?_)
      clear hK K
      try simp only [Act.put, List.setIfInBounds_toArray, List.set_cons_zero, List.set_cons_succ]
      refine wpAnyH_ready (rs := [7]) (by kernel_rfl) (by simp) ?_
      refine AllReadyH.cons rfl (fun K hK => ?_) AllReadyH.nil
      refine step_append_run rfl (.tmp 19) (.tmp 21) 29 29 rfl _ _ _ _ rfl rfl HRUN.out ?_
      refine hK.out _ _ trivial (fun hHeld => ?_)
      clear hK K
      try simp only [Act.put, List.setIfInBounds_toArray, List.set_cons_zero, List.set_cons_succ]
      refine wpAnyH_take (i := 8) (v := ?v8) rfl (by kernel_rfl) (by kernel_rfl) (by kernel_rfl) (fun _ _ _ h => h) (Or.inl ⟨by rfl, ?hy8⟩) (by assumption) ?rest8
      case hy8 => intro w hSw; (try dsimp only at hSw); go_simp; (try with_reducible rfl)
      try simp only [Act.put, List.setIfInBounds_toArray, List.set_cons_zero, List.set_cons_succ]
      refine wpAnyH_take (i := 9) (v := ?v9) rfl (by kernel_rfl) (by kernel_rfl) (by kernel_rfl) (fun _ _ _ h => h) (Or.inl ⟨by rfl, ?hy9⟩) (by assumption) ?rest9
      case hy9 => intro w hSw; (try dsimp only at hSw); go_simp; (try with_reducible rfl)
      try simp only [Act.put, List.setIfInBounds_toArray, List.set_cons_zero, List.set_cons_succ]
      refine wpAnyH_ready (rs := [10]) (by kernel_rfl) (by simp) ?_
      refine AllReadyH.cons rfl (fun K hK => ?_) AllReadyH.nil
      go_simp
      refine hK.out _ _ trivial (fun hHeld => ?_)
      clear hK K
      try simp only [Act.put, List.setIfInBounds_toArray, List.set_cons_zero, List.set_cons_succ]
      refine wpAnyH_done (by kernel_rfl) ?_ _
      go_wp2_with fail
      go_end0
      exact ⟨rfl, HFIN.out⟩
    exact AllReadyH.nil
  | false =>
    by_cases hneg : n < 0
    · have e : (false || decide (n < 0)) = true := by simp [hneg]
      rw [e]
      have HBX := hideIt (hbx true)
      have HF0 := hideIt (hf0 true)
      have HX1 := hideIt (hx1 true)
      have hpl : p < (w.setCell ⟨p, 1, none⟩ (.bool true)).heap.size := by simpa using hpl0
      have c0 : (w.setCell ⟨p, 1, none⟩ (.bool true)).cell? ⟨p, 0, none⟩ = some (.slice ao bs.length cap) := cellOfHeap HBX.out 0 rfl
      clear hbx hf0 hx1 e
      go_enter Tryz.func52, Tryz.ntmps52
      go_wp2_with fail
      refine wp_region_held_drew (S := fun _ => True) (by kernel_rfl) trivial (fun hHeld => ?_)
      refine wpAnyH_take (i := 0) (v := ?v10) rfl (by kernel_rfl) (by kernel_rfl) (by kernel_rfl) (fun _ _ _ h => h) (Or.inl ⟨by rfl, ?hy10⟩) (by assumption) ?rest10
      case hy10 => intro w hSw; (try dsimp only at hSw); go_simp; (try with_reducible rfl)
      try simp only [Act.put, List.setIfInBounds_toArray, List.set_cons_zero, List.set_cons_succ]
      refine wpAnyH_take (i := 1) (v := ?v11) rfl (by kernel_rfl) (by kernel_rfl) (by kernel_rfl) (fun _ _ _ h => h) (Or.inl ⟨by rfl, ?hy11⟩) (by assumption) ?rest11
      case hy11 => intro w hSw; (try dsimp only at hSw); go_simp; (try with_reducible rfl)
      try simp only [Act.put, List.setIfInBounds_toArray, List.set_cons_zero, List.set_cons_succ]
      refine wpAnyH_take (i := 2) (v := ?v12) rfl (by kernel_rfl) (by kernel_rfl) (by kernel_rfl) (fun _ _ _ h => h) (Or.inl ⟨by rfl, ?hy12⟩) (by assumption) ?rest12
      case hy12 => intro w hSw; (try dsimp only at hSw); go_simp; (try with_reducible rfl)
      try simp only [Act.put, List.setIfInBounds_toArray, List.set_cons_zero, List.set_cons_succ]
      refine wpAnyH_take (i := 3) (v := ?v13) rfl (by kernel_rfl) (by kernel_rfl) (by kernel_rfl) (fun _ _ _ h => h) (Or.inl ⟨by rfl, ?hy13⟩) (by assumption) ?rest13
      case hy13 => intro w hSw; (try dsimp only at hSw); go_simp; (try with_reducible rfl)
      try simp only [Act.put, List.setIfInBounds_toArray, List.set_cons_zero, List.set_cons_succ]
      refine wpAnyH_take (i := 5) (v := ?v14) rfl (by kernel_rfl) (by kernel_rfl) (by kernel_rfl) (fun _ _ _ h => h) (Or.inl ⟨by rfl, ?hy14⟩) (by assumption) ?rest14
      case hy14 => intro w hSw; (try dsimp only at hSw); go_simp; (try with_reducible rfl)
      try simp only [Act.put, List.setIfInBounds_toArray, List.set_cons_zero, List.set_cons_succ]
      refine wpAnyH_ready (rs := [4, 6]) (by kernel_rfl) (by simp) ?_
      refine AllReadyH.cons rfl (fun K hK => ?_) ?_
      · go_simp
        refine hK.out _ _ trivial (fun hHeld => ?_)
        clear hK K
        try simp only [Act.put, List.setIfInBounds_toArray, List.set_cons_zero, List.set_cons_succ]
        refine wpAnyH_ready (rs := [6]) (by kernel_rfl) (by simp) ?_
        refine AllReadyH.cons rfl (fun K hK => ?_) AllReadyH.nil
        go_simp
        refine Calls.mono (sevens_any n hn _) ?_
        rintro e w2 ⟨aoS, capS, xs, hxs, rfl, hbS, hFS⟩
        obtain ⟨rfl⟩ := hxs.trans HXS.out.symm
        obtain ⟨ao3, cap3, w3, hrun, hrow3, hF3, hao3⟩ := app_row w2 29 ao cap bs _ ((HX1.out).keep fun k hk _ => hFS.block k hk (fun e => e)) _ (hbS.src capS) hlen
        have HRUN := hideIt hrun
        have hc2 : w2.cell? ⟨p, 0, none⟩ = some (.slice ao bs.length cap) := (World.cell?_of_block (a := ⟨p, 0, none⟩) (hFS.block p hpl (fun e => e))).trans c0
        have hb2 := (hFS.block p hpl (fun e => e)).trans HBX.out
        have hb3 := (hF3.block p (Nat.lt_of_lt_of_le hpl hFS.size) hap).trans hb2
        have hc3 : w3.cell? ⟨p, 0, none⟩ = some (.slice ao bs.length cap) := cellOfHeap hb3 0 rfl
        have hz3 := frozen_of_row w3 p 0 _ _ hb3
        have HFIN := hideIt (show XPost w p ao (bs ++ xs) true (w3.setCell ⟨p, 0, none⟩ (.slice ao3 (bs.length + xs.length) cap3)) by
          have := h.laid ((HF0.out.drew.trans (S' := fun _ => False) hFS (fun _ _ e => e.elim)).trans hF3 (fun _ _ e => Or.inr e)) hb3 hrow3 (hao3.imp id fun e k hk => by subst e; obtain ⟨_, e1, rfl⟩ := hk; obtain rfl := Option.some.inj e1; exact Nat.le_trans HF0.out.size hFS.size)
          rw [List.length_append] at this
          exact this)
        clear hrun hrow3 hF3 hao3 hFS hbS hxs hb2 hb3
        refine hK.out _ _ trivial (fun hHeld => ?_)
        clear hK K
        try simp only [Act.put, List.setIfInBounds_toArray, List.set_cons_zero, List.set_cons_succ]
        refine wpAnyH_ready (rs := [7]) (by kernel_rfl) (by simp) ?_
        refine AllReadyH.cons rfl (fun K hK => ?_) AllReadyH.nil
        refine step_append_run rfl (.tmp 19) (.tmp 21) 29 29 rfl _ _ _ _ rfl rfl HRUN.out ?_
        refine hK.out _ _ trivial (fun hHeld => ?_)
        clear hK K
        try simp only [Act.put, List.setIfInBounds_toArray, List.set_cons_zero, List.set_cons_succ]
        refine wpAnyH_take (i := 8) (v := ?v15) rfl (by kernel_rfl) (by kernel_rfl) (by kernel_rfl) (fun _ _ _ h => h) (Or.inl ⟨by rfl, ?hy15⟩) (by assumption) ?rest15
        case hy15 => intro w hSw; (try dsimp only at hSw); go_simp; (try with_reducible rfl)
        try simp only [Act.put, List.setIfInBounds_toArray, List.set_cons_zero, List.set_cons_succ]
        refine wpAnyH_take (i := 9) (v := ?v16) rfl (by kernel_rfl) (by kernel_rfl) (by kernel_rfl) (fun _ _ _ h => h) (Or.inl ⟨by rfl, ?hy16⟩) (by assumption) ?rest16
        case hy16 => intro w hSw; (try dsimp only at hSw); go_simp; (try with_reducible rfl)
        try simp only [Act.put, List.setIfInBounds_toArray, List.set_cons_zero, List.set_cons_succ]
        refine wpAnyH_ready (rs := [10]) (by kernel_rfl) (by simp) ?_
        refine AllReadyH.cons rfl (fun K hK => ?_) AllReadyH.nil
        go_simp
        refine hK.out _ _ trivial (fun hHeld => ?_)
        clear hK K
        try simp only [Act.put, List.setIfInBounds_toArray, List.set_cons_zero, List.set_cons_succ]
        refine wpAnyH_done (by kernel_rfl) ?_ _
        go_wp2_with fail
        go_end0
        exact ⟨rfl, HFIN.out⟩
      refine AllReadyH.cons rfl (fun K hK => ?_) ?_
      · go_simp
        refine Calls.mono (sevens_any n hn _) ?_
        rintro e w2 ⟨aoS, capS, xs, hxs, rfl, hbS, hFS⟩
        obtain ⟨rfl⟩ := hxs.trans HXS.out.symm
        obtain ⟨ao3, cap3, w3, hrun, hrow3, hF3, hao3⟩ := app_row w2 29 ao cap bs _ ((HX1.out).keep fun k hk _ => hFS.block k hk (fun e => e)) _ (hbS.src capS) hlen
        have HRUN := hideIt hrun
        have hc2 : w2.cell? ⟨p, 0, none⟩ = some (.slice ao bs.length cap) := (World.cell?_of_block (a := ⟨p, 0, none⟩) (hFS.block p hpl (fun e => e))).trans c0
        have hb2 := (hFS.block p hpl (fun e => e)).trans HBX.out
        have hb3 := (hF3.block p (Nat.lt_of_lt_of_le hpl hFS.size) hap).trans hb2
        have hc3 : w3.cell? ⟨p, 0, none⟩ = some (.slice ao bs.length cap) := cellOfHeap hb3 0 rfl
        have hz3 := frozen_of_row w3 p 0 _ _ hb3
        have HFIN := hideIt (show XPost w p ao (bs ++ xs) true (w3.setCell ⟨p, 0, none⟩ (.slice ao3 (bs.length + xs.length) cap3)) by
          have := h.laid ((HF0.out.drew.trans (S' := fun _ => False) hFS (fun _ _ e => e.elim)).trans hF3 (fun _ _ e => Or.inr e)) hb3 hrow3 (hao3.imp id fun e k hk => by subst e; obtain ⟨_, e1, rfl⟩ := hk; obtain rfl := Option.some.inj e1; exact Nat.le_trans HF0.out.size hFS.size)
          rw [List.length_append] at this
          exact this)
        clear hrun hrow3 hF3 hao3 hFS hbS hxs hb2 hb3
        refine hK.out _ _ trivial (fun hHeld => ?_)
        clear hK K
        try simp only [Act.put, List.setIfInBounds_toArray, List.set_cons_zero, List.set_cons_succ]
        refine wpAnyH_ready (rs := [4]) (by kernel_rfl) (by simp) ?_
        refine AllReadyH.cons rfl (fun K hK => ?_) AllReadyH.nil
        go_simp
        refine hK.out _ _ trivial (fun hHeld => ?_)
        clear hK K
        try simp only [Act.put, List.setIfInBounds_toArray, List.set_cons_zero, List.set_cons_succ]
        refine wpAnyH_ready (rs := [7]) (by kernel_rfl) (by simp) ?_
        refine AllReadyH.cons rfl (fun K hK => ?_) AllReadyH.nil
        refine step_append_run rfl (.tmp 19) (.tmp 21) 29 29 rfl _ _ _ _ rfl rfl HRUN.out ?_
        refine hK.out _ _ trivial (fun hHeld => ?_)
        clear hK K
        try simp only [Act.put, List.setIfInBounds_toArray, List.set_cons_zero, List.set_cons_succ]
        refine wpAnyH_take (i := 8) (v := ?v17) rfl (by kernel_rfl) (by kernel_rfl) (by kernel_rfl) (fun _ _ _ h => h) (Or.inl ⟨by rfl, ?hy17⟩) (by assumption) ?rest17
        case hy17 => intro w hSw; (try dsimp only at hSw); go_simp; (try with_reducible rfl)
        try simp only [Act.put, List.setIfInBounds_toArray, List.set_cons_zero, List.set_cons_succ]
        refine wpAnyH_take (i := 9) (v := ?v18) rfl (by kernel_rfl) (by kernel_rfl) (by kernel_rfl) (fun _ _ _ h => h) (Or.inl ⟨by rfl, ?hy18⟩) (by assumption) ?rest18
        case hy18 => intro w hSw; (try dsimp only at hSw); go_simp; (try with_reducible rfl)
        try simp only [Act.put, List.setIfInBounds_toArray, List.set_cons_zero, List.set_cons_succ]
        refine wpAnyH_ready (rs := [10]) (by kernel_rfl) (by simp) ?_
        refine AllReadyH.cons rfl (fun K hK => ?_) AllReadyH.nil
        go_simp
        refine hK.out _ _ trivial (fun hHeld => ?_)
        clear hK K
        try simp only [Act.put, List.setIfInBounds_toArray, List.set_cons_zero, List.set_cons_succ]
        refine wpAnyH_done (by kernel_rfl) ?_ _
        go_wp2_with fail
        go_end0
        exact ⟨rfl, HFIN.out⟩
      exact AllReadyH.nil
    · have e : (false || decide (n < 0)) = false := by simp [hneg]
      rw [e]
      have HBX := hideIt (hbx false)
      have HF0 := hideIt (hf0 false)
      have HX1 := hideIt (hx1 false)
      have hpl : p < (w.setCell ⟨p, 1, none⟩ (.bool false)).heap.size := by simpa using hpl0
      have c0 : (w.setCell ⟨p, 1, none⟩ (.bool false)).cell? ⟨p, 0, none⟩ = some (.slice ao bs.length cap) := cellOfHeap HBX.out 0 rfl
      clear hbx hf0 hx1 e
      go_enter Tryz.func52, Tryz.ntmps52
      go_wp2_with fail
      refine wp_region_held_drew (S := fun _ => True) (by kernel_rfl) trivial (fun hHeld => ?_)
      refine wpAnyH_take (i := 0) (v := ?v19) rfl (by kernel_rfl) (by kernel_rfl) (by kernel_rfl) (fun _ _ _ h => h) (Or.inl ⟨by rfl, ?hy19⟩) (by assumption) ?rest19
      case hy19 => intro w hSw; (try dsimp only at hSw); go_simp; (try with_reducible rfl)
      try simp only [Act.put, List.setIfInBounds_toArray, List.set_cons_zero, List.set_cons_succ]
      refine wpAnyH_take (i := 1) (v := ?v20) rfl (by kernel_rfl) (by kernel_rfl) (by kernel_rfl) (fun _ _ _ h => h) (Or.inl ⟨by rfl, ?hy20⟩) (by assumption) ?rest20
      case hy20 => intro w hSw; (try dsimp only at hSw); go_simp; (try with_reducible rfl)
      try simp only [Act.put, List.setIfInBounds_toArray, List.set_cons_zero, List.set_cons_succ]
      refine wpAnyH_take (i := 2) (v := ?v21) rfl (by kernel_rfl) (by kernel_rfl) (by kernel_rfl) (fun _ _ _ h => h) (Or.inl ⟨by rfl, ?hy21⟩) (by assumption) ?rest21
      case hy21 => intro w hSw; (try dsimp only at hSw); go_simp; (try with_reducible rfl)
      try simp only [Act.put, List.setIfInBounds_toArray, List.set_cons_zero, List.set_cons_succ]
      refine wpAnyH_take (i := 3) (v := ?v22) rfl (by kernel_rfl) (by kernel_rfl) (by kernel_rfl) (fun _ _ _ h => h) (Or.inl ⟨by rfl, ?hy22⟩) (by assumption) ?rest22
      case hy22 => intro w hSw; (try dsimp only at hSw); go_simp; (try with_reducible rfl)
      try simp only [Act.put, List.setIfInBounds_toArray, List.set_cons_zero, List.set_cons_succ]
      refine wpAnyH_take (i := 5) (v := ?v23) rfl (by kernel_rfl) (by kernel_rfl) (by kernel_rfl) (fun _ _ _ h => h) (Or.inl ⟨by rfl, ?hy23⟩) (by assumption) ?rest23
      case hy23 => intro w hSw; (try dsimp only at hSw); go_simp; (try with_reducible rfl)
      try simp only [Act.put, List.setIfInBounds_toArray, List.set_cons_zero, List.set_cons_succ]
      refine wpAnyH_ready (rs := [4, 6]) (by kernel_rfl) (by simp) ?_
      refine AllReadyH.cons rfl (fun K hK => ?_) ?_
      · go_simp
        refine hK.out _ _ trivial (fun hHeld => ?_)
        clear hK K
        try simp only [Act.put, List.setIfInBounds_toArray, List.set_cons_zero, List.set_cons_succ]
        refine wpAnyH_ready (rs := [6]) (by kernel_rfl) (by simp) ?_
        refine AllReadyH.cons rfl (fun K hK => ?_) AllReadyH.nil
        go_simp
        refine Calls.mono (sevens_any n hn _) ?_
        rintro e w2 ⟨aoS, capS, xs, hxs, rfl, hbS, hFS⟩
        obtain ⟨rfl⟩ := hxs.trans HXS.out.symm
        obtain ⟨ao3, cap3, w3, hrun, hrow3, hF3, hao3⟩ := app_row w2 29 ao cap bs _ ((HX1.out).keep fun k hk _ => hFS.block k hk (fun e => e)) _ (hbS.src capS) hlen
        have HRUN := hideIt hrun
        have hc2 : w2.cell? ⟨p, 0, none⟩ = some (.slice ao bs.length cap) := (World.cell?_of_block (a := ⟨p, 0, none⟩) (hFS.block p hpl (fun e => e))).trans c0
        have hb2 := (hFS.block p hpl (fun e => e)).trans HBX.out
        have hb3 := (hF3.block p (Nat.lt_of_lt_of_le hpl hFS.size) hap).trans hb2
        have hc3 : w3.cell? ⟨p, 0, none⟩ = some (.slice ao bs.length cap) := cellOfHeap hb3 0 rfl
        have hz3 := frozen_of_row w3 p 0 _ _ hb3
        have HFIN := hideIt (show XPost w p ao (bs ++ xs) false (w3.setCell ⟨p, 0, none⟩ (.slice ao3 (bs.length + xs.length) cap3)) by
          have := h.laid ((HF0.out.drew.trans (S' := fun _ => False) hFS (fun _ _ e => e.elim)).trans hF3 (fun _ _ e => Or.inr e)) hb3 hrow3 (hao3.imp id fun e k hk => by subst e; obtain ⟨_, e1, rfl⟩ := hk; obtain rfl := Option.some.inj e1; exact Nat.le_trans HF0.out.size hFS.size)
          rw [List.length_append] at this
          exact this)
        clear hrun hrow3 hF3 hao3 hFS hbS hxs hb2 hb3
        refine hK.out _ _ trivial (fun hHeld => ?_)
        clear hK K
        try simp only [Act.put, List.setIfInBounds_toArray, List.set_cons_zero, List.set_cons_succ]
        refine wpAnyH_ready (rs := [7]) (by kernel_rfl) (by simp) ?_
        refine AllReadyH.cons rfl (fun K hK => ?_) AllReadyH.nil
        refine step_append_run rfl (.tmp 19) (.tmp 21) 29 29 rfl _ _ _ _ rfl rfl HRUN.out ?_
        refine hK.out _ _ trivial (fun hHeld => ?_)
        clear hK K
        try simp only [Act.put, List.setIfInBounds_toArray, List.set_cons_zero, List.set_cons_succ]
        refine wpAnyH_take (i := 8) (v := ?v24) rfl (by kernel_rfl) (by kernel_rfl) (by kernel_rfl) (fun _ _ _ h => h) (Or.inl ⟨by rfl, ?hy24⟩) (by assumption) ?rest24
        case hy24 => intro w hSw; (try dsimp only at hSw); go_simp; (try with_reducible rfl)
        try simp only [Act.put, List.setIfInBounds_toArray, List.set_cons_zero, List.set_cons_succ]
        refine wpAnyH_take (i := 9) (v := ?v25) rfl (by kernel_rfl) (by kernel_rfl) (by kernel_rfl) (fun _ _ _ h => h) (Or.inl ⟨by rfl, ?hy25⟩) (by assumption) ?rest25
        case hy25 => intro w hSw; (try dsimp only at hSw); go_simp; (try with_reducible rfl)
        try simp only [Act.put, List.setIfInBounds_toArray, List.set_cons_zero, List.set_cons_succ]
        refine wpAnyH_ready (rs := [10]) (by kernel_rfl) (by simp) ?_
        refine AllReadyH.cons rfl (fun K hK => ?_) AllReadyH.nil
        go_simp
        refine hK.out _ _ trivial (fun hHeld => ?_)
        clear hK K
        try simp only [Act.put, List.setIfInBounds_toArray, List.set_cons_zero, List.set_cons_succ]
        refine wpAnyH_done (by kernel_rfl) ?_ _
        go_wp2_with fail
        go_end0
        exact ⟨rfl, HFIN.out⟩
      refine AllReadyH.cons rfl (fun K hK => ?_) ?_
      · go_simp
        refine Calls.mono (sevens_any n hn _) ?_
        rintro e w2 ⟨aoS, capS, xs, hxs, rfl, hbS, hFS⟩
        obtain ⟨rfl⟩ := hxs.trans HXS.out.symm
        obtain ⟨ao3, cap3, w3, hrun, hrow3, hF3, hao3⟩ := app_row w2 29 ao cap bs _ ((HX1.out).keep fun k hk _ => hFS.block k hk (fun e => e)) _ (hbS.src capS) hlen
        have HRUN := hideIt hrun
        have hc2 : w2.cell? ⟨p, 0, none⟩ = some (.slice ao bs.length cap) := (World.cell?_of_block (a := ⟨p, 0, none⟩) (hFS.block p hpl (fun e => e))).trans c0
        have hb2 := (hFS.block p hpl (fun e => e)).trans HBX.out
        have hb3 := (hF3.block p (Nat.lt_of_lt_of_le hpl hFS.size) hap).trans hb2
        have hc3 : w3.cell? ⟨p, 0, none⟩ = some (.slice ao bs.length cap) := cellOfHeap hb3 0 rfl
        have hz3 := frozen_of_row w3 p 0 _ _ hb3
        have HFIN := hideIt (show XPost w p ao (bs ++ xs) false (w3.setCell ⟨p, 0, none⟩ (.slice ao3 (bs.length + xs.length) cap3)) by
          have := h.laid ((HF0.out.drew.trans (S' := fun _ => False) hFS (fun _ _ e => e.elim)).trans hF3 (fun _ _ e => Or.inr e)) hb3 hrow3 (hao3.imp id fun e k hk => by subst e; obtain ⟨_, e1, rfl⟩ := hk; obtain rfl := Option.some.inj e1; exact Nat.le_trans HF0.out.size hFS.size)
          rw [List.length_append] at this
          exact this)
        clear hrun hrow3 hF3 hao3 hFS hbS hxs hb2 hb3
        refine hK.out _ _ trivial (fun hHeld => ?_)
        clear hK K
        try simp only [Act.put, List.setIfInBounds_toArray, List.set_cons_zero, List.set_cons_succ]
        refine wpAnyH_ready (rs := [4]) (by kernel_rfl) (by simp) ?_
        refine AllReadyH.cons rfl (fun K hK => ?_) AllReadyH.nil
        go_simp
        refine hK.out _ _ trivial (fun hHeld => ?_)
        clear hK K
        try simp only [Act.put, List.setIfInBounds_toArray, List.set_cons_zero, List.set_cons_succ]
        refine wpAnyH_ready (rs := [7]) (by kernel_rfl) (by simp) ?_
        refine AllReadyH.cons rfl (fun K hK => ?_) AllReadyH.nil
        refine step_append_run rfl (.tmp 19) (.tmp 21) 29 29 rfl _ _ _ _ rfl rfl HRUN.out ?_
        refine hK.out _ _ trivial (fun hHeld => ?_)
        clear hK K
        try simp only [Act.put, List.setIfInBounds_toArray, List.set_cons_zero, List.set_cons_succ]
        refine wpAnyH_take (i := 8) (v := ?v26) rfl (by kernel_rfl) (by kernel_rfl) (by kernel_rfl) (fun _ _ _ h => h) (Or.inl ⟨by rfl, ?hy26⟩) (by assumption) ?rest26
        case hy26 => intro w hSw; (try dsimp only at hSw); go_simp; (try with_reducible rfl)
        try simp only [Act.put, List.setIfInBounds_toArray, List.set_cons_zero, List.set_cons_succ]
        refine wpAnyH_take (i := 9) (v := ?v27) rfl (by kernel_rfl) (by kernel_rfl) (by kernel_rfl) (fun _ _ _ h => h) (Or.inl ⟨by rfl, ?hy27⟩) (by assumption) ?rest27
        case hy27 => intro w hSw; (try dsimp only at hSw); go_simp; (try with_reducible rfl)
        try simp only [Act.put, List.setIfInBounds_toArray, List.set_cons_zero, List.set_cons_succ]
        refine wpAnyH_ready (rs := [10]) (by kernel_rfl) (by simp) ?_
        refine AllReadyH.cons rfl (fun K hK => ?_) AllReadyH.nil
        go_simp
        refine hK.out _ _ trivial (fun hHeld => ?_)
        clear hK K
        try simp only [Act.put, List.setIfInBounds_toArray, List.set_cons_zero, List.set_cons_succ]
        refine wpAnyH_done (by kernel_rfl) ?_ _
        go_wp2_with fail
        go_end0
        exact ⟨rfl, HFIN.out⟩
      exact AllReadyH.nil

end Go.Proofs.YtojgikaoiegmpaaGreatDoor

/- The document's own writer: texts, IDs, what it tells. -/
namespace Go.Proofs.YtojgikaoiegmpaaGreatDoor
open Go.RowKit Go.IntWalk
set_option linter.unusedSimpArgs false
set_option linter.unusedVariables false
set_option maxRecDepth 100000

theorem str_src (w : World) (x : ByteArray) : Src Tryz.prog 1 9 (.string x) x.data.toList.length (bv x.data.toList) w := by
  have := Src.ofString (P := Tryz.prog) w Tryz.underlying9 x
  simpa [byteCells, bv] using this

/-- A new row is new, behind whatever was made ahead of it. -/
theorem new_or {w w2 : World} {ao ao3 : Option Addr} (hs : w.heap.size ≤ w2.heap.size) (h : ao3 = ao ∨ ao3 = some ⟨w2.heap.size, 0, none⟩) : ao3 = ao ∨ ∀ k, blk ao3 k → w.heap.size ≤ k :=
  h.imp id fun e k hk => by
    subst e
    obtain ⟨_, e1, rfl⟩ := hk
    obtain rfl := Option.some.inj e1
    exact hs

set_option maxRecDepth 100000 in
set_option maxHeartbeats 1000000 in
theorem xtext_any (p : Nat) (ao : Option Addr) (cap : Nat) (bs xs : List UInt8) (bad : Bool) (x : ByteArray) (w : World) (h : XWAt w p ao cap bs bad) (hxm : (x.size : Int) ≤ 9223372036854775807) (hxs : xs = sevens x.size) (hlen : bs.length + xs.length + x.size ≤ 140737488355328) :
    Calls Tryz.prog 53 #[.pointer (some ⟨p, 0, none⟩), .string x] w fun e w' => e = .returned (.tuple #[]) ∧ XPost w p ao (bs ++ xs ++ x.data.toList) bad w' := by
  have HXS := hideIt (show xs = (if (x.size : Int) < 0 then [] else sevens (x.size : Int).toNat) by rw [if_neg (by omega), Int.toNat_natCast]; exact hxs)
  have c0 := h.c0
  have hpl := h.lt
  have hap : ¬ blk ao p := h.apart
  have HBX := hideIt h.box
  have HX1 := hideIt h.row
  clear hxs
  go_enter Tryz.func53, Tryz.ntmps53
  go_wp2_with fail
  refine wp_region_held_drew (S := fun _ => True) (by kernel_rfl) trivial (fun hHeld => ?_)
  refine wpAnyH_take (i := 0) (v := ?v1) rfl (by kernel_rfl) (by kernel_rfl) (by kernel_rfl) (fun _ _ _ h => h) (Or.inl ⟨by rfl, ?hy1⟩) (by assumption) ?rest1
  case hy1 => intro w hSw; (try dsimp only at hSw); go_simp; (try with_reducible rfl)
  try simp only [Act.put, List.setIfInBounds_toArray, List.set_cons_zero, List.set_cons_succ]
  refine wpAnyH_take (i := 1) (v := ?v2) rfl (by kernel_rfl) (by kernel_rfl) (by kernel_rfl) (fun _ _ _ h => h) (Or.inl ⟨by rfl, ?hy2⟩) (by assumption) ?rest2
  case hy2 => intro w hSw; (try dsimp only at hSw); go_simp; (try with_reducible rfl)
  try simp only [Act.put, List.setIfInBounds_toArray, List.set_cons_zero, List.set_cons_succ]
  refine wpAnyH_take (i := 2) (v := ?v3) rfl (by kernel_rfl) (by kernel_rfl) (by kernel_rfl) (fun _ _ _ h => h) (Or.inl ⟨by rfl, ?hy3⟩) (by assumption) ?rest3
  case hy3 => intro w hSw; (try dsimp only at hSw); go_simp; (try with_reducible rfl)
  try simp only [Act.put, List.setIfInBounds_toArray, List.set_cons_zero, List.set_cons_succ]
  refine wpAnyH_take (i := 3) (v := ?v4) rfl (by kernel_rfl) (by kernel_rfl) (by kernel_rfl) (fun _ _ _ h => h) (Or.inl ⟨by rfl, ?hy4⟩) (by assumption) ?rest4
  case hy4 => intro w hSw; (try dsimp only at hSw); go_simp; (try with_reducible rfl)
  try simp only [Act.put, List.setIfInBounds_toArray, List.set_cons_zero, List.set_cons_succ]
  refine wpAnyH_take (i := 5) (v := ?v5) rfl (by kernel_rfl) (by kernel_rfl) (by kernel_rfl) (fun _ _ _ h => h) (Or.inl ⟨by rfl, ?hy5⟩) (by assumption) ?rest5
  case hy5 => intro w hSw; (try dsimp only at hSw); go_simp; (try with_reducible rfl)
  try simp only [Act.put, List.setIfInBounds_toArray, List.set_cons_zero, List.set_cons_succ]
  refine wpAnyH_take (i := 6) (v := ?v6) rfl (by kernel_rfl) (by kernel_rfl) (by kernel_rfl) (fun _ _ _ h => h) (Or.inl ⟨by rfl, ?hy6⟩) (by assumption) ?rest6
  case hy6 => intro w hSw; (try dsimp only at hSw); go_simp; (try with_reducible rfl)
  try simp only [Act.put, List.setIfInBounds_toArray, List.set_cons_zero, List.set_cons_succ]
  refine wpAnyH_take (i := 9) (v := ?v7) rfl (by kernel_rfl) (by kernel_rfl) (by kernel_rfl) (fun _ _ _ h => h) (Or.inl ⟨by rfl, ?hy7⟩) (by assumption) ?rest7
  case hy7 => intro w hSw; (try dsimp only at hSw); go_simp; (try with_reducible rfl)
  try simp only [Act.put, List.setIfInBounds_toArray, List.set_cons_zero, List.set_cons_succ]
  refine wpAnyH_ready (rs := [4, 7]) (by kernel_rfl) (by simp) ?_
  refine AllReadyH.cons rfl (fun K hK => ?_) ?_
  · go_simp
    refine hK.out _ _ trivial (fun hHeld => ?_)
    clear hK K
    try simp only [Act.put, List.setIfInBounds_toArray, List.set_cons_zero, List.set_cons_succ]
    refine wpAnyH_ready (rs := [7]) (by kernel_rfl) (by simp) ?_
    refine AllReadyH.cons rfl (fun K hK => ?_) AllReadyH.nil
    go_simp
    refine Calls.mono (sevens_any (x.size : Int) hxm _) ?_
    rintro e w2 ⟨aoS, capS, xs, hxs, rfl, hbS, hFS⟩
    obtain ⟨rfl⟩ := hxs.trans HXS.out.symm
    obtain ⟨ao3, cap3, w3, hrun, hrow3, hF3, hao3⟩ := app_row w2 29 ao cap bs _ ((HX1.out).keep fun k hk _ => hFS.block k hk (fun e => e)) _ (hbS.src capS) (by omega)
    have hao3' := new_or (Nat.le_refl _) hao3
    obtain ⟨ao4, cap4, w4, hrun4, hrow4, hF4, hao4⟩ := app_row w3 9 ao3 cap3 (bs ++ xs) x.data.toList hrow3 _ (str_src w3 x) (by simp; omega)
    rw [show (bs ++ xs).length = bs.length + xs.length by simp, show x.data.toList.length = x.size by simp] at hrun4
    have HRUN := hideIt hrun
    have HRUN4 := hideIt hrun4
    have hb2 := (hFS.block p hpl (fun e => e)).trans HBX.out
    have hc2 : w2.cell? ⟨p, 0, none⟩ = some (.slice ao bs.length cap) := cellOfHeap hb2 0 rfl
    have hp2 := Nat.lt_of_lt_of_le hpl hFS.size
    have hb3 := (hF3.block p hp2 hap).trans hb2
    have hap3 : ¬ blk ao3 p := by
      rcases hao3' with rfl | hn
      · exact hap
      · intro e
        have := hn p e
        omega
    have hb4 := (hF4.block p (Nat.lt_of_lt_of_le hp2 hF3.size) hap3).trans hb3
    have hc4 : w4.cell? ⟨p, 0, none⟩ = some (.slice ao bs.length cap) := cellOfHeap hb4 0 rfl
    have hz4 := frozen_of_row w4 p 0 _ _ hb4
    have hF24 : Fr (fun k => k = p ∨ blk ao k) w2 w4 := (hF3.mono (fun _ e => Or.inr e)).trans hF4 (fun i hi e => by
      rcases hao3' with rfl | hn
      · exact Or.inr e
      · have := hn i e
        omega)
    have hao4' : ao4 = ao ∨ ∀ k, blk ao4 k → w.heap.size ≤ k := by
      have hs2 : w.heap.size ≤ w2.heap.size := hFS.size
      rcases new_or (Nat.le_refl _) hao4 with rfl | hn
      · rcases hao3' with rfl | hn3
        · exact Or.inl rfl
        · exact Or.inr fun k hk => Nat.le_trans hs2 (hn3 k hk)
      · exact Or.inr fun k hk => Nat.le_trans hs2 (Nat.le_trans hF3.size (hn k hk))
    have HFIN := hideIt (show XPost w p ao (bs ++ xs ++ x.data.toList) bad (w4.setCell ⟨p, 0, none⟩ (.slice ao4 (bs.length + xs.length + x.size) cap4)) by
      have := h.laid (((Fr.refl (fun k => k = p ∨ blk ao k) w).drew.trans (S' := fun _ => False) hFS (fun _ _ e => e.elim)).trans hF24 (fun _ _ e => e)) hb4 hrow4 hao4'
      rw [show (bs ++ xs ++ x.data.toList).length = bs.length + xs.length + x.size by simp; omega] at this
      exact this)
    clear hrun hrun4 hrow3 hrow4 hF3 hF4 hao3 hao4 hFS hbS hxs hb2 hb3 hb4 hao3' hao4' hF24
    refine hK.out _ _ trivial (fun hHeld => ?_)
    clear hK K
    try simp only [Act.put, List.setIfInBounds_toArray, List.set_cons_zero, List.set_cons_succ]
    refine wpAnyH_ready (rs := [8]) (by kernel_rfl) (by simp) ?_
    refine AllReadyH.cons rfl (fun K hK => ?_) AllReadyH.nil
    refine step_append_run rfl (.tmp 8) (.tmp 11) 29 29 rfl _ _ _ _ rfl rfl HRUN.out ?_
    refine hK.out _ _ trivial (fun hHeld => ?_)
    clear hK K
    try simp only [Act.put, List.setIfInBounds_toArray, List.set_cons_zero, List.set_cons_succ]
    refine wpAnyH_ready (rs := [10]) (by kernel_rfl) (by simp) ?_
    refine AllReadyH.cons rfl (fun K hK => ?_) AllReadyH.nil
    refine step_append_run rfl (.tmp 12) (.tmp 13) 29 9 rfl _ _ _ _ rfl rfl HRUN4.out ?_
    refine hK.out _ _ trivial (fun hHeld => ?_)
    clear hK K
    try simp only [Act.put, List.setIfInBounds_toArray, List.set_cons_zero, List.set_cons_succ]
    refine wpAnyH_take (i := 11) (v := ?v8) rfl (by kernel_rfl) (by kernel_rfl) (by kernel_rfl) (fun _ _ _ h => h) (Or.inl ⟨by rfl, ?hy8⟩) (by assumption) ?rest8
    case hy8 => intro w hSw; (try dsimp only at hSw); go_simp; (try with_reducible rfl)
    try simp only [Act.put, List.setIfInBounds_toArray, List.set_cons_zero, List.set_cons_succ]
    refine wpAnyH_take (i := 12) (v := ?v9) rfl (by kernel_rfl) (by kernel_rfl) (by kernel_rfl) (fun _ _ _ h => h) (Or.inl ⟨by rfl, ?hy9⟩) (by assumption) ?rest9
    case hy9 => intro w hSw; (try dsimp only at hSw); go_simp; (try with_reducible rfl)
    try simp only [Act.put, List.setIfInBounds_toArray, List.set_cons_zero, List.set_cons_succ]
    refine wpAnyH_ready (rs := [13]) (by kernel_rfl) (by simp) ?_
    refine AllReadyH.cons rfl (fun K hK => ?_) AllReadyH.nil
    go_simp
    refine hK.out _ _ trivial (fun hHeld => ?_)
    clear hK K
    try simp only [Act.put, List.setIfInBounds_toArray, List.set_cons_zero, List.set_cons_succ]
    refine wpAnyH_done (by kernel_rfl) ?_ _
    go_wp2_with fail
    go_end0
    exact ⟨rfl, HFIN.out⟩
  refine AllReadyH.cons rfl (fun K hK => ?_) ?_
  · go_simp
    refine Calls.mono (sevens_any (x.size : Int) hxm _) ?_
    rintro e w2 ⟨aoS, capS, xs, hxs, rfl, hbS, hFS⟩
    obtain ⟨rfl⟩ := hxs.trans HXS.out.symm
    obtain ⟨ao3, cap3, w3, hrun, hrow3, hF3, hao3⟩ := app_row w2 29 ao cap bs _ ((HX1.out).keep fun k hk _ => hFS.block k hk (fun e => e)) _ (hbS.src capS) (by omega)
    have hao3' := new_or (Nat.le_refl _) hao3
    obtain ⟨ao4, cap4, w4, hrun4, hrow4, hF4, hao4⟩ := app_row w3 9 ao3 cap3 (bs ++ xs) x.data.toList hrow3 _ (str_src w3 x) (by simp; omega)
    rw [show (bs ++ xs).length = bs.length + xs.length by simp, show x.data.toList.length = x.size by simp] at hrun4
    have HRUN := hideIt hrun
    have HRUN4 := hideIt hrun4
    have hb2 := (hFS.block p hpl (fun e => e)).trans HBX.out
    have hc2 : w2.cell? ⟨p, 0, none⟩ = some (.slice ao bs.length cap) := cellOfHeap hb2 0 rfl
    have hp2 := Nat.lt_of_lt_of_le hpl hFS.size
    have hb3 := (hF3.block p hp2 hap).trans hb2
    have hap3 : ¬ blk ao3 p := by
      rcases hao3' with rfl | hn
      · exact hap
      · intro e
        have := hn p e
        omega
    have hb4 := (hF4.block p (Nat.lt_of_lt_of_le hp2 hF3.size) hap3).trans hb3
    have hc4 : w4.cell? ⟨p, 0, none⟩ = some (.slice ao bs.length cap) := cellOfHeap hb4 0 rfl
    have hz4 := frozen_of_row w4 p 0 _ _ hb4
    have hF24 : Fr (fun k => k = p ∨ blk ao k) w2 w4 := (hF3.mono (fun _ e => Or.inr e)).trans hF4 (fun i hi e => by
      rcases hao3' with rfl | hn
      · exact Or.inr e
      · have := hn i e
        omega)
    have hao4' : ao4 = ao ∨ ∀ k, blk ao4 k → w.heap.size ≤ k := by
      have hs2 : w.heap.size ≤ w2.heap.size := hFS.size
      rcases new_or (Nat.le_refl _) hao4 with rfl | hn
      · rcases hao3' with rfl | hn3
        · exact Or.inl rfl
        · exact Or.inr fun k hk => Nat.le_trans hs2 (hn3 k hk)
      · exact Or.inr fun k hk => Nat.le_trans hs2 (Nat.le_trans hF3.size (hn k hk))
    have HFIN := hideIt (show XPost w p ao (bs ++ xs ++ x.data.toList) bad (w4.setCell ⟨p, 0, none⟩ (.slice ao4 (bs.length + xs.length + x.size) cap4)) by
      have := h.laid (((Fr.refl (fun k => k = p ∨ blk ao k) w).drew.trans (S' := fun _ => False) hFS (fun _ _ e => e.elim)).trans hF24 (fun _ _ e => e)) hb4 hrow4 hao4'
      rw [show (bs ++ xs ++ x.data.toList).length = bs.length + xs.length + x.size by simp; omega] at this
      exact this)
    clear hrun hrun4 hrow3 hrow4 hF3 hF4 hao3 hao4 hFS hbS hxs hb2 hb3 hb4 hao3' hao4' hF24
    refine hK.out _ _ trivial (fun hHeld => ?_)
    clear hK K
    try simp only [Act.put, List.setIfInBounds_toArray, List.set_cons_zero, List.set_cons_succ]
    refine wpAnyH_ready (rs := [4]) (by kernel_rfl) (by simp) ?_
    refine AllReadyH.cons rfl (fun K hK => ?_) AllReadyH.nil
    go_simp
    refine hK.out _ _ trivial (fun hHeld => ?_)
    clear hK K
    try simp only [Act.put, List.setIfInBounds_toArray, List.set_cons_zero, List.set_cons_succ]
    refine wpAnyH_ready (rs := [8]) (by kernel_rfl) (by simp) ?_
    refine AllReadyH.cons rfl (fun K hK => ?_) AllReadyH.nil
    refine step_append_run rfl (.tmp 8) (.tmp 11) 29 29 rfl _ _ _ _ rfl rfl HRUN.out ?_
    refine hK.out _ _ trivial (fun hHeld => ?_)
    clear hK K
    try simp only [Act.put, List.setIfInBounds_toArray, List.set_cons_zero, List.set_cons_succ]
    refine wpAnyH_ready (rs := [10]) (by kernel_rfl) (by simp) ?_
    refine AllReadyH.cons rfl (fun K hK => ?_) AllReadyH.nil
    refine step_append_run rfl (.tmp 12) (.tmp 13) 29 9 rfl _ _ _ _ rfl rfl HRUN4.out ?_
    refine hK.out _ _ trivial (fun hHeld => ?_)
    clear hK K
    try simp only [Act.put, List.setIfInBounds_toArray, List.set_cons_zero, List.set_cons_succ]
    refine wpAnyH_take (i := 11) (v := ?v10) rfl (by kernel_rfl) (by kernel_rfl) (by kernel_rfl) (fun _ _ _ h => h) (Or.inl ⟨by rfl, ?hy10⟩) (by assumption) ?rest10
    case hy10 => intro w hSw; (try dsimp only at hSw); go_simp; (try with_reducible rfl)
    try simp only [Act.put, List.setIfInBounds_toArray, List.set_cons_zero, List.set_cons_succ]
    refine wpAnyH_take (i := 12) (v := ?v11) rfl (by kernel_rfl) (by kernel_rfl) (by kernel_rfl) (fun _ _ _ h => h) (Or.inl ⟨by rfl, ?hy11⟩) (by assumption) ?rest11
    case hy11 => intro w hSw; (try dsimp only at hSw); go_simp; (try with_reducible rfl)
    try simp only [Act.put, List.setIfInBounds_toArray, List.set_cons_zero, List.set_cons_succ]
    refine wpAnyH_ready (rs := [13]) (by kernel_rfl) (by simp) ?_
    refine AllReadyH.cons rfl (fun K hK => ?_) AllReadyH.nil
    go_simp
    refine hK.out _ _ trivial (fun hHeld => ?_)
    clear hK K
    try simp only [Act.put, List.setIfInBounds_toArray, List.set_cons_zero, List.set_cons_succ]
    refine wpAnyH_done (by kernel_rfl) ?_ _
    go_wp2_with fail
    go_end0
    exact ⟨rfl, HFIN.out⟩
  exact AllReadyH.nil


theorem xout_bad (p : Nat) (ao : Option Addr) (cap : Nat) (bs : List UInt8) (w : World) (h : XWAt w p ao cap bs true) : Calls Tryz.prog 54 #[.pointer (some ⟨p, 0, none⟩)] w fun e w' => e = .returned (.tuple #[.slice none 0 0, .int .i64 5]) ∧ w' = w := by
  have c1 := h.c1
  go_enter Tryz.func54, Tryz.ntmps54
  go_wp2
  go_ret2
  exact ⟨rfl, rfl⟩

theorem xout_ok (p : Nat) (ao : Option Addr) (cap : Nat) (bs : List UInt8) (w : World) (h : XWAt w p ao cap bs false) (hb : bs.length ≤ 140737488355328) :
    Calls Tryz.prog 54 #[.pointer (some ⟨p, 0, none⟩)] w fun e w' => ∃ ao' cap', e = .returned (.tuple #[.slice ao' bs.length cap', .int .i64 0]) ∧ Row w' 5 ao' cap' bs ∧ Fr (fun _ => False) w w' ∧ ∀ k, blk ao' k → w.heap.size ≤ k := by
  have c1 := h.c1
  have c0 := h.c0
  have hpl := h.lt
  have h1 : BsAt (w.alloc (.cells #[] 5)) ao bs := h.row.bs.fr ((Fr.refl (fun _ => False) w).alloc _) (fun _ _ _ e => e)
  obtain ⟨ao', cap', w1, hrun, hrow, hf, hao⟩ := app_row (w.alloc (.cells #[] 5)) 29 (some ⟨w.heap.size, 0, none⟩) 0 [] bs (World.ownsRow_made w #[] 0 (Nat.zero_le _) (by decide) rfl) _ (h1.src cap) (by simpa using hb)
  have HR := hideIt hrun
  clear hrun
  go_enter Tryz.func54, Tryz.ntmps54
  go_wp2_with (first | (at_builtin; refine wpList_append_run _ rfl (.tmp 8) (.tmp 12) 29 29 rfl _ _ _ _ rfl rfl HR.out ?_))
  go_ret2
  refine ⟨ao', cap', rfl, hrow, (((Fr.refl (fun _ => False) w).alloc _).trans (hf.mono (S' := fun k => k = w.heap.size) ?_) ?_), ?_⟩
  · rintro k ⟨x, e1, e2⟩
    obtain rfl := Option.some.inj e1
    exact e2.symm
  · intro i hi e
    omega
  · rintro k ⟨x, e1, e2⟩
    rcases hao with rfl | rfl
    · obtain rfl := Option.some.inj e1
      simp only at e2
      omega
    · obtain rfl := Option.some.inj e1
      simp at e2
      omega

end Go.Proofs.YtojgikaoiegmpaaGreatDoor

/- Bytes that are told are new memory, all of it bytes; and they are written over. -/
namespace Go.Proofs.YtojgikaoiegmpaaGreatDoor
open Go.RowKit Go.IntWalk
set_option linter.unusedSimpArgs false
set_option linter.unusedVariables false
set_option maxRecDepth 100000

/-- A slice whose whole room is bytes, of memory of its own. -/
def Full (w : World) (ao : Option Addr) (cap : Nat) (bs : List UInt8) : Prop :=
  (ao = none ∧ bs = [] ∧ cap = 0) ∨ ∃ g zs, ao = some ⟨g, 0, none⟩ ∧ w.heap[g]? = some (.cells (bv (bs ++ zs)).toArray 5 (0, 0)) ∧ cap = (bs ++ zs).length ∧ cap ≤ maxLen

theorem Full.bs {w : World} {ao : Option Addr} {cap : Nat} {bs : List UInt8} (h : Full w ao cap bs) : BsAt w ao bs := by
  rcases h with ⟨rfl, rfl, _⟩ | ⟨g, zs, rfl, hh, _⟩
  · exact Or.inl ⟨rfl, rfl⟩
  · refine Or.inr ⟨g, 0, rfl, fun j hj => ?_⟩
    rw [Nat.zero_add]
    refine cellOfHeap hh j ?_
    simp only [List.getElem?_toArray]
    rw [bv_get _ _ (by simp; omega), List.getElem_append_left hj]
theorem Full.lt {w : World} {ao : Option Addr} {cap : Nat} {bs : List UInt8} (h : Full w ao cap bs) {k : Nat} (hk : blk ao k) : k < w.heap.size := by
  obtain ⟨a, rfl, rfl⟩ := hk
  rcases h with ⟨h0, _⟩ | ⟨g, zs, h0, hh, _⟩
  · cases h0
  · obtain rfl := Option.some.inj h0
    exact (Array.getElem?_eq_some_iff.1 hh).1
theorem Full.fr {S : Nat → Prop} {w w' : World} {ao : Option Addr} {cap : Nat} {bs : List UInt8} (h : Full w ao cap bs) (hF : Fr S w w') (hS : ∀ k, blk ao k → ¬ S k) : Full w' ao cap bs := by
  rcases h with h | ⟨g, zs, rfl, hh, r⟩
  · exact Or.inl h
  · exact Or.inr ⟨g, zs, rfl, (hF.block g (Array.getElem?_eq_some_iff.1 hh).1 (hS g ⟨_, rfl, rfl⟩)).trans hh, r⟩

theorem zero_bytes (k : Nat) : Builtin.zeroCells #[.int .u8 0] k = (bv (List.replicate k 0)).toArray := by
  apply Array.ext'
  simp [Builtin.zeroCells, bv]
  apply List.ext_getElem
  · simp
  · intro i h1 h2
    simp [Nat.mod_one]

theorem clone_full (ao : Option Addr) (cap : Nat) (bs : List UInt8) (w : World) (h : BsAt w ao bs) (hcap : ao = none → cap = 0) (hb : bs.length ≤ 140737488355328) :
    Calls Tryz.prog 74 #[.slice ao bs.length cap] w fun e w' => ∃ ao' cap', e = .returned (.slice ao' bs.length cap') ∧ Full w' ao' cap' bs ∧ Fr (fun _ => False) w w' ∧ ∀ k, blk ao' k → w.heap.size ≤ k := by
  cases ao with
  | none =>
    obtain rfl := hcap rfl
    rcases h with ⟨_, rfl⟩ | ⟨_, _, e, _⟩
    · refine (clone_nil w).mono ?_
      rintro e w' ⟨rfl, rfl⟩
      exact ⟨none, 0, rfl, Or.inl ⟨rfl, rfl, rfl⟩, Fr.refl _ _, fun k ⟨_, e, _⟩ => by cases e⟩
    · cases e
  | some a =>
    have hF0 : Fr (fun _ => False) w (w.alloc (.cells #[] 5)) := (Fr.refl _ _).alloc _
    have h1 : BsAt (w.alloc (.cells #[] 5)) (some a) bs := h.fr hF0 (fun _ _ _ e => e)
    have hs := h1.src cap
    obtain ⟨i0, hi, hz0, hz1, hz2⟩ := info_parts Tryz.infoU8
    have hnil : ∀ (a : Option Addr) (n c : Nat) (w : World), (binOp .eql 29 (.slice a n c) (.slice none 0 0)).run Tryz.prog w = .ok (.bool a.isNone) w := fun a n c w => Lib.run_eql_slice_nil (P := Tryz.prog) w 29 5 a n c 0 0 Tryz.underlying29
    have key : ∃ ao' cap' w', (Builtin.append_ #[29, 29] 29 #[.slice (some ⟨w.heap.size, 0, none⟩) 0 0, .slice (some a) bs.length cap]).run Tryz.prog (w.alloc (.cells #[] 5)) = .ok (.slice ao' bs.length cap') w' ∧ Full w' ao' cap' bs ∧ Fr (fun _ => False) w w' ∧ ∀ k, blk ao' k → w.heap.size ≤ k := by
      by_cases he : bs = []
      · subst he
        refine ⟨some ⟨w.heap.size, 0, none⟩, 0, _, run_append_nothing (P := Tryz.prog) _ 29 29 29 5 i0 Tryz.underlying29 hi _ 0 0 (Nat.le_refl _) _ (by rw [hz1]; exact hs), Or.inr ⟨w.heap.size, [], rfl, heap_new rfl, rfl, Nat.zero_le _⟩, hF0, ?_⟩
        rintro k ⟨x, e1, rfl⟩
        obtain rfl := Option.some.inj e1
        exact Nat.le_refl _
      · have hpos : 0 < bs.length := List.length_pos_iff.2 he
        have hr := run_append_grow_src (P := Tryz.prog) (w.alloc (.cells #[] 5)) 29 29 29 5 i0 (.int .u8 0) Tryz.underlying29 hi hz0 (some ⟨w.heap.size, 0, none⟩) 0 0 [] (run_firstCells_some _ _ 0 _ 0 0 [] (by simp) (fun j u hu => by cases hu)) _ bs.length (bv bs) (by rw [hz1]; exact hs) (by omega) (by omega) (growslice_fits (by omega) (by rw [hz2]; omega))
        have hge := grownCap_ge (w.alloc (.cells #[] 5)) (0 + bs.length) 0 5
        have hcm := grownCap_le_maxLen (w.alloc (.cells #[] 5)) (0 + bs.length) 0 5 (by unfold maxLen; omega)
        refine ⟨_, _, _, by simpa using hr, Or.inr ⟨(w.alloc (.cells #[] 5)).heap.size, List.replicate (grownCap (w.alloc (.cells #[] 5)) (0 + bs.length) 0 5 - (0 + bs.length)) 0, rfl, ?_, ?_, by simpa using hcm⟩, (hF0.drew.alloc _), ?_⟩
        · rw [bv_append]
          have e : (Value.int .u8 0).cells = #[.int .u8 0] := rfl
          simp only [e, zero_bytes, List.nil_append, Nat.zero_add]
          have := heap_alloc_new ((w.alloc (.cells #[] 5)).drew) (.cells ((bv bs).toArray ++ (bv (List.replicate (grownCap (w.alloc (.cells #[] 5)) bs.length 0 5 - bs.length) 0)).toArray) 5)
          simpa using this
        · simp only [List.length_append, List.length_replicate, Nat.zero_add]
          simp only [Nat.zero_add] at hge
          omega
        · rintro k ⟨x, e1, rfl⟩
          obtain rfl := Option.some.inj e1
          simp
    obtain ⟨ao', cap', w1, hrun, hfull, hF, hn⟩ := key
    have HR := hideIt hrun
    clear hrun
    go_enter Tryz.func74, Tryz.ntmps74
    go_wp2_with (first | (at_builtin; refine wpList_append_run _ rfl (.tmp 5) (.tmp 6) 29 29 rfl _ _ _ _ rfl rfl HR.out ?_))
    go_ret
    exact ⟨ao', cap', rfl, hfull, hF, hn⟩

theorem out_full (p t : Nat) (ao : Option Addr) (cap : Nat) (bs : List UInt8) (at_ ea : Int) (w : World) (h : WAt w p t ao cap bs at_ 0 ea) (hb : bs.length ≤ 140737488355328) :
    Calls Tryz.prog 48 #[.pointer (some ⟨p, 0, none⟩)] w fun e w' => ∃ ao' cap', e = .returned (.tuple #[.slice ao' bs.length cap', .int .i64 0]) ∧ Full w' ao' cap' bs ∧ Fr (fun _ => False) w w' ∧ ∀ k, blk ao' k → w.heap.size ≤ k := by
  have hc := h.c
  have h0 := h.tp.c0
  have h2 := h.tp.c2
  go_enter Tryz.func48, Tryz.ntmps48
  go_wp2_with (go_at_call 70; refine (wnone_some p t _ hc).mono ?_; rintro e w' ⟨rfl, rfl⟩)
  refine (clone_full ao cap bs _ h.tp.row.bs h.tp.row.cap0 hb).mono ?_
  rintro e w' ⟨ao', cap', rfl, hrow, hF, hnew⟩
  go_wp2
  go_ret2
  exact ⟨ao', cap', rfl, hrow, hF, hnew⟩

theorem xor_fin : ∀ n : Fin 256, bits .xor .u8 (n.val : Int) 90 = (((UInt8.ofNat n.val) ^^^ 90).toNat : Int) := by decide +kernel

theorem over_nil (w : World) : Calls Tryz.prog 16 #[.slice none 0 0] w fun e w' => e = .returned (.tuple #[]) ∧ w' = w := by
  go_enter Tryz.func16, Tryz.ntmps16
  go_wp2_with fail
  go_loopw [3] (fun i wr => i = .int .i64 0 ∧ wr = w) (fun i _ => 0)
  case atStart => exact ⟨rfl, rfl⟩
  case round =>
    obtain ⟨rfl, rfl⟩ := hrel
    go_wp2_with fail
    go_end0
    exact ⟨rfl, rfl⟩

/-- Every byte of the room is written over: nothing else is touched. -/
theorem over_some (g n : Nat) (cs : List UInt8) (w : World) (h : w.heap[g]? = some (.cells (bv cs).toArray 5 (0, 0))) (hn : n ≤ cs.length) (hm : cs.length ≤ maxLen) :
    Calls Tryz.prog 16 #[.slice (some ⟨g, 0, none⟩) n cs.length] w fun e w' => e = .returned (.tuple #[]) ∧ Fr (fun k => k = g) w w' := by
  unfold maxLen at hm
  go_enter Tryz.func16, Tryz.ntmps16
  go_wp2_with fail
  go_loopw [3] (fun i wr => ∃ (k : Nat) (ds : List UInt8), i = .int .i64 k ∧ k ≤ cs.length ∧ ds.length = cs.length ∧ wr.heap[g]? = some (.cells (bv ds).toArray 5 (0, 0)) ∧ Fr (fun k => k = g) w wr) (fun i _ => cs.length - (intOf i).toNat)
  case atStart => exact ⟨0, cs, rfl, Nat.zero_le _, rfl, h, Fr.refl _ _⟩
  case round =>
    obtain ⟨k, ds, rfl, hk, hd, hg, hF⟩ := hrel
    by_cases hlt : k < cs.length
    · have hkd : k < ds.length := by omega
      have hc : wr.cell? ⟨g, k, none⟩ = some (.int .u8 ds[k].toNat) := cellOfHeap hg k (by simp [bv, hkd])
      have hz := frozen_of_row wr g k _ _ hg
      have hx : bits .xor .u8 (ds[k].toNat : Int) 90 = ((ds[k] ^^^ 90).toNat : Int) := by
        have := xor_fin ⟨ds[k].toNat, UInt8.toNat_lt _⟩
        simpa using this
      have hs := heap_setCell_same wr g k _ _ (.int .u8 ((ds[k] ^^^ 90).toNat : Int)) hg
      have hs2 : (bv ds).toArray.setIfInBounds k (.int .u8 ((ds[k] ^^^ 90).toNat : Int)) = (bv (ds.set k (ds[k] ^^^ 90))).toArray := by simp [bv, List.map_set]
      rw [hs2] at hs
      have HS := hideIt hs
      have HF := hideIt hF
      have HX := hideIt hx
      have HD := hideIt (show (ds.set k (ds[k] ^^^ 90)).length = cs.length by simp [hd])
      clear hs hs2 hg hF hx hd
      generalize hy : ds[k] ^^^ 90 = y at *
      clear hy
      generalize ds[k] = x at *
      go_wp2_with fail
      rw [HX.out]
      exact ⟨⟨k + 1, ds.set k y, by go_num, by omega, HD.out, HS.out, HF.out.setCell (p := ⟨g, k, none⟩) (fun _ => rfl) _⟩, by simp [intOf]; omega⟩
    · have HF := hideIt hF
      clear hF hg
      go_wp2_with fail
      go_end0
      exact ⟨rfl, HF.out⟩

theorem over_full (ao : Option Addr) (cap : Nat) (bs : List UInt8) (w : World) (h : Full w ao cap bs) : Calls Tryz.prog 16 #[.slice ao bs.length cap] w fun e w' => e = .returned (.tuple #[]) ∧ Fr (blk ao) w w' := by
  rcases h with ⟨rfl, rfl, rfl⟩ | ⟨g, zs, rfl, hh, rfl, hm⟩
  · refine (over_nil w).mono ?_
    rintro e w' ⟨rfl, rfl⟩
    exact ⟨rfl, Fr.refl _ _⟩
  · refine (over_some g bs.length (bs ++ zs) w hh (by simp) hm).mono ?_
    rintro e w' ⟨rfl, hF⟩
    exact ⟨rfl, hF.mono fun k e => ⟨_, rfl, e.symm⟩⟩

end Go.Proofs.YtojgikaoiegmpaaGreatDoor

/- Code: Bytes, Size. -/
namespace Go.Proofs.YtojgikaoiegmpaaGreatDoor
open Go.RowKit Go.IntWalk Go.Lib
set_option linter.unusedSimpArgs false
set_option linter.unusedVariables false
set_option maxRecDepth 100000

theorem WOk.frS {S : Nat → Prop} {w w' : World} {p t : Nat} {ao : Option Addr} {cap : Nat} {s : List UInt8 × Bool} (h : WOk w p t ao cap s) (hf : Fr S w w') (hp : ¬ S p) (hS : ∀ k, wset t ao k → ¬ S k) : WOk w' p t ao cap s := by
  obtain ⟨a, e, h⟩ := h
  exact ⟨a, e, h.fr hf hp hS⟩

/-- What Bytes answers. -/
def BytesP (i : Ins) (w : World) (e : Ending) (w' : World) : Prop :=
  ∃ ao cap, e = .returned (.tuple #[.slice ao (codeI i).length cap, .int .i64 (checkE i)]) ∧ Full w' ao cap (codeI i) ∧ Fr (fun _ => False) w w' ∧ ∀ k, blk ao k → w.heap.size ≤ k

theorem bytes_bad (i : Ins) (h2 : checkE i = 2) (w : World) : Calls Tryz.prog 30 #[.agg (icells i)] w (BytesP i w) := by
  have HC := hideIt (fun w => by have := check_any i w; rw [h2] at this; exact this)
  have hcode : codeI i = [] := by unfold codeI; rw [if_neg (by rw [h2]; decide)]
  have HE := hideIt (And.intro hcode h2)
  clear hcode h2
  obtain ⟨op, a, b, c, n, s⟩ := i
  unfold icells
  go_enter Tryz.func30, Tryz.ntmps30
  go_wp2_with fail
  refine Calls.mono (HC.out _) ?_
  rintro e w1 ⟨rfl, hF1⟩
  have HF1 := hideIt hF1
  clear hF1
  go_wp2_with fail
  go_ret2
  exact ⟨none, 0, by rw [HE.out.1, HE.out.2]; rfl, by rw [HE.out.1]; exact Or.inl ⟨rfl, rfl, rfl⟩, ((Fr.refl _ _).alloc _).trans HF1.out (fun _ _ e => e), fun k hk => by obtain ⟨_, e, _⟩ := hk; cases e⟩

set_option maxRecDepth 100000 in
set_option maxHeartbeats 2000000 in
theorem bytes_good (i : Ins) (m : Nat) (hG : Good i m) (w : World) : Calls Tryz.prog 30 #[.agg (icells i)] w (BytesP i w) := by
  have HC := hideIt (fun w => by have := check_any i w; rw [hG.check] at this; exact this)
  have HE := hideIt (And.intro hG.code hG.check)
  have HG := hideIt hG
  have hm : m ≤ 15 := hG.hi
  have hlen4 := (ltrs_nodup m hm).2
  have hop := hG.op
  clear hG
  have HII := hideIt (show ∀ w1, Fr (fun _ => False) (w.alloc (.cells (icells i) 40)) w1 → InsAt w1 w.heap.size i from fun w1 hF => (hF.block w.heap.size (by simp) (fun e => e)).trans (heap_new rfl))
  obtain ⟨op, a, b, c, n, s⟩ := i
  obtain rfl : op = m := hop
  have HK := hideIt kinds_any
  have hidx := idx_run m hm
  unfold icells
  go_enter Tryz.func30, Tryz.ntmps30
  go_wp2_with fail
  refine Calls.mono (HC.out _) ?_
  rintro e w1 ⟨rfl, hF1⟩
  have HF1 := hideIt hF1
  have hs1 : w.heap.size < w1.heap.size := by have := hF1.size; simp at this; omega
  clear hF1
  go_wp2_with fail
  refine Calls.mono (new_any w1) ?_
  rintro e w2 ⟨rfl, hW2, hF2, hsz2⟩
  have HI2 := hideIt (HII.out _ (HF1.out.trans hF2 (fun _ _ e => e)))
  have HF2 := hideIt (((Fr.refl (fun _ => False) w).alloc _).trans (HF1.out.trans hF2 (fun _ _ e => e)) (fun _ _ e => e))
  have HW2 := hideIt hW2
  clear hW2 hF2
  have c0 := HI2.out.c0
  dsimp only at c0
  go_wp2_with fail
  refine Calls.mono (wint_any (w1.heap.size + 1) w1.heap.size none 0 ([], false) m w2 HW2.out (by omega) (by simp)) ?_
  rintro e w3 ⟨rfl, hP⟩
  rw [wInt_small (m : Int) (by omega) (by omega) [], Int.toNat_natCast] at hP
  obtain ⟨ao, cap, hW3, hF3, hn3⟩ := hP
  have hnP : ¬ wset w1.heap.size none w.heap.size := by
    rintro (e | ⟨_, e, _⟩)
    · omega
    · cases e
  have HI1 := hideIt (fun w' (hF : Fr (fun _ => False) w3 w') => (HI2.out.fr hF3 hnP).fr hF (fun e => e))
  have HF3 := hideIt (HF2.out.trans hF3 (fun k hk e => by rcases e with e | ⟨_, e, _⟩; omega; cases e))
  have HW3 := hideIt hW3
  have HL3 := hideIt (show ∀ k, blk ao k → k < w3.heap.size from by obtain ⟨_, _, h⟩ := hW3; exact fun k hk => h.tp.row.lt hk)
  have HN3 := hideIt (show ∀ k, blk ao k → w2.heap.size ≤ k from hn3.elim (fun e k hk => by subst e; obtain ⟨_, e, _⟩ := hk; cases e) id)
  have hs3 : w2.heap.size ≤ w3.heap.size := hF3.size
  clear hW3 hF3 hn3 c0
  go_wp2_with fail
  refine wp_region_held_drew (S := fun w0 => w0.cell? ⟨w.heap.size, 0, none⟩ = some (.int .i64 (m : Int))) (by kernel_rfl) ?_ (fun hHeld => ?_)
  · exact (HI1.out _ (Fr.refl _ _).drew).c0
  refine wpAnyH_take (i := 1) (v := ?v1) rfl (by kernel_rfl) (by kernel_rfl) (by kernel_rfl) (fun _ _ _ h => h) (Or.inl ⟨by rfl, ?hy1⟩) (by assumption) ?rest1
  case hy1 => intro w hSw; (try dsimp only at hSw); go_simp; (try with_reducible rfl)
  try simp only [Act.put, List.setIfInBounds_toArray, List.set_cons_zero, List.set_cons_succ]
  refine wpAnyH_take (i := 2) (v := ?v2) rfl (by kernel_rfl) (by kernel_rfl) (by kernel_rfl) (fun _ _ _ h => h) (Or.inl ⟨by rfl, ?hy2⟩) (by assumption) ?rest2
  case hy2 => intro w hSw; (try dsimp only at hSw); go_simp; (try with_reducible rfl)
  try simp only [Act.put, List.setIfInBounds_toArray, List.set_cons_zero, List.set_cons_succ]
  refine wpAnyH_ready (rs := [0]) (by kernel_rfl) (by simp) ?_
  refine AllReadyH.cons rfl (fun K hK => ?_) AllReadyH.nil
  go_simp
  refine Calls.mono (HK.out _) ?_
  rintro e w4 ⟨rfl, hF⟩
  have HF := hideIt hF
  clear hF
  refine hK.out _ _ ?_ (fun hHeld => ?_)
  · exact (HI1.out _ ((Fr.refl _ _).drew.trans HF.out (fun _ _ e => e))).c0
  clear hK K
  try simp only [Act.put, List.setIfInBounds_toArray, List.set_cons_zero, List.set_cons_succ]
  refine wpAnyH_take (i := 3) (v := ?v3) rfl (by kernel_rfl) (by kernel_rfl) (by kernel_rfl) (fun _ _ _ h => h) (Or.inl ⟨by rfl, ?hy3⟩) (by assumption) ?rest3
  case hy3 => intro w hSw; (try dsimp only at hSw); go_simp; first | done | exact hidx w | (with_reducible rfl) | rfl
  try simp only [Act.put, List.setIfInBounds_toArray, List.set_cons_zero, List.set_cons_succ]
  refine wpAnyH_ready (rs := [4]) (by kernel_rfl) (by simp) ?_
  refine AllReadyH.cons rfl (fun K hK => ?_) AllReadyH.nil
  go_simp
  refine hK.out _ _ ?_ (fun hHeld => ?_)
  · exact (HI1.out _ (((Fr.refl _ _).drew.trans HF.out (fun _ _ e => e)).alloc _)).c0
  clear hK K
  try simp only [Act.put, List.setIfInBounds_toArray, List.set_cons_zero, List.set_cons_succ]
  refine wpAnyH_done (by kernel_rfl) ?_ _
  skip
  go_wp2_with fail
  have hs4 : w3.heap.size ≤ w4.heap.size := HF.out.size
  have HFW := hideIt (HF3.out.trans ((Fr.refl (fun _ => False) w3).drew.trans HF.out (fun _ _ e => e)) (fun _ _ e => e))
  have HIW := hideIt (HI1.out _ (((Fr.refl _ _).drew.trans HF.out (fun _ _ e => e)).alloc (.stringIter (kindT m) 0)))
  have HWW := hideIt (HW3.out.fr0 (((Fr.refl _ _).drew.trans HF.out (fun _ _ e => e)).alloc (.stringIter (kindT m) 0)))
  clear HI1 HK hidx HF hHeld HW3 HF3 HII HC HF1 HI2 HF2 HW2
  go_loopw [7] (fun _ wr => ∃ (pos : Nat) (ao : Option Addr) (cap : Nat), Hid (wr.heap[w4.heap.size]? = some (.stringIter (kindT m) pos)) ∧ Hid (InsAt wr w.heap.size ⟨m, a, b, c, n, s⟩) ∧ Hid (WOk wr (w1.heap.size + 1) w1.heap.size ao cap (UInt8.ofNat m :: encs ((ltrs m).take pos) ⟨m, a, b, c, n, s⟩, false)) ∧ Hid (Fr (fun _ => False) w wr) ∧ Hid (¬ wset w1.heap.size ao w.heap.size ∧ ¬ wset w1.heap.size ao w4.heap.size ∧ (∀ k, wset w1.heap.size ao k → w.heap.size ≤ k) ∧ pos ≤ (ltrs m).length)) (fun _ wr => (kindT m).size - wr.iterPos w4.heap.size)
  case atStart =>
    refine ⟨0, ao, cap, hideIt (heap_new rfl), HIW, HWW, hideIt (HFW.out.alloc _), hideIt ⟨?_, ?_, ?_, Nat.zero_le _⟩⟩
    · rintro (e | e)
      · omega
      · have := HN3.out _ e; omega
    · rintro (e | e)
      · omega
      · have := HL3.out _ e; omega
    · rintro k (e | e)
      · omega
      · have := HN3.out _ e; omega
  case round =>
    obtain ⟨pos, ao, cap, HIT, HJ, HW, HFR, HP⟩ := hrel
    have hne : w.heap.size ≠ w4.heap.size := by omega
    by_cases hp : pos < (kindT m).size
    · obtain ⟨hl, _, ht0⟩ := ltrs_at m pos hm hp
      have hfit : fitsB ((kindT m)[pos]'hp).toNat ⟨m, a, b, c, n, s⟩ = true := HG.out.fit _ (by rw [ltrs_get m pos hp]; exact List.getElem_mem _)
      have HT := hideIt ht0
      have hnx := fun ty => run_next_ascii_at (P := Tryz.prog) wr w4.heap.size (kindT m) pos ty HIT.out hp (by have := hl; omega)
      clear ht0
      generalize ((kindT m)[pos]'hp).toNat = l at *
      have HFI := hideIt ((Fr.refl (fun k => k = w4.heap.size) wr).iterAt (k := w4.heap.size) (fun _ => rfl) (kindT m) (pos + 1))
      have HJ1 := hideIt (HJ.out.fr HFI.out hne)
      have HW1 := hideIt (HW.out.frS HFI.out (by omega) (fun k hk e => HP.out.2.1 (e ▸ hk)))
      have HIT1 := hideIt (iterAt_heap wr w4.heap.size (kindT m) pos (pos + 1) HIT.out)
      have HFR1 := hideIt (HFR.out.trans HFI.out (fun i hi e => by omega))
      have hpos0 := hideIt (iterPos_of HIT.out)
      generalize wr.iterAt w4.heap.size (kindT m) (pos + 1) = W1 at *
      have hblen : (UInt8.ofNat m :: encs ((ltrs m).take pos) ⟨m, a, b, c, n, s⟩).length + 84 ≤ 140737488355328 := by
        have h1 := encs_len ((ltrs m).take pos) ⟨m, a, b, c, n, s⟩ (fun l hl => ltrs_ok m hm l (List.mem_of_mem_take hl)) (fun l hl => HG.out.fit l (List.mem_of_mem_take hl))
        rw [List.length_take] at h1
        rw [List.length_cons]
        omega
      go_wp2_with fail
      refine Calls.mono (find_w w.heap.size l hl _) ?_
      rintro e w5 ⟨rfl, hF5⟩
      have HJ5 := hideIt (HJ1.out.fr hF5 (fun e => e))
      have HW5 := hideIt (HW1.out.fr0 hF5)
      have HIT5 := hideIt ((hF5.block w4.heap.size (Array.getElem?_eq_some_iff.1 HIT1.out).1 (fun e => e)).trans HIT1.out)
      have HFR5 := hideIt (HFR1.out.trans hF5 (fun _ _ e => e))
      clear hF5
      go_wp2_with fail
      refine Calls.mono (write_w w.heap.size l hl ⟨m, a, b, c, n, s⟩ (w1.heap.size + 1) w1.heap.size ao cap _ w5 HJ5.out hfit HW5.out hblen) ?_
      rintro e w6 ⟨rfl, hP6⟩
      rw [wL_fits l hl _ hfit] at hP6
      obtain ⟨ao6, cap6, hW6, hF6, hn6⟩ := hP6
      have HW6 := hideIt hW6
      have HF6 := hideIt hF6
      have HN6 := hideIt hn6
      have hz5 := HFR5.out.size
      clear hW6 hF6 hn6
      have hk5 : w4.heap.size < w5.heap.size := (Array.getElem?_eq_some_iff.1 HIT5.out).1
      have HIT6 := hideIt ((HF6.out.block w4.heap.size hk5 HP.out.2.1).trans HIT5.out)
      go_wp2_with fail
      go_roundw
      case measure =>
        rw [iterPos_of HIT6.out, hpos0.out]
        omega
      case rel =>
        refine ⟨pos + 1, ao6, cap6, HIT6, hideIt (HJ5.out.fr HF6.out HP.out.1), hideIt ?_, hideIt (HFR5.out.trans HF6.out (fun k hk e => by have := HP.out.2.2.1 k e; omega)), hideIt ⟨?_, ?_, ?_, ?_⟩⟩
        · have := HW6.out
          rw [HT.out, encs_snoc]
          exact this
        · exact wset_old (Nat.le_refl _) HJ5.out.lt HN6.out HP.out.1
        · exact wset_old (Nat.le_refl _) hk5 HN6.out HP.out.2.1
        · intro k hk
          rcases hk with e | e
          · exact HP.out.2.2.1 k (Or.inl e)
          · rcases HN6.out with h | h
            · exact HP.out.2.2.1 k (Or.inr (h ▸ e))
            · have := h k e; omega
        · rw [ltrs_length]; omega
    · have hnx := fun ty => run_next_end_at (P := Tryz.prog) wr w4.heap.size (kindT m) pos ty HIT.out hp
      have htk : (ltrs m).take pos = ltrs m := List.take_of_length_le (by rw [ltrs_length]; omega)
      obtain ⟨at_, ea, hWA⟩ := HW.out
      rw [htk] at hWA
      have hWA' : WAt wr (w1.heap.size + 1) w1.heap.size ao cap (UInt8.ofNat m :: encs (ltrs m) ⟨m, a, b, c, n, s⟩) at_ 0 ea := by simpa using hWA
      have HWA := hideIt hWA'
      clear hWA hWA' htk
      have hblen : (UInt8.ofNat m :: encs (ltrs m) ⟨m, a, b, c, n, s⟩).length ≤ 140737488355328 := by
        have h1 := encs_len (ltrs m) ⟨m, a, b, c, n, s⟩ (ltrs_ok m hm) HG.out.fit
        rw [List.length_cons]
        omega
      go_wp2_with fail
      refine Calls.mono (out_full (w1.heap.size + 1) w1.heap.size ao cap _ at_ ea wr HWA.out hblen) ?_
      rintro e w7 ⟨ao7, cap7, rfl, hfull, hF7, hn7⟩
      have HQ := hideIt (And.intro hfull (And.intro hF7 hn7))
      clear hfull hF7 hn7
      go_wp2_with fail
      go_ret2
      exact ⟨ao7, cap7, by rw [HE.out.1, HE.out.2]; rfl, by rw [HE.out.1]; exact HQ.out.1, HFR.out.trans HQ.out.2.1 (fun _ _ e => e), fun k hk => Nat.le_trans HFR.out.size (HQ.out.2.2 k hk)⟩

theorem bytes_any (i : Ins) (w : World) : Calls Tryz.prog 30 #[.agg (icells i)] w (BytesP i w) := by
  rcases checkE_or i with h | h
  · obtain ⟨m, hG⟩ := good_of i h
    exact bytes_good i m hG w
  · exact bytes_bad i h w

theorem size_any (i : Ins) (w : World) : Calls Tryz.prog 69 #[.agg (icells i)] w fun e w' => e = .returned (.int .i64 (codeI i).length) ∧ Fr (fun _ => False) w w' := by
  have HB := hideIt (bytes_any i)
  obtain ⟨op, a, b, c, n, s⟩ := i
  unfold icells
  go_enter Tryz.func69, Tryz.ntmps69
  go_wp2_with fail
  refine Calls.mono (HB.out _) ?_
  rintro e w1 ⟨ao, cap, rfl, _, hF, _⟩
  have HF := hideIt hF
  clear hF
  go_wp2_with fail
  go_ret
  exact ⟨rfl, ((Fr.refl _ _).alloc _).trans HF.out (fun _ _ e => e)⟩

end Go.Proofs.YtojgikaoiegmpaaGreatDoor

/- Package prog: rows of instructions; passes, mayNot, beyond, walked. -/
namespace Go.Proofs.YtojgikaoiegmpaaGreatDoor
open Go.RowKit Go.IntWalk
set_option linter.unusedSimpArgs false
set_option linter.unusedVariables false
set_option maxRecDepth 100000

theorem store_absG {P : Program} {ops : Array Oper} {rest : List Oper} {op : Oper} {a : Act} {w : World} {Q : Exit → Act → World → Prop} (hgd : op.guard = none) (ty : TypeId) (x y : Operand) (ho : op.op = .store ty x y)
    (b o : Nat) (cells : Array Value) (hx : a.eval x = .pointer (some ⟨b, o, none⟩)) (hy : a.eval y = .agg cells)
    (ht : w.there b o cells.size) (hi : (P.info? ty).map (·.size) = some cells.size) (h1 : cells.all (·.oneCell') = true)
    (h : ∀ W, W = w.setCells b o cells.toList → wpList P ops Q rest (a.put op.dst undef) W) : wpList P ops Q (op :: rest) a w :=
  wpList_store_mid hgd ty x y ho b o cells hx hy ht hi h1 (h _ rfl)

/-- A row of instructions, wherever it lies. -/
def InsRow (w : World) (ao : Option Addr) (l : List Ins) : Prop := l = [] ∨ ∃ b off, ao = some ⟨b, off, none⟩ ∧ b < w.heap.size ∧ ∀ j (h : j < l.length), w.rangeAt b (off + j * 6) (icells l[j]).toList
theorem InsRow.get {w : World} {ao : Option Addr} {l : List Ins} (h : InsRow w ao l) (j : Nat) (hj : j < l.length) : ∃ b off, ao = some ⟨b, off, none⟩ ∧ b < w.heap.size ∧ w.rangeAt b (off + j * 6) (icells l[j]).toList := by
  rcases h with rfl | ⟨b, off, e, hb, hc⟩
  · simp at hj
  · exact ⟨b, off, e, hb, hc j hj⟩
theorem InsRow.fr {S : Nat → Prop} {w w' : World} {ao : Option Addr} {l : List Ins} (h : InsRow w ao l) (hF : Fr S w w') (hS : ∀ k, k < w.heap.size → blk ao k → ¬ S k) : InsRow w' ao l := by
  rcases h with rfl | ⟨b, off, e, hb, hc⟩
  · exact Or.inl rfl
  · have := hF.size
    refine Or.inr ⟨b, off, e, by omega, fun j hj t v hv => ?_⟩
    exact (World.cell?_of_block (a := ⟨b, off + j * 6 + t, none⟩) (hF.block b hb (hS b hb ⟨_, e, rfl⟩))).trans (hc j hj t v hv)

theorem insSize6 : (Tryz.prog.info? 40).map (·.size) = some 6 := by kernel_rfl
theorem insSize (i : Ins) : (Tryz.prog.info? 40).map (·.size) = some (icells i).toList.length := insSize6
theorem insSizeA (i : Ins) : (Tryz.prog.info? 40).map (·.size) = some (icells i).size := insSize6

/-- How many instructions one may pass over. -/
def passI (i : Ins) : Int := if i.op = 12 ∨ i.op = 13 then i.n else 0
theorem gpasses_any (i : Ins) (w : World) : Calls Tryz.prog 39 #[.agg (icells i)] w fun e w' => e = .returned (.int .i64 (passI i)) ∧ Fr (fun _ => False) w w' := by
  have hI : InsAt (w.alloc (.cells (icells i) 40)) w.heap.size i := heap_alloc_new w _
  have c0 := hI.c0
  have c4 := hI.c4
  have HF := hideIt (show Fr (fun _ => False) w (w.alloc (.cells (icells i) 40)) from (Fr.refl _ w).alloc _)
  obtain ⟨op, a, b, c, n, s⟩ := i
  unfold icells at c0 c4 HF ⊢
  dsimp only at c0 c4 HF ⊢
  clear hI
  by_cases h1 : op = 12
  · subst h1
    have hp : passI ⟨12, a, b, c, n, s⟩ = n := by simp [passI]
    rw [hp]
    go_enter Tryz.func39, Tryz.ntmps39
    go_wp2_with fail
    go_ret
    exact ⟨rfl, HF.out⟩
  · by_cases h2 : op = 13
    · subst h2
      have hp : passI ⟨13, a, b, c, n, s⟩ = n := by simp [passI]
      rw [hp]
      go_enter Tryz.func39, Tryz.ntmps39
      go_wp2_with fail
      go_ret
      exact ⟨rfl, HF.out⟩
    · have hp : passI ⟨op, a, b, c, n, s⟩ = 0 := by simp [passI, h1, h2]
      rw [hp]
      have h1b : (op == 12) = false := by simpa using h1
      have h2b : (op == 13) = false := by simpa using h2
      go_enter Tryz.func39, Tryz.ntmps39
      go_wp2_with fail
      go_ret
      exact ⟨rfl, HF.out⟩

set_option maxRecDepth 100000 in
theorem gmaynot_any (i : Ins) (w : World) : Calls Tryz.prog 22 #[.agg (icells i)] w fun e w' => e = .returned (.bool (!(checkE i == 0))) ∧ Fr (fun _ => False) w w' := by
  have hF : Fr (fun _ => False) w (w.alloc (.cells (icells i) 40)) := (Fr.refl _ w).alloc _
  have HF := hideIt hF
  have HC := hideIt (fun w => check_any i w)
  have HR := hideIt (show (w.alloc (.cells (icells i) 40)).rangeAt w.heap.size 0 (icells i).toList from fun j v hv => by
    rw [Nat.zero_add, cell_of_row _ _ _ _ _ _ (heap_alloc_new w _)]
    simpa using hv)
  have HI := hideIt (show (Tryz.prog.info? 40).map (·.size) = some (icells i).toList.length by kernel_rfl)
  clear hF
  generalize checkE i = e0 at *
  generalize icells i = C at *
  go_enter Tryz.func22, Tryz.ntmps22
  go_wp2_with (first | (refine wpList_load_mid rfl 40 (.tmp 1) rfl w.heap.size 0 rfl C.toList _ HR.out Tryz.underlying40 rfl HI.out ?_))
  refine Calls.mono (HC.out _) ?_
  rintro e w1 ⟨rfl, hF1⟩
  have HF1 := hideIt (HF.out.trans hF1 (fun _ _ e => e))
  clear hF1
  go_wp2_with fail
  go_ret
  exact ⟨rfl, HF1.out⟩

/-- The first place at which something holds, or -1. -/
def FirstP (p : Nat → Prop) (n : Nat) (w : World) (e : Ending) (w' : World) : Prop := Fr (fun _ => False) w w' ∧ ((∃ j, j < n ∧ e = .returned (.int .i64 (j : Int)) ∧ p j ∧ ∀ t, t < j → ¬ p t) ∨ (e = .returned (.int .i64 (-1)) ∧ ∀ t, t < n → ¬ p t))

/-- It passes over more than stand behind it. -/
def beyB (l : List Ins) (j : Nat) : Prop := ∃ h : j < l.length, (l.length : Int) - 1 - j < passI l[j]
/-- It may not be. -/
def badB (l : List Ins) (j : Nat) : Prop := ∃ h : j < l.length, ¬ checkE l[j] = 0

set_option maxRecDepth 100000 in
set_option maxHeartbeats 2000000 in
theorem gidx_any (ao : Option Addr) (cap : Nat) (l : List Ins) (hl : l.length ≤ 1000) (w : World) (hB : InsRow w ao l) : Calls Tryz.prog 21 #[.slice ao l.length cap, .func (.func 22) #[] #[]] w (FirstP (badB l) l.length w) := by
  have HB := hideIt (fun W (hF : Fr (fun _ => False) w W) => hB.fr hF (fun _ _ _ e => e))
  have HI := hideIt insSize
  clear hB
  go_enter Tryz.func21, Tryz.ntmps21
  go_wp2_with fail
  go_loopw [8] (fun s8 wr => ∃ j : Nat, s8 = .int .i64 j ∧ j ≤ l.length ∧ Hid (∀ t, t < j → ¬ badB l t) ∧ Hid (Fr (fun _ => False) w wr)) (fun s8 _ => l.length - (intOf s8).toNat)
  case atStart => exact ⟨0, rfl, by omega, hideIt (fun t h => by omega), hideIt (Fr.refl _ _)⟩
  case round =>
    obtain ⟨j, rfl, hj, HN, HF⟩ := hrel
    by_cases hlt : j < l.length
    · have h1 : (j : Int) < (l.length : Int) := by omega
      obtain ⟨b, off, rfl, hb, hR⟩ := (HB.out wr HF.out).get j hlt
      have HR := hideIt hR
      have HIJ := hideIt (HI.out l[j])
      have HM := hideIt (gmaynot_any l[j] wr)
      have HBD := hideIt (show badB l j ↔ ¬ checkE l[j] = 0 from ⟨fun ⟨_, h⟩ => h, fun h => ⟨hlt, h⟩⟩)
      clear hR
      generalize checkE l[j] = e0 at *
      generalize icells l[j] = C at *
      go_wp2_with (first | (refine wpList_load_mid rfl 40 (.tmp 14) rfl b (off + j * 6) rfl C.toList _ HR.out Tryz.underlying40 rfl HIJ.out ?_))
      refine Calls.mono HM.out ?_
      rintro e w1 ⟨rfl, hF1⟩
      have HF1 := hideIt (HF.out.trans hF1 (fun _ _ e => e))
      clear hF1 HF HM HR
      by_cases he : e0 = 0
      · have hN2 := hideIt (show ∀ t, t < j + 1 → ¬ badB l t from fun t ht => by
          by_cases e : t = j
          · subst e; exact fun h => HBD.out.1 h he
          · exact HN.out t (by omega))
        subst he
        go_wp2_with fail
        go_roundw
        case measure => simp [intOf]; omega
        case rel => exact ⟨j + 1, by go_num, by omega, hN2, HF1⟩
      · have hb2 : badB l j := HBD.out.2 he
        have HB2 := hideIt hb2
        have he2 : (e0 == 0) = false := by simpa using he
        clear HBD hb2
        go_wp2_with fail
        go_ret
        exact ⟨HF1.out, Or.inl ⟨j, hlt, rfl, HB2.out, HN.out⟩⟩
    · have hje : j = l.length := by omega
      have hjn : ¬ (j : Int) < (l.length : Int) := by omega
      go_wp2_with fail
      go_ret
      exact ⟨HF.out, Or.inr ⟨rfl, fun t ht => HN.out t (by omega)⟩⟩

set_option maxRecDepth 100000 in
set_option maxHeartbeats 2000000 in
theorem gbeyond_any (ao : Option Addr) (cap : Nat) (l : List Ins) (hl : l.length ≤ 1000) (w : World) (hB : InsRow w ao l) : Calls Tryz.prog 23 #[.slice ao l.length cap] w (FirstP (beyB l) l.length w) := by
  have HB := hideIt (fun W (hF : Fr (fun _ => False) w W) => hB.fr hF (fun _ _ _ e => e))
  have HI := hideIt insSize
  have HIA := hideIt insSizeA
  clear hB
  go_enter Tryz.func23, Tryz.ntmps23
  go_wp2_with fail
  go_loopw [7] (fun s7 wr => ∃ j : Nat, s7 = .int .i64 j ∧ j ≤ l.length ∧ Hid (∀ t, t < j → ¬ beyB l t) ∧ Hid (Fr (fun _ => False) w wr)) (fun s7 _ => l.length - (intOf s7).toNat)
  case atStart => exact ⟨0, rfl, by omega, hideIt (fun t h => by omega), hideIt (Fr.refl _ _)⟩
  case round =>
    obtain ⟨j, rfl, hj, HN, HF⟩ := hrel
    by_cases hlt : j < l.length
    · have h1 : (j : Int) < (l.length : Int) := by omega
      obtain ⟨b, off, rfl, hb, hR⟩ := (HB.out wr HF.out).get j hlt
      have HR := hideIt hR
      obtain ⟨q, hq⟩ : ∃ q, wr.heap.size = q := ⟨_, rfl⟩
      have hZ : (wr.alloc (.cells #[.int .i64 0, .int .i64 0, .int .i64 0, .int .i64 0, .int .i64 0, .string ⟨#[]⟩] 40)).heap[q]? = some (.cells #[.int .i64 0, .int .i64 0, .int .i64 0, .int .i64 0, .int .i64 0, .string ⟨#[]⟩] 40) := by rw [← hq]; exact heap_alloc_new wr _
      have HT := hideIt (there_row hZ (icells l[j]).size (show 6 ≤ 6 from Nat.le_refl _))
      have HO := hideIt (icells_one l[j])
      have HIJ := hideIt (HI.out l[j])
      have HIK := hideIt (HIA.out l[j])
      have HW := hideIt (fun W (h : W = (wr.alloc (.cells #[.int .i64 0, .int .i64 0, .int .i64 0, .int .i64 0, .int .i64 0, .string ⟨#[]⟩] 40)).setCells q 0 (icells l[j]).toList) => show W.rangeAt q 0 (icells l[j]).toList ∧ Fr (fun _ => False) wr W by
        subst h
        have hS := store_over (V := icells l[j]) hZ rfl
        refine ⟨fun t v hv => ?_, ((Fr.refl (fun _ => False) wr).alloc _).trans hS.2 (fun i hi e => by omega)⟩
        rw [Nat.zero_add, cell_of_row _ _ _ _ _ _ hS.1]
        simpa using hv)
      have HM := hideIt (fun w => gpasses_any l[j] w)
      have HBD := hideIt (show beyB l j ↔ (l.length : Int) - 1 - j < passI l[j] from ⟨fun ⟨_, h⟩ => h, fun h => ⟨hlt, h⟩⟩)
      have HQ := hideIt hq
      clear hR hZ
      generalize passI l[j] = e0 at *
      generalize icells l[j] = C at *
      have w1 : IntKind.i64.wrap ((l.length : Int) - 1) = (l.length : Int) - 1 := by rw [IntKind.wrap_i64]; omega
      have w2 : IntKind.i64.wrap ((l.length : Int) - 1 - (j : Int)) = (l.length : Int) - 1 - (j : Int) := by rw [IntKind.wrap_i64]; omega
      go_wp2_with (first | (refine wpList_load_mid rfl 40 (.tmp 10) rfl b (off + j * 6) rfl C.toList _ HR.out Tryz.underlying40 rfl HIJ.out ?_) | (refine store_absG rfl 40 (.tmp 4) (.tmp 11) rfl q 0 C rfl rfl HT.out HIK.out HO.out ?_; intro W2 hW2; obtain ⟨hR2, hF2⟩ := HW.out W2 hW2; have HR2 := hideIt hR2; have HF2 := hideIt (HF.out.trans hF2 (fun _ _ e => e)); clear hW2 HW HT hR2 hF2) | (refine wpList_load_mid rfl 40 (.tmp 4) rfl q 0 rfl C.toList _ HR2.out Tryz.underlying40 rfl HIJ.out ?_))
      refine Calls.mono (HM.out _) ?_
      rintro e w1 ⟨rfl, hF1⟩
      have HF1 := hideIt (HF2.out.trans hF1 (fun _ _ e => e))
      clear hF1 HF HM HR HR2 HF2 hq
      by_cases he : (l.length : Int) - 1 - j < e0
      · have HB2 := hideIt (HBD.out.2 he)
        clear HBD
        go_wp2_with fail
        go_ret
        exact ⟨HF1.out, Or.inl ⟨j, hlt, rfl, HB2.out, HN.out⟩⟩
      · have hN2 := hideIt (show ∀ t, t < j + 1 → ¬ beyB l t from fun t ht => by
          by_cases e : t = j
          · subst e; exact fun h => he (HBD.out.1 h)
          · exact HN.out t (by omega))
        have he2 : e0 ≤ (l.length : Int) - 1 - j := by omega
        clear HBD
        go_wp2_with fail
        go_roundw
        case measure => simp [intOf]; omega
        case rel => exact ⟨j + 1, by go_num, by omega, hN2, HF1⟩
    · have hje : j = l.length := by omega
      have hjn : ¬ (j : Int) < (l.length : Int) := by omega
      go_wp2_with fail
      go_ret
      exact ⟨HF.out, Or.inr ⟨rfl, fun t ht => HN.out t (by omega)⟩⟩

end Go.Proofs.YtojgikaoiegmpaaGreatDoor

/- Code: Read; what the chapter's examples say (is, fails). -/
namespace Go.Proofs.YtojgikaoiegmpaaGreatDoor
open Go.RowKit Go.IntWalk Go.Lib
set_option linter.unusedSimpArgs false
set_option linter.unusedVariables false
set_option maxRecDepth 100000

theorem read_any (ao : Option Addr) (cap : Nat) (bs : List UInt8) (at_ : Int) (w : World) (h : BsAt w ao bs) (hcap0 : ao = none → cap = 0) (hcl : bs.length ≤ cap) (hb : bs.length ≤ 140737488355328) :
    Calls Tryz.prog 88 #[.slice ao bs.length cap, .int .i64 at_] w fun e w' => e = .returned (readV (readR bs at_)) ∧ Fr (fun _ => False) w w' := by
  by_cases hx : at_ < 0 ∨ (bs.length : Int) < at_
  · exact read_out ao cap bs at_ w hx
  · obtain ⟨a, rfl⟩ : ∃ a : Nat, at_ = a := ⟨at_.toNat, by omega⟩
    have hale : a ≤ bs.length := by omega
    by_cases h1 : cap = a
    · exact read_in1 ao cap bs a w h hcap0 hcl hb hale h1
    by_cases h2 : (bs.length : Int) ≤ (a : Int) + 67
    · exact read_in2 ao cap bs a w h hcap0 hcl hb hale h1 h2
    · exact read_in3 ao cap bs a w h hcap0 hcl hb hale h1 (by omega)

theorem bs_new (u : World) (bs : List UInt8) (C : Array Value) (hC : (bv bs).toArray = C) (hl : bs.length ≤ 100) : BsAt (u.alloc (.cells C 5)) (some ⟨u.heap.size, 0, none⟩) bs := by
  subst hC
  refine Full.bs (cap := bs.length) (Or.inr ⟨u.heap.size, [], rfl, by rw [List.append_nil]; exact heap_new rfl, by simp, ?_⟩)
  unfold maxLen
  omega

theorem zI : icells zeroI = #[.int .i64 0, .int .i64 0, .int .i64 0, .int .i64 0, .int .i64 0, .string ⟨#[]⟩] := rfl

theorem read_new (bs : List UInt8) (C : Array Value) (n : Nat) (at_ : Int) (v : Value) (hC : (bv bs).toArray = C) (hn : bs.length = n) (hr : readV (readR bs at_) = v) (hl : n ≤ 100) (u : World) (k : Nat) (hk : k = u.heap.size) :
    Calls Tryz.prog 88 #[.slice (some ⟨k, 0, none⟩) n n, .int .i64 at_] (u.alloc (.cells C 5)) fun e w' => e = .returned v ∧ Fr (fun _ => False) (u.alloc (.cells C 5)) w' := by
  subst hn hr hk
  exact read_any (some ⟨u.heap.size, 0, none⟩) bs.length bs at_ _ (bs_new u bs C hC hl) (fun e => by cases e) (Nat.le_refl _) (by omega)

end Go.Proofs.YtojgikaoiegmpaaGreatDoor

/- Code: awake, CodeKnown. -/
namespace Go.Proofs.YtojgikaoiegmpaaGreatDoor
open Go.RowKit Go.IntWalk Go.Lib
set_option linter.unusedSimpArgs false
set_option linter.unusedVariables false
set_option maxRecDepth 100000

theorem ex1 : readR [9, 2, 1, 2] 1 = (⟨2, 1, 2, 0, 0, ⟨#[]⟩⟩, 4, 0, 0) := by kernel_rfl
theorem ex2 : readR [2, 8] 0 = (zeroI, 0, 5, 1) := by kernel_rfl
theorem ex3 : readR [16] 0 = (zeroI, 0, 5, 0) := by kernel_rfl
theorem ex4 : readR [2, 1] 0 = (zeroI, 0, 4, 2) := by kernel_rfl
theorem ex5 : readR [15] 2 = (zeroI, 0, 5, 0) := by kernel_rfl
theorem cx1 : codeL ⟨1, 1, 0, 0, 0, ⟨#[97, 98]⟩⟩ = [1, 1, 2, 97, 98] := by kernel_rfl
theorem cx2 : codeL ⟨6, 0, 1, 2, 16, ⟨#[]⟩⟩ = [6, 0, 1, 2, 16] := by kernel_rfl
theorem gx1 : Good ⟨1, 1, 0, 0, 0, ⟨#[97, 98]⟩⟩ 1 := ⟨rfl, by decide, by decide, by decide, ⟨1, 0, 0, 0, 0, ⟨#[]⟩⟩, by kernel_rfl, rfl, rfl, rfl, rfl, rfl⟩
theorem gx2 : Good ⟨15, 0, 0, 0, 0, ⟨#[]⟩⟩ 15 := ⟨rfl, by decide, by decide, by decide, ⟨15, 0, 0, 0, 0, ⟨#[]⟩⟩, by kernel_rfl, rfl, rfl, rfl, rfl, rfl⟩
theorem gx3 : Good ⟨6, 0, 1, 2, 16, ⟨#[]⟩⟩ 6 := ⟨rfl, by decide, by decide, by decide, ⟨6, 0, 0, 0, 0, ⟨#[]⟩⟩, by kernel_rfl, rfl, rfl, rfl, rfl, rfl⟩
theorem gx4 : Good ⟨13, 0, 0, 0, 60, ⟨#[]⟩⟩ 13 := ⟨rfl, by decide, by decide, by decide, ⟨13, 0, 0, 0, 0, ⟨#[]⟩⟩, by kernel_rfl, rfl, rfl, rfl, rfl, rfl⟩
theorem gx5 : Good ⟨2, 1, 2, 0, 0, ⟨#[]⟩⟩ 2 := ⟨rfl, by decide, by decide, by decide, ⟨2, 0, 0, 0, 0, ⟨#[]⟩⟩, by kernel_rfl, rfl, rfl, rfl, rfl, rfl⟩
theorem kx1 : checkE ⟨15, 1, 0, 0, 0, ⟨#[]⟩⟩ = 2 := checkE_left _ ⟨15, 1, 0, 0, 0, ⟨#[]⟩⟩ (by kernel_rfl) (fun e => by have := e.1; simp at this)
theorem kx2 : checkE ⟨1, 8, 0, 0, 0, ⟨#[]⟩⟩ = 2 := checkE_none _ (by kernel_rfl)
theorem kx3 : checkE ⟨6, 0, 0, 0, 17, ⟨#[]⟩⟩ = 2 := checkE_none _ (by kernel_rfl)
theorem kx4 : checkE ⟨0, 0, 0, 0, 0, ⟨#[]⟩⟩ = 2 := checkE_out _ (fun e => by have := e.1; simp at this)

end Go.Proofs.YtojgikaoiegmpaaGreatDoor

/- Code: the document's Bytes, Size. -/
namespace Go.Proofs.YtojgikaoiegmpaaGreatDoor
open Go.RowKit Go.IntWalk Go.Lib
set_option linter.unusedSimpArgs false
set_option linter.unusedVariables false
set_option maxRecDepth 100000

/-- The document's writer under way, beside the instruction that is told. -/
def WS (w : World) (i : Ins) (p : Nat) (wr : World) (bs : List UInt8) : Prop :=
  ∃ ao cap, XWAt wr p ao cap bs false ∧ Fr (fun _ => False) w wr ∧ InsAt wr w.heap.size i ∧ w.heap.size < p ∧ ∀ k, blk ao k → w.heap.size < k

theorem WS.step {w wr w' : World} {i : Ins} {p : Nat} {ao : Option Addr} {bs : List UInt8} (hF : Fr (fun _ => False) w wr) (hI : InsAt wr w.heap.size i) (hp : w.heap.size < p) (hb : ∀ k, blk ao k → w.heap.size < k) (h : XPost wr p ao bs false w') : WS w i p w' bs := by
  obtain ⟨ao', cap', hX, hF', hn⟩ := h
  refine ⟨ao', cap', hX, hF.trans hF' (fun k hk e => by rcases e with e | e; omega; have := hb k e; omega), hI.fr hF' (fun e => by rcases e with e | e; omega; have := hb _ e; omega), hp, fun k hk => ?_⟩
  rcases hn with e | hn
  · exact hb k (e ▸ hk)
  · have := hn k hk
    have := hI.lt
    omega

theorem ws_int {w wr : World} {i : Ins} {p : Nat} {bs : List UInt8} (h : WS w i p wr bs) (n : Int) (h0 : 0 ≤ n) (h1 : n ≤ 127) (hl : bs.length ≤ 1000) :
    Calls Tryz.prog 52 #[.pointer (some ⟨p, 0, none⟩), .int .i64 n] wr fun e w' => e = .returned (.tuple #[]) ∧ WS w i p w' (bs ++ [UInt8.ofNat n.toNat]) := by
  obtain ⟨ao, cap, hX, hF, hI, hp, hb⟩ := h
  refine (xint_any p ao cap bs [UInt8.ofNat n.toNat] false n wr hX (by omega) (by rw [if_neg (by omega), sevens_lt (by omega)]) (by simp; omega)).mono ?_
  rintro e w' ⟨rfl, hP⟩
  rw [show (false || decide (n < 0)) = false by simp; omega] at hP
  exact ⟨rfl, WS.step hF hI hp hb hP⟩

theorem ws_text {w wr : World} {i : Ins} {p : Nat} {bs : List UInt8} (h : WS w i p wr bs) (x : ByteArray) (h1 : (x.size : Int) ≤ 64) (hl : bs.length ≤ 1000) :
    Calls Tryz.prog 53 #[.pointer (some ⟨p, 0, none⟩), .string x] wr fun e w' => e = .returned (.tuple #[]) ∧ WS w i p w' (bs ++ (UInt8.ofNat x.size :: x.data.toList)) := by
  obtain ⟨ao, cap, hX, hF, hI, hp, hb⟩ := h
  refine (xtext_any p ao cap bs [UInt8.ofNat x.size] false x wr hX (by omega) (by rw [sevens_lt (by omega)]) (by simp; omega)).mono ?_
  rintro e w' ⟨rfl, hP⟩
  rw [List.append_assoc] at hP
  exact ⟨rfl, WS.step hF hI hp hb hP⟩

theorem ws_out {w wr : World} {i : Ins} {p : Nat} {bs : List UInt8} (h : WS w i p wr bs) (hl : bs.length ≤ 1000) :
    Calls Tryz.prog 54 #[.pointer (some ⟨p, 0, none⟩)] wr fun e w' => ∃ ao cap, e = .returned (.tuple #[.slice ao bs.length cap, .int .i64 0]) ∧ BsAt w' ao bs ∧ Fr (fun _ => False) w w' ∧ ∀ k, blk ao k → w.heap.size ≤ k := by
  obtain ⟨ao, cap, hX, hF, hI, hp, hb⟩ := h
  refine (xout_ok p ao cap bs wr hX (by omega)).mono ?_
  rintro e w' ⟨ao', cap', rfl, hr, hF', hn⟩
  exact ⟨ao', cap', rfl, hr.bs, hF.trans hF' (fun _ _ e => e), fun k hk => Nat.le_trans hF.size (hn k hk)⟩

/-- What the document's Bytes answers. -/
def VBytesP (i : Ins) (w : World) (e : Ending) (w' : World) : Prop :=
  ∃ ao cap, e = .returned (.tuple #[.slice ao (codeI i).length cap, .int .i64 (checkE i)]) ∧ BsAt w' ao (codeI i) ∧ Fr (fun _ => False) w w' ∧ ∀ k, blk ao k → w.heap.size ≤ k

theorem vbytes_bad (i : Ins) (h2 : checkE i = 2) (w : World) : Calls Tryz.prog 33 #[.agg (icells i)] w (VBytesP i w) := by
  have HC := hideIt (fun w => by have := vcheck_any i w; rw [vchk_eq, h2] at this; exact this)
  have hcode : codeI i = [] := by unfold codeI; rw [if_neg (by rw [h2]; decide)]
  have HE := hideIt (And.intro hcode h2)
  clear hcode h2
  obtain ⟨op, a, b, c, n, s⟩ := i
  unfold icells
  go_enter Tryz.func33, Tryz.ntmps33
  go_wp2_with fail
  refine Calls.mono (HC.out _) ?_
  rintro e w1 ⟨rfl, hF1⟩
  have HF1 := hideIt hF1
  clear hF1
  go_wp2_with fail
  go_ret2
  exact ⟨none, 0, by rw [HE.out.1, HE.out.2]; rfl, by rw [HE.out.1]; exact Or.inl ⟨rfl, rfl⟩, ((Fr.refl _ _).alloc _).trans HF1.out (fun _ _ e => e), fun k hk => by obtain ⟨_, e, _⟩ := hk; cases e⟩

set_option maxRecDepth 100000 in
set_option maxHeartbeats 2000000 in
theorem vbytes_1 (a b c n : Int) (s : ByteArray) (hG : Good ⟨1, a, b, c, n, s⟩ 1) (w : World) : Calls Tryz.prog 33 #[.agg (icells ⟨1, a, b, c, n, s⟩)] w (VBytesP ⟨1, a, b, c, n, s⟩ w) := by
  have HC := hideIt (fun w => by have := vcheck_any ⟨1, a, b, c, n, s⟩ w; rw [vchk_eq, hG.check] at this; exact this)
  have HH := hideIt (fun w => by have := vhas_any 1 w; rw [show hasT 1 = (true, false, false, false, true) from rfl] at this; exact this)
  have ra := (fb1 ⟨1, a, b, c, n, s⟩).1 (hG.fit 65 (by decide))
  dsimp only at ra
  have rs := (fb6 ⟨1, a, b, c, n, s⟩).1 (hG.fit 83 (by decide))
  dsimp only at rs
  have HE := hideIt (And.intro (show codeI ⟨1, a, b, c, n, s⟩ = [] ++ [UInt8.ofNat (1 : Int).toNat] ++ [UInt8.ofNat a.toNat] ++ (UInt8.ofNat s.size :: s.data.toList) by rw [hG.code, show ltrs 1 = [65, 83] from by decide]; simp [encs, encL, fld, Ins.get]) hG.check)
  have HII := hideIt (show ∀ w1, Fr (fun _ => False) (w.alloc (.cells (icells ⟨1, a, b, c, n, s⟩) 40)) w1 → InsAt w1 w.heap.size ⟨1, a, b, c, n, s⟩ from fun w1 hF => (hF.block w.heap.size (by simp) (fun e => e)).trans (heap_new rfl))
  clear hG
  unfold icells hasV at *
  go_enter Tryz.func33, Tryz.ntmps33
  go_wp2_with fail
  refine Calls.mono (HC.out _) ?_
  rintro e w1 ⟨rfl, hF1⟩
  have HF1 := hideIt (((Fr.refl (fun _ => False) w).alloc _).trans hF1 (fun _ _ e => e))
  have hI := HII.out _ hF1
  have hlt : w.heap.size < w1.heap.size := hI.lt
  have c0 := hI.c0
  dsimp only at c0
  have HI := hideIt hI
  clear hF1 hI
  go_wp2_with fail
  refine Calls.mono (HH.out _) ?_
  rintro e wx ⟨rfl, rfl⟩
  go_wp2_with fail
  have hnb : ∀ k, ¬ blk none k := fun k ⟨_, e, _⟩ => by cases e
  have HW0 := hideIt (show WS w ⟨1, a, b, c, n, s⟩ wx.heap.size (wx.alloc (.cells #[.slice none 0 0, .bool false] 84)) [] from ⟨none, 0, ⟨heap_new rfl, World.ownsRow_nil _ _ _ _, hnb _⟩, HF1.out.alloc _, HI.out.fr ((Fr.refl (fun _ => False) _).alloc _) (fun e => e), hlt, fun k hk => absurd hk (hnb k)⟩)
  clear hnb c0
  refine Calls.mono (ws_int HW0.out 1 (by decide) (by decide) (by simp)) ?_
  rintro e w2 ⟨rfl, hW⟩
  have HW1 := hideIt hW
  obtain ⟨_, _, _, _, hI, _⟩ := hW
  have c1 := hI.c1
  dsimp only at c1
  clear hI
  go_wp2_with fail
  clear c1
  refine Calls.mono (ws_int HW1.out a (by omega) (by omega) (by simp)) ?_
  rintro e w3 ⟨rfl, hW⟩
  have HW2 := hideIt hW
  obtain ⟨_, _, _, _, hI, _⟩ := hW
  have c2 := hI.c5
  dsimp only at c2
  clear hI
  go_wp2_with fail
  clear c2
  refine Calls.mono (ws_text HW2.out s rs (by simp)) ?_
  rintro e w4 ⟨rfl, hW⟩
  have HW3 := hideIt hW
  clear hW
  go_wp2_with fail
  refine Calls.mono (ws_out HW3.out (by simp; omega)) ?_
  rintro e wz ⟨ao, cap, rfl, hbs, hF, hn⟩
  rw [← HE.out.1] at hbs
  have HQ := hideIt (And.intro hbs (And.intro hF hn))
  have HLN := hideIt (show (codeI ⟨1, a, b, c, n, s⟩).length = _ from congrArg List.length HE.out.1)
  clear hbs hF hn
  go_wp2_with fail
  go_ret2
  exact ⟨ao, cap, by rw [HLN.out, HE.out.2]; simp, HQ.out.1, HQ.out.2⟩

set_option maxRecDepth 100000 in
set_option maxHeartbeats 2000000 in
theorem vbytes_2 (a b c n : Int) (s : ByteArray) (hG : Good ⟨2, a, b, c, n, s⟩ 2) (w : World) : Calls Tryz.prog 33 #[.agg (icells ⟨2, a, b, c, n, s⟩)] w (VBytesP ⟨2, a, b, c, n, s⟩ w) := by
  have HC := hideIt (fun w => by have := vcheck_any ⟨2, a, b, c, n, s⟩ w; rw [vchk_eq, hG.check] at this; exact this)
  have HH := hideIt (fun w => by have := vhas_any 2 w; rw [show hasT 2 = (true, true, false, false, false) from rfl] at this; exact this)
  have ra := (fb1 ⟨2, a, b, c, n, s⟩).1 (hG.fit 65 (by decide))
  dsimp only at ra
  have rb := (fb2 ⟨2, a, b, c, n, s⟩).1 (hG.fit 66 (by decide))
  dsimp only at rb
  have HE := hideIt (And.intro (show codeI ⟨2, a, b, c, n, s⟩ = [] ++ [UInt8.ofNat (2 : Int).toNat] ++ [UInt8.ofNat a.toNat] ++ [UInt8.ofNat b.toNat] by rw [hG.code, show ltrs 2 = [65, 66] from by decide]; simp [encs, encL, fld, Ins.get]) hG.check)
  have HII := hideIt (show ∀ w1, Fr (fun _ => False) (w.alloc (.cells (icells ⟨2, a, b, c, n, s⟩) 40)) w1 → InsAt w1 w.heap.size ⟨2, a, b, c, n, s⟩ from fun w1 hF => (hF.block w.heap.size (by simp) (fun e => e)).trans (heap_new rfl))
  clear hG
  unfold icells hasV at *
  go_enter Tryz.func33, Tryz.ntmps33
  go_wp2_with fail
  refine Calls.mono (HC.out _) ?_
  rintro e w1 ⟨rfl, hF1⟩
  have HF1 := hideIt (((Fr.refl (fun _ => False) w).alloc _).trans hF1 (fun _ _ e => e))
  have hI := HII.out _ hF1
  have hlt : w.heap.size < w1.heap.size := hI.lt
  have c0 := hI.c0
  dsimp only at c0
  have HI := hideIt hI
  clear hF1 hI
  go_wp2_with fail
  refine Calls.mono (HH.out _) ?_
  rintro e wx ⟨rfl, rfl⟩
  go_wp2_with fail
  have hnb : ∀ k, ¬ blk none k := fun k ⟨_, e, _⟩ => by cases e
  have HW0 := hideIt (show WS w ⟨2, a, b, c, n, s⟩ wx.heap.size (wx.alloc (.cells #[.slice none 0 0, .bool false] 84)) [] from ⟨none, 0, ⟨heap_new rfl, World.ownsRow_nil _ _ _ _, hnb _⟩, HF1.out.alloc _, HI.out.fr ((Fr.refl (fun _ => False) _).alloc _) (fun e => e), hlt, fun k hk => absurd hk (hnb k)⟩)
  clear hnb c0
  refine Calls.mono (ws_int HW0.out 2 (by decide) (by decide) (by simp)) ?_
  rintro e w2 ⟨rfl, hW⟩
  have HW1 := hideIt hW
  obtain ⟨_, _, _, _, hI, _⟩ := hW
  have c1 := hI.c1
  dsimp only at c1
  clear hI
  go_wp2_with fail
  clear c1
  refine Calls.mono (ws_int HW1.out a (by omega) (by omega) (by simp)) ?_
  rintro e w3 ⟨rfl, hW⟩
  have HW2 := hideIt hW
  obtain ⟨_, _, _, _, hI, _⟩ := hW
  have c2 := hI.c2
  dsimp only at c2
  clear hI
  go_wp2_with fail
  clear c2
  refine Calls.mono (ws_int HW2.out b (by omega) (by omega) (by simp)) ?_
  rintro e w4 ⟨rfl, hW⟩
  have HW3 := hideIt hW
  clear hW
  go_wp2_with fail
  refine Calls.mono (ws_out HW3.out (by simp)) ?_
  rintro e wz ⟨ao, cap, rfl, hbs, hF, hn⟩
  rw [← HE.out.1] at hbs
  have HQ := hideIt (And.intro hbs (And.intro hF hn))
  have HLN := hideIt (show (codeI ⟨2, a, b, c, n, s⟩).length = _ from congrArg List.length HE.out.1)
  clear hbs hF hn
  go_wp2_with fail
  go_ret2
  exact ⟨ao, cap, by rw [HLN.out, HE.out.2]; simp, HQ.out.1, HQ.out.2⟩

set_option maxRecDepth 100000 in
set_option maxHeartbeats 2000000 in
theorem vbytes_3 (a b c n : Int) (s : ByteArray) (hG : Good ⟨3, a, b, c, n, s⟩ 3) (w : World) : Calls Tryz.prog 33 #[.agg (icells ⟨3, a, b, c, n, s⟩)] w (VBytesP ⟨3, a, b, c, n, s⟩ w) := by
  have HC := hideIt (fun w => by have := vcheck_any ⟨3, a, b, c, n, s⟩ w; rw [vchk_eq, hG.check] at this; exact this)
  have HH := hideIt (fun w => by have := vhas_any 3 w; rw [show hasT 3 = (true, true, true, false, false) from rfl] at this; exact this)
  have ra := (fb1 ⟨3, a, b, c, n, s⟩).1 (hG.fit 65 (by decide))
  dsimp only at ra
  have rb := (fb2 ⟨3, a, b, c, n, s⟩).1 (hG.fit 66 (by decide))
  dsimp only at rb
  have rc := (fb3 ⟨3, a, b, c, n, s⟩).1 (hG.fit 67 (by decide))
  dsimp only at rc
  have HE := hideIt (And.intro (show codeI ⟨3, a, b, c, n, s⟩ = [] ++ [UInt8.ofNat (3 : Int).toNat] ++ [UInt8.ofNat a.toNat] ++ [UInt8.ofNat b.toNat] ++ [UInt8.ofNat c.toNat] by rw [hG.code, show ltrs 3 = [65, 66, 67] from by decide]; simp [encs, encL, fld, Ins.get]) hG.check)
  have HII := hideIt (show ∀ w1, Fr (fun _ => False) (w.alloc (.cells (icells ⟨3, a, b, c, n, s⟩) 40)) w1 → InsAt w1 w.heap.size ⟨3, a, b, c, n, s⟩ from fun w1 hF => (hF.block w.heap.size (by simp) (fun e => e)).trans (heap_new rfl))
  clear hG
  unfold icells hasV at *
  go_enter Tryz.func33, Tryz.ntmps33
  go_wp2_with fail
  refine Calls.mono (HC.out _) ?_
  rintro e w1 ⟨rfl, hF1⟩
  have HF1 := hideIt (((Fr.refl (fun _ => False) w).alloc _).trans hF1 (fun _ _ e => e))
  have hI := HII.out _ hF1
  have hlt : w.heap.size < w1.heap.size := hI.lt
  have c0 := hI.c0
  dsimp only at c0
  have HI := hideIt hI
  clear hF1 hI
  go_wp2_with fail
  refine Calls.mono (HH.out _) ?_
  rintro e wx ⟨rfl, rfl⟩
  go_wp2_with fail
  have hnb : ∀ k, ¬ blk none k := fun k ⟨_, e, _⟩ => by cases e
  have HW0 := hideIt (show WS w ⟨3, a, b, c, n, s⟩ wx.heap.size (wx.alloc (.cells #[.slice none 0 0, .bool false] 84)) [] from ⟨none, 0, ⟨heap_new rfl, World.ownsRow_nil _ _ _ _, hnb _⟩, HF1.out.alloc _, HI.out.fr ((Fr.refl (fun _ => False) _).alloc _) (fun e => e), hlt, fun k hk => absurd hk (hnb k)⟩)
  clear hnb c0
  refine Calls.mono (ws_int HW0.out 3 (by decide) (by decide) (by simp)) ?_
  rintro e w2 ⟨rfl, hW⟩
  have HW1 := hideIt hW
  obtain ⟨_, _, _, _, hI, _⟩ := hW
  have c1 := hI.c1
  dsimp only at c1
  clear hI
  go_wp2_with fail
  clear c1
  refine Calls.mono (ws_int HW1.out a (by omega) (by omega) (by simp)) ?_
  rintro e w3 ⟨rfl, hW⟩
  have HW2 := hideIt hW
  obtain ⟨_, _, _, _, hI, _⟩ := hW
  have c2 := hI.c2
  dsimp only at c2
  clear hI
  go_wp2_with fail
  clear c2
  refine Calls.mono (ws_int HW2.out b (by omega) (by omega) (by simp)) ?_
  rintro e w4 ⟨rfl, hW⟩
  have HW3 := hideIt hW
  obtain ⟨_, _, _, _, hI, _⟩ := hW
  have c3 := hI.c3
  dsimp only at c3
  clear hI
  go_wp2_with fail
  clear c3
  refine Calls.mono (ws_int HW3.out c (by omega) (by omega) (by simp)) ?_
  rintro e w5 ⟨rfl, hW⟩
  have HW4 := hideIt hW
  clear hW
  go_wp2_with fail
  refine Calls.mono (ws_out HW4.out (by simp)) ?_
  rintro e wz ⟨ao, cap, rfl, hbs, hF, hn⟩
  rw [← HE.out.1] at hbs
  have HQ := hideIt (And.intro hbs (And.intro hF hn))
  have HLN := hideIt (show (codeI ⟨3, a, b, c, n, s⟩).length = _ from congrArg List.length HE.out.1)
  clear hbs hF hn
  go_wp2_with fail
  go_ret2
  exact ⟨ao, cap, by rw [HLN.out, HE.out.2]; simp, HQ.out.1, HQ.out.2⟩

set_option maxRecDepth 100000 in
set_option maxHeartbeats 2000000 in
theorem vbytes_4 (a b c n : Int) (s : ByteArray) (hG : Good ⟨4, a, b, c, n, s⟩ 4) (w : World) : Calls Tryz.prog 33 #[.agg (icells ⟨4, a, b, c, n, s⟩)] w (VBytesP ⟨4, a, b, c, n, s⟩ w) := by
  have HC := hideIt (fun w => by have := vcheck_any ⟨4, a, b, c, n, s⟩ w; rw [vchk_eq, hG.check] at this; exact this)
  have HH := hideIt (fun w => by have := vhas_any 4 w; rw [show hasT 4 = (true, true, false, false, false) from rfl] at this; exact this)
  have ra := (fb1 ⟨4, a, b, c, n, s⟩).1 (hG.fit 65 (by decide))
  dsimp only at ra
  have rb := (fb2 ⟨4, a, b, c, n, s⟩).1 (hG.fit 66 (by decide))
  dsimp only at rb
  have HE := hideIt (And.intro (show codeI ⟨4, a, b, c, n, s⟩ = [] ++ [UInt8.ofNat (4 : Int).toNat] ++ [UInt8.ofNat a.toNat] ++ [UInt8.ofNat b.toNat] by rw [hG.code, show ltrs 4 = [65, 66] from by decide]; simp [encs, encL, fld, Ins.get]) hG.check)
  have HII := hideIt (show ∀ w1, Fr (fun _ => False) (w.alloc (.cells (icells ⟨4, a, b, c, n, s⟩) 40)) w1 → InsAt w1 w.heap.size ⟨4, a, b, c, n, s⟩ from fun w1 hF => (hF.block w.heap.size (by simp) (fun e => e)).trans (heap_new rfl))
  clear hG
  unfold icells hasV at *
  go_enter Tryz.func33, Tryz.ntmps33
  go_wp2_with fail
  refine Calls.mono (HC.out _) ?_
  rintro e w1 ⟨rfl, hF1⟩
  have HF1 := hideIt (((Fr.refl (fun _ => False) w).alloc _).trans hF1 (fun _ _ e => e))
  have hI := HII.out _ hF1
  have hlt : w.heap.size < w1.heap.size := hI.lt
  have c0 := hI.c0
  dsimp only at c0
  have HI := hideIt hI
  clear hF1 hI
  go_wp2_with fail
  refine Calls.mono (HH.out _) ?_
  rintro e wx ⟨rfl, rfl⟩
  go_wp2_with fail
  have hnb : ∀ k, ¬ blk none k := fun k ⟨_, e, _⟩ => by cases e
  have HW0 := hideIt (show WS w ⟨4, a, b, c, n, s⟩ wx.heap.size (wx.alloc (.cells #[.slice none 0 0, .bool false] 84)) [] from ⟨none, 0, ⟨heap_new rfl, World.ownsRow_nil _ _ _ _, hnb _⟩, HF1.out.alloc _, HI.out.fr ((Fr.refl (fun _ => False) _).alloc _) (fun e => e), hlt, fun k hk => absurd hk (hnb k)⟩)
  clear hnb c0
  refine Calls.mono (ws_int HW0.out 4 (by decide) (by decide) (by simp)) ?_
  rintro e w2 ⟨rfl, hW⟩
  have HW1 := hideIt hW
  obtain ⟨_, _, _, _, hI, _⟩ := hW
  have c1 := hI.c1
  dsimp only at c1
  clear hI
  go_wp2_with fail
  clear c1
  refine Calls.mono (ws_int HW1.out a (by omega) (by omega) (by simp)) ?_
  rintro e w3 ⟨rfl, hW⟩
  have HW2 := hideIt hW
  obtain ⟨_, _, _, _, hI, _⟩ := hW
  have c2 := hI.c2
  dsimp only at c2
  clear hI
  go_wp2_with fail
  clear c2
  refine Calls.mono (ws_int HW2.out b (by omega) (by omega) (by simp)) ?_
  rintro e w4 ⟨rfl, hW⟩
  have HW3 := hideIt hW
  clear hW
  go_wp2_with fail
  refine Calls.mono (ws_out HW3.out (by simp)) ?_
  rintro e wz ⟨ao, cap, rfl, hbs, hF, hn⟩
  rw [← HE.out.1] at hbs
  have HQ := hideIt (And.intro hbs (And.intro hF hn))
  have HLN := hideIt (show (codeI ⟨4, a, b, c, n, s⟩).length = _ from congrArg List.length HE.out.1)
  clear hbs hF hn
  go_wp2_with fail
  go_ret2
  exact ⟨ao, cap, by rw [HLN.out, HE.out.2]; simp, HQ.out.1, HQ.out.2⟩

set_option maxRecDepth 100000 in
set_option maxHeartbeats 2000000 in
theorem vbytes_5 (a b c n : Int) (s : ByteArray) (hG : Good ⟨5, a, b, c, n, s⟩ 5) (w : World) : Calls Tryz.prog 33 #[.agg (icells ⟨5, a, b, c, n, s⟩)] w (VBytesP ⟨5, a, b, c, n, s⟩ w) := by
  have HC := hideIt (fun w => by have := vcheck_any ⟨5, a, b, c, n, s⟩ w; rw [vchk_eq, hG.check] at this; exact this)
  have HH := hideIt (fun w => by have := vhas_any 5 w; rw [show hasT 5 = (true, false, false, false, false) from rfl] at this; exact this)
  have ra := (fb1 ⟨5, a, b, c, n, s⟩).1 (hG.fit 65 (by decide))
  dsimp only at ra
  have HE := hideIt (And.intro (show codeI ⟨5, a, b, c, n, s⟩ = [] ++ [UInt8.ofNat (5 : Int).toNat] ++ [UInt8.ofNat a.toNat] by rw [hG.code, show ltrs 5 = [65] from by decide]; simp [encs, encL, fld, Ins.get]) hG.check)
  have HII := hideIt (show ∀ w1, Fr (fun _ => False) (w.alloc (.cells (icells ⟨5, a, b, c, n, s⟩) 40)) w1 → InsAt w1 w.heap.size ⟨5, a, b, c, n, s⟩ from fun w1 hF => (hF.block w.heap.size (by simp) (fun e => e)).trans (heap_new rfl))
  clear hG
  unfold icells hasV at *
  go_enter Tryz.func33, Tryz.ntmps33
  go_wp2_with fail
  refine Calls.mono (HC.out _) ?_
  rintro e w1 ⟨rfl, hF1⟩
  have HF1 := hideIt (((Fr.refl (fun _ => False) w).alloc _).trans hF1 (fun _ _ e => e))
  have hI := HII.out _ hF1
  have hlt : w.heap.size < w1.heap.size := hI.lt
  have c0 := hI.c0
  dsimp only at c0
  have HI := hideIt hI
  clear hF1 hI
  go_wp2_with fail
  refine Calls.mono (HH.out _) ?_
  rintro e wx ⟨rfl, rfl⟩
  go_wp2_with fail
  have hnb : ∀ k, ¬ blk none k := fun k ⟨_, e, _⟩ => by cases e
  have HW0 := hideIt (show WS w ⟨5, a, b, c, n, s⟩ wx.heap.size (wx.alloc (.cells #[.slice none 0 0, .bool false] 84)) [] from ⟨none, 0, ⟨heap_new rfl, World.ownsRow_nil _ _ _ _, hnb _⟩, HF1.out.alloc _, HI.out.fr ((Fr.refl (fun _ => False) _).alloc _) (fun e => e), hlt, fun k hk => absurd hk (hnb k)⟩)
  clear hnb c0
  refine Calls.mono (ws_int HW0.out 5 (by decide) (by decide) (by simp)) ?_
  rintro e w2 ⟨rfl, hW⟩
  have HW1 := hideIt hW
  obtain ⟨_, _, _, _, hI, _⟩ := hW
  have c1 := hI.c1
  dsimp only at c1
  clear hI
  go_wp2_with fail
  clear c1
  refine Calls.mono (ws_int HW1.out a (by omega) (by omega) (by simp)) ?_
  rintro e w3 ⟨rfl, hW⟩
  have HW2 := hideIt hW
  clear hW
  go_wp2_with fail
  refine Calls.mono (ws_out HW2.out (by simp)) ?_
  rintro e wz ⟨ao, cap, rfl, hbs, hF, hn⟩
  rw [← HE.out.1] at hbs
  have HQ := hideIt (And.intro hbs (And.intro hF hn))
  have HLN := hideIt (show (codeI ⟨5, a, b, c, n, s⟩).length = _ from congrArg List.length HE.out.1)
  clear hbs hF hn
  go_wp2_with fail
  go_ret2
  exact ⟨ao, cap, by rw [HLN.out, HE.out.2]; simp, HQ.out.1, HQ.out.2⟩

set_option maxRecDepth 100000 in
set_option maxHeartbeats 2000000 in
theorem vbytes_6 (a b c n : Int) (s : ByteArray) (hG : Good ⟨6, a, b, c, n, s⟩ 6) (w : World) : Calls Tryz.prog 33 #[.agg (icells ⟨6, a, b, c, n, s⟩)] w (VBytesP ⟨6, a, b, c, n, s⟩ w) := by
  have HC := hideIt (fun w => by have := vcheck_any ⟨6, a, b, c, n, s⟩ w; rw [vchk_eq, hG.check] at this; exact this)
  have HH := hideIt (fun w => by have := vhas_any 6 w; rw [show hasT 6 = (true, true, true, true, false) from rfl] at this; exact this)
  have ra := (fb1 ⟨6, a, b, c, n, s⟩).1 (hG.fit 65 (by decide))
  dsimp only at ra
  have rb := (fb2 ⟨6, a, b, c, n, s⟩).1 (hG.fit 66 (by decide))
  dsimp only at rb
  have rc := (fb3 ⟨6, a, b, c, n, s⟩).1 (hG.fit 67 (by decide))
  dsimp only at rc
  have rn := (fb4 ⟨6, a, b, c, n, s⟩).1 (hG.fit 69 (by decide))
  dsimp only at rn
  have HE := hideIt (And.intro (show codeI ⟨6, a, b, c, n, s⟩ = [] ++ [UInt8.ofNat (6 : Int).toNat] ++ [UInt8.ofNat a.toNat] ++ [UInt8.ofNat b.toNat] ++ [UInt8.ofNat c.toNat] ++ [UInt8.ofNat n.toNat] by rw [hG.code, show ltrs 6 = [65, 66, 67, 69] from by decide]; simp [encs, encL, fld, Ins.get]) hG.check)
  have HII := hideIt (show ∀ w1, Fr (fun _ => False) (w.alloc (.cells (icells ⟨6, a, b, c, n, s⟩) 40)) w1 → InsAt w1 w.heap.size ⟨6, a, b, c, n, s⟩ from fun w1 hF => (hF.block w.heap.size (by simp) (fun e => e)).trans (heap_new rfl))
  clear hG
  unfold icells hasV at *
  go_enter Tryz.func33, Tryz.ntmps33
  go_wp2_with fail
  refine Calls.mono (HC.out _) ?_
  rintro e w1 ⟨rfl, hF1⟩
  have HF1 := hideIt (((Fr.refl (fun _ => False) w).alloc _).trans hF1 (fun _ _ e => e))
  have hI := HII.out _ hF1
  have hlt : w.heap.size < w1.heap.size := hI.lt
  have c0 := hI.c0
  dsimp only at c0
  have HI := hideIt hI
  clear hF1 hI
  go_wp2_with fail
  refine Calls.mono (HH.out _) ?_
  rintro e wx ⟨rfl, rfl⟩
  go_wp2_with fail
  have hnb : ∀ k, ¬ blk none k := fun k ⟨_, e, _⟩ => by cases e
  have HW0 := hideIt (show WS w ⟨6, a, b, c, n, s⟩ wx.heap.size (wx.alloc (.cells #[.slice none 0 0, .bool false] 84)) [] from ⟨none, 0, ⟨heap_new rfl, World.ownsRow_nil _ _ _ _, hnb _⟩, HF1.out.alloc _, HI.out.fr ((Fr.refl (fun _ => False) _).alloc _) (fun e => e), hlt, fun k hk => absurd hk (hnb k)⟩)
  clear hnb c0
  refine Calls.mono (ws_int HW0.out 6 (by decide) (by decide) (by simp)) ?_
  rintro e w2 ⟨rfl, hW⟩
  have HW1 := hideIt hW
  obtain ⟨_, _, _, _, hI, _⟩ := hW
  have c1 := hI.c1
  dsimp only at c1
  clear hI
  go_wp2_with fail
  clear c1
  refine Calls.mono (ws_int HW1.out a (by omega) (by omega) (by simp)) ?_
  rintro e w3 ⟨rfl, hW⟩
  have HW2 := hideIt hW
  obtain ⟨_, _, _, _, hI, _⟩ := hW
  have c2 := hI.c2
  dsimp only at c2
  clear hI
  go_wp2_with fail
  clear c2
  refine Calls.mono (ws_int HW2.out b (by omega) (by omega) (by simp)) ?_
  rintro e w4 ⟨rfl, hW⟩
  have HW3 := hideIt hW
  obtain ⟨_, _, _, _, hI, _⟩ := hW
  have c3 := hI.c3
  dsimp only at c3
  clear hI
  go_wp2_with fail
  clear c3
  refine Calls.mono (ws_int HW3.out c (by omega) (by omega) (by simp)) ?_
  rintro e w5 ⟨rfl, hW⟩
  have HW4 := hideIt hW
  obtain ⟨_, _, _, _, hI, _⟩ := hW
  have c4 := hI.c4
  dsimp only at c4
  clear hI
  go_wp2_with fail
  clear c4
  refine Calls.mono (ws_int HW4.out n (by omega) (by omega) (by simp)) ?_
  rintro e w6 ⟨rfl, hW⟩
  have HW5 := hideIt hW
  clear hW
  go_wp2_with fail
  refine Calls.mono (ws_out HW5.out (by simp)) ?_
  rintro e wz ⟨ao, cap, rfl, hbs, hF, hn⟩
  rw [← HE.out.1] at hbs
  have HQ := hideIt (And.intro hbs (And.intro hF hn))
  have HLN := hideIt (show (codeI ⟨6, a, b, c, n, s⟩).length = _ from congrArg List.length HE.out.1)
  clear hbs hF hn
  go_wp2_with fail
  go_ret2
  exact ⟨ao, cap, by rw [HLN.out, HE.out.2]; simp, HQ.out.1, HQ.out.2⟩

set_option maxRecDepth 100000 in
set_option maxHeartbeats 2000000 in
theorem vbytes_7 (a b c n : Int) (s : ByteArray) (hG : Good ⟨7, a, b, c, n, s⟩ 7) (w : World) : Calls Tryz.prog 33 #[.agg (icells ⟨7, a, b, c, n, s⟩)] w (VBytesP ⟨7, a, b, c, n, s⟩ w) := by
  have HC := hideIt (fun w => by have := vcheck_any ⟨7, a, b, c, n, s⟩ w; rw [vchk_eq, hG.check] at this; exact this)
  have HH := hideIt (fun w => by have := vhas_any 7 w; rw [show hasT 7 = (true, true, true, false, false) from rfl] at this; exact this)
  have ra := (fb1 ⟨7, a, b, c, n, s⟩).1 (hG.fit 65 (by decide))
  dsimp only at ra
  have rb := (fb2 ⟨7, a, b, c, n, s⟩).1 (hG.fit 66 (by decide))
  dsimp only at rb
  have rc := (fb3 ⟨7, a, b, c, n, s⟩).1 (hG.fit 67 (by decide))
  dsimp only at rc
  have HE := hideIt (And.intro (show codeI ⟨7, a, b, c, n, s⟩ = [] ++ [UInt8.ofNat (7 : Int).toNat] ++ [UInt8.ofNat a.toNat] ++ [UInt8.ofNat b.toNat] ++ [UInt8.ofNat c.toNat] by rw [hG.code, show ltrs 7 = [65, 66, 67] from by decide]; simp [encs, encL, fld, Ins.get]) hG.check)
  have HII := hideIt (show ∀ w1, Fr (fun _ => False) (w.alloc (.cells (icells ⟨7, a, b, c, n, s⟩) 40)) w1 → InsAt w1 w.heap.size ⟨7, a, b, c, n, s⟩ from fun w1 hF => (hF.block w.heap.size (by simp) (fun e => e)).trans (heap_new rfl))
  clear hG
  unfold icells hasV at *
  go_enter Tryz.func33, Tryz.ntmps33
  go_wp2_with fail
  refine Calls.mono (HC.out _) ?_
  rintro e w1 ⟨rfl, hF1⟩
  have HF1 := hideIt (((Fr.refl (fun _ => False) w).alloc _).trans hF1 (fun _ _ e => e))
  have hI := HII.out _ hF1
  have hlt : w.heap.size < w1.heap.size := hI.lt
  have c0 := hI.c0
  dsimp only at c0
  have HI := hideIt hI
  clear hF1 hI
  go_wp2_with fail
  refine Calls.mono (HH.out _) ?_
  rintro e wx ⟨rfl, rfl⟩
  go_wp2_with fail
  have hnb : ∀ k, ¬ blk none k := fun k ⟨_, e, _⟩ => by cases e
  have HW0 := hideIt (show WS w ⟨7, a, b, c, n, s⟩ wx.heap.size (wx.alloc (.cells #[.slice none 0 0, .bool false] 84)) [] from ⟨none, 0, ⟨heap_new rfl, World.ownsRow_nil _ _ _ _, hnb _⟩, HF1.out.alloc _, HI.out.fr ((Fr.refl (fun _ => False) _).alloc _) (fun e => e), hlt, fun k hk => absurd hk (hnb k)⟩)
  clear hnb c0
  refine Calls.mono (ws_int HW0.out 7 (by decide) (by decide) (by simp)) ?_
  rintro e w2 ⟨rfl, hW⟩
  have HW1 := hideIt hW
  obtain ⟨_, _, _, _, hI, _⟩ := hW
  have c1 := hI.c1
  dsimp only at c1
  clear hI
  go_wp2_with fail
  clear c1
  refine Calls.mono (ws_int HW1.out a (by omega) (by omega) (by simp)) ?_
  rintro e w3 ⟨rfl, hW⟩
  have HW2 := hideIt hW
  obtain ⟨_, _, _, _, hI, _⟩ := hW
  have c2 := hI.c2
  dsimp only at c2
  clear hI
  go_wp2_with fail
  clear c2
  refine Calls.mono (ws_int HW2.out b (by omega) (by omega) (by simp)) ?_
  rintro e w4 ⟨rfl, hW⟩
  have HW3 := hideIt hW
  obtain ⟨_, _, _, _, hI, _⟩ := hW
  have c3 := hI.c3
  dsimp only at c3
  clear hI
  go_wp2_with fail
  clear c3
  refine Calls.mono (ws_int HW3.out c (by omega) (by omega) (by simp)) ?_
  rintro e w5 ⟨rfl, hW⟩
  have HW4 := hideIt hW
  clear hW
  go_wp2_with fail
  refine Calls.mono (ws_out HW4.out (by simp)) ?_
  rintro e wz ⟨ao, cap, rfl, hbs, hF, hn⟩
  rw [← HE.out.1] at hbs
  have HQ := hideIt (And.intro hbs (And.intro hF hn))
  have HLN := hideIt (show (codeI ⟨7, a, b, c, n, s⟩).length = _ from congrArg List.length HE.out.1)
  clear hbs hF hn
  go_wp2_with fail
  go_ret2
  exact ⟨ao, cap, by rw [HLN.out, HE.out.2]; simp, HQ.out.1, HQ.out.2⟩

set_option maxRecDepth 100000 in
set_option maxHeartbeats 2000000 in
theorem vbytes_8 (a b c n : Int) (s : ByteArray) (hG : Good ⟨8, a, b, c, n, s⟩ 8) (w : World) : Calls Tryz.prog 33 #[.agg (icells ⟨8, a, b, c, n, s⟩)] w (VBytesP ⟨8, a, b, c, n, s⟩ w) := by
  have HC := hideIt (fun w => by have := vcheck_any ⟨8, a, b, c, n, s⟩ w; rw [vchk_eq, hG.check] at this; exact this)
  have HH := hideIt (fun w => by have := vhas_any 8 w; rw [show hasT 8 = (true, true, true, false, false) from rfl] at this; exact this)
  have ra := (fb1 ⟨8, a, b, c, n, s⟩).1 (hG.fit 65 (by decide))
  dsimp only at ra
  have rb := (fb2 ⟨8, a, b, c, n, s⟩).1 (hG.fit 66 (by decide))
  dsimp only at rb
  have rc := (fb3 ⟨8, a, b, c, n, s⟩).1 (hG.fit 67 (by decide))
  dsimp only at rc
  have HE := hideIt (And.intro (show codeI ⟨8, a, b, c, n, s⟩ = [] ++ [UInt8.ofNat (8 : Int).toNat] ++ [UInt8.ofNat a.toNat] ++ [UInt8.ofNat b.toNat] ++ [UInt8.ofNat c.toNat] by rw [hG.code, show ltrs 8 = [65, 66, 67] from by decide]; simp [encs, encL, fld, Ins.get]) hG.check)
  have HII := hideIt (show ∀ w1, Fr (fun _ => False) (w.alloc (.cells (icells ⟨8, a, b, c, n, s⟩) 40)) w1 → InsAt w1 w.heap.size ⟨8, a, b, c, n, s⟩ from fun w1 hF => (hF.block w.heap.size (by simp) (fun e => e)).trans (heap_new rfl))
  clear hG
  unfold icells hasV at *
  go_enter Tryz.func33, Tryz.ntmps33
  go_wp2_with fail
  refine Calls.mono (HC.out _) ?_
  rintro e w1 ⟨rfl, hF1⟩
  have HF1 := hideIt (((Fr.refl (fun _ => False) w).alloc _).trans hF1 (fun _ _ e => e))
  have hI := HII.out _ hF1
  have hlt : w.heap.size < w1.heap.size := hI.lt
  have c0 := hI.c0
  dsimp only at c0
  have HI := hideIt hI
  clear hF1 hI
  go_wp2_with fail
  refine Calls.mono (HH.out _) ?_
  rintro e wx ⟨rfl, rfl⟩
  go_wp2_with fail
  have hnb : ∀ k, ¬ blk none k := fun k ⟨_, e, _⟩ => by cases e
  have HW0 := hideIt (show WS w ⟨8, a, b, c, n, s⟩ wx.heap.size (wx.alloc (.cells #[.slice none 0 0, .bool false] 84)) [] from ⟨none, 0, ⟨heap_new rfl, World.ownsRow_nil _ _ _ _, hnb _⟩, HF1.out.alloc _, HI.out.fr ((Fr.refl (fun _ => False) _).alloc _) (fun e => e), hlt, fun k hk => absurd hk (hnb k)⟩)
  clear hnb c0
  refine Calls.mono (ws_int HW0.out 8 (by decide) (by decide) (by simp)) ?_
  rintro e w2 ⟨rfl, hW⟩
  have HW1 := hideIt hW
  obtain ⟨_, _, _, _, hI, _⟩ := hW
  have c1 := hI.c1
  dsimp only at c1
  clear hI
  go_wp2_with fail
  clear c1
  refine Calls.mono (ws_int HW1.out a (by omega) (by omega) (by simp)) ?_
  rintro e w3 ⟨rfl, hW⟩
  have HW2 := hideIt hW
  obtain ⟨_, _, _, _, hI, _⟩ := hW
  have c2 := hI.c2
  dsimp only at c2
  clear hI
  go_wp2_with fail
  clear c2
  refine Calls.mono (ws_int HW2.out b (by omega) (by omega) (by simp)) ?_
  rintro e w4 ⟨rfl, hW⟩
  have HW3 := hideIt hW
  obtain ⟨_, _, _, _, hI, _⟩ := hW
  have c3 := hI.c3
  dsimp only at c3
  clear hI
  go_wp2_with fail
  clear c3
  refine Calls.mono (ws_int HW3.out c (by omega) (by omega) (by simp)) ?_
  rintro e w5 ⟨rfl, hW⟩
  have HW4 := hideIt hW
  clear hW
  go_wp2_with fail
  refine Calls.mono (ws_out HW4.out (by simp)) ?_
  rintro e wz ⟨ao, cap, rfl, hbs, hF, hn⟩
  rw [← HE.out.1] at hbs
  have HQ := hideIt (And.intro hbs (And.intro hF hn))
  have HLN := hideIt (show (codeI ⟨8, a, b, c, n, s⟩).length = _ from congrArg List.length HE.out.1)
  clear hbs hF hn
  go_wp2_with fail
  go_ret2
  exact ⟨ao, cap, by rw [HLN.out, HE.out.2]; simp, HQ.out.1, HQ.out.2⟩

set_option maxRecDepth 100000 in
set_option maxHeartbeats 2000000 in
theorem vbytes_9 (a b c n : Int) (s : ByteArray) (hG : Good ⟨9, a, b, c, n, s⟩ 9) (w : World) : Calls Tryz.prog 33 #[.agg (icells ⟨9, a, b, c, n, s⟩)] w (VBytesP ⟨9, a, b, c, n, s⟩ w) := by
  have HC := hideIt (fun w => by have := vcheck_any ⟨9, a, b, c, n, s⟩ w; rw [vchk_eq, hG.check] at this; exact this)
  have HH := hideIt (fun w => by have := vhas_any 9 w; rw [show hasT 9 = (true, true, true, false, false) from rfl] at this; exact this)
  have ra := (fb1 ⟨9, a, b, c, n, s⟩).1 (hG.fit 65 (by decide))
  dsimp only at ra
  have rb := (fb2 ⟨9, a, b, c, n, s⟩).1 (hG.fit 66 (by decide))
  dsimp only at rb
  have rc := (fb3 ⟨9, a, b, c, n, s⟩).1 (hG.fit 67 (by decide))
  dsimp only at rc
  have HE := hideIt (And.intro (show codeI ⟨9, a, b, c, n, s⟩ = [] ++ [UInt8.ofNat (9 : Int).toNat] ++ [UInt8.ofNat a.toNat] ++ [UInt8.ofNat b.toNat] ++ [UInt8.ofNat c.toNat] by rw [hG.code, show ltrs 9 = [65, 66, 67] from by decide]; simp [encs, encL, fld, Ins.get]) hG.check)
  have HII := hideIt (show ∀ w1, Fr (fun _ => False) (w.alloc (.cells (icells ⟨9, a, b, c, n, s⟩) 40)) w1 → InsAt w1 w.heap.size ⟨9, a, b, c, n, s⟩ from fun w1 hF => (hF.block w.heap.size (by simp) (fun e => e)).trans (heap_new rfl))
  clear hG
  unfold icells hasV at *
  go_enter Tryz.func33, Tryz.ntmps33
  go_wp2_with fail
  refine Calls.mono (HC.out _) ?_
  rintro e w1 ⟨rfl, hF1⟩
  have HF1 := hideIt (((Fr.refl (fun _ => False) w).alloc _).trans hF1 (fun _ _ e => e))
  have hI := HII.out _ hF1
  have hlt : w.heap.size < w1.heap.size := hI.lt
  have c0 := hI.c0
  dsimp only at c0
  have HI := hideIt hI
  clear hF1 hI
  go_wp2_with fail
  refine Calls.mono (HH.out _) ?_
  rintro e wx ⟨rfl, rfl⟩
  go_wp2_with fail
  have hnb : ∀ k, ¬ blk none k := fun k ⟨_, e, _⟩ => by cases e
  have HW0 := hideIt (show WS w ⟨9, a, b, c, n, s⟩ wx.heap.size (wx.alloc (.cells #[.slice none 0 0, .bool false] 84)) [] from ⟨none, 0, ⟨heap_new rfl, World.ownsRow_nil _ _ _ _, hnb _⟩, HF1.out.alloc _, HI.out.fr ((Fr.refl (fun _ => False) _).alloc _) (fun e => e), hlt, fun k hk => absurd hk (hnb k)⟩)
  clear hnb c0
  refine Calls.mono (ws_int HW0.out 9 (by decide) (by decide) (by simp)) ?_
  rintro e w2 ⟨rfl, hW⟩
  have HW1 := hideIt hW
  obtain ⟨_, _, _, _, hI, _⟩ := hW
  have c1 := hI.c1
  dsimp only at c1
  clear hI
  go_wp2_with fail
  clear c1
  refine Calls.mono (ws_int HW1.out a (by omega) (by omega) (by simp)) ?_
  rintro e w3 ⟨rfl, hW⟩
  have HW2 := hideIt hW
  obtain ⟨_, _, _, _, hI, _⟩ := hW
  have c2 := hI.c2
  dsimp only at c2
  clear hI
  go_wp2_with fail
  clear c2
  refine Calls.mono (ws_int HW2.out b (by omega) (by omega) (by simp)) ?_
  rintro e w4 ⟨rfl, hW⟩
  have HW3 := hideIt hW
  obtain ⟨_, _, _, _, hI, _⟩ := hW
  have c3 := hI.c3
  dsimp only at c3
  clear hI
  go_wp2_with fail
  clear c3
  refine Calls.mono (ws_int HW3.out c (by omega) (by omega) (by simp)) ?_
  rintro e w5 ⟨rfl, hW⟩
  have HW4 := hideIt hW
  clear hW
  go_wp2_with fail
  refine Calls.mono (ws_out HW4.out (by simp)) ?_
  rintro e wz ⟨ao, cap, rfl, hbs, hF, hn⟩
  rw [← HE.out.1] at hbs
  have HQ := hideIt (And.intro hbs (And.intro hF hn))
  have HLN := hideIt (show (codeI ⟨9, a, b, c, n, s⟩).length = _ from congrArg List.length HE.out.1)
  clear hbs hF hn
  go_wp2_with fail
  go_ret2
  exact ⟨ao, cap, by rw [HLN.out, HE.out.2]; simp, HQ.out.1, HQ.out.2⟩

set_option maxRecDepth 100000 in
set_option maxHeartbeats 2000000 in
theorem vbytes_10 (a b c n : Int) (s : ByteArray) (hG : Good ⟨10, a, b, c, n, s⟩ 10) (w : World) : Calls Tryz.prog 33 #[.agg (icells ⟨10, a, b, c, n, s⟩)] w (VBytesP ⟨10, a, b, c, n, s⟩ w) := by
  have HC := hideIt (fun w => by have := vcheck_any ⟨10, a, b, c, n, s⟩ w; rw [vchk_eq, hG.check] at this; exact this)
  have HH := hideIt (fun w => by have := vhas_any 10 w; rw [show hasT 10 = (true, true, true, false, false) from rfl] at this; exact this)
  have ra := (fb1 ⟨10, a, b, c, n, s⟩).1 (hG.fit 65 (by decide))
  dsimp only at ra
  have rb := (fb2 ⟨10, a, b, c, n, s⟩).1 (hG.fit 66 (by decide))
  dsimp only at rb
  have rc := (fb3 ⟨10, a, b, c, n, s⟩).1 (hG.fit 67 (by decide))
  dsimp only at rc
  have HE := hideIt (And.intro (show codeI ⟨10, a, b, c, n, s⟩ = [] ++ [UInt8.ofNat (10 : Int).toNat] ++ [UInt8.ofNat a.toNat] ++ [UInt8.ofNat b.toNat] ++ [UInt8.ofNat c.toNat] by rw [hG.code, show ltrs 10 = [65, 66, 67] from by decide]; simp [encs, encL, fld, Ins.get]) hG.check)
  have HII := hideIt (show ∀ w1, Fr (fun _ => False) (w.alloc (.cells (icells ⟨10, a, b, c, n, s⟩) 40)) w1 → InsAt w1 w.heap.size ⟨10, a, b, c, n, s⟩ from fun w1 hF => (hF.block w.heap.size (by simp) (fun e => e)).trans (heap_new rfl))
  clear hG
  unfold icells hasV at *
  go_enter Tryz.func33, Tryz.ntmps33
  go_wp2_with fail
  refine Calls.mono (HC.out _) ?_
  rintro e w1 ⟨rfl, hF1⟩
  have HF1 := hideIt (((Fr.refl (fun _ => False) w).alloc _).trans hF1 (fun _ _ e => e))
  have hI := HII.out _ hF1
  have hlt : w.heap.size < w1.heap.size := hI.lt
  have c0 := hI.c0
  dsimp only at c0
  have HI := hideIt hI
  clear hF1 hI
  go_wp2_with fail
  refine Calls.mono (HH.out _) ?_
  rintro e wx ⟨rfl, rfl⟩
  go_wp2_with fail
  have hnb : ∀ k, ¬ blk none k := fun k ⟨_, e, _⟩ => by cases e
  have HW0 := hideIt (show WS w ⟨10, a, b, c, n, s⟩ wx.heap.size (wx.alloc (.cells #[.slice none 0 0, .bool false] 84)) [] from ⟨none, 0, ⟨heap_new rfl, World.ownsRow_nil _ _ _ _, hnb _⟩, HF1.out.alloc _, HI.out.fr ((Fr.refl (fun _ => False) _).alloc _) (fun e => e), hlt, fun k hk => absurd hk (hnb k)⟩)
  clear hnb c0
  refine Calls.mono (ws_int HW0.out 10 (by decide) (by decide) (by simp)) ?_
  rintro e w2 ⟨rfl, hW⟩
  have HW1 := hideIt hW
  obtain ⟨_, _, _, _, hI, _⟩ := hW
  have c1 := hI.c1
  dsimp only at c1
  clear hI
  go_wp2_with fail
  clear c1
  refine Calls.mono (ws_int HW1.out a (by omega) (by omega) (by simp)) ?_
  rintro e w3 ⟨rfl, hW⟩
  have HW2 := hideIt hW
  obtain ⟨_, _, _, _, hI, _⟩ := hW
  have c2 := hI.c2
  dsimp only at c2
  clear hI
  go_wp2_with fail
  clear c2
  refine Calls.mono (ws_int HW2.out b (by omega) (by omega) (by simp)) ?_
  rintro e w4 ⟨rfl, hW⟩
  have HW3 := hideIt hW
  obtain ⟨_, _, _, _, hI, _⟩ := hW
  have c3 := hI.c3
  dsimp only at c3
  clear hI
  go_wp2_with fail
  clear c3
  refine Calls.mono (ws_int HW3.out c (by omega) (by omega) (by simp)) ?_
  rintro e w5 ⟨rfl, hW⟩
  have HW4 := hideIt hW
  clear hW
  go_wp2_with fail
  refine Calls.mono (ws_out HW4.out (by simp)) ?_
  rintro e wz ⟨ao, cap, rfl, hbs, hF, hn⟩
  rw [← HE.out.1] at hbs
  have HQ := hideIt (And.intro hbs (And.intro hF hn))
  have HLN := hideIt (show (codeI ⟨10, a, b, c, n, s⟩).length = _ from congrArg List.length HE.out.1)
  clear hbs hF hn
  go_wp2_with fail
  go_ret2
  exact ⟨ao, cap, by rw [HLN.out, HE.out.2]; simp, HQ.out.1, HQ.out.2⟩

set_option maxRecDepth 100000 in
set_option maxHeartbeats 2000000 in
theorem vbytes_11 (a b c n : Int) (s : ByteArray) (hG : Good ⟨11, a, b, c, n, s⟩ 11) (w : World) : Calls Tryz.prog 33 #[.agg (icells ⟨11, a, b, c, n, s⟩)] w (VBytesP ⟨11, a, b, c, n, s⟩ w) := by
  have HC := hideIt (fun w => by have := vcheck_any ⟨11, a, b, c, n, s⟩ w; rw [vchk_eq, hG.check] at this; exact this)
  have HH := hideIt (fun w => by have := vhas_any 11 w; rw [show hasT 11 = (true, true, true, false, false) from rfl] at this; exact this)
  have ra := (fb1 ⟨11, a, b, c, n, s⟩).1 (hG.fit 65 (by decide))
  dsimp only at ra
  have rb := (fb2 ⟨11, a, b, c, n, s⟩).1 (hG.fit 66 (by decide))
  dsimp only at rb
  have rc := (fb3 ⟨11, a, b, c, n, s⟩).1 (hG.fit 67 (by decide))
  dsimp only at rc
  have HE := hideIt (And.intro (show codeI ⟨11, a, b, c, n, s⟩ = [] ++ [UInt8.ofNat (11 : Int).toNat] ++ [UInt8.ofNat a.toNat] ++ [UInt8.ofNat b.toNat] ++ [UInt8.ofNat c.toNat] by rw [hG.code, show ltrs 11 = [65, 66, 67] from by decide]; simp [encs, encL, fld, Ins.get]) hG.check)
  have HII := hideIt (show ∀ w1, Fr (fun _ => False) (w.alloc (.cells (icells ⟨11, a, b, c, n, s⟩) 40)) w1 → InsAt w1 w.heap.size ⟨11, a, b, c, n, s⟩ from fun w1 hF => (hF.block w.heap.size (by simp) (fun e => e)).trans (heap_new rfl))
  clear hG
  unfold icells hasV at *
  go_enter Tryz.func33, Tryz.ntmps33
  go_wp2_with fail
  refine Calls.mono (HC.out _) ?_
  rintro e w1 ⟨rfl, hF1⟩
  have HF1 := hideIt (((Fr.refl (fun _ => False) w).alloc _).trans hF1 (fun _ _ e => e))
  have hI := HII.out _ hF1
  have hlt : w.heap.size < w1.heap.size := hI.lt
  have c0 := hI.c0
  dsimp only at c0
  have HI := hideIt hI
  clear hF1 hI
  go_wp2_with fail
  refine Calls.mono (HH.out _) ?_
  rintro e wx ⟨rfl, rfl⟩
  go_wp2_with fail
  have hnb : ∀ k, ¬ blk none k := fun k ⟨_, e, _⟩ => by cases e
  have HW0 := hideIt (show WS w ⟨11, a, b, c, n, s⟩ wx.heap.size (wx.alloc (.cells #[.slice none 0 0, .bool false] 84)) [] from ⟨none, 0, ⟨heap_new rfl, World.ownsRow_nil _ _ _ _, hnb _⟩, HF1.out.alloc _, HI.out.fr ((Fr.refl (fun _ => False) _).alloc _) (fun e => e), hlt, fun k hk => absurd hk (hnb k)⟩)
  clear hnb c0
  refine Calls.mono (ws_int HW0.out 11 (by decide) (by decide) (by simp)) ?_
  rintro e w2 ⟨rfl, hW⟩
  have HW1 := hideIt hW
  obtain ⟨_, _, _, _, hI, _⟩ := hW
  have c1 := hI.c1
  dsimp only at c1
  clear hI
  go_wp2_with fail
  clear c1
  refine Calls.mono (ws_int HW1.out a (by omega) (by omega) (by simp)) ?_
  rintro e w3 ⟨rfl, hW⟩
  have HW2 := hideIt hW
  obtain ⟨_, _, _, _, hI, _⟩ := hW
  have c2 := hI.c2
  dsimp only at c2
  clear hI
  go_wp2_with fail
  clear c2
  refine Calls.mono (ws_int HW2.out b (by omega) (by omega) (by simp)) ?_
  rintro e w4 ⟨rfl, hW⟩
  have HW3 := hideIt hW
  obtain ⟨_, _, _, _, hI, _⟩ := hW
  have c3 := hI.c3
  dsimp only at c3
  clear hI
  go_wp2_with fail
  clear c3
  refine Calls.mono (ws_int HW3.out c (by omega) (by omega) (by simp)) ?_
  rintro e w5 ⟨rfl, hW⟩
  have HW4 := hideIt hW
  clear hW
  go_wp2_with fail
  refine Calls.mono (ws_out HW4.out (by simp)) ?_
  rintro e wz ⟨ao, cap, rfl, hbs, hF, hn⟩
  rw [← HE.out.1] at hbs
  have HQ := hideIt (And.intro hbs (And.intro hF hn))
  have HLN := hideIt (show (codeI ⟨11, a, b, c, n, s⟩).length = _ from congrArg List.length HE.out.1)
  clear hbs hF hn
  go_wp2_with fail
  go_ret2
  exact ⟨ao, cap, by rw [HLN.out, HE.out.2]; simp, HQ.out.1, HQ.out.2⟩

set_option maxRecDepth 100000 in
set_option maxHeartbeats 2000000 in
theorem vbytes_12 (a b c n : Int) (s : ByteArray) (hG : Good ⟨12, a, b, c, n, s⟩ 12) (w : World) : Calls Tryz.prog 33 #[.agg (icells ⟨12, a, b, c, n, s⟩)] w (VBytesP ⟨12, a, b, c, n, s⟩ w) := by
  have HC := hideIt (fun w => by have := vcheck_any ⟨12, a, b, c, n, s⟩ w; rw [vchk_eq, hG.check] at this; exact this)
  have HH := hideIt (fun w => by have := vhas_any 12 w; rw [show hasT 12 = (true, false, false, true, false) from rfl] at this; exact this)
  have ra := (fb1 ⟨12, a, b, c, n, s⟩).1 (hG.fit 65 (by decide))
  dsimp only at ra
  have rn := (fb5 ⟨12, a, b, c, n, s⟩).1 (hG.fit 80 (by decide))
  dsimp only at rn
  have HE := hideIt (And.intro (show codeI ⟨12, a, b, c, n, s⟩ = [] ++ [UInt8.ofNat (12 : Int).toNat] ++ [UInt8.ofNat a.toNat] ++ [UInt8.ofNat n.toNat] by rw [hG.code, show ltrs 12 = [65, 80] from by decide]; simp [encs, encL, fld, Ins.get]) hG.check)
  have HII := hideIt (show ∀ w1, Fr (fun _ => False) (w.alloc (.cells (icells ⟨12, a, b, c, n, s⟩) 40)) w1 → InsAt w1 w.heap.size ⟨12, a, b, c, n, s⟩ from fun w1 hF => (hF.block w.heap.size (by simp) (fun e => e)).trans (heap_new rfl))
  clear hG
  unfold icells hasV at *
  go_enter Tryz.func33, Tryz.ntmps33
  go_wp2_with fail
  refine Calls.mono (HC.out _) ?_
  rintro e w1 ⟨rfl, hF1⟩
  have HF1 := hideIt (((Fr.refl (fun _ => False) w).alloc _).trans hF1 (fun _ _ e => e))
  have hI := HII.out _ hF1
  have hlt : w.heap.size < w1.heap.size := hI.lt
  have c0 := hI.c0
  dsimp only at c0
  have HI := hideIt hI
  clear hF1 hI
  go_wp2_with fail
  refine Calls.mono (HH.out _) ?_
  rintro e wx ⟨rfl, rfl⟩
  go_wp2_with fail
  have hnb : ∀ k, ¬ blk none k := fun k ⟨_, e, _⟩ => by cases e
  have HW0 := hideIt (show WS w ⟨12, a, b, c, n, s⟩ wx.heap.size (wx.alloc (.cells #[.slice none 0 0, .bool false] 84)) [] from ⟨none, 0, ⟨heap_new rfl, World.ownsRow_nil _ _ _ _, hnb _⟩, HF1.out.alloc _, HI.out.fr ((Fr.refl (fun _ => False) _).alloc _) (fun e => e), hlt, fun k hk => absurd hk (hnb k)⟩)
  clear hnb c0
  refine Calls.mono (ws_int HW0.out 12 (by decide) (by decide) (by simp)) ?_
  rintro e w2 ⟨rfl, hW⟩
  have HW1 := hideIt hW
  obtain ⟨_, _, _, _, hI, _⟩ := hW
  have c1 := hI.c1
  dsimp only at c1
  clear hI
  go_wp2_with fail
  clear c1
  refine Calls.mono (ws_int HW1.out a (by omega) (by omega) (by simp)) ?_
  rintro e w3 ⟨rfl, hW⟩
  have HW2 := hideIt hW
  obtain ⟨_, _, _, _, hI, _⟩ := hW
  have c2 := hI.c4
  dsimp only at c2
  clear hI
  go_wp2_with fail
  clear c2
  refine Calls.mono (ws_int HW2.out n (by omega) (by omega) (by simp)) ?_
  rintro e w4 ⟨rfl, hW⟩
  have HW3 := hideIt hW
  clear hW
  go_wp2_with fail
  refine Calls.mono (ws_out HW3.out (by simp)) ?_
  rintro e wz ⟨ao, cap, rfl, hbs, hF, hn⟩
  rw [← HE.out.1] at hbs
  have HQ := hideIt (And.intro hbs (And.intro hF hn))
  have HLN := hideIt (show (codeI ⟨12, a, b, c, n, s⟩).length = _ from congrArg List.length HE.out.1)
  clear hbs hF hn
  go_wp2_with fail
  go_ret2
  exact ⟨ao, cap, by rw [HLN.out, HE.out.2]; simp, HQ.out.1, HQ.out.2⟩

set_option maxRecDepth 100000 in
set_option maxHeartbeats 2000000 in
theorem vbytes_13 (a b c n : Int) (s : ByteArray) (hG : Good ⟨13, a, b, c, n, s⟩ 13) (w : World) : Calls Tryz.prog 33 #[.agg (icells ⟨13, a, b, c, n, s⟩)] w (VBytesP ⟨13, a, b, c, n, s⟩ w) := by
  have HC := hideIt (fun w => by have := vcheck_any ⟨13, a, b, c, n, s⟩ w; rw [vchk_eq, hG.check] at this; exact this)
  have HH := hideIt (fun w => by have := vhas_any 13 w; rw [show hasT 13 = (false, false, false, true, false) from rfl] at this; exact this)
  have rn := (fb5 ⟨13, a, b, c, n, s⟩).1 (hG.fit 80 (by decide))
  dsimp only at rn
  have HE := hideIt (And.intro (show codeI ⟨13, a, b, c, n, s⟩ = [] ++ [UInt8.ofNat (13 : Int).toNat] ++ [UInt8.ofNat n.toNat] by rw [hG.code, show ltrs 13 = [80] from by decide]; simp [encs, encL, fld, Ins.get]) hG.check)
  have HII := hideIt (show ∀ w1, Fr (fun _ => False) (w.alloc (.cells (icells ⟨13, a, b, c, n, s⟩) 40)) w1 → InsAt w1 w.heap.size ⟨13, a, b, c, n, s⟩ from fun w1 hF => (hF.block w.heap.size (by simp) (fun e => e)).trans (heap_new rfl))
  clear hG
  unfold icells hasV at *
  go_enter Tryz.func33, Tryz.ntmps33
  go_wp2_with fail
  refine Calls.mono (HC.out _) ?_
  rintro e w1 ⟨rfl, hF1⟩
  have HF1 := hideIt (((Fr.refl (fun _ => False) w).alloc _).trans hF1 (fun _ _ e => e))
  have hI := HII.out _ hF1
  have hlt : w.heap.size < w1.heap.size := hI.lt
  have c0 := hI.c0
  dsimp only at c0
  have HI := hideIt hI
  clear hF1 hI
  go_wp2_with fail
  refine Calls.mono (HH.out _) ?_
  rintro e wx ⟨rfl, rfl⟩
  go_wp2_with fail
  have hnb : ∀ k, ¬ blk none k := fun k ⟨_, e, _⟩ => by cases e
  have HW0 := hideIt (show WS w ⟨13, a, b, c, n, s⟩ wx.heap.size (wx.alloc (.cells #[.slice none 0 0, .bool false] 84)) [] from ⟨none, 0, ⟨heap_new rfl, World.ownsRow_nil _ _ _ _, hnb _⟩, HF1.out.alloc _, HI.out.fr ((Fr.refl (fun _ => False) _).alloc _) (fun e => e), hlt, fun k hk => absurd hk (hnb k)⟩)
  clear hnb c0
  refine Calls.mono (ws_int HW0.out 13 (by decide) (by decide) (by simp)) ?_
  rintro e w2 ⟨rfl, hW⟩
  have HW1 := hideIt hW
  obtain ⟨_, _, _, _, hI, _⟩ := hW
  have c1 := hI.c4
  dsimp only at c1
  clear hI
  go_wp2_with fail
  clear c1
  refine Calls.mono (ws_int HW1.out n (by omega) (by omega) (by simp)) ?_
  rintro e w3 ⟨rfl, hW⟩
  have HW2 := hideIt hW
  clear hW
  go_wp2_with fail
  refine Calls.mono (ws_out HW2.out (by simp)) ?_
  rintro e wz ⟨ao, cap, rfl, hbs, hF, hn⟩
  rw [← HE.out.1] at hbs
  have HQ := hideIt (And.intro hbs (And.intro hF hn))
  have HLN := hideIt (show (codeI ⟨13, a, b, c, n, s⟩).length = _ from congrArg List.length HE.out.1)
  clear hbs hF hn
  go_wp2_with fail
  go_ret2
  exact ⟨ao, cap, by rw [HLN.out, HE.out.2]; simp, HQ.out.1, HQ.out.2⟩

set_option maxRecDepth 100000 in
set_option maxHeartbeats 2000000 in
theorem vbytes_14 (a b c n : Int) (s : ByteArray) (hG : Good ⟨14, a, b, c, n, s⟩ 14) (w : World) : Calls Tryz.prog 33 #[.agg (icells ⟨14, a, b, c, n, s⟩)] w (VBytesP ⟨14, a, b, c, n, s⟩ w) := by
  have HC := hideIt (fun w => by have := vcheck_any ⟨14, a, b, c, n, s⟩ w; rw [vchk_eq, hG.check] at this; exact this)
  have HH := hideIt (fun w => by have := vhas_any 14 w; rw [show hasT 14 = (true, false, false, false, false) from rfl] at this; exact this)
  have ra := (fb1 ⟨14, a, b, c, n, s⟩).1 (hG.fit 65 (by decide))
  dsimp only at ra
  have HE := hideIt (And.intro (show codeI ⟨14, a, b, c, n, s⟩ = [] ++ [UInt8.ofNat (14 : Int).toNat] ++ [UInt8.ofNat a.toNat] by rw [hG.code, show ltrs 14 = [65] from by decide]; simp [encs, encL, fld, Ins.get]) hG.check)
  have HII := hideIt (show ∀ w1, Fr (fun _ => False) (w.alloc (.cells (icells ⟨14, a, b, c, n, s⟩) 40)) w1 → InsAt w1 w.heap.size ⟨14, a, b, c, n, s⟩ from fun w1 hF => (hF.block w.heap.size (by simp) (fun e => e)).trans (heap_new rfl))
  clear hG
  unfold icells hasV at *
  go_enter Tryz.func33, Tryz.ntmps33
  go_wp2_with fail
  refine Calls.mono (HC.out _) ?_
  rintro e w1 ⟨rfl, hF1⟩
  have HF1 := hideIt (((Fr.refl (fun _ => False) w).alloc _).trans hF1 (fun _ _ e => e))
  have hI := HII.out _ hF1
  have hlt : w.heap.size < w1.heap.size := hI.lt
  have c0 := hI.c0
  dsimp only at c0
  have HI := hideIt hI
  clear hF1 hI
  go_wp2_with fail
  refine Calls.mono (HH.out _) ?_
  rintro e wx ⟨rfl, rfl⟩
  go_wp2_with fail
  have hnb : ∀ k, ¬ blk none k := fun k ⟨_, e, _⟩ => by cases e
  have HW0 := hideIt (show WS w ⟨14, a, b, c, n, s⟩ wx.heap.size (wx.alloc (.cells #[.slice none 0 0, .bool false] 84)) [] from ⟨none, 0, ⟨heap_new rfl, World.ownsRow_nil _ _ _ _, hnb _⟩, HF1.out.alloc _, HI.out.fr ((Fr.refl (fun _ => False) _).alloc _) (fun e => e), hlt, fun k hk => absurd hk (hnb k)⟩)
  clear hnb c0
  refine Calls.mono (ws_int HW0.out 14 (by decide) (by decide) (by simp)) ?_
  rintro e w2 ⟨rfl, hW⟩
  have HW1 := hideIt hW
  obtain ⟨_, _, _, _, hI, _⟩ := hW
  have c1 := hI.c1
  dsimp only at c1
  clear hI
  go_wp2_with fail
  clear c1
  refine Calls.mono (ws_int HW1.out a (by omega) (by omega) (by simp)) ?_
  rintro e w3 ⟨rfl, hW⟩
  have HW2 := hideIt hW
  clear hW
  go_wp2_with fail
  refine Calls.mono (ws_out HW2.out (by simp)) ?_
  rintro e wz ⟨ao, cap, rfl, hbs, hF, hn⟩
  rw [← HE.out.1] at hbs
  have HQ := hideIt (And.intro hbs (And.intro hF hn))
  have HLN := hideIt (show (codeI ⟨14, a, b, c, n, s⟩).length = _ from congrArg List.length HE.out.1)
  clear hbs hF hn
  go_wp2_with fail
  go_ret2
  exact ⟨ao, cap, by rw [HLN.out, HE.out.2]; simp, HQ.out.1, HQ.out.2⟩

set_option maxRecDepth 100000 in
set_option maxHeartbeats 2000000 in
theorem vbytes_15 (a b c n : Int) (s : ByteArray) (hG : Good ⟨15, a, b, c, n, s⟩ 15) (w : World) : Calls Tryz.prog 33 #[.agg (icells ⟨15, a, b, c, n, s⟩)] w (VBytesP ⟨15, a, b, c, n, s⟩ w) := by
  have HC := hideIt (fun w => by have := vcheck_any ⟨15, a, b, c, n, s⟩ w; rw [vchk_eq, hG.check] at this; exact this)
  have HH := hideIt (fun w => by have := vhas_any 15 w; rw [show hasT 15 = (false, false, false, false, false) from rfl] at this; exact this)
  have HE := hideIt (And.intro (show codeI ⟨15, a, b, c, n, s⟩ = [] ++ [UInt8.ofNat (15 : Int).toNat] by rw [hG.code, show ltrs 15 = [] from by decide]; simp [encs, encL, fld, Ins.get]) hG.check)
  have HII := hideIt (show ∀ w1, Fr (fun _ => False) (w.alloc (.cells (icells ⟨15, a, b, c, n, s⟩) 40)) w1 → InsAt w1 w.heap.size ⟨15, a, b, c, n, s⟩ from fun w1 hF => (hF.block w.heap.size (by simp) (fun e => e)).trans (heap_new rfl))
  clear hG
  unfold icells hasV at *
  go_enter Tryz.func33, Tryz.ntmps33
  go_wp2_with fail
  refine Calls.mono (HC.out _) ?_
  rintro e w1 ⟨rfl, hF1⟩
  have HF1 := hideIt (((Fr.refl (fun _ => False) w).alloc _).trans hF1 (fun _ _ e => e))
  have hI := HII.out _ hF1
  have hlt : w.heap.size < w1.heap.size := hI.lt
  have c0 := hI.c0
  dsimp only at c0
  have HI := hideIt hI
  clear hF1 hI
  go_wp2_with fail
  refine Calls.mono (HH.out _) ?_
  rintro e wx ⟨rfl, rfl⟩
  go_wp2_with fail
  have hnb : ∀ k, ¬ blk none k := fun k ⟨_, e, _⟩ => by cases e
  have HW0 := hideIt (show WS w ⟨15, a, b, c, n, s⟩ wx.heap.size (wx.alloc (.cells #[.slice none 0 0, .bool false] 84)) [] from ⟨none, 0, ⟨heap_new rfl, World.ownsRow_nil _ _ _ _, hnb _⟩, HF1.out.alloc _, HI.out.fr ((Fr.refl (fun _ => False) _).alloc _) (fun e => e), hlt, fun k hk => absurd hk (hnb k)⟩)
  clear hnb c0
  refine Calls.mono (ws_int HW0.out 15 (by decide) (by decide) (by simp)) ?_
  rintro e w2 ⟨rfl, hW⟩
  have HW1 := hideIt hW
  clear hW
  go_wp2_with fail
  refine Calls.mono (ws_out HW1.out (by simp)) ?_
  rintro e wz ⟨ao, cap, rfl, hbs, hF, hn⟩
  rw [← HE.out.1] at hbs
  have HQ := hideIt (And.intro hbs (And.intro hF hn))
  have HLN := hideIt (show (codeI ⟨15, a, b, c, n, s⟩).length = _ from congrArg List.length HE.out.1)
  clear hbs hF hn
  go_wp2_with fail
  go_ret2
  exact ⟨ao, cap, by rw [HLN.out, HE.out.2]; simp, HQ.out.1, HQ.out.2⟩

theorem vbytes_any (i : Ins) (w : World) : Calls Tryz.prog 33 #[.agg (icells i)] w (VBytesP i w) := by
  rcases checkE_or i with h | h
  · obtain ⟨m, hG⟩ := good_of i h
    obtain ⟨op, a, b, c, n, s⟩ := i
    obtain rfl : op = m := hG.op
    have h1 := hG.lo
    have h2 := hG.hi
    obtain rfl | rfl | rfl | rfl | rfl | rfl | rfl | rfl | rfl | rfl | rfl | rfl | rfl | rfl | rfl : m = 1 ∨ m = 2 ∨ m = 3 ∨ m = 4 ∨ m = 5 ∨ m = 6 ∨ m = 7 ∨ m = 8 ∨ m = 9 ∨ m = 10 ∨ m = 11 ∨ m = 12 ∨ m = 13 ∨ m = 14 ∨ m = 15 := by omega
    · exact vbytes_1 a b c n s hG w
    · exact vbytes_2 a b c n s hG w
    · exact vbytes_3 a b c n s hG w
    · exact vbytes_4 a b c n s hG w
    · exact vbytes_5 a b c n s hG w
    · exact vbytes_6 a b c n s hG w
    · exact vbytes_7 a b c n s hG w
    · exact vbytes_8 a b c n s hG w
    · exact vbytes_9 a b c n s hG w
    · exact vbytes_10 a b c n s hG w
    · exact vbytes_11 a b c n s hG w
    · exact vbytes_12 a b c n s hG w
    · exact vbytes_13 a b c n s hG w
    · exact vbytes_14 a b c n s hG w
    · exact vbytes_15 a b c n s hG w
  · exact vbytes_bad i h w

theorem vsize_any (i : Ins) (w : World) : Calls Tryz.prog 28 #[.agg (icells i)] w fun e w' => e = .returned (.int .i64 (codeI i).length) ∧ Fr (fun _ => False) w w' := by
  have HB := hideIt (vbytes_any i)
  obtain ⟨op, a, b, c, n, s⟩ := i
  unfold icells
  go_enter Tryz.func28, Tryz.ntmps28
  go_wp2_with fail
  refine Calls.mono (HB.out _) ?_
  rintro e w1 ⟨ao, cap, rfl, _, hF, _⟩
  have HF := hideIt hF
  clear hF
  go_wp2_with fail
  go_ret
  exact ⟨rfl, ((Fr.refl _ _).alloc _).trans HF.out (fun _ _ e => e)⟩

end Go.Proofs.YtojgikaoiegmpaaGreatDoor

/- Code: Pick; a copy of bytes. -/
namespace Go.Proofs.YtojgikaoiegmpaaGreatDoor
open Go.RowKit Go.IntWalk Go.Lib
set_option linter.unusedSimpArgs false
set_option linter.unusedVariables false
set_option maxRecDepth 100000

end Go.Proofs.YtojgikaoiegmpaaGreatDoor
