/- WordBounds: a thing that was told, in its box. -/
import Derived.Test.YtmhdinianpeelabP4
namespace Go.Proofs.Ytmhdinianpeelab
open Go.RowKit Go.IntWalk
set_option linter.unusedSimpArgs false
set_option linter.unusedVariables false

theorem thA_from3 (x : Th) (j : Nat) : (thA x)[3 + j]? = (bv x.id)[j]? := by
  rw [show 3 + j = j + 1 + 1 + 1 by omega]
  simp [thA, thL]

theorem zeros_at (j : Nat) (h : j < 32) : (bv zeros32)[j]? = some (.int .u8 0) := by
  have hz : zeros32[j]'(by rw [show zeros32.length = 32 from rfl]; exact h) = 0 := List.getElem_replicate _
  rw [bv_get zeros32 j (by rw [show zeros32.length = 32 from rfl]; exact h), hz]
  rfl

theorem box_of (kk : Int) (w2 W : World) (e : W = (w2.alloc (.cells thZ 35)).setCells w2.heap.size 0 (thA ⟨kk, 0, ⟨#[]⟩, zeros32⟩).toList) :
    W.cell? ⟨w2.heap.size, 1, none⟩ = some (.int .i64 0) ∧ W.cell? ⟨w2.heap.size, 2, none⟩ = some (.string ⟨#[]⟩) ∧ W.rangeAt w2.heap.size 3 (bv zeros32) ∧ Fr (fun _ => False) w2 W := by
  subst e
  have hblk := setCells_full w2.heap.size 35 (thA ⟨kk, 0, ⟨#[]⟩, zeros32⟩).toList (w2.alloc (.cells thZ 35)) thZ (heap_new rfl) rfl
  refine ⟨cellOfHeap hblk 1 rfl, cellOfHeap hblk 2 rfl, fun j v hv => ?_, ((Fr.refl (fun _ => False) w2).alloc _).trans (Fr.setCells _ _ _ _) (fun i hi e => by omega)⟩
  generalize (w2.alloc (.cells thZ 35)).setCells w2.heap.size 0 (thA ⟨kk, 0, ⟨#[]⟩, zeros32⟩).toList = W at *
  rw [cell_of_row _ w2.heap.size (3 + j) _ _ _ hblk, ← hv]
  simpa using thA_from3 ⟨kk, 0, ⟨#[]⟩, zeros32⟩ j

set_option maxRecDepth 100000 in
theorem ids_same (w : World) : (binOp .neq 33 (.agg #[.int .u8 0, .int .u8 0, .int .u8 0, .int .u8 0, .int .u8 0, .int .u8 0, .int .u8 0, .int .u8 0, .int .u8 0, .int .u8 0, .int .u8 0, .int .u8 0, .int .u8 0, .int .u8 0, .int .u8 0, .int .u8 0, .int .u8 0, .int .u8 0, .int .u8 0, .int .u8 0, .int .u8 0, .int .u8 0, .int .u8 0, .int .u8 0, .int .u8 0, .int .u8 0, .int .u8 0, .int .u8 0, .int .u8 0, .int .u8 0, .int .u8 0, .int .u8 0]) (.agg #[.int .u8 0, .int .u8 0, .int .u8 0, .int .u8 0, .int .u8 0, .int .u8 0, .int .u8 0, .int .u8 0, .int .u8 0, .int .u8 0, .int .u8 0, .int .u8 0, .int .u8 0, .int .u8 0, .int .u8 0, .int .u8 0, .int .u8 0, .int .u8 0, .int .u8 0, .int .u8 0, .int .u8 0, .int .u8 0, .int .u8 0, .int .u8 0, .int .u8 0, .int .u8 0, .int .u8 0, .int .u8 0, .int .u8 0, .int .u8 0, .int .u8 0, .int .u8 0])).run Try.prog w = .ok (.bool false) w := by kernel_rfl
set_option maxRecDepth 100000 in
theorem built0 : Try.prog.built 33 [] = some zA := by kernel_rfl

section
variable {P : Program} {ops : Array Oper} {rest : List Oper} {o : Oper} {a : Act} {w : World} {Q : Exit → Act → World → Prop}
theorem wpList_load_want (hw : Region.wanted o (yielded ops a.tmps) = true) (ty : TypeId) (x : Operand) (ho : o.op = .load ty x)
    (b off : Nat) (hx : a.eval x = .pointer (some ⟨b, off, none⟩)) (cs : List Value) (d : TypeDesc) (hc : w.rangeAt b off cs)
    (hu : P.underlying ty = some d) (hd : d.isRow = true) (hi : (P.info? ty).map (·.size) = some cs.length)
    (h : wpList P ops Q rest (a.put o.dst (.agg cs.toArray)) w) : wpList P ops Q (o :: rest) a w :=
  BigFrame.wpList_want hw fun _ hK => wp_load_mid ty x ho b off hx cs d hc hu hd hi (hK _ _ h)
theorem wpList_build_want (hw : Region.wanted o (yielded ops a.tmps) = true) (t : TypeId) (ho : o.op = .build t #[]) (cells : Array Value) (hb : P.built t [] = some cells)
    (h : wpList P ops Q rest (a.put o.dst (.agg cells)) w) : wpList P ops Q (o :: rest) a w := by
  have e : ((#[] : Array (Nat × Operand)).map fun (i, x) => (i, a.eval x)).toList = [] := by simp
  refine BigFrame.wpList_want hw fun _ hK => wp_build t #[] ho (by rw [e, hb]; rfl) (hK _ _ ?_)
  rw [e, hb]
  exact h
theorem wpList_bin_want (hw : Region.wanted o (yielded ops a.tmps) = true) (op : BinOp) (t t' : TypeId) (x y : Operand) (ho : o.op = .binOp op t x y t') (v1 v2 v : Value) (hx : a.eval x = v1) (hy : a.eval y = v2)
    (hrun : (binOp op t v1 v2).run P w = .ok v w) (hg : (eqGuard op t x y v1 v2).run P w = .ok () w)
    (h : wpList P ops Q rest (a.put o.dst v) w) : wpList P ops Q (o :: rest) a w := by
  refine BigFrame.wpList_want hw fun _ hK => ?_
  unfold Oper.wp execOp
  simp only [ho, hx, hy, Sem.run_bind, hg, hrun, Result.andThen_ok, Sem.run_pure]
  exact hK _ _ h
end

set_option maxRecDepth 100000 in
theorem ids_guard (w : World) (x y : Operand) : (eqGuard .neq 33 x y (.agg (bv zeros32).toArray) (.agg zA)).run Try.prog w = .ok () w := by kernel_rfl
theorem ids_same2 (w : World) : (binOp .neq 33 (.agg (bv zeros32).toArray) (.agg zA)).run Try.prog w = .ok (.bool false) w := ids_same w

end Go.Proofs.Ytmhdinianpeelab
