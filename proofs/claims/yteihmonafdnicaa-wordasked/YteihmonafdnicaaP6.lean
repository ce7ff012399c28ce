/- WordTold: laws, and lists that are too long. -/
import Derived.Test.YteihmonafdnicaaD3
import Derived.Test.YteihmonafdnicaaF
import Derived.Stop.BytesEq
import Derived.Deep.RegionHeld2
import Derived.Deep.RegionHeld3
namespace Go.Proofs.Yteihmonafdnicaa
open Go.RowKit Go.IntWalk
set_option linter.unusedSimpArgs false
set_option linter.unusedVariables false

section
variable {P : Program} {ops : Array Oper} {rest : List Oper} {o : Oper} {a : Act} {w : World} {Q : Exit → Act → World → Prop}
theorem wpList_append_want (hw : Region.wanted o (yielded ops a.tmps) = true) (s x : Operand) (t tx : TypeId)
    (ho : o.op = .call { callee := .builtin .append, args := #[s, x], argTypes := #[t, tx] }) (v y v' : Value) (w' : World) (hs : a.eval s = v) (hx : a.eval x = y)
    (hrun : (Builtin.append_ #[t, tx] o.type #[v, y]).run P w = .ok v' w') (hK : wpList P ops Q rest (a.put o.dst v') w') : wpList P ops Q (o :: rest) a w := by
  refine BigFrame.wpList_want hw fun _ hK' => ?_
  unfold Oper.wp
  simp [execOp, ho, resolve, invoke, builtin, hs, hx, hrun, Result.andThen]
  exact hK' _ _ hK
theorem yields_load_mid (ty : TypeId) (x : Operand) (ho : o.op = .load ty x) (b off : Nat) (hx : a.eval x = .pointer (some ⟨b, off, none⟩)) (cs : List Value) (d : TypeDesc) (hc : w.rangeAt b off cs)
    (hu : P.underlying ty = some d) (hd : d.isRow = true) (hi : (P.info? ty).map (·.size) = some cs.length) : (execOp a.eval o).run P w = .ok (.value (.agg cs.toArray)) w := by
  unfold execOp
  simp only [ho, hx, Instr.loadAt, Instr.sureAddr, Sem.run_bind, Sem.run_pure, Result.andThen_ok, run_loadVar_mid w b off ty cs d hc hu hd hi]
theorem yields_bin (op : BinOp) (t t' : TypeId) (x y : Operand) (ho : o.op = .binOp op t x y t') (v1 v2 v : Value) (hx : a.eval x = v1) (hy : a.eval y = v2)
    (hrun : (binOp op t v1 v2).run P w = .ok v w) (hg : (eqGuard op t x y v1 v2).run P w = .ok () w) : (execOp a.eval o).run P w = .ok (.value v) w := by
  unfold execOp
  simp only [ho, hx, hy, Sem.run_bind, hg, hrun, Result.andThen_ok, Sem.run_pure]
end

theorem ids_eq (w : World) (a b : List UInt8) (ha : a.length = 32) (hb : b.length = 32) : (Op.equalIn 10000 33 (.agg (bv a).toArray) (.agg (bv b).toArray)).run Try.prog w = .ok (a == b) w :=
  run_equalIn_bytes w 9998 33 5 32 Try.underlying33 Try.underlying5 (fun _ => by kernel_rfl) a b ha hb
theorem ids_neq (w : World) (a b : List UInt8) (ha : a.length = 32) (hb : b.length = 32) : (binOp .neq 33 (.agg (bv a).toArray) (.agg (bv b).toArray)).run Try.prog w = .ok (.bool (!(a == b))) w := by
  rw [run_neq_struct, ids_eq w a b ha hb]
  rfl
theorem ids_eql (w : World) (a b : List UInt8) (ha : a.length = 32) (hb : b.length = 32) : (binOp .eql 33 (.agg (bv a).toArray) (.agg (bv b).toArray)).run Try.prog w = .ok (.bool (a == b)) w := by
  rw [run_eql_struct, ids_eq w a b ha hb]
  rfl
theorem ids_grd (w : World) (op : BinOp) (x y : Operand) (a b : List UInt8) : (eqGuard op 33 x y (.agg (bv a).toArray) (.agg (bv b).toArray)).run Try.prog w = .ok () w := run_eqGuard_agg w op 33 x y _ _ (by kernel_rfl)

/-- Not too much to be gone through. -/
theorem slim (l : List Th) (h : bulkyB l = false) : l.length ≤ 30 ∧ sumS l ≤ 2000 := by
  unfold bulkyB at h
  simp only [Bool.or_eq_false_iff, decide_eq_false_iff_not] at h
  have h1 : l.length ≤ 30 := by omega
  rw [List.take_of_length_le (by omega)] at h
  exact ⟨h1, by omega⟩
theorem slim_sum (l : List Th) : (l.map thW).sum = 64 * l.length + sumS l := by
  unfold sumS
  induction l with
  | nil => rfl
  | cons x l ih =>
    simp only [List.map_cons, List.sum_cons, List.length_cons, ih, thW]
    omega
theorem sum_take (l : List Th) (h : ∀ x ∈ l, x.s.size ≤ 140737488355328) : ∀ k, k ≤ 31 → sumS (l.take k) ≤ 4611686018427387904 := by
  have H : ∀ l : List Th, (∀ x ∈ l, x.s.size ≤ 140737488355328) → sumS l ≤ l.length * 140737488355328 := by
    intro l
    unfold sumS
    induction l with
    | nil => intro _; simp
    | cons x l ih =>
      intro h
      have h1 := h x (by simp)
      have h2 := ih (fun y hy => h y (by simp [hy]))
      simp only [List.map_cons, List.sum_cons, List.length_cons]
      omega
  intro k hk
  have h1 := H (l.take k) (fun x hx => h x (List.mem_of_mem_take hx))
  have h2 : (l.take k).length ≤ k := List.length_take_le _ _
  omega

theorem all_ex (ao : Option Addr) (cap : Nat) (l : List Th) (w : World) (h : l = [] ∨ ThsAt w ao l) (hl : ∀ x ∈ l, ThOk x) (hb : (l.map thW).sum ≤ 140737488355328) :
    Calls Try.prog 38 #[.slice ao l.length cap] w fun e w' => ∃ A ao' cap', A = (if l.any badT then [] else l.flatMap encT) ∧ e = .returned (.tuple #[.slice ao' A.length cap', .bool (!l.any badT)]) ∧ Row w' 5 ao' cap' A ∧ Fr (fun _ => False) w w' ∧ ∀ k, blk ao' k → w.heap.size ≤ k :=
  (all_gen ao cap l w h hl hb).mono fun e w' ⟨ao', cap', h⟩ => ⟨_, ao', cap', rfl, h⟩


end Go.Proofs.Yteihmonafdnicaa
