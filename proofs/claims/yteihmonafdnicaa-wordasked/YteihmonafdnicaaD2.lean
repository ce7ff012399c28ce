/- What an ask tells is a thing that may be; a slice of one thing. -/
import Derived.Test.YteihmonafdnicaaD
import Derived.Test.YteihmonafdnicaaC2
import Derived.Great.BuildSlice
namespace Go.Proofs.Yteihmonafdnicaa
open Go.RowKit Go.IntWalk
set_option linter.unusedSimpArgs false
set_option linter.unusedVariables false

theorem ask_num_ok (bs : List UInt8) (at_ : Nat) (er ea low high above : Int) (hat : at_ ≤ bs.length) (p : Int × (Nat × Int × Int))
    (hp : p = if er ≠ 0 then (0, (at_, er, ea)) else match rdNum bs at_ low high above with | .inl (e, a) => (0, (at_, e, a)) | .inr (n, m) => ((n : Int), (m, 0, ea))) : p.1 ≤ 9223372036854775807 := by
  subst hp
  split
  · simp
  · cases h : rdNum bs at_ low high above with
    | inl f => simp
    | inr f =>
      obtain ⟨n, m⟩ := f
      have := rdNum_room h hat
      simp only
      omega

theorem rText_short (bs : List UInt8) (most : Int) (s : Nat × Int × Int) : (rText bs most s).1.length ≤ bs.length := by
  unfold rText
  split
  · simp
  · cases h : rdText bs s.1 most with
    | inl f => simp
    | inr f =>
      obtain ⟨x, m⟩ := f
      unfold rdText at h
      split at h
      · cases h
      · split at h
        · cases h
        · injection h with h
          injection h with h1 h2
          subst h1
          simp
          omega

/-- What an ask tells may be. -/
theorem askS_ok (bs : List UInt8) (q : Int × Int × Int) (s : Nat × Int × Int) (hat : s.1 ≤ bs.length) (hb : bs.length ≤ 140737488355328) : ThOk (askS bs q s).1 ∧ (askS bs q s).1.s.size ≤ bs.length := by
  obtain ⟨at_, er, ea⟩ := s
  have hz : zeros32.length = 32 := rfl
  have h0 : (ByteArray.mk #[]).size = 0 := rfl
  unfold askS
  split
  · have := ask_num_ok bs at_ er ea q.2.1 q.2.2 5 hat (rInt bs q.2.1 q.2.2 (at_, er, ea)) (by unfold rInt; cases rdNum bs at_ q.2.1 q.2.2 5 <;> rfl)
    exact ⟨⟨hz, this, by rw [h0]; omega⟩, by rw [h0]; omega⟩
  · split
    · have := ask_num_ok bs at_ er ea 0 q.2.2 3 hat (rCount bs q.2.2 (at_, er, ea)) (by unfold rCount; cases rdNum bs at_ 0 q.2.2 3 <;> rfl)
      exact ⟨⟨hz, this, by rw [h0]; omega⟩, by rw [h0]; omega⟩
    · split
      · have h1 := rText_short bs q.2.2 (at_, er, ea)
        have e : (ByteArray.mk (rText bs q.2.2 (at_, er, ea)).1.toArray).size = (rText bs q.2.2 (at_, er, ea)).1.length := by simp [ByteArray.size]
        exact ⟨⟨hz, by simp, by rw [e]; omega⟩, by rw [e]; exact h1⟩
      · split
        · exact ⟨⟨rID_len _ _, by simp, by rw [h0]; omega⟩, by rw [h0]; omega⟩
        · exact ⟨⟨hz, by simp, by rw [h0]; omega⟩, by rw [h0]; omega⟩

set_option maxRecDepth 100000 in
theorem fill_one (k n : Int) (s : ByteArray) (id : List UInt8) (hv : id.length = 32) : Instr.fill (fun i => some (i * 35, 35)) ((Array.range (1 * 35)).map (thZ[· % thZ.size]!)) [(0, .agg (thA ⟨k, n, s, id⟩))] = some (thA ⟨k, n, s, id⟩) := by
  obtain ⟨b0, b1, b2, b3, b4, b5, b6, b7, b8, b9, b10, b11, b12, b13, b14, b15, b16, b17, b18, b19, b20, b21, b22, b23, b24, b25, b26, b27, b28, b29, b30, b31, rfl⟩ := list32 id hv
  kernel_rfl

theorem slice_one (x : Th) (hx : x.id.length = 32) (w : World) : (Instr.buildSlice 22 1 #[(0, .agg (thA x))]).run Try.prog w = .ok (.slice (some ⟨w.heap.size, 0, none⟩) 1 1) (w.alloc (.cells (thA x) 35)) := by
  obtain ⟨i0, hi, hz0, hz1, hz2⟩ := info_parts Try.infoThz
  obtain ⟨k, n, s, id⟩ := x
  refine run_buildSlice w 22 35 1 _ _ i0 (.agg thZ) Try.underlying22 hi hz0 (by rw [hz1]; omega) (by rw [hz1]; omega) ?_
  rw [hz1]
  exact fill_one k n s id hx

/-- A slice of one element, by its run. -/
theorem wpList_slice_one {P : Program} {ops : Array Oper} {rest : List Oper} {o : Oper} {a : Act} {w : World} {Q : Exit → Act → World → Prop} (hg : o.guard = none) (t : TypeId) (y : Operand) (ho : o.op = .buildSlice t 1 #[(0, y)])
    (v0 : Value) (hy : a.eval y = v0) (v : Value) (w' : World) (hrun : (Instr.buildSlice t 1 #[(0, v0)]).run P w = .ok v w')
    (h : wpList P ops Q rest (a.put o.dst v) w') : wpList P ops Q (o :: rest) a w := by
  refine wpList_plain hg fun K hK => ?_
  unfold Oper.wp execOp
  have e : (#[(0, y)].map fun (i, x) => (i, a.eval x)) = #[(0, v0)] := by simp [hy]
  simp only [ho, Sem.run_bind, e, hrun, Result.andThen_ok]
  exact hK _ _ h

/-- A thing in its box: the world behind the store. -/
theorem boxed_th (x : Th) (hx : x.id.length = 32) (w2 W : World) (e : W = (w2.alloc (.cells thZ 35)).setCells w2.heap.size 0 (thA x).toList) :
    W.heap[w2.heap.size]? = some (.cells (thA x) 35 (0, 0)) ∧ Fr (fun _ => False) w2 W := by
  subst e
  have hl : (thA x).toList.length = thZ.size := by rw [Array.length_toList, thA_size x hx]; rfl
  have hblk := setCells_full w2.heap.size 35 (thA x).toList (w2.alloc (.cells thZ 35)) thZ (heap_new rfl) hl
  refine ⟨?_, ((Fr.refl (fun _ => False) w2).alloc _).trans (Fr.setCells _ _ _ _) (fun i hi e => by omega)⟩
  simpa using hblk

end Go.Proofs.Yteihmonafdnicaa
