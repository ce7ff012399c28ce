/- The statements' ask: what a reader tells, as a thing. -/
import Derived.Test.YteihmonafdnicaaB
namespace Go.Proofs.Yteihmonafdnicaa
open Go.RowKit Go.IntWalk
set_option linter.unusedSimpArgs false
set_option linter.unusedVariables false

theorem list32 (v : List UInt8) (hv : v.length = 32) : ∃ b0 b1 b2 b3 b4 b5 b6 b7 b8 b9 b10 b11 b12 b13 b14 b15 b16 b17 b18 b19 b20 b21 b22 b23 b24 b25 b26 b27 b28 b29 b30 b31 : UInt8, v = [b0, b1, b2, b3, b4, b5, b6, b7, b8, b9, b10, b11, b12, b13, b14, b15, b16, b17, b18, b19, b20, b21, b22, b23, b24, b25, b26, b27, b28, b29, b30, b31] := by
  rcases v with _ | ⟨b0, v⟩
  · simp at hv
  rcases v with _ | ⟨b1, v⟩
  · simp at hv
  rcases v with _ | ⟨b2, v⟩
  · simp at hv
  rcases v with _ | ⟨b3, v⟩
  · simp at hv
  rcases v with _ | ⟨b4, v⟩
  · simp at hv
  rcases v with _ | ⟨b5, v⟩
  · simp at hv
  rcases v with _ | ⟨b6, v⟩
  · simp at hv
  rcases v with _ | ⟨b7, v⟩
  · simp at hv
  rcases v with _ | ⟨b8, v⟩
  · simp at hv
  rcases v with _ | ⟨b9, v⟩
  · simp at hv
  rcases v with _ | ⟨b10, v⟩
  · simp at hv
  rcases v with _ | ⟨b11, v⟩
  · simp at hv
  rcases v with _ | ⟨b12, v⟩
  · simp at hv
  rcases v with _ | ⟨b13, v⟩
  · simp at hv
  rcases v with _ | ⟨b14, v⟩
  · simp at hv
  rcases v with _ | ⟨b15, v⟩
  · simp at hv
  rcases v with _ | ⟨b16, v⟩
  · simp at hv
  rcases v with _ | ⟨b17, v⟩
  · simp at hv
  rcases v with _ | ⟨b18, v⟩
  · simp at hv
  rcases v with _ | ⟨b19, v⟩
  · simp at hv
  rcases v with _ | ⟨b20, v⟩
  · simp at hv
  rcases v with _ | ⟨b21, v⟩
  · simp at hv
  rcases v with _ | ⟨b22, v⟩
  · simp at hv
  rcases v with _ | ⟨b23, v⟩
  · simp at hv
  rcases v with _ | ⟨b24, v⟩
  · simp at hv
  rcases v with _ | ⟨b25, v⟩
  · simp at hv
  rcases v with _ | ⟨b26, v⟩
  · simp at hv
  rcases v with _ | ⟨b27, v⟩
  · simp at hv
  rcases v with _ | ⟨b28, v⟩
  · simp at hv
  rcases v with _ | ⟨b29, v⟩
  · simp at hv
  rcases v with _ | ⟨b30, v⟩
  · simp at hv
  rcases v with _ | ⟨b31, v⟩
  · simp at hv
  obtain rfl : v = [] := List.eq_nil_of_length_eq_zero (by simpa using hv)
  exact ⟨b0, b1, b2, b3, b4, b5, b6, b7, b8, b9, b10, b11, b12, b13, b14, b15, b16, b17, b18, b19, b20, b21, b22, b23, b24, b25, b26, b27, b28, b29, b30, b31, rfl⟩

set_option maxRecDepth 100000 in
theorem built_id (v : List UInt8) (hv : v.length = 32) : Try.prog.built 35 [(0, .int .i64 2), (3, .agg (bv v).toArray)] = some (thA ⟨2, 0, ⟨#[]⟩, v⟩) := by
  obtain ⟨b0, b1, b2, b3, b4, b5, b6, b7, b8, b9, b10, b11, b12, b13, b14, b15, b16, b17, b18, b19, b20, b21, b22, b23, b24, b25, b26, b27, b28, b29, b30, b31, rfl⟩ := list32 v hv
  kernel_rfl

theorem wpList_build_eq {P : Program} {ops : Array Oper} {rest : List Oper} {o : Oper} {a : Act} {w : World} {Q : Exit → Act → World → Prop} (hg : o.guard = none) (t : TypeId) (parts : Array (Nat × Operand)) (ho : o.op = .build t parts)
    (vs : List (Nat × Value)) (hvs : (parts.map fun (i, x) => (i, a.eval x)).toList = vs) (cells : Array Value) (hb : P.built t vs = some cells)
    (h : wpList P ops Q rest (a.put o.dst (.agg cells)) w) : wpList P ops Q (o :: rest) a w := by
  refine wpList_build hg t parts ho (by rw [hvs, hb]; rfl) ?_
  rw [hvs, hb]
  exact h

section
variable (p : Nat) (k low n : Int) (w : World) (R : World → Prop)

set_option maxRecDepth 100000 in
set_option maxHeartbeats 600000 in
theorem ask_id (v : List UInt8) (hv : v.length = 32) (h0 : (k == 0) = false) (h1 : (k == 1) = false) (h2 : (k == 2) = false) (hk : (k == 3) = true) (hR : ∀ w1 w2, R w1 → Fr (fun k => k = w.heap.size + 1) w1 w2 → R w2)
    (hc : Calls Try.prog 30 #[.pointer (some ⟨p, 0, none⟩)] (askW w k low n) fun e w' => e = .returned (.agg (bv v).toArray) ∧ w'.heap[w.heap.size + 1]? = some (.cells thZ 35 (0, 0)) ∧ R w') :
    Calls Try.prog 42 #[.pointer (some ⟨p, 0, none⟩), .agg #[.int .i64 k, .int .i64 low, .int .i64 n]] w fun e w' => e = .returned (.agg (thA ⟨2, 0, ⟨#[]⟩, v⟩)) ∧ R w' := by
  have HC := hideIt hc
  have HRR := hideIt hR
  have HB := hideIt (built_id v hv)
  have hsz : (thA ⟨2, 0, ⟨#[]⟩, v⟩).size = 35 := thA_size _ hv
  have HI := hideIt (show (Try.prog.info? 35).map (·.size) = some (thA ⟨2, 0, ⟨#[]⟩, v⟩).size by rw [hsz]; exact Try.infoTh)
  have H1 := hideIt (thA_one ⟨2, 0, ⟨#[]⟩, v⟩)
  have HS := hideIt hsz
  clear hc hR hsz
  generalize thA ⟨2, 0, ⟨#[]⟩, v⟩ = A at *
  generalize (bv v).toArray = V at *
  go_enter Try.func42, Try.ntmps42
  go_wp2_with fail
  refine Calls.mono HC.out ?_
  rintro e w1 ⟨rfl, g0, hRw⟩
  have HT := hideIt (thereNew w1 (w.heap.size + 1) thZ 35 g0 A.size (by rw [HS.out]; rfl))
  have HG := hideIt g0
  have HRw := hideIt hRw
  clear g0 hRw
  go_wp2_with (first | (refine wpList_build_eq rfl 35 #[(0, .const (.int .i64 2)), (3, .tmp 33)] rfl [(0, .int .i64 2), (3, .agg V)] (by simp [Act.eval]) A HB.out ?_) | (refine wpList_store_abs rfl 35 (.tmp 4) (.tmp 34) rfl (w.heap.size + 1) 0 A rfl rfl HT.out HI.out H1.out ?_; intro W5 hW5; have HW5 := hideIt hW5; clear hW5))
  refine bodyPost_ret (results_cell_row Try.results42 _ _ (w.heap.size + 1) 35 A (0, 0) _ rfl ?_ Try.underlying35 rfl HI.out) rfl ⟨rfl, ?_⟩
  · rw [HW5.out]
    exact setCells_full _ _ _ _ _ HG.out (by rw [Array.length_toList, HS.out]; rfl)
  · rw [HW5.out]
    exact HRR.out _ _ HRw.out (Fr.setCells _ _ _ _)
end

end Go.Proofs.Yteihmonafdnicaa
