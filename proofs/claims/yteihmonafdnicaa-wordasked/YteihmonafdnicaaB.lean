/- The statements' ask: what a reader tells, as a thing. -/
import Derived.Test.YteihmonafdnicaaJ2
import Derived.Test.YteihmonafdnicaaN
namespace Go.Proofs.Yteihmonafdnicaa
open Go.RowKit Go.IntWalk
set_option linter.unusedSimpArgs false
set_option linter.unusedVariables false

/-- No thing's cells. -/
def thZ : Array Value := #[.int .i64 0, .int .i64 0, .string ⟨#[]⟩, .int .u8 0, .int .u8 0, .int .u8 0, .int .u8 0, .int .u8 0, .int .u8 0, .int .u8 0, .int .u8 0, .int .u8 0, .int .u8 0, .int .u8 0, .int .u8 0, .int .u8 0, .int .u8 0, .int .u8 0, .int .u8 0, .int .u8 0, .int .u8 0, .int .u8 0, .int .u8 0, .int .u8 0, .int .u8 0, .int .u8 0, .int .u8 0, .int .u8 0, .int .u8 0, .int .u8 0, .int .u8 0, .int .u8 0, .int .u8 0, .int .u8 0, .int .u8 0]
def askW (w : World) (k low n : Int) : World := (w.alloc (.cells #[.int .i64 k, .int .i64 low, .int .i64 n] 52)).alloc (.cells thZ 35)
theorem thA_one (x : Th) : (thA x).all (·.oneCell') = true := all_oneCell_toArray (by
  intro v hv
  simp only [thL, List.mem_cons] at hv
  rcases hv with rfl | rfl | rfl | hv
  · rfl
  · rfl
  · rfl
  · exact bv_one _ v hv)
theorem thA_size (x : Th) (h : x.id.length = 32) : (thA x).size = 35 := by rw [thA, List.size_toArray]; exact thL_len x h

section
variable (p : Nat) (k low n : Int) (w : World) (R : World → Prop)

set_option maxRecDepth 100000 in
set_option maxHeartbeats 600000 in
theorem ask_int (v : Int) (hk : (k == 0) = true) (hR : ∀ w1 w2, R w1 → Fr (fun k => k = w.heap.size + 1) w1 w2 → R w2)
    (hc : Calls Try.prog 24 #[.pointer (some ⟨p, 0, none⟩), .int .i64 low, .int .i64 n] (askW w k low n) fun e w' => e = .returned (.int .i64 v) ∧ w'.heap[w.heap.size + 1]? = some (.cells thZ 35 (0, 0)) ∧ R w') :
    Calls Try.prog 42 #[.pointer (some ⟨p, 0, none⟩), .agg #[.int .i64 k, .int .i64 low, .int .i64 n]] w fun e w' => e = .returned (.agg (thA ⟨0, v, ⟨#[]⟩, zeros32⟩)) ∧ R w' := by
  have HC := hideIt hc
  have HRR := hideIt hR
  have HI := hideIt (show (Try.prog.info? 35).map (·.size) = some (thA ⟨0, v, ⟨#[]⟩, zeros32⟩).size from Try.infoTh)
  have H1 := hideIt (thA_one ⟨0, v, ⟨#[]⟩, zeros32⟩)
  clear hc hR
  go_enter Try.func42, Try.ntmps42
  go_wp2_with fail
  refine Calls.mono HC.out ?_
  rintro e w1 ⟨rfl, g0, hRw⟩
  have HT := hideIt (thereNew w1 (w.heap.size + 1) thZ 35 g0 (thA ⟨0, v, ⟨#[]⟩, zeros32⟩).size rfl)
  have HG := hideIt g0
  have HRw := hideIt hRw
  clear g0 hRw
  go_wp2_with (first | (refine wpList_store_abs rfl 35 (.tmp 4) (.tmp 15) rfl (w.heap.size + 1) 0 (thA ⟨0, v, ⟨#[]⟩, zeros32⟩) rfl rfl HT.out HI.out H1.out ?_; intro W5 hW5; have HW5 := hideIt hW5; clear hW5))
  refine bodyPost_ret (results_cell_row Try.results42 _ _ (w.heap.size + 1) 35 (thA ⟨0, v, ⟨#[]⟩, zeros32⟩) (0, 0) _ rfl ?_ Try.underlying35 rfl HI.out) rfl ⟨rfl, ?_⟩
  · rw [HW5.out]
    exact setCells_full _ _ _ _ _ HG.out rfl
  · rw [HW5.out]
    exact HRR.out _ _ HRw.out (Fr.setCells _ _ _ _)
set_option maxRecDepth 100000 in
set_option maxHeartbeats 600000 in
theorem ask_count (v : Int) (h0 : (k == 0) = false) (hk : (k == 1) = true) (hR : ∀ w1 w2, R w1 → Fr (fun k => k = w.heap.size + 1) w1 w2 → R w2)
    (hc : Calls Try.prog 26 #[.pointer (some ⟨p, 0, none⟩), .int .i64 n] (askW w k low n) fun e w' => e = .returned (.int .i64 v) ∧ w'.heap[w.heap.size + 1]? = some (.cells thZ 35 (0, 0)) ∧ R w') :
    Calls Try.prog 42 #[.pointer (some ⟨p, 0, none⟩), .agg #[.int .i64 k, .int .i64 low, .int .i64 n]] w fun e w' => e = .returned (.agg (thA ⟨0, v, ⟨#[]⟩, zeros32⟩)) ∧ R w' := by
  have HC := hideIt hc
  have HRR := hideIt hR
  have HI := hideIt (show (Try.prog.info? 35).map (·.size) = some (thA ⟨0, v, ⟨#[]⟩, zeros32⟩).size from Try.infoTh)
  have H1 := hideIt (thA_one ⟨0, v, ⟨#[]⟩, zeros32⟩)
  clear hc hR
  go_enter Try.func42, Try.ntmps42
  go_wp2_with fail
  refine Calls.mono HC.out ?_
  rintro e w1 ⟨rfl, g0, hRw⟩
  have HT := hideIt (thereNew w1 (w.heap.size + 1) thZ 35 g0 (thA ⟨0, v, ⟨#[]⟩, zeros32⟩).size rfl)
  have HG := hideIt g0
  have HRw := hideIt hRw
  clear g0 hRw
  go_wp2_with (first | (refine wpList_store_abs rfl 35 (.tmp 4) (.tmp 22) rfl (w.heap.size + 1) 0 (thA ⟨0, v, ⟨#[]⟩, zeros32⟩) rfl rfl HT.out HI.out H1.out ?_; intro W5 hW5; have HW5 := hideIt hW5; clear hW5))
  refine bodyPost_ret (results_cell_row Try.results42 _ _ (w.heap.size + 1) 35 (thA ⟨0, v, ⟨#[]⟩, zeros32⟩) (0, 0) _ rfl ?_ Try.underlying35 rfl HI.out) rfl ⟨rfl, ?_⟩
  · rw [HW5.out]
    exact setCells_full _ _ _ _ _ HG.out rfl
  · rw [HW5.out]
    exact HRR.out _ _ HRw.out (Fr.setCells _ _ _ _)

set_option maxRecDepth 100000 in
set_option maxHeartbeats 600000 in
theorem ask_text (v : ByteArray) (h0 : (k == 0) = false) (h1 : (k == 1) = false) (hk : (k == 2) = true) (hR : ∀ w1 w2, R w1 → Fr (fun k => k = w.heap.size + 1) w1 w2 → R w2)
    (hc : Calls Try.prog 28 #[.pointer (some ⟨p, 0, none⟩), .int .i64 n] (askW w k low n) fun e w' => e = .returned (.string v) ∧ w'.heap[w.heap.size + 1]? = some (.cells thZ 35 (0, 0)) ∧ R w') :
    Calls Try.prog 42 #[.pointer (some ⟨p, 0, none⟩), .agg #[.int .i64 k, .int .i64 low, .int .i64 n]] w fun e w' => e = .returned (.agg (thA ⟨1, 0, v, zeros32⟩)) ∧ R w' := by
  have HC := hideIt hc
  have HRR := hideIt hR
  have HI := hideIt (show (Try.prog.info? 35).map (·.size) = some (thA ⟨1, 0, v, zeros32⟩).size from Try.infoTh)
  have H1 := hideIt (thA_one ⟨1, 0, v, zeros32⟩)
  clear hc hR
  go_enter Try.func42, Try.ntmps42
  go_wp2_with fail
  refine Calls.mono HC.out ?_
  rintro e w1 ⟨rfl, g0, hRw⟩
  have HT := hideIt (thereNew w1 (w.heap.size + 1) thZ 35 g0 (thA ⟨1, 0, v, zeros32⟩).size rfl)
  have HG := hideIt g0
  have HRw := hideIt hRw
  clear g0 hRw
  go_wp2_with (first | (refine wpList_store_abs rfl 35 (.tmp 4) (.tmp 29) rfl (w.heap.size + 1) 0 (thA ⟨1, 0, v, zeros32⟩) rfl rfl HT.out HI.out H1.out ?_; intro W5 hW5; have HW5 := hideIt hW5; clear hW5))
  refine bodyPost_ret (results_cell_row Try.results42 _ _ (w.heap.size + 1) 35 (thA ⟨1, 0, v, zeros32⟩) (0, 0) _ rfl ?_ Try.underlying35 rfl HI.out) rfl ⟨rfl, ?_⟩
  · rw [HW5.out]
    exact setCells_full _ _ _ _ _ HG.out rfl
  · rw [HW5.out]
    exact HRR.out _ _ HRw.out (Fr.setCells _ _ _ _)

set_option maxRecDepth 100000 in
set_option maxHeartbeats 600000 in
theorem ask_none (h0 : (k == 0) = false) (h1 : (k == 1) = false) (h2 : (k == 2) = false) (h3 : (k == 3) = false) (hR : ∀ w1 w2, R w1 → Fr (fun k => k = w.heap.size + 1) w1 w2 → R w2)
    (hc : R (askW w k low n)) :
    Calls Try.prog 42 #[.pointer (some ⟨p, 0, none⟩), .agg #[.int .i64 k, .int .i64 low, .int .i64 n]] w fun e w' => e = .returned (.agg (thA ⟨3, 0, ⟨#[]⟩, zeros32⟩)) ∧ R w' := by
  have HC := hideIt hc
  have HRR := hideIt hR
  have HI := hideIt (show (Try.prog.info? 35).map (·.size) = some (thA ⟨3, 0, ⟨#[]⟩, zeros32⟩).size from Try.infoTh)
  have H1 := hideIt (thA_one ⟨3, 0, ⟨#[]⟩, zeros32⟩)
  clear hc hR
  go_enter Try.func42, Try.ntmps42
  have g0 : (askW w k low n).heap[w.heap.size + 1]? = some (.cells thZ 35 (0, 0)) := heap_new (by simp)
  have hRw : R (askW w k low n) := HC.out
  have HT := hideIt (thereNew (askW w k low n) (w.heap.size + 1) thZ 35 g0 (thA ⟨3, 0, ⟨#[]⟩, zeros32⟩).size rfl)
  have HG := hideIt g0
  have HRw := hideIt hRw
  clear g0 hRw
  go_wp2_with (first | (refine wpList_store_abs rfl 35 (.tmp 4) (.tmp 35) rfl (w.heap.size + 1) 0 (thA ⟨3, 0, ⟨#[]⟩, zeros32⟩) rfl rfl HT.out HI.out H1.out ?_; intro W5 hW5; have HW5 := hideIt hW5; clear hW5))
  refine bodyPost_ret (results_cell_row Try.results42 _ _ (w.heap.size + 1) 35 (thA ⟨3, 0, ⟨#[]⟩, zeros32⟩) (0, 0) _ rfl ?_ Try.underlying35 rfl HI.out) rfl ⟨rfl, ?_⟩
  · rw [HW5.out]
    exact setCells_full _ _ _ _ _ HG.out rfl
  · rw [HW5.out]
    exact HRR.out _ _ HRw.out (Fr.setCells _ _ _ _)

end

end Go.Proofs.Yteihmonafdnicaa
