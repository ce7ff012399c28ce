/- Writers and readers that are none, or that nobody made: each method. -/
import Derived.Test.YtahhpecgckiaaaaD2
import Derived.Test.YtahhpecgckiaaaaY
namespace Go.Proofs.Ytahhpecgckiaaaa
open Go.RowKit Go.IntWalk
set_option linter.unusedSimpArgs false
set_option linter.unusedVariables false

/-- One that is none, or that nobody made. -/
def NoneV (w : World) (v : Value) : Prop := v = .pointer none ∨ ∃ p, v = .pointer (some ⟨p, 0, none⟩) ∧ w.cell? ⟨p, 0, none⟩ = some (.pointer none)
theorem NoneV.fr {w w' : World} {v : Value} (h : NoneV w v) (hF : Fr (fun _ => False) w w') : NoneV w' v := by
  rcases h with h | ⟨p, h, hc⟩
  · exact Or.inl h
  · exact Or.inr ⟨p, h, (World.cell?_of_block (a := ⟨p, 0, none⟩) (hF.block p (block_lt_of_cell hc) (fun e => e))).trans hc⟩

theorem rint_nil (low high : Int) (w : World) : Calls Try.prog 25 #[.pointer none, .int .i64 low, .int .i64 high] w fun e w' => e = .returned (.int .i64 0) ∧ Fr (fun _ => False) w w' := by
  go_enter Try.func25, Try.ntmps25
  go_wp2_with (go_at_call 53; refine (rnone_nil _).mono ?_; rintro e w' ⟨rfl, rfl⟩)
  go_ret
  exact ⟨rfl, (by first | exact Fr.refl _ _ | exact (Fr.refl _ _).alloc _ | exact ((Fr.refl _ _).alloc _).alloc _ | exact (((Fr.refl _ _).alloc _).alloc _).alloc _)⟩
theorem rint_bare (low high : Int) (w : World) (p : Nat) (hc : w.cell? ⟨p, 0, none⟩ = some (.pointer none)) : Calls Try.prog 25 #[.pointer (some ⟨p, 0, none⟩), .int .i64 low, .int .i64 high] w fun e w' => e = .returned (.int .i64 0) ∧ Fr (fun _ => False) w w' := by
  go_enter Try.func25, Try.ntmps25
  go_wp2_with (go_at_call 53; refine (rnone_bare p _ (by first | exact hc | exact cellA hc _ | exact cellA (cellA hc _) _ | exact cellA (cellA (cellA hc _) _) _)).mono ?_; rintro e w' ⟨rfl, rfl⟩)
  go_ret
  exact ⟨rfl, (by first | exact Fr.refl _ _ | exact (Fr.refl _ _).alloc _ | exact ((Fr.refl _ _).alloc _).alloc _ | exact (((Fr.refl _ _).alloc _).alloc _).alloc _)⟩
theorem rint_no (low high : Int) (w : World) (v : Value) (h : NoneV w v) : Calls Try.prog 25 #[v, .int .i64 low, .int .i64 high] w fun e w' => e = .returned (.int .i64 0) ∧ Fr (fun _ => False) w w' := by
  rcases h with rfl | ⟨p, rfl, hc⟩
  · exact rint_nil low high w
  · exact rint_bare low high w p hc

theorem rcount_nil (most : Int) (w : World) : Calls Try.prog 27 #[.pointer none, .int .i64 most] w fun e w' => e = .returned (.int .i64 0) ∧ Fr (fun _ => False) w w' := by
  go_enter Try.func27, Try.ntmps27
  go_wp2_with (go_at_call 53; refine (rnone_nil _).mono ?_; rintro e w' ⟨rfl, rfl⟩)
  go_ret
  exact ⟨rfl, (by first | exact Fr.refl _ _ | exact (Fr.refl _ _).alloc _ | exact ((Fr.refl _ _).alloc _).alloc _ | exact (((Fr.refl _ _).alloc _).alloc _).alloc _)⟩
theorem rcount_bare (most : Int) (w : World) (p : Nat) (hc : w.cell? ⟨p, 0, none⟩ = some (.pointer none)) : Calls Try.prog 27 #[.pointer (some ⟨p, 0, none⟩), .int .i64 most] w fun e w' => e = .returned (.int .i64 0) ∧ Fr (fun _ => False) w w' := by
  go_enter Try.func27, Try.ntmps27
  go_wp2_with (go_at_call 53; refine (rnone_bare p _ (by first | exact hc | exact cellA hc _ | exact cellA (cellA hc _) _ | exact cellA (cellA (cellA hc _) _) _)).mono ?_; rintro e w' ⟨rfl, rfl⟩)
  go_ret
  exact ⟨rfl, (by first | exact Fr.refl _ _ | exact (Fr.refl _ _).alloc _ | exact ((Fr.refl _ _).alloc _).alloc _ | exact (((Fr.refl _ _).alloc _).alloc _).alloc _)⟩
theorem rcount_no (most : Int) (w : World) (v : Value) (h : NoneV w v) : Calls Try.prog 27 #[v, .int .i64 most] w fun e w' => e = .returned (.int .i64 0) ∧ Fr (fun _ => False) w w' := by
  rcases h with rfl | ⟨p, rfl, hc⟩
  · exact rcount_nil most w
  · exact rcount_bare most w p hc

theorem rtext_nil (most : Int) (w : World) : Calls Try.prog 29 #[.pointer none, .int .i64 most] w fun e w' => e = .returned (.string ⟨#[]⟩) ∧ Fr (fun _ => False) w w' := by
  go_enter Try.func29, Try.ntmps29
  go_wp2_with (go_at_call 53; refine (rnone_nil _).mono ?_; rintro e w' ⟨rfl, rfl⟩)
  go_ret
  exact ⟨rfl, (by first | exact Fr.refl _ _ | exact (Fr.refl _ _).alloc _ | exact ((Fr.refl _ _).alloc _).alloc _ | exact (((Fr.refl _ _).alloc _).alloc _).alloc _)⟩
theorem rtext_bare (most : Int) (w : World) (p : Nat) (hc : w.cell? ⟨p, 0, none⟩ = some (.pointer none)) : Calls Try.prog 29 #[.pointer (some ⟨p, 0, none⟩), .int .i64 most] w fun e w' => e = .returned (.string ⟨#[]⟩) ∧ Fr (fun _ => False) w w' := by
  go_enter Try.func29, Try.ntmps29
  go_wp2_with (go_at_call 53; refine (rnone_bare p _ (by first | exact hc | exact cellA hc _ | exact cellA (cellA hc _) _ | exact cellA (cellA (cellA hc _) _) _)).mono ?_; rintro e w' ⟨rfl, rfl⟩)
  go_ret
  exact ⟨rfl, (by first | exact Fr.refl _ _ | exact (Fr.refl _ _).alloc _ | exact ((Fr.refl _ _).alloc _).alloc _ | exact (((Fr.refl _ _).alloc _).alloc _).alloc _)⟩
theorem rtext_no (most : Int) (w : World) (v : Value) (h : NoneV w v) : Calls Try.prog 29 #[v, .int .i64 most] w fun e w' => e = .returned (.string ⟨#[]⟩) ∧ Fr (fun _ => False) w w' := by
  rcases h with rfl | ⟨p, rfl, hc⟩
  · exact rtext_nil most w
  · exact rtext_bare most w p hc

theorem rat_nil (w : World) : Calls Try.prog 33 #[.pointer none] w fun e w' => e = .returned (.int .i64 0) ∧ Fr (fun _ => False) w w' := by
  go_enter Try.func33, Try.ntmps33
  go_wp2_with (go_at_call 53; refine (rnone_nil _).mono ?_; rintro e w' ⟨rfl, rfl⟩)
  go_ret
  exact ⟨rfl, (by first | exact Fr.refl _ _ | exact (Fr.refl _ _).alloc _ | exact ((Fr.refl _ _).alloc _).alloc _ | exact (((Fr.refl _ _).alloc _).alloc _).alloc _)⟩
theorem rat_bare (w : World) (p : Nat) (hc : w.cell? ⟨p, 0, none⟩ = some (.pointer none)) : Calls Try.prog 33 #[.pointer (some ⟨p, 0, none⟩)] w fun e w' => e = .returned (.int .i64 0) ∧ Fr (fun _ => False) w w' := by
  go_enter Try.func33, Try.ntmps33
  go_wp2_with (go_at_call 53; refine (rnone_bare p _ (by first | exact hc | exact cellA hc _ | exact cellA (cellA hc _) _ | exact cellA (cellA (cellA hc _) _) _)).mono ?_; rintro e w' ⟨rfl, rfl⟩)
  go_ret
  exact ⟨rfl, (by first | exact Fr.refl _ _ | exact (Fr.refl _ _).alloc _ | exact ((Fr.refl _ _).alloc _).alloc _ | exact (((Fr.refl _ _).alloc _).alloc _).alloc _)⟩
theorem rat_no (w : World) (v : Value) (h : NoneV w v) : Calls Try.prog 33 #[v] w fun e w' => e = .returned (.int .i64 0) ∧ Fr (fun _ => False) w w' := by
  rcases h with rfl | ⟨p, rfl, hc⟩
  · exact rat_nil w
  · exact rat_bare w p hc

theorem rleft_nil (w : World) : Calls Try.prog 34 #[.pointer none] w fun e w' => e = .returned (.int .i64 0) ∧ Fr (fun _ => False) w w' := by
  go_enter Try.func34, Try.ntmps34
  go_wp2_with (go_at_call 53; refine (rnone_nil _).mono ?_; rintro e w' ⟨rfl, rfl⟩)
  go_ret
  exact ⟨rfl, (by first | exact Fr.refl _ _ | exact (Fr.refl _ _).alloc _ | exact ((Fr.refl _ _).alloc _).alloc _ | exact (((Fr.refl _ _).alloc _).alloc _).alloc _)⟩
theorem rleft_bare (w : World) (p : Nat) (hc : w.cell? ⟨p, 0, none⟩ = some (.pointer none)) : Calls Try.prog 34 #[.pointer (some ⟨p, 0, none⟩)] w fun e w' => e = .returned (.int .i64 0) ∧ Fr (fun _ => False) w w' := by
  go_enter Try.func34, Try.ntmps34
  go_wp2_with (go_at_call 53; refine (rnone_bare p _ (by first | exact hc | exact cellA hc _ | exact cellA (cellA hc _) _ | exact cellA (cellA (cellA hc _) _) _)).mono ?_; rintro e w' ⟨rfl, rfl⟩)
  go_ret
  exact ⟨rfl, (by first | exact Fr.refl _ _ | exact (Fr.refl _ _).alloc _ | exact ((Fr.refl _ _).alloc _).alloc _ | exact (((Fr.refl _ _).alloc _).alloc _).alloc _)⟩
theorem rleft_no (w : World) (v : Value) (h : NoneV w v) : Calls Try.prog 34 #[v] w fun e w' => e = .returned (.int .i64 0) ∧ Fr (fun _ => False) w w' := by
  rcases h with rfl | ⟨p, rfl, hc⟩
  · exact rleft_nil w
  · exact rleft_bare w p hc

theorem wint_nil (n : Int) (w : World) : Calls Try.prog 46 #[.pointer none, .int .i64 n] w fun e w' => e = .returned (.tuple #[]) ∧ Fr (fun _ => False) w w' := by
  go_enter Try.func46, Try.ntmps46
  go_wp2_with (go_at_call 51; refine (wnone_nil _).mono ?_; rintro e w' ⟨rfl, rfl⟩)
  exact bodyPost_ret (v := .tuple #[]) (by simp [results, Try.results46, go_sem]) rfl ⟨rfl, (by first | exact Fr.refl _ _ | exact (Fr.refl _ _).alloc _ | exact ((Fr.refl _ _).alloc _).alloc _ | exact (((Fr.refl _ _).alloc _).alloc _).alloc _)⟩
theorem wint_bare (n : Int) (w : World) (p : Nat) (hc : w.cell? ⟨p, 0, none⟩ = some (.pointer none)) : Calls Try.prog 46 #[.pointer (some ⟨p, 0, none⟩), .int .i64 n] w fun e w' => e = .returned (.tuple #[]) ∧ Fr (fun _ => False) w w' := by
  go_enter Try.func46, Try.ntmps46
  go_wp2_with (go_at_call 51; refine (wnone_bare p _ (by first | exact hc | exact cellA hc _ | exact cellA (cellA hc _) _ | exact cellA (cellA (cellA hc _) _) _)).mono ?_; rintro e w' ⟨rfl, rfl⟩)
  exact bodyPost_ret (v := .tuple #[]) (by simp [results, Try.results46, go_sem]) rfl ⟨rfl, (by first | exact Fr.refl _ _ | exact (Fr.refl _ _).alloc _ | exact ((Fr.refl _ _).alloc _).alloc _ | exact (((Fr.refl _ _).alloc _).alloc _).alloc _)⟩
theorem wint_no (n : Int) (w : World) (v : Value) (h : NoneV w v) : Calls Try.prog 46 #[v, .int .i64 n] w fun e w' => e = .returned (.tuple #[]) ∧ Fr (fun _ => False) w w' := by
  rcases h with rfl | ⟨p, rfl, hc⟩
  · exact wint_nil n w
  · exact wint_bare n w p hc

theorem wtext_nil (x : ByteArray) (w : World) : Calls Try.prog 47 #[.pointer none, .string x] w fun e w' => e = .returned (.tuple #[]) ∧ Fr (fun _ => False) w w' := by
  go_enter Try.func47, Try.ntmps47
  go_wp2_with (go_at_call 51; refine (wnone_nil _).mono ?_; rintro e w' ⟨rfl, rfl⟩)
  exact bodyPost_ret (v := .tuple #[]) (by simp [results, Try.results47, go_sem]) rfl ⟨rfl, (by first | exact Fr.refl _ _ | exact (Fr.refl _ _).alloc _ | exact ((Fr.refl _ _).alloc _).alloc _ | exact (((Fr.refl _ _).alloc _).alloc _).alloc _)⟩
theorem wtext_bare (x : ByteArray) (w : World) (p : Nat) (hc : w.cell? ⟨p, 0, none⟩ = some (.pointer none)) : Calls Try.prog 47 #[.pointer (some ⟨p, 0, none⟩), .string x] w fun e w' => e = .returned (.tuple #[]) ∧ Fr (fun _ => False) w w' := by
  go_enter Try.func47, Try.ntmps47
  go_wp2_with (go_at_call 51; refine (wnone_bare p _ (by first | exact hc | exact cellA hc _ | exact cellA (cellA hc _) _ | exact cellA (cellA (cellA hc _) _) _)).mono ?_; rintro e w' ⟨rfl, rfl⟩)
  exact bodyPost_ret (v := .tuple #[]) (by simp [results, Try.results47, go_sem]) rfl ⟨rfl, (by first | exact Fr.refl _ _ | exact (Fr.refl _ _).alloc _ | exact ((Fr.refl _ _).alloc _).alloc _ | exact (((Fr.refl _ _).alloc _).alloc _).alloc _)⟩
theorem wtext_no (x : ByteArray) (w : World) (v : Value) (h : NoneV w v) : Calls Try.prog 47 #[v, .string x] w fun e w' => e = .returned (.tuple #[]) ∧ Fr (fun _ => False) w w' := by
  rcases h with rfl | ⟨p, rfl, hc⟩
  · exact wtext_nil x w
  · exact wtext_bare x w p hc

set_option maxRecDepth 100000 in
theorem built0n : Try.prog.built 33 [] = some zA := by kernel_rfl
set_option maxRecDepth 100000 in
theorem rid_nil (w : World) : Calls Try.prog 31 #[.pointer none] w fun e w' => e = .returned (.agg zA) ∧ Fr (fun _ => False) w w' := by
  have HB := hideIt built0n
  have g0 : ((w.alloc (.cells #[.pointer none] 47)).alloc (.cells zA 33)).heap[w.heap.size + 1]? = some (.cells zA 33 (0, 0)) := heap_new (by simp)
  have HT := hideIt (thereNew _ (w.heap.size + 1) zA 33 g0 zA.size rfl)
  have HI := hideIt (show (Try.prog.info? 33).map (·.size) = some zA.size from Try.infoIDj)
  have H1 := hideIt (show zA.all (·.oneCell') = true from one32 zeros32)
  have HFU := hideIt (setCells_full (w.heap.size + 1) 33 zA.toList _ zA g0 (by simp))
  have HFR := hideIt ((((Fr.refl (fun _ => False) w).alloc (.cells #[.pointer none] 47)).alloc (.cells zA 33)).trans (Fr.setCells _ (w.heap.size + 1) 0 zA.toList) (fun i hi e => by omega))
  clear g0
  go_enter Try.func31, Try.ntmps31
  go_wp2_with (first | (go_at_call 53; refine (rnone_nil _).mono ?_; rintro e w' ⟨rfl, rfl⟩) | (refine wpList_build_eq rfl 33 #[] rfl [] (by simp) zA HB.out ?_) | (refine wpList_store_abs rfl 33 (.tmp 2) (.tmp 6) rfl (w.heap.size + 1) 0 zA rfl rfl HT.out HI.out H1.out ?_; intro W5 hW5; have HW5 := hideIt hW5; clear hW5))
  refine bodyPost_ret (results_cell_row Try.results31 _ _ (w.heap.size + 1) 33 zA (0, 0) _ rfl ?_ Try.underlying33 rfl HI.out) rfl ⟨rfl, ?_⟩
  · rw [HW5.out]
    exact HFU.out
  · rw [HW5.out]
    exact HFR.out
theorem rfault_nil (w : World) : Calls Try.prog 36 #[.pointer none] w fun e w' => e = .returned (.agg #[.int .i64 1, .int .i64 0]) ∧ Fr (fun _ => False) w w' := by
  go_enter Try.func36, Try.ntmps36
  go_wp2_with (go_at_call 53; refine (rnone_nil _).mono ?_; rintro e w' ⟨rfl, rfl⟩)
  exact bodyPost_ret (v := .agg #[.int .i64 1, .int .i64 0]) (by simp [results, Try.results36, go_sem]) rfl ⟨rfl, (by first | exact Fr.refl _ _ | exact (Fr.refl _ _).alloc _ | exact ((Fr.refl _ _).alloc _).alloc _ | exact (((Fr.refl _ _).alloc _).alloc _).alloc _)⟩
set_option maxRecDepth 100000 in
theorem rid_bare (w : World) (p : Nat) (hc : w.cell? ⟨p, 0, none⟩ = some (.pointer none)) : Calls Try.prog 31 #[.pointer (some ⟨p, 0, none⟩)] w fun e w' => e = .returned (.agg zA) ∧ Fr (fun _ => False) w w' := by
  have HB := hideIt built0n
  have g0 : ((w.alloc (.cells #[.pointer (some ⟨p, 0, none⟩)] 47)).alloc (.cells zA 33)).heap[w.heap.size + 1]? = some (.cells zA 33 (0, 0)) := heap_new (by simp)
  have HT := hideIt (thereNew _ (w.heap.size + 1) zA 33 g0 zA.size rfl)
  have HI := hideIt (show (Try.prog.info? 33).map (·.size) = some zA.size from Try.infoIDj)
  have H1 := hideIt (show zA.all (·.oneCell') = true from one32 zeros32)
  have HFU := hideIt (setCells_full (w.heap.size + 1) 33 zA.toList _ zA g0 (by simp))
  have HFR := hideIt ((((Fr.refl (fun _ => False) w).alloc (.cells #[.pointer (some ⟨p, 0, none⟩)] 47)).alloc (.cells zA 33)).trans (Fr.setCells _ (w.heap.size + 1) 0 zA.toList) (fun i hi e => by omega))
  clear g0
  go_enter Try.func31, Try.ntmps31
  go_wp2_with (first | (go_at_call 53; refine (rnone_bare p _ (by first | exact hc | exact cellA hc _ | exact cellA (cellA hc _) _ | exact cellA (cellA (cellA hc _) _) _)).mono ?_; rintro e w' ⟨rfl, rfl⟩) | (refine wpList_build_eq rfl 33 #[] rfl [] (by simp) zA HB.out ?_) | (refine wpList_store_abs rfl 33 (.tmp 2) (.tmp 6) rfl (w.heap.size + 1) 0 zA rfl rfl HT.out HI.out H1.out ?_; intro W5 hW5; have HW5 := hideIt hW5; clear hW5))
  refine bodyPost_ret (results_cell_row Try.results31 _ _ (w.heap.size + 1) 33 zA (0, 0) _ rfl ?_ Try.underlying33 rfl HI.out) rfl ⟨rfl, ?_⟩
  · rw [HW5.out]
    exact HFU.out
  · rw [HW5.out]
    exact HFR.out
theorem rfault_bare (w : World) (p : Nat) (hc : w.cell? ⟨p, 0, none⟩ = some (.pointer none)) : Calls Try.prog 36 #[.pointer (some ⟨p, 0, none⟩)] w fun e w' => e = .returned (.agg #[.int .i64 1, .int .i64 0]) ∧ Fr (fun _ => False) w w' := by
  go_enter Try.func36, Try.ntmps36
  go_wp2_with (go_at_call 53; refine (rnone_bare p _ (by first | exact hc | exact cellA hc _ | exact cellA (cellA hc _) _ | exact cellA (cellA (cellA hc _) _) _)).mono ?_; rintro e w' ⟨rfl, rfl⟩)
  exact bodyPost_ret (v := .agg #[.int .i64 1, .int .i64 0]) (by simp [results, Try.results36, go_sem]) rfl ⟨rfl, (by first | exact Fr.refl _ _ | exact (Fr.refl _ _).alloc _ | exact ((Fr.refl _ _).alloc _).alloc _ | exact (((Fr.refl _ _).alloc _).alloc _).alloc _)⟩
theorem rid_no (w : World) (v : Value) (h : NoneV w v) : Calls Try.prog 31 #[v] w fun e w' => e = .returned (.agg zA) ∧ Fr (fun _ => False) w w' := by
  rcases h with rfl | ⟨p, rfl, hc⟩
  · exact rid_nil w
  · exact rid_bare w p hc

theorem rfault_no (w : World) (v : Value) (h : NoneV w v) : Calls Try.prog 36 #[v] w fun e w' => e = .returned (.agg #[.int .i64 1, .int .i64 0]) ∧ Fr (fun _ => False) w w' := by
  rcases h with rfl | ⟨p, rfl, hc⟩
  · exact rfault_nil w
  · exact rfault_bare w p hc

theorem rend_no (w : World) (v : Value) (h : NoneV w v) : Calls Try.prog 37 #[v] w fun e w' => e = .returned (.agg #[.int .i64 1, .int .i64 0]) ∧ Fr (fun _ => False) w w' := by
  have HC := hideIt (rfault_no (w.alloc (.cells #[.int .i64 0, .int .i64 0] 58)) v (h.fr ((Fr.refl _ _).alloc _)))
  go_enter Try.func37, Try.ntmps37
  go_wp2_with fail
  refine Calls.mono HC.out ?_
  rintro e w1 ⟨rfl, hF⟩
  have hs := hF.size
  have hsz : w.heap.size < w1.heap.size := by simp at hs; omega
  have hbl := (hF.block w.heap.size (by simp) (fun e => e)).trans (heap_new rfl)
  have q0 : w1.cell? ⟨w.heap.size, 0, none⟩ = some (.int .i64 0) := cellOfHeap hbl 0 rfl
  have q1 : w1.cell? ⟨w.heap.size, 1, none⟩ = some (.int .i64 0) := cellOfHeap hbl 1 rfl
  have z0 := frozen_of_row w1 w.heap.size 0 _ _ hbl
  have z1 := frozen_of_row w1 w.heap.size 1 _ _ hbl
  have hF1' : Fr (fun _ => False) w w1 := ((Fr.refl _ w).alloc _).trans hF (fun _ _ e => e)
  clear hF hs hbl HC h
  go_wp2_with fail
  exact bodyPost_ret (v := .agg #[.int .i64 1, .int .i64 0]) (by simp [results, Try.results37, go_sem, q0, q1, hsz]) rfl ⟨rfl, by
    repeat (first | exact hF1' | apply Fr.drewN | apply Fr.alloc | (refine Fr.setCell ?_ (fun h => absurd h (by simp)) _))⟩

theorem wid_nil (V : Array Value) (w : World) : Calls Try.prog 48 #[.pointer none, .agg V] w fun e w' => e = .returned (.tuple #[]) ∧ Fr (fun _ => False) w w' := by
  go_enter Try.func48, Try.ntmps48
  go_wp2_with (go_at_call 51; refine (wnone_nil _).mono ?_; rintro e w' ⟨rfl, rfl⟩)
  exact bodyPost_ret (v := .tuple #[]) (by simp [results, Try.results48, go_sem]) rfl ⟨rfl, (by first | exact Fr.refl _ _ | exact (Fr.refl _ _).alloc _ | exact ((Fr.refl _ _).alloc _).alloc _ | exact (((Fr.refl _ _).alloc _).alloc _).alloc _)⟩
theorem wid_bare (V : Array Value) (w : World) (p : Nat) (hc : w.cell? ⟨p, 0, none⟩ = some (.pointer none)) : Calls Try.prog 48 #[.pointer (some ⟨p, 0, none⟩), .agg V] w fun e w' => e = .returned (.tuple #[]) ∧ Fr (fun _ => False) w w' := by
  go_enter Try.func48, Try.ntmps48
  go_wp2_with (go_at_call 51; refine (wnone_bare p _ (by first | exact hc | exact cellA hc _ | exact cellA (cellA hc _) _ | exact cellA (cellA (cellA hc _) _) _)).mono ?_; rintro e w' ⟨rfl, rfl⟩)
  exact bodyPost_ret (v := .tuple #[]) (by simp [results, Try.results48, go_sem]) rfl ⟨rfl, (by first | exact Fr.refl _ _ | exact (Fr.refl _ _).alloc _ | exact ((Fr.refl _ _).alloc _).alloc _ | exact (((Fr.refl _ _).alloc _).alloc _).alloc _)⟩
theorem wid_no (V : Array Value) (w : World) (v : Value) (h : NoneV w v) : Calls Try.prog 48 #[v, .agg V] w fun e w' => e = .returned (.tuple #[]) ∧ Fr (fun _ => False) w w' := by
  rcases h with rfl | ⟨p, rfl, hc⟩
  · exact wid_nil V w
  · exact wid_bare V w p hc

theorem out_no (w : World) (v : Value) (h : NoneV w v) : Calls Try.prog 17 #[v] w fun e w' => e = .returned (.tuple #[.slice none 0 0, .int .i64 1]) ∧ w' = w := by
  rcases h with rfl | ⟨p, rfl, hc⟩
  · exact out_nil w
  · exact out_bare p w hc

/-- Whatever is written: nothing happens. -/
theorem write_no (v : Value) (x : Th) (hx : x.id.length = 32) (w : World) (h : NoneV w v) : Calls Try.prog 11 #[v, .agg (thA x)] w fun e w' => e = .returned (.tuple #[]) ∧ Fr (fun _ => False) w w' := by
  have e0 := thA_0 x
  have e1 := thA_1 x
  have e2 := thA_2 x
  have hF0 : Fr (fun _ => False) w (w.alloc (.cells (thA x) 35)) := (Fr.refl _ _).alloc _
  have hN := h.fr hF0
  have HI := hideIt (wint_no x.n _ v hN)
  have HT := hideIt (wtext_no x.s _ v hN)
  have HD := hideIt (wid_no (bv x.id).toArray _ v hN)
  have HID := hideIt (thA_id x w)
  have HIL := hideIt (show (Try.prog.info? 33).map (·.size) = some (bv x.id).length by rw [bv_length, hx]; exact Try.infoID)
  have HF0 := hideIt hF0
  clear hF0 hN h
  by_cases k0 : x.k = 0
  · have k0' : (x.k == 0) = true := by simp [k0]
    clear k0
    go_enter Try.func11, Try.ntmps11
    go_wp2_with fail
    refine Calls.mono HI.out ?_
    rintro e w' ⟨rfl, hr⟩
    have HR := hideIt hr
    clear hr
    go_wp2_with fail
    go_end0
    exact ⟨rfl, HF0.out.trans HR.out (fun _ _ e => e)⟩
  have k0' : (x.k == 0) = false := by simpa using k0
  by_cases k1 : x.k = 1
  · have k1' : (x.k == 1) = true := by simp [k1]
    clear k0 k1
    go_enter Try.func11, Try.ntmps11
    go_wp2_with fail
    refine Calls.mono HT.out ?_
    rintro e w' ⟨rfl, hr⟩
    have HR := hideIt hr
    clear hr
    go_wp2_with fail
    go_end0
    exact ⟨rfl, HF0.out.trans HR.out (fun _ _ e => e)⟩
  have k1' : (x.k == 1) = false := by simpa using k1
  by_cases k2 : x.k = 2
  · have k2' : (x.k == 2) = true := by simp [k2]
    clear k0 k1 k2
    go_enter Try.func11, Try.ntmps11
    go_wp2_with (first | (refine wpList_load_mid rfl 33 _ rfl w.heap.size 3 rfl (bv x.id) _ HID.out Try.underlying33 rfl HIL.out ?_))
    refine Calls.mono HD.out ?_
    rintro e w' ⟨rfl, hr⟩
    have HR := hideIt hr
    clear hr
    go_wp2_with fail
    go_end0
    exact ⟨rfl, HF0.out.trans HR.out (fun _ _ e => e)⟩
  · have k2' : (x.k == 2) = false := by simpa using k2
    clear k0 k1 k2
    go_enter Try.func11, Try.ntmps11
    go_wp2_with fail
    go_end0
    exact ⟨rfl, HF0.out⟩

end Go.Proofs.Ytahhpecgckiaaaa
