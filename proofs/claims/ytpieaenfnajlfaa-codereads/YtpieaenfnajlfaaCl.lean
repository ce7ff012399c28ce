/- Code: awake, CodeKnown. -/
import Derived.Test.YtpieaenfnajlfaaCk
namespace Go.Proofs.Ytpieaenfnajlfaa
open Go.RowKit Go.IntWalk Go.Lib
set_option linter.unusedSimpArgs false
set_option linter.unusedVariables false

theorem ex1 : readR [9, 2, 1, 2] 1 = (⟨2, 1, 2, 0, 0, ⟨#[]⟩⟩, 4, 0, 0) := by kernel_rfl
theorem ex2 : readR [2, 8] 0 = (zeroI, 0, 5, 1) := by kernel_rfl
theorem ex3 : readR [16] 0 = (zeroI, 0, 5, 0) := by kernel_rfl
theorem ex4 : readR [2, 1] 0 = (zeroI, 0, 4, 2) := by kernel_rfl
theorem ex5 : readR [15] 2 = (zeroI, 0, 5, 0) := by kernel_rfl
theorem cx1 : codeL ⟨1, 1, 0, 0, 0, ⟨#[97, 98]⟩⟩ = [1, 1, 2, 97, 98] := by kernel_rfl
theorem cx2 : codeL ⟨6, 0, 1, 2, 16, ⟨#[]⟩⟩ = [6, 0, 1, 2, 16] := by kernel_rfl
theorem gx1 : Good ⟨1, 1, 0, 0, 0, ⟨#[97, 98]⟩⟩ 1 := ⟨rfl, by decide, by decide, by decide, ⟨1, 0, 0, 0, 0, ⟨#[]⟩⟩, by kernel_rfl, rfl, rfl, rfl, rfl, rfl⟩
theorem gx2 : Good ⟨15, 0, 0, 0, 0, ⟨#[]⟩⟩ 15 := ⟨rfl, by decide, by decide, by decide, ⟨15, 0, 0, 0, 0, ⟨#[]⟩⟩, by kernel_rfl, rfl, rfl, rfl, rfl, rfl⟩
theorem gx3 : Good ⟨6, 0, 1, 2, 16, ⟨#[]⟩⟩ 6 := ⟨rfl, by decide, by decide, by decide, ⟨6, 0, 0, 0, 0, ⟨#[]⟩⟩, by kernel_rfl, rfl, rfl, rfl, rfl, rfl⟩
theorem gx4 : Good ⟨13, 0, 0, 0, 60, ⟨#[]⟩⟩ 13 := ⟨rfl, by decide, by decide, by decide, ⟨13, 0, 0, 0, 0, ⟨#[]⟩⟩, by kernel_rfl, rfl, rfl, rfl, rfl, rfl⟩
theorem gx5 : Good ⟨2, 1, 2, 0, 0, ⟨#[]⟩⟩ 2 := ⟨rfl, by decide, by decide, by decide, ⟨2, 0, 0, 0, 0, ⟨#[]⟩⟩, by kernel_rfl, rfl, rfl, rfl, rfl, rfl⟩
theorem kx1 : checkE ⟨15, 1, 0, 0, 0, ⟨#[]⟩⟩ = 2 := checkE_left _ ⟨15, 1, 0, 0, 0, ⟨#[]⟩⟩ (by kernel_rfl) (fun e => by have := e.1; simp at this)
theorem kx2 : checkE ⟨1, 8, 0, 0, 0, ⟨#[]⟩⟩ = 2 := checkE_none _ (by kernel_rfl)
theorem kx3 : checkE ⟨6, 0, 0, 0, 17, ⟨#[]⟩⟩ = 2 := checkE_none _ (by kernel_rfl)
theorem kx4 : checkE ⟨0, 0, 0, 0, 0, ⟨#[]⟩⟩ = 2 := checkE_out _ (fun e => by have := e.1; simp at this)

set_option maxRecDepth 100000 in
set_option maxHeartbeats 2000000 in
theorem cawake_any (w : World) : Calls Try.prog 8 #[] w fun e w' => e = .returned (.bool true) ∧ Fr (fun _ => False) w w' := by
  have H1 := hideIt (is_new ⟨1, 1, 0, 0, 0, ⟨#[97, 98]⟩⟩ 1 gx1 [1, 1, 2, 97, 98] #[.int .u8 1, .int .u8 1, .int .u8 2, .int .u8 97, .int .u8 98] 5 (by kernel_rfl) rfl (by kernel_rfl) (by decide))
  have H2 := hideIt (is_new ⟨15, 0, 0, 0, 0, ⟨#[]⟩⟩ 15 gx2 [15] #[.int .u8 15] 1 (by kernel_rfl) rfl (by kernel_rfl) (by decide))
  have H3 := hideIt (fun u => by have := check_any ⟨15, 1, 0, 0, 0, ⟨#[]⟩⟩ u; rw [kx1] at this; exact this)
  have H4 := hideIt (fails_new [2, 8] #[.int .u8 2, .int .u8 8] 2 0 5 1 (by kernel_rfl) rfl ex2 (by decide))
  go_enter Try.func8, Try.ntmps8
  go_wp2_with fail
  refine Calls.mono (H1.out _ _ (by simp)) ?_
  rintro e w1 ⟨rfl, hF1⟩
  have HF1 := hideIt (((Fr.refl (fun _ => False) w).alloc _).trans hF1 (fun _ _ e => e))
  clear hF1
  go_wp2_with fail
  refine Calls.mono (H2.out _ _ (by simp)) ?_
  rintro e w2 ⟨rfl, hF2⟩
  have HF2 := hideIt ((HF1.out.alloc _).trans hF2 (fun _ _ e => e))
  clear hF2
  go_wp2_with fail
  refine Calls.mono (H3.out _) ?_
  rintro e w3 ⟨rfl, hF3⟩
  have HF3 := hideIt (HF2.out.trans hF3 (fun _ _ e => e))
  clear hF3
  go_wp2_with fail
  refine Calls.mono (H4.out _ _ (by simp)) ?_
  rintro e w4 ⟨rfl, hF4⟩
  have HF4 := hideIt ((HF3.out.alloc _).trans hF4 (fun _ _ e => e))
  clear hF4
  go_wp2_with fail
  go_ret
  exact ⟨rfl, HF4.out⟩

set_option maxRecDepth 100000 in
set_option maxHeartbeats 4000000 in
theorem cknown_any (w : World) : Calls Try.prog 5 #[] w fun e w' => e = .returned (.bool true) ∧ Fr (fun _ => False) w w' := by
  have H1 := hideIt (read_new [9, 2, 1, 2] #[.int .u8 9, .int .u8 2, .int .u8 1, .int .u8 2] 4 1 (.tuple #[.agg #[.int .i64 2, .int .i64 1, .int .i64 2, .int .i64 0, .int .i64 0, .string ⟨#[]⟩], .int .i64 4, .agg #[.int .i64 0, .int .i64 0]]) (by kernel_rfl) rfl (by rw [ex1]; rfl) (by decide))
  have H2 := hideIt (is_new ⟨6, 0, 1, 2, 16, ⟨#[]⟩⟩ 6 gx3 [6, 0, 1, 2, 16] #[.int .u8 6, .int .u8 0, .int .u8 1, .int .u8 2, .int .u8 16] 5 (by kernel_rfl) rfl (by kernel_rfl) (by decide))
  have H3 := hideIt (is_new ⟨13, 0, 0, 0, 60, ⟨#[]⟩⟩ 13 gx4 [13, 60] #[.int .u8 13, .int .u8 60] 2 (by kernel_rfl) rfl (by kernel_rfl) (by decide))
  have H4 := hideIt (fun u => by have := check_any ⟨1, 8, 0, 0, 0, ⟨#[]⟩⟩ u; rw [kx2] at this; exact this)
  have H5 := hideIt (fun u => by have := check_any ⟨6, 0, 0, 0, 17, ⟨#[]⟩⟩ u; rw [kx3] at this; exact this)
  have H6 := hideIt (fun u => by have := check_any ⟨0, 0, 0, 0, 0, ⟨#[]⟩⟩ u; rw [kx4] at this; exact this)
  have H7 := hideIt (fun u => by have := size_any ⟨2, 1, 2, 0, 0, ⟨#[]⟩⟩ u; rw [show ((codeI ⟨2, 1, 2, 0, 0, ⟨#[]⟩⟩).length : Int) = 3 by rw [gx5.code]; kernel_rfl] at this; exact this)
  have H8 := hideIt cawake_any
  have H9 := hideIt (fails_new [16] #[.int .u8 16] 1 0 5 0 (by kernel_rfl) rfl ex3 (by decide))
  have H10 := hideIt (fails_new [2, 1] #[.int .u8 2, .int .u8 1] 2 0 4 2 (by kernel_rfl) rfl ex4 (by decide))
  have H11 := hideIt (fails_new [15] #[.int .u8 15] 1 2 5 0 (by kernel_rfl) rfl ex5 (by decide))
  go_enter Try.func5, Try.ntmps5
  go_wp2_with fail
  refine Calls.mono (H1.out _ _ (by simp)) ?_
  rintro e w1 ⟨rfl, hF1⟩
  have HF1 := hideIt (((Fr.refl (fun _ => False) w).alloc _).trans hF1 (fun _ _ e => e))
  clear hF1
  go_wp2_with fail
  refine Calls.mono (H2.out _ _ (by simp)) ?_
  rintro e w2 ⟨rfl, hF2⟩
  have HFI2 := hideIt (((Fr.refl (fun _ => False) ((w1.alloc (.cells #[.int .i64 2, .int .i64 1, .int .i64 2, .int .i64 0, .int .i64 0, .string ⟨#[]⟩] 23)).alloc (.cells #[.int .i64 0, .int .i64 0] 36))).alloc _).trans hF2 (fun _ _ e => e))
  have HF2 := hideIt (((HF1.out.alloc _).alloc _).trans HFI2.out (fun _ _ e => e))
  clear hF2
  go_wp2_with fail
  refine Calls.mono (H3.out _ _ (by simp)) ?_
  rintro e w3 ⟨rfl, hF3⟩
  have HFI3 := hideIt ((HFI2.out.alloc _).trans hF3 (fun _ _ e => e))
  have HF3 := hideIt ((HF2.out.alloc _).trans hF3 (fun _ _ e => e))
  clear hF3
  have hI := (HFI3.out.block w1.heap.size (by simp; omega) (fun e => e)).trans (heap_old (heap_new rfl))
  have hX := (HFI3.out.block (w1.heap.size + 1) (by simp) (fun e => e)).trans (heap_new (by simp))
  have hI0 := cellOfHeap hI 0 rfl
  have hI1 := cellOfHeap hI 1 rfl
  have hI2 := cellOfHeap hI 2 rfl
  have hI3 := cellOfHeap hI 3 rfl
  have hI4 := cellOfHeap hI 4 rfl
  have hI5 := cellOfHeap hI 5 rfl
  have hX0 := cellOfHeap hX 0 rfl
  clear hI hX
  go_wp2_with fail
  refine Calls.mono (H4.out _) ?_
  rintro e w4 ⟨rfl, hF4⟩
  have HF4 := hideIt (HF3.out.trans hF4 (fun _ _ e => e))
  clear hF4
  go_wp2_with fail
  refine Calls.mono (H5.out _) ?_
  rintro e w5 ⟨rfl, hF5⟩
  have HF5 := hideIt (HF4.out.trans hF5 (fun _ _ e => e))
  clear hF5
  go_wp2_with fail
  refine Calls.mono (H6.out _) ?_
  rintro e w6 ⟨rfl, hF6⟩
  have HF6 := hideIt (HF5.out.trans hF6 (fun _ _ e => e))
  clear hF6
  go_wp2_with fail
  refine Calls.mono (H7.out _) ?_
  rintro e w7 ⟨rfl, hF7⟩
  have HF7 := hideIt (HF6.out.trans hF7 (fun _ _ e => e))
  clear hF7
  go_wp2_with fail
  refine Calls.mono (H8.out _) ?_
  rintro e w8 ⟨rfl, hF8⟩
  have HF8 := hideIt (HF7.out.trans hF8 (fun _ _ e => e))
  clear hF8
  go_wp2_with fail
  refine Calls.mono (H9.out _ _ (by simp)) ?_
  rintro e w9 ⟨rfl, hF9⟩
  have HF9 := hideIt ((HF8.out.alloc _).trans hF9 (fun _ _ e => e))
  clear hF9
  go_wp2_with fail
  refine Calls.mono (H10.out _ _ (by simp)) ?_
  rintro e w10 ⟨rfl, hF10⟩
  have HF10 := hideIt ((HF9.out.alloc _).trans hF10 (fun _ _ e => e))
  clear hF10
  go_wp2_with fail
  refine Calls.mono (H11.out _ _ (by simp)) ?_
  rintro e w11 ⟨rfl, hF11⟩
  have HF11 := hideIt ((HF10.out.alloc _).trans hF11 (fun _ _ e => e))
  clear hF11
  go_wp2_with fail
  go_ret
  exact ⟨rfl, HF11.out⟩

end Go.Proofs.Ytpieaenfnajlfaa
