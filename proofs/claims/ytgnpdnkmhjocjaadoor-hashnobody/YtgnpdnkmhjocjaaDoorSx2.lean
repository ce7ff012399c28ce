/- Package hash: a digest that is none, or that New did not make (none, Write, Len, Sum), walked. -/
import Derived.Test.YtgnpdnkmhjocjaaDoorSx1
namespace Go.Proofs.YtgnpdnkmhjocjaaDoor
open Go.RowKit Go.IntWalk
set_option linter.unusedSimpArgs false
set_option linter.unusedVariables false

theorem dnone_nil (w : World) : Calls Tryd.prog 27 #[.pointer none] w fun e w' => e = .returned (.bool true) ∧ w' = w := by
  go_enter Tryd.func27, Tryd.ntmps27
  go_wp2_with fail
  go_ret
  exact ⟨rfl, rfl⟩
theorem dnone_zero (p : Nat) (w : World) (c0 : w.cell? ⟨p, 0, none⟩ = some (.bool false)) : Calls Tryd.prog 27 #[.pointer (some ⟨p, 0, none⟩)] w fun e w' => e = .returned (.bool true) ∧ w' = w := by
  have hpl := block_lt_of_cell c0
  go_enter Tryd.func27, Tryd.ntmps27
  go_wp2_with fail
  go_ret
  exact ⟨rfl, rfl⟩
/-- Nobody: what none says of it in every later world. -/
def NoB (P : Option Addr) (w : World) : Prop := ∀ w', Fr (fun _ => False) w w' → Calls Tryd.prog 27 #[.pointer P] w' fun e w2 => e = .returned (.bool true) ∧ w2 = w'
theorem nob_nil (w : World) : NoB none w := fun w' _ => dnone_nil w'
theorem nob_zero (p : Nat) (w : World) (c0 : w.cell? ⟨p, 0, none⟩ = some (.bool false)) : NoB (some ⟨p, 0, none⟩) w := fun w' hF =>
  dnone_zero p w' ((World.cell?_of_block (a := ⟨p, 0, none⟩) (hF.block p (block_lt_of_cell c0) (fun e => e))).trans c0)
theorem dwrite_no (P : Option Addr) (v : Value) (w : World) (h : NoB P w) : Calls Tryd.prog 14 #[.pointer P, v] w fun e w' => e = .returned (.tuple #[]) ∧ w' = w := by
  have HN := hideIt (h w (Fr.refl _ _))
  clear h
  go_enter Tryd.func14, Tryd.ntmps14
  go_wp2_with fail
  refine Calls.mono HN.out ?_
  rintro e w' ⟨rfl, rfl⟩
  go_wp2_with fail
  exact bodyPost_ret (v := .tuple #[]) (by simp [results, Tryd.results14, go_sem]) rfl ⟨rfl, rfl⟩
theorem dlen_no (P : Option Addr) (w : World) (h : NoB P w) : Calls Tryd.prog 19 #[.pointer P] w fun e w' => e = .returned (.int .i64 0) ∧ w' = w := by
  have HN := hideIt (h w (Fr.refl _ _))
  clear h
  go_enter Tryd.func19, Tryd.ntmps19
  go_wp2_with fail
  refine Calls.mono HN.out ?_
  rintro e w' ⟨rfl, rfl⟩
  go_wp2_with fail
  go_ret
  exact ⟨rfl, rfl⟩
set_option maxRecDepth 100000 in
set_option maxHeartbeats 1000000 in
theorem dsum_no (P : Option Addr) (w : World) (h : NoB P w) : Calls Tryd.prog 18 #[.pointer P] w fun e w' => e = .returned (.agg zA) ∧ Fr (fun _ => False) w w' := by
  have hf : Fr (fun _ => False) w (w.alloc (.cells zA 30)) := (Fr.refl _ _).alloc _
  have HF := hideIt hf
  have HN := hideIt (h _ hf)
  have HA := hideIt (show (w.alloc (.cells zA 30)).heap[w.heap.size]? = some (.cells zA 30 (0, 0)) from heap_new rfl)
  have HI := hideIt (show (Tryd.prog.info? 30).map (·.size) = some zA.size by kernel_rfl)
  have HO := hideIt (show zA.all (·.oneCell') = true by simp [zA, Value.oneCell'])
  have HT := hideIt (thereNew _ w.heap.size zA 30 HA.out zA.size rfl)
  have HS := hideIt (store_over (V := zA) HA.out rfl)
  clear h hf
  go_enter Tryd.func18, Tryd.ntmps18
  go_wp2_with fail
  refine Calls.mono HN.out ?_
  rintro e w1 ⟨rfl, rfl⟩
  go_wp2_with (first | (refine wpList_store_abs rfl 30 (.tmp 2) (.tmp 6) rfl w.heap.size 0 zA rfl rfl HT.out HI.out HO.out ?_; intro W2 hW2; have HW2 := hideIt hW2; clear hW2))
  refine bodyPost_ret (results_cell_row Tryd.results18 _ _ w.heap.size 30 zA (0, 0) _ rfl ?_ Tryd.underlying30 rfl HI.out) rfl ⟨rfl, ?_⟩
  · rw [HW2.out]
    exact HS.out.1
  · rw [HW2.out]
    exact HF.out.trans HS.out.2 (fun i hi e => by omega)

end Go.Proofs.YtgnpdnkmhjocjaaDoor
