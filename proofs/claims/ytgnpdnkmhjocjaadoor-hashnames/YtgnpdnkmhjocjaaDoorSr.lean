/- Package hash, the laws' own: stops, walked. -/
import Derived.Test.YtgnpdnkmhjocjaaDoorSu
namespace Go.Proofs.YtgnpdnkmhjocjaaDoor
open Go.RowKit Go.IntWalk
set_option linter.unusedSimpArgs false
set_option linter.unusedVariables false

set_option maxRecDepth 100000 in
set_option maxHeartbeats 4000000 in
theorem hstops_any (s : ByteArray) (hs : s.size ≤ 9223372036854775807) (at_ : Nat) (hpr : prs s.data.toList = (zeros32, 4, at_)) (w : World) : Calls Tryd.prog 25 #[.string s, .int .i64 (at_ : Int)] w fun e w' => e = .returned (.bool true) ∧ Fr (fun _ => False) w w' := by
  have HP := hideIt (hparse_any s hs w)
  rw [hpr] at HP
  have hz : (bv zeros32).toArray = zA := rfl
  rw [hz] at HP
  have HIA := hideIt (show (Tryd.prog.info? 30).map (·.size) = some zA.size by kernel_rfl)
  have HIL := hideIt (show (Tryd.prog.info? 30).map (·.size) = some zA.toList.length by kernel_rfl)
  have HO := hideIt (show zA.all (·.oneCell') = true by simp [zA, Value.oneCell'])
  have heq : ∀ w : World, (binOp .eql 30 (.agg zA) (.agg zA)).run Tryd.prog w = .ok (.bool true) w := fun w => ids_eql w zeros32 zeros32 rfl rfl
  clear hpr hz
  go_enter Tryd.func25, Tryd.ntmps25
  go_wp2_with fail
  refine Calls.mono HP.out ?_
  rintro e w1 ⟨rfl, hF1⟩
  have HF1 := hideIt hF1
  clear hF1 HP
  have HA := hideIt (show ((w1.alloc (.cells zA 30)).alloc (.cells #[.int .i64 0, .int .i64 0] 39)).heap[w1.heap.size]? = some (.cells zA 30 (0, 0)) from heap_old (heap_new rfl))
  have HB := hideIt (show ((w1.alloc (.cells zA 30)).alloc (.cells #[.int .i64 0, .int .i64 0] 39)).heap[w1.heap.size + 1]? = some (.cells #[.int .i64 0, .int .i64 0] 39 (0, 0)) from heap_new (by simp))
  have HF2 := hideIt ((HF1.out.alloc (.cells zA 30)).alloc (.cells #[.int .i64 0, .int .i64 0] 39))
  have HT1 := hideIt (thereNew _ w1.heap.size zA 30 HA.out zA.size rfl)
  have HS1 := hideIt (store_over (V := zA) HA.out rfl)
  have hsz := HF1.out.size
  have HW := hideIt (fun W2 (h : W2 = ((w1.alloc (.cells zA 30)).alloc (.cells #[.int .i64 0, .int .i64 0] 39)).setCells w1.heap.size 0 zA.toList) => show W2.heap[w1.heap.size]? = some (.cells zA 30 (0, 0)) ∧ W2.heap[w1.heap.size + 1]? = some (.cells #[.int .i64 0, .int .i64 0] 39 (0, 0)) ∧ Fr (fun _ => False) w W2 by
    subst h
    exact ⟨HS1.out.1, (HS1.out.2.block (w1.heap.size + 1) (Array.getElem?_eq_some_iff.1 HB.out).1 (by omega)).trans HB.out, HF2.out.trans HS1.out.2 (fun i hi e => by omega)⟩)
  clear HS1 HA HB HF1 HF2
  go_wp2_with (first | (refine wpList_store_abs rfl 30 (.tmp 5) (.tmp 10) rfl w1.heap.size 0 zA rfl rfl HT1.out HIA.out HO.out ?_; intro W2 hW2; obtain ⟨hA2, hB2, hF2⟩ := HW.out W2 hW2; have HA2 := hideIt hA2; have HF3 := hideIt hF2; have c0 := cellOfHeap hB2 0 (v := .int .i64 0) rfl; have c1 := cellOfHeap hB2 1 (v := .int .i64 0) rfl; have f0 := frozen_of_row W2 (w1.heap.size + 1) 0 _ _ hB2; have f1 := frozen_of_row W2 (w1.heap.size + 1) 1 _ _ hB2; have HFZ := hideIt (((Fr.refl (fun k => k = w1.heap.size + 1) W2).setCell (p := ⟨w1.heap.size + 1, 0, none⟩) (fun _ => rfl) (.int .i64 4)).setCell (p := ⟨w1.heap.size + 1, 1, none⟩) (fun _ => rfl) (.int .i64 (at_ : Int))); have HR3 := hideIt (rangeOf ((HFZ.out.block w1.heap.size (Array.getElem?_eq_some_iff.1 HA2.out).1 (by omega)).trans HA2.out)); have HF4 := hideIt (HF3.out.trans HFZ.out (fun i hi e => by omega)); clear HFZ HF3 hW2 hA2 hB2 hF2 HW HT1) | (refine wpList_load_mid rfl 30 (.tmp 5) rfl w1.heap.size 0 rfl zA.toList _ HR3.out Tryd.underlying30 rfl HIL.out ?_) | (refine wpList_bin_want (by rfl) .eql 30 30 (.tmp 12) (.tmp 13) rfl (.agg zA) (.agg zA) (.bool true) rfl rfl (heq _) (ids_grd _ .eql (.tmp 12) (.tmp 13) zeros32 zeros32) ?_))
  go_ret
  exact ⟨rfl, HF4.out⟩

end Go.Proofs.YtgnpdnkmhjocjaaDoor
