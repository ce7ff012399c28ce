/- Package hash, the laws' own: noughts, walked. -/
import Derived.Test.YtgnpdnkmhjocjaaDoorSq
namespace Go.Proofs.YtgnpdnkmhjocjaaDoor
open Go.RowKit Go.IntWalk
set_option linter.unusedSimpArgs false
set_option linter.unusedVariables false

set_option maxRecDepth 100000 in
set_option maxHeartbeats 4000000 in
theorem hnoughts_any (n : Nat) (hn1 : 0 < n) (hn : n ≤ 1000) (w : World) : Calls Tryd.prog 26 #[.int .i64 (n : Int)] w fun e w' => e = .returned (.string ⟨(List.replicate n (48 : UInt8)).toArray⟩) ∧ Fr (fun _ => False) w w' := by
  obtain ⟨i0, hi, hz0, hz1, hz2⟩ := info_parts Tryd.infoU8
  have hmd : madeCells #[.int .u8 0] n = (bv (List.replicate n 0)).toArray := by
    apply Array.ext'
    rw [toList_madeCells_one]
    simp [bv]
  obtain ⟨T, hT⟩ : ∃ T, List.replicate n (48 : UInt8) = T := ⟨_, rfl⟩
  have hTl : T.length = n := by rw [← hT]; simp
  have HTG := hideIt (show ∀ i, i < n → T.getD i 0 = 48 from fun i hi => by rw [← hT]; simp [List.getD, hi])
  have HTL := hideIt hTl
  have HM0 := hideIt (show (w.alloc (.cells (madeCells #[.int .u8 0] n) 5)).heap[w.heap.size]? = some (.cells (bv (List.replicate n 0)).toArray 5 (0, 0)) by rw [hmd]; exact heap_new rfl)
  have HF0 := hideIt (show Fr (fun _ => False) w (w.alloc (.cells (madeCells #[.int .u8 0] n) 5)) from (Fr.refl _ _).alloc _)
  have HP0 := hideIt (show LaidG T 0 (List.replicate n 0) from ⟨by rw [hTl]; simp, fun i hi => by omega⟩)
  rw [hT]
  clear hmd hT hTl
  go_enter Tryd.func26, Tryd.ntmps26
  go_wp2_with (first | (at_make; refine wpList_make_row _ rfl _ _ 27 rfl 5 i0 (.int .u8 0) Tryd.underlying27 hi hz0 hz1 rfl .i64 .i64 n rfl rfl (by rw [hz2]; omega) (by omega) ?_))
  go_loopw [4] (fun s4 wr => ∃ (i : Nat) (ds : List UInt8), s4 = .int .i64 i ∧ i ≤ n ∧ Hid (LaidG T i ds) ∧ Hid (wr.heap[w.heap.size]? = some (.cells (bv ds).toArray 5 (0, 0))) ∧ Hid (Fr (fun _ => False) w wr)) (fun s4 _ => n - (intOf s4).toNat)
  case atStart => exact ⟨0, _, rfl, by omega, HP0, HM0, HF0⟩
  case round =>
    clear HP0 HM0 HF0
    obtain ⟨i, ds, rfl, hin, HP, HD, HF⟩ := hrel
    by_cases hlt : i < n
    · have hdl : ds.length = n := by have := HP.out.1; rw [HTL.out] at this; exact this
      have hix : (i : Int) < (n : Int) := by omega
      have hc : wr.cell? ⟨w.heap.size, i, none⟩ = some (.int .u8 ((ds.getD i 0).toNat : Int)) := cellOfHeap HD.out i (by
        have hlt2 : i < ds.length := by omega
        simp [bv, List.getD, hlt2])
      have hfz := frozen_of_row wr w.heap.size i _ _ HD.out
      have HLS := hideIt (HP.out.step (by rw [HTL.out]; exact hlt) 48 (HTG.out i hlt).symm)
      have HST := hideIt (heap_setCell_same wr w.heap.size i _ _ (.int .u8 48) HD.out)
      have hs2 : (bv ds).toArray.setIfInBounds i (.int .u8 48) = (bv (ds.set i 48)).toArray := by
        have : (.int .u8 48 : Value) = .int .u8 ((48 : UInt8).toNat : Int) := rfl
        rw [this]
        simp [bv, List.map_set]
      have HST := hideIt (by have := HST.out; rw [hs2] at this; exact this)
      have HF2 := hideIt (HF.out.trans ((Fr.refl (fun k => k = w.heap.size) wr).setCell (p := ⟨w.heap.size, i, none⟩) (fun _ => rfl) (.int .u8 48)) (fun k hk e => by omega))
      clear hs2 hdl HP HD HF
      go_wp2_with fail
      go_roundw
      case measure => simp [intOf]; omega
      case rel => exact ⟨i + 1, _, by go_num, by omega, HLS, HST, HF2⟩
    · have hi9 : i = n := by omega
      subst hi9
      have hds : ds = T := LaidG.all (by rw [HTL.out]; exact HP.out)
      subst hds
      have hll := HTL.out
      have hconv := BsAt.conv (w := wr) (ao := some ⟨w.heap.size, 0, none⟩) (bs := ds) (cells_bs HD.out) i
      rw [hll] at hconv
      clear HP HTG
      go_wp2_with fail
      go_ret
      exact ⟨rfl, HF.out⟩

end Go.Proofs.YtgnpdnkmhjocjaaDoor
