/- Package hash: what stands behind a message (ending), walked. -/
import Derived.Test.YtgnpdnkmhjocjaaDoorSg
import Derived.Test.YtgnpdnkmhjocjaaDoorSh
namespace Go.Proofs.YtgnpdnkmhjocjaaDoor
open Go.RowKit Go.IntWalk
set_option linter.unusedSimpArgs false
set_option linter.unusedVariables false

theorem LaidB.first (n : Nat) : LaidB n 0 ((List.replicate (9 + nou n) 0).set 0 128) := by
  refine ⟨by simp, fun t ht => ?_⟩
  rw [if_neg (by omega)]
  by_cases t0 : t = 0
  · subst t0
    rw [if_pos rfl, show 9 + nou n = (8 + nou n) + 1 by omega, List.replicate_succ]
    rfl
  · rw [if_neg t0]
    simp [List.getD, List.getElem?_set, Ne.symm t0, List.getElem?_replicate, ht]

set_option maxRecDepth 100000 in
set_option maxHeartbeats 4000000 in
theorem ending_any (n : Nat) (hn : n ≤ 140737488355328) (w : World) : Calls Tryd.prog 33 #[.int .i64 (n : Int)] w fun e w' => ∃ L, L = (Sha.ending n).length ∧ e = .returned (.slice (some ⟨w.heap.size, 0, none⟩) L L) ∧ w'.heap[w.heap.size]? = some (.cells (bv (Sha.ending n)).toArray 5 (0, 0)) ∧ Fr (fun _ => False) w w' := by
  obtain ⟨i0, hi, hz0, hz1, hz2⟩ := info_parts Tryd.infoU8
  have hnn : nou n < 64 := Nat.mod_lt _ (by decide)
  have hlen := ending_len n
  have hr1 : IntKind.i64.wrap (119 - (n : Int) % 64) = 119 - (n : Int) % 64 := by rw [IntKind.wrap_i64]; omega
  have hr2 : (119 - (n : Int) % 64).tmod 64 = (nou n : Int) := by
    rw [Int.tmod_eq_emod_of_nonneg (by omega)]
    unfold nou
    omega
  have hr3 : IntKind.i64.wrap (1 + (nou n : Int)) = 1 + (nou n : Int) := by rw [IntKind.wrap_i64]; omega
  have hr4 : IntKind.i64.wrap (1 + (nou n : Int) + 8) = ((9 + nou n : Nat) : Int) := by rw [IntKind.wrap_i64]; omega
  have hmd : madeCells #[.int .u8 0] (9 + nou n) = (bv (List.replicate (9 + nou n) 0)).toArray := by
    apply Array.ext'
    rw [toList_madeCells_one]
    simp [bv]
  have HM0 := hideIt (show (w.alloc (.cells (madeCells #[.int .u8 0] (9 + nou n)) 5)).heap[w.heap.size]? = some (.cells (bv (List.replicate (9 + nou n) 0)).toArray 5 (0, 0)) by rw [hmd]; exact heap_new rfl)
  have HF0 := hideIt (show Fr (fun _ => False) w (w.alloc (.cells (madeCells #[.int .u8 0] (9 + nou n)) 5)) from (Fr.refl _ _).alloc _)
  have HNG := hideIt (fun i (h : i < 8) => ending_get n i h)
  have HFS := hideIt (LaidB.first n)
  have HHL := hideIt hlen
  have HALL := hideIt (fun ds (h : LaidB n 8 ds) => h.all)
  have HSTP := hideIt (fun i ds b (h : LaidB n i ds) (hi : i < 8) (hb : b = (Sha.ending n).getD (8 + nou n - i) 0) => h.step hi b hb)
  have HLLN := hideIt (fun i ds (h : LaidB n i ds) => h.1)
  have hc0 : (w.alloc (.cells (madeCells #[.int .u8 0] (9 + nou n)) 5)).cell? ⟨w.heap.size, 0, none⟩ = some (.int .u8 0) := cellOfHeap HM0.out 0 (by
    have h9 : 0 < 9 + nou n := by omega
    simp [bv, h9])
  have hfz := frozen_of_row _ w.heap.size 0 _ _ HM0.out
  have hs2 : (bv (List.replicate (9 + nou n) 0)).toArray.setIfInBounds 0 (.int .u8 128) = (bv ((List.replicate (9 + nou n) 0).set 0 128)).toArray := by
    have : (.int .u8 128 : Value) = .int .u8 ((128 : UInt8).toNat : Int) := rfl
    rw [this]
    apply Array.ext'
    rw [Array.toList_setIfInBounds]
    unfold bv
    rw [List.map_set]
  have HM1 := hideIt (show (w.alloc (.cells ((madeCells #[.int .u8 0] (9 + nou n)).setIfInBounds 0 (.int .u8 128)) 5)).heap[w.heap.size]? = some (.cells (bv ((List.replicate (9 + nou n) 0).set 0 128)).toArray 5 (0, 0)) by rw [hmd, hs2]; exact heap_new rfl)
  have HF1 := hideIt (show Fr (fun _ => False) w (w.alloc (.cells ((madeCells #[.int .u8 0] (9 + nou n)).setIfInBounds 0 (.int .u8 128)) 5)) from (Fr.refl _ _).alloc _)
  have hq9 : (0 : Int) < ((9 + nou n : Nat) : Int) := by omega
  clear hmd hlen hs2
  generalize nou n = q at *
  go_enter Tryd.func33, Tryd.ntmps33
  go_wp2_with (first | (at_make; refine wpList_make_row _ rfl _ _ 27 rfl 5 i0 (.int .u8 0) Tryd.underlying27 hi hz0 hz1 rfl .i64 .i64 (9 + q) rfl rfl (by rw [hz2]; omega) (by omega) ?_))
  clear hc0 hfz HM0 HF0 hr1 hr2 hr3 hr4 hq9
  go_loopw [20] (fun s20 wr => ∃ (i : Nat) (ds : List UInt8), s20 = .int .i64 i ∧ i ≤ 8 ∧ Hid (LaidB n i ds) ∧ Hid (wr.heap[w.heap.size]? = some (.cells (bv ds).toArray 5 (0, 0))) ∧ Hid (Fr (fun _ => False) w wr)) (fun s20 _ => 8 - (intOf s20).toNat)
  case atStart => exact ⟨0, _, rfl, by omega, HFS, HM1, HF1⟩
  case round =>
    clear HM1 HF1 HFS
    obtain ⟨i, ds, rfl, hi8, HP, HD, HF⟩ := hrel
    by_cases hlt : i < 8
    · have hix0 : (0 : Int) ≤ 8 + (q : Int) - (i : Int) := by omega
      have hix1 : 8 + (q : Int) - (i : Int) < 9 + (q : Int) := by omega
      have hixn : (8 + (q : Int) - (i : Int)).toNat = 8 + q - i := by omega
      have hdl := HLLN.out i ds HP.out
      have hc : wr.cell? ⟨w.heap.size, 8 + q - i, none⟩ = some (.int .u8 ((ds.getD (8 + q - i) 0).toNat : Int)) := cellOfHeap HD.out (8 + q - i) (by
        have hlt2 : 8 + q - i < ds.length := by rw [hdl]; omega
        simp [bv, List.getD, hlt2])
      have hfz := frozen_of_row wr w.heap.size (8 + q - i) _ _ HD.out
      have hv : ((n : Int) * 8) / 2 ^ (8 * i) % 256 = (((Sha.ending n).getD (8 + q - i) 0).toNat : Int) := by
        rw [HNG.out i hlt]
        obtain rfl | rfl | rfl | rfl | rfl | rfl | rfl | rfl : i = 0 ∨ i = 1 ∨ i = 2 ∨ i = 3 ∨ i = 4 ∨ i = 5 ∨ i = 6 ∨ i = 7 := by omega
        all_goals simp <;> omega
      have HLS := hideIt (HSTP.out i ds _ HP.out hlt rfl)
      have HST := hideIt (heap_setCell_same wr w.heap.size (8 + q - i) _ _ (.int .u8 (((Sha.ending n).getD (8 + q - i) 0).toNat : Int)) HD.out)
      have hs2 : (bv ds).toArray.setIfInBounds (8 + q - i) (.int .u8 (((Sha.ending n).getD (8 + q - i) 0).toNat : Int)) = (bv (ds.set (8 + q - i) ((Sha.ending n).getD (8 + q - i) 0))).toArray := by simp [bv, List.map_set]
      have HST := hideIt (by have := HST.out; rw [hs2] at this; exact this)
      have HF2 := hideIt (HF.out.trans ((Fr.refl (fun k => k = w.heap.size) wr).setCell (p := ⟨w.heap.size, 8 + q - i, none⟩) (fun _ => rfl) (.int .u8 (((Sha.ending n).getD (8 + q - i) 0).toNat : Int))) (fun k hk e => by omega))
      clear hs2 hdl
      generalize (Sha.ending n).getD (8 + q - i) 0 = bb at *
      go_wp2_with fail
      exact ⟨⟨i + 1, _, by go_num, by omega, HLS, HST, HF2⟩, by simp [intOf]; omega⟩
    · have hi9 : i = 8 := by omega
      have hds : ds = Sha.ending n := HALL.out ds (by have := HP.out; rwa [hi9] at this)
      have HD2 := hideIt (by have := HD.out; rw [hds] at this; exact this)
      clear HP HD HNG HSTP HLLN HALL
      go_wp2_with fail
      go_ret
      exact ⟨9 + q, HHL.out.symm, rfl, HD2.out, HF.out⟩

end Go.Proofs.YtgnpdnkmhjocjaaDoor
