/- Package hash: a state as bytes (name). -/
import Derived.Test.YtgnpdnkmhjocjaaDoorSd
namespace Go.Proofs.YtgnpdnkmhjocjaaDoor
open Go.RowKit Go.IntWalk
set_option linter.unusedSimpArgs false
set_option linter.unusedVariables false

def stW (s : Sha.St) (k : Nat) : Nat := [s.a, s.b, s.c, s.d, s.e, s.f, s.g, s.h].getD k 0
theorem name_len (s : Sha.St) : (Sha.name s).length = 32 := rfl
theorem name_get (s : Sha.St) (k j : Nat) (hk : k < 8) (hj : j < 4) : (Sha.name s).getD (4 * k + j) 0 = UInt8.ofNat (stW s k / 256 ^ (3 - j) % 256) := by
  obtain rfl | rfl | rfl | rfl : j = 0 ∨ j = 1 ∨ j = 2 ∨ j = 3 := by omega
  all_goals
    obtain rfl | rfl | rfl | rfl | rfl | rfl | rfl | rfl : k = 0 ∨ k = 1 ∨ k = 2 ∨ k = 3 ∨ k = 4 ∨ k = 5 ∨ k = 6 ∨ k = 7 := by omega
    all_goals simp [Sha.name, Sha.bytesOf, stW, Nat.div_div_eq_div_mul]
theorem stW_lt (s : Sha.St) (hs : St32 s) (k : Nat) (hk : k < 8) : stW s k < 4294967296 := by
  obtain rfl | rfl | rfl | rfl | rfl | rfl | rfl | rfl : k = 0 ∨ k = 1 ∨ k = 2 ∨ k = 3 ∨ k = 4 ∨ k = 5 ∨ k = 6 ∨ k = 7 := by omega
  · exact hs.a
  · exact hs.b
  · exact hs.c
  · exact hs.d
  · exact hs.e
  · exact hs.f
  · exact hs.g
  · exact hs.h

/-- A name's first bytes are laid. -/
def Laid (s : Sha.St) (n : Nat) (ds : List UInt8) : Prop := ds.length = 32 ∧ ∀ i, i < n → ds.getD i 0 = (Sha.name s).getD i 0
theorem Laid.step {s : Sha.St} {n : Nat} {ds : List UInt8} (h : Laid s n ds) (hn : n < 32) (b : UInt8) (hb : b = (Sha.name s).getD n 0) : Laid s (n + 1) (ds.set n b) := by
  refine ⟨by rw [List.length_set]; exact h.1, fun i hi => ?_⟩
  have hl := h.1
  by_cases e : i = n
  · subst e
    rw [← hb]
    simp [List.getD, List.getElem?_set, hl, hn]
  · have := h.2 i (by omega)
    rw [← this]
    simp [List.getD, List.getElem?_set, Ne.symm e]
theorem Laid.all {s : Sha.St} {ds : List UInt8} (h : Laid s 32 ds) : ds = Sha.name s := by
  apply List.ext_getElem
  · rw [h.1, name_len]
  · intro i g1 g2
    have := h.2 i (by rw [← h.1]; exact g1)
    simpa [List.getD, g1, g2] using this

set_option maxRecDepth 100000 in
set_option maxHeartbeats 4000000 in
theorem name_any (s : Sha.St) (hs : St32 s) (w : World) : Calls Tryd.prog 34 #[.agg (stA s)] w fun e w' => e = .returned (.agg (bv (Sha.name s)).toArray) ∧ Fr (fun _ => False) w w' := by
  have HF0 := hideIt (show Fr (fun _ => False) w (((w.alloc (.cells (stA s) 46)).alloc (.cells zA 30)).alloc (.cells zA 30)) from (((Fr.refl _ w).alloc _).alloc _).alloc _)
  have HZ0 := hideIt (show (((w.alloc (.cells (stA s) 46)).alloc (.cells zA 30)).alloc (.cells zA 30)).heap[w.heap.size + 1]? = some (.cells zA 30 (0, 0)) from heap_old (heap_new (by simp)))
  have HD0 := hideIt (show (((w.alloc (.cells (stA s) 46)).alloc (.cells zA 30)).alloc (.cells zA 30)).heap[w.heap.size + 1 + 1]? = some (.cells (bv (List.replicate 32 0)).toArray 30 (0, 0)) from heap_new (by simp))
  have HL := hideIt (show (((w.alloc (.cells (stA s) 46)).alloc (.cells zA 30)).alloc (.cells zA 30)).rangeAt w.heap.size 0 (stA s).toList from rangeOf (heap_old (heap_old (heap_new rfl))))
  have HI := hideIt (show (Tryd.prog.info? 46).map (·.size) = some (stA s).toList.length by kernel_rfl)
  have HSS := hideIt hs
  have hix : ∀ (k : Nat) (hk : k < 8) (w : World), (Instr.index 46 (.agg (stA s)) (.int .i64 (k : Int))).run Tryd.prog w = .ok (.int .u32 (stW s k : Nat)) w := fun k hk w => by
    refine run_index_arr w 46 44 8 k _ _ _ Tryd.underlying46 Tryd.underlying44 rfl Tryd.infoU32s hk ?_
    obtain rfl | rfl | rfl | rfl | rfl | rfl | rfl | rfl : k = 0 ∨ k = 1 ∨ k = 2 ∨ k = 3 ∨ k = 4 ∨ k = 5 ∨ k = 6 ∨ k = 7 := by omega
    all_goals rfl
  have HIX := hideIt hix
  clear hix hs
  generalize hV : stA s = V at *
  clear hV
  go_enter Tryd.func34, Tryd.ntmps34
  go_wp2_with (first | (refine wpList_load_mid rfl 46 (.tmp 1) rfl w.heap.size 0 rfl V.toList _ HL.out Tryd.underlying46 rfl HI.out ?_))
  go_loopw [8] (fun i wr => ∃ (k : Nat) (ds : List UInt8), i = .int .i64 k ∧ k ≤ 8 ∧ Hid (Laid s (4 * k) ds) ∧ Hid (wr.heap[w.heap.size + 1 + 1]? = some (.cells (bv ds).toArray 30 (0, 0))) ∧ Hid (wr.heap[w.heap.size + 1]? = some (.cells zA 30 (0, 0))) ∧ Hid (Fr (fun _ => False) w wr))
    (fun i _ => 8 - (intOf i).toNat)
  case atStart => exact ⟨0, List.replicate 32 0, rfl, by omega, hideIt ⟨by simp, fun i hi => by omega⟩, HD0, HZ0, HF0⟩
  case round =>
    clear HD0 HZ0 HF0
    obtain ⟨k, ds, rfl, hk, HP, HD, HZ, HF⟩ := hrel
    by_cases hlt : k < 8
    · have hixk := HIX.out k hlt
      have h32 := stW_lt s HSS.out k hlt
      have HNG := hideIt (fun j (hj : j < 4) => name_get s k j hlt hj)
      generalize stW s k = x at *
      have k8 : (k : Int) < 8 := by omega
      go_wp2_with fail
      go_loopw [12] (fun i wr => ∃ (j : Nat) (ds : List UInt8), i = .int .i64 j ∧ j ≤ 4 ∧ Hid (Laid s (4 * k + j) ds) ∧ Hid (wr.heap[w.heap.size + 1 + 1]? = some (.cells (bv ds).toArray 30 (0, 0))) ∧ Hid (wr.heap[w.heap.size + 1]? = some (.cells zA 30 (0, 0))) ∧ Hid (Fr (fun _ => False) w wr))
        (fun i _ => 4 - (intOf i).toNat)
      case atStart => exact ⟨0, ds, rfl, by omega, HP, HD, HZ, HF⟩
      case round =>
        clear HP HD HZ HF
        obtain ⟨j, ds, rfl, hj, HP, HD, HZ, HF⟩ := hrel
        by_cases hjl : j < 4
        · have hm1 : IntKind.i64.wrap (4 * (k : Int)) = 4 * (k : Int) := by rw [IntKind.wrap_i64]; omega
          have hm2 : IntKind.i64.wrap (4 * (k : Int) + (j : Int)) = 4 * (k : Int) + (j : Int) := by rw [IntKind.wrap_i64]; omega
          have hix0 : (0 : Int) ≤ 4 * (k : Int) + (j : Int) := by omega
          have hix1 : 4 * (k : Int) + (j : Int) < 32 := by omega
          have hixn : (4 * (k : Int) + (j : Int)).toNat = 4 * k + j := by omega
          have hc : wr.cell? ⟨w.heap.size + 1 + 1, 4 * k + j, none⟩ = some (.int .u8 ((ds.getD (4 * k + j) 0).toNat : Int)) := cellOfHeap HD.out (4 * k + j) (by
            have hl := HP.out.1
            have hlt : 4 * k + j < ds.length := by omega
            simp [bv, List.getD, hlt])
          have hfz := frozen_of_row wr (w.heap.size + 1 + 1) (4 * k + j) _ _ HD.out
          have HB := hideIt (HNG.out j hjl)
          have hv : (x : Int) / 2 ^ (8 * (3 - j)) % 256 = (((Sha.name s).getD (4 * k + j) 0).toNat : Int) := by
            rw [HB.out]
            obtain rfl | rfl | rfl | rfl : j = 0 ∨ j = 1 ∨ j = 2 ∨ j = 3 := by omega
            all_goals simp
          have HST := hideIt (heap_setCell_same wr (w.heap.size + 1 + 1) (4 * k + j) _ _ (.int .u8 (((Sha.name s).getD (4 * k + j) 0).toNat : Int)) HD.out)
          have hs2 : (bv ds).toArray.setIfInBounds (4 * k + j) (.int .u8 (((Sha.name s).getD (4 * k + j) 0).toNat : Int)) = (bv (ds.set (4 * k + j) ((Sha.name s).getD (4 * k + j) 0))).toArray := by simp [bv, List.map_set]
          have HST := hideIt (by have := HST.out; rw [hs2] at this; exact this)
          have HLS := hideIt (HP.out.step (by omega) _ rfl)
          have hfr := (Fr.refl (fun i => i = w.heap.size + 1 + 1) wr).setCell (p := ⟨w.heap.size + 1 + 1, 4 * k + j, none⟩) (fun _ => rfl) (.int .u8 (((Sha.name s).getD (4 * k + j) 0).toNat : Int))
          have HZ2 := hideIt ((hfr.block (w.heap.size + 1) (Array.getElem?_eq_some_iff.1 HZ.out).1 (by omega)).trans HZ.out)
          have HF2 := hideIt (HF.out.trans hfr (fun i hi e => by omega))
          have HVV := hideIt hv
          clear hs2 hfr hv HB
          generalize (Sha.name s).getD (4 * k + j) 0 = bb at *
          go_wp2_with fail
          rw [HVV.out]
          exact ⟨⟨j + 1, _, by go_num, by omega, HLS, HST, HZ2, HF2⟩, by simp [intOf]; omega⟩
        · have hj4 : j = 4 := by omega
          have HP2 := hideIt (show Laid s (4 * (k + 1)) ds by have := HP.out; rw [hj4] at this; exact this)
          clear HP
          go_wp2_with fail
          exact ⟨⟨k + 1, ds, by go_num, by omega, HP2, HD, HZ, HF⟩, by simp [intOf]; omega⟩
    · have hk8 : k = 8 := by omega
      have hds : ds = Sha.name s := by have := HP.out; rw [hk8] at this; exact this.all
      subst hds
      have hnl := name_len s
      generalize hN : Sha.name s = N at *
      have HNN := hideIt hN
      clear hN
      have HW := hideIt (show wr.rangeAt (w.heap.size + 1 + 1) 0 (bv N) from rangeOf HD.out)
      have HIL := hideIt (show (Tryd.prog.info? 30).map (·.size) = some (bv N).length by rw [bv_length, hnl]; kernel_rfl)
      have HIA := hideIt (show (Tryd.prog.info? 30).map (·.size) = some (bv N).toArray.size by rw [List.size_toArray, bv_length, hnl]; kernel_rfl)
      have HTT := hideIt (thereNew wr (w.heap.size + 1) zA 30 HZ.out (bv N).toArray.size (by rw [List.size_toArray, bv_length, hnl]; rfl))
      have H1 := hideIt (show (bv N).toArray.all (·.oneCell') = true by simp [bv, Value.oneCell'])
      have HSF := hideIt (store_over (V := (bv N).toArray) HZ.out (by rw [List.size_toArray, bv_length, hnl]; rfl))
      clear HD HZ HP
      go_wp2_with (first | (refine wpList_load_mid rfl 30 (.tmp 3) rfl (w.heap.size + 1 + 1) 0 rfl (bv N) _ HW.out Tryd.underlying30 rfl HIL.out ?_) | (refine wpList_store_abs rfl 30 (.tmp 2) (.tmp 28) rfl (w.heap.size + 1) 0 (bv N).toArray rfl rfl HTT.out HIA.out H1.out ?_; intro W5 hW5; have HW5 := hideIt hW5; clear hW5))
      refine bodyPost_ret (results_cell_row Tryd.results34 _ _ (w.heap.size + 1) 30 (bv N).toArray (0, 0) _ rfl ?_ Tryd.underlying30 rfl HIA.out) rfl ⟨by rw [HNN.out], ?_⟩
      · rw [HW5.out]
        exact HSF.out.1
      · rw [HW5.out]
        exact HF.out.trans HSF.out.2 (fun i hi e => by omega)

end Go.Proofs.YtgnpdnkmhjocjaaDoor
