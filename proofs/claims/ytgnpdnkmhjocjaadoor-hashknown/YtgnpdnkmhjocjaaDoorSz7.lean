/- Package hash, the laws: the published examples (HashKnown), walked. -/
import Derived.Test.YtgnpdnkmhjocjaaDoorSw1
import Derived.Test.YtgnpdnkmhjocjaaDoorSz6
namespace Go.Proofs.YtgnpdnkmhjocjaaDoor
open Go.RowKit Go.IntWalk
set_option linter.unusedSimpArgs false
set_option linter.unusedVariables false

set_option maxRecDepth 100000 in
theorem named_56 : (hexL (Sha.sum [97, 98, 99, 100, 98, 99, 100, 101, 99, 100, 101, 102, 100, 101, 102, 103, 101, 102, 103, 104, 102, 103, 104, 105, 103, 104, 105, 106, 104, 105, 106, 107, 105, 106, 107, 108, 106, 107, 108, 109, 107, 108, 109, 110, 108, 109, 110, 111, 109, 110, 111, 112, 110, 111, 112, 113]) == [50, 52, 56, 100, 54, 97, 54, 49, 100, 50, 48, 54, 51, 56, 98, 56, 101, 53, 99, 48, 50, 54, 57, 51, 48, 99, 51, 101, 54, 48, 51, 57, 97, 51, 51, 99, 101, 52, 53, 57, 54, 52, 102, 102, 50, 49, 54, 55, 102, 54, 101, 99, 101, 100, 100, 52, 49, 57, 100, 98, 48, 54, 99, 49]) = true := by kernel_rfl
set_option maxRecDepth 100000 in
theorem prs_g : prs (103 :: List.replicate 63 (48 : UInt8)) = (zeros32, 4, 0) := by kernel_rfl
set_option maxRecDepth 100000 in
theorem prs_65 : prs (List.replicate 65 (48 : UInt8)) = (zeros32, 4, 64) := by kernel_rfl
set_option maxRecDepth 100000 in
theorem prs_dash : prs (List.replicate 64 (48 : UInt8) ++ [45]) = (zeros32, 4, 64) := by kernel_rfl
theorem cat_g : (⟨#[103]⟩ : ByteArray) ++ ⟨(List.replicate 63 (48 : UInt8)).toArray⟩ = ⟨(103 :: List.replicate 63 (48 : UInt8)).toArray⟩ := by
  apply ByteArray.ext
  rw [ByteArray.data_append]
  apply Array.ext'
  simp
theorem cat_dash : (⟨(List.replicate 64 (48 : UInt8)).toArray⟩ : ByteArray) ++ ⟨#[45]⟩ = ⟨(List.replicate 64 (48 : UInt8) ++ [45]).toArray⟩ := by
  apply ByteArray.ext
  rw [ByteArray.data_append]
  apply Array.ext'
  simp

set_option maxRecDepth 100000 in
set_option maxHeartbeats 4000000 in
theorem hknown_any (w : World) (hG : Glob w) : Calls Tryd.prog 6 #[] w fun e w' => e = .returned (.bool true) ∧ Fr (fun _ => False) w w' := by
  obtain ⟨i0, hi, hz0, hz1, hz2⟩ := info_parts Tryd.infoU8
  have hmd : madeCells #[.int .u8 0] 1000 = (bv (List.replicate 1000 0)).toArray := by
    apply Array.ext'
    rw [toList_madeCells_one]
    simp [bv]
  have HG := hideIt hG
  have HN := hideIt (gd_new w hG)
  obtain ⟨T, hT⟩ : ∃ T, List.replicate 1000 (97 : UInt8) = T := ⟨_, rfl⟩
  have hTl : T.length = 1000 := by rw [← hT, List.length_replicate]
  have HTG := hideIt (show ∀ i, i < 1000 → T.getD i 0 = 97 from fun i hi => by rw [← hT, List.getD_eq_getElem?_getD, List.getElem?_replicate, if_pos hi]; rfl)
  have HTL := hideIt hTl
  have HTT := hideIt hT
  clear hT hTl hG
  go_enter Tryd.func6, Tryd.ntmps6
  go_wp2_with fail
  refine Calls.mono HN.out ?_
  rintro e w1 ⟨rfl, hD1, hF1⟩
  obtain ⟨p, hp⟩ : ∃ p, w.heap.size = p := ⟨_, rfl⟩
  rw [hp] at hD1
  obtain ⟨q, hq⟩ : ∃ q, w1.heap.size = q := ⟨_, rfl⟩
  have HPQ := hideIt (show p < q by rw [← hq]; exact hD1.lt)
  have HM0 := hideIt (show (w1.alloc (.cells (madeCells #[.int .u8 0] 1000) 5)).heap[q]? = some (.cells (bv (List.replicate 1000 0)).toArray 5 (0, 0)) by rw [hmd]; exact heap_new hq.symm)
  have hf0 : Fr (fun _ => False) w1 (w1.alloc (.cells (madeCells #[.int .u8 0] 1000) 5)) := (Fr.refl _ _).alloc _
  have HD0 := hideIt (hD1.fr hf0 (fun e => e))
  have HF0 := hideIt (hF1.trans hf0 (fun _ _ e => e))
  have HP0 := hideIt (show LaidG T 0 (List.replicate 1000 0) from ⟨by rw [HTL.out, List.length_replicate], fun i hi => by omega⟩)
  have HWP := hideIt hp
  clear hmd hD1 hF1 hf0 HN
  go_wp2_with (first | (at_make; refine wpList_make_row _ rfl _ _ 27 rfl 5 i0 (.int .u8 0) Tryd.underlying27 hi hz0 hz1 rfl .i64 .i64 1000 rfl rfl (by rw [hz2]; decide) (by decide) ?_))
  have HQ := hideIt hq
  clear hi hz0 hz1 hz2
  go_loopw [3] (fun s3 wr => ∃ (i : Nat) (ds : List UInt8), s3 = .int .i64 i ∧ i ≤ 1000 ∧ Hid (LaidG T i ds) ∧ Hid (wr.heap[q]? = some (.cells (bv ds).toArray 5 (0, 0))) ∧ Hid (Dg wr p []) ∧ Hid (Fr (fun _ => False) w wr)) (fun s3 _ => 1000 - (intOf s3).toNat)
  case atStart => exact ⟨0, _, rfl, by omega, HP0, HM0, HD0, HF0⟩
  case round =>
    clear HP0 HM0 HD0 HF0
    obtain ⟨i, ds, rfl, hin, HP, HM, HD, HF⟩ := hrel
    by_cases hlt : i < 1000
    · have hdl : ds.length = 1000 := by have := HP.out.1; rw [HTL.out] at this; exact this
      have hix : (i : Int) < 1000 := by omega
      have hc : wr.cell? ⟨q, i, none⟩ = some (.int .u8 ((ds.getD i 0).toNat : Int)) := cellOfHeap HM.out i (by
        have hlt2 : i < ds.length := by omega
        simp [bv, List.getD, hlt2])
      have hfz := frozen_of_row wr q i _ _ HM.out
      have HLS := hideIt (HP.out.step (by rw [HTL.out]; exact hlt) 97 (HTG.out i hlt).symm)
      have HST := hideIt (heap_setCell_same wr q i _ _ (.int .u8 97) HM.out)
      have hs2 : (bv ds).toArray.setIfInBounds i (.int .u8 97) = (bv (ds.set i 97)).toArray := by
        have : (.int .u8 97 : Value) = .int .u8 ((97 : UInt8).toNat : Int) := rfl
        rw [this]
        simp [bv, List.map_set]
      have HST := hideIt (by have := HST.out; rw [hs2] at this; exact this)
      have hfr := (Fr.refl (fun k => k = q) wr).setCell (p := ⟨q, i, none⟩) (fun _ => rfl) (.int .u8 97)
      have HD2 := hideIt (HD.out.fr hfr (by have := HPQ.out; omega))
      have HF2 := hideIt (HF.out.trans hfr (fun k hk e => by have := HPQ.out; have := HWP.out; omega))
      clear hs2 hdl HP HM HD HF hfr
      go_wp2_with fail
      go_roundw
      case measure => simp [intOf]; omega
      case rel => exact ⟨i + 1, _, by go_num, by omega, HLS, HST, HD2, HF2⟩
    · have hi1 : i = 1000 := by omega
      have hni : ¬ (i : Int) < 1000 := by omega
      have hds : ds = T := LaidG.all (by rw [HTL.out, ← hi1]; exact HP.out)
      clear hi1
      subst hds
      have HD0 := hideIt (show Dg wr p (List.replicate (1000 * 0) 97) from HD.out)
      clear HP HTG HD
      go_wp2_with fail
      go_loopw [4] (fun s4 wr => ∃ (k : Nat), s4 = .int .i64 k ∧ k ≤ 1000 ∧ Hid (wr.heap[q]? = some (.cells (bv ds).toArray 5 (0, 0))) ∧ Hid (Dg wr p (List.replicate (1000 * k) 97)) ∧ Hid (Fr (fun _ => False) w wr)) (fun s4 _ => 1000 - (intOf s4).toNat)
      case atStart => exact ⟨0, rfl, by omega, HM, HD0, HF⟩
      case round =>
        clear HM HD0 HF
        obtain ⟨k, rfl, hk, HM, HD, HF⟩ := hrel
        by_cases hlt : k < 1000
        · have hix : (k : Int) < 1000 := by omega
          have HW := hideIt (gd_write wr p (List.replicate (1000 * k) 97) HD.out ⟨some ⟨q, 0, none⟩, 1000, ds⟩ ⟨by rw [HTL.out]; exact Nat.le_refl _, (by unfold maxLen; show 1000 ≤ _; decide), (fun e => by cases e), fun _ => ⟨q, 0, rfl, fun j hj => by
            rw [Nat.zero_add]
            exact cellOfHeap HM.out j (by rw [List.getElem?_toArray]; exact bv_get ds j hj)⟩⟩ (fun _ j hj => by
              obtain ⟨a, e1, e2⟩ := hj
              obtain rfl := Option.some.inj e1
              have e3 : q = j := e2
              have := HPQ.out
              omega) (HG.out.fr0 HF.out) (by show (List.replicate (1000 * k) (97 : UInt8)).length + ds.length ≤ _; rw [List.length_replicate, HTL.out]; omega))
          unfold Bt.val at HW
          simp only [HTL.out] at HW
          clear HD
          go_wp2_with fail
          refine Calls.mono HW.out ?_
          rintro e w2 ⟨rfl, hD2, hF2⟩
          have HD2 := hideIt (show Dg w2 p (List.replicate (1000 * (k + 1)) 97) by
            rw [← HTT.out, List.replicate_append_replicate] at hD2
            exact hD2)
          have HM2 := hideIt ((hF2.block q (Array.getElem?_eq_some_iff.1 HM.out).1 (by have := HPQ.out; omega)).trans HM.out)
          have HF2 := hideIt (HF.out.trans hF2 (fun i hi e => by have := HWP.out; omega))
          clear hD2 hF2 HW HM HF
          go_wp2_with fail
          go_roundw
          case measure => simp [intOf]; omega
          case rel => exact ⟨k + 1, by go_num, by omega, HM2, HD2, HF2⟩
        · obtain rfl : k = 1000 := by omega
          obtain ⟨m, hm⟩ : ∃ m, m = List.replicate 1000000 (97 : UInt8) := ⟨_, rfl⟩
          have HD1 := hideIt (show Dg wr p m by rw [hm]; exact HD.out)
          have hml : m.length = 1000000 := by rw [hm, List.length_replicate]
          have HSM := hideIt (Sha.sum_million m hm)
          have HML := hideIt hml
          have H1 := hideIt (hnamed_any ⟨#[97, 98, 99, 100, 98, 99, 100, 101, 99, 100, 101, 102, 100, 101, 102, 103, 101, 102, 103, 104, 102, 103, 104, 105, 103, 104, 105, 106, 104, 105, 106, 107, 105, 106, 107, 108, 106, 107, 108, 109, 107, 108, 109, 110, 108, 109, 110, 111, 109, 110, 111, 112, 110, 111, 112, 113]⟩ [50, 52, 56, 100, 54, 97, 54, 49, 100, 50, 48, 54, 51, 56, 98, 56, 101, 53, 99, 48, 50, 54, 57, 51, 48, 99, 51, 101, 54, 48, 51, 57, 97, 51, 51, 99, 101, 52, 53, 57, 54, 52, 102, 102, 50, 49, 54, 55, 102, 54, 101, 99, 101, 100, 100, 52, 49, 57, 100, 98, 48, 54, 99, 49] (by decide) wr (HG.out.fr0 HF.out))
          rw [show (⟨#[97, 98, 99, 100, 98, 99, 100, 101, 99, 100, 101, 102, 100, 101, 102, 103, 101, 102, 103, 104, 102, 103, 104, 105, 103, 104, 105, 106, 104, 105, 106, 107, 105, 106, 107, 108, 106, 107, 108, 109, 107, 108, 109, 110, 108, 109, 110, 111, 109, 110, 111, 112, 110, 111, 112, 113]⟩ : ByteArray).data.toList = [97, 98, 99, 100, 98, 99, 100, 101, 99, 100, 101, 102, 100, 101, 102, 103, 101, 102, 103, 104, 102, 103, 104, 105, 103, 104, 105, 106, 104, 105, 106, 107, 105, 106, 107, 108, 106, 107, 108, 109, 107, 108, 109, 110, 108, 109, 110, 111, 109, 110, 111, 112, 110, 111, 112, 113] from rfl, named_56] at H1
          clear HD hm hml HM
          go_wp2_with fail
          refine Calls.mono H1.out ?_
          rintro e w2 ⟨rfl, hF2⟩
          have HD2 := hideIt (HD1.out.fr hF2 (fun e => e))
          have HF2 := hideIt (HF.out.trans hF2 (fun _ _ e => e))
          have H2 := hideIt (gd_sum w2 p m HD2.out (HG.out.fr0 HF2.out) (by rw [HML.out]; decide))
          have HSL := hideIt (show (Sha.sum m).length = 32 from name_len _)
          generalize Sha.sum m = N at *
          clear hF2 H1 HD1 HF
          go_wp2_with fail
          refine Calls.mono H2.out ?_
          rintro e w3 ⟨rfl, hF3⟩
          have HD3 := hideIt (HD2.out.fr hF3 (fun e => e))
          have HF3 := hideIt (HF2.out.trans hF3 (fun _ _ e => e))
          have H3 := hideIt (htext_any N HSL.out w3)
          rw [HSM.out] at H3
          clear hF3 H2 HD2 HF2 HSM
          go_wp2_with fail
          refine Calls.mono H3.out ?_
          rintro e w4 ⟨rfl, hF4⟩
          have HD4 := hideIt (HD3.out.fr hF4 (fun e => e))
          have HF4 := hideIt (HF3.out.trans hF4 (fun _ _ e => e))
          have H4 := hideIt (gd_len w4 p m HD4.out)
          rw [HML.out] at H4
          clear hF4 H3 HD3 HF3
          go_wp2_with fail
          refine Calls.mono H4.out ?_
          rintro e w5 ⟨rfl, rfl⟩
          have H5 := hideIt (hawake_any w5 (HG.out.fr0 HF4.out))
          clear H4 HD4
          go_wp2_with fail
          refine Calls.mono H5.out ?_
          rintro e w6 ⟨rfl, hF6⟩
          have HF6 := hideIt (HF4.out.trans hF6 (fun _ _ e => e))
          obtain ⟨N63, hN63⟩ : ∃ N, (⟨(List.replicate 63 (48 : UInt8)).toArray⟩ : ByteArray) = N := ⟨_, rfl⟩
          have hs63 : N63.size = 63 := by rw [← hN63]; show (List.replicate 63 (48 : UInt8)).toArray.size = 63; rw [List.size_toArray, List.length_replicate]
          obtain ⟨G63, hG63⟩ : ∃ N, (⟨(103 :: List.replicate 63 (48 : UInt8)).toArray⟩ : ByteArray) = N := ⟨_, rfl⟩
          have hcg : (⟨#[103]⟩ : ByteArray) ++ N63 = G63 := by rw [← hN63, ← hG63]; exact cat_g
          have H6 := hideIt (hnoughts_any 63 (by decide) (by decide) w6)
          rw [hN63] at H6
          have H7 := hideIt (fun w => hstops_any G63 (by rw [← hG63]; show (103 :: List.replicate 63 (48 : UInt8)).toArray.size ≤ _; rw [List.size_toArray]; simp) 0 (by rw [← hG63]; exact prs_g) w)
          clear hF6 H5 HF4 hN63 hG63
          go_wp2_with fail
          refine Calls.mono H6.out ?_
          rintro e w7 ⟨rfl, hF7⟩
          have HF7 := hideIt (HF6.out.trans hF7 (fun _ _ e => e))
          clear hF7 H6 HF6
          go_wp2_with fail
          refine Calls.mono (H7.out _) ?_
          rintro e w8 ⟨rfl, hF8⟩
          have HF8 := hideIt (HF7.out.trans hF8 (fun _ _ e => e))
          clear hF8 H7 HF7 hcg hs63
          obtain ⟨N65, hN65⟩ : ∃ N, (⟨(List.replicate 65 (48 : UInt8)).toArray⟩ : ByteArray) = N := ⟨_, rfl⟩
          have H8 := hideIt (hnoughts_any 65 (by decide) (by decide) w8)
          rw [hN65] at H8
          have H9 := hideIt (fun w => hstops_any N65 (by rw [← hN65]; show (List.replicate 65 (48 : UInt8)).toArray.size ≤ _; rw [List.size_toArray, List.length_replicate]; decide) 64 (by rw [← hN65]; exact prs_65) w)
          clear hN65
          go_wp2_with fail
          refine Calls.mono H8.out ?_
          rintro e w9 ⟨rfl, hF9⟩
          have HF9 := hideIt (HF8.out.trans hF9 (fun _ _ e => e))
          clear hF9 H8 HF8
          go_wp2_with fail
          refine Calls.mono (H9.out _) ?_
          rintro e wa ⟨rfl, hFa⟩
          have HFa := hideIt (HF9.out.trans hFa (fun _ _ e => e))
          clear hFa H9 HF9
          obtain ⟨N64, hN64⟩ : ∃ N, (⟨(List.replicate 64 (48 : UInt8)).toArray⟩ : ByteArray) = N := ⟨_, rfl⟩
          have hs64 : N64.size = 64 := by rw [← hN64]; show (List.replicate 64 (48 : UInt8)).toArray.size = 64; rw [List.size_toArray, List.length_replicate]
          obtain ⟨D65, hD65⟩ : ∃ N, (⟨(List.replicate 64 (48 : UInt8) ++ [45]).toArray⟩ : ByteArray) = N := ⟨_, rfl⟩
          have hcd : N64 ++ (⟨#[45]⟩ : ByteArray) = D65 := by rw [← hN64, ← hD65]; exact cat_dash
          have Ha := hideIt (hnoughts_any 64 (by decide) (by decide) wa)
          rw [hN64] at Ha
          have Hb := hideIt (fun w => hstops_any D65 (by rw [← hD65]; show (List.replicate 64 (48 : UInt8) ++ [45]).toArray.size ≤ _; rw [List.size_toArray, List.length_append, List.length_replicate]; decide) 64 (by rw [← hD65]; exact prs_dash) w)
          clear hN64 hD65
          go_wp2_with fail
          refine Calls.mono Ha.out ?_
          rintro e wb ⟨rfl, hFb⟩
          have HFb := hideIt (HFa.out.trans hFb (fun _ _ e => e))
          clear hFb Ha HFa
          go_wp2_with fail
          refine Calls.mono (Hb.out _) ?_
          rintro e wc ⟨rfl, hFc⟩
          have HFc := hideIt (HFb.out.trans hFc (fun _ _ e => e))
          clear hFc Hb HFb
          go_wp2_with fail
          go_ret
          exact ⟨rfl, HFc.out⟩

end Go.Proofs.YtgnpdnkmhjocjaaDoor
