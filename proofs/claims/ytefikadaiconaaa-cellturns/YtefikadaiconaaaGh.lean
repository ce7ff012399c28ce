/- Cell, the document's: Changed; CellTurns, walked. -/
import Derived.Test.YtefikadaiconaaaGf
namespace Go.Proofs.Ytefikadaiconaaa
open Go.RowKit Go.IntWalk
set_option linter.unusedSimpArgs false
set_option linter.unusedVariables false

set_option maxRecDepth 100000 in
set_option maxHeartbeats 2000000 in
theorem qchanged_any (ao bo : Option Addr) (ca cb : Nat) (a b : List Sp) (w : World) (ha : a = [] ∨ SpsAt w ao a) (hb : b = [] ∨ SpsAt w bo b) (hl : a.length ≤ 1000000) (hl2 : b.length ≤ 1000000) :
    Calls Try.prog 31 #[.slice ao a.length ca, .slice bo b.length cb] w (ChangedPost ((diffL a b).map Prod.fst) w) := by
  have HD := hideIt (qdiff_any ao bo ca cb a b w ha hb hl hl2)
  have hdl := diffL_len a b
  clear ha hb
  generalize diffL a b = d at *
  go_enter Try.func31, Try.ntmps31
  go_wp2_with fail
  refine Calls.mono HD.out ?_
  rintro e w1 ⟨a1, c1, rfl, hG⟩
  have HG := hideIt hG
  clear hG HD
  go_wp2_with fail
  go_loopw [7, 6] (fun s7 s6 wr => ∃ (j : Nat) (a5 : Option Addr) (c5 : Nat) (told : List ByteArray), s7 = .int .i64 j ∧ j ≤ d.length ∧ s6 = .slice a5 j c5 ∧ Hid (told = (d.take j).map Prod.fst) ∧ Hid (GrowK w1 wr a5 c5 told)) (fun s7 _ _ => d.length - (intOf s7).toNat)
  case atStart => exact ⟨0, none, 0, [], rfl, Nat.zero_le _, rfl, hideIt (by simp), hideIt (Grow.start (Fr.refl _ _))⟩
  case round =>
    obtain ⟨j, a5, c5, told, rfl, hj, rfl, HT, HK⟩ := hrel
    have HTL := hideIt (show told.length = j by rw [HT.out, List.length_map, List.length_take, Nat.min_eq_left hj])
    by_cases hlt : j < d.length
    · obtain ⟨b3, off3, rfl, hb3, c0, _, _⟩ := ws_get (wats_fr0 (Or.inr HG.out.wsAt) HK.out.fr) j hlt
      have HN := hideIt (show (d.take (j + 1)).map Prod.fst = told ++ [d[j].1] by rw [List.take_succ_eq_append_getElem hlt, List.map_append, HT.out]; rfl)
      have hj' : (j : Int) < (d.length : Int) := by omega
      generalize d[j].1 = x1 at *
      obtain ⟨a6, c6, w6, hrun, hK6⟩ := growK_app (HK.out.quiet ((Fr.refl _ _).alloc (.cells #[.string x1] 9))) [x1] (some ⟨wr.heap.size, 0, none⟩) 1 (Or.inr (ks_new wr [x1] 9)) (by rw [HTL.out]; simp; omega)
      rw [HTL.out] at hrun
      have HR := hideIt hrun
      have HK6 := hideIt hK6
      clear hrun hK6 HK
      go_wp2_with (first | (at_builtin; refine wpList_append_run _ rfl (.tmp 17) (.tmp 23) 44 44 rfl _ _ _ _ rfl rfl HR.out ?_))
      go_roundw
      case measure => simp [intOf]; omega
      case rel => exact ⟨j + 1, a6, c6, told ++ [x1], by go_num, by omega, rfl, hideIt HN.out.symm, HK6⟩
    · obtain rfl : j = d.length := by omega
      have HX := hideIt (show told = d.map Prod.fst by rw [HT.out, List.take_length])
      go_wp2_with fail
      go_ret
      refine ⟨a5, c5, ?_, ?_⟩
      · rw [List.length_map]
        rfl
      · rw [← HX.out]
        have hK := HK.out
        exact ⟨hK.row, fun k hk => Nat.le_trans HG.out.fr.size (hK.new k hk), HG.out.fr.trans hK.fr (fun _ _ e => e)⟩

theorem apR_len (l : List Sp) (ws : List Wr) : (apR l ws).length ≤ l.length + ws.length := by
  unfold apR
  split
  · exact apL_len l ws
  · simp

set_option maxRecDepth 100000 in
set_option maxHeartbeats 8000000 in
theorem turns_w (ao : Option Addr) (ca : Nat) (a : List Sp) (bo : Option Addr) (cb : Nat) (b : List Sp) (so : Option Addr) (cs : Nat) (ws : List Wr) (w : World) (h : a = [] ∨ SpsAt w ao a) (hca : a.length ≤ ca) (hl : a.length ≤ 9223372036854775807) (h' : b = [] ∨ SpsAt w bo b) (hcb : b.length ≤ cb) (hl' : b.length ≤ 9223372036854775807) (h'' : ws = [] ∨ WsAt w so ws) (_ : ws.length ≤ cs) (hlw : ws.length ≤ 9223372036854775807) :
    Calls Try.prog 4 #[.slice ao a.length ca, .slice bo b.length cb, .slice so ws.length cs] w fun e w' => e = .returned (.bool true) ∧ Fr (fun _ => False) w w' := by
  have HA := hideIt h
  have HB := hideIt h'
  have HW := hideIt h''
  have hP := hideIt (longp_any ao ca a 100 w h hl (by decide))
  have hQ := hideIt (longp_any bo cb b 100 w h' hl' (by decide))
  have hQ2 := hideIt (longw_any so cs ws 60 w h'' hlw (by decide))
  clear h h' h''
  go_enter Try.func4, Try.ntmps4
  go_wp2_with fail
  refine Calls.mono hP.out ?_
  rintro e w1 ⟨x, rfl, hw1, hbf⟩
  subst hw1
  cases x with
  | true =>
    go_wp2_with fail
    go_ret
    exact ⟨rfl, Fr.refl _ _⟩
  | false =>
    obtain ⟨hl100, _⟩ := hbf rfl
    clear hP hbf
    go_wp2_with fail
    refine Calls.mono hQ.out ?_
    rintro e w2 ⟨x, rfl, hw2, hbf⟩
    subst hw2
    cases x with
    | true =>
      go_wp2_with fail
      go_ret
      exact ⟨rfl, Fr.refl _ _⟩
    | false =>
      obtain ⟨hlb100, _⟩ := hbf rfl
      clear hQ hbf
      go_wp2_with fail
      refine Calls.mono hQ2.out ?_
      rintro e w3 ⟨x, rfl, hw3, hbf⟩
      subst hw3
      cases x with
      | true =>
        go_wp2_with fail
        go_ret
        exact ⟨rfl, Fr.refl _ _⟩
      | false =>
        obtain ⟨hw60, _⟩ := hbf rfl
        clear hQ2 hbf
        have hCP := hideIt (copyp_any ao ca a _ HA.out (by omega))
        go_wp2_with fail
        refine Calls.mono hCP.out ?_
        rintro e w4 ⟨a4, c4, rfl, hrow4, hF4, hnew4⟩
        have HF4 := hideIt hF4
        have HI4 := hideIt hrow4.at
        have HI4b := hideIt (fun k e => hrow4.lt (k := k) e)
        have hcp4 : a.length ≤ c4 := RowOf.cap (enc := spL) (size := 2) hrow4
        have hAP := hideIt (eapply_any a4 so c4 cs a ws w4 (Or.inr hrow4.at) (wats_fr0 HW.out hF4) hcp4 (by omega) (by omega))
        have hRl := apR_len a ws
        unfold ApPost at hAP
        have hQA := hideIt (fun v (hF : Fr (fun _ => False) _ v) => qapply_any ao so ca cs a ws v (sats_fr0 HA.out hF) (wats_fr0 HW.out hF) hca (by omega) (by omega))
        unfold ApPost at hQA
        clear hrow4 hF4 hCP hnew4
        generalize apR a ws = R at *
        generalize apE a ws = ee at *
        go_wp2_with fail
        refine Calls.mono hAP.out ?_
        rintro e w5 ⟨a5, c5, rfl, hrow5, hF5, hnew5⟩
        have HF5 := hideIt (HF4.out.trans hF5 (fun _ _ e => e))
        have HI5 := hideIt (HI4.out.fr0 hF5)
        have HR5 := hideIt hrow5
        have HAP := hideIt (fun k (e : blk a4 k) (e2 : blk a5 k) => Nat.lt_irrefl _ (Nat.lt_of_lt_of_le (HI4b.out k e) (hnew5 k e2)))
        have HNW := hideIt (fun k (e : blk a5 k) => Nat.le_trans HF4.out.size (hnew5 k e))
        clear hrow5 hF5 hnew5 hAP HI4 HI4b HF4
        go_wp2_with fail
        refine Calls.mono (hQA.out _ HF5.out) ?_
        rintro e w6 ⟨a6, c6, rfl, hrow6, hF6, _⟩
        have HF6 := hideIt (HF5.out.trans hF6 (fun _ _ e => e))
        have HI6 := hideIt (HI5.out.fr0 hF6)
        have HR6 := hideIt (HR5.out.fr hF6 (fun _ _ e => e))
        have hSm := hideIt (by have := samep_any a5 a6 c5 c6 R R w6 (Or.inr HR6.out.at) (Or.inr hrow6.at) (by omega) (by omega); rw [show decide (R = R) = true from decide_eq_true rfl] at this; exact this)
        clear hF6 hrow6 hQA HI5 HR5 HF5
        go_wp2_with fail
        refine Calls.mono hSm.out ?_
        rintro e w7 ⟨rfl, hF7⟩
        have HF7 := hideIt (HF6.out.trans hF7 (fun _ _ e => e))
        have HI7 := hideIt (HI6.out.fr0 hF7)
        have hOv := hideIt (eover_any a5 c5 R w7 (HR6.out.fr hF7 (fun _ _ e => e)) (by omega))
        clear hF7 hSm HI6 HR6 HF6
        go_wp2_with fail
        refine Calls.mono hOv.out ?_
        rintro e w8 ⟨rfl, hF8⟩
        have HF8 := hideIt (HF7.out.trans hF8 (fun i hi e => absurd (HNW.out i e) (by omega)))
        have HI8 := hideIt (HI7.out.fr hF8 HAP.out)
        have HI8b := hideIt (fun k (e : blk a4 k) => show k < w8.heap.size from by
          obtain ⟨z, e1, e2⟩ := e
          subst e1
          rcases HI8.out with ⟨e3, _⟩ | ⟨b9, off9, e3, h9, _⟩
          · cases e3
          · obtain rfl := Option.some.inj e3
            exact e2 ▸ h9)
        clear hF8 hOv HI7 HAP HNW HF7
        have hD := hideIt (ediff_any a4 bo c4 cb a b w8 (Or.inr HI8.out) (sats_fr0 HB.out HF8.out) hcp4 hcb (by omega) (by omega))
        have hdl := diffL_len a b
        have hCh := hideIt (fun v (hF : Fr (fun _ => False) w8 v) => echanged_any a4 bo c4 cb a b v (Or.inr (HI8.out.fr0 hF)) (sats_fr0 HB.out (HF8.out.trans hF (fun _ _ e => e))) hcp4 hcb (by omega) (by omega))
        have hQD := hideIt (fun v (hF : Fr (fun _ => False) w8 v) => qdiff_any ao bo ca cb a b v (sats_fr0 HA.out (HF8.out.trans hF (fun _ _ e => e))) (sats_fr0 HB.out (HF8.out.trans hF (fun _ _ e => e))) (by omega) (by omega))
        have hQC := hideIt (fun v (hF : Fr (fun _ => False) w8 v) => qchanged_any ao bo ca cb a b v (sats_fr0 HA.out (HF8.out.trans hF (fun _ _ e => e))) (sats_fr0 HB.out (HF8.out.trans hF (fun _ _ e => e))) (by omega) (by omega))
        generalize diffL a b = d at *
        obtain ⟨c, hc⟩ : ∃ c, c = d.map Prod.fst := ⟨_, rfl⟩
        have hcl : c.length ≤ 1000000 := by rw [hc, List.length_map]; omega
        rw [← hc] at hCh hQC
        clear hc
        go_wp2_with fail
        refine Calls.mono hD.out ?_
        rintro e w9 ⟨a9, c9, rfl, hG9⟩
        have K9 := hideIt hG9.fr
        have HG9 := hideIt hG9
        clear hG9 hD
        go_wp2_with fail
        refine Calls.mono (hCh.out _ K9.out) ?_
        rintro e w10 ⟨a10, c10, rfl, hG10⟩
        have K10 := hideIt (K9.out.trans hG10.fr (fun _ _ e => e))
        have HG10 := hideIt (HG9.out.quiet hG10.fr)
        have HK10 := hideIt hG10.ksAt
        clear hG10 hCh HG9 K9
        go_wp2_with fail
        refine Calls.mono (hQD.out _ K10.out) ?_
        rintro e w11 ⟨a11, c11, rfl, hG11⟩
        have K11 := hideIt (K10.out.trans hG11.fr (fun _ _ e => e))
        have HG11 := hideIt (HG10.out.quiet hG11.fr)
        have HK11 := hideIt (HK10.out.fr0 hG11.fr)
        have hSW := hideIt (by have := samew_any a9 a11 c9 c11 d d w11 (Or.inr HG11.out.wsAt) (Or.inr hG11.wsAt) (by omega) (by omega); rw [show decide (d = d) = true from decide_eq_true rfl] at this; exact this)
        clear hG11 hQD HG10 HK10 K10
        go_wp2_with fail
        refine Calls.mono hSW.out ?_
        rintro e w12 ⟨rfl, hF12⟩
        have K12 := hideIt (K11.out.trans hF12 (fun _ _ e => e))
        have HG12 := hideIt (HG11.out.quiet hF12)
        have HK12 := hideIt (HK11.out.fr0 hF12)
        clear hF12 hSW HG11 HK11 K11
        go_wp2_with fail
        refine Calls.mono (hQC.out _ K12.out) ?_
        rintro e w13 ⟨a13, c13, rfl, hG13⟩
        have K13 := hideIt (K12.out.trans hG13.fr (fun _ _ e => e))
        have HG13 := hideIt (HG12.out.quiet hG13.fr)
        have HK13 := hideIt (HK12.out.fr0 hG13.fr)
        have hST := hideIt (by have := ksame_any a10 a13 c10 c13 c c w13 (Or.inr HK13.out) (Or.inr hG13.ksAt) (by omega) (by omega); rw [show decide (c = c) = true from decide_eq_true rfl] at this; exact this)
        clear hG13 hQC HG12 HK12 K12
        go_wp2_with fail
        refine Calls.mono hST.out ?_
        rintro e w14 ⟨rfl, hF14⟩
        have K14 := hideIt (K13.out.trans hF14 (fun _ _ e => e))
        have HG14 := hideIt (HG13.out.quiet hF14)
        have hOW := hideIt (eoverw_any a9 c9 d w14 HG14.out.row (by omega))
        clear hF14 hST HG13 HK13 K13
        go_wp2_with fail
        refine Calls.mono hOW.out ?_
        rintro e w15 ⟨rfl, hF15⟩
        have K15 := hideIt (K14.out.trans hF15 (fun i hi e => absurd (HG14.out.new i e) (by omega)))
        have HF15 := hideIt (HF8.out.trans K15.out (fun _ _ e => e))
        have HI15 := hideIt (HI8.out.fr0 K15.out)
        have hSI := hideIt (by have := samep_any a4 ao c4 ca a a w15 (Or.inr HI15.out) (sats_fr0 HA.out HF15.out) (by omega) (by omega); rw [show decide (a = a) = true from decide_eq_true rfl] at this; exact this)
        clear hF15 hOW HG14 K14 K15 HI8 HI8b HF8
        go_wp2_with fail
        refine Calls.mono hSI.out ?_
        rintro e w16 ⟨rfl, hF16⟩
        have HF16 := hideIt (HF15.out.trans hF16 (fun _ _ e => e))
        clear hF16
        go_wp2_with fail
        refine Calls.mono (eawake_any _) ?_
        rintro e w17 ⟨rfl, hF17⟩
        have HF17 := hideIt (HF16.out.trans hF17 (fun _ _ e => e))
        clear hF17
        go_wp2_with fail
        go_ret
        exact ⟨rfl, HF17.out⟩

end Go.Proofs.Ytefikadaiconaaa
