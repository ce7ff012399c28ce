/- CellAsks, walked. -/
import Derived.Test.YtefikadaiconaaaGb
import Derived.Test.YtefikadaiconaaaLr
namespace Go.Proofs.Ytefikadaiconaaa
open Go.RowKit Go.IntWalk
set_option linter.unusedSimpArgs false
set_option linter.unusedVariables false

set_option maxRecDepth 100000 in
set_option maxHeartbeats 8000000 in
theorem asks_w (ao : Option Addr) (ca : Nat) (l : List Sp) (k : ByteArray) (s : Sp) (most : Int) (w : World) (h : l = [] ∨ SpsAt w ao l) (hcap : l.length ≤ ca) (hl : l.length ≤ 9223372036854775807) :
    Calls Try.prog 3 #[.slice ao l.length ca, .string k, .agg #[.string s.1, .string s.2], .int .i64 most] w fun e w' => e = .returned (.bool true) ∧ Fr (fun _ => False) w w' := by
  have hF0 : Fr (fun _ => False) w (w.alloc (.cells #[.string s.1, .string s.2] 24)) := (Fr.refl _ _).alloc _
  have HL := hideIt (sats_fr0 h hF0)
  have HBX := hideIt (fun w' (hF : Fr (fun _ => False) (w.alloc (.cells #[.string s.1, .string s.2] 24)) w') => (⟨hF.cell0 (cellNew w _ _ _ 0 rfl), hF.cell0 (cellNew w _ _ _ 1 rfl)⟩ : w'.cell? ⟨w.heap.size, 0, none⟩ = some (.string s.1) ∧ w'.cell? ⟨w.heap.size, 1, none⟩ = some (.string s.2)))
  have hP := hideIt (longp_any ao ca l 100 _ (sats_fr0 h hF0) hl (by decide))
  have HF0 := hideIt hF0
  clear h hF0
  go_enter Try.func3, Try.ntmps3
  go_wp2_with fail
  generalize hW0 : w.alloc (.cells #[.string s.1, .string s.2] 24) = W0 at *
  clear hW0
  refine Calls.mono hP.out ?_
  rintro e w1 ⟨x, rfl, hw1, hbf⟩
  subst hw1
  cases x with
  | true =>
    go_wp2_with fail
    go_ret
    exact ⟨rfl, HF0.out⟩
  | false =>
    obtain ⟨hl100, _⟩ := hbf rfl
    clear hP hbf
    by_cases hk : 100 < k.size
    · have hk' : (100 : Int) < (k.size : Int) := by omega
      go_wp2_with fail
      go_ret
      exact ⟨rfl, HF0.out⟩
    · have hk' : ¬ (100 : Int) < (k.size : Int) := by omega
      have hLo := hideIt (longs_any (some ⟨w1.heap.size, 0, none⟩) 1 [s] 1 (w1.alloc (.cells #[.string s.1, .string s.2] 24)) (Or.inr (sps_new1 w1 s 24 _ rfl)) (by simp) (by decide))
      obtain ⟨b0, b1⟩ := HBX.out w1 (Fr.refl _ _)
      go_wp2_with fail
      refine Calls.mono hLo.out ?_
      rintro e w2 ⟨x, rfl, hw2, _⟩
      have HF2 := hideIt (show Fr (fun _ => False) w1 w2 by rw [hw2]; exact (Fr.refl _ _).alloc _)
      clear hw2 hLo b0 b1
      cases x with
      | true =>
        go_wp2_with fail
        go_ret
        exact ⟨rfl, HF0.out.trans HF2.out (fun _ _ e => e)⟩
      | false =>
        have hCP := hideIt (copyp_any ao ca l w2 (sats_fr0 HL.out HF2.out) (by omega))
        go_wp2_with fail
        refine Calls.mono hCP.out ?_
        rintro e w3 ⟨a3, c3, rfl, hrow3, hF3, hnew3⟩
        have HF3 := hideIt (HF2.out.trans hF3 (fun _ _ e => e))
        have HI3 := hideIt hrow3.at
        have HI3b := hideIt (fun k e => hrow3.lt (k := k) e)
        have hcp3 : l.length ≤ c3 := RowOf.cap (enc := spL) (size := 2) hrow3
        have hG := hideIt (eget_any a3 c3 l k (by omega) w3 (Or.inr hrow3.at))
        clear hrow3 hF3 hCP hnew3 HF2
        go_wp2_with fail
        refine Calls.mono hG.out ?_
        rintro e w4 ⟨rfl, hF4⟩
        have HF4 := hideIt (HF3.out.trans hF4 (fun _ _ e => e))
        have HI4 := hideIt (HI3.out.fr0 hF4)
        have HI4b := hideIt (fun k e => Nat.lt_of_lt_of_le (HI3b.out k e) hF4.size)
        have hG2 := hideIt (qget_any ao ca l k (by omega) w4 (sats_fr0 HL.out HF4.out))
        clear hF4 hG HI3 HI3b HF3
        generalize getL l k = g at *
        go_wp2_with fail
        refine Calls.mono hG2.out ?_
        rintro e w5 ⟨rfl, hF5⟩
        have HF5 := hideIt (HF4.out.trans hF5 (fun _ _ e => e))
        have HI5 := hideIt (HI4.out.fr0 hF5)
        have HI5b := hideIt (fun k e => Nat.lt_of_lt_of_le (HI4b.out k e) hF5.size)
        obtain ⟨b0, b1⟩ := HBX.out w5 HF5.out
        have hSc := hideIt (escan_any a3 c3 l s most w5 (Or.inr HI5.out) hcp3 (by omega))
        clear hF5 hG2 HI4 HI4b HF4
        have hsl : (scanL l s most).length ≤ 1000000 := by
          unfold scanL scanS
          split
          · rw [List.length_take]
            have h1 := (List.takeWhile_sublist (fun p : Sp => decide (KeyIn s p.1.toList)) (l := l.drop (placeL l s.1))).length_le
            rw [List.length_drop] at h1
            omega
          · simp
        have hQS := hideIt (fun v hF => qscan_any ao ca l s most v (sats_fr0 HL.out hF) (by omega))
        generalize scanL l s most = R at *
        go_wp2_with fail
        refine Calls.mono hSc.out ?_
        rintro e w6 ⟨a6, c6, rfl, hrow6, hF6, hnew6⟩
        have HF6 := hideIt (HF5.out.trans hF6 (fun _ _ e => e))
        have HI6 := hideIt (HI5.out.fr0 hF6)
        have HAP := hideIt (fun k (e : blk a3 k) (e2 : blk a6 k) => Nat.lt_irrefl _ (Nat.lt_of_lt_of_le (HI5b.out k e) (hnew6 k e2)))
        have HNW := hideIt (fun k (e : blk a6 k) => Nat.le_trans HF5.out.size (hnew6 k e))
        have HR6 := hideIt hrow6
        obtain ⟨b0, b1⟩ := HBX.out w6 HF6.out
        clear hF6 hrow6 hnew6 hSc HI5 HI5b HF5
        go_wp2_with fail
        refine Calls.mono (hQS.out _ HF6.out) ?_
        rintro e w7 ⟨a7, c7, rfl, hrow7, hF7, _⟩
        have HF7 := hideIt (HF6.out.trans hF7 (fun _ _ e => e))
        have HI7 := hideIt (HI6.out.fr0 hF7)
        have HR7 := hideIt (HR6.out.fr hF7 (fun _ _ e => e))
        have hSm := hideIt (by have := samep_any a6 a7 c6 c7 R R w7 (Or.inr HR7.out.at) (Or.inr hrow7.at) (by omega) (by omega); rw [show decide (R = R) = true from decide_eq_true rfl] at this; exact this)
        clear hF7 hrow7 hQS HI6 HR6 HF6 b0 b1
        go_wp2_with fail
        refine Calls.mono hSm.out ?_
        rintro e w8 ⟨rfl, hF8⟩
        have HF8 := hideIt (HF7.out.trans hF8 (fun _ _ e => e))
        have HI8 := hideIt (HI7.out.fr0 hF8)
        have hOv := hideIt (eover_any a6 c6 R w8 (HR7.out.fr hF8 (fun _ _ e => e)) hsl)
        clear hF8 hSm HI7 HR7 HF7
        go_wp2_with fail
        refine Calls.mono hOv.out ?_
        rintro e w9 ⟨rfl, hF9⟩
        have HF9 := hideIt (HF8.out.trans hF9 (fun i hi e => absurd (HNW.out i e) (by omega)))
        have HI9 := hideIt (HI8.out.fr hF9 HAP.out)
        have hSI := hideIt (by have := samep_any a3 ao c3 ca l l w9 (Or.inr HI9.out) (sats_fr0 HL.out HF9.out) (by omega) (by omega); rw [show decide (l = l) = true from decide_eq_true rfl] at this; exact this)
        clear hF9 hOv HI8 HAP HNW HF8
        go_wp2_with fail
        refine Calls.mono hSI.out ?_
        rintro e w10 ⟨rfl, hF10⟩
        have HF10 := hideIt (HF9.out.trans hF10 (fun _ _ e => e))
        have hC1 := hideIt (chk_later (by omega) HL.out ca w10 HF10.out)
        have hC2 := hideIt (fun v hF => qcheck_any ao ca l (by omega) v (sats_fr0 HL.out hF))
        generalize chkE l = c at *
        clear hF10 hSI HI9 HF9
        go_wp2_with fail
        refine Calls.mono hC1.out ?_
        rintro e w11 ⟨rfl, hF11⟩
        have HF11 := hideIt (HF10.out.trans hF11 (fun _ _ e => e))
        clear hF11 hC1 HF10
        go_wp2_with fail
        refine Calls.mono (hC2.out _ HF11.out) ?_
        rintro e w12 ⟨rfl, hF12⟩
        have HF12 := hideIt (HF11.out.trans hF12 (fun _ _ e => e))
        have hK1 := hideIt (fun v => ekey_any k v)
        have hK2 := hideIt (fun v => qkey_any k v)
        generalize keyB k = q at *
        clear hF12 hC2 HF11
        go_wp2_with fail
        refine Calls.mono (hK1.out _) ?_
        rintro e w13 ⟨rfl, rfl⟩
        go_wp2_with fail
        refine Calls.mono (hK2.out _) ?_
        rintro e w14 ⟨rfl, rfl⟩
        go_wp2_with fail
        refine Calls.mono (eawake_any _) ?_
        rintro e w15 ⟨rfl, hF15⟩
        have HF15 := hideIt (HF0.out.trans (HF12.out.trans hF15 (fun _ _ e => e)) (fun _ _ e => e))
        clear hF15
        go_wp2_with fail
        go_ret
        exact ⟨rfl, HF15.out⟩

end Go.Proofs.Ytefikadaiconaaa
