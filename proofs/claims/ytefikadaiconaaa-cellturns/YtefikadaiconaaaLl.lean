/- CellWrites, walked. -/
import Derived.Test.YtefikadaiconaaaLi
namespace Go.Proofs.Ytefikadaiconaaa
open Go.RowKit Go.IntWalk
set_option linter.unusedSimpArgs false
set_option linter.unusedVariables false

theorem get_later {w : World} {ao : Option Addr} {l : List Sp} (hl : l.length ≤ 1099511627776) (h : l = [] ∨ SpsAt w ao l) (cap : Nat) (k : ByteArray) (u : World) (hF : Fr (fun _ => False) w u) : Calls Try.prog 12 #[.slice ao l.length cap, .string k] u fun e w' => e = .returned (.tuple #[.string (getL l k).1, .bool (getL l k).2]) ∧ Fr (fun _ => False) u w' :=
  eget_any ao cap l k hl u (sats_fr0 h hF)

set_option maxRecDepth 100000 in
set_option maxHeartbeats 8000000 in
theorem writes_all (ao bo : Option Addr) (ca cb : Nat) (l : List Sp) (ws : List Wr) (k : ByteArray) (w : World) (h : l = [] ∨ SpsAt w ao l) (hcap : l.length ≤ ca) (hl : l.length ≤ 9223372036854775807) (hb : ws = [] ∨ WsAt w bo ws) (hw : ws.length ≤ 9223372036854775807) :
    Calls Try.prog 6 #[.slice ao l.length ca, .slice bo ws.length cb, .string k] w fun e w' => e = .returned (.bool true) ∧ Fr (fun _ => False) w w' := by
  have HL := hideIt h
  have HW := hideIt hb
  clear h hb
  go_enter Try.func6, Try.ntmps6
  go_wp2_with fail
  refine Calls.mono (eawake_any _) ?_
  rintro e w1 ⟨rfl, hF1⟩
  have HF1 := hideIt hF1
  have hP := hideIt (longp_any ao ca l 100 w1 (sats_fr0 HL.out hF1) hl (by decide))
  have hQ := hideIt (longw_any bo cb ws 60 w1 (wats_fr0 HW.out hF1) hw (by decide))
  clear hF1
  go_wp2_with fail
  refine Calls.mono hP.out ?_
  rintro e w1' ⟨b, rfl, rfl, hbf⟩
  cases b with
  | true =>
    go_wp2_with fail
    go_ret
    exact ⟨rfl, HF1.out⟩
  | false =>
    obtain ⟨hl100, _⟩ := hbf rfl
    clear hP
    go_wp2_with fail
    refine Calls.mono hQ.out ?_
    rintro e w1'' ⟨b, rfl, rfl, hbf⟩
    cases b with
    | true =>
      go_wp2_with fail
      go_ret
      exact ⟨rfl, HF1.out⟩
    | false =>
      obtain ⟨hw60, _⟩ := hbf rfl
      clear hQ
      by_cases hk : 100 < k.size
      · have hk' : (100 : Int) < (k.size : Int) := by omega
        go_wp2_with fail
        go_ret
        exact ⟨rfl, HF1.out⟩
      · have hk' : ¬ (100 : Int) < (k.size : Int) := by omega
        have hA := hideIt (eapply_any ao bo ca cb l ws w1'' (sats_fr0 HL.out HF1.out) (wats_fr0 HW.out HF1.out) hcap (by omega) (by omega))
        go_wp2_with fail
        refine Calls.mono hA.out ?_
        rintro e w2 ⟨a2, c2, rfl, hrow, hF2, _⟩
        have HF2 := hideIt (HF1.out.trans hF2 (fun _ _ e => e))
        have HC := hideIt (fun u hF => chk_later (by omega) HL.out ca u hF)
        clear hF2 hA
        by_cases hE : apE l ws = 0
        · obtain ⟨e1, e2, e3, e4⟩ := ap_ok l ws hE
          have HAT := hideIt hrow.at
          rw [e1] at HAT ⊢
          rw [hE]
          have HG := hideIt (fun u hF => get_later (by omega) HL.out ca k u hF)
          have HGX := hideIt (get_apL l ws k e2 e3 e4)
          have HCX := hideIt (apL_chk l ws e2 e3 e4)
          clear hrow e1 hE HC e2 e3
          generalize apL l ws = R at *
          generalize getL l k = g at *
          go_wp2_with fail
          refine Calls.mono (HG.out _ HF2.out) ?_
          rintro e w3 ⟨rfl, hF3⟩
          have HF3 := hideIt (HF2.out.trans hF3 (fun _ _ e => e))
          have HAT3 := hideIt (HAT.out.fr0 hF3)
          clear hF3 HAT HG HF2
          go_wp2_with fail
          go_loopw [12, 10, 11] (fun s12 s10 s11 wr => ∃ (j : Nat) (q : ByteArray × Bool), s12 = .int .i64 j ∧ j ≤ ws.length ∧ s10 = .string q.1 ∧ s11 = .bool q.2 ∧ Hid (q = (ws.take j).foldl (sayW k) g) ∧ Hid (Fr (fun _ => False) w wr) ∧ Hid (SpsAt wr a2 R)) (fun s12 _ _ _ => ws.length - (intOf s12).toNat)
          case atStart => exact ⟨0, g, rfl, Nat.zero_le _, rfl, rfl, hideIt (by simp), HF3, HAT3⟩
          case round =>
            clear HF3 HAT3
            obtain ⟨j, q, rfl, hj, rfl, rfl, HQ, HF, HAT⟩ := hrel
            by_cases hlt : j < ws.length
            · obtain ⟨b3, off3, rfl, hb3, c0, c1, c2⟩ := ws_get (wats_fr0 HW.out HF.out) j hlt
              have HN := hideIt (show (ws.take (j + 1)).foldl (sayW k) g = sayW k q ws[j] by rw [List.take_succ_eq_append_getElem hlt, List.foldl_append, ← HQ.out]; rfl)
              have hj' : (j : Int) < (ws.length : Int) := by omega
              generalize ws[j] = x at *
              by_cases hx : x.1 = k
              · have hq : (x.1.toList == k.toList) = true := by rw [hx]; simp
                have HX := hideIt (show sayW k q x = (x.2.1, !x.2.2) by unfold sayW; rw [if_pos hx])
                clear hx
                go_wp2_with fail
                go_quiet (fail)
                go_wp2_with fail
                go_roundw
                case measure => simp [intOf]; omega
                case rel => exact ⟨j + 1, (x.2.1, !x.2.2), by go_num, by omega, rfl, rfl, hideIt (by rw [HN.out, HX.out]), hideIt (HF.out.drewN _), hideIt (HAT.out.fr0 ((Fr.refl _ _).drewN _))⟩
              · have hq : (x.1.toList == k.toList) = false := by rw [key_eq]; exact decide_eq_false hx
                have HX := hideIt (show sayW k q x = q by unfold sayW; rw [if_neg hx])
                clear hx
                go_wp2_with fail
                go_roundw
                case measure => simp [intOf]; omega
                case rel => exact ⟨j + 1, q, by go_num, by omega, rfl, rfl, hideIt (by rw [HN.out, HX.out]), HF, HAT⟩
            · obtain rfl : j = ws.length := by omega
              have HQQ := hideIt (show getL R k = q by rw [HGX.out, HQ.out, List.take_length])
              have hGR := hideIt (by have := eget_any a2 c2 R k (by omega) wr (Or.inr HAT.out); rw [HQQ.out] at this; exact this)
              go_wp2_with fail
              refine Calls.mono hGR.out ?_
              rintro e w5 ⟨rfl, hF5⟩
              have hCR := hideIt (by have := echeck_any a2 c2 R (by omega) w5 (Or.inr (HAT.out.fr0 hF5)); rw [HCX.out] at this; exact this)
              have HF5 := hideIt (HF.out.trans hF5 (fun _ _ e => e))
              clear hF5 hGR
              go_wp2_with fail
              refine Calls.mono hCR.out ?_
              rintro e w6 ⟨rfl, hF6⟩
              have HF6 := hideIt (HF5.out.trans hF6 (fun _ _ e => e))
              clear hF6
              go_wp2_with fail
              go_ret
              exact ⟨rfl, HF6.out⟩
        · obtain ⟨e1, e2⟩ := ap_err l ws hl100 hw60 hE
          rw [e1] at hrow ⊢
          have hne : (apE l ws != 0) = true := by simpa using hE
          clear hrow e1 hE
          generalize apE l ws = c at *
          by_cases h2 : chkE l = c
          · rw [h2] at HC
            clear e2 h2
            go_wp2_with fail
            refine Calls.mono (HC.out _ HF2.out) ?_
            rintro e w3 ⟨rfl, hF3⟩
            have HF3 := hideIt (HF2.out.trans hF3 (fun _ _ e => e))
            clear hF3
            go_wp2_with fail
            go_ret
            exact ⟨rfl, HF3.out⟩
          · obtain rfl : c = 2 := by rcases e2 with e | e; exact absurd e h2; exact e
            have hd : (chkE l == 2) = false := by simpa using h2
            clear e2 h2
            generalize chkE l = d at *
            go_wp2_with fail
            refine Calls.mono (HC.out _ HF2.out) ?_
            rintro e w3 ⟨rfl, hF3⟩
            have HF3 := hideIt (HF2.out.trans hF3 (fun _ _ e => e))
            clear hF3
            go_wp2_with fail
            go_ret
            exact ⟨rfl, HF3.out⟩

theorem writes_w (ao : Option Addr) (ca : Nat) (l : List Sp) (bo : Option Addr) (cb : Nat) (ws : List Wr) (k : ByteArray) (w : World) (h : l = [] ∨ SpsAt w ao l) (hcap : l.length ≤ ca) (hl : l.length ≤ 9223372036854775807) (hb : ws = [] ∨ WsAt w bo ws) (_ : ws.length ≤ cb) (hw : ws.length ≤ 9223372036854775807) :
    Calls Try.prog 6 #[.slice ao l.length ca, .slice bo ws.length cb, .string k] w fun e w' => e = .returned (.bool true) ∧ Fr (fun _ => False) w w' := writes_all ao bo ca cb l ws k w h hcap hl hb hw

end Go.Proofs.Ytefikadaiconaaa
