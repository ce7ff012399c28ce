/- Cell: Apply. -/
import Derived.Test.YtefikadaiconaaaLf
namespace Go.Proofs.Ytefikadaiconaaa
open Go.RowKit Go.IntWalk
set_option linter.unusedSimpArgs false
set_option linter.unusedVariables false

/-- What Apply tells: the state, the error. -/
def apL (l : List Sp) (ws : List Wr) : List Sp := behL (setL (ws.map Prod.fst)) (lastW ws) l
def apE (l : List Sp) (ws : List Wr) : Int := if chkE l = 0 then (if ws.all mayB then (if 65536 < (apL l ws).length then 3 else 0) else 2) else chkE l
def apR (l : List Sp) (ws : List Wr) : List Sp := if apE l ws = 0 then apL l ws else []

def ApPost (l : List Sp) (ws : List Wr) (w : World) (e : Ending) (w' : World) : Prop :=
  ∃ ao cap, e = .returned (.tuple #[.slice ao (apR l ws).length cap, .int .i64 (apE l ws)]) ∧ SpRow w' ao cap (apR l ws) ∧ Fr (fun _ => False) w w' ∧ ∀ k, blk ao k → w.heap.size ≤ k

theorem ap_bad {l : List Sp} {ws : List Wr} {w w' : World} (c : Int) (h : apE l ws = c) (hc : c ≠ 0) (hF : Fr (fun _ => False) w w') : ApPost l ws w (.returned (.tuple #[.slice none 0 0, .int .i64 c])) w' := by
  have e : apR l ws = [] := by unfold apR; rw [if_neg (by rw [h]; exact hc)]
  exact ⟨none, 0, by rw [h, e]; rfl, by rw [e]; exact SpRow.nil _, hF, fun k ⟨a, e, _⟩ => by cases e⟩

theorem mayB_key {x : Wr} (h : mayB x = true) : keyB x.1 = true := by
  unfold mayB at h
  rw [Bool.and_eq_true, Bool.and_eq_true] at h
  exact h.1.1
theorem keyB_len {k : ByteArray} (h : keyB k = true) : 1 ≤ k.size ∧ k.size ≤ 32 := by
  unfold keyB at h
  rw [Bool.and_eq_true] at h
  have h1 : k.size ≠ 0 := by
    have := h.1
    simpa only [Bool.not_eq_true', decide_eq_false_iff_not] using this
  have h2 := of_decide_eq_true h.2
  omega
theorem keyB_max {k : ByteArray} (h : keyB k = true) : k.size ≤ maxLen := by have := keyB_len h; unfold maxLen; omega

set_option maxRecDepth 100000 in
set_option maxHeartbeats 4000000 in
theorem eapply_any (ao bo : Option Addr) (ca cb : Nat) (l : List Sp) (ws : List Wr) (w : World) (h : l = [] ∨ SpsAt w ao l) (hb : ws = [] ∨ WsAt w bo ws) (hcap : l.length ≤ ca) (hl : l.length ≤ 1000000) (hw : ws.length ≤ 1000000) :
    Calls Try.prog 24 #[.slice ao l.length ca, .slice bo ws.length cb] w (ApPost l ws w) := by
  have HL := hideIt h
  have HW := hideIt hb
  have HC := hideIt (echeck_any ao ca l (by omega) w h)
  clear h hb
  by_cases hc : chkE l = 0
  · have hS := ((chkE_ok l).1 hc).2
    have HR := hideIt hS.rises
    rw [hc] at HC
    have HE := hideIt (show apE l ws = if ws.all mayB then (if 65536 < (apL l ws).length then 3 else 0) else 2 by unfold apE; rw [if_pos hc])
    clear hS hc
    have hmm := @run_makeMap Try.prog
    go_enter Try.func24, Try.ntmps24
    go_wp2_with fail
    refine Calls.mono HC.out ?_
    rintro e w1 ⟨rfl, hF1⟩
    have HF1 := hideIt hF1
    have HB1 := hideIt hF1.size
    clear hF1
    go_wp2_with fail
    clear hmm
    have HM0 := hideIt ((LatAt.made w1).fr ((Fr.refl (fun _ => False) _).alloc (.cells #[.map (some w1.heap.size)] 69)) (fun e => e))
    have HX0 := hideIt (show ((w1.alloc (.map #[] 0)).alloc (.cells #[.map (some w1.heap.size)] 69)).cell? ⟨w1.heap.size + 1, 0, none⟩ = some (.map (some w1.heap.size)) from cellNew _ _ _ _ _ (by simp))
    have HF2 := hideIt (HF1.out.trans (((Fr.refl (fun _ => False) w1).alloc (.map #[] 0)).alloc (.cells #[.map (some w1.heap.size)] 69)) (fun _ _ e => e))
    clear HF1 HC
    generalize (w1.alloc (.map #[] 0)).alloc (.cells #[.map (some w1.heap.size)] 69) = W2 at *
    generalize w1.heap.size = B at *
    go_loopw [20] (fun s20 wr => ∃ j : Nat, s20 = .int .i64 j ∧ j ≤ ws.length ∧ Hid (LatAt wr B (ws.take j)) ∧ Hid (wr.cell? ⟨B + 1, 0, none⟩ = some (.map (some B))) ∧ Hid (Fr (fun _ => False) w wr) ∧ Hid (∀ x ∈ ws.take j, mayB x = true)) (fun s20 _ => ws.length - (intOf s20).toNat)
    case atStart => exact ⟨0, rfl, Nat.zero_le _, hideIt (by simpa using HM0.out), HX0, HF2, hideIt (by simp)⟩
    case round =>
      clear HM0 HX0 HF2
      obtain ⟨j, rfl, hj, HM, HX, HF, HA⟩ := hrel
      by_cases hlt : j < ws.length
      · obtain ⟨b3, off3, rfl, hb3, c0, c1, c2⟩ := ws_get (wats_fr0 HW.out HF.out) j hlt
        have HT := hideIt (List.take_succ_eq_append_getElem hlt)
        have HIN := hideIt (List.getElem_mem hlt)
        have hj' : (j : Int) < (ws.length : Int) := by omega
        generalize ws[j] = x at *
        have HMB := hideIt (fun u => emaybe_any x u)
        have HN := hideIt (fun (hm : mayB x = false) => show apE l ws = 2 by
          rw [HE.out, if_neg]
          rw [List.all_eq_true]
          intro hh
          rw [hh x HIN.out] at hm
          cases hm)
        have HP := hideIt (fun (hm : mayB x = true) y (hy : y ∈ ws.take (j + 1)) => show mayB y = true from by
          rw [HT.out] at hy
          rcases List.mem_append.1 hy with e | e
          · exact HA.out y e
          · rw [List.mem_singleton.1 e]; exact hm)
        have HKX := hideIt (fun (hm : mayB x = true) => keyB_max (mayB_key hm))
        obtain ⟨x1, x2, x3⟩ := x
        have HCW := hideIt (fun w' (hF : Fr (fun _ => False) (wr.alloc (.cells #[.string x1, .string x2, .bool x3] 52)) w') => (⟨hF.cell0 (cellNew wr _ _ _ 0 rfl), hF.cell0 (cellNew wr _ _ _ 1 rfl), hF.cell0 (cellNew wr _ _ _ 2 rfl)⟩ : w'.cell? ⟨wr.heap.size, 0, none⟩ = some (.string x1) ∧ w'.cell? ⟨wr.heap.size, 1, none⟩ = some (.string x2) ∧ w'.cell? ⟨wr.heap.size, 2, none⟩ = some (.bool x3)))
        have HFA := hideIt ((Fr.refl (fun _ => False) wr).alloc (.cells #[.string x1, .string x2, .bool x3] 52))
        simp only [wrV] at HMB
        generalize mayB (x1, x2, x3) = mb at *
        cases mb with
        | false =>
          have HQ := hideIt (HN.out rfl)
          clear HN HP HKX
          go_wp2_with fail
          refine Calls.mono (HMB.out _) ?_
          rintro e w3 ⟨rfl, hF3⟩
          have HF3 := hideIt (HF.out.trans (HFA.out.trans hF3 (fun _ _ e => e)) (fun _ _ e => e))
          clear hF3
          go_wp2_with fail
          go_ret2
          exact ap_bad 2 HQ.out (by decide) HF3.out
        | true =>
          have HQ := hideIt (HP.out rfl)
          have HKQ := hideIt (HKX.out rfl)
          clear HN HP HKX
          go_wp2_with fail
          refine Calls.mono (HMB.out _) ?_
          rintro e w3 ⟨rfl, hF3⟩
          obtain ⟨d0, d1, d2⟩ := HCW.out w3 hF3
          have hF4 := HFA.out.trans hF3 (fun _ _ e => e)
          have hx3 := hF4.cell0 HX.out
          have HX3 := hideIt hx3
          have hBlt : B + 1 < w3.heap.size := block_lt_of_cell hx3
          have HLY := hideIt (elay_any B (ws.take j) (x1, x2, x3) w3 (HM.out.fr hF4 (fun e => e)) (by rw [List.length_take]; unfold maxLen; omega) HKQ.out)
          have HF3 := hideIt (HF.out.trans hF4 (fun _ _ e => e))
          simp only [wrV] at HLY
          clear hF3 hF4 HF HFA HCW HMB
          go_wp2_with fail
          refine Calls.mono HLY.out ?_
          rintro e w4 ⟨rfl, hM4, hF4⟩
          have HM4 := hideIt hM4
          have HF4 := hideIt (HF3.out.trans hF4 (fun i hi e => by have := HB1.out; omega))
          have HX4 := hideIt (show w4.cell? ⟨B + 1, 0, none⟩ = some (.map (some B)) from (World.cell?_of_block (a := ⟨B + 1, 0, none⟩) (hF4.block (B + 1) hBlt (by omega))).trans HX3.out)
          clear hM4 hF4 hx3
          go_wp2_with fail
          go_roundw
          case measure => simp [intOf]; omega
          case rel => exact ⟨j + 1, by go_num, by omega, hideIt (by rw [HT.out]; exact HM4.out), HX4, HF4, HQ⟩
      · obtain rfl : j = ws.length := by omega
        have hMw : LatAt wr B ws := by have := HM.out; rwa [List.take_length] at this
        have hAw : ∀ x ∈ ws, mayB x = true := by have := HA.out; rwa [List.take_length] at this
        have hxx := HX.out
        have HBH := hideIt (ebehind_any B ws ao ca l wr hMw (sats_fr0 HL.out HF.out) hcap HR.out hl hw (fun x hx => keyB_max (mayB_key (hAw x hx))))
        have HE2 := hideIt (show apE l ws = if 65536 < (apL l ws).length then 3 else 0 by rw [HE.out, if_pos (List.all_eq_true.2 hAw)])
        have HRR := hideIt (show apR l ws = if apE l ws = 0 then apL l ws else [] from rfl)
        rw [show behL (setL (ws.map Prod.fst)) (lastW ws) l = apL l ws from rfl] at HBH
        clear hMw hAw HM HA HX
        generalize hA : apL l ws = A at *
        clear hA
        go_wp2_with fail
        refine Calls.mono HBH.out ?_
        rintro e w5 ⟨a5, c5, rfl, hrow, hF5, hnew⟩
        have HROW := hideIt hrow
        have HF5 := hideIt (HF.out.trans hF5 (fun _ _ e => e))
        have HNEW := hideIt (fun k hk => Nat.le_trans HF.out.size (hnew k hk))
        clear hrow hF5 hnew HBH
        by_cases h6 : 65536 < A.length
        · have h6' : (65536 : Int) < (A.length : Int) := by omega
          have HQ := hideIt (show apE l ws = 3 by rw [HE2.out, if_pos h6])
          clear h6
          go_wp2_with fail
          go_ret2
          exact ap_bad 3 HQ.out (by decide) HF5.out
        · have h6' : ¬ (65536 : Int) < (A.length : Int) := by omega
          have HQ := hideIt (show apE l ws = 0 by rw [HE2.out, if_neg h6])
          have HQR := hideIt (show apR l ws = A by rw [HRR.out, if_pos HQ.out])
          clear h6
          go_wp2_with fail
          go_ret2
          refine ⟨a5, c5, ?_, ?_, HF5.out, HNEW.out⟩
          · rw [HQ.out, HQR.out]
            rfl
          · rw [HQR.out]
            exact HROW.out
  · have hne : (chkE l != 0) = true := by simpa using hc
    have HQ := hideIt (show apE l ws = chkE l by unfold apE; rw [if_neg hc])
    have HNE := hideIt hc
    clear hc
    generalize chkE l = c at *
    go_enter Try.func24, Try.ntmps24
    go_wp2_with fail
    refine Calls.mono HC.out ?_
    rintro e w1 ⟨rfl, hF1⟩
    have HF1 := hideIt hF1
    clear hF1
    go_wp2_with fail
    go_ret2
    exact ap_bad c HQ.out HNE.out HF1.out

end Go.Proofs.Ytefikadaiconaaa
