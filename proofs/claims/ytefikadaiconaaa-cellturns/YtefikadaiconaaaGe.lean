/- Cell, the document's: Apply; writes written over. -/
import Derived.Test.YtefikadaiconaaaGd
import Derived.Test.YtefikadaiconaaaLs
namespace Go.Proofs.Ytefikadaiconaaa
open Go.RowKit Go.IntWalk
set_option linter.unusedSimpArgs false
set_option linter.unusedVariables false

set_option maxRecDepth 100000 in
set_option maxHeartbeats 2000000 in
theorem qapply_any (ao bo : Option Addr) (ca cb : Nat) (l : List Sp) (ws : List Wr) (w : World) (h : l = [] ∨ SpsAt w ao l) (hb : ws = [] ∨ WsAt w bo ws) (hcap : l.length ≤ ca) (hl : l.length ≤ 100000) (hw : ws.length ≤ 100000) :
    Calls Try.prog 25 #[.slice ao l.length ca, .slice bo ws.length cb] w (ApPost l ws w) := by
  have HL := hideIt h
  have HW := hideIt hb
  have HC := hideIt (qcheck_any ao ca l (by omega) w h)
  clear h hb
  by_cases hc : chkE l = 0
  · have HR := hideIt ((chkE_ok l).1 hc).2.rises
    rw [hc] at HC
    have HE := hideIt (show apE l ws = if ws.all mayB then (if 65536 < (apL l ws).length then 3 else 0) else 2 by unfold apE; rw [if_pos hc])
    clear hc
    go_enter Try.func25, Try.ntmps25
    go_wp2_with fail
    refine Calls.mono HC.out ?_
    rintro e w1 ⟨rfl, hF1⟩
    have HF1 := hideIt hF1
    clear hF1
    go_wp2_with fail
    go_loopw [7] (fun s7 wr => ∃ j : Nat, s7 = .int .i64 j ∧ j ≤ ws.length ∧ Hid (Fr (fun _ => False) w wr) ∧ Hid (∀ x ∈ ws.take j, mayB x = true)) (fun s7 _ => ws.length - (intOf s7).toNat)
    case atStart => exact ⟨0, rfl, Nat.zero_le _, HF1, hideIt (by simp)⟩
    case round =>
      clear HF1
      obtain ⟨j, rfl, hj, HF, HA⟩ := hrel
      by_cases hlt : j < ws.length
      · obtain ⟨b3, off3, rfl, hb3, c0, c1, c2⟩ := ws_get (wats_fr0 HW.out HF.out) j hlt
        have HT := hideIt (List.take_succ_eq_append_getElem hlt)
        have HIN := hideIt (List.getElem_mem hlt)
        have hj' : (j : Int) < (ws.length : Int) := by omega
        generalize ws[j] = x at *
        have HMB := hideIt (fun u => qmay_any x u)
        have HN := hideIt (fun (hm : mayB x = false) => show apE l ws = 2 by
          rw [HE.out, if_neg]
          rw [List.all_eq_true]
          intro hh
          rw [hh x HIN.out] at hm
          cases hm)
        have HP := hideIt (fun (hm : mayB x = true) y (hy : y ∈ ws.take (j + 1)) => show mayB y = true from by
          rw [HT.out] at hy
          rcases List.mem_append.1 hy with e | e
          · exact HA.out y e
          · rw [List.mem_singleton.1 e]; exact hm)
        obtain ⟨x1, x2, x3⟩ := x
        simp only [wrV] at HMB
        generalize mayB (x1, x2, x3) = mb at *
        cases mb with
        | false =>
          have HQ := hideIt (HN.out rfl)
          clear HN HP
          go_wp2_with fail
          refine Calls.mono (HMB.out _) ?_
          rintro e w3 ⟨rfl, hF3⟩
          have HF3 := hideIt (HF.out.trans hF3 (fun _ _ e => e))
          clear hF3
          go_wp2_with fail
          go_ret2
          exact ap_bad 2 HQ.out (by decide) HF3.out
        | true =>
          have HQ := hideIt (HP.out rfl)
          clear HN HP
          go_wp2_with fail
          refine Calls.mono (HMB.out _) ?_
          rintro e w3 ⟨rfl, hF3⟩
          have HF3 := hideIt (HF.out.trans hF3 (fun _ _ e => e))
          clear hF3 HF HMB
          go_wp2_with fail
          go_roundw
          case measure => simp [intOf]; omega
          case rel => exact ⟨j + 1, by go_num, by omega, HF3, HQ⟩
      · obtain rfl : j = ws.length := by omega
        have hAw : ∀ x ∈ ws, mayB x = true := by have := HA.out; rwa [List.take_length] at this
        have HE2 := hideIt (show apE l ws = if 65536 < (apL l ws).length then 3 else 0 by rw [HE.out, if_pos (List.all_eq_true.2 hAw)])
        have HRR := hideIt (show apR l ws = if apE l ws = 0 then apL l ws else [] from rfl)
        have hrow0 : SpRow (wr.alloc (.cells #[] 60)) (some ⟨wr.heap.size, 0, none⟩) 0 [] := World.ownsRow_made wr #[] 0 (Nat.zero_le _) (by decide) rfl
        have hB0 : Beh wr (wr.alloc (.cells #[] 60)) (some ⟨wr.heap.size, 0, none⟩) 0 [] none [] := ⟨hrow0, fun q ⟨a, e1, e2⟩ => (by obtain rfl := Option.some.inj e1; simp at e2; omega), (Fr.refl _ _).alloc _, Or.inl rfl, fun q ⟨a, e, _⟩ => (by cases e), fun q ⟨a, e, _⟩ => (by cases e)⟩
        obtain ⟨a2, c2, w2, hrun2, hB2⟩ := hB0.app l ao ca (sats_fr0 HL.out (HF.out.trans hB0.fr (fun _ _ e => e))) (by simp; omega)
        rw [List.nil_append] at hrun2 hB2
        have HR2 := hideIt hrun2
        have HF2 := hideIt (HF.out.trans hB2.fr (fun _ _ e => e))
        have HROW := hideIt hB2.row
        have HNW := hideIt (fun k (e : blk a2 k) => Nat.le_trans HF.out.size (hB2.new k e))
        clear hAw HA hrow0 hB0 hrun2 hB2 hlt hj HE
        go_wp2_with (first | (at_builtin; refine wpList_append_run _ rfl (.tmp 27) (.tmp 28) 22 22 rfl _ _ _ _ rfl rfl HR2.out ?_))
        go_loopw [9, 8] (fun s9 s8 wq => ∃ (j : Nat) (a8 : Option Addr) (c8 : Nat) (O : List Sp), s9 = .int .i64 j ∧ j ≤ ws.length ∧ s8 = .slice a8 O.length c8 ∧ O.length ≤ l.length + j ∧ Hid (O = apL l (ws.take j)) ∧ Hid (SpRow wq a8 c8 O) ∧ Hid (∀ k, blk a8 k → w.heap.size ≤ k) ∧ Hid (Fr (fun _ => False) w wq)) (fun s9 _ _ => ws.length - (intOf s9).toNat)
        case atStart => exact ⟨0, a2, c2, l, rfl, Nat.zero_le _, rfl, by omega, hideIt (by rw [List.take_zero]; rfl), HROW, HNW, HF2⟩
        case round =>
          clear HROW HNW HF2 HF
          obtain ⟨j, a8, c8, O, rfl, hj, rfl, hO, HO, HROW, HNW, HF⟩ := hrel
          by_cases hlt : j < ws.length
          · obtain ⟨b3, off3, rfl, hb3, d0, d1, d2⟩ := ws_get (wats_fr0 HW.out HF.out) j hlt
            have HT := hideIt (show apL l (ws.take (j + 1)) = oneL O ws[j] by rw [List.take_succ_eq_append_getElem hlt, apL_snoc l _ _ HR.out, HO.out])
            have hj' : (j : Int) < (ws.length : Int) := by omega
            have hlen := apL_len l (ws.take (j + 1))
            rw [HT.out, List.length_take, Nat.min_eq_left (show j + 1 ≤ ws.length from hlt)] at hlen
            generalize ws[j] = x at *
            have HON := hideIt (qone_any a8 c8 O x _ (Or.inr HROW.out.at) (RowOf.cap (enc := spL) (size := 2) HROW.out) (by omega))
            generalize oneL O x = O2 at *
            obtain ⟨x1, x2, x3⟩ := x
            simp only [wrV] at HON
            go_wp2_with fail
            refine Calls.mono HON.out ?_
            rintro e w5 ⟨a5, c5, rfl, hrow, hF5, hnew⟩
            have HROW5 := hideIt hrow
            have HNW5 := hideIt (fun k (e : blk a5 k) => Nat.le_trans HF.out.size (hnew k e))
            have HF5 := hideIt (HF.out.trans hF5 (fun _ _ e => e))
            clear hrow hF5 hnew HON HF HNW HROW
            go_wp2_with fail
            go_roundw
            case measure => simp [intOf]; omega
            case rel => exact ⟨j + 1, a5, c5, O2, by go_num, by omega, rfl, by omega, hideIt HT.out.symm, HROW5, HNW5, HF5⟩
          · obtain rfl : j = ws.length := by omega
            have hOA : O = apL l ws := by have := HO.out; rwa [List.take_length] at this
            rw [← hOA] at HE2 HRR
            clear hOA HO
            by_cases h6 : 65536 < O.length
            · have h6' : (65536 : Int) < (O.length : Int) := by omega
              have HQ := hideIt (show apE l ws = 3 by rw [HE2.out, if_pos h6])
              clear h6
              go_wp2_with fail
              go_ret2
              exact ap_bad 3 HQ.out (by decide) HF.out
            · have h6' : ¬ (65536 : Int) < (O.length : Int) := by omega
              have HQ := hideIt (show apE l ws = 0 by rw [HE2.out, if_neg h6])
              have HQR := hideIt (show apR l ws = O by rw [HRR.out, if_pos HQ.out])
              clear h6
              go_wp2_with fail
              go_ret2
              refine ⟨a8, c8, ?_, ?_, HF.out, HNW.out⟩
              · rw [HQ.out, HQR.out]
                rfl
              · rw [HQR.out]
                exact HROW.out
  · have hne : (chkE l != 0) = true := by simpa using hc
    have HQ := hideIt (show apE l ws = chkE l by unfold apE; rw [if_neg hc])
    have HNE := hideIt hc
    clear hc
    generalize chkE l = c at *
    go_enter Try.func25, Try.ntmps25
    go_wp2_with fail
    refine Calls.mono HC.out ?_
    rintro e w1 ⟨rfl, hF1⟩
    have HF1 := hideIt hF1
    clear hF1
    go_wp2_with fail
    go_ret2
    exact ap_bad c HQ.out HNE.out HF1.out

set_option maxRecDepth 100000 in
set_option maxHeartbeats 2000000 in
theorem eoverw_any (ao : Option Addr) (cap : Nat) (l : List Wr) (w : World) (h : RowOf wrL 3 52 w ao cap l) (hl : l.length ≤ 1000000) :
    Calls Try.prog 32 #[.slice ao l.length cap] w fun e w' => e = .returned (.tuple #[]) ∧ Fr (blk ao) w w' := by
  have hwh : l = [] ∨ ∃ g cur, ao = some ⟨g, 0, none⟩ ∧ w.heap[g]? = some (.cells cur 52 (0, 0)) ∧ l.length * 3 ≤ cur.size := by
    rcases h.2 with ⟨hv, hn⟩ | ⟨g, c, cur, hv, _, hg, hle, hcm, hcs, htake⟩
    · exact Or.inl (List.eq_nil_of_length_eq_zero hn)
    · obtain ⟨rfl, _, rfl⟩ := Value.slice.inj hv
      exact Or.inr ⟨g, cur, rfl, hg, by rw [hcs]; exact Nat.mul_le_mul_right _ hle⟩
  rcases hwh with h0 | ⟨g, cur, rfl, hg, hsz⟩
  · subst h0
    clear h
    go_enter Try.func32, Try.ntmps32
    go_wp2_with fail
    go_loopw [2] (fun s2 wr => s2 = .int .i64 0 ∧ wr = w) (fun _ _ => 0)
    case atStart => exact ⟨rfl, rfl⟩
    case round =>
      obtain ⟨rfl, rfl⟩ := hrel
      go_wp2_with fail
      go_end0
      exact ⟨rfl, Fr.refl _ _⟩
  · have HG := hideIt hg
    clear h hg
    generalize l.length = n at *
    go_enter Try.func32, Try.ntmps32
    go_wp2_with fail
    go_loopw [2] (fun s2 wr => ∃ (j : Nat) (cs : Array Value), s2 = .int .i64 j ∧ j ≤ n ∧ n * 3 ≤ cs.size ∧ Hid (wr.heap[g]? = some (.cells cs 52 (0, 0))) ∧ Hid (Fr (fun k => k = g) w wr)) (fun s2 _ => n - (intOf s2).toNat)
    case atStart => exact ⟨0, cur, rfl, Nat.zero_le _, hsz, HG, hideIt (Fr.refl _ _)⟩
    case round =>
      clear HG
      obtain ⟨j, cs, rfl, hj, hcs, HG, HF⟩ := hrel
      by_cases hlt : j < n
      · have hj' : (j : Int) < (n : Int) := by omega
        have c0 : wr.cell? ⟨g, j * 3, none⟩ = some (cs[j * 3]'(by omega)) := by rw [cell_of_row wr g _ _ _ _ HG.out]; exact Array.getElem?_eq_getElem (by omega)
        have c1 : wr.cell? ⟨g, j * 3 + 1, none⟩ = some (cs[j * 3 + 1]'(by omega)) := by rw [cell_of_row wr g _ _ _ _ HG.out]; exact Array.getElem?_eq_getElem (by omega)
        have c2 : wr.cell? ⟨g, j * 3 + 2, none⟩ = some (cs[j * 3 + 2]'(by omega)) := by rw [cell_of_row wr g _ _ _ _ HG.out]; exact Array.getElem?_eq_getElem (by omega)
        have f0 : wr.frozen? ⟨g, j * 3, none⟩ = false := frozen_of_row wr g _ _ _ HG.out
        have f1 : wr.frozen? ⟨g, j * 3 + 1, none⟩ = false := frozen_of_row wr g _ _ _ HG.out
        have f2 : wr.frozen? ⟨g, j * 3 + 2, none⟩ = false := frozen_of_row wr g _ _ _ HG.out
        have HG2 := hideIt (heap_setCell_same _ g (j * 3 + 2) _ _ (.bool false) (heap_setCell_same _ g (j * 3 + 1) _ _ (.string ⟨#[]⟩) (heap_setCell_same wr g (j * 3) _ _ (.string ⟨#[63]⟩) HG.out)))
        have HF2 := hideIt (Fr.setCell (p := ⟨g, j * 3 + 2, none⟩) (Fr.setCell (p := ⟨g, j * 3 + 1, none⟩) (Fr.setCell (p := ⟨g, j * 3, none⟩) HF.out (fun _ => rfl) (.string ⟨#[63]⟩)) (fun _ => rfl) (.string ⟨#[]⟩)) (fun _ => rfl) (.bool false))
        go_wp2_with fail
        go_roundw
        case measure => simp [intOf]; omega
        case rel => exact ⟨j + 1, _, by go_num, by omega, by simpa using hcs, HG2, HF2⟩
      · obtain rfl : j = n := by omega
        go_wp2_with fail
        go_end0
        exact ⟨rfl, HF.out.mono (fun k e => ⟨⟨g, 0, none⟩, rfl, e.symm⟩)⟩

end Go.Proofs.Ytefikadaiconaaa
