/- Cell: Check, Get. -/
import Derived.Test.YtefikadaiconaaaLc
namespace Go.Proofs.Ytefikadaiconaaa
open Go.RowKit Go.IntWalk
set_option linter.unusedSimpArgs false
set_option linter.unusedVariables false

def sttB (l : List Sp) : Bool := l.all (fun p => keyB p.1 && valB p.2) && risesB (l.map Prod.fst)
theorem sttB_iff (l : List Sp) : sttB l = true ↔ Stt l := by
  unfold sttB
  rw [Bool.and_eq_true, List.all_eq_true, risesB_iff]
  constructor
  · rintro ⟨h1, h2⟩
    exact ⟨fun p hp => ((Bool.and_eq_true _ _).mp (h1 p hp)).1, fun p hp => ((Bool.and_eq_true _ _).mp (h1 p hp)).2, h2⟩
  · intro h
    exact ⟨fun p hp => (Bool.and_eq_true _ _).mpr ⟨h.keys p hp, h.vals p hp⟩, h.rises⟩
/-- What Check says of pairs. -/
def chkE (l : List Sp) : Int := if 65536 < l.length then 3 else if sttB l then 0 else 2
theorem chkE_ok (l : List Sp) : chkE l = 0 ↔ l.length ≤ 65536 ∧ Stt l := by
  unfold chkE
  rw [← sttB_iff]
  by_cases h : 65536 < l.length
  · rw [if_pos h]
    exact ⟨fun e => absurd e (by decide), fun e => by omega⟩
  · rw [if_neg h]
    cases sttB l
    · exact ⟨fun e => absurd e (by decide), fun e => by cases e.2⟩
    · exact ⟨fun _ => ⟨by omega, rfl⟩, fun _ => rfl⟩

/-- The pairs up to a place may be. -/
def OkTo (l : List Sp) (n : Nat) : Prop := ∀ i, (h : i < l.length) → i < n → keyB l[i].1 = true ∧ valB l[i].2 = true ∧ (∀ j, (hj : j + 1 = i) → kLt (l[j]'(by omega)).1 l[i].1)
theorem OkTo.succ {l : List Sp} {n : Nat} (h : OkTo l n) (hn : n < l.length) (hk : keyB l[n].1 = true) (hv : valB l[n].2 = true) (hr : ∀ j, (hj : j + 1 = n) → kLt (l[j]'(by omega)).1 l[n].1) : OkTo l (n + 1) := by
  intro i hi hin
  by_cases e : i = n
  · subst e
    exact ⟨hk, hv, hr⟩
  · exact h i hi (by omega)
theorem OkTo.all {l : List Sp} (h : OkTo l l.length) : sttB l = true := by
  rw [sttB_iff]
  refine ⟨fun p hp => ?_, fun p hp => ?_, ?_⟩
  · obtain ⟨i, hi, rfl⟩ := List.getElem_of_mem hp
    exact (h i hi hi).1
  · obtain ⟨i, hi, rfl⟩ := List.getElem_of_mem hp
    exact (h i hi hi).2.1
  · rw [← risesB_iff, risesB_get]
    intro i hi
    have hi' : i + 1 < l.length := by simpa using hi
    have := (h (i + 1) hi' hi').2.2 i rfl
    simpa using this
theorem OkTo.no {l : List Sp} {n : Nat} (hn : n < l.length) (h : keyB l[n].1 = false ∨ valB l[n].2 = false ∨ ∃ j, ∃ hj : j + 1 = n, ¬ kLt (l[j]'(by omega)).1 l[n].1) : sttB l = false := by
  cases hs : sttB l with
  | false => rfl
  | true =>
    have hS := (sttB_iff l).1 hs
    rcases h with h | h | ⟨j, hj, h⟩
    · rw [hS.keys _ (List.getElem_mem hn)] at h; cases h
    · rw [hS.vals _ (List.getElem_mem hn)] at h; cases h
    · exact absurd (rises_lt hS.rises (by omega) hn) h

set_option maxRecDepth 100000 in
set_option maxHeartbeats 4000000 in
theorem echeck_any (ao : Option Addr) (cap : Nat) (l : List Sp) (hl : l.length ≤ 1099511627776) (w : World) (h : l = [] ∨ SpsAt w ao l) :
    Calls Try.prog 18 #[.slice ao l.length cap] w fun e w' => e = .returned (.int .i64 (chkE l)) ∧ Fr (fun _ => False) w w' := by
  have HH := hideIt h
  clear h
  by_cases hlong : 65536 < l.length
  · have HX := hideIt (show chkE l = 3 by unfold chkE; rw [if_pos hlong])
    have hl2 : (65536 : Int) < (l.length : Int) := by omega
    go_enter Try.func18, Try.ntmps18
    go_wp2_with fail
    go_ret
    exact ⟨by rw [HX.out]; rfl, Fr.refl _ _⟩
  · have HX := hideIt (show chkE l = if sttB l then 0 else 2 by unfold chkE; rw [if_neg hlong])
    have hl2 : ¬ (65536 : Int) < (l.length : Int) := by omega
    go_enter Try.func18, Try.ntmps18
    go_wp2_with fail
    go_loopw [10] (fun i wr => ∃ j : Nat, i = .int .i64 j ∧ j ≤ l.length ∧ Hid (OkTo l j) ∧ Hid (Fr (fun _ => False) w wr)) (fun i _ => l.length - (intOf i).toNat)
    case atStart => exact ⟨0, rfl, Nat.zero_le _, hideIt (fun i _ h => by omega), hideIt (Fr.refl _ _)⟩
    case round =>
      obtain ⟨j, rfl, hj, HB, HF⟩ := hrel
      by_cases hlt : j < l.length
      · obtain ⟨b, off, rfl, hbl, c0, c1⟩ := sps_get (sats_fr0 HH.out HF.out) j hlt
        have HK := hideIt (fun u => ekey_any l[j].1 u)
        have HV := hideIt (fun u => evalue_any l[j].2 u)
        have HN := hideIt (OkTo.no hlt)
        have HS := hideIt (HB.out.succ hlt)
        have hj' : (j : Int) < (l.length : Int) := by omega
        clear hlong
        by_cases hz : j = 0
        · have hz' : decide (0 < j) = false := decide_eq_false (by omega)
          have HZ := hideIt hz
          clear hz
          generalize l[j] = x at *
          generalize keyB x.1 = kb at *
          generalize valB x.2 = vb at *
          cases kb with
          | false =>
            have HQ := hideIt (HN.out (Or.inl rfl))
            clear HN
            go_wp2_with fail
            go_quiet ((first | (go_at_call 20; exact Calls.quiet_of_same (HK.out _)) | (go_at_call 42; exact Calls.quiet_of_same (HV.out _))))
            go_wp2_with fail
            go_ret
            exact ⟨by rw [HX.out, HQ.out]; rfl, (HF.out.alloc _).drewN _⟩
          | true =>
            cases vb with
            | false =>
              have HQ := hideIt (HN.out (Or.inr (Or.inl rfl)))
              clear HN
              go_wp2_with fail
              go_quiet ((first | (go_at_call 20; exact Calls.quiet_of_same (HK.out _)) | (go_at_call 42; exact Calls.quiet_of_same (HV.out _))))
              go_wp2_with fail
              go_ret
              exact ⟨by rw [HX.out, HQ.out]; rfl, (HF.out.alloc _).drewN _⟩
            | true =>
              have HQ := hideIt (HS.out rfl rfl (fun i hi => absurd HZ.out (by omega)))
              clear HS
              go_wp2_with fail
              go_quiet ((first | (go_at_call 20; exact Calls.quiet_of_same (HK.out _)) | (go_at_call 42; exact Calls.quiet_of_same (HV.out _))))
              go_wp2_with fail
              go_roundw
              case measure => simp [intOf]; omega
              case rel => exact ⟨j + 1, by go_num, by omega, HQ, hideIt ((HF.out.alloc _).drewN _)⟩
        · obtain ⟨n, hn⟩ : ∃ n, j = n + 1 := ⟨j - 1, by omega⟩
          have hz' : decide (0 < j) = true := decide_eq_true (by omega)
          have hnl : n < l.length := by omega
          obtain ⟨b2, off2, e2, _, c2, _⟩ := sps_get (sats_fr0 HH.out HF.out) n hnl
          obtain ⟨rfl, rfl⟩ : b = b2 ∧ off = off2 := by simpa using e2
          have h1 : IntKind.i64.wrap ((j : Int) - 1) = (n : Int) := by rw [show ((j : Int) - 1) = (n : Int) by omega]; exact i64_in _ (by omega)
          have h2 : (n : Int) < (l.length : Int) := by omega
          have HNJ := hideIt (fun (h : ¬ kLt l[n].1 l[j].1) => HN.out (Or.inr (Or.inr ⟨n, hn.symm, h⟩)))
          have HSJ := hideIt (fun h1 h2 (h : kLt l[n].1 l[j].1) => HS.out h1 h2 (fun i hi => (by obtain rfl : i = n := (by omega); exact h)))
          have HJ := hideIt hn
          clear hn hz e2 HS
          generalize l[j] = x at *
          generalize l[n] = y at *
          generalize keyB x.1 = kb at *
          generalize valB x.2 = vb at *
          cases kb with
          | false =>
            have HQ := hideIt (HN.out (Or.inl rfl))
            clear HN
            go_wp2_with fail
            go_quiet ((first | (go_at_call 20; exact Calls.quiet_of_same (HK.out _)) | (go_at_call 42; exact Calls.quiet_of_same (HV.out _))))
            go_wp2_with fail
            go_ret
            exact ⟨by rw [HX.out, HQ.out]; rfl, (HF.out.alloc _).drewN _⟩
          | true =>
            cases vb with
            | false =>
              have HQ := hideIt (HN.out (Or.inr (Or.inl rfl)))
              clear HN
              go_wp2_with fail
              go_quiet ((first | (go_at_call 20; exact Calls.quiet_of_same (HK.out _)) | (go_at_call 42; exact Calls.quiet_of_same (HV.out _))))
              go_wp2_with fail
              go_ret
              exact ⟨by rw [HX.out, HQ.out]; rfl, (HF.out.alloc _).drewN _⟩
            | true =>
              by_cases hx : kLt y.1 x.1
              · have hq : (Op.bytesLess x.1.toList y.1.toList || x.1.toList == y.1.toList) = false := by rw [kLt_not]; simp [hx]
                have HXX := hideIt hx
                clear hx
                have HQ := hideIt (HSJ.out rfl rfl HXX.out)
                clear HSJ
                go_wp2_with fail
                go_quiet ((first | (go_at_call 20; exact Calls.quiet_of_same (HK.out _)) | (go_at_call 42; exact Calls.quiet_of_same (HV.out _))))
                go_wp2_with fail
                go_roundw
                case measure => simp [intOf]; omega
                case rel => exact ⟨j + 1, by go_num, by omega, HQ, hideIt ((HF.out.alloc _).drewN _)⟩
              · have hq : (Op.bytesLess x.1.toList y.1.toList || x.1.toList == y.1.toList) = true := by rw [kLt_not]; simp [hx]
                have HXX := hideIt (HNJ.out hx)
                clear hx
                go_wp2_with fail
                go_quiet ((first | (go_at_call 20; exact Calls.quiet_of_same (HK.out _)) | (go_at_call 42; exact Calls.quiet_of_same (HV.out _))))
                go_wp2_with fail
                go_ret
                exact ⟨by rw [HX.out, HXX.out]; rfl, (HF.out.alloc _).drewN _⟩
      · obtain rfl : j = l.length := by omega
        have HXX := hideIt HB.out.all
        go_wp2_with fail
        go_ret
        exact ⟨by rw [HX.out, HXX.out]; rfl, HF.out⟩

/-- What Get tells. -/
def getL (l : List Sp) (k : ByteArray) : ByteArray × Bool := if chkE l = 0 ∧ hereB l k = true then ((l.getD (placeL l k) (⟨#[]⟩, ⟨#[]⟩)).2, true) else (⟨#[]⟩, false)

theorem chk_later {w : World} {ao : Option Addr} {l : List Sp} (hl : l.length ≤ 1099511627776) (h : l = [] ∨ SpsAt w ao l) (cap : Nat) (u : World) (hF : Fr (fun _ => False) w u) : Calls Try.prog 18 #[.slice ao l.length cap] u fun e w' => e = .returned (.int .i64 (chkE l)) ∧ Fr (fun _ => False) u w' :=
  echeck_any ao cap l hl u (sats_fr0 h hF)
theorem find_later {w : World} {ao : Option Addr} {l : List Sp} (hr : Rises (l.map Prod.fst)) (hl : l.length ≤ 1099511627776) (h : l = [] ∨ SpsAt w ao l) (cap : Nat) (k : ByteArray) (u : World) (hF : Fr (fun _ => False) w u) : Calls Try.prog 39 #[.slice ao l.length cap, .string k] u fun e w' => e = .returned (.tuple #[.int .i64 (placeL l k), .bool (hereB l k)]) ∧ Fr (fun _ => False) u w' :=
  efind_any k ao cap l hr hl u (sats_fr0 h hF)

set_option maxRecDepth 100000 in
set_option maxHeartbeats 2000000 in
theorem eget_any (ao : Option Addr) (cap : Nat) (l : List Sp) (k : ByteArray) (hl : l.length ≤ 1099511627776) (w : World) (h : l = [] ∨ SpsAt w ao l) :
    Calls Try.prog 12 #[.slice ao l.length cap, .string k] w fun e w' => e = .returned (.tuple #[.string (getL l k).1, .bool (getL l k).2]) ∧ Fr (fun _ => False) w w' := by
  have HC := hideIt (fun u hF => chk_later hl h cap u hF)
  by_cases hc : chkE l = 0
  · have HFI := hideIt (fun u hF => find_later ((chkE_ok l).1 hc).2.rises hl h cap k u hF)
    have HH := hideIt h
    have HG := hideIt (show getL l k = if hereB l k = true then ((l.getD (placeL l k) (⟨#[]⟩, ⟨#[]⟩)).2, true) else (⟨#[]⟩, false) by unfold getL; simp [hc])
    have HB := hideIt (here_get l k)
    rw [hc] at HC
    clear h hc
    generalize getL l k = G at *
    generalize placeL l k = P at *
    generalize hereB l k = hb at *
    cases hb with
    | false =>
      go_enter Try.func12, Try.ntmps12
      go_wp2_with fail
      refine Calls.mono (HC.out _ (Fr.refl _ _)) ?_
      rintro e w1 ⟨rfl, hF⟩
      have HF1 := hideIt hF
      clear hF
      go_wp2_with fail
      refine Calls.mono (HFI.out _ HF1.out) ?_
      rintro e w2 ⟨rfl, hF⟩
      have HF2 := hideIt (HF1.out.trans hF (fun _ _ e => e))
      clear hF
      go_wp2_with fail
      go_ret2
      exact ⟨by rw [HG.out]; rfl, HF2.out⟩
    | true =>
      obtain ⟨hp, _⟩ := HB.out.1 rfl
      have HG2 := hideIt (show G = (l[P].2, true) by rw [HG.out]; simp [List.getD, hp])
      clear HB HG
      have hp' : (P : Int) < (l.length : Int) := by omega
      go_enter Try.func12, Try.ntmps12
      go_wp2_with fail
      refine Calls.mono (HC.out _ (Fr.refl _ _)) ?_
      rintro e w1 ⟨rfl, hF⟩
      have HF1 := hideIt hF
      clear hF
      go_wp2_with fail
      refine Calls.mono (HFI.out _ HF1.out) ?_
      rintro e w2 ⟨rfl, hF⟩
      have HF2 := hideIt (HF1.out.trans hF (fun _ _ e => e))
      clear hF
      obtain ⟨b, off, rfl, hbl, c0, c1⟩ := sps_get (sats_fr0 HH.out HF2.out) P hp
      generalize l[P] = x at *
      go_wp2_with fail
      go_ret2
      exact ⟨by rw [HG2.out]; rfl, HF2.out⟩
  · have HG := hideIt (show getL l k = (⟨#[]⟩, false) by unfold getL; simp [hc])
    have hne : (chkE l != 0) = true := by simpa using hc
    clear h hc
    generalize getL l k = G at *
    generalize chkE l = c at *
    go_enter Try.func12, Try.ntmps12
    go_wp2_with fail
    refine Calls.mono (HC.out _ (Fr.refl _ _)) ?_
    rintro e w1 ⟨rfl, hF⟩
    have HF1 := hideIt hF
    clear hF
    go_wp2_with fail
    go_ret2
    exact ⟨by rw [HG.out]; rfl, HF1.out⟩

end Go.Proofs.Ytefikadaiconaaa
