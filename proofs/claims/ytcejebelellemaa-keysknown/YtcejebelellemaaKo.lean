/- KeysMet: what it leans on, and the walk. -/
import Derived.Test.YtcejebelellemaaKn
import Derived.Test.YtcejebelellemaaKk
namespace Go.Proofs.Ytcejebelellemaa
open Go.RowKit Go.IntWalk
set_option linter.unusedSimpArgs false
set_option linter.unusedVariables false

theorem amongL_rises (l : List ByteArray) (s : List Sp) : Rises (amongL l s) := setL_rises _
theorem mem_amongL (l : List ByteArray) (s : List Sp) (k : ByteArray) : k ∈ amongL l s ↔ k ∈ l ∧ hasB s k.toList = true := by
  unfold amongL
  rw [mem_setL, List.mem_filter]
theorem amongL_len (l : List ByteArray) (s : List Sp) : (amongL l s).length ≤ l.length := Nat.le_trans (setL_len _) (List.length_filter_le _ _)
theorem len_pos_iff {l : List ByteArray} : 0 < l.length ↔ ∃ k, k ∈ l := by
  rw [List.length_pos_iff]
  exact ⟨fun h => List.exists_mem_of_ne_nil l h, fun ⟨k, hk⟩ e => by rw [e] at hk; cases hk⟩

theorem meets_len (l sm : List ByteArray) (s : List Sp) : meetsB l sm s = decide (0 < (siftL l sm true).length + (amongL l s).length) := by
  rw [Bool.eq_iff_iff, decide_eq_true_eq]
  unfold meetsB
  rw [List.any_eq_true, Nat.add_pos_iff_pos_or_pos, len_pos_iff, len_pos_iff]
  constructor
  · rintro ⟨k, hk, h⟩
    unfold metB at h
    rw [Bool.or_eq_true] at h
    rcases h with h | h
    · exact Or.inl ⟨k, (mem_siftL _ _ _ _).2 ⟨hk, h⟩⟩
    · exact Or.inr ⟨k, (mem_amongL _ _ _).2 ⟨hk, h⟩⟩
  · rintro (⟨k, h⟩ | ⟨k, h⟩)
    · have := (mem_siftL _ _ _ _).1 h
      exact ⟨k, this.1, by unfold metB; rw [this.2]; rfl⟩
    · have := (mem_amongL _ _ _).1 h
      exact ⟨k, this.1, by unfold metB; rw [this.2, Bool.or_true]⟩

theorem among_in (l : List ByteArray) (s : List Sp) {k : ByteArray} (hk : k ∈ l) : inL (amongL l s) k = hasB s k.toList := by
  rw [Bool.eq_iff_iff, inL_iff, mem_amongL]
  exact ⟨fun h => h.2, fun h => ⟨hk, h⟩⟩

theorem meets_of (l sm : List ByteArray) (s : List Sp) {k : ByteArray} (hk : k ∈ l) (h : inL sm k = true ∨ hasB s k.toList = true) : meetsB l sm s = true := by
  unfold meetsB
  exact List.any_eq_true.2 ⟨k, hk, by unfold metB; rcases h with h | h <;> rw [h]; rfl; exact Bool.or_true _⟩

theorem among_both (l : List ByteArray) (s : List Sp) : siftL (amongL l s) l true = amongL l s :=
  (siftL_rises _ _ _).unique (amongL_rises l s) (fun k => by rw [mem_siftL, inL_iff]; exact ⟨fun h => h.1, fun h => ⟨h, ((mem_amongL l s k).1 h).1⟩⟩)

set_option maxRecDepth 100000 in
set_option maxHeartbeats 20000000 in
theorem met_all (ao : Option Addr) (ca : Nat) (l : List ByteArray) (so : Option Addr) (cs : Nat) (sm : List ByteArray) (bo : Option Addr) (cb : Nat) (s : List Sp) (x : Int) (w : World) (h : l = [] ∨ KsAt w ao l) (hl : l.length ≤ 9223372036854775807) (hm : sm = [] ∨ KsAt w so sm) (hml : sm.length ≤ 9223372036854775807) (hs : s = [] ∨ SpsAt w bo s) (hsl : s.length ≤ 9223372036854775807) :
    Calls Try.prog 7 #[.slice ao l.length ca, .slice so sm.length cs, .slice bo s.length cb, .int .i64 x] w fun e w' => e = .returned (.bool true) ∧ Fr (fun _ => False) w w' := by
  have HA := hideIt h
  have HB := hideIt hm
  have HS := hideIt hs
  clear h hm hs
  go_enter Try.func7, Try.ntmps7
  go_wp2_with fail
  refine Calls.mono (kawake_any _) ?_
  rintro e w1 ⟨rfl, hF1⟩
  have HF1 := hideIt hF1
  have hL1 := hideIt (klong_any ao ca l 100 w1 (kats_fr0 HA.out hF1) hl (by decide))
  have hL2 := hideIt (klong_any so cs sm 100 w1 (kats_fr0 HB.out hF1) hml (by decide))
  have hL3 := hideIt (long_any bo cb s 60 w1 (ats_fr0 HS.out hF1) hsl (by decide))
  clear hF1
  go_wp2_with fail
  refine Calls.mono hL1.out ?_
  rintro e w1' ⟨v, rfl, rfl, hv⟩
  have HV := hideIt hv
  clear hv hL1
  cases v
  case true =>
    go_wp2_with fail
    go_ret
    exact ⟨rfl, HF1.out⟩
  case false =>
  have HVA := hideIt (HV.out rfl)
  clear HV
  go_wp2_with fail
  refine Calls.mono hL2.out ?_
  rintro e w1'' ⟨v, rfl, rfl, hv⟩
  have HV2 := hideIt hv
  clear hv hL2
  cases v
  case true =>
    go_wp2_with fail
    go_ret
    exact ⟨rfl, HF1.out⟩
  case false =>
  have HVB := hideIt (HV2.out rfl)
  clear HV2
  go_wp2_with fail
  refine Calls.mono hL3.out ?_
  rintro e w1''' ⟨v, rfl, rfl, hv⟩
  have HV3 := hideIt hv
  clear hv hL3
  cases v
  case true =>
    go_wp2_with fail
    go_ret
    exact ⟨rfl, HF1.out⟩
  case false =>
  have hla : l.length ≤ 100 := HVA.out.1
  have hlb : sm.length ≤ 100 := HVB.out.1
  have hls : s.length ≤ 60 := (HV3.out rfl).1
  have HKA := hideIt (fun x hx => le_maxLen (HVA.out.2 x hx))
  have HKB := hideIt (fun x hx => le_maxLen (HVB.out.2 x hx))
  clear HVA HVB HV3
  have HIN := hideIt (fun u (hF : Fr (fun _ => False) w u) => kamong_any ao bo ca cb l s u (kats_fr0 HA.out hF) (ats_fr0 HS.out hF) (by omega) (by omega) HKA.out)
  have HME := hideIt (fun u (hF : Fr (fun _ => False) w u) => kmeets_any ao so bo ca cs cb l sm s u (kats_fr0 HA.out hF) (kats_fr0 HB.out hF) (ats_fr0 HS.out hF) (by omega) (by omega) (by omega) HKA.out HKB.out)
  have HBT := hideIt (fun u (hF : Fr (fun _ => False) w u) => kboth_any ao so ca cs l sm u (kats_fr0 HA.out hF) (kats_fr0 HB.out hF) (by omega) (by omega) HKA.out HKB.out)
  have HB2 := hideIt (fun ai ci u (hi : KsAt u ai (amongL l s)) (hF : Fr (fun _ => False) w u) => by have := kboth_any ai ao ci ca (amongL l s) l u (Or.inr hi) (kats_fr0 HA.out hF) (by have := amongL_len l s; omega) (by omega) (fun y hy => HKA.out y ((mem_amongL l s y).1 hy).1) HKA.out; rw [among_both] at this; exact this)
  have HML := hideIt (meets_len l sm s)
  have HRI := hideIt (amongL_rises l s)
  have hli := amongL_len l s
  have hlt := siftL_len l sm true
  have HAI := hideIt (fun k (hk : k ∈ l) => among_in l s hk)
  have HMO := hideIt (fun k (hk : k ∈ l) h => meets_of l sm s (k := k) hk h)
  clear HKA HKB
  generalize amongL l s = I at *
  generalize siftL l sm true = T at *
  generalize meetsB l sm s = mb at *
  go_wp2_with fail
  refine Calls.mono (HIN.out _ HF1.out) ?_
  rintro e w2 ⟨aoI, capI, rfl, hrow, hF, _⟩
  have HF2 := hideIt (HF1.out.trans hF (fun _ _ e => e))
  have KI := hideIt hrow.at
  clear hrow hF HIN
  go_wp2_with fail
  refine Calls.mono (HME.out _ HF2.out) ?_
  rintro e w3 ⟨rfl, hF⟩
  have HF3 := hideIt (HF2.out.trans hF (fun _ _ e => e))
  have KI3 := hideIt (KI.out.fr0 hF)
  clear hF KI
  go_wp2_with fail
  refine Calls.mono (HBT.out _ HF3.out) ?_
  rintro e w4 ⟨aoT, capT, rfl, hrow, hF, _⟩
  have HF4 := hideIt (HF3.out.trans hF (fun _ _ e => e))
  have KI4 := hideIt (KI3.out.fr0 hF)
  clear hrow hF KI3 HBT
  have hs1 : IntKind.i64.wrap ((T.length : Int) + (I.length : Int)) = (T.length : Int) + (I.length : Int) := i64_in _ (by omega)
  have hs2 : (mb == decide ((0 : Int) < (T.length : Int) + (I.length : Int))) = true := by
    rw [HML.out, beq_iff_eq]
    exact decide_eq_decide.2 (by omega)
  have hCk := hideIt (check_later KI4.out HRI.out (by omega) capI _ (Fr.refl _ _))
  clear HML HRI
  go_wp2_with fail
  refine Calls.mono hCk.out ?_
  rintro e w5 ⟨rfl, hF⟩
  have HF5 := hideIt (HF4.out.trans hF (fun _ _ e => e))
  have KI5 := hideIt (KI4.out.fr0 hF)
  clear hF hCk KI4 HF1 HF2 HF3 HF4 hs1
  by_cases h0 : l.length = 0
  · have h0' : ((l.length : Int) == 0) = true := by simp [h0]
    have h1' : ((I.length : Int) == 0) = true := by rw [beq_iff_eq]; omega
    clear h0
    go_wp2_with fail
    go_ret
    exact ⟨rfl, HF5.out⟩
  · have h0' : ((l.length : Int) == 0) = false := beq_eq_false_iff_ne.2 (by omega)
    have hP := hideIt (fun u => kpick_any x l.length (by omega) (by omega) u)
    clear h0
    go_wp2_with fail
    refine Calls.mono (hP.out _) ?_
    rintro e w6 ⟨⟨r, rfl, hr⟩, rfl⟩
    obtain ⟨b, off, rfl, hbl, c0⟩ := KsAt.get (kats_fr0 HA.out HF5.out) r hr
    have hr' : (r : Int) < (l.length : Int) := by omega
    have HMR := hideIt (HMO.out _ (List.getElem_mem hr))
    have hHS := hideIt (fun u (hF : Fr (fun _ => False) w u) => has_any bo cb s l[r] u (ats_fr0 HS.out hF) (by omega))
    have hHI := hideIt (fun u (hF : Fr (fun _ => False) w6 u) => has_later (Or.inr KI5.out) (by omega) l[r] _ (HAI.out _ (List.getElem_mem hr)) capI u hF)
    have hHM := hideIt (fun u (hF : Fr (fun _ => False) w u) => has_later HB.out hml l[r] _ rfl cs u hF)
    clear hP HAI HMO
    generalize l[r] = y at *
    generalize hasB s y.toList = there at *
    generalize inL sm y = q at *
    go_wp2_with fail
    refine Calls.mono (hHS.out _ HF5.out) ?_
    rintro e w7 ⟨rfl, hF⟩
    have HF7 := hideIt (HF5.out.trans hF (fun _ _ e => e))
    have HG7 := hideIt hF
    have KI7 := hideIt (KI5.out.fr0 hF)
    clear hF hHS HF5 KI5
    cases there with
    | true =>
      obtain rfl : mb = true := HMR.out (Or.inr rfl)
      clear hs2 HMR
      go_wp2_with fail
      refine Calls.mono (hHI.out _ HG7.out) ?_
      rintro e w8 ⟨rfl, rfl⟩
      go_wp2_with fail
      refine Calls.mono (HME.out _ HF7.out) ?_
      rintro e w9 ⟨rfl, hF⟩
      have HF9 := hideIt (HF7.out.trans hF (fun _ _ e => e))
      have KI9 := hideIt (KI7.out.fr0 hF)
      clear hF
      go_wp2_with fail
      refine Calls.mono (HB2.out _ capI _ KI9.out HF9.out) ?_
      rintro e w10 ⟨aoZ, capZ, rfl, hrow, hF, _⟩
      have HF10 := hideIt (HF9.out.trans hF (fun _ _ e => e))
      have KI10 := hideIt (KI9.out.fr0 hF)
      have KZ := hideIt hrow.at
      clear hF hrow
      go_wp2_with fail
      refine Calls.mono (same_later KZ.out KI10.out (by omega) capZ capI _ (Fr.refl _ _) (Fr.refl _ _)) ?_
      rintro e w11 ⟨rfl, hF⟩
      have HF11 := hideIt (HF10.out.trans hF (fun _ _ e => e))
      clear hF
      go_wp2_with fail
      go_ret
      exact ⟨rfl, HF11.out⟩
    | false =>
      clear hs2
      go_wp2_with fail
      refine Calls.mono (hHI.out _ HG7.out) ?_
      rintro e w8 ⟨rfl, rfl⟩
      go_wp2_with fail
      refine Calls.mono (hHM.out _ HF7.out) ?_
      rintro e w8' ⟨rfl, rfl⟩
      cases q with
      | true =>
        obtain rfl : mb = true := HMR.out (Or.inl rfl)
        clear HMR
        go_wp2_with fail
        refine Calls.mono (HME.out _ HF7.out) ?_
        rintro e w9 ⟨rfl, hF⟩
        have HF9 := hideIt (HF7.out.trans hF (fun _ _ e => e))
        have KI9 := hideIt (KI7.out.fr0 hF)
        clear hF
        go_wp2_with fail
        refine Calls.mono (HB2.out _ capI _ KI9.out HF9.out) ?_
        rintro e w10 ⟨aoZ, capZ, rfl, hrow, hF, _⟩
        have HF10 := hideIt (HF9.out.trans hF (fun _ _ e => e))
        have KI10 := hideIt (KI9.out.fr0 hF)
        have KZ := hideIt hrow.at
        clear hF hrow
        go_wp2_with fail
        refine Calls.mono (same_later KZ.out KI10.out (by omega) capZ capI _ (Fr.refl _ _) (Fr.refl _ _)) ?_
        rintro e w11 ⟨rfl, hF⟩
        have HF11 := hideIt (HF10.out.trans hF (fun _ _ e => e))
        clear hF
        go_wp2_with fail
        go_ret
        exact ⟨rfl, HF11.out⟩
      | false =>
        go_wp2_with fail
        refine Calls.mono (HB2.out _ capI _ KI7.out HF7.out) ?_
        rintro e w10 ⟨aoZ, capZ, rfl, hrow, hF, _⟩
        have HF10 := hideIt (HF7.out.trans hF (fun _ _ e => e))
        have KI10 := hideIt (KI7.out.fr0 hF)
        have KZ := hideIt hrow.at
        clear hF hrow
        go_wp2_with fail
        refine Calls.mono (same_later KZ.out KI10.out (by omega) capZ capI _ (Fr.refl _ _) (Fr.refl _ _)) ?_
        rintro e w11 ⟨rfl, hF⟩
        have HF11 := hideIt (HF10.out.trans hF (fun _ _ e => e))
        clear hF
        go_wp2_with fail
        go_ret
        exact ⟨rfl, HF11.out⟩

end Go.Proofs.Ytcejebelellemaa
