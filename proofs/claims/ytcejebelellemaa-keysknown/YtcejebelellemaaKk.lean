/- KeysParts: what it leans on, and the walk. -/
import Derived.Test.YtcejebelellemaaKj
import Derived.Test.YtcejebelellemaaKe
namespace Go.Proofs.Ytcejebelellemaa
open Go.RowKit Go.IntWalk
set_option linter.unusedSimpArgs false
set_option linter.unusedVariables false

theorem inL_setL (l : List ByteArray) (k : ByteArray) : inL (setL l) k = inL l k := inL_eq (mem_setL l k)
theorem inL_append (a b : List ByteArray) (k : ByteArray) : inL (a ++ b) k = (inL a k || inL b k) := by
  rw [Bool.eq_iff_iff, Bool.or_eq_true, inL_iff, inL_iff, inL_iff, List.mem_append]
theorem inL_sift (a b : List ByteArray) (v : Bool) (k : ByteArray) : inL (siftL a b v) k = (inL a k && (inL b k == v)) := by
  rw [Bool.eq_iff_iff, Bool.and_eq_true, inL_iff, inL_iff, mem_siftL, beq_iff_eq]

theorem parts_mem (a b : List ByteArray) (k : ByteArray) : k ∈ setL (a ++ b) ↔ k ∈ siftL a b false ∨ k ∈ siftL b a false ∨ k ∈ siftL a b true := by
  rw [mem_setL, List.mem_append, mem_siftL, mem_siftL, mem_siftL, ← inL_iff a k, ← inL_iff b k]
  generalize inL a k = p
  generalize inL b k = q
  revert p q
  decide

theorem parts_len (a b : List ByteArray) : (setL (a ++ b)).length = (siftL a b false).length + (siftL b a false).length + (siftL a b true).length := by
  have hp : (setL (a ++ b)).Perm (siftL a b false ++ siftL b a false ++ siftL a b true) := by
    refine (List.perm_ext_iff_of_nodup (setL_rises _).nodup ?_).2 fun k => ?_
    · refine List.nodup_append.2 ⟨List.nodup_append.2 ⟨(siftL_rises a b false).nodup, (siftL_rises b a false).nodup, ?_⟩, (siftL_rises a b true).nodup, ?_⟩
      · rintro x hx y hy rfl
        have h1 := (mem_siftL _ _ _ _).1 hx
        have h2 := (mem_siftL _ _ _ _).1 hy
        rw [(inL_iff b x).2 h2.1] at h1
        exact absurd h1.2 (by decide)
      · rintro x hx y hy rfl
        have h2 := (mem_siftL _ _ _ _).1 hy
        rcases List.mem_append.1 hx with h | h
        · have h1 := (mem_siftL _ _ _ _).1 h
          rw [h2.2] at h1
          exact absurd h1.2 (by decide)
        · have h1 := (mem_siftL _ _ _ _).1 h
          rw [(inL_iff a x).2 h2.1] at h1
          exact absurd h1.2 (by decide)
    · rw [parts_mem, List.mem_append, List.mem_append, or_assoc]
  rw [hp.length_eq, List.length_append, List.length_append]

theorem parts_again (a b : List ByteArray) : setL (setL (siftL a b false ++ siftL b a false) ++ siftL a b true) = setL (a ++ b) :=
  (setL_of (setL_rises _) (fun k => by
    rw [mem_setL, List.mem_append, mem_setL, List.mem_append, or_assoc, ← parts_mem, mem_setL])).trans rfl

theorem both_swap (a b : List ByteArray) : siftL b a true = siftL a b true :=
  (siftL_rises b a true).unique (siftL_rises a b true) (fun k => by rw [mem_siftL, mem_siftL, inL_iff, inL_iff]; exact And.comm)

theorem union_swap (a b : List ByteArray) : setL (b ++ a) = setL (a ++ b) := setL_eq (fun k => by rw [List.mem_append, List.mem_append]; exact Or.comm)

/-- Contracts, of lists that lie in a world, in every later one. -/
theorem check_later {w0 : World} {ao : Option Addr} {l : List ByteArray} (h : KsAt w0 ao l) (hr : Rises l) (hl : l.length ≤ 9223372036854775807) (cap : Nat) (u : World) (hF : Fr (fun _ => False) w0 u) :
    Calls Try.prog 21 #[.slice ao l.length cap] u fun e w' => e = .returned (.bool true) ∧ Fr (fun _ => False) u w' := by
  have := kcheck_any ao cap l u (Or.inr (h.fr0 hF)) hl
  rw [(risesB_iff l).2 hr] at this
  exact this

theorem has_later {w0 : World} {ao : Option Addr} {l : List ByteArray} (h : l = [] ∨ KsAt w0 ao l) (hl : l.length ≤ 9223372036854775807) (k : ByteArray) (v : Bool) (hv : inL l k = v) (cap : Nat) (u : World) (hF : Fr (fun _ => False) w0 u) :
    Calls Try.prog 23 #[.slice ao l.length cap, .string k] u fun e w' => e = .returned (.bool v) ∧ w' = u := by
  have := khas_any ao cap l k u (kats_fr0 h hF) hl
  rw [hv] at this
  exact this

theorem same_later {w0 w1 : World} {ao bo : Option Addr} {l : List ByteArray} (h : KsAt w0 ao l) (h' : KsAt w1 bo l) (hl : l.length ≤ 1099511627776) (ca cb : Nat) (u : World) (hF : Fr (fun _ => False) w0 u) (hF' : Fr (fun _ => False) w1 u) :
    Calls Try.prog 19 #[.slice ao l.length ca, .slice bo l.length cb] u fun e w' => e = .returned (.bool true) ∧ Fr (fun _ => False) u w' := by
  have := ksame_any ao bo ca cb l l u (Or.inr (h.fr0 hF)) (Or.inr (h'.fr0 hF')) hl hl
  rw [show decide (l = l) = true by simp] at this
  exact this

set_option maxRecDepth 100000 in
set_option maxHeartbeats 20000000 in
theorem parts_all (ao bo : Option Addr) (ca cb : Nat) (a b : List ByteArray) (k : ByteArray) (w : World) (ha : a = [] ∨ KsAt w ao a) (hb : b = [] ∨ KsAt w bo b) (hal : a.length ≤ 9223372036854775807) (hbl : b.length ≤ 9223372036854775807) :
    Calls Try.prog 5 #[.slice ao a.length ca, .slice bo b.length cb, .string k] w fun e w' => e = .returned (.bool true) ∧ Fr (fun _ => False) w w' := by
  have HA := hideIt ha
  have HB := hideIt hb
  clear ha hb
  go_enter Try.func5, Try.ntmps5
  go_wp2_with fail
  refine Calls.mono (kawake_any _) ?_
  rintro e w1 ⟨rfl, hF1⟩
  have HF1 := hideIt hF1
  have hL1 := hideIt (klong_any ao ca a 100 w1 (kats_fr0 HA.out hF1) hal (by decide))
  have hL2 := hideIt (klong_any bo cb b 100 w1 (kats_fr0 HB.out hF1) hbl (by decide))
  clear hF1
  go_wp2_with fail
  refine Calls.mono hL1.out ?_
  rintro e w1' ⟨v, rfl, rfl, hv⟩
  have HV := hideIt hv
  clear hv hL1
  cases v
  case true =>
    go_wp2_with fail
    go_ret
    exact ⟨rfl, HF1.out⟩
  case false =>
  have HVA := hideIt (HV.out rfl)
  clear HV
  go_wp2_with fail
  refine Calls.mono hL2.out ?_
  rintro e w1'' ⟨v, rfl, rfl, hv⟩
  have HV2 := hideIt hv
  clear hv hL2
  cases v
  case true =>
    go_wp2_with fail
    go_ret
    exact ⟨rfl, HF1.out⟩
  case false =>
  have HVB := hideIt (HV2.out rfl)
  clear HV2
  by_cases hk : 100 < k.size
  · have hk' : (100 : Int) < (k.size : Int) := by omega
    go_wp2_with fail
    go_ret
    exact ⟨rfl, HF1.out⟩
  · have hk' : ¬ (100 : Int) < (k.size : Int) := by omega
    have hla : a.length ≤ 100 := HVA.out.1
    have hlb : b.length ≤ 100 := HVB.out.1
    have HKA := hideIt (fun x hx => le_maxLen (HVA.out.2 x hx))
    have HKB := hideIt (fun x hx => le_maxLen (HVB.out.2 x hx))
    clear HVA HVB
    have HKU := hideIt (fun x (hx : x ∈ a ++ b) => (List.mem_append.1 hx).elim (HKA.out x) (HKB.out x))
    have HU := hideIt (kunion_any ao bo ca cb a b w1'' (kats_fr0 HA.out HF1.out) (kats_fr0 HB.out HF1.out) (by omega) HKU.out)
    have hlu := setL_len (a ++ b)
    have hlx := siftL_len a b false
    have hly := siftL_len b a false
    have hlz := siftL_len a b true
    rw [List.length_append] at hlu
    have HLN := hideIt (parts_len a b)
    have HRU := hideIt (setL_rises (a ++ b))
    have HRX := hideIt (siftL_rises a b false)
    have HRY := hideIt (siftL_rises b a false)
    have HRZ := hideIt (siftL_rises a b true)
    have HIU := hideIt (show inL (setL (a ++ b)) k = (inL a k || inL b k) by rw [inL_setL, inL_append])
    have HIX := hideIt (inL_sift a b false k)
    have HIY := hideIt (inL_sift b a false k)
    have HIZ := hideIt (inL_sift a b true k)
    have HPA := hideIt (parts_again a b)
    have HBS := hideIt (both_swap a b)
    have HUS := hideIt (union_swap a b)
    have HMX := hideIt (fun x (hx : x ∈ siftL a b false) => HKA.out x ((mem_siftL _ _ _ _).1 hx).1)
    have HMY := hideIt (fun x (hx : x ∈ siftL b a false) => HKB.out x ((mem_siftL _ _ _ _).1 hx).1)
    have HMZ := hideIt (fun x (hx : x ∈ siftL a b true) => HKA.out x ((mem_siftL _ _ _ _).1 hx).1)
    have HX := hideIt (fun u (hF : Fr (fun _ => False) w u) => kminus_any ao bo ca cb a b u (kats_fr0 HA.out hF) (kats_fr0 HB.out hF) (by omega) (by omega) HKA.out HKB.out)
    have HY := hideIt (fun u (hF : Fr (fun _ => False) w u) => kminus_any bo ao cb ca b a u (kats_fr0 HB.out hF) (kats_fr0 HA.out hF) (by omega) (by omega) HKB.out HKA.out)
    have HZ := hideIt (fun u (hF : Fr (fun _ => False) w u) => kboth_any ao bo ca cb a b u (kats_fr0 HA.out hF) (kats_fr0 HB.out hF) (by omega) (by omega) HKA.out HKB.out)
    have HZ2 := hideIt (fun u (hF : Fr (fun _ => False) w u) => by have := kboth_any bo ao cb ca b a u (kats_fr0 HB.out hF) (kats_fr0 HA.out hF) (by omega) (by omega) HKB.out HKA.out; rw [HBS.out] at this; exact this)
    have HU2 := hideIt (fun u (hF : Fr (fun _ => False) w u) => by have := kunion_any bo ao cb ca b a u (kats_fr0 HB.out hF) (kats_fr0 HA.out hF) (by omega) (fun x hx => (List.mem_append.1 hx).elim (HKB.out x) (HKA.out x)); rw [HUS.out] at this; exact this)
    clear HBS HUS HKU HKA HKB
    generalize setL (a ++ b) = U at *
    generalize siftL a b false = X at *
    generalize siftL b a false = Y at *
    generalize siftL a b true = Z at *
    go_wp2_with fail
    refine Calls.mono HU.out ?_
    rintro e w2 ⟨aoU, capU, rfl, hrow, hF, _⟩
    have HF2 := hideIt (HF1.out.trans hF (fun _ _ e => e))
    have KU := hideIt hrow.at
    clear hrow hF HU
    go_wp2_with fail
    refine Calls.mono (HX.out _ HF2.out) ?_
    rintro e w3 ⟨aoX, capX, rfl, hrow, hF, _⟩
    have HF3 := hideIt (HF2.out.trans hF (fun _ _ e => e))
    have KU3 := hideIt (KU.out.fr0 hF)
    have KX := hideIt hrow.at
    clear hrow hF HX KU
    go_wp2_with fail
    refine Calls.mono (HY.out _ HF3.out) ?_
    rintro e w4 ⟨aoY, capY, rfl, hrow, hF, _⟩
    have HF4 := hideIt (HF3.out.trans hF (fun _ _ e => e))
    have KU4 := hideIt (KU3.out.fr0 hF)
    have KX4 := hideIt (KX.out.fr0 hF)
    have KY := hideIt hrow.at
    clear hrow hF HY KX KU3
    go_wp2_with fail
    refine Calls.mono (HZ.out _ HF4.out) ?_
    rintro e w5 ⟨aoZ, capZ, rfl, hrow, hF, _⟩
    have HF5 := hideIt (HF4.out.trans hF (fun _ _ e => e))
    have KU := hideIt (KU4.out.fr0 hF)
    have KX := hideIt (KX4.out.fr0 hF)
    have KY := hideIt (KY.out.fr0 hF)
    have KZ := hideIt hrow.at
    clear hrow hF HZ KU4 KX4
    go_wp2_with fail
    refine Calls.mono (check_later KU.out HRU.out (by omega) capU _ (Fr.refl _ _)) ?_
    rintro e w6 ⟨rfl, hF⟩
    have G6 := hideIt hF
    clear hF
    go_wp2_with fail
    refine Calls.mono (check_later KX.out HRX.out (by omega) capX _ G6.out) ?_
    rintro e w7 ⟨rfl, hF⟩
    have G7 := hideIt (G6.out.trans hF (fun _ _ e => e))
    clear hF G6
    go_wp2_with fail
    refine Calls.mono (check_later KY.out HRY.out (by omega) capY _ G7.out) ?_
    rintro e w8 ⟨rfl, hF⟩
    have G8 := hideIt (G7.out.trans hF (fun _ _ e => e))
    clear hF G7
    go_wp2_with fail
    refine Calls.mono (check_later KZ.out HRZ.out (by omega) capZ _ G8.out) ?_
    rintro e w9 ⟨rfl, hF⟩
    have G9 := hideIt (G8.out.trans hF (fun _ _ e => e))
    have HF9 := hideIt (HF5.out.trans G9.out (fun _ _ e => e))
    clear hF G8 HF1 HF2 HF3 HF4
    have hs1 : IntKind.i64.wrap ((X.length : Int) + (Y.length : Int)) = (X.length : Int) + (Y.length : Int) := i64_in _ (by omega)
    have hs2 : IntKind.i64.wrap ((X.length : Int) + (Y.length : Int) + (Z.length : Int)) = (X.length : Int) + (Y.length : Int) + (Z.length : Int) := i64_in _ (by omega)
    have hs3 : ((U.length : Int) != (X.length : Int) + (Y.length : Int) + (Z.length : Int)) = false := by rw [bne_eq_false_iff_eq, HLN.out]; simp
    have HHA := hideIt (has_later HA.out hal k _ rfl ca _ HF9.out)
    have HHB := hideIt (has_later HB.out hbl k _ rfl cb _ HF9.out)
    have HHU := hideIt (has_later (Or.inr KU.out) (by omega) k _ HIU.out capU _ G9.out)
    have HHX := hideIt (has_later (Or.inr KX.out) (by omega) k _ HIX.out capX _ G9.out)
    have HHY := hideIt (has_later (Or.inr KY.out) (by omega) k _ HIY.out capY _ G9.out)
    have HHZ := hideIt (has_later (Or.inr KZ.out) (by omega) k _ HIZ.out capZ _ G9.out)
    clear HIU HIX HIY HIZ HRU HRX HRY HRZ
    generalize inL a k = p at *
    generalize inL b k = q at *
    go_wp2_with fail
    refine Calls.mono HHA.out ?_
    rintro e w10 ⟨rfl, rfl⟩
    go_wp2_with fail
    refine Calls.mono HHB.out ?_
    rintro e w11 ⟨rfl, rfl⟩
    clear HHA HHB hs1 hs2 hs3
    have HXY := hideIt (kunion_any aoX aoY capX capY X Y w11 (Or.inr (KX.out.fr0 G9.out)) (Or.inr (KY.out.fr0 G9.out)) (by omega) (fun x hx => (List.mem_append.1 hx).elim (HMX.out x) (HMY.out x)))
    have hlxy := setL_len (X ++ Y)
    rw [List.length_append] at hlxy
    have HMXY := hideIt (fun x (hx : x ∈ setL (X ++ Y)) => (List.mem_append.1 ((mem_setL _ _).1 hx)).elim (HMX.out x) (HMY.out x))
    generalize setL (X ++ Y) = XY at *
    cases p <;> cases q
    all_goals
      simp only [Bool.or_true, Bool.or_false, Bool.false_or, Bool.true_or, Bool.and_true, Bool.and_false, Bool.true_and, Bool.false_and, beq_self_eq_true, Bool.not_true, Bool.not_false] at HHU HHX HHY HHZ
      go_wp2_with fail
      refine Calls.mono HHU.out ?_
      rintro e w12 ⟨rfl, rfl⟩
      go_wp2_with fail
      refine Calls.mono HHX.out ?_
      rintro e w13 ⟨rfl, rfl⟩
      go_wp2_with fail
      refine Calls.mono HHY.out ?_
      rintro e w14 ⟨rfl, rfl⟩
      go_wp2_with fail
      refine Calls.mono HHZ.out ?_
      rintro e w15 ⟨rfl, rfl⟩
      clear HHU HHX HHY HHZ
      go_wp2_with fail
      refine Calls.mono HXY.out ?_
      rintro e w16 ⟨aoV, capV, rfl, hrow, hF, _⟩
      have G16 := hideIt (G9.out.trans hF (fun _ _ e => e))
      have KV := hideIt hrow.at
      have HV2 := hideIt (by have := kunion_any aoV aoZ capV capZ XY Z w16 (Or.inr hrow.at) (Or.inr (KZ.out.fr0 G16.out)) (by omega) (fun x hx => (List.mem_append.1 hx).elim (HMXY.out x) (HMZ.out x)); rw [HPA.out] at this; exact this)
      clear hrow hF HXY
      go_wp2_with fail
      refine Calls.mono HV2.out ?_
      rintro e w17 ⟨aoW, capW, rfl, hrow, hF, _⟩
      have G17 := hideIt (G16.out.trans hF (fun _ _ e => e))
      have KW := hideIt hrow.at
      clear hrow hF HV2 G16
      go_wp2_with fail
      refine Calls.mono (same_later KW.out KU.out (by omega) capW capU _ (Fr.refl _ _) G17.out) ?_
      rintro e w18 ⟨rfl, hF⟩
      have G18 := hideIt (G17.out.trans hF (fun _ _ e => e))
      clear hF G17
      go_wp2_with fail
      refine Calls.mono (HZ2.out _ (HF5.out.trans G18.out (fun _ _ e => e))) ?_
      rintro e w19 ⟨aoT, capT, rfl, hrow, hF, _⟩
      have G19 := hideIt (G18.out.trans hF (fun _ _ e => e))
      have KT := hideIt hrow.at
      clear hrow hF G18
      go_wp2_with fail
      refine Calls.mono (same_later KZ.out KT.out (by omega) capZ capT _ G19.out (Fr.refl _ _)) ?_
      rintro e w20 ⟨rfl, hF⟩
      have G20 := hideIt (G19.out.trans hF (fun _ _ e => e))
      clear hF G19
      go_wp2_with fail
      refine Calls.mono (HU2.out _ (HF5.out.trans G20.out (fun _ _ e => e))) ?_
      rintro e w21 ⟨aoS, capS, rfl, hrow, hF, _⟩
      have G21 := hideIt (G20.out.trans hF (fun _ _ e => e))
      have KS := hideIt hrow.at
      clear hrow hF G20
      go_wp2_with fail
      refine Calls.mono (same_later KU.out KS.out (by omega) capU capS _ G21.out (Fr.refl _ _)) ?_
      rintro e w22 ⟨rfl, hF⟩
      have G22 := hideIt (G21.out.trans hF (fun _ _ e => e))
      clear hF G21
      go_wp2_with fail
      go_ret
      exact ⟨rfl, HF5.out.trans G22.out (fun _ _ e => e)⟩

end Go.Proofs.Ytcejebelellemaa
