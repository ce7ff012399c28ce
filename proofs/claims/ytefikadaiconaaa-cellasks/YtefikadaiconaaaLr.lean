/- CellParts, walked. -/
import Derived.Test.YtefikadaiconaaaLq
import Derived.Test.YtefikadaiconaaaLl
import Derived.Deep.MidRow
namespace Go.Proofs.Ytefikadaiconaaa
open Go.RowKit Go.IntWalk
set_option linter.unusedSimpArgs false
set_option linter.unusedVariables false

theorem scan_later {w : World} {ao : Option Addr} {l : List Sp} (h : l = [] ∨ SpsAt w ao l) (cap : Nat) (hcap : l.length ≤ cap) (hl : l.length ≤ 1000000) (s : Sp) (most : Int) (R : List Sp) (hR : scanL l s most = R) (u : World) (hF : Fr (fun _ => False) w u) :
    Calls Try.prog 14 #[.slice ao l.length cap, .agg #[.string s.1, .string s.2], .int .i64 most] u (BehPost R u) := by
  rw [← hR]
  exact escan_any ao cap l s most u (sats_fr0 h hF) hcap hl

theorem sps_new1 (w : World) (x : Sp) (t : TypeId) (b : Nat) (hb : b = w.heap.size) : SpsAt (w.alloc (.cells #[.string x.1, .string x.2] t)) (some ⟨b, 0, none⟩) [x] := by
  subst hb
  refine Or.inr ⟨w.heap.size, 0, rfl, by simp, fun i hi => ?_⟩
  obtain rfl : i = 0 := by simpa using hi
  exact ⟨cellNew _ _ _ _ _ rfl, cellNew _ _ _ _ _ rfl⟩

/-- Pick's number. -/
def pickI (x : Int) (n : Nat) : Int := if x.tmod n < 0 then x.tmod n + n else x.tmod n
theorem pickI_bd (x : Int) (n : Nat) (hn : 1 ≤ n) : 0 ≤ pickI x n ∧ pickI x n < n := by
  have h1 := Int.tmod_lt_of_pos x (show (0 : Int) < n by omega)
  have h2 := Int.lt_tmod_of_pos x (show (0 : Int) < n by omega)
  unfold pickI
  split <;> omega
theorem kpick2_any (x : Int) (n : Nat) (hn : 1 ≤ n) (hb : n ≤ 1000000) (w : World) : Calls Try.prog 37 #[.int .i64 x, .int .i64 n] w fun e w' => e = .returned (.int .i64 (pickI x n)) ∧ w' = w := by
  have hn0 : ((n : Int) == 0) = false := by simp; omega
  have hn1 : ¬ (n : Int) < 1 := by omega
  have h1 := Int.tmod_lt_of_pos x (show (0 : Int) < n by omega)
  have h2 := Int.lt_tmod_of_pos x (show (0 : Int) < n by omega)
  unfold pickI
  by_cases hs : x.tmod n < 0
  · rw [if_pos hs]
    go_enter Try.func37, Try.ntmps37
    go_wp2
    go_ret
    exact ⟨rfl, rfl⟩
  · rw [if_neg hs]
    go_enter Try.func37, Try.ntmps37
    go_wp2
    go_ret
    exact ⟨rfl, rfl⟩

set_option maxRecDepth 100000 in
set_option maxHeartbeats 8000000 in
theorem parts_w (ao : Option Addr) (ca : Nat) (l : List Sp) (s : Sp) (k : ByteArray) (most : Int) (w : World) (h : l = [] ∨ SpsAt w ao l) (hcap : l.length ≤ ca) (hl : l.length ≤ 9223372036854775807) :
    Calls Try.prog 7 #[.slice ao l.length ca, .agg #[.string s.1, .string s.2], .string k, .int .i64 most] w fun e w' => e = .returned (.bool true) ∧ Fr (fun _ => False) w w' := by
  have hF0 : Fr (fun _ => False) w (w.alloc (.cells #[.string s.1, .string s.2] 24)) := (Fr.refl _ _).alloc _
  have HL := hideIt (sats_fr0 h hF0)
  have HBX := hideIt (fun w' (hF : Fr (fun _ => False) (w.alloc (.cells #[.string s.1, .string s.2] 24)) w') => (⟨hF.cell0 (cellNew w _ _ _ 0 rfl), hF.cell0 (cellNew w _ _ _ 1 rfl)⟩ : w'.cell? ⟨w.heap.size, 0, none⟩ = some (.string s.1) ∧ w'.cell? ⟨w.heap.size, 1, none⟩ = some (.string s.2)))
  have HF0 := hideIt hF0
  clear h hF0
  go_enter Try.func7, Try.ntmps7
  go_wp2_with fail
  generalize hW0 : w.alloc (.cells #[.string s.1, .string s.2] 24) = W0 at *
  clear hW0
  refine Calls.mono (eawake_any _) ?_
  rintro e w1 ⟨rfl, hF1⟩
  have HF1 := hideIt hF1
  have hP := hideIt (longp_any ao ca l 100 w1 (sats_fr0 HL.out hF1) hl (by decide))
  clear hF1
  go_wp2_with fail
  refine Calls.mono hP.out ?_
  rintro e w1' ⟨x, rfl, rfl, hbf⟩
  cases x with
  | true =>
    go_wp2_with fail
    go_ret
    exact ⟨rfl, HF0.out.trans HF1.out (fun _ _ e => e)⟩
  | false =>
    obtain ⟨hl100, _⟩ := hbf rfl
    clear hP hbf
    by_cases hk : 100 < k.size
    · have hk' : (100 : Int) < (k.size : Int) := by omega
      go_wp2_with fail
      go_ret
      exact ⟨rfl, HF0.out.trans HF1.out (fun _ _ e => e)⟩
    · have hk' : ¬ (100 : Int) < (k.size : Int) := by omega
      have hkb : k.size < 9223372036854775807 := by omega
      have hLo := hideIt (longs_any (some ⟨w1'.heap.size, 0, none⟩) 1 [s] 1 (w1'.alloc (.cells #[.string s.1, .string s.2] 24)) (Or.inr (sps_new1 w1' s 24 _ rfl)) (by simp) (by decide))
      obtain ⟨b0, b1⟩ := HBX.out w1' HF1.out
      go_wp2_with fail
      refine Calls.mono hLo.out ?_
      rintro e w2 ⟨x, rfl, hw2, _⟩
      have HF2 := hideIt (show Fr (fun _ => False) W0 w2 by rw [hw2]; exact HF1.out.alloc _)
      clear hw2 hLo b0 b1 HF1
      cases x with
      | true =>
        go_wp2_with fail
        go_ret
        exact ⟨rfl, HF0.out.trans HF2.out (fun _ _ e => e)⟩
      | false =>
        have HC := hideIt (chk_later (by omega) HL.out ca w2 HF2.out)
        by_cases hc : chkE l = 0
        · rw [hc] at HC
          go_wp2_with fail
          refine Calls.mono HC.out ?_
          rintro e w3 ⟨rfl, hF3⟩
          have HF3 := hideIt (HF2.out.trans hF3 (fun _ _ e => e))
          clear hF3 HC HF2
          have HI := hideIt (in_any s k w3)
          obtain ⟨b0, b1⟩ := HBX.out w3 HF3.out
          by_cases hki : KeyIn s k.toList
          · rw [show decide (KeyIn s k.toList) = true from decide_eq_true hki] at HI
            go_wp2_with fail
            refine Calls.mono HI.out ?_
            rintro e w4 ⟨rfl, hF4⟩
            have HF4 := hideIt (HF3.out.trans hF4 (fun _ _ e => e))
            clear hF4 HI HF3 b0 b1
            have HP := hideIt (scan_parts l s k hc hki)
            have HAM := hideIt (fun p (hp : p ∈ inS l s) => inS_mem hp)
            have HGM := hideIt (fun (p : Sp) (hp : p ∈ l) => show getL l p.1 = (p.2, true) from getL_mem hc hp)
            have HSR := hideIt (fun (r : Int) => scan_all l s r hc)
            have HSU := hideIt (fun (u : Sp) => scan_1000 l u hc hl100)
            have hA100 : (inS l s).length ≤ 100 := by have := inS_len l s; omega
            have hO100 : (inS l (uptoS s k)).length ≤ 100 := by have := inS_len l (uptoS s k); omega
            have hT100 : (inS l ((uptoS s k).2, s.2)).length ≤ 100 := by have := inS_len l ((uptoS s k).2, s.2); omega
            have hSA := hideIt (scan_later HL.out ca hcap (by omega) s 1000 _ (HSU.out s) w4 HF4.out)
            have hS2 := hideIt (fun v hF => scan_later HL.out ca hcap (by omega) (uptoS s k) 1000 _ (HSU.out _) v hF)
            have hS3 := hideIt (fun v hF => scan_later HL.out ca hcap (by omega) ((uptoS s k).2, s.2) 1000 _ (HSU.out _) v hF)
            have hSR := hideIt (fun (r : Int) v hF => scan_later HL.out ca hcap (by omega) s r _ (HSR.out r) v hF)
            have HUP := hideIt (fun v => upto_any s k hkb v)
            obtain ⟨b0, b1⟩ := HBX.out w4 HF4.out
            clear hki hc HSR HSU
            dsimp only at hS3
            generalize uptoS s k = u at *
            generalize inS l u = O at *
            generalize inS l (u.2, s.2) = Tt at *
            generalize inS l s = A at *
            go_wp2_with fail
            refine Calls.mono hSA.out ?_
            rintro e w5 ⟨a5, c5, rfl, hrow5, hF5, _⟩
            have HF5 := hideIt (HF4.out.trans hF5 (fun _ _ e => e))
            have HA5 := hideIt hrow5.at
            have hac5 : A.length ≤ c5 := RowOf.cap (enc := spL) (size := 2) hrow5
            obtain ⟨b0, b1⟩ := HBX.out w5 HF5.out
            clear hrow5 hF5 hSA HF4
            go_wp2_with fail
            refine Calls.mono (HUP.out _) ?_
            rintro e w6 ⟨rfl, hF6⟩
            have HF6 := hideIt (HF5.out.trans hF6 (fun _ _ e => e))
            have HA6 := hideIt (HA5.out.fr0 hF6)
            have HF7 := hideIt (HF6.out.alloc (.cells #[.string u.1, .string u.2] 24))
            have HA7 := hideIt (HA6.out.fr0 ((Fr.refl _ _).alloc (.cells #[.string u.1, .string u.2] 24)))
            have HU7 := hideIt (fun w' (hF : Fr (fun _ => False) (w6.alloc (.cells #[.string u.1, .string u.2] 24)) w') => (⟨hF.cell0 (cellNew w6 _ _ _ 0 rfl), hF.cell0 (cellNew w6 _ _ _ 1 rfl)⟩ : w'.cell? ⟨w6.heap.size, 0, none⟩ = some (.string u.1) ∧ w'.cell? ⟨w6.heap.size, 1, none⟩ = some (.string u.2)))
            clear hF6 HF5 HA5 HA6 HUP b0 b1
            go_wp2_with fail
            generalize w6.alloc (.cells #[.string u.1, .string u.2] 24) = W7 at *
            generalize w6.heap.size = bu at *
            have HC7 := hideIt (fun w' (hF : Fr (fun _ => False) W7 w') => show w'.cell? ⟨w.heap.size, 0, none⟩ = some (.string s.1) ∧ w'.cell? ⟨w.heap.size, 1, none⟩ = some (.string s.2) ∧ w'.cell? ⟨bu, 0, none⟩ = some (.string u.1) ∧ w'.cell? ⟨bu, 1, none⟩ = some (.string u.2) ∧ Fr (fun _ => False) W7 w' from
              ⟨(HBX.out w' (HF7.out.trans hF (fun _ _ e => e))).1, (HBX.out w' (HF7.out.trans hF (fun _ _ e => e))).2, (HU7.out w' hF).1, (HU7.out w' hF).2, hF⟩)
            refine wp_region_held_drew (S := fun w' => w'.cell? ⟨w.heap.size, 0, none⟩ = some (.string s.1) ∧ w'.cell? ⟨w.heap.size, 1, none⟩ = some (.string s.2) ∧ w'.cell? ⟨bu, 0, none⟩ = some (.string u.1) ∧ w'.cell? ⟨bu, 1, none⟩ = some (.string u.2) ∧ Fr (fun _ => False) W7 w') (by kernel_rfl) ?_ (fun hHeld => ?_)
            · exact HC7.out _ (Fr.refl _ _).drew
            refine wpAnyH_take (i := 0) (v := ?v49) rfl (by kernel_rfl) (by kernel_rfl) (by kernel_rfl) (fun _ _ _ h => h) (Or.inl ⟨by rfl, ?hy49⟩) (by assumption) ?rest49
            case hy49 => intro w hSw; (try dsimp only at hSw); go_simp; (try with_reducible rfl)
            try simp only [Act.put, List.getElem_toArray, List.getElem_cons_zero, List.getElem_cons_succ, List.setIfInBounds_toArray, List.set_cons_zero, List.set_cons_succ]
            refine wpAnyH_take (i := 1) (v := ?v50) rfl (by kernel_rfl) (by kernel_rfl) (by kernel_rfl) (fun _ _ _ h => h) (Or.inl ⟨by rfl, ?hy50⟩) (by assumption) ?rest50
            case hy50 => intro w hSw; (try dsimp only at hSw); go_simp; (try with_reducible rfl)
            try simp only [Act.put, List.getElem_toArray, List.getElem_cons_zero, List.getElem_cons_succ, List.setIfInBounds_toArray, List.set_cons_zero, List.set_cons_succ]
            refine wpAnyH_take (i := 3) (v := ?v51) rfl (by kernel_rfl) (by kernel_rfl) (by kernel_rfl) (fun _ _ _ h => h) (Or.inl ⟨by rfl, ?hy51⟩) (by assumption) ?rest51
            case hy51 => intro w hSw; (try dsimp only at hSw); go_simp; (try with_reducible rfl)
            try simp only [Act.put, List.getElem_toArray, List.getElem_cons_zero, List.getElem_cons_succ, List.setIfInBounds_toArray, List.set_cons_zero, List.set_cons_succ]
            refine wpAnyH_take (i := 4) (v := ?v52) rfl (by kernel_rfl) (by kernel_rfl) (by kernel_rfl) (fun _ _ _ h => h) (Or.inl ⟨by rfl, ?hy52⟩) (by assumption) ?rest52
            case hy52 => intro w hSw; (try dsimp only at hSw); go_simp; (try with_reducible rfl)
            try simp only [Act.put, List.getElem_toArray, List.getElem_cons_zero, List.getElem_cons_succ, List.setIfInBounds_toArray, List.set_cons_zero, List.set_cons_succ]
            refine wpAnyH_take (i := 5) (v := ?v53) rfl (by kernel_rfl) (by kernel_rfl) (by kernel_rfl) (fun _ _ _ h => h) (Or.inl ⟨by rfl, ?hy53⟩) (by assumption) ?rest53
            case hy53 => intro w hSw; (try dsimp only at hSw); go_simp; (try with_reducible rfl)
            try simp only [Act.put, List.getElem_toArray, List.getElem_cons_zero, List.getElem_cons_succ, List.setIfInBounds_toArray, List.set_cons_zero, List.set_cons_succ]
            refine wpAnyH_take (i := 6) (v := ?v54) rfl (by kernel_rfl) (by kernel_rfl) (by kernel_rfl) (fun _ _ _ h => h) (Or.inl ⟨by rfl, ?hy54⟩) (by assumption) ?rest54
            case hy54 => intro w hSw; (try dsimp only at hSw); go_simp; (try with_reducible rfl)
            try simp only [Act.put, List.getElem_toArray, List.getElem_cons_zero, List.getElem_cons_succ, List.setIfInBounds_toArray, List.set_cons_zero, List.set_cons_succ]
            refine wpAnyH_take (i := 7) (v := ?v55) rfl (by kernel_rfl) (by kernel_rfl) (by kernel_rfl) (fun _ _ _ h => h) (Or.inl ⟨by rfl, ?hy55⟩) (by assumption) ?rest55
            case hy55 => intro w hSw; (try dsimp only at hSw); go_simp; (try with_reducible rfl)
            try simp only [Act.put, List.getElem_toArray, List.getElem_cons_zero, List.getElem_cons_succ, List.setIfInBounds_toArray, List.set_cons_zero, List.set_cons_succ]
            refine wpAnyH_take (i := 8) (v := ?v56) rfl (by kernel_rfl) (by kernel_rfl) (by kernel_rfl) (fun _ _ _ h => h) (Or.inl ⟨by rfl, ?hy56⟩) (by assumption) ?rest56
            case hy56 => intro w hSw; (try dsimp only at hSw); go_simp; (try with_reducible rfl)
            try simp only [Act.put, List.getElem_toArray, List.getElem_cons_zero, List.getElem_cons_succ, List.setIfInBounds_toArray, List.set_cons_zero, List.set_cons_succ]
            refine wpAnyH_ready (rs := [2]) (by kernel_rfl) (by simp) ?_
            refine AllReadyH.cons rfl (fun K hK => ?_) AllReadyH.nil
            go_simp
            refine Calls.mono (hS2.out _ (HF7.out.trans hHeld.2.2.2.2 (fun _ _ e => e))) ?_
            rintro e w8 ⟨a8, c8, rfl, hrow8, hF8, _⟩
            have hW8 : Fr (fun _ => False) W7 w8 := hHeld.2.2.2.2.trans hF8 (fun _ _ e => e)
            refine hK.out _ _ ?_ (fun hHeld => ?_)
            · exact HC7.out _ hW8
            clear hK K
            try simp only [Act.put, List.getElem_toArray, List.getElem_cons_zero, List.getElem_cons_succ, List.setIfInBounds_toArray, List.set_cons_zero, List.set_cons_succ]
            refine wpAnyH_ready (rs := [9]) (by kernel_rfl) (by simp) ?_
            refine AllReadyH.cons rfl (fun K hK => ?_) AllReadyH.nil
            go_simp
            refine Calls.mono (hS3.out _ (HF7.out.trans hHeld.2.2.2.2 (fun _ _ e => e))) ?_
            rintro e w9 ⟨a9, c9, rfl, hrow9, hF9, _⟩
            have hW9 : Fr (fun _ => False) W7 w9 := hHeld.2.2.2.2.trans hF9 (fun _ _ e => e)
            have hO9 : SpsAt w9 a8 O := by first | exact hrow8.at.fr0 hF9 | exact hrow8.at.fr0 ((Fr.refl _ _).drew.trans hF9 (fun _ _ e => e))
            refine hK.out _ _ ?_ (fun hHeld => ?_)
            · exact HC7.out _ hW9
            clear hK K
            try simp only [Act.put, List.getElem_toArray, List.getElem_cons_zero, List.getElem_cons_succ, List.setIfInBounds_toArray, List.set_cons_zero, List.set_cons_succ]
            refine wpAnyH_take (i := 10) (v := ?v57) rfl (by kernel_rfl) (by kernel_rfl) (by kernel_rfl) (fun _ _ _ h => h) (Or.inl ⟨by rfl, ?hy57⟩) (by assumption) ?rest57
            case hy57 => intro w hSw; (try dsimp only at hSw); go_simp; (try with_reducible rfl)
            try simp only [Act.put, List.getElem_toArray, List.getElem_cons_zero, List.getElem_cons_succ, List.setIfInBounds_toArray, List.set_cons_zero, List.set_cons_succ]
            refine wpAnyH_take (i := 11) (v := ?v58) rfl (by kernel_rfl) (by kernel_rfl) (by kernel_rfl) (fun _ _ _ h => h) (Or.inl ⟨by rfl, ?hy58⟩) (by assumption) ?rest58
            case hy58 => intro w hSw; (try dsimp only at hSw); go_simp; (try with_reducible rfl)
            try simp only [Act.put, List.getElem_toArray, List.getElem_cons_zero, List.getElem_cons_succ, List.setIfInBounds_toArray, List.set_cons_zero, List.set_cons_succ]
            refine wpAnyH_done (by kernel_rfl) ?_ _
            have HF9 := hideIt hW9
            have HT9 := hideIt hrow9.at
            have hCP := hideIt (copyp_any a8 c8 O w9 (Or.inr hO9) (by omega))
            clear hHeld hrow8 hrow9 hF8 hF9 hW8 hW9 hO9 hS2 hS3
            go_wp2_with fail
            refine Calls.mono hCP.out ?_
            rintro e w10 ⟨a10, c10, rfl, hrow10, hF10, hnew10⟩
            obtain ⟨a11, c11, w11, hrun, hrow11, hF11, _⟩ := spans_append w10 a10 c10 O Tt hrow10 a9 c9 (Or.inr (HT9.out.fr0 hF10)) (by omega)
            have HF11 := hideIt (show Fr (fun _ => False) W7 w11 from HF9.out.trans (hF10.trans hF11 (fun i hi e => absurd (hnew10 i e) (by omega))) (fun _ _ e => e))
            have hSM := hideIt (by have := samep_any a11 a5 c11 c5 (O ++ Tt) A w11 (Or.inr hrow11.at) (Or.inr (HA7.out.fr0 HF11.out)) (by rw [List.length_append]; omega) (by omega); rw [List.length_append] at this; exact this)
            have HR := hideIt hrun
            clear hrun hrow10 hrow11 hF10 hF11 hnew10 hCP HT9 HF9
            go_wp2_with (first | (at_builtin; refine wpList_append_run _ rfl (.tmp 60) (.tmp 61) 22 22 rfl _ _ _ _ rfl rfl HR.out ?_))
            refine Calls.mono hSM.out ?_
            rintro e w12 ⟨rfl, hF12⟩
            have HF12 := hideIt (HF11.out.trans hF12 (fun _ _ e => e))
            have HFW := hideIt (HF7.out.trans HF12.out (fun _ _ e => e))
            have HA12 := hideIt (HA7.out.fr0 HF12.out)
            have hPK := hideIt (fun v => kpick2_any most 120 (by decide) (by decide) v)
            obtain ⟨hr0, hr1⟩ := pickI_bd most 120 (by decide)
            clear hF12 hSM HR HF11 HA7
            generalize pickI most 120 = r at *
            obtain ⟨Sm, hSm⟩ : ∃ Sm, Sm = A.take r.toNat := ⟨_, rfl⟩
            have hSR2 := hideIt (fun v hF => by have := hSR.out r v hF; rw [← hSm] at this; exact this)
            have HSM := hideIt hSm
            have hsl : Sm.length = min r.toNat A.length := by rw [hSm, List.length_take]
            have HSL := hideIt hsl
            have hs100 : Sm.length ≤ A.length := by omega
            clear hSm hsl hSR
            by_cases hz : O ++ Tt = A
            · rw [decide_eq_true hz]
              clear hz HP
              go_wp2_with fail
              have HC9 := hideIt (fun w' (hF : Fr (fun _ => False) w12 w') => show w'.cell? ⟨w.heap.size, 0, none⟩ = some (.string s.1) ∧ w'.cell? ⟨w.heap.size, 1, none⟩ = some (.string s.2) ∧ Fr (fun _ => False) w12 w' from ⟨(HBX.out w' (HFW.out.trans hF (fun _ _ e => e))).1, (HBX.out w' (HFW.out.trans hF (fun _ _ e => e))).2, hF⟩)
              refine wp_region_held_drew (S := fun w' => w'.cell? ⟨w.heap.size, 0, none⟩ = some (.string s.1) ∧ w'.cell? ⟨w.heap.size, 1, none⟩ = some (.string s.2) ∧ Fr (fun _ => False) w12 w') (by kernel_rfl) ?_ (fun hHeld => ?_)
              · exact HC9.out _ (Fr.refl _ _).drew
              refine wpAnyH_take (i := 0) (v := ?v21) rfl (by kernel_rfl) (by kernel_rfl) (by kernel_rfl) (fun _ _ _ h => h) (Or.inl ⟨by rfl, ?hy21⟩) (by assumption) ?rest21
              case hy21 => intro w hSw; (try dsimp only at hSw); go_simp; (try with_reducible rfl)
              try simp only [Act.put, List.getElem_toArray, List.getElem_cons_zero, List.getElem_cons_succ, List.setIfInBounds_toArray, List.set_cons_zero, List.set_cons_succ]
              refine wpAnyH_take (i := 1) (v := ?v22) rfl (by kernel_rfl) (by kernel_rfl) (by kernel_rfl) (fun _ _ _ h => h) (Or.inl ⟨by rfl, ?hy22⟩) (by assumption) ?rest22
              case hy22 => intro w hSw; (try dsimp only at hSw); go_simp; (try with_reducible rfl)
              try simp only [Act.put, List.getElem_toArray, List.getElem_cons_zero, List.getElem_cons_succ, List.setIfInBounds_toArray, List.set_cons_zero, List.set_cons_succ]
              refine wpAnyH_take (i := 2) (v := ?v23) rfl (by kernel_rfl) (by kernel_rfl) (by kernel_rfl) (fun _ _ _ h => h) (Or.inl ⟨by rfl, ?hy23⟩) (by assumption) ?rest23
              case hy23 => intro w hSw; (try dsimp only at hSw); go_simp; (try with_reducible rfl)
              try simp only [Act.put, List.getElem_toArray, List.getElem_cons_zero, List.getElem_cons_succ, List.setIfInBounds_toArray, List.set_cons_zero, List.set_cons_succ]
              refine wpAnyH_ready (rs := [3]) (by kernel_rfl) (by simp) ?_
              refine AllReadyH.cons rfl (fun K hK => ?_) AllReadyH.nil
              go_simp
              refine Calls.mono (hPK.out _) ?_
              rintro e w13 ⟨rfl, rfl⟩
              refine hK.out _ _ ?_ (fun hHeld => ?_)
              · exact hHeld
              clear hK K
              try simp only [Act.put, List.getElem_toArray, List.getElem_cons_zero, List.getElem_cons_succ, List.setIfInBounds_toArray, List.set_cons_zero, List.set_cons_succ]
              refine wpAnyH_ready (rs := [4]) (by kernel_rfl) (by simp) ?_
              refine AllReadyH.cons rfl (fun K hK => ?_) AllReadyH.nil
              go_simp
              refine Calls.mono (hSR2.out _ (HFW.out.trans hHeld.2.2 (fun _ _ e => e))) ?_
              rintro e w14 ⟨a14, c14, rfl, hrow14, hF14, _⟩
              have hW14 : Fr (fun _ => False) w12 w14 := hHeld.2.2.trans hF14 (fun _ _ e => e)
              refine hK.out _ _ ?_ (fun hHeld => ?_)
              · exact HC9.out _ hW14
              clear hK K
              try simp only [Act.put, List.getElem_toArray, List.getElem_cons_zero, List.getElem_cons_succ, List.setIfInBounds_toArray, List.set_cons_zero, List.set_cons_succ]
              refine wpAnyH_take (i := 5) (v := ?v24) rfl (by kernel_rfl) (by kernel_rfl) (by kernel_rfl) (fun _ _ _ h => h) (Or.inl ⟨by rfl, ?hy24⟩) (by assumption) ?rest24
              case hy24 => intro w hSw; (try dsimp only at hSw); go_simp; (try with_reducible rfl)
              try simp only [Act.put, List.getElem_toArray, List.getElem_cons_zero, List.getElem_cons_succ, List.setIfInBounds_toArray, List.set_cons_zero, List.set_cons_succ]
              refine wpAnyH_done (by kernel_rfl) ?_ _
              have HF14 := hideIt hW14
              have HS14 := hideIt hrow14.at
              have HA14 := hideIt (HA12.out.fr0 hW14)
              have HFX := hideIt (HFW.out.trans hW14 (fun _ _ e => e))
              clear hrow14 hF14 hW14 hHeld HA12 hSR2 HF12
              go_wp2_with fail
              go_loopw [15] (fun s15 wr => ∃ j : Nat, s15 = .int .i64 j ∧ j ≤ A.length ∧ Hid (Fr (fun _ => False) w14 wr)) (fun s15 _ => A.length - (intOf s15).toNat)
              case atStart => exact ⟨0, rfl, Nat.zero_le _, hideIt (Fr.refl _ _)⟩
              case round =>
                obtain ⟨j, rfl, hj, HF⟩ := hrel
                have HFR := hideIt (HFX.out.trans HF.out (fun _ _ e => e))
                by_cases hlt : j < A.length
                · obtain ⟨b6, off6, rfl, hb6, x0, x1⟩ := sps_get (Or.inr (HA14.out.fr0 HF.out)) j hlt
                  have hj' : (j : Int) < (A.length : Int) := by omega
                  obtain ⟨hpl, hpk⟩ := HAM.out _ (List.getElem_mem hlt)
                  have hG := hideIt (by have := get_later (by omega) HL.out ca A[j].1 wr HFR.out; rw [HGM.out _ hpl] at this; exact this)
                  have hIN := hideIt (fun v => by have := in_any s A[j].1 v; rw [show decide (KeyIn s A[j].1.toList) = true from decide_eq_true hpk] at this; exact this)
                  have HX := hideIt (fun w' (hF : Fr (fun _ => False) wr w') => And.intro (hF.cell0 x0) (hF.cell0 x1))
                  clear hpl hpk
                  generalize A[j] = p at *
                  go_wp2_with fail
                  refine Calls.mono hG.out ?_
                  rintro e w16 ⟨rfl, hF16⟩
                  have HF16 := hideIt (HF.out.trans hF16 (fun _ _ e => e))
                  have HFR16 := hideIt (HFR.out.trans hF16 (fun _ _ e => e))
                  have hF16' := hideIt hF16
                  have HC14 := hideIt (fun w' (hF : Fr (fun _ => False) w16 w') => show w'.cell? ⟨w.heap.size, 0, none⟩ = some (.string s.1) ∧ w'.cell? ⟨w.heap.size, 1, none⟩ = some (.string s.2) ∧ w'.cell? ⟨b6, off6 + j * 2, none⟩ = some (.string p.1) ∧ w'.cell? ⟨b6, off6 + j * 2 + 1, none⟩ = some (.string p.2) ∧ Fr (fun _ => False) w16 w' from
                    ⟨(HBX.out w' (HFR16.out.trans hF (fun _ _ e => e))).1, (HBX.out w' (HFR16.out.trans hF (fun _ _ e => e))).2, (HX.out w' (hF16'.out.trans hF (fun _ _ e => e))).1, (HX.out w' (hF16'.out.trans hF (fun _ _ e => e))).2, hF⟩)
                  clear hF16 hG HX x0 x1
                  go_wp2_with fail
                  refine wp_region_held_drew (S := fun w' => w'.cell? ⟨w.heap.size, 0, none⟩ = some (.string s.1) ∧ w'.cell? ⟨w.heap.size, 1, none⟩ = some (.string s.2) ∧ w'.cell? ⟨b6, off6 + j * 2, none⟩ = some (.string p.1) ∧ w'.cell? ⟨b6, off6 + j * 2 + 1, none⟩ = some (.string p.2) ∧ Fr (fun _ => False) w16 w') (by kernel_rfl) ?_ (fun hHeld => ?_)
                  · exact HC14.out _ (Fr.refl _ _).drew
                  refine wpAnyH_take (i := 0) (v := ?v1) rfl (by kernel_rfl) (by kernel_rfl) (by kernel_rfl) (fun _ _ _ h => h) (Or.inl ⟨by kernel_rfl, ?hy1⟩) (by assumption) ?rest1
                  case hy1 => intro w hSw; (try dsimp only at hSw); go_simp; (try with_reducible rfl)
                  try simp only [Act.put, List.getElem_toArray, List.getElem_cons_zero, List.getElem_cons_succ, List.setIfInBounds_toArray, List.set_cons_zero, List.set_cons_succ]
                  refine wpAnyH_take (i := 1) (v := ?v2) rfl (by kernel_rfl) (by kernel_rfl) (by kernel_rfl) (fun _ _ _ h => h) (Or.inl ⟨by kernel_rfl, ?hy2⟩) (by assumption) ?rest2
                  case hy2 => intro w hSw; (try dsimp only at hSw); go_simp; (try with_reducible rfl)
                  try simp only [Act.put, List.getElem_toArray, List.getElem_cons_zero, List.getElem_cons_succ, List.setIfInBounds_toArray, List.set_cons_zero, List.set_cons_succ]
                  refine wpAnyH_take (i := 2) (v := ?v3) rfl (by kernel_rfl) (by kernel_rfl) (by kernel_rfl) (fun _ _ _ h => h) (Or.inl ⟨by kernel_rfl, ?hy3⟩) (by assumption) ?rest3
                  case hy3 => intro w hSw; (try dsimp only at hSw); go_simp; (try with_reducible rfl)
                  try simp only [Act.put, List.getElem_toArray, List.getElem_cons_zero, List.getElem_cons_succ, List.setIfInBounds_toArray, List.set_cons_zero, List.set_cons_succ]
                  refine wpAnyH_take (i := 3) (v := ?v4) rfl (by kernel_rfl) (by kernel_rfl) (by kernel_rfl) (fun _ _ _ h => h) (Or.inl ⟨by kernel_rfl, ?hy4⟩) (by assumption) ?rest4
                  case hy4 => intro w hSw; (try dsimp only at hSw); go_simp; (try with_reducible rfl)
                  try simp only [Act.put, List.getElem_toArray, List.getElem_cons_zero, List.getElem_cons_succ, List.setIfInBounds_toArray, List.set_cons_zero, List.set_cons_succ]
                  refine wpAnyH_take (i := 4) (v := ?v5) rfl (by kernel_rfl) (by kernel_rfl) (by kernel_rfl) (fun _ _ _ h => h) (Or.inl ⟨by kernel_rfl, ?hy5⟩) (by assumption) ?rest5
                  case hy5 => intro w hSw; (try dsimp only at hSw); go_simp; (try with_reducible rfl)
                  try simp only [Act.put, List.getElem_toArray, List.getElem_cons_zero, List.getElem_cons_succ, List.setIfInBounds_toArray, List.set_cons_zero, List.set_cons_succ]
                  refine wpAnyH_take (i := 5) (v := ?v6) rfl (by kernel_rfl) (by kernel_rfl) (by kernel_rfl) (fun _ _ _ h => h) (Or.inl ⟨by kernel_rfl, ?hy6⟩) (by assumption) ?rest6
                  case hy6 => intro w hSw; (try dsimp only at hSw); go_simp; (try with_reducible rfl)
                  try simp only [Act.put, List.getElem_toArray, List.getElem_cons_zero, List.getElem_cons_succ, List.setIfInBounds_toArray, List.set_cons_zero, List.set_cons_succ]
                  refine wpAnyH_take (i := 6) (v := ?v7) rfl (by kernel_rfl) (by kernel_rfl) (by kernel_rfl) (fun _ _ _ h => h) (Or.inl ⟨by kernel_rfl, ?hy7⟩) (by assumption) ?rest7
                  case hy7 => intro w hSw; (try dsimp only at hSw); go_simp; (try with_reducible rfl)
                  try simp only [Act.put, List.getElem_toArray, List.getElem_cons_zero, List.getElem_cons_succ, List.setIfInBounds_toArray, List.set_cons_zero, List.set_cons_succ]
                  refine wpAnyH_take (i := 7) (v := ?v8) rfl (by kernel_rfl) (by kernel_rfl) (by kernel_rfl) (fun _ _ _ h => h) (Or.inl ⟨by kernel_rfl, ?hy8⟩) (by assumption) ?rest8
                  case hy8 => intro w hSw; (try dsimp only at hSw); go_simp; (try with_reducible rfl)
                  try simp only [Act.put, List.getElem_toArray, List.getElem_cons_zero, List.getElem_cons_succ, List.setIfInBounds_toArray, List.set_cons_zero, List.set_cons_succ]
                  refine wpAnyH_take (i := 8) (v := ?v9) rfl (by kernel_rfl) (by kernel_rfl) (by kernel_rfl) (fun _ _ _ h => h) (Or.inl ⟨by kernel_rfl, ?hy9⟩) (by assumption) ?rest9
                  case hy9 => intro w hSw; (try dsimp only at hSw); go_simp; (try with_reducible rfl)
                  try simp only [Act.put, List.getElem_toArray, List.getElem_cons_zero, List.getElem_cons_succ, List.setIfInBounds_toArray, List.set_cons_zero, List.set_cons_succ]
                  refine wpAnyH_take (i := 9) (v := ?v10) rfl (by kernel_rfl) (by kernel_rfl) (by kernel_rfl) (fun _ _ _ h => h) (Or.inl ⟨by kernel_rfl, ?hy10⟩) (by assumption) ?rest10
                  case hy10 => intro w hSw; (try dsimp only at hSw); go_simp; (try with_reducible rfl)
                  try simp only [Act.put, List.getElem_toArray, List.getElem_cons_zero, List.getElem_cons_succ, List.setIfInBounds_toArray, List.set_cons_zero, List.set_cons_succ]
                  refine wpAnyH_take (i := 10) (v := ?v11) rfl (by kernel_rfl) (by kernel_rfl) (by kernel_rfl) (fun _ _ _ h => h) (Or.inl ⟨by kernel_rfl, ?hy11⟩) (by assumption) ?rest11
                  case hy11 => intro w hSw; (try dsimp only at hSw); go_simp; (try with_reducible rfl)
                  try simp only [Act.put, List.getElem_toArray, List.getElem_cons_zero, List.getElem_cons_succ, List.setIfInBounds_toArray, List.set_cons_zero, List.set_cons_succ]
                  refine wpAnyH_take (i := 11) (v := ?v12) rfl (by kernel_rfl) (by kernel_rfl) (by kernel_rfl) (fun _ _ _ h => h) (Or.inl ⟨by kernel_rfl, ?hy12⟩) (by assumption) ?rest12
                  case hy12 => intro w hSw; (try dsimp only at hSw); go_simp; (try with_reducible rfl)
                  try simp only [Act.put, List.getElem_toArray, List.getElem_cons_zero, List.getElem_cons_succ, List.setIfInBounds_toArray, List.set_cons_zero, List.set_cons_succ]
                  refine wpAnyH_take (i := 12) (v := ?v13) rfl (by kernel_rfl) (by kernel_rfl) (by kernel_rfl) (fun _ _ _ h => h) (Or.inl ⟨by kernel_rfl, ?hy13⟩) (by assumption) ?rest13
                  case hy13 => intro w hSw; (try dsimp only at hSw); go_simp; (try with_reducible rfl)
                  try simp only [Act.put, List.getElem_toArray, List.getElem_cons_zero, List.getElem_cons_succ, List.setIfInBounds_toArray, List.set_cons_zero, List.set_cons_succ]
                  refine wpAnyH_take (i := 13) (v := ?v14) rfl (by kernel_rfl) (by kernel_rfl) (by kernel_rfl) (fun _ _ _ h => h) (Or.inl ⟨by kernel_rfl, ?hy14⟩) (by assumption) ?rest14
                  case hy14 => intro w hSw; (try dsimp only at hSw); go_simp; (try with_reducible rfl)
                  try simp only [Act.put, List.getElem_toArray, List.getElem_cons_zero, List.getElem_cons_succ, List.setIfInBounds_toArray, List.set_cons_zero, List.set_cons_succ]
                  refine wpAnyH_take (i := 14) (v := ?v15) rfl (by kernel_rfl) (by kernel_rfl) (by kernel_rfl) (fun _ _ _ h => h) (Or.inl ⟨by kernel_rfl, ?hy15⟩) (by assumption) ?rest15
                  case hy15 => intro w hSw; (try dsimp only at hSw); go_simp; (try with_reducible rfl)
                  try simp only [Act.put, List.getElem_toArray, List.getElem_cons_zero, List.getElem_cons_succ, List.setIfInBounds_toArray, List.set_cons_zero, List.set_cons_succ]
                  refine wpAnyH_take (i := 15) (v := ?v16) rfl (by kernel_rfl) (by kernel_rfl) (by kernel_rfl) (fun _ _ _ h => h) (Or.inl ⟨by kernel_rfl, ?hy16⟩) (by assumption) ?rest16
                  case hy16 => intro w hSw; (try dsimp only at hSw); go_simp; (try with_reducible rfl)
                  try simp only [Act.put, List.getElem_toArray, List.getElem_cons_zero, List.getElem_cons_succ, List.setIfInBounds_toArray, List.set_cons_zero, List.set_cons_succ]
                  refine wpAnyH_take (i := 16) (v := ?v17) rfl (by kernel_rfl) (by kernel_rfl) (by kernel_rfl) (fun _ _ _ h => h) (Or.inl ⟨by kernel_rfl, ?hy17⟩) (by assumption) ?rest17
                  case hy17 => intro w hSw; (try dsimp only at hSw); go_simp; (try with_reducible rfl)
                  try simp only [Act.put, List.getElem_toArray, List.getElem_cons_zero, List.getElem_cons_succ, List.setIfInBounds_toArray, List.set_cons_zero, List.set_cons_succ]
                  refine wpAnyH_take (i := 17) (v := ?v18) rfl (by kernel_rfl) (by kernel_rfl) (by kernel_rfl) (fun _ _ _ h => h) (Or.inl ⟨by kernel_rfl, ?hy18⟩) (by assumption) ?rest18
                  case hy18 => intro w hSw; (try dsimp only at hSw); go_simp; (try with_reducible rfl)
                  try simp only [Act.put, List.getElem_toArray, List.getElem_cons_zero, List.getElem_cons_succ, List.setIfInBounds_toArray, List.set_cons_zero, List.set_cons_succ]
                  refine wpAnyH_ready (rs := [18]) (by kernel_rfl) (by simp) ?_
                  refine AllReadyH.cons rfl (fun K hK => ?_) AllReadyH.nil
                  go_simp
                  refine Calls.mono (hIN.out _) ?_
                  rintro e w17 ⟨rfl, hF17⟩
                  have hW17 : Fr (fun _ => False) w16 w17 := hHeld.2.2.2.2.trans hF17 (fun _ _ e => e)
                  refine hK.out _ _ ?_ (fun hHeld => ?_)
                  · exact HC14.out _ hW17
                  clear hK K
                  try simp only [Act.put, List.getElem_toArray, List.getElem_cons_zero, List.getElem_cons_succ, List.setIfInBounds_toArray, List.set_cons_zero, List.set_cons_succ]
                  refine wpAnyH_take (i := 19) (v := ?v19) rfl (by kernel_rfl) (by kernel_rfl) (by kernel_rfl) (fun _ _ _ h => h) (Or.inl ⟨by kernel_rfl, ?hy19⟩) (by assumption) ?rest19
                  case hy19 => intro w hSw; (try dsimp only at hSw); go_simp; (try with_reducible rfl)
                  try simp only [Act.put, List.getElem_toArray, List.getElem_cons_zero, List.getElem_cons_succ, List.setIfInBounds_toArray, List.set_cons_zero, List.set_cons_succ]
                  refine wpAnyH_take (i := 20) (v := ?v20) rfl (by kernel_rfl) (by kernel_rfl) (by kernel_rfl) (fun _ _ _ h => h) (Or.inl ⟨by kernel_rfl, ?hy20⟩) (by assumption) ?rest20
                  case hy20 => intro w hSw; (try dsimp only at hSw); go_simp; (try with_reducible rfl)
                  try simp only [Act.put, List.getElem_toArray, List.getElem_cons_zero, List.getElem_cons_succ, List.setIfInBounds_toArray, List.set_cons_zero, List.set_cons_succ]
                  refine wpAnyH_done (by kernel_rfl) ?_ _
                  have HW17 := hideIt (HF16.out.trans hW17 (fun _ _ e => e))
                  clear hHeld hF17 hW17
                  go_wp2_with fail
                  go_roundw
                  case measure => simp [intOf]; omega
                  case rel => exact ⟨j + 1, by go_num, by omega, HW17⟩
                · obtain rfl : j = A.length := by omega
                  have hSS := hideIt (samep_any a14 a5 c14 c5 Sm (A.take Sm.length) wr (Or.inr (HS14.out.fr0 HF.out)) (Or.inr ((HA14.out.fr0 HF.out).take2 _)) (by omega) (by rw [List.length_take]; omega))
                  rw [List.length_take, Nat.min_eq_left hs100, show decide (Sm = A.take Sm.length) = true from decide_eq_true (by rw [HSL.out, HSM.out, List.take_eq_take_iff]; omega)] at hSS
                  have hmn : ((Sm.length : Int) == min (A.length : Int) r) = true := by rw [beq_iff_eq]; have := HSL.out; omega
                  have hsc : (Sm.length : Int) ≤ (c5 : Int) := by omega
                  go_wp2_with fail
                  refine Calls.mono (hPK.out _) ?_
                  rintro e w18 ⟨rfl, rfl⟩
                  go_wp2_with fail
                  refine Calls.mono hSS.out ?_
                  rintro e w19 ⟨rfl, hF19⟩
                  have HF19 := hideIt (HF0.out.trans (HFR.out.trans hF19 (fun _ _ e => e)) (fun _ _ e => e))
                  clear hF19
                  go_wp2_with fail
                  go_ret
                  exact ⟨rfl, HF19.out⟩
            · have hz2 : decide (O ++ Tt = A) = false := decide_eq_false hz
              rw [hz2]
              obtain rfl : u = s := by rcases HP.out with e | e; exact e; exact absurd e hz
              obtain ⟨b0, b1, b2, b3, _⟩ := HC7.out w12 HF12.out
              clear hz HP hz2
              go_wp2_with fail
              have HC9 := hideIt (fun w' (hF : Fr (fun _ => False) w12 w') => show w'.cell? ⟨w.heap.size, 0, none⟩ = some (.string u.1) ∧ w'.cell? ⟨w.heap.size, 1, none⟩ = some (.string u.2) ∧ Fr (fun _ => False) w12 w' from ⟨(HBX.out w' (HFW.out.trans hF (fun _ _ e => e))).1, (HBX.out w' (HFW.out.trans hF (fun _ _ e => e))).2, hF⟩)
              refine wp_region_held_drew (S := fun w' => w'.cell? ⟨w.heap.size, 0, none⟩ = some (.string u.1) ∧ w'.cell? ⟨w.heap.size, 1, none⟩ = some (.string u.2) ∧ Fr (fun _ => False) w12 w') (by kernel_rfl) ?_ (fun hHeld => ?_)
              · exact HC9.out _ (Fr.refl _ _).drew
              refine wpAnyH_take (i := 0) (v := ?v45) rfl (by kernel_rfl) (by kernel_rfl) (by kernel_rfl) (fun _ _ _ h => h) (Or.inl ⟨by rfl, ?hy45⟩) (by assumption) ?rest45
              case hy45 => intro w hSw; (try dsimp only at hSw); go_simp; (try with_reducible rfl)
              try simp only [Act.put, List.getElem_toArray, List.getElem_cons_zero, List.getElem_cons_succ, List.setIfInBounds_toArray, List.set_cons_zero, List.set_cons_succ]
              refine wpAnyH_take (i := 1) (v := ?v46) rfl (by kernel_rfl) (by kernel_rfl) (by kernel_rfl) (fun _ _ _ h => h) (Or.inl ⟨by rfl, ?hy46⟩) (by assumption) ?rest46
              case hy46 => intro w hSw; (try dsimp only at hSw); go_simp; (try with_reducible rfl)
              try simp only [Act.put, List.getElem_toArray, List.getElem_cons_zero, List.getElem_cons_succ, List.setIfInBounds_toArray, List.set_cons_zero, List.set_cons_succ]
              refine wpAnyH_take (i := 2) (v := ?v47) rfl (by kernel_rfl) (by kernel_rfl) (by kernel_rfl) (fun _ _ _ h => h) (Or.inl ⟨by rfl, ?hy47⟩) (by assumption) ?rest47
              case hy47 => intro w hSw; (try dsimp only at hSw); go_simp; (try with_reducible rfl)
              try simp only [Act.put, List.getElem_toArray, List.getElem_cons_zero, List.getElem_cons_succ, List.setIfInBounds_toArray, List.set_cons_zero, List.set_cons_succ]
              refine wpAnyH_ready (rs := [3]) (by kernel_rfl) (by simp) ?_
              refine AllReadyH.cons rfl (fun K hK => ?_) AllReadyH.nil
              go_simp
              refine Calls.mono (hPK.out _) ?_
              rintro e w13 ⟨rfl, rfl⟩
              refine hK.out _ _ ?_ (fun hHeld => ?_)
              · exact hHeld
              clear hK K
              try simp only [Act.put, List.getElem_toArray, List.getElem_cons_zero, List.getElem_cons_succ, List.setIfInBounds_toArray, List.set_cons_zero, List.set_cons_succ]
              refine wpAnyH_ready (rs := [4]) (by kernel_rfl) (by simp) ?_
              refine AllReadyH.cons rfl (fun K hK => ?_) AllReadyH.nil
              go_simp
              refine Calls.mono (hSR2.out _ (HFW.out.trans hHeld.2.2 (fun _ _ e => e))) ?_
              rintro e w14 ⟨a14, c14, rfl, hrow14, hF14, _⟩
              have hW14 : Fr (fun _ => False) w12 w14 := hHeld.2.2.trans hF14 (fun _ _ e => e)
              refine hK.out _ _ ?_ (fun hHeld => ?_)
              · exact HC9.out _ hW14
              clear hK K
              try simp only [Act.put, List.getElem_toArray, List.getElem_cons_zero, List.getElem_cons_succ, List.setIfInBounds_toArray, List.set_cons_zero, List.set_cons_succ]
              refine wpAnyH_take (i := 5) (v := ?v48) rfl (by kernel_rfl) (by kernel_rfl) (by kernel_rfl) (fun _ _ _ h => h) (Or.inl ⟨by rfl, ?hy48⟩) (by assumption) ?rest48
              case hy48 => intro w hSw; (try dsimp only at hSw); go_simp; (try with_reducible rfl)
              try simp only [Act.put, List.getElem_toArray, List.getElem_cons_zero, List.getElem_cons_succ, List.setIfInBounds_toArray, List.set_cons_zero, List.set_cons_succ]
              refine wpAnyH_done (by kernel_rfl) ?_ _
              have HF14 := hideIt hW14
              have HS14 := hideIt hrow14.at
              have HA14 := hideIt (HA12.out.fr0 hW14)
              have HFX := hideIt (HFW.out.trans hW14 (fun _ _ e => e))
              clear hrow14 hF14 hW14 hHeld HA12 hSR2 HF12
              go_wp2_with fail
              go_loopw [15] (fun s15 wr => ∃ j : Nat, s15 = .int .i64 j ∧ j ≤ A.length ∧ Hid (Fr (fun _ => False) w14 wr)) (fun s15 _ => A.length - (intOf s15).toNat)
              case atStart => exact ⟨0, rfl, Nat.zero_le _, hideIt (Fr.refl _ _)⟩
              case round =>
                obtain ⟨j, rfl, hj, HF⟩ := hrel
                have HFR := hideIt (HFX.out.trans HF.out (fun _ _ e => e))
                by_cases hlt : j < A.length
                · obtain ⟨b6, off6, rfl, hb6, x0, x1⟩ := sps_get (Or.inr (HA14.out.fr0 HF.out)) j hlt
                  have hj' : (j : Int) < (A.length : Int) := by omega
                  obtain ⟨hpl, hpk⟩ := HAM.out _ (List.getElem_mem hlt)
                  have hG := hideIt (by have := get_later (by omega) HL.out ca A[j].1 wr HFR.out; rw [HGM.out _ hpl] at this; exact this)
                  have hIN := hideIt (fun v => by have := in_any u A[j].1 v; rw [show decide (KeyIn u A[j].1.toList) = true from decide_eq_true hpk] at this; exact this)
                  have HX := hideIt (fun w' (hF : Fr (fun _ => False) wr w') => And.intro (hF.cell0 x0) (hF.cell0 x1))
                  clear hpl hpk
                  generalize A[j] = p at *
                  go_wp2_with fail
                  refine Calls.mono hG.out ?_
                  rintro e w16 ⟨rfl, hF16⟩
                  have HF16 := hideIt (HF.out.trans hF16 (fun _ _ e => e))
                  have HFR16 := hideIt (HFR.out.trans hF16 (fun _ _ e => e))
                  have hF16' := hideIt hF16
                  have HC14 := hideIt (fun w' (hF : Fr (fun _ => False) w16 w') => show w'.cell? ⟨w.heap.size, 0, none⟩ = some (.string u.1) ∧ w'.cell? ⟨w.heap.size, 1, none⟩ = some (.string u.2) ∧ w'.cell? ⟨b6, off6 + j * 2, none⟩ = some (.string p.1) ∧ w'.cell? ⟨b6, off6 + j * 2 + 1, none⟩ = some (.string p.2) ∧ Fr (fun _ => False) w16 w' from
                    ⟨(HBX.out w' (HFR16.out.trans hF (fun _ _ e => e))).1, (HBX.out w' (HFR16.out.trans hF (fun _ _ e => e))).2, (HX.out w' (hF16'.out.trans hF (fun _ _ e => e))).1, (HX.out w' (hF16'.out.trans hF (fun _ _ e => e))).2, hF⟩)
                  clear hF16 hG HX x0 x1
                  go_wp2_with fail
                  refine wp_region_held_drew (S := fun w' => w'.cell? ⟨w.heap.size, 0, none⟩ = some (.string u.1) ∧ w'.cell? ⟨w.heap.size, 1, none⟩ = some (.string u.2) ∧ w'.cell? ⟨b6, off6 + j * 2, none⟩ = some (.string p.1) ∧ w'.cell? ⟨b6, off6 + j * 2 + 1, none⟩ = some (.string p.2) ∧ Fr (fun _ => False) w16 w') (by kernel_rfl) ?_ (fun hHeld => ?_)
                  · exact HC14.out _ (Fr.refl _ _).drew
                  refine wpAnyH_take (i := 0) (v := ?v25) rfl (by kernel_rfl) (by kernel_rfl) (by kernel_rfl) (fun _ _ _ h => h) (Or.inl ⟨by kernel_rfl, ?hy25⟩) (by assumption) ?rest25
                  case hy25 => intro w hSw; (try dsimp only at hSw); go_simp; (try with_reducible rfl)
                  try simp only [Act.put, List.getElem_toArray, List.getElem_cons_zero, List.getElem_cons_succ, List.setIfInBounds_toArray, List.set_cons_zero, List.set_cons_succ]
                  refine wpAnyH_take (i := 1) (v := ?v26) rfl (by kernel_rfl) (by kernel_rfl) (by kernel_rfl) (fun _ _ _ h => h) (Or.inl ⟨by kernel_rfl, ?hy26⟩) (by assumption) ?rest26
                  case hy26 => intro w hSw; (try dsimp only at hSw); go_simp; (try with_reducible rfl)
                  try simp only [Act.put, List.getElem_toArray, List.getElem_cons_zero, List.getElem_cons_succ, List.setIfInBounds_toArray, List.set_cons_zero, List.set_cons_succ]
                  refine wpAnyH_take (i := 2) (v := ?v27) rfl (by kernel_rfl) (by kernel_rfl) (by kernel_rfl) (fun _ _ _ h => h) (Or.inl ⟨by kernel_rfl, ?hy27⟩) (by assumption) ?rest27
                  case hy27 => intro w hSw; (try dsimp only at hSw); go_simp; (try with_reducible rfl)
                  try simp only [Act.put, List.getElem_toArray, List.getElem_cons_zero, List.getElem_cons_succ, List.setIfInBounds_toArray, List.set_cons_zero, List.set_cons_succ]
                  refine wpAnyH_take (i := 3) (v := ?v28) rfl (by kernel_rfl) (by kernel_rfl) (by kernel_rfl) (fun _ _ _ h => h) (Or.inl ⟨by kernel_rfl, ?hy28⟩) (by assumption) ?rest28
                  case hy28 => intro w hSw; (try dsimp only at hSw); go_simp; (try with_reducible rfl)
                  try simp only [Act.put, List.getElem_toArray, List.getElem_cons_zero, List.getElem_cons_succ, List.setIfInBounds_toArray, List.set_cons_zero, List.set_cons_succ]
                  refine wpAnyH_take (i := 4) (v := ?v29) rfl (by kernel_rfl) (by kernel_rfl) (by kernel_rfl) (fun _ _ _ h => h) (Or.inl ⟨by kernel_rfl, ?hy29⟩) (by assumption) ?rest29
                  case hy29 => intro w hSw; (try dsimp only at hSw); go_simp; (try with_reducible rfl)
                  try simp only [Act.put, List.getElem_toArray, List.getElem_cons_zero, List.getElem_cons_succ, List.setIfInBounds_toArray, List.set_cons_zero, List.set_cons_succ]
                  refine wpAnyH_take (i := 5) (v := ?v30) rfl (by kernel_rfl) (by kernel_rfl) (by kernel_rfl) (fun _ _ _ h => h) (Or.inl ⟨by kernel_rfl, ?hy30⟩) (by assumption) ?rest30
                  case hy30 => intro w hSw; (try dsimp only at hSw); go_simp; (try with_reducible rfl)
                  try simp only [Act.put, List.getElem_toArray, List.getElem_cons_zero, List.getElem_cons_succ, List.setIfInBounds_toArray, List.set_cons_zero, List.set_cons_succ]
                  refine wpAnyH_take (i := 6) (v := ?v31) rfl (by kernel_rfl) (by kernel_rfl) (by kernel_rfl) (fun _ _ _ h => h) (Or.inl ⟨by kernel_rfl, ?hy31⟩) (by assumption) ?rest31
                  case hy31 => intro w hSw; (try dsimp only at hSw); go_simp; (try with_reducible rfl)
                  try simp only [Act.put, List.getElem_toArray, List.getElem_cons_zero, List.getElem_cons_succ, List.setIfInBounds_toArray, List.set_cons_zero, List.set_cons_succ]
                  refine wpAnyH_take (i := 7) (v := ?v32) rfl (by kernel_rfl) (by kernel_rfl) (by kernel_rfl) (fun _ _ _ h => h) (Or.inl ⟨by kernel_rfl, ?hy32⟩) (by assumption) ?rest32
                  case hy32 => intro w hSw; (try dsimp only at hSw); go_simp; (try with_reducible rfl)
                  try simp only [Act.put, List.getElem_toArray, List.getElem_cons_zero, List.getElem_cons_succ, List.setIfInBounds_toArray, List.set_cons_zero, List.set_cons_succ]
                  refine wpAnyH_take (i := 8) (v := ?v33) rfl (by kernel_rfl) (by kernel_rfl) (by kernel_rfl) (fun _ _ _ h => h) (Or.inl ⟨by kernel_rfl, ?hy33⟩) (by assumption) ?rest33
                  case hy33 => intro w hSw; (try dsimp only at hSw); go_simp; (try with_reducible rfl)
                  try simp only [Act.put, List.getElem_toArray, List.getElem_cons_zero, List.getElem_cons_succ, List.setIfInBounds_toArray, List.set_cons_zero, List.set_cons_succ]
                  refine wpAnyH_take (i := 9) (v := ?v34) rfl (by kernel_rfl) (by kernel_rfl) (by kernel_rfl) (fun _ _ _ h => h) (Or.inl ⟨by kernel_rfl, ?hy34⟩) (by assumption) ?rest34
                  case hy34 => intro w hSw; (try dsimp only at hSw); go_simp; (try with_reducible rfl)
                  try simp only [Act.put, List.getElem_toArray, List.getElem_cons_zero, List.getElem_cons_succ, List.setIfInBounds_toArray, List.set_cons_zero, List.set_cons_succ]
                  refine wpAnyH_take (i := 10) (v := ?v35) rfl (by kernel_rfl) (by kernel_rfl) (by kernel_rfl) (fun _ _ _ h => h) (Or.inl ⟨by kernel_rfl, ?hy35⟩) (by assumption) ?rest35
                  case hy35 => intro w hSw; (try dsimp only at hSw); go_simp; (try with_reducible rfl)
                  try simp only [Act.put, List.getElem_toArray, List.getElem_cons_zero, List.getElem_cons_succ, List.setIfInBounds_toArray, List.set_cons_zero, List.set_cons_succ]
                  refine wpAnyH_take (i := 11) (v := ?v36) rfl (by kernel_rfl) (by kernel_rfl) (by kernel_rfl) (fun _ _ _ h => h) (Or.inl ⟨by kernel_rfl, ?hy36⟩) (by assumption) ?rest36
                  case hy36 => intro w hSw; (try dsimp only at hSw); go_simp; (try with_reducible rfl)
                  try simp only [Act.put, List.getElem_toArray, List.getElem_cons_zero, List.getElem_cons_succ, List.setIfInBounds_toArray, List.set_cons_zero, List.set_cons_succ]
                  refine wpAnyH_take (i := 12) (v := ?v37) rfl (by kernel_rfl) (by kernel_rfl) (by kernel_rfl) (fun _ _ _ h => h) (Or.inl ⟨by kernel_rfl, ?hy37⟩) (by assumption) ?rest37
                  case hy37 => intro w hSw; (try dsimp only at hSw); go_simp; (try with_reducible rfl)
                  try simp only [Act.put, List.getElem_toArray, List.getElem_cons_zero, List.getElem_cons_succ, List.setIfInBounds_toArray, List.set_cons_zero, List.set_cons_succ]
                  refine wpAnyH_take (i := 13) (v := ?v38) rfl (by kernel_rfl) (by kernel_rfl) (by kernel_rfl) (fun _ _ _ h => h) (Or.inl ⟨by kernel_rfl, ?hy38⟩) (by assumption) ?rest38
                  case hy38 => intro w hSw; (try dsimp only at hSw); go_simp; (try with_reducible rfl)
                  try simp only [Act.put, List.getElem_toArray, List.getElem_cons_zero, List.getElem_cons_succ, List.setIfInBounds_toArray, List.set_cons_zero, List.set_cons_succ]
                  refine wpAnyH_take (i := 14) (v := ?v39) rfl (by kernel_rfl) (by kernel_rfl) (by kernel_rfl) (fun _ _ _ h => h) (Or.inl ⟨by kernel_rfl, ?hy39⟩) (by assumption) ?rest39
                  case hy39 => intro w hSw; (try dsimp only at hSw); go_simp; (try with_reducible rfl)
                  try simp only [Act.put, List.getElem_toArray, List.getElem_cons_zero, List.getElem_cons_succ, List.setIfInBounds_toArray, List.set_cons_zero, List.set_cons_succ]
                  refine wpAnyH_take (i := 15) (v := ?v40) rfl (by kernel_rfl) (by kernel_rfl) (by kernel_rfl) (fun _ _ _ h => h) (Or.inl ⟨by kernel_rfl, ?hy40⟩) (by assumption) ?rest40
                  case hy40 => intro w hSw; (try dsimp only at hSw); go_simp; (try with_reducible rfl)
                  try simp only [Act.put, List.getElem_toArray, List.getElem_cons_zero, List.getElem_cons_succ, List.setIfInBounds_toArray, List.set_cons_zero, List.set_cons_succ]
                  refine wpAnyH_take (i := 16) (v := ?v41) rfl (by kernel_rfl) (by kernel_rfl) (by kernel_rfl) (fun _ _ _ h => h) (Or.inl ⟨by kernel_rfl, ?hy41⟩) (by assumption) ?rest41
                  case hy41 => intro w hSw; (try dsimp only at hSw); go_simp; (try with_reducible rfl)
                  try simp only [Act.put, List.getElem_toArray, List.getElem_cons_zero, List.getElem_cons_succ, List.setIfInBounds_toArray, List.set_cons_zero, List.set_cons_succ]
                  refine wpAnyH_take (i := 17) (v := ?v42) rfl (by kernel_rfl) (by kernel_rfl) (by kernel_rfl) (fun _ _ _ h => h) (Or.inl ⟨by kernel_rfl, ?hy42⟩) (by assumption) ?rest42
                  case hy42 => intro w hSw; (try dsimp only at hSw); go_simp; (try with_reducible rfl)
                  try simp only [Act.put, List.getElem_toArray, List.getElem_cons_zero, List.getElem_cons_succ, List.setIfInBounds_toArray, List.set_cons_zero, List.set_cons_succ]
                  refine wpAnyH_ready (rs := [18]) (by kernel_rfl) (by simp) ?_
                  refine AllReadyH.cons rfl (fun K hK => ?_) AllReadyH.nil
                  go_simp
                  refine Calls.mono (hIN.out _) ?_
                  rintro e w17 ⟨rfl, hF17⟩
                  have hW17 : Fr (fun _ => False) w16 w17 := hHeld.2.2.2.2.trans hF17 (fun _ _ e => e)
                  refine hK.out _ _ ?_ (fun hHeld => ?_)
                  · exact HC14.out _ hW17
                  clear hK K
                  try simp only [Act.put, List.getElem_toArray, List.getElem_cons_zero, List.getElem_cons_succ, List.setIfInBounds_toArray, List.set_cons_zero, List.set_cons_succ]
                  refine wpAnyH_take (i := 19) (v := ?v43) rfl (by kernel_rfl) (by kernel_rfl) (by kernel_rfl) (fun _ _ _ h => h) (Or.inl ⟨by kernel_rfl, ?hy43⟩) (by assumption) ?rest43
                  case hy43 => intro w hSw; (try dsimp only at hSw); go_simp; (try with_reducible rfl)
                  try simp only [Act.put, List.getElem_toArray, List.getElem_cons_zero, List.getElem_cons_succ, List.setIfInBounds_toArray, List.set_cons_zero, List.set_cons_succ]
                  refine wpAnyH_take (i := 20) (v := ?v44) rfl (by kernel_rfl) (by kernel_rfl) (by kernel_rfl) (fun _ _ _ h => h) (Or.inl ⟨by kernel_rfl, ?hy44⟩) (by assumption) ?rest44
                  case hy44 => intro w hSw; (try dsimp only at hSw); go_simp; (try with_reducible rfl)
                  try simp only [Act.put, List.getElem_toArray, List.getElem_cons_zero, List.getElem_cons_succ, List.setIfInBounds_toArray, List.set_cons_zero, List.set_cons_succ]
                  refine wpAnyH_done (by kernel_rfl) ?_ _
                  have HW17 := hideIt (HF16.out.trans hW17 (fun _ _ e => e))
                  clear hHeld hF17 hW17
                  go_wp2_with fail
                  go_roundw
                  case measure => simp [intOf]; omega
                  case rel => exact ⟨j + 1, by go_num, by omega, HW17⟩
                · obtain rfl : j = A.length := by omega
                  have hSS := hideIt (samep_any a14 a5 c14 c5 Sm (A.take Sm.length) wr (Or.inr (HS14.out.fr0 HF.out)) (Or.inr ((HA14.out.fr0 HF.out).take2 _)) (by omega) (by rw [List.length_take]; omega))
                  rw [List.length_take, Nat.min_eq_left hs100, show decide (Sm = A.take Sm.length) = true from decide_eq_true (by rw [HSL.out, HSM.out, List.take_eq_take_iff]; omega)] at hSS
                  have hmn : ((Sm.length : Int) == min (A.length : Int) r) = true := by rw [beq_iff_eq]; have := HSL.out; omega
                  have hsc : (Sm.length : Int) ≤ (c5 : Int) := by omega
                  go_wp2_with fail
                  refine Calls.mono (hPK.out _) ?_
                  rintro e w18 ⟨rfl, rfl⟩
                  go_wp2_with fail
                  refine Calls.mono hSS.out ?_
                  rintro e w19 ⟨rfl, hF19⟩
                  have HF19 := hideIt (HF0.out.trans (HFR.out.trans hF19 (fun _ _ e => e)) (fun _ _ e => e))
                  clear hF19
                  go_wp2_with fail
                  go_ret
                  exact ⟨rfl, HF19.out⟩
          · rw [show decide (KeyIn s k.toList) = false from decide_eq_false hki] at HI
            go_wp2_with fail
            refine Calls.mono HI.out ?_
            rintro e w4 ⟨rfl, hF4⟩
            have HF4 := hideIt (HF3.out.trans hF4 (fun _ _ e => e))
            clear hF4
            go_wp2_with fail
            go_ret
            exact ⟨rfl, HF0.out.trans HF4.out (fun _ _ e => e)⟩
        · have hne : (chkE l != 0) = true := by simpa using hc
          clear hc
          generalize chkE l = c at *
          go_wp2_with fail
          refine Calls.mono HC.out ?_
          rintro e w3 ⟨rfl, hF3⟩
          have HF3 := hideIt (HF2.out.trans hF3 (fun _ _ e => e))
          clear hF3
          go_wp2_with fail
          go_ret
          exact ⟨rfl, HF0.out.trans HF3.out (fun _ _ e => e)⟩

end Go.Proofs.Ytefikadaiconaaa
