/- SpanSame, walked: its beginning. -/
import Derived.Test.YthancjilkkhfcaaTw
namespace Go.Proofs.Ythancjilkkhfcaa
open Go.RowKit Go.IntWalk
set_option linter.unusedSimpArgs false
set_option linter.unusedVariables false

theorem drop_at {w : World} {ao : Option Addr} {l : List Sp} {cap : Nat} (h : l = [] ∨ SpsAt w ao l) (hcap : l.length ≤ cap) (f : Nat) (hf : f ≤ l.length) : l.drop f = [] ∨ SpsAt w (if cap = f then ao else Option.map (fun x => x.add (f * 2)) ao) (l.drop f) := by
  by_cases hc : cap = f
  · exact Or.inl (List.drop_eq_nil_of_le (by omega))
  · rw [if_neg hc]
    rcases h with h | h
    · exact Or.inl (by rw [h]; simp)
    · rcases h with ⟨_, h⟩ | ⟨b, off, rfl, h2, h3⟩
      · exact Or.inl (by rw [h]; simp)
      · right
        show SpsAt w (some ((⟨b, off, none⟩ : Addr).add (f * 2))) _
        rw [Addr.add_lit]
        exact SpsAt.drop (Or.inr ⟨b, off, rfl, h2, h3⟩) f

theorem copy_drop {w : World} {ao : Option Addr} {l : List Sp} {cap : Nat} (h : l = [] ∨ SpsAt w ao l) (hcap : l.length ≤ cap) (f : Nat) (hf : f ≤ l.length) (hl : l.length ≤ 60) :
    Calls Try.prog 21 #[.slice (if cap = f then ao else Option.map (fun x => x.add (f * 2)) ao) (l.length - f) (cap - f)] w fun e w' => ∃ ao' cap', e = .returned (.slice ao' (l.length - f) cap') ∧ SpRow w' ao' cap' (l.drop f) ∧ Fr (fun _ => False) w w' ∧ ∀ k, blk ao' k → w.heap.size ≤ k := by
  have := copy_any (if cap = f then ao else Option.map (fun x => x.add (f * 2)) ao) (cap - f) (l.drop f) w (drop_at h hcap f hf) (by rw [List.length_drop]; omega)
  rw [List.length_drop] at this
  exact this

theorem turn_append {w : World} {ao : Option Addr} {l : List Sp} {cap f : Nat} (h : l = [] ∨ SpsAt w ao l) (hf : f ≤ l.length) (hl : l.length ≤ 60) {a3 : Option Addr} {c3 : Nat} (hrow : SpRow w a3 c3 (l.drop f)) :
    ∃ ao' cap' w', (Builtin.append_ #[25, 25] 25 #[.slice a3 (l.length - f) c3, .slice ao f cap]).run Try.prog w = .ok (.slice ao' (l.drop f ++ l.take f).length cap') w' ∧ SpRow w' ao' cap' (l.drop f ++ l.take f) ∧ Fr (blk a3) w w' := by
  have ht : l.take f = [] ∨ SpsAt w ao (l.take f) := by
    rcases h with h | h
    · exact Or.inl (by rw [h]; simp)
    · exact Or.inr (h.take f)
  obtain ⟨ao', cap', w', h1, h2, h3, _⟩ := spans_append w a3 c3 (l.drop f) (l.take f) hrow ao cap ht (by rw [List.length_drop, List.length_take]; omega)
  rw [← List.length_append, List.length_drop, List.length_take, Nat.min_eq_left hf] at h1
  exact ⟨ao', cap', w', h1, h2, h3⟩

/-- A region's end: which temporaries it leaves, whatever the order. -/
def ViaV (F : (Nat → Value) → Act) (R : (Nat → Value) → World → Prop) : Exit → Act → World → Prop
  | .normal, a', w' => ∃ v, a' = F v ∧ R v w'
  | _, _, _ => False

theorem wp_viaV {P : Program} {c : Code} {Q : Exit → Act → World → Prop} {a : Act} {w : World} (F : Act → (Nat → Value) → Act) (R : (Nat → Value) → World → Prop) (h1 : c.wp P (ViaV (F a) R) a w) (h2 : ∀ v w', R v w' → Q .normal (F a v) w') : c.wp P Q a w :=
  Code.wp_mono (fun e a' w' h => by
    cases e <;> first | exact (h : False).elim | (obtain ⟨v, rfl, hr⟩ := h; exact h2 v w' hr)) h1

theorem viaV_leaf63 {F : (Nat → Value) → Act} {R : (Nat → Value) → World → Prop} {a' : Act} {w' : World} (h : a' = F (fun i => a'.tmps.getD (63 + i) undef)) (hr : R (fun i => a'.tmps.getD (63 + i) undef) w') : ViaV F R .normal a' w' := ⟨_, h, hr⟩

set_option maxRecDepth 100000 in
set_option maxHeartbeats 20000000 in
theorem same_all (ao : Option Addr) (cap : Nat) (l : List Sp) (k : ByteArray) (x : Int) (w : World) (h : l = [] ∨ SpsAt w ao l) (hcap : l.length ≤ cap) (hl : l.length ≤ 9223372036854775807) :
    Calls Try.prog 6 #[.slice ao l.length cap, .string k, .int .i64 x] w fun e w' => e = .returned (.bool true) ∧ Fr (fun _ => False) w w' := by
  have HH := hideIt h
  clear h
  go_enter Try.func6, Try.ntmps6
  go_wp2_with fail
  refine Calls.mono (awake_any _) ?_
  rintro e w1 ⟨rfl, hF1⟩
  have HF1 := hideIt hF1
  have hLo := hideIt (long_any ao cap l 60 w1 (ats_fr0 HH.out hF1) hl (by decide))
  clear hF1
  go_wp2_with fail
  refine Calls.mono hLo.out ?_
  rintro e w1' ⟨v, rfl, rfl, hv⟩
  have HV := hideIt hv
  clear hv
  cases v
  case true =>
    go_wp2_with fail
    go_ret
    exact ⟨rfl, HF1.out⟩
  case false =>
    by_cases hk : 100 < k.size
    · have hk' : (100 : Int) < (k.size : Int) := by omega
      go_wp2_with fail
      go_ret
      exact ⟨rfl, HF1.out⟩
    · have hk' : ¬ (100 : Int) < (k.size : Int) := by omega
      have hl60 : l.length ≤ 60 := (HV.out rfl).1
      have hJ := hideIt (join_any ao cap l w1' (ats_fr0 HH.out HF1.out) (by omega))
      clear HV hLo
      go_wp2_with fail
      refine Calls.mono hJ.out ?_
      rintro e w2 ⟨aoJ, capJ, rfl, hrowJ, hF2, hnJ⟩
      have HF2 := hideIt (HF1.out.trans hF2 (fun _ _ e => e))
      have HROWJ := hideIt hrowJ
      have HNJ := hideIt (fun k (hk : blk aoJ k) => Nat.le_trans HF1.out.size (hnJ k hk))
      clear hF2 hrowJ hnJ hJ
      have hP := hideIt (fun w => pick_any x (l.length + 1) (by omega) (by omega) w)
      go_wp2_with fail
      refine Calls.mono (hP.out _) ?_
      rintro e w2' ⟨⟨f, rfl, hf⟩, rfl⟩
      have hf1 : (0 : Int) ≤ (f : Int) := by omega
      have hf2 : (f : Int) ≤ (l.length : Int) := by omega
      have hf3 : (f : Int) ≤ (cap : Int) := by omega
      have hfl : f ≤ l.length := by omega
      have HCP := hideIt (fun w' (hF : Fr (fun _ => False) w w') => copy_drop (ats_fr0 HH.out hF) hcap f hfl hl60)
      go_wp2_with fail
      refine wp_region_held_drew (S := fun _ => True) (by kernel_rfl) trivial (fun hHeld => ?_)
      refine wpAnyH_take (i := 0) (v := ?v1) rfl (by kernel_rfl) (by kernel_rfl) (by kernel_rfl) (fun _ _ _ h => h) (Or.inl ⟨by rfl, ?hy1⟩) (by assumption) ?rest1
      case hy1 => intro w hSw; (try dsimp only at hSw); go_simp; (try with_reducible rfl)
      try simp only [Act.put, List.setIfInBounds_toArray, List.set_cons_zero, List.set_cons_succ]
      refine wpAnyH_take (i := 1) (v := ?v2) rfl (by kernel_rfl) (by kernel_rfl) (by kernel_rfl) (fun _ _ _ h => h) (Or.inl ⟨by rfl, ?hy2⟩) (by assumption) ?rest2
      case hy2 => intro w hSw; (try dsimp only at hSw); go_simp; (try with_reducible rfl)
      try simp only [Act.put, List.setIfInBounds_toArray, List.set_cons_zero, List.set_cons_succ]
      refine wpAnyH_take (i := 2) (v := ?v3) rfl (by kernel_rfl) (by kernel_rfl) (by kernel_rfl) (fun _ _ _ h => h) (Or.inl ⟨by rfl, ?hy3⟩) (by assumption) ?rest3
      case hy3 => intro w hSw; (try dsimp only at hSw); go_simp; (try with_reducible rfl)
      try simp only [Act.put, List.setIfInBounds_toArray, List.set_cons_zero, List.set_cons_succ]
      refine wpAnyH_take (i := 4) (v := ?v4) rfl (by kernel_rfl) (by kernel_rfl) (by kernel_rfl) (fun _ _ _ h => h) (Or.inl ⟨by rfl, ?hy4⟩) (by assumption) ?rest4
      case hy4 => intro w hSw; (try dsimp only at hSw); go_simp; (try with_reducible rfl)
      try simp only [Act.put, List.setIfInBounds_toArray, List.set_cons_zero, List.set_cons_succ]
      refine wpAnyH_take (i := 5) (v := ?v5) rfl (by kernel_rfl) (by kernel_rfl) (by kernel_rfl) (fun _ _ _ h => h) (Or.inl ⟨by rfl, ?hy5⟩) (by assumption) ?rest5
      case hy5 => intro w hSw; (try dsimp only at hSw); go_simp; (try with_reducible rfl)
      try simp only [Act.put, List.setIfInBounds_toArray, List.set_cons_zero, List.set_cons_succ]
      refine wpAnyH_take (i := 6) (v := ?v6) rfl (by kernel_rfl) (by kernel_rfl) (by kernel_rfl) (fun _ _ _ h => h) (Or.inl ⟨by rfl, ?hy6⟩) (by assumption) ?rest6
      case hy6 => intro w hSw; (try dsimp only at hSw); go_simp; (try with_reducible rfl)
      try simp only [Act.put, List.setIfInBounds_toArray, List.set_cons_zero, List.set_cons_succ]
      refine wpAnyH_ready (rs := [3]) (by kernel_rfl) (by simp) ?_
      refine AllReadyH.cons rfl (fun K hK => ?_) AllReadyH.nil
      go_simp
      generalize (if cap = f then ao else Option.map (fun x => x.add (f * 2)) ao) = aoS at *
      refine Calls.mono (HCP.out _ (HF2.out.drew)) ?_
      rintro e w3 ⟨ao3, cap3, rfl, hrow3, hF3, hn3⟩
      have hF3w := HF2.out.drew.trans hF3 (fun _ _ e => e)
      obtain ⟨ao4, cap4, w4, hrun, hrow4, hF4⟩ := turn_append (cap := cap) (ats_fr0 HH.out hF3w) hfl hl60 hrow3
      have HR := hideIt hrun
      have HF4 := hideIt (hF3w.trans hF4 (fun i hi e => by have h1 := hn3 i e; have h2 : w2'.heap.size ≤ i := h1; have h3 := HF2.out.size; omega))
      have HF24 := hideIt (show Fr (fun _ => False) w2' w4 from ((Fr.refl (fun _ => False) w2').drew.trans hF3 (fun _ _ e => e)).trans hF4 (fun i hi e => by have h1 : w2'.heap.size ≤ i := hn3 i e; omega))
      have HROW4 := hideIt hrow4
      have HTL := hideIt (show (l.drop f ++ l.take f).length ≤ 60 by rw [List.length_append, List.length_drop, List.length_take]; omega)
      have HTJ := hideIt (turned_same l f)
      clear hrun hrow4 hF4 hF3w hrow3 hF3 hn3
      generalize l.drop f ++ l.take f = tn at *
      refine hK.out _ _ ?_ (fun hHeld => ?_)
      · trivial
      clear hK K
      try simp only [Act.put, List.setIfInBounds_toArray, List.set_cons_zero, List.set_cons_succ]
      refine wpAnyH_ready (rs := [7]) (by kernel_rfl) (by simp) ?_
      refine AllReadyH.cons rfl (fun K hK => ?_) AllReadyH.nil
      refine step_append_run rfl (.tmp 31) (.tmp 34) 25 25 rfl _ _ _ _ rfl rfl HR.out ?_
      refine hK.out _ _ ?_ (fun hHeld => ?_)
      · trivial
      clear hK K
      try simp only [Act.put, List.setIfInBounds_toArray, List.set_cons_zero, List.set_cons_succ]
      refine wpAnyH_take (i := 8) (v := ?v7) rfl (by kernel_rfl) (by kernel_rfl) (by kernel_rfl) (fun _ _ _ h => h) (Or.inl ⟨by rfl, ?hy7⟩) (by assumption) ?rest7
      case hy7 => intro w hSw; (try dsimp only at hSw); go_simp; (try with_reducible rfl)
      try simp only [Act.put, List.setIfInBounds_toArray, List.set_cons_zero, List.set_cons_succ]
      refine wpAnyH_done (by kernel_rfl) ?_ _
      have HJL := hideIt (Nat.le_trans (joinC_len l) hl60)
      have HK := hideIt (show hasB (joinC l) k.toList = hasB l k.toList from hasB_eq (joinC_keys l k.toList))
      have hHJ := hideIt (fun w' (hF : Fr (fun _ => False) w2' w') => by have := has_any aoJ capJ (joinC l) k w' (Or.inr (HROWJ.out.at.fr0 hF)) (by have := HJL.out; omega); rw [HK.out] at this; exact this)
      have hHl := hideIt (fun w' (hF : Fr (fun _ => False) w w') => has_any ao cap l k w' (ats_fr0 HH.out hF) hl)
      have hJJ := hideIt (fun w' (hF : Fr (fun _ => False) w2' w') => by have := join_any aoJ capJ (joinC l) w' (Or.inr (HROWJ.out.at.fr0 hF)) (by have := HJL.out; omega); rw [joinC_own] at this; exact this)
      have hJT := hideIt (fun w' (hF : Fr (fun _ => False) w4 w') => by have := join_any ao4 cap4 tn w' (Or.inr (HROW4.out.at.fr0 hF)) (by have := HTL.out; omega); rw [HTJ.out] at this; exact this)
      have hSm := hideIt (fun a c w' (hF : Fr (fun _ => False) w2' w') (hr : SpRow w' a c (joinC l)) => by have := sames_any a aoJ c capJ (joinC l) (joinC l) w' (Or.inr hr.at) (Or.inr (HROWJ.out.at.fr0 hF)) (by have := HJL.out; omega) (by have := HJL.out; omega); rw [decide_eq_true rfl] at this; exact this)
      generalize hasB l k.toList = vk at *
      clear hHeld
      go_wp2_with fail
      refine Calls.mono (hHJ.out _ HF24.out) ?_
      rintro e w5 ⟨rfl, hF5⟩
      go_wp2_with fail
      refine Calls.mono (hHl.out _ (HF4.out.trans hF5 (fun _ _ e => e))) ?_
      rintro e w6 ⟨rfl, hF6⟩
      have hF46 := hF5.trans hF6 (fun _ _ e => e)
      have hvk : (vk != vk) = false := by simp
      go_wp2_with fail
      refine Calls.mono (hJJ.out _ (HF24.out.trans hF46 (fun _ _ e => e))) ?_
      rintro e w7 ⟨ao7, cap7, rfl, hrow7, hF7, _⟩
      have hF47 := hF46.trans hF7 (fun _ _ e => e)
      go_wp2_with fail
      refine Calls.mono (hSm.out ao7 cap7 _ (HF24.out.trans hF47 (fun _ _ e => e)) hrow7) ?_
      rintro e w8 ⟨rfl, hF8⟩
      have hF48 := hF47.trans hF8 (fun _ _ e => e)
      go_wp2_with fail
      refine Calls.mono (hJT.out _ hF48) ?_
      rintro e w9 ⟨ao9, cap9, rfl, hrow9, hF9, _⟩
      have hF49 := hF48.trans hF9 (fun _ _ e => e)
      go_wp2_with fail
      refine Calls.mono (hSm.out ao9 cap9 _ (HF24.out.trans hF49 (fun _ _ e => e)) hrow9) ?_
      rintro e wa ⟨rfl, hFa⟩
      have HFa := hideIt (HF4.out.trans (hF49.trans hFa (fun _ _ e => e)) (fun _ _ e => e))
      have HFJ := hideIt (HF24.out.trans (hF49.trans hFa (fun _ _ e => e)) (fun _ _ e => e))
      clear hF5 hF6 hF46 hF7 hF47 hF8 hF48 hF9 hF49 hFa hrow7 hrow9 hSm hJT hJJ hHl hHJ HR
      have HCJ := hideIt (fun w' (hF : Fr (fun _ => False) w2' w') (y : Sp) (hy : y ∈ l) => by have := covers_any aoJ capJ (joinC l) y w' (Or.inr (HROWJ.out.at.fr0 hF)) (by have := HJL.out; omega) (by rw [joinC_own]; have := HJL.out; omega); rw [joinC_own, cov_each l hy] at this; exact this)
      have HCL := hideIt (fun w' (hF : Fr (fun _ => False) w w') (y : Sp) (hy : y ∈ l) => by have := covers_any ao cap l y w' (ats_fr0 HH.out hF) (by omega) (by have := HJL.out; omega); rw [cov_each l hy] at this; exact this)
      have HHJ := hideIt (fun w' (hF : Fr (fun _ => False) w2' w') (y : Sp) (hy : y ∈ l) (hn : NonE y) => by have := has_any aoJ capJ (joinC l) y.1 w' (Or.inr (HROWJ.out.at.fr0 hF)) (by have := HJL.out; omega); rw [show hasB (joinC l) y.1.toList = true from has_each l hy hn] at this; exact this)
      have HHG := hideIt (fun w' (hF : Fr (fun _ => False) w w') (y : Sp) (hy : y ∈ joinC l) (hn : hi y ≠ []) => by have := has_any ao cap l y.2 w' (ats_fr0 HH.out hF) hl; rw [show hasB l y.2.toList = false from gap_none l hy hn] at this; exact this)
      have HJD := hideIt (joinC_jd l)
      have HRJ := hideIt (HROWJ.out.at.fr0 HFJ.out)
      clear HROWJ HTJ HK HROW4 HTL
      generalize joinC l = J at *
      go_wp2_with fail
      go_loopw [10] (fun i wr => ∃ m : Nat, i = .int .i64 m ∧ m ≤ J.length ∧ Fr (fun _ => False) wa wr) (fun i _ => J.length - (intOf i).toNat)
      case atStart => exact ⟨0, rfl, Nat.zero_le _, Fr.refl _ _⟩
      case round =>
        obtain ⟨m, rfl, hm, hF⟩ := hrel
        have HFR := hideIt hF
        clear hF
        have hJl := HJL.out
        by_cases hlt : m < J.length
        · cases m with
          | zero =>
            have HMY := hideIt (List.getElem_mem hlt)
            obtain ⟨b, off, rfl, hbl, c0, c1⟩ := SpsAt.get (Or.inr (HRJ.out.fr0 HFR.out)) 0 hlt
            have HS := hideIt (show ∀ w' : World, Fr (fun _ => False) wr w' → w'.cell? ⟨b, off, none⟩ = some (.string J[0].1) ∧ w'.cell? ⟨b, off + 1, none⟩ = some (.string J[0].2) ∧ Fr (fun _ => False) wr w' from fun w' h => ⟨h.cell0 (by simpa using c0), h.cell0 (by simpa using c1), h⟩)
            clear c0 c1
            generalize J[0] = y at *
            have hE := hideIt (fun w => by have := empty_any y w; rw [show decide (¬ NonE y) = false from decide_eq_false (fun e => e (HJD.out.all HMY.out))] at this; exact this)
            obtain ⟨d0, d1, -⟩ := HS.out wr (Fr.refl _ _)
            go_wp2_with fail
            refine wp_viaV (fun a v => { a with tmps := (a.tmps.toList.take 63 ++ [v 0, v 1, v 2, v 3, v 4, v 5, v 6, v 7, v 8, v 9, v 10, v 11, v 12, v 13, v 14, v 15, v 16, v 17, v 18, v 19, v 20, v 21, v 22, v 23, v 24, v 25, v 26, v 27, v 28, v 29, v 30, v 31, v 32, v 33, v 34, v 35, v 36, v 37, v 38, v 39, v 40, v 41] ++ a.tmps.toList.drop 105).toArray }) (fun v w' => v 41 = .bool false ∧ Fr (fun _ => False) wr w') ?_ ?_
            · refine wp_region_held_drew (S := fun w' => w'.cell? ⟨b, off, none⟩ = some (.string y.1) ∧ w'.cell? ⟨b, off + 1, none⟩ = some (.string y.2) ∧ Fr (fun _ => False) wr w') (by kernel_rfl) ?_ (fun hHeld => ?_)
              · exact HS.out _ (Fr.refl _ _).drew
              refine wpAnyH_take (i := 0) (v := ?v101) rfl (by kernel_rfl) (by kernel_rfl) (by kernel_rfl) (fun _ _ _ h => h) (Or.inl ⟨by kernel_rfl, ?hy101⟩) (by assumption) ?rest101
              case hy101 => intro w hSw; (try dsimp only at hSw); go_simp; (try with_reducible rfl)
              try simp only [Act.put, List.setIfInBounds_toArray, List.set_cons_zero, List.set_cons_succ]
              refine wpAnyH_take (i := 1) (v := ?v102) rfl (by kernel_rfl) (by kernel_rfl) (by kernel_rfl) (fun _ _ _ h => h) (Or.inl ⟨by kernel_rfl, ?hy102⟩) (by assumption) ?rest102
              case hy102 => intro w hSw; (try dsimp only at hSw); go_simp; (try with_reducible rfl)
              try simp only [Act.put, List.setIfInBounds_toArray, List.set_cons_zero, List.set_cons_succ]
              refine wpAnyH_take (i := 2) (v := ?v103) rfl (by kernel_rfl) (by kernel_rfl) (by kernel_rfl) (fun _ _ _ h => h) (Or.inl ⟨by kernel_rfl, ?hy103⟩) (by assumption) ?rest103
              case hy103 => intro w hSw; (try dsimp only at hSw); go_simp; (try with_reducible rfl)
              try simp only [Act.put, List.setIfInBounds_toArray, List.set_cons_zero, List.set_cons_succ]
              refine wpAnyH_take (i := 3) (v := ?v104) rfl (by kernel_rfl) (by kernel_rfl) (by kernel_rfl) (fun _ _ _ h => h) (Or.inl ⟨by kernel_rfl, ?hy104⟩) (by assumption) ?rest104
              case hy104 => intro w hSw; (try dsimp only at hSw); go_simp; (try with_reducible rfl)
              try simp only [Act.put, List.setIfInBounds_toArray, List.set_cons_zero, List.set_cons_succ]
              refine wpAnyH_ready (rs := [4]) (by kernel_rfl) (by simp) ?_
              refine AllReadyH.cons rfl (fun K hK => ?_) AllReadyH.nil
              go_simp
              refine Calls.mono (hE.out _) ?_
              rintro e w21 ⟨rfl, hX21⟩
              have hW21 : Fr (fun _ => False) wr w21 := hHeld.2.2.trans hX21 (fun _ _ e => e)
              clear hX21
              refine hK.out _ _ ?_ (fun hHeld => ?_)
              · exact HS.out _ hW21
              clear hK K
              try simp only [Act.put, List.setIfInBounds_toArray, List.set_cons_zero, List.set_cons_succ]
              refine wpAnyH_take (i := 5) (v := ?v105) rfl (by kernel_rfl) (by kernel_rfl) (by kernel_rfl) (fun _ _ _ h => h) (Or.inl ⟨by kernel_rfl, ?hy105⟩) (by assumption) ?rest105
              case hy105 => intro w hSw; (try dsimp only at hSw); go_simp; (try with_reducible rfl)
              try simp only [Act.put, List.setIfInBounds_toArray, List.set_cons_zero, List.set_cons_succ]
              refine wpAnyH_take (i := 6) (v := ?v106) rfl (by kernel_rfl) (by kernel_rfl) (by kernel_rfl) (fun _ _ _ h => h) (Or.inl ⟨by kernel_rfl, ?hy106⟩) (by assumption) ?rest106
              case hy106 => intro w hSw; (try dsimp only at hSw); go_simp; (try with_reducible rfl)
              try simp only [Act.put, List.setIfInBounds_toArray, List.set_cons_zero, List.set_cons_succ]
              refine wpAnyH_take (i := 7) (v := ?v107) rfl (by kernel_rfl) (by kernel_rfl) (by kernel_rfl) (fun _ _ _ h => h) (Or.inl ⟨by kernel_rfl, ?hy107⟩) (by assumption) ?rest107
              case hy107 => intro w hSw; (try dsimp only at hSw); go_simp; (try with_reducible rfl)
              try simp only [Act.put, List.setIfInBounds_toArray, List.set_cons_zero, List.set_cons_succ]
              refine wpAnyH_take (i := 8) (v := ?v108) rfl (by kernel_rfl) (by kernel_rfl) (by kernel_rfl) (fun _ _ _ h => h) (Or.inl ⟨by kernel_rfl, ?hy108⟩) (by assumption) ?rest108
              case hy108 => intro w hSw; (try dsimp only at hSw); go_simp; (try with_reducible rfl)
              try simp only [Act.put, List.setIfInBounds_toArray, List.set_cons_zero, List.set_cons_succ]
              refine wpAnyH_take (i := 9) (v := undef) rfl (by kernel_rfl) (by kernel_rfl) (by kernel_rfl) (fun _ _ _ h => h) (Or.inr ⟨by kernel_rfl, rfl⟩) (by assumption) ?_
              try simp only [Act.put, List.setIfInBounds_toArray, List.set_cons_zero, List.set_cons_succ]
              refine wpAnyH_take (i := 10) (v := undef) rfl (by kernel_rfl) (by kernel_rfl) (by kernel_rfl) (fun _ _ _ h => h) (Or.inr ⟨by kernel_rfl, rfl⟩) (by assumption) ?_
              try simp only [Act.put, List.setIfInBounds_toArray, List.set_cons_zero, List.set_cons_succ]
              refine wpAnyH_take (i := 11) (v := undef) rfl (by kernel_rfl) (by kernel_rfl) (by kernel_rfl) (fun _ _ _ h => h) (Or.inr ⟨by kernel_rfl, rfl⟩) (by assumption) ?_
              try simp only [Act.put, List.setIfInBounds_toArray, List.set_cons_zero, List.set_cons_succ]
              refine wpAnyH_take (i := 12) (v := undef) rfl (by kernel_rfl) (by kernel_rfl) (by kernel_rfl) (fun _ _ _ h => h) (Or.inr ⟨by kernel_rfl, rfl⟩) (by assumption) ?_
              try simp only [Act.put, List.setIfInBounds_toArray, List.set_cons_zero, List.set_cons_succ]
              refine wpAnyH_take (i := 13) (v := undef) rfl (by kernel_rfl) (by kernel_rfl) (by kernel_rfl) (fun _ _ _ h => h) (Or.inr ⟨by kernel_rfl, rfl⟩) (by assumption) ?_
              try simp only [Act.put, List.setIfInBounds_toArray, List.set_cons_zero, List.set_cons_succ]
              refine wpAnyH_take (i := 14) (v := undef) rfl (by kernel_rfl) (by kernel_rfl) (by kernel_rfl) (fun _ _ _ h => h) (Or.inr ⟨by kernel_rfl, rfl⟩) (by assumption) ?_
              try simp only [Act.put, List.setIfInBounds_toArray, List.set_cons_zero, List.set_cons_succ]
              refine wpAnyH_take (i := 15) (v := undef) rfl (by kernel_rfl) (by kernel_rfl) (by kernel_rfl) (fun _ _ _ h => h) (Or.inr ⟨by kernel_rfl, rfl⟩) (by assumption) ?_
              try simp only [Act.put, List.setIfInBounds_toArray, List.set_cons_zero, List.set_cons_succ]
              refine wpAnyH_take (i := 16) (v := undef) rfl (by kernel_rfl) (by kernel_rfl) (by kernel_rfl) (fun _ _ _ h => h) (Or.inr ⟨by kernel_rfl, rfl⟩) (by assumption) ?_
              try simp only [Act.put, List.setIfInBounds_toArray, List.set_cons_zero, List.set_cons_succ]
              refine wpAnyH_take (i := 17) (v := undef) rfl (by kernel_rfl) (by kernel_rfl) (by kernel_rfl) (fun _ _ _ h => h) (Or.inr ⟨by kernel_rfl, rfl⟩) (by assumption) ?_
              try simp only [Act.put, List.setIfInBounds_toArray, List.set_cons_zero, List.set_cons_succ]
              refine wpAnyH_take (i := 18) (v := undef) rfl (by kernel_rfl) (by kernel_rfl) (by kernel_rfl) (fun _ _ _ h => h) (Or.inr ⟨by kernel_rfl, rfl⟩) (by assumption) ?_
              try simp only [Act.put, List.setIfInBounds_toArray, List.set_cons_zero, List.set_cons_succ]
              refine wpAnyH_take (i := 19) (v := undef) rfl (by kernel_rfl) (by kernel_rfl) (by kernel_rfl) (fun _ _ _ h => h) (Or.inr ⟨by kernel_rfl, rfl⟩) (by assumption) ?_
              try simp only [Act.put, List.setIfInBounds_toArray, List.set_cons_zero, List.set_cons_succ]
              refine wpAnyH_take (i := 20) (v := undef) rfl (by kernel_rfl) (by kernel_rfl) (by kernel_rfl) (fun _ _ _ h => h) (Or.inr ⟨by kernel_rfl, rfl⟩) (by assumption) ?_
              try simp only [Act.put, List.setIfInBounds_toArray, List.set_cons_zero, List.set_cons_succ]
              refine wpAnyH_take (i := 21) (v := undef) rfl (by kernel_rfl) (by kernel_rfl) (by kernel_rfl) (fun _ _ _ h => h) (Or.inr ⟨by kernel_rfl, rfl⟩) (by assumption) ?_
              try simp only [Act.put, List.setIfInBounds_toArray, List.set_cons_zero, List.set_cons_succ]
              refine wpAnyH_take (i := 22) (v := undef) rfl (by kernel_rfl) (by kernel_rfl) (by kernel_rfl) (fun _ _ _ h => h) (Or.inr ⟨by kernel_rfl, rfl⟩) (by assumption) ?_
              try simp only [Act.put, List.setIfInBounds_toArray, List.set_cons_zero, List.set_cons_succ]
              refine wpAnyH_take (i := 23) (v := undef) rfl (by kernel_rfl) (by kernel_rfl) (by kernel_rfl) (fun _ _ _ h => h) (Or.inr ⟨by kernel_rfl, rfl⟩) (by assumption) ?_
              try simp only [Act.put, List.setIfInBounds_toArray, List.set_cons_zero, List.set_cons_succ]
              refine wpAnyH_take (i := 24) (v := undef) rfl (by kernel_rfl) (by kernel_rfl) (by kernel_rfl) (fun _ _ _ h => h) (Or.inr ⟨by kernel_rfl, rfl⟩) (by assumption) ?_
              try simp only [Act.put, List.setIfInBounds_toArray, List.set_cons_zero, List.set_cons_succ]
              refine wpAnyH_take (i := 25) (v := undef) rfl (by kernel_rfl) (by kernel_rfl) (by kernel_rfl) (fun _ _ _ h => h) (Or.inr ⟨by kernel_rfl, rfl⟩) (by assumption) ?_
              try simp only [Act.put, List.setIfInBounds_toArray, List.set_cons_zero, List.set_cons_succ]
              refine wpAnyH_take (i := 26) (v := undef) rfl (by kernel_rfl) (by kernel_rfl) (by kernel_rfl) (fun _ _ _ h => h) (Or.inr ⟨by kernel_rfl, rfl⟩) (by assumption) ?_
              try simp only [Act.put, List.setIfInBounds_toArray, List.set_cons_zero, List.set_cons_succ]
              refine wpAnyH_take (i := 27) (v := undef) rfl (by kernel_rfl) (by kernel_rfl) (by kernel_rfl) (fun _ _ _ h => h) (Or.inr ⟨by kernel_rfl, rfl⟩) (by assumption) ?_
              try simp only [Act.put, List.setIfInBounds_toArray, List.set_cons_zero, List.set_cons_succ]
              refine wpAnyH_take (i := 28) (v := undef) rfl (by kernel_rfl) (by kernel_rfl) (by kernel_rfl) (fun _ _ _ h => h) (Or.inr ⟨by kernel_rfl, rfl⟩) (by assumption) ?_
              try simp only [Act.put, List.setIfInBounds_toArray, List.set_cons_zero, List.set_cons_succ]
              refine wpAnyH_take (i := 29) (v := undef) rfl (by kernel_rfl) (by kernel_rfl) (by kernel_rfl) (fun _ _ _ h => h) (Or.inr ⟨by kernel_rfl, rfl⟩) (by assumption) ?_
              try simp only [Act.put, List.setIfInBounds_toArray, List.set_cons_zero, List.set_cons_succ]
              refine wpAnyH_take (i := 30) (v := undef) rfl (by kernel_rfl) (by kernel_rfl) (by kernel_rfl) (fun _ _ _ h => h) (Or.inr ⟨by kernel_rfl, rfl⟩) (by assumption) ?_
              try simp only [Act.put, List.setIfInBounds_toArray, List.set_cons_zero, List.set_cons_succ]
              refine wpAnyH_take (i := 31) (v := undef) rfl (by kernel_rfl) (by kernel_rfl) (by kernel_rfl) (fun _ _ _ h => h) (Or.inr ⟨by kernel_rfl, rfl⟩) (by assumption) ?_
              try simp only [Act.put, List.setIfInBounds_toArray, List.set_cons_zero, List.set_cons_succ]
              refine wpAnyH_take (i := 32) (v := undef) rfl (by kernel_rfl) (by kernel_rfl) (by kernel_rfl) (fun _ _ _ h => h) (Or.inr ⟨by kernel_rfl, rfl⟩) (by assumption) ?_
              try simp only [Act.put, List.setIfInBounds_toArray, List.set_cons_zero, List.set_cons_succ]
              refine wpAnyH_take (i := 33) (v := undef) rfl (by kernel_rfl) (by kernel_rfl) (by kernel_rfl) (fun _ _ _ h => h) (Or.inr ⟨by kernel_rfl, rfl⟩) (by assumption) ?_
              try simp only [Act.put, List.setIfInBounds_toArray, List.set_cons_zero, List.set_cons_succ]
              refine wpAnyH_take (i := 34) (v := undef) rfl (by kernel_rfl) (by kernel_rfl) (by kernel_rfl) (fun _ _ _ h => h) (Or.inr ⟨by kernel_rfl, rfl⟩) (by assumption) ?_
              try simp only [Act.put, List.setIfInBounds_toArray, List.set_cons_zero, List.set_cons_succ]
              refine wpAnyH_take (i := 35) (v := undef) rfl (by kernel_rfl) (by kernel_rfl) (by kernel_rfl) (fun _ _ _ h => h) (Or.inr ⟨by kernel_rfl, rfl⟩) (by assumption) ?_
              try simp only [Act.put, List.setIfInBounds_toArray, List.set_cons_zero, List.set_cons_succ]
              refine wpAnyH_take (i := 36) (v := undef) rfl (by kernel_rfl) (by kernel_rfl) (by kernel_rfl) (fun _ _ _ h => h) (Or.inr ⟨by kernel_rfl, rfl⟩) (by assumption) ?_
              try simp only [Act.put, List.setIfInBounds_toArray, List.set_cons_zero, List.set_cons_succ]
              refine wpAnyH_take (i := 37) (v := undef) rfl (by kernel_rfl) (by kernel_rfl) (by kernel_rfl) (fun _ _ _ h => h) (Or.inr ⟨by kernel_rfl, rfl⟩) (by assumption) ?_
              try simp only [Act.put, List.setIfInBounds_toArray, List.set_cons_zero, List.set_cons_succ]
              refine wpAnyH_take (i := 38) (v := undef) rfl (by kernel_rfl) (by kernel_rfl) (by kernel_rfl) (fun _ _ _ h => h) (Or.inr ⟨by kernel_rfl, rfl⟩) (by assumption) ?_
              try simp only [Act.put, List.setIfInBounds_toArray, List.set_cons_zero, List.set_cons_succ]
              refine wpAnyH_take (i := 39) (v := undef) rfl (by kernel_rfl) (by kernel_rfl) (by kernel_rfl) (fun _ _ _ h => h) (Or.inr ⟨by kernel_rfl, rfl⟩) (by assumption) ?_
              try simp only [Act.put, List.setIfInBounds_toArray, List.set_cons_zero, List.set_cons_succ]
              refine wpAnyH_take (i := 40) (v := ?v109) rfl (by kernel_rfl) (by kernel_rfl) (by kernel_rfl) (fun _ _ _ h => h) (Or.inl ⟨by kernel_rfl, ?hy109⟩) (by assumption) ?rest109
              case hy109 => intro w hSw; (try dsimp only at hSw); go_simp; (try with_reducible rfl)
              try simp only [Act.put, List.setIfInBounds_toArray, List.set_cons_zero, List.set_cons_succ]
              refine wpAnyH_take (i := 41) (v := ?v110) rfl (by kernel_rfl) (by kernel_rfl) (by kernel_rfl) (fun _ _ _ h => h) (Or.inl ⟨by kernel_rfl, ?hy110⟩) (by assumption) ?rest110
              case hy110 => intro w hSw; (try dsimp only at hSw); go_simp; (try with_reducible rfl)
              try simp only [Act.put, List.setIfInBounds_toArray, List.set_cons_zero, List.set_cons_succ]
              refine wpAnyH_done (by kernel_rfl) ?_ _
              exact viaV_leaf63 (by kernel_rfl) ⟨by kernel_rfl, hW21⟩
            · intro vv w' hR
              obtain ⟨e41, hFx⟩ := hR
              have HFX := hideIt hFx
              clear hFx
              simp only [List.toList_toArray, List.take_succ_cons, List.take_zero, List.drop_succ_cons, List.drop_zero, List.cons_append, List.nil_append, e41]
              go_wp2_with fail
              go_roundw
              case measure => simp [intOf]; omega
              case rel => exact ⟨1, by go_num, by omega, HFR.out.trans HFX.out (fun _ _ e => e)⟩
          | succ n =>
            have hlt2 : n < J.length := by omega
            have HMX := hideIt (List.getElem_mem hlt)
            have HMY := hideIt (List.getElem_mem hlt2)
            have HNX := hideIt (HJD.out.next J n hlt)
            obtain ⟨b, off, rfl, hbl, hc⟩ : ∃ b off, aoJ = some ⟨b, off, none⟩ ∧ b < wr.heap.size ∧ ∀ i (h : i < J.length), wr.cell? ⟨b, off + i * 2, none⟩ = some (.string J[i].1) ∧ wr.cell? ⟨b, off + i * 2 + 1, none⟩ = some (.string J[i].2) := by
              rcases HRJ.out.fr0 HFR.out with ⟨_, e⟩ | e
              · rw [e] at hlt; exact absurd hlt (by simp)
              · exact e
            have c1 := (hc n hlt2).2
            have c2 := (hc (n + 1) hlt).1
            have c3 := (hc (n + 1) hlt).2
            clear hc
            generalize J[n] = y at *
            generalize J[n + 1] = x at *
            have HS := hideIt (show ∀ w' : World, Fr (fun _ => False) wr w' → w'.cell? ⟨b, off + n * 2 + 1, none⟩ = some (.string y.2) ∧ w'.cell? ⟨b, off + (n + 1) * 2, none⟩ = some (.string x.1) ∧ w'.cell? ⟨b, off + (n + 1) * 2 + 1, none⟩ = some (.string x.2) ∧ Fr (fun _ => False) wr w' from fun w' h => ⟨h.cell0 c1, h.cell0 c2, h.cell0 c3, h⟩)
            have hE := hideIt (fun w => by have := empty_any x w; rw [show decide (¬ NonE x) = false from decide_eq_false (fun e => e (HJD.out.all HMX.out))] at this; exact this)
            have hG := hideIt (fun w' (hF : Fr (fun _ => False) w w') => HHG.out w' hF y HMY.out HNX.out.1)
            have HWA := hideIt (HFa.out.trans HFR.out (fun _ _ e => e))
            have hy0 : y.2.toList.isEmpty = false := by have := HNX.out.1; simpa [hi] using this
            have hyl : Op.bytesLess y.2.toList x.1.toList = true := by rw [bytesLess_eq]; exact decide_eq_true HNX.out.2
            have hn0 : (0 : Int) < (n : Int) + 1 := by omega
            have hn1 : (0 : Int) ≤ (n : Int) := by omega
            have hn2 : (n : Int) < (J.length : Int) := by omega
            have hn3 : (n : Int) + 1 < (J.length : Int) := by omega
            have hn4 : (1 : Int) ≤ (n : Int) + 1 := by omega
            have hn5 : (0 : Int) ≤ (n : Int) + 1 := by omega
            have hn6 : IntKind.i64.wrap (n : Int) = (n : Int) := by simp [IntKind.wrap, IntKind.bits, IntKind.signed]; omega
            go_wp2_with fail
            refine wp_viaV (fun a v => { a with tmps := (a.tmps.toList.take 63 ++ [v 0, v 1, v 2, v 3, v 4, v 5, v 6, v 7, v 8, v 9, v 10, v 11, v 12, v 13, v 14, v 15, v 16, v 17, v 18, v 19, v 20, v 21, v 22, v 23, v 24, v 25, v 26, v 27, v 28, v 29, v 30, v 31, v 32, v 33, v 34, v 35, v 36, v 37, v 38, v 39, v 40, v 41] ++ a.tmps.toList.drop 105).toArray }) (fun v w' => v 41 = .bool false ∧ Fr (fun _ => False) wr w') ?_ ?_
            · refine wp_region_held_drew (S := fun w' => w'.cell? ⟨b, off + n * 2 + 1, none⟩ = some (.string y.2) ∧ w'.cell? ⟨b, off + (n + 1) * 2, none⟩ = some (.string x.1) ∧ w'.cell? ⟨b, off + (n + 1) * 2 + 1, none⟩ = some (.string x.2) ∧ Fr (fun _ => False) wr w') (by kernel_rfl) ?_ (fun hHeld => ?_)
              · exact HS.out _ (Fr.refl _ _).drew
              refine wpAnyH_take (i := 0) (v := ?v111) rfl (by kernel_rfl) (by kernel_rfl) (by kernel_rfl) (fun _ _ _ h => h) (Or.inl ⟨by kernel_rfl, ?hy111⟩) (by assumption) ?rest111
              case hy111 => intro w hSw; (try dsimp only at hSw); go_simp; (try with_reducible rfl)
              try simp only [Act.put, List.setIfInBounds_toArray, List.set_cons_zero, List.set_cons_succ]
              refine wpAnyH_take (i := 1) (v := ?v112) rfl (by kernel_rfl) (by kernel_rfl) (by kernel_rfl) (fun _ _ _ h => h) (Or.inl ⟨by kernel_rfl, ?hy112⟩) (by assumption) ?rest112
              case hy112 => intro w hSw; (try dsimp only at hSw); go_simp; (try with_reducible rfl)
              try simp only [Act.put, List.setIfInBounds_toArray, List.set_cons_zero, List.set_cons_succ]
              refine wpAnyH_take (i := 2) (v := ?v113) rfl (by kernel_rfl) (by kernel_rfl) (by kernel_rfl) (fun _ _ _ h => h) (Or.inl ⟨by kernel_rfl, ?hy113⟩) (by assumption) ?rest113
              case hy113 => intro w hSw; (try dsimp only at hSw); go_simp; (try with_reducible rfl)
              try simp only [Act.put, List.setIfInBounds_toArray, List.set_cons_zero, List.set_cons_succ]
              refine wpAnyH_take (i := 3) (v := ?v114) rfl (by kernel_rfl) (by kernel_rfl) (by kernel_rfl) (fun _ _ _ h => h) (Or.inl ⟨by kernel_rfl, ?hy114⟩) (by assumption) ?rest114
              case hy114 => intro w hSw; (try dsimp only at hSw); go_simp; (try with_reducible rfl)
              try simp only [Act.put, List.setIfInBounds_toArray, List.set_cons_zero, List.set_cons_succ]
              refine wpAnyH_ready (rs := [4]) (by kernel_rfl) (by simp) ?_
              refine AllReadyH.cons rfl (fun K hK => ?_) AllReadyH.nil
              go_simp
              refine Calls.mono (hE.out _) ?_
              rintro e w22 ⟨rfl, hX22⟩
              have hW22 : Fr (fun _ => False) wr w22 := hHeld.2.2.2.trans hX22 (fun _ _ e => e)
              clear hX22
              refine hK.out _ _ ?_ (fun hHeld => ?_)
              · exact HS.out _ hW22
              clear hK K
              try simp only [Act.put, List.setIfInBounds_toArray, List.set_cons_zero, List.set_cons_succ]
              refine wpAnyH_take (i := 5) (v := ?v115) rfl (by kernel_rfl) (by kernel_rfl) (by kernel_rfl) (fun _ _ _ h => h) (Or.inl ⟨by kernel_rfl, ?hy115⟩) (by assumption) ?rest115
              case hy115 => intro w hSw; (try dsimp only at hSw); go_simp; (try with_reducible rfl)
              try simp only [Act.put, List.setIfInBounds_toArray, List.set_cons_zero, List.set_cons_succ]
              refine wpAnyH_take (i := 6) (v := ?v116) rfl (by kernel_rfl) (by kernel_rfl) (by kernel_rfl) (fun _ _ _ h => h) (Or.inl ⟨by kernel_rfl, ?hy116⟩) (by assumption) ?rest116
              case hy116 => intro w hSw; (try dsimp only at hSw); go_simp; (try with_reducible rfl)
              try simp only [Act.put, List.setIfInBounds_toArray, List.set_cons_zero, List.set_cons_succ]
              refine wpAnyH_take (i := 7) (v := ?v117) rfl (by kernel_rfl) (by kernel_rfl) (by kernel_rfl) (fun _ _ _ h => h) (Or.inl ⟨by kernel_rfl, ?hy117⟩) (by assumption) ?rest117
              case hy117 => intro w hSw; (try dsimp only at hSw); go_simp; (try with_reducible rfl)
              try simp only [Act.put, List.setIfInBounds_toArray, List.set_cons_zero, List.set_cons_succ]
              refine wpAnyH_take (i := 8) (v := ?v118) rfl (by kernel_rfl) (by kernel_rfl) (by kernel_rfl) (fun _ _ _ h => h) (Or.inl ⟨by kernel_rfl, ?hy118⟩) (by assumption) ?rest118
              case hy118 => intro w hSw; (try dsimp only at hSw); go_simp; (try with_reducible rfl)
              try simp only [Act.put, List.setIfInBounds_toArray, List.set_cons_zero, List.set_cons_succ]
              refine wpAnyH_take (i := 9) (v := ?v119) rfl (by kernel_rfl) (by kernel_rfl) (by kernel_rfl) (fun _ _ _ h => h) (Or.inl ⟨by kernel_rfl, ?hy119⟩) (by assumption) ?rest119
              case hy119 => intro w hSw; (try dsimp only at hSw); go_simp; (try with_reducible rfl)
              try simp only [Act.put, List.setIfInBounds_toArray, List.set_cons_zero, List.set_cons_succ]
              refine wpAnyH_take (i := 10) (v := ?v120) rfl (by kernel_rfl) (by kernel_rfl) (by kernel_rfl) (fun _ _ _ h => h) (Or.inl ⟨by kernel_rfl, ?hy120⟩) (by assumption) ?rest120
              case hy120 => intro w hSw; (try dsimp only at hSw); go_simp; (try with_reducible rfl)
              try simp only [Act.put, List.setIfInBounds_toArray, List.set_cons_zero, List.set_cons_succ]
              refine wpAnyH_take (i := 11) (v := ?v121) rfl (by kernel_rfl) (by kernel_rfl) (by kernel_rfl) (fun _ _ _ h => h) (Or.inl ⟨by kernel_rfl, ?hy121⟩) (by assumption) ?rest121
              case hy121 => intro w hSw; (try dsimp only at hSw); go_simp; (try with_reducible rfl)
              try simp only [Act.put, List.setIfInBounds_toArray, List.set_cons_zero, List.set_cons_succ]
              refine wpAnyH_take (i := 12) (v := ?v122) rfl (by kernel_rfl) (by kernel_rfl) (by kernel_rfl) (fun _ _ _ h => h) (Or.inl ⟨by kernel_rfl, ?hy122⟩) (by assumption) ?rest122
              case hy122 => intro w hSw; (try dsimp only at hSw); go_simp; (try with_reducible rfl)
              try simp only [Act.put, List.setIfInBounds_toArray, List.set_cons_zero, List.set_cons_succ]
              refine wpAnyH_take (i := 13) (v := ?v123) rfl (by kernel_rfl) (by kernel_rfl) (by kernel_rfl) (fun _ _ _ h => h) (Or.inl ⟨by kernel_rfl, ?hy123⟩) (by assumption) ?rest123
              case hy123 => intro w hSw; (try dsimp only at hSw); go_simp; (try with_reducible rfl)
              try simp only [Act.put, List.setIfInBounds_toArray, List.set_cons_zero, List.set_cons_succ]
              refine wpAnyH_take (i := 14) (v := ?v124) rfl (by kernel_rfl) (by kernel_rfl) (by kernel_rfl) (fun _ _ _ h => h) (Or.inl ⟨by kernel_rfl, ?hy124⟩) (by assumption) ?rest124
              case hy124 => intro w hSw; (try dsimp only at hSw); go_simp; (try with_reducible rfl)
              try simp only [Act.put, List.setIfInBounds_toArray, List.set_cons_zero, List.set_cons_succ]
              refine wpAnyH_take (i := 15) (v := ?v125) rfl (by kernel_rfl) (by kernel_rfl) (by kernel_rfl) (fun _ _ _ h => h) (Or.inl ⟨by kernel_rfl, ?hy125⟩) (by assumption) ?rest125
              case hy125 => intro w hSw; (try dsimp only at hSw); go_simp; (try with_reducible rfl)
              try simp only [Act.put, List.setIfInBounds_toArray, List.set_cons_zero, List.set_cons_succ]
              refine wpAnyH_take (i := 16) (v := ?v126) rfl (by kernel_rfl) (by kernel_rfl) (by kernel_rfl) (fun _ _ _ h => h) (Or.inl ⟨by kernel_rfl, ?hy126⟩) (by assumption) ?rest126
              case hy126 => intro w hSw; (try dsimp only at hSw); go_simp; (try with_reducible rfl)
              try simp only [Act.put, List.setIfInBounds_toArray, List.set_cons_zero, List.set_cons_succ]
              refine wpAnyH_take (i := 17) (v := ?v127) rfl (by kernel_rfl) (by kernel_rfl) (by kernel_rfl) (fun _ _ _ h => h) (Or.inl ⟨by kernel_rfl, ?hy127⟩) (by assumption) ?rest127
              case hy127 => intro w hSw; (try dsimp only at hSw); go_simp; (try with_reducible rfl)
              try simp only [Act.put, List.setIfInBounds_toArray, List.set_cons_zero, List.set_cons_succ]
              refine wpAnyH_take (i := 18) (v := ?v128) rfl (by kernel_rfl) (by kernel_rfl) (by kernel_rfl) (fun _ _ _ h => h) (Or.inl ⟨by kernel_rfl, ?hy128⟩) (by assumption) ?rest128
              case hy128 => intro w hSw; (try dsimp only at hSw); go_simp; (try with_reducible rfl)
              try simp only [Act.put, List.setIfInBounds_toArray, List.set_cons_zero, List.set_cons_succ]
              refine wpAnyH_take (i := 19) (v := ?v129) rfl (by kernel_rfl) (by kernel_rfl) (by kernel_rfl) (fun _ _ _ h => h) (Or.inl ⟨by kernel_rfl, ?hy129⟩) (by assumption) ?rest129
              case hy129 => intro w hSw; (try dsimp only at hSw); go_simp; (try with_reducible rfl)
              try simp only [Act.put, List.setIfInBounds_toArray, List.set_cons_zero, List.set_cons_succ]
              refine wpAnyH_take (i := 20) (v := ?v130) rfl (by kernel_rfl) (by kernel_rfl) (by kernel_rfl) (fun _ _ _ h => h) (Or.inl ⟨by kernel_rfl, ?hy130⟩) (by assumption) ?rest130
              case hy130 => intro w hSw; (try dsimp only at hSw); go_simp; (try with_reducible rfl)
              try simp only [Act.put, List.setIfInBounds_toArray, List.set_cons_zero, List.set_cons_succ]
              refine wpAnyH_take (i := 21) (v := ?v131) rfl (by kernel_rfl) (by kernel_rfl) (by kernel_rfl) (fun _ _ _ h => h) (Or.inl ⟨by kernel_rfl, ?hy131⟩) (by assumption) ?rest131
              case hy131 => intro w hSw; (try dsimp only at hSw); go_simp; (try with_reducible rfl)
              try simp only [Act.put, List.setIfInBounds_toArray, List.set_cons_zero, List.set_cons_succ]
              refine wpAnyH_take (i := 22) (v := ?v132) rfl (by kernel_rfl) (by kernel_rfl) (by kernel_rfl) (fun _ _ _ h => h) (Or.inl ⟨by kernel_rfl, ?hy132⟩) (by assumption) ?rest132
              case hy132 => intro w hSw; (try dsimp only at hSw); go_simp; (try with_reducible rfl)
              try simp only [Act.put, List.setIfInBounds_toArray, List.set_cons_zero, List.set_cons_succ]
              refine wpAnyH_take (i := 23) (v := ?v133) rfl (by kernel_rfl) (by kernel_rfl) (by kernel_rfl) (fun _ _ _ h => h) (Or.inl ⟨by kernel_rfl, ?hy133⟩) (by assumption) ?rest133
              case hy133 => intro w hSw; (try dsimp only at hSw); go_simp; (try with_reducible rfl)
              try simp only [Act.put, List.setIfInBounds_toArray, List.set_cons_zero, List.set_cons_succ]
              refine wpAnyH_take (i := 24) (v := ?v134) rfl (by kernel_rfl) (by kernel_rfl) (by kernel_rfl) (fun _ _ _ h => h) (Or.inl ⟨by kernel_rfl, ?hy134⟩) (by assumption) ?rest134
              case hy134 => intro w hSw; (try dsimp only at hSw); go_simp; (try with_reducible rfl)
              try simp only [Act.put, List.setIfInBounds_toArray, List.set_cons_zero, List.set_cons_succ]
              refine wpAnyH_take (i := 25) (v := ?v135) rfl (by kernel_rfl) (by kernel_rfl) (by kernel_rfl) (fun _ _ _ h => h) (Or.inl ⟨by kernel_rfl, ?hy135⟩) (by assumption) ?rest135
              case hy135 => intro w hSw; (try dsimp only at hSw); go_simp; (try with_reducible rfl)
              try simp only [Act.put, List.setIfInBounds_toArray, List.set_cons_zero, List.set_cons_succ]
              refine wpAnyH_take (i := 26) (v := ?v136) rfl (by kernel_rfl) (by kernel_rfl) (by kernel_rfl) (fun _ _ _ h => h) (Or.inl ⟨by kernel_rfl, ?hy136⟩) (by assumption) ?rest136
              case hy136 => intro w hSw; (try dsimp only at hSw); go_simp; (try with_reducible rfl)
              try simp only [Act.put, List.setIfInBounds_toArray, List.set_cons_zero, List.set_cons_succ]
              refine wpAnyH_take (i := 27) (v := ?v137) rfl (by kernel_rfl) (by kernel_rfl) (by kernel_rfl) (fun _ _ _ h => h) (Or.inl ⟨by kernel_rfl, ?hy137⟩) (by assumption) ?rest137
              case hy137 => intro w hSw; (try dsimp only at hSw); go_simp; (try with_reducible rfl)
              try simp only [Act.put, List.setIfInBounds_toArray, List.set_cons_zero, List.set_cons_succ]
              refine wpAnyH_take (i := 28) (v := ?v138) rfl (by kernel_rfl) (by kernel_rfl) (by kernel_rfl) (fun _ _ _ h => h) (Or.inl ⟨by kernel_rfl, ?hy138⟩) (by assumption) ?rest138
              case hy138 => intro w hSw; (try dsimp only at hSw); go_simp; (try with_reducible rfl)
              try simp only [Act.put, List.setIfInBounds_toArray, List.set_cons_zero, List.set_cons_succ]
              refine wpAnyH_take (i := 29) (v := ?v139) rfl (by kernel_rfl) (by kernel_rfl) (by kernel_rfl) (fun _ _ _ h => h) (Or.inl ⟨by kernel_rfl, ?hy139⟩) (by assumption) ?rest139
              case hy139 => intro w hSw; (try dsimp only at hSw); go_simp; (try with_reducible rfl)
              try simp only [Act.put, List.setIfInBounds_toArray, List.set_cons_zero, List.set_cons_succ]
              refine wpAnyH_take (i := 30) (v := ?v140) rfl (by kernel_rfl) (by kernel_rfl) (by kernel_rfl) (fun _ _ _ h => h) (Or.inl ⟨by kernel_rfl, ?hy140⟩) (by assumption) ?rest140
              case hy140 => intro w hSw; (try dsimp only at hSw); go_simp; (try with_reducible rfl)
              try simp only [Act.put, List.setIfInBounds_toArray, List.set_cons_zero, List.set_cons_succ]
              refine wpAnyH_take (i := 31) (v := ?v141) rfl (by kernel_rfl) (by kernel_rfl) (by kernel_rfl) (fun _ _ _ h => h) (Or.inl ⟨by kernel_rfl, ?hy141⟩) (by assumption) ?rest141
              case hy141 => intro w hSw; (try dsimp only at hSw); go_simp; (try with_reducible rfl)
              try simp only [Act.put, List.setIfInBounds_toArray, List.set_cons_zero, List.set_cons_succ]
              refine wpAnyH_take (i := 32) (v := ?v142) rfl (by kernel_rfl) (by kernel_rfl) (by kernel_rfl) (fun _ _ _ h => h) (Or.inl ⟨by kernel_rfl, ?hy142⟩) (by assumption) ?rest142
              case hy142 => intro w hSw; (try dsimp only at hSw); go_simp; (try with_reducible rfl)
              try simp only [Act.put, List.setIfInBounds_toArray, List.set_cons_zero, List.set_cons_succ]
              refine wpAnyH_take (i := 33) (v := ?v143) rfl (by kernel_rfl) (by kernel_rfl) (by kernel_rfl) (fun _ _ _ h => h) (Or.inl ⟨by kernel_rfl, ?hy143⟩) (by assumption) ?rest143
              case hy143 => intro w hSw; (try dsimp only at hSw); go_simp; (try with_reducible rfl)
              try simp only [Act.put, List.setIfInBounds_toArray, List.set_cons_zero, List.set_cons_succ]
              refine wpAnyH_take (i := 34) (v := ?v144) rfl (by kernel_rfl) (by kernel_rfl) (by kernel_rfl) (fun _ _ _ h => h) (Or.inl ⟨by kernel_rfl, ?hy144⟩) (by assumption) ?rest144
              case hy144 => intro w hSw; (try dsimp only at hSw); go_simp; (try with_reducible rfl)
              try simp only [Act.put, List.setIfInBounds_toArray, List.set_cons_zero, List.set_cons_succ]
              refine wpAnyH_take (i := 35) (v := ?v145) rfl (by kernel_rfl) (by kernel_rfl) (by kernel_rfl) (fun _ _ _ h => h) (Or.inl ⟨by kernel_rfl, ?hy145⟩) (by assumption) ?rest145
              case hy145 => intro w hSw; (try dsimp only at hSw); go_simp; (try with_reducible rfl)
              try simp only [Act.put, List.setIfInBounds_toArray, List.set_cons_zero, List.set_cons_succ]
              refine wpAnyH_take (i := 36) (v := ?v146) rfl (by kernel_rfl) (by kernel_rfl) (by kernel_rfl) (fun _ _ _ h => h) (Or.inl ⟨by kernel_rfl, ?hy146⟩) (by assumption) ?rest146
              case hy146 => intro w hSw; (try dsimp only at hSw); go_simp; (try with_reducible rfl)
              try simp only [Act.put, List.setIfInBounds_toArray, List.set_cons_zero, List.set_cons_succ]
              refine wpAnyH_take (i := 37) (v := ?v147) rfl (by kernel_rfl) (by kernel_rfl) (by kernel_rfl) (fun _ _ _ h => h) (Or.inl ⟨by kernel_rfl, ?hy147⟩) (by assumption) ?rest147
              case hy147 => intro w hSw; (try dsimp only at hSw); go_simp; (try with_reducible rfl)
              try simp only [Act.put, List.setIfInBounds_toArray, List.set_cons_zero, List.set_cons_succ]
              refine wpAnyH_ready (rs := [38]) (by kernel_rfl) (by simp) ?_
              refine AllReadyH.cons rfl (fun K hK => ?_) AllReadyH.nil
              go_simp
              refine Calls.mono (hG.out _ (HWA.out.trans hHeld.2.2.2 (fun _ _ e => e))) ?_
              rintro e w23 ⟨rfl, hX23⟩
              have hW23 : Fr (fun _ => False) wr w23 := hHeld.2.2.2.trans hX23 (fun _ _ e => e)
              clear hX23
              refine hK.out _ _ ?_ (fun hHeld => ?_)
              · exact HS.out _ hW23
              clear hK K
              try simp only [Act.put, List.setIfInBounds_toArray, List.set_cons_zero, List.set_cons_succ]
              refine wpAnyH_take (i := 39) (v := ?v148) rfl (by kernel_rfl) (by kernel_rfl) (by kernel_rfl) (fun _ _ _ h => h) (Or.inl ⟨by kernel_rfl, ?hy148⟩) (by assumption) ?rest148
              case hy148 => intro w hSw; (try dsimp only at hSw); go_simp; (try with_reducible rfl)
              try simp only [Act.put, List.setIfInBounds_toArray, List.set_cons_zero, List.set_cons_succ]
              refine wpAnyH_take (i := 40) (v := ?v149) rfl (by kernel_rfl) (by kernel_rfl) (by kernel_rfl) (fun _ _ _ h => h) (Or.inl ⟨by kernel_rfl, ?hy149⟩) (by assumption) ?rest149
              case hy149 => intro w hSw; (try dsimp only at hSw); go_simp; (try with_reducible rfl)
              try simp only [Act.put, List.setIfInBounds_toArray, List.set_cons_zero, List.set_cons_succ]
              refine wpAnyH_take (i := 41) (v := ?v150) rfl (by kernel_rfl) (by kernel_rfl) (by kernel_rfl) (fun _ _ _ h => h) (Or.inl ⟨by kernel_rfl, ?hy150⟩) (by assumption) ?rest150
              case hy150 => intro w hSw; (try dsimp only at hSw); go_simp; (try with_reducible rfl)
              try simp only [Act.put, List.setIfInBounds_toArray, List.set_cons_zero, List.set_cons_succ]
              refine wpAnyH_done (by kernel_rfl) ?_ _
              exact viaV_leaf63 (by kernel_rfl) ⟨by kernel_rfl, hW23⟩
            · intro vv w' hR
              obtain ⟨e41, hFx⟩ := hR
              have HFX := hideIt hFx
              clear hFx
              simp only [List.toList_toArray, List.take_succ_cons, List.take_zero, List.drop_succ_cons, List.drop_zero, List.cons_append, List.nil_append, e41]
              go_wp2_with fail
              go_roundw
              case measure => simp [intOf]; omega
              case rel => exact ⟨n + 1 + 1, by go_num, by omega, HFR.out.trans HFX.out (fun _ _ e => e)⟩
        · obtain rfl : m = J.length := by omega
          have HWA := hideIt (HFa.out.trans HFR.out (fun _ _ e => e))
          have HWJ := hideIt (HFJ.out.trans HFR.out (fun _ _ e => e))
          go_wp2_with fail
          go_loopw [11] (fun i wz => ∃ m : Nat, i = .int .i64 m ∧ m ≤ l.length ∧ Fr (fun _ => False) wr wz) (fun i _ => l.length - (intOf i).toNat)
          case atStart => exact ⟨0, rfl, Nat.zero_le _, Fr.refl _ _⟩
          case round =>
            obtain ⟨m, rfl, hm2, hF⟩ := hrel
            have HFZ := hideIt (HWA.out.trans hF (fun _ _ e => e))
            have HFZJ := hideIt (HWJ.out.trans hF (fun _ _ e => e))
            have HFz := hideIt hF
            clear hF
            by_cases hltl : m < l.length
            · have HMY := hideIt (List.getElem_mem hltl)
              obtain ⟨b, off, rfl, hbl, c0, c1⟩ := SpsAt.get (ats_fr0 HH.out HFZ.out) m hltl
              generalize l[m] = y at *
              go_wp2_with fail
              refine Calls.mono (HCJ.out _ HFZJ.out y HMY.out) ?_
              rintro e wb ⟨rfl, hFb⟩
              have d0 := hFb.cell0 c0
              have d1 := hFb.cell0 c1
              go_wp2_with fail
              refine Calls.mono (HCL.out _ (HFZ.out.trans hFb (fun _ _ e => e)) y HMY.out) ?_
              rintro e wc ⟨rfl, hFc⟩
              have e0 := hFc.cell0 d0
              have e1 := hFc.cell0 d1
              have hFbc := hFb.trans hFc (fun _ _ e => e)
              clear d0 d1 hFb hFc
              by_cases hy : NonE y
              · have hE := hideIt (fun w => by have := empty_any y w; rw [show decide (¬ NonE y) = false from decide_eq_false (fun e => e hy)] at this; exact this)
                go_wp2_with fail
                refine Calls.mono (hE.out _) ?_
                rintro e wd ⟨rfl, hFd⟩
                have g0 := hFd.cell0 e0
                have g1 := hFd.cell0 e1
                have hFbd := hFbc.trans hFd (fun _ _ e => e)
                clear hFd hFbc e0 e1
                go_wp2_with fail
                refine Calls.mono (HHJ.out _ (HFZJ.out.trans hFbd (fun _ _ e => e)) y HMY.out hy) ?_
                rintro e we ⟨rfl, hFe⟩
                have HFE := hideIt (hFbd.trans hFe (fun _ _ e => e))
                clear hFe hFbd hy
                go_wp2_with fail
                go_roundw
                case measure => simp [intOf]; omega
                case rel => exact ⟨m + 1, by go_num, by omega, HFz.out.trans HFE.out (fun _ _ e => e)⟩
              · have hE := hideIt (fun w => by have := empty_any y w; rw [show decide (¬ NonE y) = true from decide_eq_true hy] at this; exact this)
                go_wp2_with fail
                refine Calls.mono (hE.out _) ?_
                rintro e wd ⟨rfl, hFd⟩
                have HFE := hideIt (hFbc.trans hFd (fun _ _ e => e))
                clear hFd hFbc hy
                go_wp2_with fail
                go_roundw
                case measure => simp [intOf]; omega
                case rel => exact ⟨m + 1, by go_num, by omega, HFz.out.trans HFE.out (fun _ _ e => e)⟩
            · obtain rfl : m = l.length := by omega
              go_wp2_with fail
              go_ret
              exact ⟨rfl, HFZ.out⟩

end Go.Proofs.Ythancjilkkhfcaa
