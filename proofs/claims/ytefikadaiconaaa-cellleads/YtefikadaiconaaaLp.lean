/- CellLeads, on paper and walked. -/
import Derived.Test.YtefikadaiconaaaLo
import Derived.Test.YtefikadaiconaaaLl
namespace Go.Proofs.Ytefikadaiconaaa
open Go.RowKit Go.IntWalk
set_option linter.unusedSimpArgs false
set_option linter.unusedVariables false

theorem tells_key {a b : List Sp} {x : Wr} (h : Tells a b x) : x.1 ∈ a.map Prod.fst ∨ x.1 ∈ b.map Prod.fst := by
  rcases h with ⟨_, _, h, _⟩ | ⟨_, h, _⟩
  · exact Or.inl h
  · exact Or.inr (of_key h)
theorem diffF_rises : ∀ (f : Nat) (a b : List Sp), Rises (a.map Prod.fst) → Rises (b.map Prod.fst) → a.length + b.length ≤ f → Rises ((diffF f a b).map Prod.fst)
  | f, [], [], _, _, _ => by rw [diffF_none]; exact List.Pairwise.nil
  | 0, p :: a, b, _, _, h => by simp at h
  | 0, [], q :: b, _, _, h => by simp at h
  | f + 1, [], q :: b, ha, hb, h => by
    obtain ⟨hb2, hq⟩ := rises_cons hb
    have hl : ([] : List Sp).length + b.length ≤ f := by simp at h ⊢; omega
    rw [diffF_pos f q [] b (by decide +kernel : (0 : Int) < 1)]
    refine List.pairwise_cons.2 ⟨fun k hk => ?_, diffF_rises f [] b ha hb2 hl⟩
    obtain ⟨x, hx, rfl⟩ := List.mem_map.1 hk
    rcases tells_key ((mem_diffF f [] b ha hb2 hl x).1 hx) with e | e
    · cases e
    · obtain ⟨v, hv⟩ := key_of e; exact hq _ hv
  | f + 1, p :: a, [], ha, hb, h => by
    obtain ⟨ha2, hp⟩ := rises_cons ha
    have hl : a.length + ([] : List Sp).length ≤ f := by simp at h ⊢; omega
    rw [diffF_neg f p a [] (by decide +kernel : (-1 : Int) < 0)]
    refine List.pairwise_cons.2 ⟨fun k hk => ?_, diffF_rises f a [] ha2 hb hl⟩
    obtain ⟨x, hx, rfl⟩ := List.mem_map.1 hk
    rcases tells_key ((mem_diffF f a [] ha2 hb hl x).1 hx) with e | e
    · obtain ⟨v, hv⟩ := key_of e; exact hp _ hv
    · cases e
  | f + 1, p :: a, q :: b, ha, hb, h => by
    obtain ⟨ha2, hp⟩ := rises_cons ha
    obtain ⟨hb2, hq⟩ := rises_cons hb
    obtain ⟨l1, l2, l3⟩ := less_cons p q a b
    have hka : ∀ k, k ∈ a.map Prod.fst → kLt p.1 k := fun k hk => by obtain ⟨v, hv⟩ := key_of hk; exact hp _ hv
    have hkb : ∀ k, k ∈ b.map Prod.fst → kLt q.1 k := fun k hk => by obtain ⟨v, hv⟩ := key_of hk; exact hq _ hv
    rcases kLt_tri p.1 q.1 with e | e | e
    · have hl : a.length + (q :: b).length ≤ f := by simp at h ⊢; omega
      rw [diffF_neg f p a (q :: b) (l1.2 e)]
      refine List.pairwise_cons.2 ⟨fun k hk => ?_, diffF_rises f a (q :: b) ha2 hb hl⟩
      obtain ⟨x, hx, rfl⟩ := List.mem_map.1 hk
      rcases tells_key ((mem_diffF f a (q :: b) ha2 hb hl x).1 hx) with e2 | e2
      · exact hka _ e2
      · rw [List.map_cons] at e2
        rcases List.mem_cons.1 e2 with e3 | e3
        · rw [e3]; exact e
        · exact kLt_trans e (hkb _ e3)
    · have hl : a.length + b.length ≤ f := by simp at h ⊢; omega
      have hr := diffF_rises f a b ha2 hb2 hl
      rw [diffF_eq f p q a b (l3.2 e), List.map_append]
      by_cases h2 : p.2 = q.2
      · rw [if_pos h2]; exact hr
      · rw [if_neg h2]
        refine List.pairwise_cons.2 ⟨fun k hk => ?_, hr⟩
        obtain ⟨x, hx, rfl⟩ := List.mem_map.1 hk
        rcases tells_key ((mem_diffF f a b ha2 hb2 hl x).1 hx) with e2 | e2
        · have := hka _ e2; rwa [e] at this
        · exact hkb _ e2
    · have hl : (p :: a).length + b.length ≤ f := by simp at h ⊢; omega
      rw [diffF_pos f q (p :: a) b (l2.2 e)]
      refine List.pairwise_cons.2 ⟨fun k hk => ?_, diffF_rises f (p :: a) b ha hb2 hl⟩
      obtain ⟨x, hx, rfl⟩ := List.mem_map.1 hk
      rcases tells_key ((mem_diffF f (p :: a) b ha hb2 hl x).1 hx) with e2 | e2
      · rw [List.map_cons] at e2
        rcases List.mem_cons.1 e2 with e3 | e3
        · rw [e3]; exact e
        · exact kLt_trans e (hka _ e3)
      · exact hkb _ e2

section
variable {a b : List Sp} (ha : chkE a = 0) (hb : chkE b = 0)
include ha hb
theorem diffL_eq : diffL a b = diffF (a.length + b.length) a b := by unfold diffL; rw [if_pos ⟨ha, hb⟩]
theorem mem_diffL (x : Wr) : x ∈ diffL a b ↔ Tells a b x := by
  rw [diffL_eq ha hb]
  exact mem_diffF _ _ _ ((chkE_ok a).1 ha).2.rises ((chkE_ok b).1 hb).2.rises (Nat.le_refl _) x
theorem diffL_rises : Rises ((diffL a b).map Prod.fst) := by
  rw [diffL_eq ha hb]
  exact diffF_rises _ _ _ ((chkE_ok a).1 ha).2.rises ((chkE_ok b).1 hb).2.rises (Nat.le_refl _)
theorem diffL_may : ∀ x ∈ diffL a b, mayB x = true := by
  intro x hx
  have hA := ((chkE_ok a).1 ha).2
  have hB := ((chkE_ok b).1 hb).2
  unfold mayB
  rcases (mem_diffL ha hb x).1 hx with ⟨h1, h2, h3, _⟩ | ⟨h1, h2, _⟩
  · obtain ⟨v, hv⟩ := key_of h3
    have hk : keyB x.1 = true := hA.keys _ hv
    rw [hk, h2, h1]
    rfl
  · have hk : keyB x.1 = true := hB.keys _ h2
    have hv : valB x.2.1 = true := hB.vals _ h2
    rw [hk, hv, h1]
    rfl
theorem diffL_last {x : Wr} (hx : x ∈ diffL a b) : lastW (diffL a b) x.1 = x := by
  have hr := diffL_rises ha hb
  obtain ⟨h1, h2⟩ := lastW_mem (diffL a b) x.1 (List.mem_map_of_mem hx)
  have hp : (diffL a b).Pairwise (fun y z => kLt y.1 z.1) := List.pairwise_map.1 hr
  generalize lastW (diffL a b) x.1 = y at *
  generalize diffL a b = d at *
  clear hr ha hb
  induction d with
  | nil => cases hx
  | cons z d ih =>
    have hp2 := List.pairwise_cons.1 hp
    rcases List.mem_cons.1 hx with e | e
    · rcases List.mem_cons.1 h1 with e2 | e2
      · rw [e, e2]
      · have := hp2.1 _ e2
        rw [h2, e] at this
        exact absurd this (kLt_irrefl _)
    · rcases List.mem_cons.1 h1 with e2 | e2
      · have := hp2.1 _ e
        rw [← e2, h2] at this
        exact absurd this (kLt_irrefl _)
      · exact ih e hp2.2 e2
theorem diff_leads : apL a (diffL a b) = b := by
  have hA := ((chkE_ok a).1 ha).2
  have hB := ((chkE_ok b).1 hb).2
  refine sp_unique (apL_stt a _ hA (diffL_may ha hb)).rises hB.rises fun p => ?_
  rw [mem_apL _ _ hA.rises]
  have key : ∀ v, (p.1, v) ∈ a → p.1 ∉ (diffL a b).map Prod.fst → (p.1, v) ∈ b := fun v hv hn => by
    by_cases hkb : p.1 ∈ b.map Prod.fst
    · obtain ⟨u, hu⟩ := key_of hkb
      by_cases hua : (p.1, u) ∈ a
      · rw [rises_uniq hA.rises hv hua]; exact hu
      · exact absurd (List.mem_map.2 ⟨(p.1, u, false), (mem_diffL ha hb _).2 (Or.inr ⟨rfl, hu, hua⟩), rfl⟩) hn
    · exact absurd (List.mem_map.2 ⟨(p.1, ⟨#[]⟩, true), (mem_diffL ha hb _).2 (Or.inl ⟨rfl, rfl, of_key hv, hkb⟩), rfl⟩) hn
  constructor
  · rintro (⟨h1, h2⟩ | ⟨h1, h2, h3⟩)
    · exact key p.2 h2 h1
    · obtain ⟨x, hx, e⟩ := List.mem_map.1 h1
      have hl := diffL_last ha hb hx
      rw [e] at hl
      rw [hl] at h2 h3
      rcases (mem_diffL ha hb x).1 hx with ⟨g1, _⟩ | ⟨_, g2, _⟩
      · rw [g1] at h2; cases h2
      · rw [e, ← h3] at g2; exact g2
  · intro hp
    by_cases hpa : p ∈ a
    · refine Or.inl ⟨fun hm => ?_, hpa⟩
      obtain ⟨x, hx, e⟩ := List.mem_map.1 hm
      rcases (mem_diffL ha hb x).1 hx with ⟨_, _, _, g⟩ | ⟨_, g1, g2⟩
      · exact g (by rw [e]; exact of_key hp)
      · rw [e] at g1 g2
        have := rises_uniq hB.rises g1 hp
        rw [this] at g2
        exact g2 hpa
    · have hx : (p.1, p.2, false) ∈ diffL a b := (mem_diffL ha hb _).2 (Or.inr ⟨rfl, hp, hpa⟩)
      have hl := diffL_last ha hb hx
      dsimp only at hl
      exact Or.inr ⟨List.mem_map.2 ⟨_, hx, rfl⟩, by rw [hl], by rw [hl]⟩
theorem diff_apE : apE a (diffL a b) = 0 ∧ apR a (diffL a b) = b := by
  have h1 := diff_leads ha hb
  have hlen := ((chkE_ok b).1 hb).1
  have e : apE a (diffL a b) = 0 := by
    unfold apE
    rw [if_pos ha, if_pos (List.all_eq_true.2 (diffL_may ha hb)), h1, if_neg (by omega)]
  exact ⟨e, by unfold apR; rw [if_pos e, h1]⟩
theorem diff_key (k : ByteArray) : inL ((diffL a b).map Prod.fst) k = !decide (getL a k = getL b k) := by
  have hA := ((chkE_ok a).1 ha).2
  have hB := ((chkE_ok b).1 hb).2
  rw [Bool.eq_iff_iff, inL_iff, Bool.not_eq_true', decide_eq_false_iff_not]
  constructor
  · intro hm
    obtain ⟨x, hx, e⟩ := List.mem_map.1 hm
    rcases (mem_diffL ha hb x).1 hx with ⟨_, _, g1, g2⟩ | ⟨_, g1, g2⟩
    · rw [e] at g1 g2
      obtain ⟨v, hv⟩ := key_of g1
      rw [getL_mem ha hv, getL_none fun u hu => g2 (of_key hu)]
      simp
    · rw [e] at g1 g2
      rw [getL_mem hb g1]
      intro hh
      by_cases hk : ∃ u, (k, u) ∈ a
      · obtain ⟨u, hu⟩ := hk
        rw [getL_mem ha hu] at hh
        rw [(Prod.mk.inj hh).1] at hu
        exact g2 hu
      · rw [getL_none fun u hu => hk ⟨u, hu⟩] at hh
        cases (Prod.mk.inj hh).2
  · intro hne
    by_cases hka : ∃ u, (k, u) ∈ a
    · obtain ⟨u, hu⟩ := hka
      rw [getL_mem ha hu] at hne
      by_cases hkb : ∃ v, (k, v) ∈ b
      · obtain ⟨v, hv⟩ := hkb
        rw [getL_mem hb hv] at hne
        refine List.mem_map.2 ⟨(k, v, false), (mem_diffL ha hb _).2 (Or.inr ⟨rfl, hv, fun hva => hne ?_⟩), rfl⟩
        rw [rises_uniq hA.rises hu hva]
      · exact List.mem_map.2 ⟨(k, ⟨#[]⟩, true), (mem_diffL ha hb _).2 (Or.inl ⟨rfl, rfl, of_key hu, fun hm => hkb (key_of hm)⟩), rfl⟩
    · rw [getL_none fun u hu => hka ⟨u, hu⟩] at hne
      by_cases hkb : ∃ v, (k, v) ∈ b
      · obtain ⟨v, hv⟩ := hkb
        exact List.mem_map.2 ⟨(k, v, false), (mem_diffL ha hb _).2 (Or.inr ⟨rfl, hv, fun hva => hka ⟨v, hva⟩⟩), rfl⟩
      · rw [getL_none fun u hu => hkb ⟨u, hu⟩] at hne
        exact absurd rfl hne
theorem diff_nil : ((diffL a b).map Prod.fst).length = 0 ↔ a = b := by
  constructor
  · intro h
    have h0 : diffL a b = [] := by
      rw [List.length_map] at h
      exact List.eq_nil_of_length_eq_zero h
    have := diff_leads ha hb
    rw [h0] at this
    exact this
  · intro h
    subst h
    rw [List.length_map]
    cases hd : diffL a a with
    | nil => rfl
    | cons x d =>
      exfalso
      rcases (mem_diffL ha ha x).1 (by rw [hd]; exact List.mem_cons_self ..) with ⟨_, _, g1, g2⟩ | ⟨_, g1, g2⟩
      · exact g2 g1
      · exact g2 g1
end

set_option maxRecDepth 100000 in
set_option maxHeartbeats 8000000 in
theorem leads_w (ao : Option Addr) (ca : Nat) (a : List Sp) (bo : Option Addr) (cb : Nat) (b : List Sp) (k : ByteArray) (w : World) (h : a = [] ∨ SpsAt w ao a) (hca : a.length ≤ ca) (hl : a.length ≤ 9223372036854775807) (h' : b = [] ∨ SpsAt w bo b) (hcb : b.length ≤ cb) (hl' : b.length ≤ 9223372036854775807) :
    Calls Try.prog 5 #[.slice ao a.length ca, .slice bo b.length cb, .string k] w fun e w' => e = .returned (.bool true) ∧ Fr (fun _ => False) w w' := by
  have HA := hideIt h
  have HB := hideIt h'
  clear h h'
  go_enter Try.func5, Try.ntmps5
  go_wp2_with fail
  refine Calls.mono (eawake_any _) ?_
  rintro e w1 ⟨rfl, hF1⟩
  have HF1 := hideIt hF1
  have hP := hideIt (longp_any ao ca a 100 w1 (sats_fr0 HA.out hF1) hl (by decide))
  have hQ := hideIt (longp_any bo cb b 100 w1 (sats_fr0 HB.out hF1) hl' (by decide))
  clear hF1
  go_wp2_with fail
  refine Calls.mono hP.out ?_
  rintro e w1' ⟨x, rfl, rfl, hbf⟩
  cases x with
  | true =>
    go_wp2_with fail
    go_ret
    exact ⟨rfl, HF1.out⟩
  | false =>
    obtain ⟨hl100, _⟩ := hbf rfl
    clear hP
    go_wp2_with fail
    refine Calls.mono hQ.out ?_
    rintro e w1'' ⟨x, rfl, rfl, hbf⟩
    cases x with
    | true =>
      go_wp2_with fail
      go_ret
      exact ⟨rfl, HF1.out⟩
    | false =>
      obtain ⟨hl100', _⟩ := hbf rfl
      clear hQ
      by_cases hk : 100 < k.size
      · have hk' : (100 : Int) < (k.size : Int) := by omega
        go_wp2_with fail
        go_ret
        exact ⟨rfl, HF1.out⟩
      · have hk' : ¬ (100 : Int) < (k.size : Int) := by omega
        have HC := hideIt (chk_later (by omega) HA.out ca w1'' HF1.out)
        by_cases hc : chkE a = 0
        · rw [hc] at HC
          go_wp2_with fail
          refine Calls.mono HC.out ?_
          rintro e w2 ⟨rfl, hF2⟩
          have HF2 := hideIt (HF1.out.trans hF2 (fun _ _ e => e))
          clear hF2 HC
          have HC := hideIt (chk_later (by omega) HB.out cb w2 HF2.out)
          by_cases hd : chkE b = 0
          · rw [hd] at HC
            obtain ⟨pE, pR⟩ := diff_apE hc hd
            have HDK := hideIt (diff_key hc hd k)
            have HDN := hideIt (diff_nil hc hd)
            have HDR := hideIt ((risesB_iff _).2 (diffL_rises hc hd))
            have hdl := diffL_len a b
            clear hc hd
            go_wp2_with fail
            refine Calls.mono HC.out ?_
            rintro e w3 ⟨rfl, hF3⟩
            have HF3 := hideIt (HF2.out.trans hF3 (fun _ _ e => e))
            have hD := hideIt (ediff_any ao bo ca cb a b w3 (sats_fr0 HA.out HF3.out) (sats_fr0 HB.out HF3.out) hca hcb (by omega) (by omega))
            clear hF3 HC
            go_wp2_with fail
            refine Calls.mono hD.out ?_
            rintro e w4 ⟨a4, c4, rfl, hG4⟩
            have HF4 := hideIt (HF3.out.trans hG4.fr (fun _ _ e => e))
            have hD2 := hideIt (echanged_any ao bo ca cb a b w4 (sats_fr0 HA.out HF4.out) (sats_fr0 HB.out HF4.out) hca hcb (by omega) (by omega))
            have HW4 := hideIt hG4.wsAt
            clear hG4 hD
            go_wp2_with fail
            refine Calls.mono hD2.out ?_
            rintro e w5 ⟨a5, c5, rfl, hG5⟩
            have HF5 := hideIt (HF4.out.trans hG5.fr (fun _ _ e => e))
            have HW5 := hideIt (HW4.out.fr0 hG5.fr)
            have HK5 := hideIt hG5.ksAt
            clear hG5 hD2 HW4
            have hAP := hideIt (by have := eapply_any ao a4 ca c4 a (diffL a b) w5 (sats_fr0 HA.out HF5.out) (Or.inr HW5.out) hca (by omega) (by omega); unfold ApPost at this; rw [pE, pR] at this; exact this)
            clear pE pR
            generalize hdd : diffL a b = d at *
            clear hdd
            obtain ⟨c, hc⟩ : ∃ c, c = d.map Prod.fst := ⟨_, rfl⟩
            rw [← hc] at HDK HDN HDR HK5 ⊢
            have hcl : c.length = d.length := by rw [hc, List.length_map]
            have HCG := hideIt (fun (i : Nat) (hi : i < d.length) (hi2 : i < c.length) => show c[i] = d[i].1 by simp only [hc, List.getElem_map])
            clear hc
            have hcl2 : ((c.length : Int) != (d.length : Int)) = false := by rw [hcl]; simp
            have HCL := hideIt hcl
            have hcb2 : c.length ≤ 200 := by omega
            clear hcl
            go_wp2_with fail
            refine Calls.mono hAP.out ?_
            rintro e w6 ⟨a6, c6, rfl, hrow, hF6, _⟩
            have HF6 := hideIt (HF5.out.trans hF6 (fun _ _ e => e))
            have HW6 := hideIt (HW5.out.fr0 hF6)
            have HK6 := hideIt (HK5.out.fr0 hF6)
            have hS := hideIt (samep_any a6 bo c6 cb b b w6 (Or.inr hrow.at) (sats_fr0 HB.out HF6.out) (by omega) (by omega))
            rw [show decide (b = b) = true from decide_eq_true rfl] at hS
            clear hrow hF6 hAP HW5 HK5
            go_wp2_with fail
            refine Calls.mono hS.out ?_
            rintro e w7 ⟨rfl, hF7⟩
            have HF7 := hideIt (HF6.out.trans hF7 (fun _ _ e => e))
            have HW7 := hideIt (HW6.out.fr0 hF7)
            have HK7 := hideIt (HK6.out.fr0 hF7)
            have hKC := hideIt (by have := kcheck_any a5 c5 c w7 (Or.inr HK7.out) (by omega); rw [HDR.out] at this; exact this)
            clear hF7 hS HW6 HK6
            go_wp2_with fail
            refine Calls.mono hKC.out ?_
            rintro e w8 ⟨rfl, hF8⟩
            have HF8 := hideIt (HF7.out.trans hF8 (fun _ _ e => e))
            have HW8 := hideIt (HW7.out.fr0 hF8)
            have HK8 := hideIt (HK7.out.fr0 hF8)
            clear hF8 hKC HW7 HK7
            go_wp2_with fail
            go_loopw [12] (fun s12 wr => ∃ j : Nat, s12 = .int .i64 j ∧ j ≤ d.length ∧ Hid (Fr (fun _ => False) w8 wr)) (fun s12 _ => d.length - (intOf s12).toNat)
            case atStart => exact ⟨0, rfl, Nat.zero_le _, hideIt (Fr.refl _ _)⟩
            case round =>
              obtain ⟨j, rfl, hj, HF⟩ := hrel
              by_cases hlt : j < d.length
              · have hlt2 : j < c.length := by have := HCL.out; omega
                obtain ⟨b3, off3, rfl, hb3, x0, _, _⟩ := ws_get (Or.inr (HW8.out.fr0 HF.out)) j hlt
                obtain ⟨b4, off4, rfl, hb4, x1⟩ := KsAt.get (Or.inr (HK8.out.fr0 HF.out)) j hlt2
                rw [HCG.out j hlt hlt2] at x1
                have hj' : (j : Int) < (d.length : Int) := by omega
                have hj'' : (j : Int) < (c.length : Int) := by omega
                generalize d[j].1 = x at *
                go_wp2_with fail
                go_quiet (fail)
                go_wp2_with fail
                go_roundw
                case measure => simp [intOf]; omega
                case rel => exact ⟨j + 1, by go_num, by omega, hideIt (HF.out.drewN _)⟩
              · obtain rfl : j = d.length := by omega
                have HF9 := hideIt (HF8.out.trans HF.out (fun _ _ e => e))
                have HK9 := hideIt (HK8.out.fr0 HF.out)
                have hG1 := hideIt (get_later (by omega) HA.out ca k wr HF9.out)
                go_wp2_with fail
                refine Calls.mono hG1.out ?_
                rintro e w10 ⟨rfl, hF10⟩
                have HF10 := hideIt (HF9.out.trans hF10 (fun _ _ e => e))
                have HK10 := hideIt (HK9.out.fr0 hF10)
                have hG2 := hideIt (get_later (by omega) HB.out cb k w10 HF10.out)
                clear hF10 hG1 HK9
                go_wp2_with fail
                refine Calls.mono hG2.out ?_
                rintro e w11 ⟨rfl, hF11⟩
                have HF11 := hideIt (HF10.out.trans hF11 (fun _ _ e => e))
                have HK11 := hideIt (HK10.out.fr0 hF11)
                clear hF11 hG2 HK10
                have hKH := hideIt (khas_any a5 c5 c k w11 (Or.inr HK11.out) (by omega))
                have hSP := hideIt (samep_any ao bo ca cb a b w11 (sats_fr0 HA.out HF11.out) (sats_fr0 HB.out HF11.out) (by omega) (by omega))
                have hin := HDK.out
                have hnil : ((c.length : Int) == 0) = decide (a = b) := by
                  rw [Bool.eq_iff_iff, beq_iff_eq, decide_eq_true_eq, ← HDN.out]
                  omega
                clear HDK HDN
                generalize getL a k = g1 at *
                generalize getL b k = g2 at *
                generalize inL c k = q at *
                generalize decide (a = b) = z at *
                by_cases hg : g1 = g2
                · subst hg
                  obtain rfl : q = false := by rw [hin]; simp
                  clear hin
                  go_wp2_with fail
                  refine Calls.mono hKH.out ?_
                  rintro e w12 ⟨rfl, rfl⟩
                  go_wp2_with fail
                  refine Calls.mono hSP.out ?_
                  rintro e w13 ⟨rfl, hF13⟩
                  have HF13 := hideIt (HF11.out.trans hF13 (fun _ _ e => e))
                  clear hF13
                  go_wp2_with fail
                  go_ret
                  exact ⟨by simp, HF13.out⟩
                · obtain rfl : q = true := by rw [hin, decide_eq_false hg]; rfl
                  obtain ⟨u1, u2⟩ := g1
                  obtain ⟨v1, v2⟩ := g2
                  by_cases hv : u1 = v1
                  · subst hv
                    clear hin
                    dsimp only at *
                    cases u2 <;> cases v2
                    · exact absurd rfl hg
                    · clear hg
                      go_wp2_with fail
                      refine Calls.mono hKH.out ?_
                      rintro e w12 ⟨rfl, rfl⟩
                      go_wp2_with fail
                      refine Calls.mono hSP.out ?_
                      rintro e w13 ⟨rfl, hF13⟩
                      have HF13 := hideIt (HF11.out.trans hF13 (fun _ _ e => e))
                      clear hF13
                      go_wp2_with fail
                      go_ret
                      exact ⟨by simp, HF13.out⟩
                    · clear hg
                      go_wp2_with fail
                      refine Calls.mono hKH.out ?_
                      rintro e w12 ⟨rfl, rfl⟩
                      go_wp2_with fail
                      refine Calls.mono hSP.out ?_
                      rintro e w13 ⟨rfl, hF13⟩
                      have HF13 := hideIt (HF11.out.trans hF13 (fun _ _ e => e))
                      clear hF13
                      go_wp2_with fail
                      go_ret
                      exact ⟨by simp, HF13.out⟩
                    · exact absurd rfl hg
                  · have hq : (u1.toList == v1.toList) = false := by rw [key_eq]; exact decide_eq_false hv
                    have hq2 : (u1.toList != v1.toList) = true := by simp only [bne, hq]; rfl
                    clear hin hg hv
                    dsimp only at *
                    go_wp2_with fail
                    refine Calls.mono hKH.out ?_
                    rintro e w12 ⟨rfl, rfl⟩
                    go_wp2_with fail
                    refine Calls.mono hSP.out ?_
                    rintro e w13 ⟨rfl, hF13⟩
                    have HF13 := hideIt (HF11.out.trans hF13 (fun _ _ e => e))
                    clear hF13
                    go_wp2_with fail
                    go_ret
                    exact ⟨by simp, HF13.out⟩
          · have hne : (chkE b != 0) = true := by simpa using hd
            clear hd
            generalize chkE b = c at *
            go_wp2_with fail
            refine Calls.mono HC.out ?_
            rintro e w3 ⟨rfl, hF3⟩
            have HF3 := hideIt (HF2.out.trans hF3 (fun _ _ e => e))
            clear hF3
            go_wp2_with fail
            go_ret
            exact ⟨rfl, HF3.out⟩
        · have hne : (chkE a != 0) = true := by simpa using hc
          clear hc
          generalize chkE a = c at *
          go_wp2_with fail
          refine Calls.mono HC.out ?_
          rintro e w2 ⟨rfl, hF2⟩
          have HF2 := hideIt (HF1.out.trans hF2 (fun _ _ e => e))
          clear hF2
          go_wp2_with fail
          go_ret
          exact ⟨rfl, HF2.out⟩

end Go.Proofs.Ytefikadaiconaaa
