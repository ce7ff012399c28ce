/- Cell, the document's: May, one, Apply. -/
import Derived.Test.YtefikadaiconaaaGb
namespace Go.Proofs.Ytefikadaiconaaa
open Go.RowKit Go.IntWalk
set_option linter.unusedSimpArgs false
set_option linter.unusedVariables false

set_option maxRecDepth 100000 in
set_option maxHeartbeats 1000000 in
theorem qmay_any (x : Wr) (w : World) : Calls Try.prog 46 #[wrV x] w fun e w' => e = .returned (.bool (mayB x)) ∧ Fr (fun _ => False) w w' := by
  have HK := hideIt (fun u => qkey_any x.1 u)
  unfold mayB wrV
  obtain ⟨k, v, d⟩ := x
  dsimp only at *
  have hpe := pk_empty v
  generalize keyB k = kb at *
  by_cases h64 : v.size ≤ 64
  · have hv : valB v = true := decide_eq_true h64
    have h64' : (v.size : Int) ≤ 64 := by omega
    rw [hv]
    clear hv h64
    by_cases hv0 : v.size = 0
    · have e1 : v.toList.isEmpty = true := by rw [hpe]; exact decide_eq_true hv0
      rw [decide_eq_true hv0]
      clear hpe hv0
      cases kb <;> cases d
      all_goals
        go_enter Try.func46, Try.ntmps46
        go_wp2_with (first | (go_at_call 21; refine (HK.out _).mono ?_; rintro e w' ⟨rfl, rfl⟩))
        go_ret
        exact ⟨rfl, (Fr.refl _ _).alloc _⟩
    · have e1 : v.toList.isEmpty = false := by rw [hpe]; exact decide_eq_false hv0
      rw [decide_eq_false hv0]
      clear hpe hv0
      cases kb <;> cases d
      all_goals
        go_enter Try.func46, Try.ntmps46
        go_wp2_with (first | (go_at_call 21; refine (HK.out _).mono ?_; rintro e w' ⟨rfl, rfl⟩))
        go_ret
        exact ⟨rfl, (Fr.refl _ _).alloc _⟩
  · have hv : valB v = false := decide_eq_false h64
    have h64' : ¬ (v.size : Int) ≤ 64 := by omega
    rw [hv]
    clear hv h64 hpe
    cases kb
    all_goals
      go_enter Try.func46, Try.ntmps46
      go_wp2_with (first | (go_at_call 21; refine (HK.out _).mono ?_; rintro e w' ⟨rfl, rfl⟩))
      go_ret
      exact ⟨rfl, (Fr.refl _ _).alloc _⟩

/-- A state behind a write. -/
def oneL (l : List Sp) (x : Wr) : List Sp := behL [x.1] (fun _ => x) l
theorem oneL_eq (l : List Sp) (x : Wr) : oneL l x = (l.take (placeL l x.1) ++ (if x.2.2 then [] else [(x.1, x.2.1)])) ++ l.drop (placeL l x.1 + (if hereB l x.1 then 1 else 0)) := by
  unfold oneL
  rw [behL, behL, List.append_assoc]

theorem rises_one (k : ByteArray) : Rises [k] := List.pairwise_singleton _ _
theorem apL_nil (l : List Sp) : apL l [] = l := rfl
theorem apL_snoc (l : List Sp) (ws : List Wr) (x : Wr) (hr : Rises (l.map Prod.fst)) : apL l (ws ++ [x]) = oneL (apL l ws) x := by
  have hr1 : Rises ((apL l ws).map Prod.fst) := behL_rises _ _ _ (setL_rises _) hr
  refine sp_unique (behL_rises _ _ _ (setL_rises _) hr) (behL_rises _ _ _ (rises_one _) hr1) fun p => ?_
  have h1 := mem_apL l (ws ++ [x]) hr p
  have h2 := mem_behL (fun _ => x) [x.1] (apL l ws) (rises_one _) hr1 p
  have h3 := mem_apL l ws hr p
  rw [h1]
  unfold oneL
  rw [h2, h3, lastW_snoc, List.map_append]
  simp only [List.mem_append, List.map_cons, List.map_nil, List.mem_singleton]
  by_cases hx : x.1 = p.1
  · simp [hx]
  · have hx2 : ¬ p.1 = x.1 := fun e => hx e.symm
    simp [hx, hx2]

set_option maxRecDepth 100000 in
set_option maxHeartbeats 500000 in
theorem qone_any (ao : Option Addr) (cap : Nat) (l : List Sp) (x : Wr) (w : World) (h : l = [] ∨ SpsAt w ao l) (hcap : l.length ≤ cap) (hl : l.length ≤ 1000000) :
    Calls Try.prog 47 #[.slice ao l.length cap, wrV x] w (BehPost (oneL l x) w) := by
  rw [oneL_eq]
  obtain ⟨k, v, d⟩ := x
  dsimp only
  have hF0 : Fr (fun _ => False) w (w.alloc (.cells #[.string k, .string v, .bool d] 52)) := (Fr.refl _ _).alloc _
  have HL := hideIt (sats_fr0 h hF0)
  have HAT := hideIt (qat_any k ao cap l (by omega) _ (sats_fr0 h hF0))
  have HBX := hideIt (fun w' (hF : Fr (fun _ => False) (w.alloc (.cells #[.string k, .string v, .bool d] 52)) w') => (⟨hF.cell0 (cellNew w _ _ _ 0 rfl), hF.cell0 (cellNew w _ _ _ 1 rfl), hF.cell0 (cellNew w _ _ _ 2 rfl)⟩ : w'.cell? ⟨w.heap.size, 0, none⟩ = some (.string k) ∧ w'.cell? ⟨w.heap.size, 1, none⟩ = some (.string v) ∧ w'.cell? ⟨w.heap.size, 2, none⟩ = some (.bool d)))
  have HF0 := hideIt hF0
  have hpl := placeL_le l k
  have hhl := hs_le l k
  have HTK := hideIt (take_at (sats_fr0 h hF0) (placeL l k))
  have HDR := hideIt (drop_at (sats_fr0 h hF0) hcap (placeL l k + (if hereB l k then 1 else 0)) hhl)
  have HHG := hideIt (here_get l k)
  clear h hF0
  unfold wrV
  dsimp only
  generalize hRES : (l.take (placeL l k) ++ (if d then [] else [(k, v)])) ++ l.drop (placeL l k + (if hereB l k then 1 else 0)) = RES
  have HRES := hideIt hRES
  clear hRES
  generalize placeL l k = P at *
  generalize hereB l k = hb at *
  cases d
  · by_cases hPl : P < l.length
    · obtain ⟨b3, off3, rfl, hb3, _⟩ := sps_get HL.out P hPl
      have hPl' : (P : Int) < (l.length : Int) := by omega
      by_cases hx : l[P].1 = k
      · obtain rfl : hb = true := HHG.out.2 ⟨hPl, hx⟩
        have HLK := hideIt hx
        have hq : (k.toList == k.toList) = true := by simp
        simp only [if_true, Option.map_some, Addr.add_lit] at HDR hhl HRES
        try simp only [Bool.false_eq_true, if_false] at HRES
        clear hx HHG
        go_enter Try.func47, Try.ntmps47
        go_wp2_with fail
        generalize hW0 : w.alloc (.cells #[.string k, .string v, .bool false] 52) = W0 at *
        clear hW0
        refine Calls.mono HAT.out ?_
        rintro e w1 ⟨rfl, hw1⟩
        subst hw1
        have hrow0 : SpRow (w1.alloc (.cells #[] 60)) (some ⟨w1.heap.size, 0, none⟩) 0 [] := World.ownsRow_made w1 #[] 0 (Nat.zero_le _) (by decide) rfl
        have hB0 : Beh w1 (w1.alloc (.cells #[] 60)) (some ⟨w1.heap.size, 0, none⟩) 0 [] none [] := ⟨hrow0, fun q ⟨a, e1, e2⟩ => (by obtain rfl := Option.some.inj e1; simp at e2; omega), (Fr.refl _ _).alloc _, Or.inl rfl, fun q ⟨a, e, _⟩ => (by cases e), fun q ⟨a, e, _⟩ => (by cases e)⟩
        obtain ⟨a2, c2, w2, hrun2, hB2⟩ := hB0.app (l.take P) (some ⟨b3, off3, none⟩) cap (sats_fr0 HTK.out hB0.fr) (by simp; omega)
        rw [List.nil_append] at hrun2 hB2
        obtain ⟨T1, hT1⟩ : ∃ A, A = l.take P := ⟨_, rfl⟩
        have hT1l : T1.length = P := by rw [hT1, List.length_take, Nat.min_eq_left hpl]
        rw [← hT1] at hrun2 hB2 HRES
        rw [hT1l] at hrun2
        have HR2 := hideIt hrun2
        have HB2 := hideIt hB2
        have HT1L := hideIt hT1l
        have hP1 : (P : Int) ≤ (l.length : Int) := by omega
        have hP2 : (P : Int) ≤ (cap : Int) := by omega
        obtain ⟨b0, b1, b2⟩ := HBX.out w2 hB2.fr
        clear hrow0 hB0 hrun2 hB2 hT1 hT1l HAT HTK
        obtain ⟨a3, c3, w3, hrun3, hB3⟩ := (HB2.out.quiet ((Fr.refl _ _).alloc (.cells #[.string k, .string v] 60))).app [(k, v)] (some ⟨w2.heap.size, 0, none⟩) 1 (Or.inr (sps_one (k, v) w2)) (by rw [HT1L.out]; simp; omega)
        rw [HT1L.out, List.length_append, HT1L.out] at hrun3
        obtain ⟨T2, hT2⟩ : ∃ A, A = T1 ++ [(k, v)] := ⟨_, rfl⟩
        rw [← hT2] at HRES
        have hT2' : T2 = T1 ++ [(k, v)] := hT2
        have HB3 := hideIt (show Beh w1 w3 a3 c3 T2 none [] by rw [hT2']; exact hB3)
        have HT2L := hideIt (show T2.length = P + 1 by rw [hT2', List.length_append, HT1L.out]; rfl)
        have HR3 := hideIt hrun3
        clear hT2 hT2' HB2 HT1L hrun3 hB3
        go_wp2_with (first | (at_builtin; refine wpList_append_run _ rfl (.tmp 11) (.tmp 14) 22 22 rfl _ _ _ _ rfl rfl HR2.out ?_) | (at_builtin; refine wpList_append_run _ rfl (.tmp 19) (.tmp 25) 22 22 rfl _ _ _ _ rfl rfl HR3.out ?_))
        obtain ⟨b0', b1', b2'⟩ := HBX.out w3 HB3.out.fr
        obtain ⟨b4, off4, e4, hb4, x0, x1⟩ := sps_get (sats_fr0 HL.out HB3.out.fr) P hPl
        obtain ⟨rfl, rfl⟩ : b3 = b4 ∧ off3 = off4 := by simpa using e4
        rw [HLK.out] at x0
        clear e4
        go_quiet (fail)
        obtain ⟨R, hR⟩ : ∃ R, R = l.drop (P + 1) := ⟨_, rfl⟩
        rw [← hR] at HDR HRES
        have hRl : R.length = l.length - (P + 1) := by rw [hR, List.length_drop]
        obtain ⟨a5, c5, w5, hrun5, hB5⟩ := (HB3.out.quiet ((Fr.refl _ _).drewN nq)).app R (if cap = P + 1 then some ⟨b3, off3, none⟩ else some ⟨b3, off3 + (P + 1) * 2, none⟩) (cap - (P + 1)) (sats_fr0 HDR.out (HB3.out.fr.drewN nq)) (by rw [HT2L.out, hRl]; omega)
        obtain ⟨n5, hn5⟩ : ∃ n, n = (T2 ++ R).length := ⟨_, rfl⟩
        rw [← hn5] at hrun5
        rw [HT2L.out, hRl] at hrun5
        have HR5 := hideIt hrun5
        have HB5 := hideIt hB5
        clear hrun5 hB5
        have HFIN := hideIt (show BehPost RES w (.returned (.slice a5 n5 c5)) w5 from by
          rw [hn5]
          rw [← HRES.out]
          exact ⟨a5, c5, rfl, HB5.out.row, HF0.out.trans HB5.out.fr (fun _ _ e => e), fun k hk => Nat.le_trans HF0.out.size (HB5.out.new k hk)⟩)
        have hN1 : ((P + 1 : Nat) : Int) ≤ (l.length : Int) := by omega
        have hN2 : ((P + 1 : Nat) : Int) ≤ (cap : Int) := by omega
        clear hn5 hR hRl HB5 HRES HDR HL HBX HB3 HT2L HF0
        go_wp2_with (first | (at_builtin; refine wpList_append_run _ rfl (.tmp 43) (.tmp 46) 22 22 rfl _ _ _ _ rfl rfl HR5.out ?_))
        all_goals
          go_ret
          exact HFIN.out
      · obtain rfl : hb = false := by
          cases hb with
          | false => rfl
          | true => obtain ⟨_, e⟩ := HHG.out.1 rfl; exact absurd e hx
        have hq : (l[P].1.toList == k.toList) = false := by rw [key_eq]; exact decide_eq_false hx
        simp only [Bool.false_eq_true, if_false, if_true, Nat.add_zero, Option.map_some, Addr.add_lit] at HDR hhl HRES
        clear hx HHG
        go_enter Try.func47, Try.ntmps47
        go_wp2_with fail
        generalize hW0 : w.alloc (.cells #[.string k, .string v, .bool false] 52) = W0 at *
        clear hW0
        refine Calls.mono HAT.out ?_
        rintro e w1 ⟨rfl, hw1⟩
        subst hw1
        have hrow0 : SpRow (w1.alloc (.cells #[] 60)) (some ⟨w1.heap.size, 0, none⟩) 0 [] := World.ownsRow_made w1 #[] 0 (Nat.zero_le _) (by decide) rfl
        have hB0 : Beh w1 (w1.alloc (.cells #[] 60)) (some ⟨w1.heap.size, 0, none⟩) 0 [] none [] := ⟨hrow0, fun q ⟨a, e1, e2⟩ => (by obtain rfl := Option.some.inj e1; simp at e2; omega), (Fr.refl _ _).alloc _, Or.inl rfl, fun q ⟨a, e, _⟩ => (by cases e), fun q ⟨a, e, _⟩ => (by cases e)⟩
        obtain ⟨a2, c2, w2, hrun2, hB2⟩ := hB0.app (l.take P) (some ⟨b3, off3, none⟩) cap (sats_fr0 HTK.out hB0.fr) (by simp; omega)
        rw [List.nil_append] at hrun2 hB2
        obtain ⟨T1, hT1⟩ : ∃ A, A = l.take P := ⟨_, rfl⟩
        have hT1l : T1.length = P := by rw [hT1, List.length_take, Nat.min_eq_left hpl]
        rw [← hT1] at hrun2 hB2 HRES
        rw [hT1l] at hrun2
        have HR2 := hideIt hrun2
        have HB2 := hideIt hB2
        have HT1L := hideIt hT1l
        have hP1 : (P : Int) ≤ (l.length : Int) := by omega
        have hP2 : (P : Int) ≤ (cap : Int) := by omega
        obtain ⟨b0, b1, b2⟩ := HBX.out w2 hB2.fr
        clear hrow0 hB0 hrun2 hB2 hT1 hT1l HAT HTK
        obtain ⟨a3, c3, w3, hrun3, hB3⟩ := (HB2.out.quiet ((Fr.refl _ _).alloc (.cells #[.string k, .string v] 60))).app [(k, v)] (some ⟨w2.heap.size, 0, none⟩) 1 (Or.inr (sps_one (k, v) w2)) (by rw [HT1L.out]; simp; omega)
        rw [HT1L.out, List.length_append, HT1L.out] at hrun3
        obtain ⟨T2, hT2⟩ : ∃ A, A = T1 ++ [(k, v)] := ⟨_, rfl⟩
        rw [← hT2] at HRES
        have hT2' : T2 = T1 ++ [(k, v)] := hT2
        have HB3 := hideIt (show Beh w1 w3 a3 c3 T2 none [] by rw [hT2']; exact hB3)
        have HT2L := hideIt (show T2.length = P + 1 by rw [hT2', List.length_append, HT1L.out]; rfl)
        have HR3 := hideIt hrun3
        clear hT2 hT2' HB2 HT1L hrun3 hB3
        go_wp2_with (first | (at_builtin; refine wpList_append_run _ rfl (.tmp 11) (.tmp 14) 22 22 rfl _ _ _ _ rfl rfl HR2.out ?_) | (at_builtin; refine wpList_append_run _ rfl (.tmp 19) (.tmp 25) 22 22 rfl _ _ _ _ rfl rfl HR3.out ?_))
        obtain ⟨b0', b1', b2'⟩ := HBX.out w3 HB3.out.fr
        obtain ⟨b4, off4, e4, hb4, x0, x1⟩ := sps_get (sats_fr0 HL.out HB3.out.fr) P hPl
        obtain ⟨rfl, rfl⟩ : b3 = b4 ∧ off3 = off4 := by simpa using e4
        skip
        clear e4
        generalize l[P].1 = y at *
        go_quiet (fail)
        have hcp : ¬ cap = P := by omega
        rw [if_neg hcp] at HDR
        obtain ⟨R, hR⟩ : ∃ R, R = l.drop (P) := ⟨_, rfl⟩
        rw [← hR] at HDR HRES
        have hRl : R.length = l.length - (P) := by rw [hR, List.length_drop]
        obtain ⟨a5, c5, w5, hrun5, hB5⟩ := (HB3.out.quiet ((Fr.refl _ _).drewN nq)).app R (some ⟨b3, off3 + P * 2, none⟩) (cap - (P)) (sats_fr0 HDR.out (HB3.out.fr.drewN nq)) (by rw [HT2L.out, hRl]; omega)
        obtain ⟨n5, hn5⟩ : ∃ n, n = (T2 ++ R).length := ⟨_, rfl⟩
        rw [← hn5] at hrun5
        rw [HT2L.out, hRl] at hrun5
        have HR5 := hideIt hrun5
        have HB5 := hideIt hB5
        clear hrun5 hB5
        have HFIN := hideIt (show BehPost RES w (.returned (.slice a5 n5 c5)) w5 from by
          rw [hn5]
          rw [← HRES.out]
          exact ⟨a5, c5, rfl, HB5.out.row, HF0.out.trans HB5.out.fr (fun _ _ e => e), fun k hk => Nat.le_trans HF0.out.size (HB5.out.new k hk)⟩)
        have hN1 : ((P : Nat) : Int) ≤ (l.length : Int) := by omega
        have hN2 : ((P : Nat) : Int) ≤ (cap : Int) := by omega
        clear hn5 hR hRl HB5 HRES HDR HL HBX HB3 HT2L HF0
        go_wp2_with (first | (at_builtin; refine wpList_append_run _ rfl (.tmp 43) (.tmp 46) 22 22 rfl _ _ _ _ rfl rfl HR5.out ?_))
        all_goals
          go_ret
          exact HFIN.out
    · obtain rfl : hb = false := by
        cases hb with
        | false => rfl
        | true => obtain ⟨e, _⟩ := HHG.out.1 rfl; exact absurd e hPl
      have hPn : ¬ (P : Int) < (l.length : Int) := by omega
      simp only [Bool.false_eq_true, if_false, if_true, Nat.add_zero] at HDR hhl HRES
      clear HHG
      go_enter Try.func47, Try.ntmps47
      go_wp2_with fail
      generalize hW0 : w.alloc (.cells #[.string k, .string v, .bool false] 52) = W0 at *
      clear hW0
      refine Calls.mono HAT.out ?_
      rintro e w1 ⟨rfl, hw1⟩
      subst hw1
      have hrow0 : SpRow (w1.alloc (.cells #[] 60)) (some ⟨w1.heap.size, 0, none⟩) 0 [] := World.ownsRow_made w1 #[] 0 (Nat.zero_le _) (by decide) rfl
      have hB0 : Beh w1 (w1.alloc (.cells #[] 60)) (some ⟨w1.heap.size, 0, none⟩) 0 [] none [] := ⟨hrow0, fun q ⟨a, e1, e2⟩ => (by obtain rfl := Option.some.inj e1; simp at e2; omega), (Fr.refl _ _).alloc _, Or.inl rfl, fun q ⟨a, e, _⟩ => (by cases e), fun q ⟨a, e, _⟩ => (by cases e)⟩
      obtain ⟨a2, c2, w2, hrun2, hB2⟩ := hB0.app (l.take P) ao cap (sats_fr0 HTK.out hB0.fr) (by simp; omega)
      rw [List.nil_append] at hrun2 hB2
      obtain ⟨T1, hT1⟩ : ∃ A, A = l.take P := ⟨_, rfl⟩
      have hT1l : T1.length = P := by rw [hT1, List.length_take, Nat.min_eq_left hpl]
      rw [← hT1] at hrun2 hB2 HRES
      rw [hT1l] at hrun2
      have HR2 := hideIt hrun2
      have HB2 := hideIt hB2
      have HT1L := hideIt hT1l
      have hP1 : (P : Int) ≤ (l.length : Int) := by omega
      have hP2 : (P : Int) ≤ (cap : Int) := by omega
      obtain ⟨b0, b1, b2⟩ := HBX.out w2 hB2.fr
      clear hrow0 hB0 hrun2 hB2 hT1 hT1l HAT HTK
      obtain ⟨a3, c3, w3, hrun3, hB3⟩ := (HB2.out.quiet ((Fr.refl _ _).alloc (.cells #[.string k, .string v] 60))).app [(k, v)] (some ⟨w2.heap.size, 0, none⟩) 1 (Or.inr (sps_one (k, v) w2)) (by rw [HT1L.out]; simp; omega)
      rw [HT1L.out, List.length_append, HT1L.out] at hrun3
      obtain ⟨T2, hT2⟩ : ∃ A, A = T1 ++ [(k, v)] := ⟨_, rfl⟩
      rw [← hT2] at HRES
      have hT2' : T2 = T1 ++ [(k, v)] := hT2
      have HB3 := hideIt (show Beh w1 w3 a3 c3 T2 none [] by rw [hT2']; exact hB3)
      have HT2L := hideIt (show T2.length = P + 1 by rw [hT2', List.length_append, HT1L.out]; rfl)
      have HR3 := hideIt hrun3
      clear hT2 hT2' HB2 HT1L hrun3 hB3
      go_wp2_with (first | (at_builtin; refine wpList_append_run _ rfl (.tmp 11) (.tmp 14) 22 22 rfl _ _ _ _ rfl rfl HR2.out ?_) | (at_builtin; refine wpList_append_run _ rfl (.tmp 19) (.tmp 25) 22 22 rfl _ _ _ _ rfl rfl HR3.out ?_))
      obtain ⟨b0', b1', b2'⟩ := HBX.out w3 HB3.out.fr
      go_quiet (fail)
      obtain ⟨R, hR⟩ : ∃ R, R = l.drop (P) := ⟨_, rfl⟩
      rw [← hR] at HDR HRES
      have hRl : R.length = l.length - (P) := by rw [hR, List.length_drop]
      obtain ⟨a5, c5, w5, hrun5, hB5⟩ := (HB3.out.quiet ((Fr.refl _ _).drewN nq)).app R (if cap = P then ao else Option.map (fun x => x.add (P * 2)) ao) (cap - (P)) (sats_fr0 HDR.out (HB3.out.fr.drewN nq)) (by rw [HT2L.out, hRl]; omega)
      obtain ⟨n5, hn5⟩ : ∃ n, n = (T2 ++ R).length := ⟨_, rfl⟩
      rw [← hn5] at hrun5
      rw [HT2L.out, hRl] at hrun5
      have HR5 := hideIt hrun5
      have HB5 := hideIt hB5
      clear hrun5 hB5
      have HFIN := hideIt (show BehPost RES w (.returned (.slice a5 n5 c5)) w5 from by
        rw [hn5]
        rw [← HRES.out]
        exact ⟨a5, c5, rfl, HB5.out.row, HF0.out.trans HB5.out.fr (fun _ _ e => e), fun k hk => Nat.le_trans HF0.out.size (HB5.out.new k hk)⟩)
      have hN1 : ((P : Nat) : Int) ≤ (l.length : Int) := by omega
      have hN2 : ((P : Nat) : Int) ≤ (cap : Int) := by omega
      clear hn5 hR hRl HB5 HRES HDR HL HBX HB3 HT2L HF0
      go_wp2_with (first | (at_builtin; refine wpList_append_run _ rfl (.tmp 43) (.tmp 46) 22 22 rfl _ _ _ _ rfl rfl HR5.out ?_))
      all_goals
        go_ret
        exact HFIN.out
  · by_cases hPl : P < l.length
    · obtain ⟨b3, off3, rfl, hb3, _⟩ := sps_get HL.out P hPl
      have hPl' : (P : Int) < (l.length : Int) := by omega
      by_cases hx : l[P].1 = k
      · obtain rfl : hb = true := HHG.out.2 ⟨hPl, hx⟩
        have HLK := hideIt hx
        have hq : (k.toList == k.toList) = true := by simp
        simp only [if_true, Option.map_some, Addr.add_lit] at HDR hhl HRES
        try simp only [Bool.false_eq_true, if_false] at HRES
        clear hx HHG
        go_enter Try.func47, Try.ntmps47
        go_wp2_with fail
        generalize hW0 : w.alloc (.cells #[.string k, .string v, .bool true] 52) = W0 at *
        clear hW0
        refine Calls.mono HAT.out ?_
        rintro e w1 ⟨rfl, hw1⟩
        subst hw1
        have hrow0 : SpRow (w1.alloc (.cells #[] 60)) (some ⟨w1.heap.size, 0, none⟩) 0 [] := World.ownsRow_made w1 #[] 0 (Nat.zero_le _) (by decide) rfl
        have hB0 : Beh w1 (w1.alloc (.cells #[] 60)) (some ⟨w1.heap.size, 0, none⟩) 0 [] none [] := ⟨hrow0, fun q ⟨a, e1, e2⟩ => (by obtain rfl := Option.some.inj e1; simp at e2; omega), (Fr.refl _ _).alloc _, Or.inl rfl, fun q ⟨a, e, _⟩ => (by cases e), fun q ⟨a, e, _⟩ => (by cases e)⟩
        obtain ⟨a2, c2, w2, hrun2, hB2⟩ := hB0.app (l.take P) (some ⟨b3, off3, none⟩) cap (sats_fr0 HTK.out hB0.fr) (by simp; omega)
        rw [List.nil_append] at hrun2 hB2
        obtain ⟨T1, hT1⟩ : ∃ A, A = l.take P := ⟨_, rfl⟩
        have hT1l : T1.length = P := by rw [hT1, List.length_take, Nat.min_eq_left hpl]
        rw [← hT1] at hrun2 hB2 HRES
        rw [hT1l] at hrun2
        have HR2 := hideIt hrun2
        have HB2 := hideIt hB2
        have HT1L := hideIt hT1l
        have hP1 : (P : Int) ≤ (l.length : Int) := by omega
        have hP2 : (P : Int) ≤ (cap : Int) := by omega
        obtain ⟨b0, b1, b2⟩ := HBX.out w2 hB2.fr
        clear hrow0 hB0 hrun2 hB2 hT1 hT1l HAT HTK
        obtain ⟨T2, hT2⟩ : ∃ A, A = T1 ++ ([] : List Sp) := ⟨_, rfl⟩
        rw [← hT2] at HRES
        have hT2' : T2 = T1 := by rw [hT2, List.append_nil]
        have HB3 := hideIt (show Beh w1 w2 a2 c2 T2 none [] by rw [hT2']; exact HB2.out)
        have HT2L := hideIt (show T2.length = P by rw [hT2']; exact HT1L.out)
        clear hT2 hT2' HB2 HT1L
        go_wp2_with (first | (at_builtin; refine wpList_append_run _ rfl (.tmp 11) (.tmp 14) 22 22 rfl _ _ _ _ rfl rfl HR2.out ?_))
        obtain ⟨b0', b1', b2'⟩ := HBX.out w2 HB3.out.fr
        obtain ⟨b4, off4, e4, hb4, x0, x1⟩ := sps_get (sats_fr0 HL.out HB3.out.fr) P hPl
        obtain ⟨rfl, rfl⟩ : b3 = b4 ∧ off3 = off4 := by simpa using e4
        rw [HLK.out] at x0
        clear e4
        go_quiet (fail)
        obtain ⟨R, hR⟩ : ∃ R, R = l.drop (P + 1) := ⟨_, rfl⟩
        rw [← hR] at HDR HRES
        have hRl : R.length = l.length - (P + 1) := by rw [hR, List.length_drop]
        obtain ⟨a5, c5, w5, hrun5, hB5⟩ := (HB3.out.quiet ((Fr.refl _ _).drewN nq)).app R (if cap = P + 1 then some ⟨b3, off3, none⟩ else some ⟨b3, off3 + (P + 1) * 2, none⟩) (cap - (P + 1)) (sats_fr0 HDR.out (HB3.out.fr.drewN nq)) (by rw [HT2L.out, hRl]; omega)
        obtain ⟨n5, hn5⟩ : ∃ n, n = (T2 ++ R).length := ⟨_, rfl⟩
        rw [← hn5] at hrun5
        rw [HT2L.out, hRl] at hrun5
        have HR5 := hideIt hrun5
        have HB5 := hideIt hB5
        clear hrun5 hB5
        have HFIN := hideIt (show BehPost RES w (.returned (.slice a5 n5 c5)) w5 from by
          rw [hn5]
          rw [← HRES.out]
          exact ⟨a5, c5, rfl, HB5.out.row, HF0.out.trans HB5.out.fr (fun _ _ e => e), fun k hk => Nat.le_trans HF0.out.size (HB5.out.new k hk)⟩)
        have hN1 : ((P + 1 : Nat) : Int) ≤ (l.length : Int) := by omega
        have hN2 : ((P + 1 : Nat) : Int) ≤ (cap : Int) := by omega
        clear hn5 hR hRl HB5 HRES HDR HL HBX HB3 HT2L HF0
        go_wp2_with (first | (at_builtin; refine wpList_append_run _ rfl (.tmp 43) (.tmp 46) 22 22 rfl _ _ _ _ rfl rfl HR5.out ?_))
        all_goals
          go_ret
          exact HFIN.out
      · obtain rfl : hb = false := by
          cases hb with
          | false => rfl
          | true => obtain ⟨_, e⟩ := HHG.out.1 rfl; exact absurd e hx
        have hq : (l[P].1.toList == k.toList) = false := by rw [key_eq]; exact decide_eq_false hx
        simp only [Bool.false_eq_true, if_false, if_true, Nat.add_zero, Option.map_some, Addr.add_lit] at HDR hhl HRES
        clear hx HHG
        go_enter Try.func47, Try.ntmps47
        go_wp2_with fail
        generalize hW0 : w.alloc (.cells #[.string k, .string v, .bool true] 52) = W0 at *
        clear hW0
        refine Calls.mono HAT.out ?_
        rintro e w1 ⟨rfl, hw1⟩
        subst hw1
        have hrow0 : SpRow (w1.alloc (.cells #[] 60)) (some ⟨w1.heap.size, 0, none⟩) 0 [] := World.ownsRow_made w1 #[] 0 (Nat.zero_le _) (by decide) rfl
        have hB0 : Beh w1 (w1.alloc (.cells #[] 60)) (some ⟨w1.heap.size, 0, none⟩) 0 [] none [] := ⟨hrow0, fun q ⟨a, e1, e2⟩ => (by obtain rfl := Option.some.inj e1; simp at e2; omega), (Fr.refl _ _).alloc _, Or.inl rfl, fun q ⟨a, e, _⟩ => (by cases e), fun q ⟨a, e, _⟩ => (by cases e)⟩
        obtain ⟨a2, c2, w2, hrun2, hB2⟩ := hB0.app (l.take P) (some ⟨b3, off3, none⟩) cap (sats_fr0 HTK.out hB0.fr) (by simp; omega)
        rw [List.nil_append] at hrun2 hB2
        obtain ⟨T1, hT1⟩ : ∃ A, A = l.take P := ⟨_, rfl⟩
        have hT1l : T1.length = P := by rw [hT1, List.length_take, Nat.min_eq_left hpl]
        rw [← hT1] at hrun2 hB2 HRES
        rw [hT1l] at hrun2
        have HR2 := hideIt hrun2
        have HB2 := hideIt hB2
        have HT1L := hideIt hT1l
        have hP1 : (P : Int) ≤ (l.length : Int) := by omega
        have hP2 : (P : Int) ≤ (cap : Int) := by omega
        obtain ⟨b0, b1, b2⟩ := HBX.out w2 hB2.fr
        clear hrow0 hB0 hrun2 hB2 hT1 hT1l HAT HTK
        obtain ⟨T2, hT2⟩ : ∃ A, A = T1 ++ ([] : List Sp) := ⟨_, rfl⟩
        rw [← hT2] at HRES
        have hT2' : T2 = T1 := by rw [hT2, List.append_nil]
        have HB3 := hideIt (show Beh w1 w2 a2 c2 T2 none [] by rw [hT2']; exact HB2.out)
        have HT2L := hideIt (show T2.length = P by rw [hT2']; exact HT1L.out)
        clear hT2 hT2' HB2 HT1L
        go_wp2_with (first | (at_builtin; refine wpList_append_run _ rfl (.tmp 11) (.tmp 14) 22 22 rfl _ _ _ _ rfl rfl HR2.out ?_))
        obtain ⟨b0', b1', b2'⟩ := HBX.out w2 HB3.out.fr
        obtain ⟨b4, off4, e4, hb4, x0, x1⟩ := sps_get (sats_fr0 HL.out HB3.out.fr) P hPl
        obtain ⟨rfl, rfl⟩ : b3 = b4 ∧ off3 = off4 := by simpa using e4
        skip
        clear e4
        generalize l[P].1 = y at *
        go_quiet (fail)
        have hcp : ¬ cap = P := by omega
        rw [if_neg hcp] at HDR
        obtain ⟨R, hR⟩ : ∃ R, R = l.drop (P) := ⟨_, rfl⟩
        rw [← hR] at HDR HRES
        have hRl : R.length = l.length - (P) := by rw [hR, List.length_drop]
        obtain ⟨a5, c5, w5, hrun5, hB5⟩ := (HB3.out.quiet ((Fr.refl _ _).drewN nq)).app R (some ⟨b3, off3 + P * 2, none⟩) (cap - (P)) (sats_fr0 HDR.out (HB3.out.fr.drewN nq)) (by rw [HT2L.out, hRl]; omega)
        obtain ⟨n5, hn5⟩ : ∃ n, n = (T2 ++ R).length := ⟨_, rfl⟩
        rw [← hn5] at hrun5
        rw [HT2L.out, hRl] at hrun5
        have HR5 := hideIt hrun5
        have HB5 := hideIt hB5
        clear hrun5 hB5
        have HFIN := hideIt (show BehPost RES w (.returned (.slice a5 n5 c5)) w5 from by
          rw [hn5]
          rw [← HRES.out]
          exact ⟨a5, c5, rfl, HB5.out.row, HF0.out.trans HB5.out.fr (fun _ _ e => e), fun k hk => Nat.le_trans HF0.out.size (HB5.out.new k hk)⟩)
        have hN1 : ((P : Nat) : Int) ≤ (l.length : Int) := by omega
        have hN2 : ((P : Nat) : Int) ≤ (cap : Int) := by omega
        clear hn5 hR hRl HB5 HRES HDR HL HBX HB3 HT2L HF0
        go_wp2_with (first | (at_builtin; refine wpList_append_run _ rfl (.tmp 43) (.tmp 46) 22 22 rfl _ _ _ _ rfl rfl HR5.out ?_))
        all_goals
          go_ret
          exact HFIN.out
    · obtain rfl : hb = false := by
        cases hb with
        | false => rfl
        | true => obtain ⟨e, _⟩ := HHG.out.1 rfl; exact absurd e hPl
      have hPn : ¬ (P : Int) < (l.length : Int) := by omega
      simp only [Bool.false_eq_true, if_false, if_true, Nat.add_zero] at HDR hhl HRES
      clear HHG
      go_enter Try.func47, Try.ntmps47
      go_wp2_with fail
      generalize hW0 : w.alloc (.cells #[.string k, .string v, .bool true] 52) = W0 at *
      clear hW0
      refine Calls.mono HAT.out ?_
      rintro e w1 ⟨rfl, hw1⟩
      subst hw1
      have hrow0 : SpRow (w1.alloc (.cells #[] 60)) (some ⟨w1.heap.size, 0, none⟩) 0 [] := World.ownsRow_made w1 #[] 0 (Nat.zero_le _) (by decide) rfl
      have hB0 : Beh w1 (w1.alloc (.cells #[] 60)) (some ⟨w1.heap.size, 0, none⟩) 0 [] none [] := ⟨hrow0, fun q ⟨a, e1, e2⟩ => (by obtain rfl := Option.some.inj e1; simp at e2; omega), (Fr.refl _ _).alloc _, Or.inl rfl, fun q ⟨a, e, _⟩ => (by cases e), fun q ⟨a, e, _⟩ => (by cases e)⟩
      obtain ⟨a2, c2, w2, hrun2, hB2⟩ := hB0.app (l.take P) ao cap (sats_fr0 HTK.out hB0.fr) (by simp; omega)
      rw [List.nil_append] at hrun2 hB2
      obtain ⟨T1, hT1⟩ : ∃ A, A = l.take P := ⟨_, rfl⟩
      have hT1l : T1.length = P := by rw [hT1, List.length_take, Nat.min_eq_left hpl]
      rw [← hT1] at hrun2 hB2 HRES
      rw [hT1l] at hrun2
      have HR2 := hideIt hrun2
      have HB2 := hideIt hB2
      have HT1L := hideIt hT1l
      have hP1 : (P : Int) ≤ (l.length : Int) := by omega
      have hP2 : (P : Int) ≤ (cap : Int) := by omega
      obtain ⟨b0, b1, b2⟩ := HBX.out w2 hB2.fr
      clear hrow0 hB0 hrun2 hB2 hT1 hT1l HAT HTK
      obtain ⟨T2, hT2⟩ : ∃ A, A = T1 ++ ([] : List Sp) := ⟨_, rfl⟩
      rw [← hT2] at HRES
      have hT2' : T2 = T1 := by rw [hT2, List.append_nil]
      have HB3 := hideIt (show Beh w1 w2 a2 c2 T2 none [] by rw [hT2']; exact HB2.out)
      have HT2L := hideIt (show T2.length = P by rw [hT2']; exact HT1L.out)
      clear hT2 hT2' HB2 HT1L
      go_wp2_with (first | (at_builtin; refine wpList_append_run _ rfl (.tmp 11) (.tmp 14) 22 22 rfl _ _ _ _ rfl rfl HR2.out ?_))
      obtain ⟨b0', b1', b2'⟩ := HBX.out w2 HB3.out.fr
      go_quiet (fail)
      obtain ⟨R, hR⟩ : ∃ R, R = l.drop (P) := ⟨_, rfl⟩
      rw [← hR] at HDR HRES
      have hRl : R.length = l.length - (P) := by rw [hR, List.length_drop]
      obtain ⟨a5, c5, w5, hrun5, hB5⟩ := (HB3.out.quiet ((Fr.refl _ _).drewN nq)).app R (if cap = P then ao else Option.map (fun x => x.add (P * 2)) ao) (cap - (P)) (sats_fr0 HDR.out (HB3.out.fr.drewN nq)) (by rw [HT2L.out, hRl]; omega)
      obtain ⟨n5, hn5⟩ : ∃ n, n = (T2 ++ R).length := ⟨_, rfl⟩
      rw [← hn5] at hrun5
      rw [HT2L.out, hRl] at hrun5
      have HR5 := hideIt hrun5
      have HB5 := hideIt hB5
      clear hrun5 hB5
      have HFIN := hideIt (show BehPost RES w (.returned (.slice a5 n5 c5)) w5 from by
        rw [hn5]
        rw [← HRES.out]
        exact ⟨a5, c5, rfl, HB5.out.row, HF0.out.trans HB5.out.fr (fun _ _ e => e), fun k hk => Nat.le_trans HF0.out.size (HB5.out.new k hk)⟩)
      have hN1 : ((P : Nat) : Int) ≤ (l.length : Int) := by omega
      have hN2 : ((P : Nat) : Int) ≤ (cap : Int) := by omega
      clear hn5 hR hRl HB5 HRES HDR HL HBX HB3 HT2L HF0
      go_wp2_with (first | (at_builtin; refine wpList_append_run _ rfl (.tmp 43) (.tmp 46) 22 22 rfl _ _ _ _ rfl rfl HR5.out ?_))
      all_goals
        go_ret
        exact HFIN.out

end Go.Proofs.Ytefikadaiconaaa
