/- Cell: Scan. -/
import Derived.Test.YtefikadaiconaaaLi
namespace Go.Proofs.Ytefikadaiconaaa
open Go.RowKit Go.IntWalk
set_option linter.unusedSimpArgs false
set_option linter.unusedVariables false

/-- What Scan tells of a state. -/
def scanS (l : List Sp) (s : Sp) (most : Int) : List Sp := ((l.drop (placeL l s.1)).takeWhile fun p => decide (KeyIn s p.1.toList)).take most.toNat
def scanL (l : List Sp) (s : Sp) (most : Int) : List Sp := if chkE l = 0 then scanS l s most else []

theorem tw_stop {p : Sp → Bool} : ∀ (r : List Sp) (i : Nat), i ≤ r.length → (∀ x ∈ r.take i, p x = true) → (∀ (h : i < r.length), p r[i] = false) → r.takeWhile p = r.take i
  | [], i, _, _, _ => by simp
  | x :: r, 0, _, _, h => by
    have hx : p x = false := h (by simp)
    simp [List.takeWhile_cons, hx]
  | x :: r, i + 1, hi, h1, h2 => by
    have hx : p x = true := h1 x (by simp)
    rw [List.takeWhile_cons, if_pos hx, List.take_succ_cons, tw_stop r i (by simpa using hi) (fun y hy => h1 y (by simp [hy])) (fun h => by
      have := h2 (by simpa using h)
      rwa [List.getElem_cons_succ] at this)]
theorem tw_most {p : Sp → Bool} : ∀ (r : List Sp) (i : Nat), (∀ x ∈ r.take i, p x = true) → (r.takeWhile p).take i = r.take i
  | [], i, _ => by simp
  | x :: r, 0, _ => by simp
  | x :: r, i + 1, h1 => by
    have hx : p x = true := h1 x (by simp)
    rw [List.takeWhile_cons, if_pos hx, List.take_succ_cons, List.take_succ_cons, tw_most r i (fun y hy => h1 y (by simp [hy]))]

/-- Where the loop stops. -/
theorem scan_stop (rest : List Sp) (s : Sp) (most : Int) (i : Nat) (hi : i ≤ rest.length) (hm : i ≤ most.toNat) (h1 : ∀ x ∈ rest.take i, decide (KeyIn s x.1.toList) = true) (h2 : most ≤ i ∨ ∀ (h : i < rest.length), decide (KeyIn s rest[i].1.toList) = false) :
    (rest.takeWhile fun p => decide (KeyIn s p.1.toList)).take most.toNat = rest.take i := by
  rcases h2 with h2 | h2
  · obtain rfl : i = most.toNat := by omega
    exact tw_most rest _ h1
  · rw [tw_stop rest i hi h1 h2, List.take_take, Nat.min_eq_right hm]

theorem Beh.start {W0 wr : World} (hF : Fr (fun _ => False) W0 wr) : Beh W0 wr none 0 [] none [] :=
  ⟨SpRow.nil _, fun k ⟨a, e, _⟩ => (by cases e), hF, Or.inl rfl, fun k ⟨a, e, _⟩ => (by cases e), fun k ⟨a, e, _⟩ => (by cases e)⟩

set_option maxRecDepth 100000 in
set_option maxHeartbeats 4000000 in
theorem escan_any (ao : Option Addr) (cap : Nat) (l : List Sp) (s : Sp) (most : Int) (w : World) (h : l = [] ∨ SpsAt w ao l) (hcap : l.length ≤ cap) (hl : l.length ≤ 1000000) :
    Calls Try.prog 14 #[.slice ao l.length cap, .agg #[.string s.1, .string s.2], .int .i64 most] w (BehPost (scanL l s most) w) := by
  have hF0 : Fr (fun _ => False) w (w.alloc (.cells #[.string s.1, .string s.2] 24)) := (Fr.refl _ _).alloc _
  have HL0 := hideIt (sats_fr0 h hF0)
  have HC := hideIt (echeck_any ao cap l (by omega) _ (sats_fr0 h hF0))
  have HB0 := hideIt (show (w.alloc (.cells #[.string s.1, .string s.2] 24)).cell? ⟨w.heap.size, 0, none⟩ = some (.string s.1) from cellNew _ _ _ _ _ rfl)
  have HB1 := hideIt (show (w.alloc (.cells #[.string s.1, .string s.2] 24)).cell? ⟨w.heap.size, 1, none⟩ = some (.string s.2) from cellNew _ _ _ _ _ rfl)
  have HF0 := hideIt hF0
  clear h hF0
  by_cases hc : chkE l = 0
  · have HS := hideIt ((chkE_ok l).1 hc).2.rises
    have HQ := hideIt (show scanL l s most = scanS l s most by unfold scanL; rw [if_pos hc])
    rw [hc] at HC
    clear hc
    have hpl := placeL_le l s.1
    have HFI := hideIt (fun u hF => find_later HS.out (by omega) HL0.out cap s.1 u hF)
    have HD0 := hideIt (drop_at HL0.out hcap (placeL l s.1) hpl)
    obtain ⟨rest, hrest⟩ : ∃ r, r = l.drop (placeL l s.1) := ⟨_, rfl⟩
    have hrl : rest.length = l.length - placeL l s.1 := by rw [hrest, List.length_drop]
    have HR := hideIt (show scanS l s most = (rest.takeWhile fun p => decide (KeyIn s p.1.toList)).take most.toNat by unfold scanS; rw [hrest])
    rw [← hrest] at HD0
    clear hrest
    generalize placeL l s.1 = P at *
    generalize hereB l s.1 = hb at *
    by_cases hP : P < l.length
    · obtain ⟨b, off, rfl, _⟩ := sps_get HL0.out P hP
      have hcp : ¬ cap = P := by omega
      rw [if_neg hcp, Option.map_some, Addr.add_lit] at HD0
      have HD1 := hideIt (show rest = [] ∨ SpsAt _ (some ⟨b, off + P * 2, none⟩) rest from HD0.out)
      have hrl2 : ((l.length - P : Nat) : Int) = (rest.length : Int) := by omega
      clear HD0
      go_enter Try.func14, Try.ntmps14
      go_wp2_with fail
      generalize hW0 : w.alloc (.cells #[.string s.1, .string s.2] 24) = W0 at *
      clear hW0
      refine Calls.mono HC.out ?_
      rintro e w1 ⟨rfl, hF1⟩
      have HF1 := hideIt hF1
      have b0 := hF1.cell0 HB0.out
      have b1 := hF1.cell0 HB1.out
      clear hF1
      go_wp2_with fail
      refine Calls.mono (HFI.out _ HF1.out) ?_
      rintro e w2 ⟨rfl, hF2⟩
      have HF2 := hideIt (HF1.out.trans hF2 (fun _ _ e => e))
      have hP1 : (P : Int) ≤ (l.length : Int) := by omega
      have hP2 : (P : Int) ≤ (cap : Int) := by omega
      clear hF2 HF1 b0 b1
      go_wp2_with fail
      go_loopw [26, 9] (fun s26 s9 wr => ∃ (i : Nat) (a9 : Option Addr) (c9 : Nat) (told : List Sp), s26 = .int .i64 i ∧ i ≤ rest.length ∧ s9 = .slice a9 i c9 ∧ Hid (told = rest.take i) ∧ Hid (Beh W0 wr a9 c9 told none []) ∧ Hid (∀ x ∈ told, decide (KeyIn s x.1.toList) = true) ∧ Hid (i ≤ most.toNat)) (fun s26 _ _ => rest.length - (intOf s26).toNat)
      case atStart => exact ⟨0, none, 0, [], rfl, Nat.zero_le _, rfl, hideIt (by simp), hideIt (Beh.start HF2.out), hideIt (by simp), hideIt (Nat.zero_le _)⟩
      case round =>
        clear HF2
        obtain ⟨i, a9, c9, told, rfl, hi, rfl, HT, HB, HA, HM⟩ := hrel
        have HTL := hideIt (show told.length = i by rw [HT.out, List.length_take, Nat.min_eq_left hi])
        have HFIN := hideIt (fun (h2 : most ≤ i ∨ ∀ (h : i < rest.length), decide (KeyIn s rest[i].1.toList) = false) (wq : World) (hB : Beh W0 wq a9 c9 told none []) => show BehPost (scanL l s most) w (.returned (.slice a9 i c9)) wq from by
          have e : scanL l s most = told := by
            rw [HQ.out, HR.out, scan_stop rest s most i hi HM.out (by rw [← HT.out]; exact HA.out) h2, HT.out]
          rw [e]
          exact ⟨a9, c9, by rw [HTL.out], hB.row, HF0.out.trans hB.fr (fun _ _ e => e), fun k hk => Nat.le_trans HF0.out.size (hB.new k hk)⟩)
        by_cases hlt : i < rest.length
        · obtain ⟨b2, off2, e2, hbl, c0, c1⟩ := sps_get (sats_fr0 HD1.out HB.out.fr) i hlt
          obtain ⟨rfl, rfl⟩ : b = b2 ∧ off + P * 2 = off2 := by simpa using e2
          have HX := hideIt (fun (h : decide (KeyIn s rest[i].1.toList) = false) => (Or.inr fun _ => h : most ≤ i ∨ ∀ (h : i < rest.length), decide (KeyIn s rest[i].1.toList) = false))
          have HTS := hideIt (show rest.take (i + 1) = told ++ [rest[i]] by rw [List.take_succ_eq_append_getElem hlt, HT.out])
          have hlt' : i < l.length - P := by omega
          have b0 := HB.out.fr.cell0 HB0.out
          have b1 := HB.out.fr.cell0 HB1.out
          have hbw : w.heap.size < wr.heap.size := block_lt_of_cell b0
          have HI := hideIt (fun u => in_any s rest[i].1 u)
          clear e2
          generalize rest[i] = x at *
          generalize hdx : decide (KeyIn s x.1.toList) = d at *
          have HDX := hideIt hdx
          clear hdx
          by_cases hm : most ≤ i
          · have HX2 := hideIt (HFIN.out (Or.inl hm) _ (HB.out.quiet ((Fr.refl _ _).alloc (.cells #[.string x.1, .string x.2] 60))))
            clear HFIN HX
            go_wp2_with fail
            go_ret
            exact HX2.out
          · have HCW := hideIt (fun w' (hF : Fr (fun _ => False) (wr.alloc (.cells #[.string x.1, .string x.2] 60)) w') => (⟨hF.cell0 (cellNew wr _ _ _ 0 rfl), hF.cell0 (cellNew wr _ _ _ 1 rfl)⟩ : w'.cell? ⟨wr.heap.size, 0, none⟩ = some (.string x.1) ∧ w'.cell? ⟨wr.heap.size, 1, none⟩ = some (.string x.2)))
            have hB2 := HB.out.quiet ((Fr.refl _ _).alloc (.cells #[.string x.1, .string x.2] 60))
            have HB2 := hideIt hB2
            clear hB2
            cases d with
            | false =>
              have HX3 := hideIt (fun u hF => HFIN.out (HX.out rfl) u (HB2.out.quiet hF))
              clear HFIN HX
              go_wp2_with fail
              refine Calls.mono (HI.out _) ?_
              rintro e w3 ⟨rfl, hF3⟩
              have HX4 := hideIt (HX3.out w3 hF3)
              clear hF3 HX3
              go_wp2_with fail
              go_ret
              exact HX4.out
            | true =>
              clear HFIN HX
              go_wp2_with fail
              refine Calls.mono (HI.out _) ?_
              rintro e w3 ⟨rfl, hF3⟩
              obtain ⟨d0, d1⟩ := HCW.out w3 hF3
              obtain ⟨a5, c5, w5, hrun, hB5⟩ := ((HB2.out.quiet hF3).quiet ((Fr.refl _ _).alloc (.cells #[.string x.1, .string x.2] 60))).app [x] (some ⟨w3.heap.size, 0, none⟩) 1 (Or.inr (sps_one x w3)) (by rw [HTL.out]; simp; omega)
              rw [HTL.out, List.length_append, HTL.out] at hrun
              have HR5 := hideIt hrun
              have HB5 := hideIt hB5
              clear hF3 hrun hB5 b0 b1 c0 c1
              go_wp2_with (first | (at_builtin; refine wpList_append_run _ rfl (.tmp 41) (.tmp 43) 22 22 rfl _ _ _ _ rfl rfl HR5.out ?_))
              go_roundw
              case measure => simp [intOf]; omega
              case rel => exact ⟨i + 1, a5, c5, told ++ [x], by go_num, by omega, rfl, hideIt HTS.out.symm, HB5, hideIt (fun y hy => by rcases List.mem_append.1 hy with e | e; exact HA.out y e; rw [List.mem_singleton.1 e]; exact HDX.out), hideIt (by omega)⟩
        · obtain rfl : i = rest.length := by omega
          have HX := hideIt (HFIN.out (Or.inr fun h => absurd h (Nat.lt_irrefl _)) _ HB.out)
          clear HFIN
          go_wp2_with fail
          go_ret
          exact HX.out
    · have hPl : P = l.length := by omega
      have hr0 : rest = [] := List.eq_nil_of_length_eq_zero (by omega)
      have HQ2 := hideIt (show scanL l s most = [] by rw [HQ.out, HR.out, hr0]; simp)
      clear HD0 HR hr0 HQ hpl hrl
      subst hPl
      go_enter Try.func14, Try.ntmps14
      go_wp2_with fail
      generalize hW0 : w.alloc (.cells #[.string s.1, .string s.2] 24) = W0 at *
      clear hW0
      refine Calls.mono HC.out ?_
      rintro e w1 ⟨rfl, hF1⟩
      have HF1 := hideIt hF1
      have b0 := hF1.cell0 HB0.out
      have b1 := hF1.cell0 HB1.out
      clear hF1
      go_wp2_with fail
      refine Calls.mono (HFI.out _ HF1.out) ?_
      rintro e w2 ⟨rfl, hF2⟩
      have HF2 := hideIt (HF0.out.trans (HF1.out.trans hF2 (fun _ _ e => e)) (fun _ _ e => e))
      have hP2 : (l.length : Int) ≤ (cap : Int) := by omega
      clear hF2 HF1 b0 b1
      go_wp2_with fail
      all_goals
        go_loopw [26, 9] (fun s26 s9 wr => s26 = .int .i64 0 ∧ s9 = .slice none 0 0 ∧ wr = w2) (fun _ _ _ => 0)
        case atStart => exact ⟨rfl, rfl, rfl⟩
        case round =>
          obtain ⟨rfl, rfl, rfl⟩ := hrel
          go_wp2_with fail
          go_ret
          rw [HQ2.out]
          exact ⟨none, 0, rfl, SpRow.nil _, HF2.out, fun k ⟨a, e, _⟩ => by cases e⟩
  · have hne : (chkE l != 0) = true := by simpa using hc
    have HQ := hideIt (show scanL l s most = [] by unfold scanL; rw [if_neg hc])
    clear hc
    generalize chkE l = c at *
    go_enter Try.func14, Try.ntmps14
    go_wp2_with fail
    refine Calls.mono HC.out ?_
    rintro e w1 ⟨rfl, hF1⟩
    have HF1 := hideIt (HF0.out.trans hF1 (fun _ _ e => e))
    clear hF1
    go_wp2_with fail
    go_ret
    rw [HQ.out]
    exact ⟨none, 0, rfl, SpRow.nil _, HF1.out, fun k ⟨a, e, _⟩ => by cases e⟩

end Go.Proofs.Ytefikadaiconaaa
