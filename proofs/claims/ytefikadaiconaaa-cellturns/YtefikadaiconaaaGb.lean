/- Cell: the document's Scan; what is told is written over; CellAsks, walked. -/
import Derived.Test.YtefikadaiconaaaGa
import Derived.Test.YtefikadaiconaaaLq
import Derived.Test.YtefikadaiconaaaLl
namespace Go.Proofs.Ytefikadaiconaaa
open Go.RowKit Go.IntWalk
set_option linter.unusedSimpArgs false
set_option linter.unusedVariables false

theorem qscan_stop (l told : List Sp) (s : Sp) (most : Int) (j : Nat) (hc : chkE l = 0) (hj : j ≤ l.length) (ht : told = (l.take j).filter fun p => decide (KeyIn s p.1.toList)) (hm : told.length ≤ most.toNat) (h : j = l.length ∨ most ≤ told.length) : scanL l s most = told := by
  rw [scan_all l s most hc]
  have e : inS l s = told ++ (l.drop j).filter fun p => decide (KeyIn s p.1.toList) := by
    unfold inS
    rw [ht, ← List.filter_append, List.take_append_drop]
  rcases h with h | h
  · subst h
    rw [List.drop_length] at e
    rw [e, List.filter_nil, List.append_nil]
    exact List.take_of_length_le hm
  · have hq : most.toNat = told.length := by omega
    rw [e, hq]
    exact List.take_left

set_option maxRecDepth 100000 in
set_option maxHeartbeats 4000000 in
theorem qscan_any (ao : Option Addr) (cap : Nat) (l : List Sp) (s : Sp) (most : Int) (w : World) (h : l = [] ∨ SpsAt w ao l) (hl : l.length ≤ 1000000) :
    Calls Try.prog 16 #[.slice ao l.length cap, .agg #[.string s.1, .string s.2], .int .i64 most] w (BehPost (scanL l s most) w) := by
  have hF0 : Fr (fun _ => False) w (w.alloc (.cells #[.string s.1, .string s.2] 24)) := (Fr.refl _ _).alloc _
  have HL := hideIt (sats_fr0 h hF0)
  have HC0 := hideIt (qcheck_any ao cap l (by omega) _ (sats_fr0 h hF0))
  have HBX := hideIt (fun w' (hF : Fr (fun _ => False) (w.alloc (.cells #[.string s.1, .string s.2] 24)) w') => (⟨hF.cell0 (cellNew w _ _ _ 0 rfl), hF.cell0 (cellNew w _ _ _ 1 rfl)⟩ : w'.cell? ⟨w.heap.size, 0, none⟩ = some (.string s.1) ∧ w'.cell? ⟨w.heap.size, 1, none⟩ = some (.string s.2)))
  have HF0 := hideIt hF0
  clear h hF0
  by_cases hc : chkE l = 0
  · have HST := hideIt (fun told j hj ht hm h => qscan_stop l told s most j hc hj ht hm h)
    rw [hc] at HC0
    clear hc
    go_enter Try.func16, Try.ntmps16
    go_wp2_with fail
    generalize hW0 : w.alloc (.cells #[.string s.1, .string s.2] 24) = W0 at *
    clear hW0
    refine Calls.mono HC0.out ?_
    rintro e w1 ⟨rfl, hF1⟩
    have HF1 := hideIt hF1
    clear hF1 HC0
    go_wp2_with fail
    go_loopw [8, 7] (fun s8 s7 wr => ∃ (j : Nat) (a7 : Option Addr) (c7 : Nat) (told : List Sp) (n : Nat), s8 = .int .i64 j ∧ j ≤ l.length ∧ s7 = .slice a7 n c7 ∧ Hid (told = (l.take j).filter fun p => decide (KeyIn s p.1.toList)) ∧ Hid (told.length = n) ∧ Hid (Beh W0 wr a7 c7 told none []) ∧ Hid (n ≤ most.toNat ∧ n ≤ j)) (fun s8 _ _ => l.length - (intOf s8).toNat)
    case atStart => exact ⟨0, none, 0, [], 0, rfl, Nat.zero_le _, rfl, hideIt (by simp), hideIt rfl, hideIt (Beh.start HF1.out), hideIt ⟨Nat.zero_le _, Nat.le_refl _⟩⟩
    case round =>
      clear HF1
      obtain ⟨j, a7, c7, told, n, rfl, hj, rfl, HT, HTN, HB, HM0⟩ := hrel
      obtain ⟨hnm, hnj⟩ := HM0.out
      have HFIN := hideIt (fun (h : j = l.length ∨ most ≤ (n : Int)) => show BehPost (scanL l s most) w (.returned (.slice a7 n c7)) wr from by
        have e : scanL l s most = told := HST.out told j hj HT.out (by rw [HTN.out]; exact hnm) (by rw [HTN.out]; exact h)
        rw [e]
        exact ⟨a7, c7, by rw [HTN.out], HB.out.row, HF0.out.trans HB.out.fr (fun _ _ e => e), fun k hk => Nat.le_trans HF0.out.size (HB.out.new k hk)⟩)
      by_cases hlt : j < l.length
      · by_cases hm : most ≤ (n : Int)
        · have HX := hideIt (HFIN.out (Or.inr hm))
          have hm' : ¬ (n : Int) < most := by omega
          clear HFIN
          go_wp2_with fail
          go_ret
          exact HX.out
        · have hm' : (n : Int) < most := by omega
          clear HFIN hm
          obtain ⟨b, off, rfl, hbl, c0, c1⟩ := sps_get (sats_fr0 HL.out HB.out.fr) j hlt
          have hj' : (j : Int) < (l.length : Int) := by omega
          have HTS := hideIt (List.take_succ_eq_append_getElem hlt)
          have HI := hideIt (fun u => zin_any s l[j].1 u)
          generalize l[j] = x at *
          have HC := hideIt (fun w' (hF : Fr (fun _ => False) wr w') => show w'.cell? ⟨w.heap.size, 0, none⟩ = some (.string s.1) ∧ w'.cell? ⟨w.heap.size, 1, none⟩ = some (.string s.2) ∧ w'.cell? ⟨b, off + j * 2, none⟩ = some (.string x.1) ∧ w'.cell? ⟨b, off + j * 2 + 1, none⟩ = some (.string x.2) ∧ Fr (fun _ => False) wr w' from
            ⟨(HBX.out w' (HB.out.fr.trans hF (fun _ _ e => e))).1, (HBX.out w' (HB.out.fr.trans hF (fun _ _ e => e))).2, hF.cell0 c0, hF.cell0 c1, hF⟩)
          clear c0 c1
          by_cases hd : KeyIn s x.1.toList
          · have HTF := hideIt (show told ++ [x] = (l.take (j + 1)).filter fun p => decide (KeyIn s p.1.toList) by rw [HTS.out, List.filter_append, List.filter_cons, if_pos (decide_eq_true hd), HT.out]; rfl)
            rw [decide_eq_true hd] at HI
            clear hd HT HTS
            go_wp2_with fail
            refine wp_region_held_drew (S := fun w' => w'.cell? ⟨w.heap.size, 0, none⟩ = some (.string s.1) ∧ w'.cell? ⟨w.heap.size, 1, none⟩ = some (.string s.2) ∧ w'.cell? ⟨b, off + j * 2, none⟩ = some (.string x.1) ∧ w'.cell? ⟨b, off + j * 2 + 1, none⟩ = some (.string x.2) ∧ Fr (fun _ => False) wr w') (by kernel_rfl) ?_ (fun hHeld => ?_)
            · exact HC.out _ (Fr.refl _ _).drew
            refine wpAnyH_take (i := 0) (v := ?v1) rfl (by kernel_rfl) (by kernel_rfl) (by kernel_rfl) (fun _ _ _ h => h) (Or.inl ⟨by kernel_rfl, ?hy1⟩) (by assumption) ?rest1
            case hy1 => intro w hSw; (try dsimp only at hSw); go_simp; (try with_reducible rfl)
            try simp only [Act.put, List.getElem_toArray, List.getElem_cons_zero, List.getElem_cons_succ, List.setIfInBounds_toArray, List.set_cons_zero, List.set_cons_succ]
            refine wpAnyH_take (i := 1) (v := ?v2) rfl (by kernel_rfl) (by kernel_rfl) (by kernel_rfl) (fun _ _ _ h => h) (Or.inl ⟨by kernel_rfl, ?hy2⟩) (by assumption) ?rest2
            case hy2 => intro w hSw; (try dsimp only at hSw); go_simp; (try with_reducible rfl)
            try simp only [Act.put, List.getElem_toArray, List.getElem_cons_zero, List.getElem_cons_succ, List.setIfInBounds_toArray, List.set_cons_zero, List.set_cons_succ]
            refine wpAnyH_take (i := 2) (v := ?v3) rfl (by kernel_rfl) (by kernel_rfl) (by kernel_rfl) (fun _ _ _ h => h) (Or.inl ⟨by kernel_rfl, ?hy3⟩) (by assumption) ?rest3
            case hy3 => intro w hSw; (try dsimp only at hSw); go_simp; (try with_reducible rfl)
            try simp only [Act.put, List.getElem_toArray, List.getElem_cons_zero, List.getElem_cons_succ, List.setIfInBounds_toArray, List.set_cons_zero, List.set_cons_succ]
            refine wpAnyH_take (i := 3) (v := ?v4) rfl (by kernel_rfl) (by kernel_rfl) (by kernel_rfl) (fun _ _ _ h => h) (Or.inl ⟨by kernel_rfl, ?hy4⟩) (by assumption) ?rest4
            case hy4 => intro w hSw; (try dsimp only at hSw); go_simp; (try with_reducible rfl)
            try simp only [Act.put, List.getElem_toArray, List.getElem_cons_zero, List.getElem_cons_succ, List.setIfInBounds_toArray, List.set_cons_zero, List.set_cons_succ]
            refine wpAnyH_take (i := 4) (v := ?v5) rfl (by kernel_rfl) (by kernel_rfl) (by kernel_rfl) (fun _ _ _ h => h) (Or.inl ⟨by kernel_rfl, ?hy5⟩) (by assumption) ?rest5
            case hy5 => intro w hSw; (try dsimp only at hSw); go_simp; (try with_reducible rfl)
            try simp only [Act.put, List.getElem_toArray, List.getElem_cons_zero, List.getElem_cons_succ, List.setIfInBounds_toArray, List.set_cons_zero, List.set_cons_succ]
            refine wpAnyH_take (i := 5) (v := ?v6) rfl (by kernel_rfl) (by kernel_rfl) (by kernel_rfl) (fun _ _ _ h => h) (Or.inl ⟨by kernel_rfl, ?hy6⟩) (by assumption) ?rest6
            case hy6 => intro w hSw; (try dsimp only at hSw); go_simp; (try with_reducible rfl)
            try simp only [Act.put, List.getElem_toArray, List.getElem_cons_zero, List.getElem_cons_succ, List.setIfInBounds_toArray, List.set_cons_zero, List.set_cons_succ]
            refine wpAnyH_ready (rs := [6]) (by kernel_rfl) (by simp) ?_
            refine AllReadyH.cons rfl (fun K hK => ?_) AllReadyH.nil
            go_simp
            refine Calls.mono (HI.out _) ?_
            rintro e w3 ⟨rfl, hF3⟩
            have hW3 : Fr (fun _ => False) wr w3 := hHeld.2.2.2.2.trans hF3 (fun _ _ e => e)
            refine hK.out _ _ ?_ (fun hHeld => ?_)
            · exact HC.out _ hW3
            clear hK K
            try simp only [Act.put, List.getElem_toArray, List.getElem_cons_zero, List.getElem_cons_succ, List.setIfInBounds_toArray, List.set_cons_zero, List.set_cons_succ]
            refine wpAnyH_done (by kernel_rfl) ?_ _
            obtain ⟨_, _, d0, d1, _⟩ := HC.out _ hW3
            obtain ⟨a5, c5, w5, hrun, hB5⟩ := ((HB.out.quiet hW3).quiet ((Fr.refl _ _).alloc (.cells #[.string x.1, .string x.2] 60))).app [x] (some ⟨w3.heap.size, 0, none⟩) 1 (Or.inr (sps_one x w3)) (by rw [HTN.out]; simp; omega)
            rw [HTN.out, List.length_append, HTN.out] at hrun
            have HR5 := hideIt hrun
            have HB5 := hideIt hB5
            clear hHeld hF3 hW3 HB hrun hB5
            go_wp2_with (first | (at_builtin; refine wpList_append_run _ rfl (.tmp 31) (.tmp 36) 22 22 rfl _ _ _ _ rfl rfl HR5.out ?_))
            go_roundw
            case measure => simp [intOf]; omega
            case rel => exact ⟨j + 1, a5, c5, told ++ [x], n + 1, by go_num, by omega, rfl, HTF, hideIt (by rw [List.length_append, HTN.out]; rfl), HB5, hideIt (by omega)⟩
          · have HTF := hideIt (show told = (l.take (j + 1)).filter fun p => decide (KeyIn s p.1.toList) by rw [HTS.out, List.filter_append, List.filter_cons, if_neg (by simpa using hd), HT.out]; simp)
            have HM := hideIt (show n ≤ most.toNat ∧ n ≤ j + 1 from ⟨hnm, by omega⟩)
            rw [decide_eq_false hd] at HI
            clear hd HT HTS
            go_wp2_with fail
            refine wp_region_held_drew (S := fun w' => w'.cell? ⟨w.heap.size, 0, none⟩ = some (.string s.1) ∧ w'.cell? ⟨w.heap.size, 1, none⟩ = some (.string s.2) ∧ w'.cell? ⟨b, off + j * 2, none⟩ = some (.string x.1) ∧ w'.cell? ⟨b, off + j * 2 + 1, none⟩ = some (.string x.2) ∧ Fr (fun _ => False) wr w') (by kernel_rfl) ?_ (fun hHeld => ?_)
            · exact HC.out _ (Fr.refl _ _).drew
            refine wpAnyH_take (i := 0) (v := ?v7) rfl (by kernel_rfl) (by kernel_rfl) (by kernel_rfl) (fun _ _ _ h => h) (Or.inl ⟨by kernel_rfl, ?hy7⟩) (by assumption) ?rest7
            case hy7 => intro w hSw; (try dsimp only at hSw); go_simp; (try with_reducible rfl)
            try simp only [Act.put, List.getElem_toArray, List.getElem_cons_zero, List.getElem_cons_succ, List.setIfInBounds_toArray, List.set_cons_zero, List.set_cons_succ]
            refine wpAnyH_take (i := 1) (v := ?v8) rfl (by kernel_rfl) (by kernel_rfl) (by kernel_rfl) (fun _ _ _ h => h) (Or.inl ⟨by kernel_rfl, ?hy8⟩) (by assumption) ?rest8
            case hy8 => intro w hSw; (try dsimp only at hSw); go_simp; (try with_reducible rfl)
            try simp only [Act.put, List.getElem_toArray, List.getElem_cons_zero, List.getElem_cons_succ, List.setIfInBounds_toArray, List.set_cons_zero, List.set_cons_succ]
            refine wpAnyH_take (i := 2) (v := ?v9) rfl (by kernel_rfl) (by kernel_rfl) (by kernel_rfl) (fun _ _ _ h => h) (Or.inl ⟨by kernel_rfl, ?hy9⟩) (by assumption) ?rest9
            case hy9 => intro w hSw; (try dsimp only at hSw); go_simp; (try with_reducible rfl)
            try simp only [Act.put, List.getElem_toArray, List.getElem_cons_zero, List.getElem_cons_succ, List.setIfInBounds_toArray, List.set_cons_zero, List.set_cons_succ]
            refine wpAnyH_take (i := 3) (v := ?v10) rfl (by kernel_rfl) (by kernel_rfl) (by kernel_rfl) (fun _ _ _ h => h) (Or.inl ⟨by kernel_rfl, ?hy10⟩) (by assumption) ?rest10
            case hy10 => intro w hSw; (try dsimp only at hSw); go_simp; (try with_reducible rfl)
            try simp only [Act.put, List.getElem_toArray, List.getElem_cons_zero, List.getElem_cons_succ, List.setIfInBounds_toArray, List.set_cons_zero, List.set_cons_succ]
            refine wpAnyH_take (i := 4) (v := ?v11) rfl (by kernel_rfl) (by kernel_rfl) (by kernel_rfl) (fun _ _ _ h => h) (Or.inl ⟨by kernel_rfl, ?hy11⟩) (by assumption) ?rest11
            case hy11 => intro w hSw; (try dsimp only at hSw); go_simp; (try with_reducible rfl)
            try simp only [Act.put, List.getElem_toArray, List.getElem_cons_zero, List.getElem_cons_succ, List.setIfInBounds_toArray, List.set_cons_zero, List.set_cons_succ]
            refine wpAnyH_take (i := 5) (v := ?v12) rfl (by kernel_rfl) (by kernel_rfl) (by kernel_rfl) (fun _ _ _ h => h) (Or.inl ⟨by kernel_rfl, ?hy12⟩) (by assumption) ?rest12
            case hy12 => intro w hSw; (try dsimp only at hSw); go_simp; (try with_reducible rfl)
            try simp only [Act.put, List.getElem_toArray, List.getElem_cons_zero, List.getElem_cons_succ, List.setIfInBounds_toArray, List.set_cons_zero, List.set_cons_succ]
            refine wpAnyH_ready (rs := [6]) (by kernel_rfl) (by simp) ?_
            refine AllReadyH.cons rfl (fun K hK => ?_) AllReadyH.nil
            go_simp
            refine Calls.mono (HI.out _) ?_
            rintro e w3 ⟨rfl, hF3⟩
            have hW3 : Fr (fun _ => False) wr w3 := hHeld.2.2.2.2.trans hF3 (fun _ _ e => e)
            refine hK.out _ _ ?_ (fun hHeld => ?_)
            · exact HC.out _ hW3
            clear hK K
            try simp only [Act.put, List.getElem_toArray, List.getElem_cons_zero, List.getElem_cons_succ, List.setIfInBounds_toArray, List.set_cons_zero, List.set_cons_succ]
            refine wpAnyH_done (by kernel_rfl) ?_ _
            have HB3 := hideIt (HB.out.quiet hW3)
            clear hHeld hF3 hW3 HB
            go_wp2_with fail
            go_roundw
            case measure => simp [intOf]; omega
            case rel => exact ⟨j + 1, a7, c7, told, n, by go_num, by omega, rfl, HTF, HTN, HB3, HM⟩
      · obtain rfl : j = l.length := by omega
        have HX := hideIt (HFIN.out (Or.inl rfl))
        clear HFIN
        go_wp2_with fail
        go_ret
        exact HX.out
  · have hne : (chkE l != 0) = true := by simpa using hc
    have HQ := hideIt (show scanL l s most = [] by unfold scanL; rw [if_neg hc])
    clear hc
    generalize chkE l = c at *
    go_enter Try.func16, Try.ntmps16
    go_wp2_with fail
    generalize hW0 : w.alloc (.cells #[.string s.1, .string s.2] 24) = W0 at *
    clear hW0
    refine Calls.mono HC0.out ?_
    rintro e w1 ⟨rfl, hF1⟩
    have HF1 := hideIt (HF0.out.trans hF1 (fun _ _ e => e))
    clear hF1
    go_wp2_with fail
    go_ret
    rw [HQ.out]
    exact ⟨none, 0, rfl, SpRow.nil _, HF1.out, fun k ⟨a, e, _⟩ => by cases e⟩

/-- A row's block: all its cells are there, none frozen. -/
theorem SpRow.whole {w : World} {ao : Option Addr} {cap : Nat} {l : List Sp} (h : SpRow w ao cap l) : l = [] ∨ ∃ g cur, ao = some ⟨g, 0, none⟩ ∧ w.heap[g]? = some (.cells cur 60 (0, 0)) ∧ l.length * 2 ≤ cur.size := by
  rcases h.2 with ⟨hv, hn⟩ | ⟨g, c, cur, hv, _, hg, hle, hcm, hcs, htake⟩
  · exact Or.inl (List.eq_nil_of_length_eq_zero hn)
  · obtain ⟨rfl, _, rfl⟩ := Value.slice.inj hv
    exact Or.inr ⟨g, cur, rfl, hg, by rw [hcs]; exact Nat.mul_le_mul_right _ hle⟩

set_option maxRecDepth 100000 in
set_option maxHeartbeats 2000000 in
theorem eover_any (ao : Option Addr) (cap : Nat) (l : List Sp) (w : World) (h : SpRow w ao cap l) (hl : l.length ≤ 1000000) :
    Calls Try.prog 17 #[.slice ao l.length cap] w fun e w' => e = .returned (.tuple #[]) ∧ Fr (blk ao) w w' := by
  rcases h.whole with h0 | ⟨g, cur, rfl, hg, hsz⟩
  · subst h0
    clear h
    go_enter Try.func17, Try.ntmps17
    go_wp2_with fail
    go_loopw [2] (fun s2 wr => s2 = .int .i64 0 ∧ wr = w) (fun _ _ => 0)
    case atStart => exact ⟨rfl, rfl⟩
    case round =>
      obtain ⟨rfl, rfl⟩ := hrel
      go_wp2_with fail
      go_end0
      exact ⟨rfl, Fr.refl _ _⟩
  · have HG := hideIt hg
    clear h hg
    generalize l.length = n at *
    go_enter Try.func17, Try.ntmps17
    go_wp2_with fail
    go_loopw [2] (fun s2 wr => ∃ (j : Nat) (cs : Array Value), s2 = .int .i64 j ∧ j ≤ n ∧ n * 2 ≤ cs.size ∧ Hid (wr.heap[g]? = some (.cells cs 60 (0, 0))) ∧ Hid (Fr (fun k => k = g) w wr)) (fun s2 _ => n - (intOf s2).toNat)
    case atStart => exact ⟨0, cur, rfl, Nat.zero_le _, hsz, HG, hideIt (Fr.refl _ _)⟩
    case round =>
      clear HG
      obtain ⟨j, cs, rfl, hj, hcs, HG, HF⟩ := hrel
      by_cases hlt : j < n
      · have hj' : (j : Int) < (n : Int) := by omega
        have c0 : wr.cell? ⟨g, j * 2, none⟩ = some (cs[j * 2]'(by omega)) := by rw [cell_of_row wr g _ _ _ _ HG.out]; exact Array.getElem?_eq_getElem (by omega)
        have c1 : wr.cell? ⟨g, j * 2 + 1, none⟩ = some (cs[j * 2 + 1]'(by omega)) := by rw [cell_of_row wr g _ _ _ _ HG.out]; exact Array.getElem?_eq_getElem (by omega)
        have f0 : wr.frozen? ⟨g, j * 2, none⟩ = false := frozen_of_row wr g _ _ _ HG.out
        have f1 : wr.frozen? ⟨g, j * 2 + 1, none⟩ = false := frozen_of_row wr g _ _ _ HG.out
        have HG2 := hideIt (heap_setCell_same _ g (j * 2 + 1) _ _ (.string ⟨#[63]⟩) (heap_setCell_same wr g (j * 2) _ _ (.string ⟨#[63]⟩) HG.out))
        have HF2 := hideIt (Fr.setCell (p := ⟨g, j * 2 + 1, none⟩) (Fr.setCell (p := ⟨g, j * 2, none⟩) HF.out (fun _ => rfl) (.string ⟨#[63]⟩)) (fun _ => rfl) (.string ⟨#[63]⟩))
        go_wp2_with fail
        go_roundw
        case measure => simp [intOf]; omega
        case rel => exact ⟨j + 1, _, by go_num, by omega, by simpa using hcs, HG2, HF2⟩
      · obtain rfl : j = n := by omega
        go_wp2_with fail
        go_end0
        exact ⟨rfl, HF.out.mono (fun k e => ⟨⟨g, 0, none⟩, rfl, e.symm⟩)⟩

end Go.Proofs.Ytefikadaiconaaa
