/- Cell, the document's: Key, Check, at, Get, Scan. -/
import Derived.Test.YtefikadaiconaaaLm
namespace Go.Proofs.Ytefikadaiconaaa
open Go.RowKit Go.IntWalk
set_option linter.unusedSimpArgs false
set_option linter.unusedVariables false

theorem qkey_any (k : ByteArray) (w : World) : Calls Try.prog 21 #[.string k] w fun e w' => e = .returned (.bool (keyB k)) ∧ w' = w := by
  unfold keyB
  by_cases h0 : k.size = 0
  · have h1 : ¬ (1 : Int) ≤ (k.size : Int) := by omega
    rw [decide_eq_true h0]
    go_enter Try.func21, Try.ntmps21
    go_wp2
    go_ret
    exact ⟨rfl, rfl⟩
  · have h1 : (1 : Int) ≤ (k.size : Int) := by omega
    rw [decide_eq_false h0]
    go_enter Try.func21, Try.ntmps21
    go_wp2
    go_ret
    refine ⟨rb ?_, rfl⟩
    rw [Bool.eq_iff_iff]
    simp
    omega

theorem zin_any (s : Sp) (k : ByteArray) (w : World) : Calls Try.prog 41 #[.agg #[.string s.1, .string s.2], .string k] w fun e w' => e = .returned (.bool (decide (KeyIn s k.toList))) ∧ Fr (fun _ => False) w w' := by
  go_enter Try.func41, Try.ntmps41
  go_wp2
  all_goals
    go_ret
    refine ⟨?_, (Fr.refl _ _).alloc _⟩
    refine rb ?_
    simp_all [bytesLess_eq, KeyIn, NonE, lo, hi]

set_option maxRecDepth 100000 in
set_option maxHeartbeats 600000 in
theorem qcheck_any (ao : Option Addr) (cap : Nat) (l : List Sp) (hl : l.length ≤ 1099511627776) (w : World) (h : l = [] ∨ SpsAt w ao l) :
    Calls Try.prog 19 #[.slice ao l.length cap] w fun e w' => e = .returned (.int .i64 (chkE l)) ∧ Fr (fun _ => False) w w' := by
  have HH := hideIt h
  clear h
  by_cases hlong : 65536 < l.length
  · have HX := hideIt (show chkE l = 3 by unfold chkE; rw [if_pos hlong])
    have hl2 : (65536 : Int) < (l.length : Int) := by omega
    go_enter Try.func19, Try.ntmps19
    go_wp2_with fail
    go_ret
    exact ⟨by rw [HX.out]; rfl, Fr.refl _ _⟩
  · have HX := hideIt (show chkE l = if sttB l then 0 else 2 by unfold chkE; rw [if_neg hlong])
    have hl2 : ¬ (65536 : Int) < (l.length : Int) := by omega
    go_enter Try.func19, Try.ntmps19
    go_wp2_with fail
    go_loopw [3] (fun i wr => ∃ j : Nat, i = .int .i64 j ∧ j ≤ l.length ∧ Hid (OkTo l j) ∧ Hid (Fr (fun _ => False) w wr)) (fun i _ => l.length - (intOf i).toNat)
    case atStart => exact ⟨0, rfl, Nat.zero_le _, hideIt (fun i _ h => by omega), hideIt (Fr.refl _ _)⟩
    case round =>
      obtain ⟨j, rfl, hj, HB, HF⟩ := hrel
      by_cases hlt : j < l.length
      · obtain ⟨b, off, rfl, hbl, c0, c1⟩ := sps_get (sats_fr0 HH.out HF.out) j hlt
        have HK := hideIt (fun u => qkey_any l[j].1 u)
        have HN := hideIt (OkTo.no hlt)
        have HS := hideIt (HB.out.succ hlt)
        have hj' : (j : Int) < (l.length : Int) := by omega
        have hvd : decide ((64 : Int) < (l[j].2.size : Int)) = !valB l[j].2 := by
          unfold valB
          rw [Bool.eq_iff_iff]
          simp
          omega
        clear hlong
        by_cases hz : j = 0
        · have hz' : decide (0 < j) = false := decide_eq_false (by omega)
          have HZ := hideIt hz
          clear hz
          generalize l[j] = x at *
          generalize keyB x.1 = kb at *
          generalize valB x.2 = vb at *
          cases kb with
          | false =>
            clear hvd
            have HQ := hideIt (HN.out (Or.inl rfl))
            clear HN
            go_wp2_with fail
            go_quiet ((go_at_call 21; exact Calls.quiet_of_same (HK.out _)))
            go_wp2_with fail
            go_ret
            exact ⟨by rw [HX.out, HQ.out]; rfl, HF.out.drewN _⟩
          | true =>
            cases vb with
            | false =>
              have hv6 : (64 : Int) < (x.2.size : Int) := by simpa using hvd
              clear hvd
              have HQ := hideIt (HN.out (Or.inr (Or.inl rfl)))
              clear HN
              go_wp2_with fail
              go_quiet ((go_at_call 21; exact Calls.quiet_of_same (HK.out _)))
              go_wp2_with fail
              go_ret
              exact ⟨by rw [HX.out, HQ.out]; rfl, HF.out.drewN _⟩
            | true =>
              have hv6 : ¬ (64 : Int) < (x.2.size : Int) := by simpa using hvd
              clear hvd
              have HQ := hideIt (HS.out rfl rfl (fun i hi => absurd HZ.out (by omega)))
              go_wp2_with fail
              refine wp_region_held_drew (S := fun w' => w'.cell? ⟨b, off + j * 2, none⟩ = some (.string x.1) ∧ w'.cell? ⟨b, off + j * 2 + 1, none⟩ = some (.string x.2) ∧ Fr (fun _ => False) wr w') (by kernel_rfl) ?_ (fun hHeld => ?_)
              · exact ⟨c0, c1, (Fr.refl _ _).drew⟩
              refine wpAnyH_take (i := 0) (v := ?v1) rfl (by kernel_rfl) (by kernel_rfl) (by kernel_rfl) (fun _ _ _ h => h) (Or.inl ⟨by kernel_rfl, ?hy1⟩) (by assumption) ?rest1
              case hy1 => intro w hSw; (try dsimp only at hSw); go_simp; (try with_reducible rfl)
              try simp only [Act.put, List.getElem_toArray, List.getElem_cons_zero, List.getElem_cons_succ, List.setIfInBounds_toArray, List.set_cons_zero, List.set_cons_succ]
              refine wpAnyH_take (i := 1) (v := ?v2) rfl (by kernel_rfl) (by kernel_rfl) (by kernel_rfl) (fun _ _ _ h => h) (Or.inl ⟨by kernel_rfl, ?hy2⟩) (by assumption) ?rest2
              case hy2 => intro w hSw; (try dsimp only at hSw); go_simp; (try with_reducible rfl)
              try simp only [Act.put, List.getElem_toArray, List.getElem_cons_zero, List.getElem_cons_succ, List.setIfInBounds_toArray, List.set_cons_zero, List.set_cons_succ]
              refine wpAnyH_take (i := 2) (v := ?v3) rfl (by kernel_rfl) (by kernel_rfl) (by kernel_rfl) (fun _ _ _ h => h) (Or.inl ⟨by kernel_rfl, ?hy3⟩) (by assumption) ?rest3
              case hy3 => intro w hSw; (try dsimp only at hSw); go_simp; (try with_reducible rfl)
              try simp only [Act.put, List.getElem_toArray, List.getElem_cons_zero, List.getElem_cons_succ, List.setIfInBounds_toArray, List.set_cons_zero, List.set_cons_succ]
              refine wpAnyH_take (i := 3) (v := ?v4) rfl (by kernel_rfl) (by kernel_rfl) (by kernel_rfl) (fun _ _ _ h => h) (Or.inl ⟨by kernel_rfl, ?hy4⟩) (by assumption) ?rest4
              case hy4 => intro w hSw; (try dsimp only at hSw); go_simp; (try with_reducible rfl)
              try simp only [Act.put, List.getElem_toArray, List.getElem_cons_zero, List.getElem_cons_succ, List.setIfInBounds_toArray, List.set_cons_zero, List.set_cons_succ]
              refine wpAnyH_take (i := 4) (v := ?v5) rfl (by kernel_rfl) (by kernel_rfl) (by kernel_rfl) (fun _ _ _ h => h) (Or.inl ⟨by kernel_rfl, ?hy5⟩) (by assumption) ?rest5
              case hy5 => intro w hSw; (try dsimp only at hSw); go_simp; (try with_reducible rfl)
              try simp only [Act.put, List.getElem_toArray, List.getElem_cons_zero, List.getElem_cons_succ, List.setIfInBounds_toArray, List.set_cons_zero, List.set_cons_succ]
              refine wpAnyH_ready (rs := [5]) (by kernel_rfl) (by simp) ?_
              refine AllReadyH.cons rfl (fun K hK => ?_) AllReadyH.nil
              go_simp
              refine Calls.mono (HK.out _) ?_
              rintro e wx ⟨rfl, rfl⟩
              refine hK.out _ _ ?_ (fun hHeld => ?_)
              · exact hHeld
              clear hK K
              try simp only [Act.put, List.getElem_toArray, List.getElem_cons_zero, List.getElem_cons_succ, List.setIfInBounds_toArray, List.set_cons_zero, List.set_cons_succ]
              refine wpAnyH_take (i := 6) (v := ?v6) rfl (by kernel_rfl) (by kernel_rfl) (by kernel_rfl) (fun _ _ _ h => h) (Or.inl ⟨by kernel_rfl, ?hy6⟩) (by assumption) ?rest6
              case hy6 => intro w hSw; (try dsimp only at hSw); go_simp; (try with_reducible rfl)
              try simp only [Act.put, List.getElem_toArray, List.getElem_cons_zero, List.getElem_cons_succ, List.setIfInBounds_toArray, List.set_cons_zero, List.set_cons_succ]
              refine wpAnyH_take (i := 7) (v := ?v7) rfl (by kernel_rfl) (by kernel_rfl) (by kernel_rfl) (fun _ _ _ h => h) (Or.inl ⟨by kernel_rfl, ?hy7⟩) (by assumption) ?rest7
              case hy7 => intro w hSw; (try dsimp only at hSw); go_simp; (try with_reducible rfl)
              try simp only [Act.put, List.getElem_toArray, List.getElem_cons_zero, List.getElem_cons_succ, List.setIfInBounds_toArray, List.set_cons_zero, List.set_cons_succ]
              refine wpAnyH_take (i := 8) (v := ?v8) rfl (by kernel_rfl) (by kernel_rfl) (by kernel_rfl) (fun _ _ _ h => h) (Or.inl ⟨by kernel_rfl, ?hy8⟩) (by assumption) ?rest8
              case hy8 => intro w hSw; (try dsimp only at hSw); go_simp; (try with_reducible rfl)
              try simp only [Act.put, List.getElem_toArray, List.getElem_cons_zero, List.getElem_cons_succ, List.setIfInBounds_toArray, List.set_cons_zero, List.set_cons_succ]
              refine wpAnyH_take (i := 9) (v := ?v9) rfl (by kernel_rfl) (by kernel_rfl) (by kernel_rfl) (fun _ _ _ h => h) (Or.inl ⟨by kernel_rfl, ?hy9⟩) (by assumption) ?rest9
              case hy9 => intro w hSw; (try dsimp only at hSw); go_simp; (try with_reducible rfl)
              try simp only [Act.put, List.getElem_toArray, List.getElem_cons_zero, List.getElem_cons_succ, List.setIfInBounds_toArray, List.set_cons_zero, List.set_cons_succ]
              refine wpAnyH_take (i := 10) (v := ?v10) rfl (by kernel_rfl) (by kernel_rfl) (by kernel_rfl) (fun _ _ _ h => h) (Or.inl ⟨by kernel_rfl, ?hy10⟩) (by assumption) ?rest10
              case hy10 => intro w hSw; (try dsimp only at hSw); go_simp; (try with_reducible rfl)
              try simp only [Act.put, List.getElem_toArray, List.getElem_cons_zero, List.getElem_cons_succ, List.setIfInBounds_toArray, List.set_cons_zero, List.set_cons_succ]
              refine wpAnyH_take (i := 11) (v := ?v11) rfl (by kernel_rfl) (by kernel_rfl) (by kernel_rfl) (fun _ _ _ h => h) (Or.inl ⟨by kernel_rfl, ?hy11⟩) (by assumption) ?rest11
              case hy11 => intro w hSw; (try dsimp only at hSw); go_simp; (try with_reducible rfl)
              try simp only [Act.put, List.getElem_toArray, List.getElem_cons_zero, List.getElem_cons_succ, List.setIfInBounds_toArray, List.set_cons_zero, List.set_cons_succ]
              refine wpAnyH_take (i := 12) (v := ?v12) rfl (by kernel_rfl) (by kernel_rfl) (by kernel_rfl) (fun _ _ _ h => h) (Or.inl ⟨by kernel_rfl, ?hy12⟩) (by assumption) ?rest12
              case hy12 => intro w hSw; (try dsimp only at hSw); go_simp; (try with_reducible rfl)
              try simp only [Act.put, List.getElem_toArray, List.getElem_cons_zero, List.getElem_cons_succ, List.setIfInBounds_toArray, List.set_cons_zero, List.set_cons_succ]
              refine wpAnyH_take (i := 13) (v := ?v13) rfl (by kernel_rfl) (by kernel_rfl) (by kernel_rfl) (fun _ _ _ h => h) (Or.inl ⟨by kernel_rfl, ?hy13⟩) (by assumption) ?rest13
              case hy13 => intro w hSw; (try dsimp only at hSw); go_simp; (try with_reducible rfl)
              try simp only [Act.put, List.getElem_toArray, List.getElem_cons_zero, List.getElem_cons_succ, List.setIfInBounds_toArray, List.set_cons_zero, List.set_cons_succ]
              refine wpAnyH_take (i := 14) (v := .bool false) rfl (by kernel_rfl) (by kernel_rfl) (by kernel_rfl) (fun _ _ _ h => h) (Or.inl ⟨by kernel_rfl, fun w0 hSw => by go_simp⟩) (by assumption) ?_
              try simp only [Act.put, List.getElem_toArray, List.getElem_cons_zero, List.getElem_cons_succ, List.setIfInBounds_toArray, List.set_cons_zero, List.set_cons_succ]
              refine wpAnyH_take (i := 15) (v := ?v14) rfl (by kernel_rfl) (by kernel_rfl) (by kernel_rfl) (fun _ _ _ h => h) (Or.inl ⟨by kernel_rfl, ?hy14⟩) (by assumption) ?rest14
              case hy14 => intro w hSw; (try dsimp only at hSw); go_simp; (try with_reducible rfl)
              try simp only [Act.put, List.getElem_toArray, List.getElem_cons_zero, List.getElem_cons_succ, List.setIfInBounds_toArray, List.set_cons_zero, List.set_cons_succ]
              refine wpAnyH_take (i := 16) (v := ?v15) rfl (by kernel_rfl) (by kernel_rfl) (by kernel_rfl) (fun _ _ _ h => h) (Or.inl ⟨by kernel_rfl, ?hy15⟩) (by assumption) ?rest15
              case hy15 => intro w hSw; (try dsimp only at hSw); go_simp; (try with_reducible rfl)
              try simp only [Act.put, List.getElem_toArray, List.getElem_cons_zero, List.getElem_cons_succ, List.setIfInBounds_toArray, List.set_cons_zero, List.set_cons_succ]
              refine wpAnyH_take (i := 17) (v := ?v16) rfl (by kernel_rfl) (by kernel_rfl) (by kernel_rfl) (fun _ _ _ h => h) (Or.inl ⟨by kernel_rfl, ?hy16⟩) (by assumption) ?rest16
              case hy16 => intro w hSw; (try dsimp only at hSw); go_simp; (try with_reducible rfl)
              try simp only [Act.put, List.getElem_toArray, List.getElem_cons_zero, List.getElem_cons_succ, List.setIfInBounds_toArray, List.set_cons_zero, List.set_cons_succ]
              refine wpAnyH_take (i := 18) (v := .bool false) rfl (by kernel_rfl) (by kernel_rfl) (by kernel_rfl) (fun _ _ _ h => h) (Or.inl ⟨by kernel_rfl, fun w0 hSw => by go_simp⟩) (by assumption) ?_
              try simp only [Act.put, List.getElem_toArray, List.getElem_cons_zero, List.getElem_cons_succ, List.setIfInBounds_toArray, List.set_cons_zero, List.set_cons_succ]
              refine wpAnyH_take (i := 19) (v := ?v17) rfl (by kernel_rfl) (by kernel_rfl) (by kernel_rfl) (fun _ _ _ h => h) (Or.inl ⟨by kernel_rfl, ?hy17⟩) (by assumption) ?rest17
              case hy17 => intro w hSw; (try dsimp only at hSw); go_simp; (try with_reducible rfl)
              try simp only [Act.put, List.getElem_toArray, List.getElem_cons_zero, List.getElem_cons_succ, List.setIfInBounds_toArray, List.set_cons_zero, List.set_cons_succ]
              refine wpAnyH_take (i := 20) (v := undef) rfl (by kernel_rfl) (by kernel_rfl) (by kernel_rfl) (fun _ _ _ h => h) (Or.inr ⟨by kernel_rfl, rfl⟩) (by assumption) ?_
              try simp only [Act.put, List.getElem_toArray, List.getElem_cons_zero, List.getElem_cons_succ, List.setIfInBounds_toArray, List.set_cons_zero, List.set_cons_succ]
              refine wpAnyH_take (i := 21) (v := undef) rfl (by kernel_rfl) (by kernel_rfl) (by kernel_rfl) (fun _ _ _ h => h) (Or.inr ⟨by kernel_rfl, rfl⟩) (by assumption) ?_
              try simp only [Act.put, List.getElem_toArray, List.getElem_cons_zero, List.getElem_cons_succ, List.setIfInBounds_toArray, List.set_cons_zero, List.set_cons_succ]
              refine wpAnyH_take (i := 22) (v := undef) rfl (by kernel_rfl) (by kernel_rfl) (by kernel_rfl) (fun _ _ _ h => h) (Or.inr ⟨by kernel_rfl, rfl⟩) (by assumption) ?_
              try simp only [Act.put, List.getElem_toArray, List.getElem_cons_zero, List.getElem_cons_succ, List.setIfInBounds_toArray, List.set_cons_zero, List.set_cons_succ]
              refine wpAnyH_take (i := 23) (v := undef) rfl (by kernel_rfl) (by kernel_rfl) (by kernel_rfl) (fun _ _ _ h => h) (Or.inr ⟨by kernel_rfl, rfl⟩) (by assumption) ?_
              try simp only [Act.put, List.getElem_toArray, List.getElem_cons_zero, List.getElem_cons_succ, List.setIfInBounds_toArray, List.set_cons_zero, List.set_cons_succ]
              refine wpAnyH_take (i := 24) (v := undef) rfl (by kernel_rfl) (by kernel_rfl) (by kernel_rfl) (fun _ _ _ h => h) (Or.inr ⟨by kernel_rfl, rfl⟩) (by assumption) ?_
              try simp only [Act.put, List.getElem_toArray, List.getElem_cons_zero, List.getElem_cons_succ, List.setIfInBounds_toArray, List.set_cons_zero, List.set_cons_succ]
              refine wpAnyH_take (i := 25) (v := undef) rfl (by kernel_rfl) (by kernel_rfl) (by kernel_rfl) (fun _ _ _ h => h) (Or.inr ⟨by kernel_rfl, rfl⟩) (by assumption) ?_
              try simp only [Act.put, List.getElem_toArray, List.getElem_cons_zero, List.getElem_cons_succ, List.setIfInBounds_toArray, List.set_cons_zero, List.set_cons_succ]
              refine wpAnyH_take (i := 26) (v := undef) rfl (by kernel_rfl) (by kernel_rfl) (by kernel_rfl) (fun _ _ _ h => h) (Or.inr ⟨by kernel_rfl, rfl⟩) (by assumption) ?_
              try simp only [Act.put, List.getElem_toArray, List.getElem_cons_zero, List.getElem_cons_succ, List.setIfInBounds_toArray, List.set_cons_zero, List.set_cons_succ]
              refine wpAnyH_take (i := 27) (v := undef) rfl (by kernel_rfl) (by kernel_rfl) (by kernel_rfl) (fun _ _ _ h => h) (Or.inr ⟨by kernel_rfl, rfl⟩) (by assumption) ?_
              try simp only [Act.put, List.getElem_toArray, List.getElem_cons_zero, List.getElem_cons_succ, List.setIfInBounds_toArray, List.set_cons_zero, List.set_cons_succ]
              refine wpAnyH_take (i := 28) (v := undef) rfl (by kernel_rfl) (by kernel_rfl) (by kernel_rfl) (fun _ _ _ h => h) (Or.inr ⟨by kernel_rfl, rfl⟩) (by assumption) ?_
              try simp only [Act.put, List.getElem_toArray, List.getElem_cons_zero, List.getElem_cons_succ, List.setIfInBounds_toArray, List.set_cons_zero, List.set_cons_succ]
              refine wpAnyH_take (i := 29) (v := undef) rfl (by kernel_rfl) (by kernel_rfl) (by kernel_rfl) (fun _ _ _ h => h) (Or.inr ⟨by kernel_rfl, rfl⟩) (by assumption) ?_
              try simp only [Act.put, List.getElem_toArray, List.getElem_cons_zero, List.getElem_cons_succ, List.setIfInBounds_toArray, List.set_cons_zero, List.set_cons_succ]
              refine wpAnyH_take (i := 30) (v := undef) rfl (by kernel_rfl) (by kernel_rfl) (by kernel_rfl) (fun _ _ _ h => h) (Or.inr ⟨by kernel_rfl, rfl⟩) (by assumption) ?_
              try simp only [Act.put, List.getElem_toArray, List.getElem_cons_zero, List.getElem_cons_succ, List.setIfInBounds_toArray, List.set_cons_zero, List.set_cons_succ]
              refine wpAnyH_take (i := 31) (v := undef) rfl (by kernel_rfl) (by kernel_rfl) (by kernel_rfl) (fun _ _ _ h => h) (Or.inr ⟨by kernel_rfl, rfl⟩) (by assumption) ?_
              try simp only [Act.put, List.getElem_toArray, List.getElem_cons_zero, List.getElem_cons_succ, List.setIfInBounds_toArray, List.set_cons_zero, List.set_cons_succ]
              refine wpAnyH_take (i := 32) (v := ?v18) rfl (by kernel_rfl) (by kernel_rfl) (by kernel_rfl) (fun _ _ _ h => h) (Or.inl ⟨by kernel_rfl, ?hy18⟩) (by assumption) ?rest18
              case hy18 => intro w hSw; (try dsimp only at hSw); go_simp; (try with_reducible rfl)
              try simp only [Act.put, List.getElem_toArray, List.getElem_cons_zero, List.getElem_cons_succ, List.setIfInBounds_toArray, List.set_cons_zero, List.set_cons_succ]
              refine wpAnyH_take (i := 33) (v := ?v19) rfl (by kernel_rfl) (by kernel_rfl) (by kernel_rfl) (fun _ _ _ h => h) (Or.inl ⟨by kernel_rfl, ?hy19⟩) (by assumption) ?rest19
              case hy19 => intro w hSw; (try dsimp only at hSw); go_simp; (try with_reducible rfl)
              try simp only [Act.put, List.getElem_toArray, List.getElem_cons_zero, List.getElem_cons_succ, List.setIfInBounds_toArray, List.set_cons_zero, List.set_cons_succ]
              refine wpAnyH_done (by kernel_rfl) ?_ _
              have HFX := hideIt (HF.out.trans hHeld.2.2 (fun _ _ e => e))
              clear hHeld c0 c1
              go_wp2_with fail
              go_roundw
              case measure => simp [intOf]; omega
              case rel => exact ⟨j + 1, by go_num, by omega, HQ, HFX⟩
        · obtain ⟨n, hn⟩ : ∃ n, j = n + 1 := ⟨j - 1, by omega⟩
          have hz' : decide (0 < j) = true := decide_eq_true (by omega)
          have hnl : n < l.length := by omega
          obtain ⟨b2, off2, e2, _, c2, _⟩ := sps_get (sats_fr0 HH.out HF.out) n hnl
          obtain ⟨rfl, rfl⟩ : b = b2 ∧ off = off2 := by simpa using e2
          have h1 : IntKind.i64.wrap ((j : Int) - 1) = (n : Int) := by rw [show ((j : Int) - 1) = (n : Int) by omega]; exact i64_in _ (by omega)
          have h2 : (n : Int) < (l.length : Int) := by omega
          have HNJ := hideIt (fun (h : ¬ kLt l[n].1 l[j].1) => HN.out (Or.inr (Or.inr ⟨n, hn.symm, h⟩)))
          have HSJ := hideIt (fun h1 h2 (h : kLt l[n].1 l[j].1) => HS.out h1 h2 (fun i hi => (by obtain rfl : i = n := (by omega); exact h)))
          have HJ := hideIt hn
          clear hn hz e2 HS
          generalize l[j] = x at *
          generalize l[n] = y at *
          generalize keyB x.1 = kb at *
          generalize valB x.2 = vb at *
          cases kb with
          | false =>
            clear hvd
            have HQ := hideIt (HN.out (Or.inl rfl))
            clear HN
            go_wp2_with fail
            go_quiet ((go_at_call 21; exact Calls.quiet_of_same (HK.out _)))
            go_wp2_with fail
            go_ret
            exact ⟨by rw [HX.out, HQ.out]; rfl, HF.out.drewN _⟩
          | true =>
            cases vb with
            | false =>
              have hv6 : (64 : Int) < (x.2.size : Int) := by simpa using hvd
              clear hvd
              have HQ := hideIt (HN.out (Or.inr (Or.inl rfl)))
              clear HN
              go_wp2_with fail
              go_quiet ((go_at_call 21; exact Calls.quiet_of_same (HK.out _)))
              go_wp2_with fail
              go_ret
              exact ⟨by rw [HX.out, HQ.out]; rfl, HF.out.drewN _⟩
            | true =>
              have hv6 : ¬ (64 : Int) < (x.2.size : Int) := by simpa using hvd
              clear hvd
              by_cases hx : kLt y.1 x.1
              · have hq : Op.bytesLess y.1.toList x.1.toList = true := by rw [bytesLess_eq]; exact decide_eq_true hx
                have HXX := hideIt hx
                clear hx
                have HQ := hideIt (HSJ.out rfl rfl HXX.out)
                go_wp2_with fail
                go_quiet ((go_at_call 21; exact Calls.quiet_of_same (HK.out _)))
                go_wp2_with fail
                go_roundw
                case measure => simp [intOf]; omega
                case rel => exact ⟨j + 1, by go_num, by omega, HQ, hideIt (HF.out.drewN _)⟩
              · have hq : Op.bytesLess y.1.toList x.1.toList = false := by rw [bytesLess_eq]; exact decide_eq_false hx
                have HXX := hideIt (HNJ.out hx)
                clear hx
                go_wp2_with fail
                go_quiet ((go_at_call 21; exact Calls.quiet_of_same (HK.out _)))
                go_wp2_with fail
                go_ret
                exact ⟨by rw [HX.out, HXX.out]; rfl, HF.out.drewN _⟩
      · obtain rfl : j = l.length := by omega
        have HXX := hideIt HB.out.all
        go_wp2_with fail
        go_ret
        exact ⟨by rw [HX.out, HXX.out]; rfl, HF.out⟩

theorem place_stop (l : List Sp) (k : ByteArray) (n : Nat) (hn : n ≤ l.length) (h1 : ∀ t (h : t < l.length), t < n → kLt l[t].1 k) (h2 : ∀ h : n < l.length, ¬ kLt l[n].1 k) : placeL l k = n := by
  induction l generalizing n with
  | nil => simp at hn; subst hn; rfl
  | cons p l ih =>
    cases n with
    | zero => exact place_cons_ge p l k (h2 (by simp))
    | succ n =>
      rw [place_cons_lt p l k (h1 0 (by simp) (by omega)), ih n (by simpa using hn) (fun t h h' => by
        have := h1 (t + 1) (by simpa using h) (by omega)
        rwa [List.getElem_cons_succ] at this) (fun h => by
        have := h2 (by simpa using h)
        rwa [List.getElem_cons_succ] at this)]

set_option maxRecDepth 100000 in
set_option maxHeartbeats 600000 in
theorem qat_any (k : ByteArray) (ao : Option Addr) (cap : Nat) (l : List Sp) (hl : l.length ≤ 1099511627776) (w : World) (h : l = [] ∨ SpsAt w ao l) :
    Calls Try.prog 40 #[.slice ao l.length cap, .string k] w fun e w' => e = .returned (.int .i64 (placeL l k)) ∧ w' = w := by
  have HH := hideIt h
  clear h
  go_enter Try.func40, Try.ntmps40
  go_wp2_with fail
  go_loop [5] (fun i => ∃ j : Nat, i = .int .i64 j ∧ j ≤ l.length ∧ Hid (∀ t (h : t < l.length), t < j → kLt l[t].1 k)) (fun i => l.length - (intOf i).toNat)
  case atStart => exact ⟨0, rfl, Nat.zero_le _, hideIt (fun t h e => by omega)⟩
  case round =>
    obtain ⟨j, rfl, hj, HB⟩ := hrel
    by_cases hlt : j < l.length
    · obtain ⟨b, off, rfl, hbl, c0, _⟩ := sps_get HH.out j hlt
      have HT := hideIt (fun (hx : kLt l[j].1 k) t (h : t < l.length) (h2 : t < j + 1) => show kLt l[t].1 k from by
        by_cases e : t = j
        · subst e; exact hx
        · exact HB.out t h (by omega))
      have HE := hideIt (fun (hx : ¬ kLt l[j].1 k) => place_stop l k j hj HB.out (fun _ => hx))
      have hj' : (j : Int) < (l.length : Int) := by omega
      generalize l[j] = x at *
      by_cases hx : kLt x.1 k
      · have hq : Op.bytesLess x.1.toList k.toList = true := by rw [bytesLess_eq]; exact decide_eq_true hx
        have HX := hideIt (HT.out hx)
        clear hx HT HE
        go_wp2_with fail
        go_round
        case rel => exact ⟨j + 1, by go_num, by omega, HX⟩
        case measure => simp [intOf]; omega
      · have hq : Op.bytesLess x.1.toList k.toList = false := by rw [bytesLess_eq]; exact decide_eq_false hx
        have HX := hideIt (HE.out hx)
        clear hx HT HE
        go_wp2_with fail
        go_ret
        exact ⟨by rw [HX.out]; rfl, rfl⟩
    · obtain rfl : j = l.length := by omega
      have HX := hideIt (place_stop l k _ hj HB.out (fun h => absurd h (Nat.lt_irrefl _)))
      go_wp2_with fail
      go_ret
      exact ⟨by rw [HX.out]; rfl, rfl⟩

set_option maxRecDepth 100000 in
set_option maxHeartbeats 600000 in
theorem qget_any (ao : Option Addr) (cap : Nat) (l : List Sp) (k : ByteArray) (hl : l.length ≤ 1099511627776) (w : World) (h : l = [] ∨ SpsAt w ao l) :
    Calls Try.prog 13 #[.slice ao l.length cap, .string k] w fun e w' => e = .returned (.tuple #[.string (getL l k).1, .bool (getL l k).2]) ∧ Fr (fun _ => False) w w' := by
  have HA := hideIt (qat_any k ao cap l hl w h)
  have HC := hideIt (qcheck_any ao cap l hl w h)
  have HH := hideIt h
  have hpl := placeL_le l k
  have HB := hideIt (here_get l k)
  have HG := hideIt (show getL l k = if chkE l = 0 ∧ hereB l k = true then ((l.getD (placeL l k) (⟨#[]⟩, ⟨#[]⟩)).2, true) else (⟨#[]⟩, false) from rfl)
  clear h
  generalize getL l k = G at *
  generalize placeL l k = P at *
  generalize hereB l k = hb at *
  by_cases hc : chkE l = 0
  · rw [hc] at HC HG
    clear hc
    by_cases hP : P < l.length
    · have hpe : ((P : Int) == (l.length : Int)) = false := beq_eq_false_iff_ne.2 (by omega)
      have hP' : (P : Int) < (l.length : Int) := by omega
      go_enter Try.func13, Try.ntmps13
      go_wp2_with fail
      refine Calls.mono HA.out ?_
      rintro e w1 ⟨rfl, rfl⟩
      go_wp2_with fail
      refine Calls.mono HC.out ?_
      rintro e w2 ⟨rfl, hF2⟩
      obtain ⟨b, off, rfl, hbl, c0, c1⟩ := sps_get (sats_fr0 HH.out hF2) P hP
      have HF2 := hideIt hF2
      have HD := hideIt (show l.getD P (⟨#[]⟩, ⟨#[]⟩) = l[P] by simp [List.getD, hP])
      clear hF2
      by_cases hx : l[P].1 = k
      · have hbt : hb = true := HB.out.2 ⟨hP, hx⟩
        have HQ := hideIt (show G = (l[P].2, true) by rw [HG.out, if_pos ⟨by decide, hbt⟩, HD.out])
        have hq : (l[P].1.toList == k.toList) = true := by rw [hx]; simp
        have hq2 : (l[P].1.toList != k.toList) = false := by rw [hx]; simp
        clear hx hbt HD HB HG
        generalize l[P] = x at *
        go_wp2_with fail
        go_ret2
        exact ⟨by rw [HQ.out]; rfl, HF2.out⟩
      · have hbf : hb = false := by
          cases hb with
          | false => rfl
          | true => obtain ⟨_, h2⟩ := HB.out.1 rfl; exact absurd h2 hx
        have HQ := hideIt (show G = (⟨#[]⟩, false) by rw [HG.out, if_neg (fun e => by rw [hbf] at e; cases e.2)])
        have hq : (l[P].1.toList == k.toList) = false := by rw [key_eq]; exact decide_eq_false hx
        have hq2 : (l[P].1.toList != k.toList) = true := by simp only [bne, hq]; rfl
        clear hx hbf HD HB HG
        generalize l[P] = x at *
        go_wp2_with fail
        go_ret2
        exact ⟨by rw [HQ.out]; rfl, HF2.out⟩
    · have hpe : ((P : Int) == (l.length : Int)) = true := beq_iff_eq.2 (by omega)
      have hbf : hb = false := by
        cases hb with
        | false => rfl
        | true => exact absurd (HB.out.1 rfl).1 hP
      have HQ := hideIt (show G = (⟨#[]⟩, false) by rw [HG.out, if_neg (fun e => by rw [hbf] at e; cases e.2)])
      clear hP HB HG hbf
      go_enter Try.func13, Try.ntmps13
      go_wp2_with fail
      refine Calls.mono HA.out ?_
      rintro e w1 ⟨rfl, rfl⟩
      go_wp2_with fail
      refine Calls.mono HC.out ?_
      rintro e w2 ⟨rfl, hF2⟩
      have HF2 := hideIt hF2
      clear hF2
      go_wp2_with fail
      go_ret2
      exact ⟨by rw [HQ.out]; rfl, HF2.out⟩
  · have HQ := hideIt (show G = (⟨#[]⟩, false) by rw [HG.out, if_neg (fun e => hc e.1)])
    have hne : (chkE l != 0) = true := by simpa using hc
    clear hc HG HB
    generalize chkE l = c at *
    go_enter Try.func13, Try.ntmps13
    go_wp2_with fail
    refine Calls.mono HA.out ?_
    rintro e w1 ⟨rfl, rfl⟩
    go_wp2_with fail
    refine Calls.mono HC.out ?_
    rintro e w2 ⟨rfl, hF2⟩
    have HF2 := hideIt hF2
    clear hF2
    go_wp2_with fail
    go_ret2
    exact ⟨by rw [HQ.out]; rfl, HF2.out⟩

end Go.Proofs.Ytefikadaiconaaa
