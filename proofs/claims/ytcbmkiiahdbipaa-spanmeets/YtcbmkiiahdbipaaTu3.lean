/- SpanMeets, walked. -/
import Derived.Test.YtcbmkiiahdbipaaTu
namespace Go.Proofs.Ytcbmkiiahdbipaa
open Go.RowKit Go.IntWalk
set_option linter.unusedSimpArgs false
set_option linter.unusedVariables false

set_option maxRecDepth 100000 in
set_option maxHeartbeats 4000000 in
theorem meets_c4 (a b : Sp) (k : ByteArray) (w : World) (hx : decide (KeyIn a k.toList) = false) (hia : decide (KeyIn a (Lib.maxS a.1 b.1).toList) = true) (he : decide (NonE a) = true) : Calls Try.prog 5 #[.agg #[.string a.1, .string a.2], .agg #[.string b.1, .string b.2], .string k] w fun e w' => e = .returned (.bool true) ∧ Fr (fun _ => False) w w' := by
  have hm := meets_lo a b
  have HMe := hideIt (fun w => meets_any a b w)
  have HMr := hideIt (fun w => meets_any b a w)
  rw [maxS_comm b.1 a.1] at HMr
  have HMs := hideIt (fun w => meets_any a a w)
  rw [maxS_self a.1, keyIn_lo a, Bool.and_self] at HMs
  have HEm := hideIt (fun w => empty_any a w)
  rw [decide_not] at HEm
  have HIl := hideIt (fun w => in_any a a.1 w)
  rw [keyIn_lo a] at HIl
  have H1 := hideIt (fun w => in_any a k w)
  have H2 := hideIt (fun w => in_any b k w)
  have H3 := hideIt (fun w => in_any a (Lib.maxS a.1 b.1) w)
  have H4 := hideIt (fun w => in_any b (Lib.maxS a.1 b.1) w)
  rw [hx] at H1
  rw [hia] at H3 HMe HMr
  rw [he] at HMs HEm HIl
  generalize Lib.maxS a.1 b.1 = m at *
  generalize decide (KeyIn b m.toList) = ib at *
  simp only [Bool.true_and, Bool.and_true, Bool.false_and, Bool.and_false, Bool.not_true, Bool.not_false] at HMe HMr HEm
  clear hx hia he
  have HC := hideIt (show ∀ w' : World, Fr (fun _ => False) ((w.alloc (.cells #[.string a.1, .string a.2] 23)).alloc (.cells #[.string b.1, .string b.2] 23)) w' → w'.cell? ⟨w.heap.size, 0, none⟩ = some (.string a.1) ∧ w'.cell? ⟨w.heap.size, 1, none⟩ = some (.string a.2) ∧ w'.cell? ⟨w.heap.size + 1, 0, none⟩ = some (.string b.1) ∧ w'.cell? ⟨w.heap.size + 1, 1, none⟩ = some (.string b.2) from fun w' h =>
    ⟨h.cell0 (cellA (cellNew w _ _ _ 0 rfl) _), h.cell0 (cellA (cellNew w _ _ _ 1 rfl) _), h.cell0 (cellNew _ _ _ _ 0 (by simp)), h.cell0 (cellNew _ _ _ _ 1 (by simp))⟩)
  have HF0 := hideIt (((Fr.refl (fun _ => False) w).alloc (.cells #[.string a.1, .string a.2] 23)).alloc (.cells #[.string b.1, .string b.2] 23))
  go_enter Try.func5, Try.ntmps5
  go_wp2_with fail
  generalize (w.alloc (.cells #[.string a.1, .string a.2] 23)).alloc (.cells #[.string b.1, .string b.2] 23) = W at *
  refine Calls.mono (awake_any _) ?_
  rintro e w1 ⟨rfl, hW1⟩
  obtain ⟨c0, c1, c2, c3⟩ := HC.out w1 hW1
  go_wp2_with fail
  refine Calls.mono (long2 a b w1) ?_
  rintro e w1' ⟨⟨v, rfl⟩, rfl⟩
  have hW2 := hW1.alloc (.cells #[.string a.1, .string a.2, .string b.1, .string b.2] 23)
  cases v
  case true =>
    go_wp2_with fail
    go_ret
    exact ⟨rfl, HF0.out.trans hW2 (fun _ _ e => e)⟩
  case false =>
    by_cases hk : 100 < k.size
    · have hk' : (100 : Int) < (k.size : Int) := by omega
      go_wp2_with fail
      go_ret
      exact ⟨rfl, HF0.out.trans hW2 (fun _ _ e => e)⟩
    · have hk' : ¬ (100 : Int) < (k.size : Int) := by omega
      clear c0 c1 c2 c3
      generalize w1.alloc (.cells #[.string a.1, .string a.2, .string b.1, .string b.2] 23) = w2 at *
      obtain ⟨c0, c1, c2, c3⟩ := HC.out w2 hW2
      clear hW1
      go_wp2_with fail
      refine Calls.mono (HMe.out _) ?_
      rintro e w3 ⟨rfl, hX3⟩
      have hW3 := hW2.trans hX3 (fun _ _ e => e)
      obtain ⟨d0, d1, d2, d3⟩ := HC.out w3 hW3
      clear hX3 hW2 c0 c1 c2 c3
      go_wp2_with fail
      refine Calls.mono (H1.out _) ?_
      rintro e w4 ⟨rfl, hX4⟩
      have hW4 := hW3.trans hX4 (fun _ _ e => e)
      obtain ⟨d0, d1, d2, d3⟩ := HC.out w4 hW4
      clear hX4 hW3
      go_wp2_with fail
      refine Calls.mono (H3.out _) ?_
      rintro e w5 ⟨rfl, hX5⟩
      have hW5 := hW4.trans hX5 (fun _ _ e => e)
      obtain ⟨d0, d1, d2, d3⟩ := HC.out w5 hW5
      clear hX5 hW4
      go_wp2_with fail
      refine Calls.mono (H4.out _) ?_
      rintro e w6 ⟨rfl, hX6⟩
      have hW6 := hW5.trans hX6 (fun _ _ e => e)
      obtain ⟨d0, d1, d2, d3⟩ := HC.out w6 hW6
      clear hX6 hW5
      go_wp2_with fail
      refine Calls.mono (HMr.out _) ?_
      rintro e w7 ⟨rfl, hX7⟩
      have hW7 := hW6.trans hX7 (fun _ _ e => e)
      obtain ⟨d0, d1, d2, d3⟩ := HC.out w7 hW7
      clear hX7 hW6
      go_wp2_with fail
      have HS := hideIt (show ∀ w' : World, Fr (fun _ => False) W w' → w'.cell? ⟨w.heap.size, 0, none⟩ = some (.string a.1) ∧ w'.cell? ⟨w.heap.size, 1, none⟩ = some (.string a.2) ∧ Fr (fun _ => False) W w' from fun w' h => by
        obtain ⟨h0, h1, h2, h3⟩ := HC.out w' h
        exact ⟨h0, h1, h⟩)
      refine wp_region_held_drew (S := fun w' => w'.cell? ⟨w.heap.size, 0, none⟩ = some (.string a.1) ∧ w'.cell? ⟨w.heap.size, 1, none⟩ = some (.string a.2) ∧ Fr (fun _ => False) W w') (by kernel_rfl) ?_ (fun hHeld => ?_)
      · exact HS.out _ hW7.drew
      refine wpAnyH_take (i := 0) (v := ?v64) rfl (by kernel_rfl) (by kernel_rfl) (by kernel_rfl) (fun _ _ _ h => h) (Or.inl ⟨by kernel_rfl, ?hy64⟩) (by assumption) ?rest64
      case hy64 => intro w hSw; (try dsimp only at hSw); go_simp; (try with_reducible rfl)
      try simp only [Act.put, List.setIfInBounds_toArray, List.set_cons_zero, List.set_cons_succ]
      refine wpAnyH_take (i := 1) (v := ?v65) rfl (by kernel_rfl) (by kernel_rfl) (by kernel_rfl) (fun _ _ _ h => h) (Or.inl ⟨by kernel_rfl, ?hy65⟩) (by assumption) ?rest65
      case hy65 => intro w hSw; (try dsimp only at hSw); go_simp; (try with_reducible rfl)
      try simp only [Act.put, List.setIfInBounds_toArray, List.set_cons_zero, List.set_cons_succ]
      refine wpAnyH_take (i := 2) (v := ?v66) rfl (by kernel_rfl) (by kernel_rfl) (by kernel_rfl) (fun _ _ _ h => h) (Or.inl ⟨by kernel_rfl, ?hy66⟩) (by assumption) ?rest66
      case hy66 => intro w hSw; (try dsimp only at hSw); go_simp; (try with_reducible rfl)
      try simp only [Act.put, List.setIfInBounds_toArray, List.set_cons_zero, List.set_cons_succ]
      refine wpAnyH_take (i := 4) (v := ?v67) rfl (by kernel_rfl) (by kernel_rfl) (by kernel_rfl) (fun _ _ _ h => h) (Or.inl ⟨by kernel_rfl, ?hy67⟩) (by assumption) ?rest67
      case hy67 => intro w hSw; (try dsimp only at hSw); go_simp; (try with_reducible rfl)
      try simp only [Act.put, List.setIfInBounds_toArray, List.set_cons_zero, List.set_cons_succ]
      refine wpAnyH_take (i := 5) (v := ?v68) rfl (by kernel_rfl) (by kernel_rfl) (by kernel_rfl) (fun _ _ _ h => h) (Or.inl ⟨by kernel_rfl, ?hy68⟩) (by assumption) ?rest68
      case hy68 => intro w hSw; (try dsimp only at hSw); go_simp; (try with_reducible rfl)
      try simp only [Act.put, List.setIfInBounds_toArray, List.set_cons_zero, List.set_cons_succ]
      refine wpAnyH_ready (rs := [3]) (by kernel_rfl) (by simp) ?_
      refine AllReadyH.cons rfl (fun K hK => ?_) AllReadyH.nil
      go_simp
      refine Calls.mono (HEm.out _) ?_
      rintro e w21 ⟨rfl, hX21⟩
      have hW21 : Fr (fun _ => False) W w21 := hHeld.2.2.trans hX21 (fun _ _ e => e)
      clear hX21
      refine hK.out _ _ ?_ (fun hHeld => ?_)
      · exact HS.out _ hW21
      clear hK K
      try simp only [Act.put, List.setIfInBounds_toArray, List.set_cons_zero, List.set_cons_succ]
      refine wpAnyH_ready (rs := [6]) (by kernel_rfl) (by simp) ?_
      refine AllReadyH.cons rfl (fun K hK => ?_) AllReadyH.nil
      go_simp
      refine Calls.mono (HMs.out _) ?_
      rintro e w22 ⟨rfl, hX22⟩
      have hW22 : Fr (fun _ => False) W w22 := hHeld.2.2.trans hX22 (fun _ _ e => e)
      clear hX22
      refine hK.out _ _ ?_ (fun hHeld => ?_)
      · exact HS.out _ hW22
      clear hK K
      try simp only [Act.put, List.setIfInBounds_toArray, List.set_cons_zero, List.set_cons_succ]
      refine wpAnyH_take (i := 7) (v := ?v69) rfl (by kernel_rfl) (by kernel_rfl) (by kernel_rfl) (fun _ _ _ h => h) (Or.inl ⟨by kernel_rfl, ?hy69⟩) (by assumption) ?rest69
      case hy69 => intro w hSw; (try dsimp only at hSw); go_simp; (try with_reducible rfl)
      try simp only [Act.put, List.setIfInBounds_toArray, List.set_cons_zero, List.set_cons_succ]
      refine wpAnyH_take (i := 8) (v := ?v70) rfl (by kernel_rfl) (by kernel_rfl) (by kernel_rfl) (fun _ _ _ h => h) (Or.inl ⟨by kernel_rfl, ?hy70⟩) (by assumption) ?rest70
      case hy70 => intro w hSw; (try dsimp only at hSw); go_simp; (try with_reducible rfl)
      try simp only [Act.put, List.setIfInBounds_toArray, List.set_cons_zero, List.set_cons_succ]
      refine wpAnyH_take (i := 9) (v := ?v71) rfl (by kernel_rfl) (by kernel_rfl) (by kernel_rfl) (fun _ _ _ h => h) (Or.inl ⟨by kernel_rfl, ?hy71⟩) (by assumption) ?rest71
      case hy71 => intro w hSw; (try dsimp only at hSw); go_simp; (try with_reducible rfl)
      try simp only [Act.put, List.setIfInBounds_toArray, List.set_cons_zero, List.set_cons_succ]
      refine wpAnyH_take (i := 10) (v := ?v72) rfl (by kernel_rfl) (by kernel_rfl) (by kernel_rfl) (fun _ _ _ h => h) (Or.inl ⟨by kernel_rfl, ?hy72⟩) (by assumption) ?rest72
      case hy72 => intro w hSw; (try dsimp only at hSw); go_simp; (try with_reducible rfl)
      try simp only [Act.put, List.setIfInBounds_toArray, List.set_cons_zero, List.set_cons_succ]
      refine wpAnyH_take (i := 12) (v := ?v73) rfl (by kernel_rfl) (by kernel_rfl) (by kernel_rfl) (fun _ _ _ h => h) (Or.inl ⟨by kernel_rfl, ?hy73⟩) (by assumption) ?rest73
      case hy73 => intro w hSw; (try dsimp only at hSw); go_simp; (try with_reducible rfl)
      try simp only [Act.put, List.setIfInBounds_toArray, List.set_cons_zero, List.set_cons_succ]
      refine wpAnyH_take (i := 13) (v := ?v74) rfl (by kernel_rfl) (by kernel_rfl) (by kernel_rfl) (fun _ _ _ h => h) (Or.inl ⟨by kernel_rfl, ?hy74⟩) (by assumption) ?rest74
      case hy74 => intro w hSw; (try dsimp only at hSw); go_simp; (try with_reducible rfl)
      try simp only [Act.put, List.setIfInBounds_toArray, List.set_cons_zero, List.set_cons_succ]
      refine wpAnyH_take (i := 14) (v := ?v75) rfl (by kernel_rfl) (by kernel_rfl) (by kernel_rfl) (fun _ _ _ h => h) (Or.inl ⟨by kernel_rfl, ?hy75⟩) (by assumption) ?rest75
      case hy75 => intro w hSw; (try dsimp only at hSw); go_simp; (try with_reducible rfl)
      try simp only [Act.put, List.setIfInBounds_toArray, List.set_cons_zero, List.set_cons_succ]
      refine wpAnyH_ready (rs := [11]) (by kernel_rfl) (by simp) ?_
      refine AllReadyH.cons rfl (fun K hK => ?_) AllReadyH.nil
      go_simp
      refine Calls.mono (HEm.out _) ?_
      rintro e w23 ⟨rfl, hX23⟩
      have hW23 : Fr (fun _ => False) W w23 := hHeld.2.2.trans hX23 (fun _ _ e => e)
      clear hX23
      refine hK.out _ _ ?_ (fun hHeld => ?_)
      · exact HS.out _ hW23
      clear hK K
      try simp only [Act.put, List.setIfInBounds_toArray, List.set_cons_zero, List.set_cons_succ]
      refine wpAnyH_ready (rs := [15]) (by kernel_rfl) (by simp) ?_
      refine AllReadyH.cons rfl (fun K hK => ?_) AllReadyH.nil
      go_simp
      refine Calls.mono (HIl.out _) ?_
      rintro e w24 ⟨rfl, hX24⟩
      have hW24 : Fr (fun _ => False) W w24 := hHeld.2.2.trans hX24 (fun _ _ e => e)
      clear hX24
      refine hK.out _ _ ?_ (fun hHeld => ?_)
      · exact HS.out _ hW24
      clear hK K
      try simp only [Act.put, List.setIfInBounds_toArray, List.set_cons_zero, List.set_cons_succ]
      refine wpAnyH_take (i := 16) (v := ?v76) rfl (by kernel_rfl) (by kernel_rfl) (by kernel_rfl) (fun _ _ _ h => h) (Or.inl ⟨by kernel_rfl, ?hy76⟩) (by assumption) ?rest76
      case hy76 => intro w hSw; (try dsimp only at hSw); go_simp; (try with_reducible rfl)
      try simp only [Act.put, List.setIfInBounds_toArray, List.set_cons_zero, List.set_cons_succ]
      refine wpAnyH_take (i := 17) (v := ?v77) rfl (by kernel_rfl) (by kernel_rfl) (by kernel_rfl) (fun _ _ _ h => h) (Or.inl ⟨by kernel_rfl, ?hy77⟩) (by assumption) ?rest77
      case hy77 => intro w hSw; (try dsimp only at hSw); go_simp; (try with_reducible rfl)
      try simp only [Act.put, List.setIfInBounds_toArray, List.set_cons_zero, List.set_cons_succ]
      refine wpAnyH_take (i := 18) (v := ?v78) rfl (by kernel_rfl) (by kernel_rfl) (by kernel_rfl) (fun _ _ _ h => h) (Or.inl ⟨by kernel_rfl, ?hy78⟩) (by assumption) ?rest78
      case hy78 => intro w hSw; (try dsimp only at hSw); go_simp; (try with_reducible rfl)
      try simp only [Act.put, List.setIfInBounds_toArray, List.set_cons_zero, List.set_cons_succ]
      refine wpAnyH_take (i := 19) (v := ?v79) rfl (by kernel_rfl) (by kernel_rfl) (by kernel_rfl) (fun _ _ _ h => h) (Or.inl ⟨by kernel_rfl, ?hy79⟩) (by assumption) ?rest79
      case hy79 => intro w hSw; (try dsimp only at hSw); go_simp; (try with_reducible rfl)
      try simp only [Act.put, List.setIfInBounds_toArray, List.set_cons_zero, List.set_cons_succ]
      refine wpAnyH_ready (rs := [20]) (by kernel_rfl) (by simp) ?_
      refine AllReadyH.cons rfl (fun K hK => ?_) AllReadyH.nil
      go_simp
      refine Calls.mono (HEm.out _) ?_
      rintro e w25 ⟨rfl, hX25⟩
      have hW25 : Fr (fun _ => False) W w25 := hHeld.2.2.trans hX25 (fun _ _ e => e)
      clear hX25
      refine hK.out _ _ ?_ (fun hHeld => ?_)
      · exact HS.out _ hW25
      clear hK K
      try simp only [Act.put, List.setIfInBounds_toArray, List.set_cons_zero, List.set_cons_succ]
      refine wpAnyH_take (i := 21) (v := ?v80) rfl (by kernel_rfl) (by kernel_rfl) (by kernel_rfl) (fun _ _ _ h => h) (Or.inl ⟨by kernel_rfl, ?hy80⟩) (by assumption) ?rest80
      case hy80 => intro w hSw; (try dsimp only at hSw); go_simp; (try with_reducible rfl)
      try simp only [Act.put, List.setIfInBounds_toArray, List.set_cons_zero, List.set_cons_succ]
      refine wpAnyH_take (i := 22) (v := ?v81) rfl (by kernel_rfl) (by kernel_rfl) (by kernel_rfl) (fun _ _ _ h => h) (Or.inl ⟨by kernel_rfl, ?hy81⟩) (by assumption) ?rest81
      case hy81 => intro w hSw; (try dsimp only at hSw); go_simp; (try with_reducible rfl)
      try simp only [Act.put, List.setIfInBounds_toArray, List.set_cons_zero, List.set_cons_succ]
      refine wpAnyH_take (i := 23) (v := undef) rfl (by kernel_rfl) (by kernel_rfl) (by kernel_rfl) (fun _ _ _ h => h) (Or.inr ⟨by kernel_rfl, rfl⟩) (by assumption) ?_
      try simp only [Act.put, List.setIfInBounds_toArray, List.set_cons_zero, List.set_cons_succ]
      refine wpAnyH_take (i := 24) (v := undef) rfl (by kernel_rfl) (by kernel_rfl) (by kernel_rfl) (fun _ _ _ h => h) (Or.inr ⟨by kernel_rfl, rfl⟩) (by assumption) ?_
      try simp only [Act.put, List.setIfInBounds_toArray, List.set_cons_zero, List.set_cons_succ]
      refine wpAnyH_take (i := 25) (v := undef) rfl (by kernel_rfl) (by kernel_rfl) (by kernel_rfl) (fun _ _ _ h => h) (Or.inr ⟨by kernel_rfl, rfl⟩) (by assumption) ?_
      try simp only [Act.put, List.setIfInBounds_toArray, List.set_cons_zero, List.set_cons_succ]
      refine wpAnyH_take (i := 26) (v := undef) rfl (by kernel_rfl) (by kernel_rfl) (by kernel_rfl) (fun _ _ _ h => h) (Or.inr ⟨by kernel_rfl, rfl⟩) (by assumption) ?_
      try simp only [Act.put, List.setIfInBounds_toArray, List.set_cons_zero, List.set_cons_succ]
      refine wpAnyH_take (i := 27) (v := ?v82) rfl (by kernel_rfl) (by kernel_rfl) (by kernel_rfl) (fun _ _ _ h => h) (Or.inl ⟨by kernel_rfl, ?hy82⟩) (by assumption) ?rest82
      case hy82 => intro w hSw; (try dsimp only at hSw); go_simp; (try with_reducible rfl)
      try simp only [Act.put, List.setIfInBounds_toArray, List.set_cons_zero, List.set_cons_succ]
      refine wpAnyH_take (i := 28) (v := ?v83) rfl (by kernel_rfl) (by kernel_rfl) (by kernel_rfl) (fun _ _ _ h => h) (Or.inl ⟨by kernel_rfl, ?hy83⟩) (by assumption) ?rest83
      case hy83 => intro w hSw; (try dsimp only at hSw); go_simp; (try with_reducible rfl)
      try simp only [Act.put, List.setIfInBounds_toArray, List.set_cons_zero, List.set_cons_succ]
      refine wpAnyH_take (i := 29) (v := ?v84) rfl (by kernel_rfl) (by kernel_rfl) (by kernel_rfl) (fun _ _ _ h => h) (Or.inl ⟨by kernel_rfl, ?hy84⟩) (by assumption) ?rest84
      case hy84 => intro w hSw; (try dsimp only at hSw); go_simp; (try with_reducible rfl)
      try simp only [Act.put, List.setIfInBounds_toArray, List.set_cons_zero, List.set_cons_succ]
      refine wpAnyH_done (by kernel_rfl) ?_ _
      go_wp2_with fail
      go_ret
      exact ⟨rfl, HF0.out.trans hW25 (fun _ _ e => e)⟩

set_option maxRecDepth 100000 in
set_option maxHeartbeats 4000000 in
theorem meets_c5 (a b : Sp) (k : ByteArray) (w : World) (hx : decide (KeyIn a k.toList) = false) (hia : decide (KeyIn a (Lib.maxS a.1 b.1).toList) = false) (he : decide (NonE a) = true) : Calls Try.prog 5 #[.agg #[.string a.1, .string a.2], .agg #[.string b.1, .string b.2], .string k] w fun e w' => e = .returned (.bool true) ∧ Fr (fun _ => False) w w' := by
  have hm := meets_lo a b
  have HMe := hideIt (fun w => meets_any a b w)
  have HMr := hideIt (fun w => meets_any b a w)
  rw [maxS_comm b.1 a.1] at HMr
  have HMs := hideIt (fun w => meets_any a a w)
  rw [maxS_self a.1, keyIn_lo a, Bool.and_self] at HMs
  have HEm := hideIt (fun w => empty_any a w)
  rw [decide_not] at HEm
  have HIl := hideIt (fun w => in_any a a.1 w)
  rw [keyIn_lo a] at HIl
  have H1 := hideIt (fun w => in_any a k w)
  have H2 := hideIt (fun w => in_any b k w)
  have H3 := hideIt (fun w => in_any a (Lib.maxS a.1 b.1) w)
  have H4 := hideIt (fun w => in_any b (Lib.maxS a.1 b.1) w)
  rw [hx] at H1
  rw [hia] at H3 HMe HMr
  rw [he] at HMs HEm HIl
  generalize Lib.maxS a.1 b.1 = m at *
  generalize decide (KeyIn b m.toList) = ib at *
  simp only [Bool.true_and, Bool.and_true, Bool.false_and, Bool.and_false, Bool.not_true, Bool.not_false] at HMe HMr HEm
  clear hx hia he
  have HC := hideIt (show ∀ w' : World, Fr (fun _ => False) ((w.alloc (.cells #[.string a.1, .string a.2] 23)).alloc (.cells #[.string b.1, .string b.2] 23)) w' → w'.cell? ⟨w.heap.size, 0, none⟩ = some (.string a.1) ∧ w'.cell? ⟨w.heap.size, 1, none⟩ = some (.string a.2) ∧ w'.cell? ⟨w.heap.size + 1, 0, none⟩ = some (.string b.1) ∧ w'.cell? ⟨w.heap.size + 1, 1, none⟩ = some (.string b.2) from fun w' h =>
    ⟨h.cell0 (cellA (cellNew w _ _ _ 0 rfl) _), h.cell0 (cellA (cellNew w _ _ _ 1 rfl) _), h.cell0 (cellNew _ _ _ _ 0 (by simp)), h.cell0 (cellNew _ _ _ _ 1 (by simp))⟩)
  have HF0 := hideIt (((Fr.refl (fun _ => False) w).alloc (.cells #[.string a.1, .string a.2] 23)).alloc (.cells #[.string b.1, .string b.2] 23))
  go_enter Try.func5, Try.ntmps5
  go_wp2_with fail
  generalize (w.alloc (.cells #[.string a.1, .string a.2] 23)).alloc (.cells #[.string b.1, .string b.2] 23) = W at *
  refine Calls.mono (awake_any _) ?_
  rintro e w1 ⟨rfl, hW1⟩
  obtain ⟨c0, c1, c2, c3⟩ := HC.out w1 hW1
  go_wp2_with fail
  refine Calls.mono (long2 a b w1) ?_
  rintro e w1' ⟨⟨v, rfl⟩, rfl⟩
  have hW2 := hW1.alloc (.cells #[.string a.1, .string a.2, .string b.1, .string b.2] 23)
  cases v
  case true =>
    go_wp2_with fail
    go_ret
    exact ⟨rfl, HF0.out.trans hW2 (fun _ _ e => e)⟩
  case false =>
    by_cases hk : 100 < k.size
    · have hk' : (100 : Int) < (k.size : Int) := by omega
      go_wp2_with fail
      go_ret
      exact ⟨rfl, HF0.out.trans hW2 (fun _ _ e => e)⟩
    · have hk' : ¬ (100 : Int) < (k.size : Int) := by omega
      clear c0 c1 c2 c3
      generalize w1.alloc (.cells #[.string a.1, .string a.2, .string b.1, .string b.2] 23) = w2 at *
      obtain ⟨c0, c1, c2, c3⟩ := HC.out w2 hW2
      clear hW1
      go_wp2_with fail
      refine Calls.mono (HMe.out _) ?_
      rintro e w3 ⟨rfl, hX3⟩
      have hW3 := hW2.trans hX3 (fun _ _ e => e)
      obtain ⟨d0, d1, d2, d3⟩ := HC.out w3 hW3
      clear hX3 hW2 c0 c1 c2 c3
      go_wp2_with fail
      refine Calls.mono (H1.out _) ?_
      rintro e w4 ⟨rfl, hX4⟩
      have hW4 := hW3.trans hX4 (fun _ _ e => e)
      obtain ⟨d0, d1, d2, d3⟩ := HC.out w4 hW4
      clear hX4 hW3
      go_wp2_with fail
      refine Calls.mono (H3.out _) ?_
      rintro e w5 ⟨rfl, hX5⟩
      have hW5 := hW4.trans hX5 (fun _ _ e => e)
      obtain ⟨d0, d1, d2, d3⟩ := HC.out w5 hW5
      clear hX5 hW4
      go_wp2_with fail
      refine Calls.mono (HMr.out _) ?_
      rintro e w6 ⟨rfl, hX6⟩
      have hW6 := hW5.trans hX6 (fun _ _ e => e)
      obtain ⟨d0, d1, d2, d3⟩ := HC.out w6 hW6
      clear hX6 hW5
      go_wp2_with fail
      have HS := hideIt (show ∀ w' : World, Fr (fun _ => False) W w' → w'.cell? ⟨w.heap.size, 0, none⟩ = some (.string a.1) ∧ w'.cell? ⟨w.heap.size, 1, none⟩ = some (.string a.2) ∧ Fr (fun _ => False) W w' from fun w' h => by
        obtain ⟨h0, h1, h2, h3⟩ := HC.out w' h
        exact ⟨h0, h1, h⟩)
      refine wp_region_held_drew (S := fun w' => w'.cell? ⟨w.heap.size, 0, none⟩ = some (.string a.1) ∧ w'.cell? ⟨w.heap.size, 1, none⟩ = some (.string a.2) ∧ Fr (fun _ => False) W w') (by kernel_rfl) ?_ (fun hHeld => ?_)
      · exact HS.out _ hW6.drew
      refine wpAnyH_take (i := 0) (v := ?v85) rfl (by kernel_rfl) (by kernel_rfl) (by kernel_rfl) (fun _ _ _ h => h) (Or.inl ⟨by kernel_rfl, ?hy85⟩) (by assumption) ?rest85
      case hy85 => intro w hSw; (try dsimp only at hSw); go_simp; (try with_reducible rfl)
      try simp only [Act.put, List.setIfInBounds_toArray, List.set_cons_zero, List.set_cons_succ]
      refine wpAnyH_take (i := 1) (v := ?v86) rfl (by kernel_rfl) (by kernel_rfl) (by kernel_rfl) (fun _ _ _ h => h) (Or.inl ⟨by kernel_rfl, ?hy86⟩) (by assumption) ?rest86
      case hy86 => intro w hSw; (try dsimp only at hSw); go_simp; (try with_reducible rfl)
      try simp only [Act.put, List.setIfInBounds_toArray, List.set_cons_zero, List.set_cons_succ]
      refine wpAnyH_take (i := 2) (v := ?v87) rfl (by kernel_rfl) (by kernel_rfl) (by kernel_rfl) (fun _ _ _ h => h) (Or.inl ⟨by kernel_rfl, ?hy87⟩) (by assumption) ?rest87
      case hy87 => intro w hSw; (try dsimp only at hSw); go_simp; (try with_reducible rfl)
      try simp only [Act.put, List.setIfInBounds_toArray, List.set_cons_zero, List.set_cons_succ]
      refine wpAnyH_take (i := 4) (v := ?v88) rfl (by kernel_rfl) (by kernel_rfl) (by kernel_rfl) (fun _ _ _ h => h) (Or.inl ⟨by kernel_rfl, ?hy88⟩) (by assumption) ?rest88
      case hy88 => intro w hSw; (try dsimp only at hSw); go_simp; (try with_reducible rfl)
      try simp only [Act.put, List.setIfInBounds_toArray, List.set_cons_zero, List.set_cons_succ]
      refine wpAnyH_take (i := 5) (v := ?v89) rfl (by kernel_rfl) (by kernel_rfl) (by kernel_rfl) (fun _ _ _ h => h) (Or.inl ⟨by kernel_rfl, ?hy89⟩) (by assumption) ?rest89
      case hy89 => intro w hSw; (try dsimp only at hSw); go_simp; (try with_reducible rfl)
      try simp only [Act.put, List.setIfInBounds_toArray, List.set_cons_zero, List.set_cons_succ]
      refine wpAnyH_ready (rs := [3]) (by kernel_rfl) (by simp) ?_
      refine AllReadyH.cons rfl (fun K hK => ?_) AllReadyH.nil
      go_simp
      refine Calls.mono (HEm.out _) ?_
      rintro e w21 ⟨rfl, hX21⟩
      have hW21 : Fr (fun _ => False) W w21 := hHeld.2.2.trans hX21 (fun _ _ e => e)
      clear hX21
      refine hK.out _ _ ?_ (fun hHeld => ?_)
      · exact HS.out _ hW21
      clear hK K
      try simp only [Act.put, List.setIfInBounds_toArray, List.set_cons_zero, List.set_cons_succ]
      refine wpAnyH_ready (rs := [6]) (by kernel_rfl) (by simp) ?_
      refine AllReadyH.cons rfl (fun K hK => ?_) AllReadyH.nil
      go_simp
      refine Calls.mono (HMs.out _) ?_
      rintro e w22 ⟨rfl, hX22⟩
      have hW22 : Fr (fun _ => False) W w22 := hHeld.2.2.trans hX22 (fun _ _ e => e)
      clear hX22
      refine hK.out _ _ ?_ (fun hHeld => ?_)
      · exact HS.out _ hW22
      clear hK K
      try simp only [Act.put, List.setIfInBounds_toArray, List.set_cons_zero, List.set_cons_succ]
      refine wpAnyH_take (i := 7) (v := ?v90) rfl (by kernel_rfl) (by kernel_rfl) (by kernel_rfl) (fun _ _ _ h => h) (Or.inl ⟨by kernel_rfl, ?hy90⟩) (by assumption) ?rest90
      case hy90 => intro w hSw; (try dsimp only at hSw); go_simp; (try with_reducible rfl)
      try simp only [Act.put, List.setIfInBounds_toArray, List.set_cons_zero, List.set_cons_succ]
      refine wpAnyH_take (i := 8) (v := ?v91) rfl (by kernel_rfl) (by kernel_rfl) (by kernel_rfl) (fun _ _ _ h => h) (Or.inl ⟨by kernel_rfl, ?hy91⟩) (by assumption) ?rest91
      case hy91 => intro w hSw; (try dsimp only at hSw); go_simp; (try with_reducible rfl)
      try simp only [Act.put, List.setIfInBounds_toArray, List.set_cons_zero, List.set_cons_succ]
      refine wpAnyH_take (i := 9) (v := ?v92) rfl (by kernel_rfl) (by kernel_rfl) (by kernel_rfl) (fun _ _ _ h => h) (Or.inl ⟨by kernel_rfl, ?hy92⟩) (by assumption) ?rest92
      case hy92 => intro w hSw; (try dsimp only at hSw); go_simp; (try with_reducible rfl)
      try simp only [Act.put, List.setIfInBounds_toArray, List.set_cons_zero, List.set_cons_succ]
      refine wpAnyH_take (i := 10) (v := ?v93) rfl (by kernel_rfl) (by kernel_rfl) (by kernel_rfl) (fun _ _ _ h => h) (Or.inl ⟨by kernel_rfl, ?hy93⟩) (by assumption) ?rest93
      case hy93 => intro w hSw; (try dsimp only at hSw); go_simp; (try with_reducible rfl)
      try simp only [Act.put, List.setIfInBounds_toArray, List.set_cons_zero, List.set_cons_succ]
      refine wpAnyH_take (i := 12) (v := ?v94) rfl (by kernel_rfl) (by kernel_rfl) (by kernel_rfl) (fun _ _ _ h => h) (Or.inl ⟨by kernel_rfl, ?hy94⟩) (by assumption) ?rest94
      case hy94 => intro w hSw; (try dsimp only at hSw); go_simp; (try with_reducible rfl)
      try simp only [Act.put, List.setIfInBounds_toArray, List.set_cons_zero, List.set_cons_succ]
      refine wpAnyH_take (i := 13) (v := ?v95) rfl (by kernel_rfl) (by kernel_rfl) (by kernel_rfl) (fun _ _ _ h => h) (Or.inl ⟨by kernel_rfl, ?hy95⟩) (by assumption) ?rest95
      case hy95 => intro w hSw; (try dsimp only at hSw); go_simp; (try with_reducible rfl)
      try simp only [Act.put, List.setIfInBounds_toArray, List.set_cons_zero, List.set_cons_succ]
      refine wpAnyH_take (i := 14) (v := ?v96) rfl (by kernel_rfl) (by kernel_rfl) (by kernel_rfl) (fun _ _ _ h => h) (Or.inl ⟨by kernel_rfl, ?hy96⟩) (by assumption) ?rest96
      case hy96 => intro w hSw; (try dsimp only at hSw); go_simp; (try with_reducible rfl)
      try simp only [Act.put, List.setIfInBounds_toArray, List.set_cons_zero, List.set_cons_succ]
      refine wpAnyH_ready (rs := [11]) (by kernel_rfl) (by simp) ?_
      refine AllReadyH.cons rfl (fun K hK => ?_) AllReadyH.nil
      go_simp
      refine Calls.mono (HEm.out _) ?_
      rintro e w23 ⟨rfl, hX23⟩
      have hW23 : Fr (fun _ => False) W w23 := hHeld.2.2.trans hX23 (fun _ _ e => e)
      clear hX23
      refine hK.out _ _ ?_ (fun hHeld => ?_)
      · exact HS.out _ hW23
      clear hK K
      try simp only [Act.put, List.setIfInBounds_toArray, List.set_cons_zero, List.set_cons_succ]
      refine wpAnyH_ready (rs := [15]) (by kernel_rfl) (by simp) ?_
      refine AllReadyH.cons rfl (fun K hK => ?_) AllReadyH.nil
      go_simp
      refine Calls.mono (HIl.out _) ?_
      rintro e w24 ⟨rfl, hX24⟩
      have hW24 : Fr (fun _ => False) W w24 := hHeld.2.2.trans hX24 (fun _ _ e => e)
      clear hX24
      refine hK.out _ _ ?_ (fun hHeld => ?_)
      · exact HS.out _ hW24
      clear hK K
      try simp only [Act.put, List.setIfInBounds_toArray, List.set_cons_zero, List.set_cons_succ]
      refine wpAnyH_take (i := 16) (v := ?v97) rfl (by kernel_rfl) (by kernel_rfl) (by kernel_rfl) (fun _ _ _ h => h) (Or.inl ⟨by kernel_rfl, ?hy97⟩) (by assumption) ?rest97
      case hy97 => intro w hSw; (try dsimp only at hSw); go_simp; (try with_reducible rfl)
      try simp only [Act.put, List.setIfInBounds_toArray, List.set_cons_zero, List.set_cons_succ]
      refine wpAnyH_take (i := 17) (v := ?v98) rfl (by kernel_rfl) (by kernel_rfl) (by kernel_rfl) (fun _ _ _ h => h) (Or.inl ⟨by kernel_rfl, ?hy98⟩) (by assumption) ?rest98
      case hy98 => intro w hSw; (try dsimp only at hSw); go_simp; (try with_reducible rfl)
      try simp only [Act.put, List.setIfInBounds_toArray, List.set_cons_zero, List.set_cons_succ]
      refine wpAnyH_take (i := 18) (v := ?v99) rfl (by kernel_rfl) (by kernel_rfl) (by kernel_rfl) (fun _ _ _ h => h) (Or.inl ⟨by kernel_rfl, ?hy99⟩) (by assumption) ?rest99
      case hy99 => intro w hSw; (try dsimp only at hSw); go_simp; (try with_reducible rfl)
      try simp only [Act.put, List.setIfInBounds_toArray, List.set_cons_zero, List.set_cons_succ]
      refine wpAnyH_take (i := 19) (v := ?v100) rfl (by kernel_rfl) (by kernel_rfl) (by kernel_rfl) (fun _ _ _ h => h) (Or.inl ⟨by kernel_rfl, ?hy100⟩) (by assumption) ?rest100
      case hy100 => intro w hSw; (try dsimp only at hSw); go_simp; (try with_reducible rfl)
      try simp only [Act.put, List.setIfInBounds_toArray, List.set_cons_zero, List.set_cons_succ]
      refine wpAnyH_ready (rs := [20]) (by kernel_rfl) (by simp) ?_
      refine AllReadyH.cons rfl (fun K hK => ?_) AllReadyH.nil
      go_simp
      refine Calls.mono (HEm.out _) ?_
      rintro e w25 ⟨rfl, hX25⟩
      have hW25 : Fr (fun _ => False) W w25 := hHeld.2.2.trans hX25 (fun _ _ e => e)
      clear hX25
      refine hK.out _ _ ?_ (fun hHeld => ?_)
      · exact HS.out _ hW25
      clear hK K
      try simp only [Act.put, List.setIfInBounds_toArray, List.set_cons_zero, List.set_cons_succ]
      refine wpAnyH_take (i := 21) (v := ?v101) rfl (by kernel_rfl) (by kernel_rfl) (by kernel_rfl) (fun _ _ _ h => h) (Or.inl ⟨by kernel_rfl, ?hy101⟩) (by assumption) ?rest101
      case hy101 => intro w hSw; (try dsimp only at hSw); go_simp; (try with_reducible rfl)
      try simp only [Act.put, List.setIfInBounds_toArray, List.set_cons_zero, List.set_cons_succ]
      refine wpAnyH_take (i := 22) (v := ?v102) rfl (by kernel_rfl) (by kernel_rfl) (by kernel_rfl) (fun _ _ _ h => h) (Or.inl ⟨by kernel_rfl, ?hy102⟩) (by assumption) ?rest102
      case hy102 => intro w hSw; (try dsimp only at hSw); go_simp; (try with_reducible rfl)
      try simp only [Act.put, List.setIfInBounds_toArray, List.set_cons_zero, List.set_cons_succ]
      refine wpAnyH_take (i := 23) (v := undef) rfl (by kernel_rfl) (by kernel_rfl) (by kernel_rfl) (fun _ _ _ h => h) (Or.inr ⟨by kernel_rfl, rfl⟩) (by assumption) ?_
      try simp only [Act.put, List.setIfInBounds_toArray, List.set_cons_zero, List.set_cons_succ]
      refine wpAnyH_take (i := 24) (v := undef) rfl (by kernel_rfl) (by kernel_rfl) (by kernel_rfl) (fun _ _ _ h => h) (Or.inr ⟨by kernel_rfl, rfl⟩) (by assumption) ?_
      try simp only [Act.put, List.setIfInBounds_toArray, List.set_cons_zero, List.set_cons_succ]
      refine wpAnyH_take (i := 25) (v := undef) rfl (by kernel_rfl) (by kernel_rfl) (by kernel_rfl) (fun _ _ _ h => h) (Or.inr ⟨by kernel_rfl, rfl⟩) (by assumption) ?_
      try simp only [Act.put, List.setIfInBounds_toArray, List.set_cons_zero, List.set_cons_succ]
      refine wpAnyH_take (i := 26) (v := undef) rfl (by kernel_rfl) (by kernel_rfl) (by kernel_rfl) (fun _ _ _ h => h) (Or.inr ⟨by kernel_rfl, rfl⟩) (by assumption) ?_
      try simp only [Act.put, List.setIfInBounds_toArray, List.set_cons_zero, List.set_cons_succ]
      refine wpAnyH_take (i := 27) (v := ?v103) rfl (by kernel_rfl) (by kernel_rfl) (by kernel_rfl) (fun _ _ _ h => h) (Or.inl ⟨by kernel_rfl, ?hy103⟩) (by assumption) ?rest103
      case hy103 => intro w hSw; (try dsimp only at hSw); go_simp; (try with_reducible rfl)
      try simp only [Act.put, List.setIfInBounds_toArray, List.set_cons_zero, List.set_cons_succ]
      refine wpAnyH_take (i := 28) (v := ?v104) rfl (by kernel_rfl) (by kernel_rfl) (by kernel_rfl) (fun _ _ _ h => h) (Or.inl ⟨by kernel_rfl, ?hy104⟩) (by assumption) ?rest104
      case hy104 => intro w hSw; (try dsimp only at hSw); go_simp; (try with_reducible rfl)
      try simp only [Act.put, List.setIfInBounds_toArray, List.set_cons_zero, List.set_cons_succ]
      refine wpAnyH_take (i := 29) (v := ?v105) rfl (by kernel_rfl) (by kernel_rfl) (by kernel_rfl) (fun _ _ _ h => h) (Or.inl ⟨by kernel_rfl, ?hy105⟩) (by assumption) ?rest105
      case hy105 => intro w hSw; (try dsimp only at hSw); go_simp; (try with_reducible rfl)
      try simp only [Act.put, List.setIfInBounds_toArray, List.set_cons_zero, List.set_cons_succ]
      refine wpAnyH_done (by kernel_rfl) ?_ _
      go_wp2_with fail
      go_ret
      exact ⟨rfl, HF0.out.trans hW25 (fun _ _ e => e)⟩

set_option maxRecDepth 100000 in
set_option maxHeartbeats 4000000 in
theorem meets_c6 (a b : Sp) (k : ByteArray) (w : World) (hx : decide (KeyIn a k.toList) = false) (hia : decide (KeyIn a (Lib.maxS a.1 b.1).toList) = false) (he : decide (NonE a) = false) : Calls Try.prog 5 #[.agg #[.string a.1, .string a.2], .agg #[.string b.1, .string b.2], .string k] w fun e w' => e = .returned (.bool true) ∧ Fr (fun _ => False) w w' := by
  have hm := meets_lo a b
  have HMe := hideIt (fun w => meets_any a b w)
  have HMr := hideIt (fun w => meets_any b a w)
  rw [maxS_comm b.1 a.1] at HMr
  have HMs := hideIt (fun w => meets_any a a w)
  rw [maxS_self a.1, keyIn_lo a, Bool.and_self] at HMs
  have HEm := hideIt (fun w => empty_any a w)
  rw [decide_not] at HEm
  have HIl := hideIt (fun w => in_any a a.1 w)
  rw [keyIn_lo a] at HIl
  have H1 := hideIt (fun w => in_any a k w)
  have H2 := hideIt (fun w => in_any b k w)
  have H3 := hideIt (fun w => in_any a (Lib.maxS a.1 b.1) w)
  have H4 := hideIt (fun w => in_any b (Lib.maxS a.1 b.1) w)
  rw [hx] at H1
  rw [hia] at H3 HMe HMr
  rw [he] at HMs HEm HIl
  generalize Lib.maxS a.1 b.1 = m at *
  generalize decide (KeyIn b m.toList) = ib at *
  simp only [Bool.true_and, Bool.and_true, Bool.false_and, Bool.and_false, Bool.not_true, Bool.not_false] at HMe HMr HEm
  clear hx hia he
  have HC := hideIt (show ∀ w' : World, Fr (fun _ => False) ((w.alloc (.cells #[.string a.1, .string a.2] 23)).alloc (.cells #[.string b.1, .string b.2] 23)) w' → w'.cell? ⟨w.heap.size, 0, none⟩ = some (.string a.1) ∧ w'.cell? ⟨w.heap.size, 1, none⟩ = some (.string a.2) ∧ w'.cell? ⟨w.heap.size + 1, 0, none⟩ = some (.string b.1) ∧ w'.cell? ⟨w.heap.size + 1, 1, none⟩ = some (.string b.2) from fun w' h =>
    ⟨h.cell0 (cellA (cellNew w _ _ _ 0 rfl) _), h.cell0 (cellA (cellNew w _ _ _ 1 rfl) _), h.cell0 (cellNew _ _ _ _ 0 (by simp)), h.cell0 (cellNew _ _ _ _ 1 (by simp))⟩)
  have HF0 := hideIt (((Fr.refl (fun _ => False) w).alloc (.cells #[.string a.1, .string a.2] 23)).alloc (.cells #[.string b.1, .string b.2] 23))
  go_enter Try.func5, Try.ntmps5
  go_wp2_with fail
  generalize (w.alloc (.cells #[.string a.1, .string a.2] 23)).alloc (.cells #[.string b.1, .string b.2] 23) = W at *
  refine Calls.mono (awake_any _) ?_
  rintro e w1 ⟨rfl, hW1⟩
  obtain ⟨c0, c1, c2, c3⟩ := HC.out w1 hW1
  go_wp2_with fail
  refine Calls.mono (long2 a b w1) ?_
  rintro e w1' ⟨⟨v, rfl⟩, rfl⟩
  have hW2 := hW1.alloc (.cells #[.string a.1, .string a.2, .string b.1, .string b.2] 23)
  cases v
  case true =>
    go_wp2_with fail
    go_ret
    exact ⟨rfl, HF0.out.trans hW2 (fun _ _ e => e)⟩
  case false =>
    by_cases hk : 100 < k.size
    · have hk' : (100 : Int) < (k.size : Int) := by omega
      go_wp2_with fail
      go_ret
      exact ⟨rfl, HF0.out.trans hW2 (fun _ _ e => e)⟩
    · have hk' : ¬ (100 : Int) < (k.size : Int) := by omega
      clear c0 c1 c2 c3
      generalize w1.alloc (.cells #[.string a.1, .string a.2, .string b.1, .string b.2] 23) = w2 at *
      obtain ⟨c0, c1, c2, c3⟩ := HC.out w2 hW2
      clear hW1
      go_wp2_with fail
      refine Calls.mono (HMe.out _) ?_
      rintro e w3 ⟨rfl, hX3⟩
      have hW3 := hW2.trans hX3 (fun _ _ e => e)
      obtain ⟨d0, d1, d2, d3⟩ := HC.out w3 hW3
      clear hX3 hW2 c0 c1 c2 c3
      go_wp2_with fail
      refine Calls.mono (H1.out _) ?_
      rintro e w4 ⟨rfl, hX4⟩
      have hW4 := hW3.trans hX4 (fun _ _ e => e)
      obtain ⟨d0, d1, d2, d3⟩ := HC.out w4 hW4
      clear hX4 hW3
      go_wp2_with fail
      refine Calls.mono (H3.out _) ?_
      rintro e w5 ⟨rfl, hX5⟩
      have hW5 := hW4.trans hX5 (fun _ _ e => e)
      obtain ⟨d0, d1, d2, d3⟩ := HC.out w5 hW5
      clear hX5 hW4
      go_wp2_with fail
      refine Calls.mono (HMr.out _) ?_
      rintro e w6 ⟨rfl, hX6⟩
      have hW6 := hW5.trans hX6 (fun _ _ e => e)
      obtain ⟨d0, d1, d2, d3⟩ := HC.out w6 hW6
      clear hX6 hW5
      go_wp2_with fail
      have HS := hideIt (show ∀ w' : World, Fr (fun _ => False) W w' → w'.cell? ⟨w.heap.size, 0, none⟩ = some (.string a.1) ∧ w'.cell? ⟨w.heap.size, 1, none⟩ = some (.string a.2) ∧ Fr (fun _ => False) W w' from fun w' h => by
        obtain ⟨h0, h1, h2, h3⟩ := HC.out w' h
        exact ⟨h0, h1, h⟩)
      refine wp_region_held_drew (S := fun w' => w'.cell? ⟨w.heap.size, 0, none⟩ = some (.string a.1) ∧ w'.cell? ⟨w.heap.size, 1, none⟩ = some (.string a.2) ∧ Fr (fun _ => False) W w') (by kernel_rfl) ?_ (fun hHeld => ?_)
      · exact HS.out _ hW6.drew
      refine wpAnyH_take (i := 0) (v := ?v106) rfl (by kernel_rfl) (by kernel_rfl) (by kernel_rfl) (fun _ _ _ h => h) (Or.inl ⟨by kernel_rfl, ?hy106⟩) (by assumption) ?rest106
      case hy106 => intro w hSw; (try dsimp only at hSw); go_simp; (try with_reducible rfl)
      try simp only [Act.put, List.setIfInBounds_toArray, List.set_cons_zero, List.set_cons_succ]
      refine wpAnyH_take (i := 1) (v := ?v107) rfl (by kernel_rfl) (by kernel_rfl) (by kernel_rfl) (fun _ _ _ h => h) (Or.inl ⟨by kernel_rfl, ?hy107⟩) (by assumption) ?rest107
      case hy107 => intro w hSw; (try dsimp only at hSw); go_simp; (try with_reducible rfl)
      try simp only [Act.put, List.setIfInBounds_toArray, List.set_cons_zero, List.set_cons_succ]
      refine wpAnyH_take (i := 2) (v := ?v108) rfl (by kernel_rfl) (by kernel_rfl) (by kernel_rfl) (fun _ _ _ h => h) (Or.inl ⟨by kernel_rfl, ?hy108⟩) (by assumption) ?rest108
      case hy108 => intro w hSw; (try dsimp only at hSw); go_simp; (try with_reducible rfl)
      try simp only [Act.put, List.setIfInBounds_toArray, List.set_cons_zero, List.set_cons_succ]
      refine wpAnyH_take (i := 4) (v := ?v109) rfl (by kernel_rfl) (by kernel_rfl) (by kernel_rfl) (fun _ _ _ h => h) (Or.inl ⟨by kernel_rfl, ?hy109⟩) (by assumption) ?rest109
      case hy109 => intro w hSw; (try dsimp only at hSw); go_simp; (try with_reducible rfl)
      try simp only [Act.put, List.setIfInBounds_toArray, List.set_cons_zero, List.set_cons_succ]
      refine wpAnyH_take (i := 5) (v := ?v110) rfl (by kernel_rfl) (by kernel_rfl) (by kernel_rfl) (fun _ _ _ h => h) (Or.inl ⟨by kernel_rfl, ?hy110⟩) (by assumption) ?rest110
      case hy110 => intro w hSw; (try dsimp only at hSw); go_simp; (try with_reducible rfl)
      try simp only [Act.put, List.setIfInBounds_toArray, List.set_cons_zero, List.set_cons_succ]
      refine wpAnyH_ready (rs := [3]) (by kernel_rfl) (by simp) ?_
      refine AllReadyH.cons rfl (fun K hK => ?_) AllReadyH.nil
      go_simp
      refine Calls.mono (HEm.out _) ?_
      rintro e w21 ⟨rfl, hX21⟩
      have hW21 : Fr (fun _ => False) W w21 := hHeld.2.2.trans hX21 (fun _ _ e => e)
      clear hX21
      refine hK.out _ _ ?_ (fun hHeld => ?_)
      · exact HS.out _ hW21
      clear hK K
      try simp only [Act.put, List.setIfInBounds_toArray, List.set_cons_zero, List.set_cons_succ]
      refine wpAnyH_ready (rs := [6]) (by kernel_rfl) (by simp) ?_
      refine AllReadyH.cons rfl (fun K hK => ?_) AllReadyH.nil
      go_simp
      refine Calls.mono (HMs.out _) ?_
      rintro e w22 ⟨rfl, hX22⟩
      have hW22 : Fr (fun _ => False) W w22 := hHeld.2.2.trans hX22 (fun _ _ e => e)
      clear hX22
      refine hK.out _ _ ?_ (fun hHeld => ?_)
      · exact HS.out _ hW22
      clear hK K
      try simp only [Act.put, List.setIfInBounds_toArray, List.set_cons_zero, List.set_cons_succ]
      refine wpAnyH_take (i := 7) (v := ?v111) rfl (by kernel_rfl) (by kernel_rfl) (by kernel_rfl) (fun _ _ _ h => h) (Or.inl ⟨by kernel_rfl, ?hy111⟩) (by assumption) ?rest111
      case hy111 => intro w hSw; (try dsimp only at hSw); go_simp; (try with_reducible rfl)
      try simp only [Act.put, List.setIfInBounds_toArray, List.set_cons_zero, List.set_cons_succ]
      refine wpAnyH_take (i := 8) (v := ?v112) rfl (by kernel_rfl) (by kernel_rfl) (by kernel_rfl) (fun _ _ _ h => h) (Or.inl ⟨by kernel_rfl, ?hy112⟩) (by assumption) ?rest112
      case hy112 => intro w hSw; (try dsimp only at hSw); go_simp; (try with_reducible rfl)
      try simp only [Act.put, List.setIfInBounds_toArray, List.set_cons_zero, List.set_cons_succ]
      refine wpAnyH_take (i := 9) (v := ?v113) rfl (by kernel_rfl) (by kernel_rfl) (by kernel_rfl) (fun _ _ _ h => h) (Or.inl ⟨by kernel_rfl, ?hy113⟩) (by assumption) ?rest113
      case hy113 => intro w hSw; (try dsimp only at hSw); go_simp; (try with_reducible rfl)
      try simp only [Act.put, List.setIfInBounds_toArray, List.set_cons_zero, List.set_cons_succ]
      refine wpAnyH_take (i := 10) (v := ?v114) rfl (by kernel_rfl) (by kernel_rfl) (by kernel_rfl) (fun _ _ _ h => h) (Or.inl ⟨by kernel_rfl, ?hy114⟩) (by assumption) ?rest114
      case hy114 => intro w hSw; (try dsimp only at hSw); go_simp; (try with_reducible rfl)
      try simp only [Act.put, List.setIfInBounds_toArray, List.set_cons_zero, List.set_cons_succ]
      refine wpAnyH_take (i := 12) (v := ?v115) rfl (by kernel_rfl) (by kernel_rfl) (by kernel_rfl) (fun _ _ _ h => h) (Or.inl ⟨by kernel_rfl, ?hy115⟩) (by assumption) ?rest115
      case hy115 => intro w hSw; (try dsimp only at hSw); go_simp; (try with_reducible rfl)
      try simp only [Act.put, List.setIfInBounds_toArray, List.set_cons_zero, List.set_cons_succ]
      refine wpAnyH_take (i := 13) (v := ?v116) rfl (by kernel_rfl) (by kernel_rfl) (by kernel_rfl) (fun _ _ _ h => h) (Or.inl ⟨by kernel_rfl, ?hy116⟩) (by assumption) ?rest116
      case hy116 => intro w hSw; (try dsimp only at hSw); go_simp; (try with_reducible rfl)
      try simp only [Act.put, List.setIfInBounds_toArray, List.set_cons_zero, List.set_cons_succ]
      refine wpAnyH_take (i := 14) (v := ?v117) rfl (by kernel_rfl) (by kernel_rfl) (by kernel_rfl) (fun _ _ _ h => h) (Or.inl ⟨by kernel_rfl, ?hy117⟩) (by assumption) ?rest117
      case hy117 => intro w hSw; (try dsimp only at hSw); go_simp; (try with_reducible rfl)
      try simp only [Act.put, List.setIfInBounds_toArray, List.set_cons_zero, List.set_cons_succ]
      refine wpAnyH_ready (rs := [11]) (by kernel_rfl) (by simp) ?_
      refine AllReadyH.cons rfl (fun K hK => ?_) AllReadyH.nil
      go_simp
      refine Calls.mono (HEm.out _) ?_
      rintro e w23 ⟨rfl, hX23⟩
      have hW23 : Fr (fun _ => False) W w23 := hHeld.2.2.trans hX23 (fun _ _ e => e)
      clear hX23
      refine hK.out _ _ ?_ (fun hHeld => ?_)
      · exact HS.out _ hW23
      clear hK K
      try simp only [Act.put, List.setIfInBounds_toArray, List.set_cons_zero, List.set_cons_succ]
      refine wpAnyH_ready (rs := [15]) (by kernel_rfl) (by simp) ?_
      refine AllReadyH.cons rfl (fun K hK => ?_) AllReadyH.nil
      go_simp
      refine Calls.mono (HIl.out _) ?_
      rintro e w24 ⟨rfl, hX24⟩
      have hW24 : Fr (fun _ => False) W w24 := hHeld.2.2.trans hX24 (fun _ _ e => e)
      clear hX24
      refine hK.out _ _ ?_ (fun hHeld => ?_)
      · exact HS.out _ hW24
      clear hK K
      try simp only [Act.put, List.setIfInBounds_toArray, List.set_cons_zero, List.set_cons_succ]
      refine wpAnyH_take (i := 16) (v := ?v118) rfl (by kernel_rfl) (by kernel_rfl) (by kernel_rfl) (fun _ _ _ h => h) (Or.inl ⟨by kernel_rfl, ?hy118⟩) (by assumption) ?rest118
      case hy118 => intro w hSw; (try dsimp only at hSw); go_simp; (try with_reducible rfl)
      try simp only [Act.put, List.setIfInBounds_toArray, List.set_cons_zero, List.set_cons_succ]
      refine wpAnyH_take (i := 17) (v := ?v119) rfl (by kernel_rfl) (by kernel_rfl) (by kernel_rfl) (fun _ _ _ h => h) (Or.inl ⟨by kernel_rfl, ?hy119⟩) (by assumption) ?rest119
      case hy119 => intro w hSw; (try dsimp only at hSw); go_simp; (try with_reducible rfl)
      try simp only [Act.put, List.setIfInBounds_toArray, List.set_cons_zero, List.set_cons_succ]
      refine wpAnyH_take (i := 18) (v := ?v120) rfl (by kernel_rfl) (by kernel_rfl) (by kernel_rfl) (fun _ _ _ h => h) (Or.inl ⟨by kernel_rfl, ?hy120⟩) (by assumption) ?rest120
      case hy120 => intro w hSw; (try dsimp only at hSw); go_simp; (try with_reducible rfl)
      try simp only [Act.put, List.setIfInBounds_toArray, List.set_cons_zero, List.set_cons_succ]
      refine wpAnyH_take (i := 19) (v := ?v121) rfl (by kernel_rfl) (by kernel_rfl) (by kernel_rfl) (fun _ _ _ h => h) (Or.inl ⟨by kernel_rfl, ?hy121⟩) (by assumption) ?rest121
      case hy121 => intro w hSw; (try dsimp only at hSw); go_simp; (try with_reducible rfl)
      try simp only [Act.put, List.setIfInBounds_toArray, List.set_cons_zero, List.set_cons_succ]
      refine wpAnyH_ready (rs := [20]) (by kernel_rfl) (by simp) ?_
      refine AllReadyH.cons rfl (fun K hK => ?_) AllReadyH.nil
      go_simp
      refine Calls.mono (HEm.out _) ?_
      rintro e w25 ⟨rfl, hX25⟩
      have hW25 : Fr (fun _ => False) W w25 := hHeld.2.2.trans hX25 (fun _ _ e => e)
      clear hX25
      refine hK.out _ _ ?_ (fun hHeld => ?_)
      · exact HS.out _ hW25
      clear hK K
      try simp only [Act.put, List.setIfInBounds_toArray, List.set_cons_zero, List.set_cons_succ]
      refine wpAnyH_take (i := 21) (v := ?v122) rfl (by kernel_rfl) (by kernel_rfl) (by kernel_rfl) (fun _ _ _ h => h) (Or.inl ⟨by kernel_rfl, ?hy122⟩) (by assumption) ?rest122
      case hy122 => intro w hSw; (try dsimp only at hSw); go_simp; (try with_reducible rfl)
      try simp only [Act.put, List.setIfInBounds_toArray, List.set_cons_zero, List.set_cons_succ]
      refine wpAnyH_take (i := 22) (v := ?v123) rfl (by kernel_rfl) (by kernel_rfl) (by kernel_rfl) (fun _ _ _ h => h) (Or.inl ⟨by kernel_rfl, ?hy123⟩) (by assumption) ?rest123
      case hy123 => intro w hSw; (try dsimp only at hSw); go_simp; (try with_reducible rfl)
      try simp only [Act.put, List.setIfInBounds_toArray, List.set_cons_zero, List.set_cons_succ]
      refine wpAnyH_take (i := 23) (v := ?v124) rfl (by kernel_rfl) (by kernel_rfl) (by kernel_rfl) (fun _ _ _ h => h) (Or.inl ⟨by kernel_rfl, ?hy124⟩) (by assumption) ?rest124
      case hy124 => intro w hSw; (try dsimp only at hSw); go_simp; (try with_reducible rfl)
      try simp only [Act.put, List.setIfInBounds_toArray, List.set_cons_zero, List.set_cons_succ]
      refine wpAnyH_take (i := 24) (v := ?v125) rfl (by kernel_rfl) (by kernel_rfl) (by kernel_rfl) (fun _ _ _ h => h) (Or.inl ⟨by kernel_rfl, ?hy125⟩) (by assumption) ?rest125
      case hy125 => intro w hSw; (try dsimp only at hSw); go_simp; (try with_reducible rfl)
      try simp only [Act.put, List.setIfInBounds_toArray, List.set_cons_zero, List.set_cons_succ]
      refine wpAnyH_ready (rs := [25]) (by kernel_rfl) (by simp) ?_
      refine AllReadyH.cons rfl (fun K hK => ?_) AllReadyH.nil
      go_simp
      refine Calls.mono (H1.out _) ?_
      rintro e w26 ⟨rfl, hX26⟩
      have hW26 : Fr (fun _ => False) W w26 := hHeld.2.2.trans hX26 (fun _ _ e => e)
      clear hX26
      refine hK.out _ _ ?_ (fun hHeld => ?_)
      · exact HS.out _ hW26
      clear hK K
      try simp only [Act.put, List.setIfInBounds_toArray, List.set_cons_zero, List.set_cons_succ]
      refine wpAnyH_take (i := 26) (v := ?v126) rfl (by kernel_rfl) (by kernel_rfl) (by kernel_rfl) (fun _ _ _ h => h) (Or.inl ⟨by kernel_rfl, ?hy126⟩) (by assumption) ?rest126
      case hy126 => intro w hSw; (try dsimp only at hSw); go_simp; (try with_reducible rfl)
      try simp only [Act.put, List.setIfInBounds_toArray, List.set_cons_zero, List.set_cons_succ]
      refine wpAnyH_take (i := 27) (v := ?v127) rfl (by kernel_rfl) (by kernel_rfl) (by kernel_rfl) (fun _ _ _ h => h) (Or.inl ⟨by kernel_rfl, ?hy127⟩) (by assumption) ?rest127
      case hy127 => intro w hSw; (try dsimp only at hSw); go_simp; (try with_reducible rfl)
      try simp only [Act.put, List.setIfInBounds_toArray, List.set_cons_zero, List.set_cons_succ]
      refine wpAnyH_take (i := 28) (v := ?v128) rfl (by kernel_rfl) (by kernel_rfl) (by kernel_rfl) (fun _ _ _ h => h) (Or.inl ⟨by kernel_rfl, ?hy128⟩) (by assumption) ?rest128
      case hy128 => intro w hSw; (try dsimp only at hSw); go_simp; (try with_reducible rfl)
      try simp only [Act.put, List.setIfInBounds_toArray, List.set_cons_zero, List.set_cons_succ]
      refine wpAnyH_take (i := 29) (v := ?v129) rfl (by kernel_rfl) (by kernel_rfl) (by kernel_rfl) (fun _ _ _ h => h) (Or.inl ⟨by kernel_rfl, ?hy129⟩) (by assumption) ?rest129
      case hy129 => intro w hSw; (try dsimp only at hSw); go_simp; (try with_reducible rfl)
      try simp only [Act.put, List.setIfInBounds_toArray, List.set_cons_zero, List.set_cons_succ]
      refine wpAnyH_done (by kernel_rfl) ?_ _
      go_wp2_with fail
      go_ret
      exact ⟨rfl, HF0.out.trans hW26 (fun _ _ e => e)⟩

end Go.Proofs.Ytcbmkiiahdbipaa
