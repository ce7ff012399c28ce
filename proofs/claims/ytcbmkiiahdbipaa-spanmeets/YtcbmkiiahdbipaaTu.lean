/- SpanMeets, walked. -/
import Derived.Test.YtcbmkiiahdbipaaTr
namespace Go.Proofs.Ytcbmkiiahdbipaa
open Go.RowKit Go.IntWalk
set_option linter.unusedSimpArgs false
set_option linter.unusedVariables false

theorem maxS_comm (a b : ByteArray) : Lib.maxS a b = Lib.maxS b a := by
  apply toList_inj
  rw [maxS_toList, maxS_toList]
  rcases by_tri a.toList b.toList with h | h | h
  · rw [if_pos h, if_neg (fun e => List.lt_irrefl _ (List.lt_trans e h))]
  · rw [h, if_neg (List.lt_irrefl _)]
  · rw [if_pos h, if_neg (fun e => List.lt_irrefl _ (List.lt_trans e h))]

theorem maxS_self (a : ByteArray) : Lib.maxS a a = a := by
  apply toList_inj
  rw [maxS_toList, if_neg (List.lt_irrefl _)]

theorem keyIn_lo (a : Sp) : decide (KeyIn a a.1.toList) = decide (NonE a) := decide_eq_decide.mpr ⟨fun h => h.2, fun h => ⟨List.lt_irrefl _, h⟩⟩

/-- A key that is in both is not less than the greater Lo: so that one is in both. -/
theorem key_max {a b : Sp} {k : By} (h1 : KeyIn a k) (h2 : KeyIn b k) : KeyIn a (Lib.maxS a.1 b.1).toList ∧ KeyIn b (Lib.maxS a.1 b.1).toList := by
  rw [maxS_toList]
  obtain ⟨p1, p2⟩ := h1
  obtain ⟨q1, q2⟩ := h2
  have hm : ¬ k < (if lo a < lo b then lo b else lo a) := by split <;> assumption
  have ha : ¬ (if lo a < lo b then lo b else lo a) < lo a := by
    split
    · rename_i h
      exact fun e => List.lt_irrefl _ (List.lt_trans e h)
    · exact List.lt_irrefl _
  have hb : ¬ (if lo a < lo b then lo b else lo a) < lo b := by
    split
    · exact List.lt_irrefl _
    · assumption
  have up : ∀ (m h : By), ¬ k < m → (h = [] ∨ k < h) → h = [] ∨ m < h := by
    intro m h h1 h2
    rcases h2 with h2 | h2
    · exact Or.inl h2
    · right
      obtain ⟨f, hl, he⟩ := rank [m, h, k]
      simp only [hl, he, List.mem_cons, true_or, or_true] at *
      omega
  exact ⟨⟨ha, up _ _ hm p2⟩, ⟨hb, up _ _ hm q2⟩⟩

set_option maxRecDepth 100000 in
set_option maxHeartbeats 4000000 in
theorem meets_c1 (a b : Sp) (k : ByteArray) (w : World) (hx : decide (KeyIn a k.toList) = true) (hia : decide (KeyIn a (Lib.maxS a.1 b.1).toList) = true) (he : decide (NonE a) = true) (hy : decide (KeyIn b k.toList) = true) (hib : decide (KeyIn b (Lib.maxS a.1 b.1).toList) = true) : Calls Try.prog 5 #[.agg #[.string a.1, .string a.2], .agg #[.string b.1, .string b.2], .string k] w fun e w' => e = .returned (.bool true) ∧ Fr (fun _ => False) w w' := by
  have hm := meets_lo a b
  have HMe := hideIt (fun w => meets_any a b w)
  have HMr := hideIt (fun w => meets_any b a w)
  rw [maxS_comm b.1 a.1] at HMr
  have HMs := hideIt (fun w => meets_any a a w)
  rw [maxS_self a.1, keyIn_lo a, Bool.and_self] at HMs
  have HEm := hideIt (fun w => empty_any a w)
  rw [decide_not] at HEm
  have HIl := hideIt (fun w => in_any a a.1 w)
  rw [keyIn_lo a] at HIl
  have H1 := hideIt (fun w => in_any a k w)
  have H2 := hideIt (fun w => in_any b k w)
  have H3 := hideIt (fun w => in_any a (Lib.maxS a.1 b.1) w)
  have H4 := hideIt (fun w => in_any b (Lib.maxS a.1 b.1) w)
  rw [hx] at H1
  rw [hia] at H3 HMe HMr
  rw [he] at HMs HEm HIl
  rw [hy] at H2
  rw [hib] at H4 HMe HMr
  generalize Lib.maxS a.1 b.1 = m at *
  simp only [Bool.true_and, Bool.and_true, Bool.false_and, Bool.and_false, Bool.not_true, Bool.not_false] at HMe HMr HEm
  clear hx hia he hy hib
  have HC := hideIt (show ∀ w' : World, Fr (fun _ => False) ((w.alloc (.cells #[.string a.1, .string a.2] 23)).alloc (.cells #[.string b.1, .string b.2] 23)) w' → w'.cell? ⟨w.heap.size, 0, none⟩ = some (.string a.1) ∧ w'.cell? ⟨w.heap.size, 1, none⟩ = some (.string a.2) ∧ w'.cell? ⟨w.heap.size + 1, 0, none⟩ = some (.string b.1) ∧ w'.cell? ⟨w.heap.size + 1, 1, none⟩ = some (.string b.2) from fun w' h =>
    ⟨h.cell0 (cellA (cellNew w _ _ _ 0 rfl) _), h.cell0 (cellA (cellNew w _ _ _ 1 rfl) _), h.cell0 (cellNew _ _ _ _ 0 (by simp)), h.cell0 (cellNew _ _ _ _ 1 (by simp))⟩)
  have HF0 := hideIt (((Fr.refl (fun _ => False) w).alloc (.cells #[.string a.1, .string a.2] 23)).alloc (.cells #[.string b.1, .string b.2] 23))
  go_enter Try.func5, Try.ntmps5
  go_wp2_with fail
  generalize (w.alloc (.cells #[.string a.1, .string a.2] 23)).alloc (.cells #[.string b.1, .string b.2] 23) = W at *
  refine Calls.mono (awake_any _) ?_
  rintro e w1 ⟨rfl, hW1⟩
  obtain ⟨c0, c1, c2, c3⟩ := HC.out w1 hW1
  go_wp2_with fail
  refine Calls.mono (long2 a b w1) ?_
  rintro e w1' ⟨⟨v, rfl⟩, rfl⟩
  have hW2 := hW1.alloc (.cells #[.string a.1, .string a.2, .string b.1, .string b.2] 23)
  cases v
  case true =>
    go_wp2_with fail
    go_ret
    exact ⟨rfl, HF0.out.trans hW2 (fun _ _ e => e)⟩
  case false =>
    by_cases hk : 100 < k.size
    · have hk' : (100 : Int) < (k.size : Int) := by omega
      go_wp2_with fail
      go_ret
      exact ⟨rfl, HF0.out.trans hW2 (fun _ _ e => e)⟩
    · have hk' : ¬ (100 : Int) < (k.size : Int) := by omega
      clear c0 c1 c2 c3
      generalize w1.alloc (.cells #[.string a.1, .string a.2, .string b.1, .string b.2] 23) = w2 at *
      obtain ⟨c0, c1, c2, c3⟩ := HC.out w2 hW2
      clear hW1
      go_wp2_with fail
      refine Calls.mono (HMe.out _) ?_
      rintro e w3 ⟨rfl, hX3⟩
      have hW3 := hW2.trans hX3 (fun _ _ e => e)
      obtain ⟨d0, d1, d2, d3⟩ := HC.out w3 hW3
      clear hX3 hW2 c0 c1 c2 c3
      go_wp2_with fail
      refine Calls.mono (H1.out _) ?_
      rintro e w4 ⟨rfl, hX4⟩
      have hW4 := hW3.trans hX4 (fun _ _ e => e)
      obtain ⟨d0, d1, d2, d3⟩ := HC.out w4 hW4
      clear hX4 hW3
      go_wp2_with fail
      refine Calls.mono (H2.out _) ?_
      rintro e w5 ⟨rfl, hX5⟩
      have hW5 := hW4.trans hX5 (fun _ _ e => e)
      obtain ⟨d0, d1, d2, d3⟩ := HC.out w5 hW5
      clear hX5 hW4
      go_wp2_with fail
      refine Calls.mono (H3.out _) ?_
      rintro e w6 ⟨rfl, hX6⟩
      have hW6 := hW5.trans hX6 (fun _ _ e => e)
      obtain ⟨d0, d1, d2, d3⟩ := HC.out w6 hW6
      clear hX6 hW5
      go_wp2_with fail
      refine Calls.mono (H4.out _) ?_
      rintro e w7 ⟨rfl, hX7⟩
      have hW7 := hW6.trans hX7 (fun _ _ e => e)
      obtain ⟨d0, d1, d2, d3⟩ := HC.out w7 hW7
      clear hX7 hW6
      go_wp2_with fail
      refine Calls.mono (HMr.out _) ?_
      rintro e w8 ⟨rfl, hX8⟩
      have hW8 := hW7.trans hX8 (fun _ _ e => e)
      obtain ⟨d0, d1, d2, d3⟩ := HC.out w8 hW8
      clear hX8 hW7
      go_wp2_with fail
      have HS := hideIt (show ∀ w' : World, Fr (fun _ => False) W w' → w'.cell? ⟨w.heap.size, 0, none⟩ = some (.string a.1) ∧ w'.cell? ⟨w.heap.size, 1, none⟩ = some (.string a.2) ∧ Fr (fun _ => False) W w' from fun w' h => by
        obtain ⟨h0, h1, h2, h3⟩ := HC.out w' h
        exact ⟨h0, h1, h⟩)
      refine wp_region_held_drew (S := fun w' => w'.cell? ⟨w.heap.size, 0, none⟩ = some (.string a.1) ∧ w'.cell? ⟨w.heap.size, 1, none⟩ = some (.string a.2) ∧ Fr (fun _ => False) W w') (by kernel_rfl) ?_ (fun hHeld => ?_)
      · exact HS.out _ hW8.drew
      refine wpAnyH_take (i := 0) (v := ?v1) rfl (by kernel_rfl) (by kernel_rfl) (by kernel_rfl) (fun _ _ _ h => h) (Or.inl ⟨by kernel_rfl, ?hy1⟩) (by assumption) ?rest1
      case hy1 => intro w hSw; (try dsimp only at hSw); go_simp; (try with_reducible rfl)
      try simp only [Act.put, List.setIfInBounds_toArray, List.set_cons_zero, List.set_cons_succ]
      refine wpAnyH_take (i := 1) (v := ?v2) rfl (by kernel_rfl) (by kernel_rfl) (by kernel_rfl) (fun _ _ _ h => h) (Or.inl ⟨by kernel_rfl, ?hy2⟩) (by assumption) ?rest2
      case hy2 => intro w hSw; (try dsimp only at hSw); go_simp; (try with_reducible rfl)
      try simp only [Act.put, List.setIfInBounds_toArray, List.set_cons_zero, List.set_cons_succ]
      refine wpAnyH_take (i := 2) (v := ?v3) rfl (by kernel_rfl) (by kernel_rfl) (by kernel_rfl) (fun _ _ _ h => h) (Or.inl ⟨by kernel_rfl, ?hy3⟩) (by assumption) ?rest3
      case hy3 => intro w hSw; (try dsimp only at hSw); go_simp; (try with_reducible rfl)
      try simp only [Act.put, List.setIfInBounds_toArray, List.set_cons_zero, List.set_cons_succ]
      refine wpAnyH_take (i := 4) (v := ?v4) rfl (by kernel_rfl) (by kernel_rfl) (by kernel_rfl) (fun _ _ _ h => h) (Or.inl ⟨by kernel_rfl, ?hy4⟩) (by assumption) ?rest4
      case hy4 => intro w hSw; (try dsimp only at hSw); go_simp; (try with_reducible rfl)
      try simp only [Act.put, List.setIfInBounds_toArray, List.set_cons_zero, List.set_cons_succ]
      refine wpAnyH_take (i := 5) (v := ?v5) rfl (by kernel_rfl) (by kernel_rfl) (by kernel_rfl) (fun _ _ _ h => h) (Or.inl ⟨by kernel_rfl, ?hy5⟩) (by assumption) ?rest5
      case hy5 => intro w hSw; (try dsimp only at hSw); go_simp; (try with_reducible rfl)
      try simp only [Act.put, List.setIfInBounds_toArray, List.set_cons_zero, List.set_cons_succ]
      refine wpAnyH_ready (rs := [3]) (by kernel_rfl) (by simp) ?_
      refine AllReadyH.cons rfl (fun K hK => ?_) AllReadyH.nil
      go_simp
      refine Calls.mono (HEm.out _) ?_
      rintro e w21 ⟨rfl, hX21⟩
      have hW21 : Fr (fun _ => False) W w21 := hHeld.2.2.trans hX21 (fun _ _ e => e)
      clear hX21
      refine hK.out _ _ ?_ (fun hHeld => ?_)
      · exact HS.out _ hW21
      clear hK K
      try simp only [Act.put, List.setIfInBounds_toArray, List.set_cons_zero, List.set_cons_succ]
      refine wpAnyH_ready (rs := [6]) (by kernel_rfl) (by simp) ?_
      refine AllReadyH.cons rfl (fun K hK => ?_) AllReadyH.nil
      go_simp
      refine Calls.mono (HMs.out _) ?_
      rintro e w22 ⟨rfl, hX22⟩
      have hW22 : Fr (fun _ => False) W w22 := hHeld.2.2.trans hX22 (fun _ _ e => e)
      clear hX22
      refine hK.out _ _ ?_ (fun hHeld => ?_)
      · exact HS.out _ hW22
      clear hK K
      try simp only [Act.put, List.setIfInBounds_toArray, List.set_cons_zero, List.set_cons_succ]
      refine wpAnyH_take (i := 7) (v := ?v6) rfl (by kernel_rfl) (by kernel_rfl) (by kernel_rfl) (fun _ _ _ h => h) (Or.inl ⟨by kernel_rfl, ?hy6⟩) (by assumption) ?rest6
      case hy6 => intro w hSw; (try dsimp only at hSw); go_simp; (try with_reducible rfl)
      try simp only [Act.put, List.setIfInBounds_toArray, List.set_cons_zero, List.set_cons_succ]
      refine wpAnyH_take (i := 8) (v := ?v7) rfl (by kernel_rfl) (by kernel_rfl) (by kernel_rfl) (fun _ _ _ h => h) (Or.inl ⟨by kernel_rfl, ?hy7⟩) (by assumption) ?rest7
      case hy7 => intro w hSw; (try dsimp only at hSw); go_simp; (try with_reducible rfl)
      try simp only [Act.put, List.setIfInBounds_toArray, List.set_cons_zero, List.set_cons_succ]
      refine wpAnyH_take (i := 9) (v := ?v8) rfl (by kernel_rfl) (by kernel_rfl) (by kernel_rfl) (fun _ _ _ h => h) (Or.inl ⟨by kernel_rfl, ?hy8⟩) (by assumption) ?rest8
      case hy8 => intro w hSw; (try dsimp only at hSw); go_simp; (try with_reducible rfl)
      try simp only [Act.put, List.setIfInBounds_toArray, List.set_cons_zero, List.set_cons_succ]
      refine wpAnyH_take (i := 10) (v := ?v9) rfl (by kernel_rfl) (by kernel_rfl) (by kernel_rfl) (fun _ _ _ h => h) (Or.inl ⟨by kernel_rfl, ?hy9⟩) (by assumption) ?rest9
      case hy9 => intro w hSw; (try dsimp only at hSw); go_simp; (try with_reducible rfl)
      try simp only [Act.put, List.setIfInBounds_toArray, List.set_cons_zero, List.set_cons_succ]
      refine wpAnyH_take (i := 12) (v := ?v10) rfl (by kernel_rfl) (by kernel_rfl) (by kernel_rfl) (fun _ _ _ h => h) (Or.inl ⟨by kernel_rfl, ?hy10⟩) (by assumption) ?rest10
      case hy10 => intro w hSw; (try dsimp only at hSw); go_simp; (try with_reducible rfl)
      try simp only [Act.put, List.setIfInBounds_toArray, List.set_cons_zero, List.set_cons_succ]
      refine wpAnyH_take (i := 13) (v := ?v11) rfl (by kernel_rfl) (by kernel_rfl) (by kernel_rfl) (fun _ _ _ h => h) (Or.inl ⟨by kernel_rfl, ?hy11⟩) (by assumption) ?rest11
      case hy11 => intro w hSw; (try dsimp only at hSw); go_simp; (try with_reducible rfl)
      try simp only [Act.put, List.setIfInBounds_toArray, List.set_cons_zero, List.set_cons_succ]
      refine wpAnyH_take (i := 14) (v := ?v12) rfl (by kernel_rfl) (by kernel_rfl) (by kernel_rfl) (fun _ _ _ h => h) (Or.inl ⟨by kernel_rfl, ?hy12⟩) (by assumption) ?rest12
      case hy12 => intro w hSw; (try dsimp only at hSw); go_simp; (try with_reducible rfl)
      try simp only [Act.put, List.setIfInBounds_toArray, List.set_cons_zero, List.set_cons_succ]
      refine wpAnyH_ready (rs := [11]) (by kernel_rfl) (by simp) ?_
      refine AllReadyH.cons rfl (fun K hK => ?_) AllReadyH.nil
      go_simp
      refine Calls.mono (HEm.out _) ?_
      rintro e w23 ⟨rfl, hX23⟩
      have hW23 : Fr (fun _ => False) W w23 := hHeld.2.2.trans hX23 (fun _ _ e => e)
      clear hX23
      refine hK.out _ _ ?_ (fun hHeld => ?_)
      · exact HS.out _ hW23
      clear hK K
      try simp only [Act.put, List.setIfInBounds_toArray, List.set_cons_zero, List.set_cons_succ]
      refine wpAnyH_ready (rs := [15]) (by kernel_rfl) (by simp) ?_
      refine AllReadyH.cons rfl (fun K hK => ?_) AllReadyH.nil
      go_simp
      refine Calls.mono (HIl.out _) ?_
      rintro e w24 ⟨rfl, hX24⟩
      have hW24 : Fr (fun _ => False) W w24 := hHeld.2.2.trans hX24 (fun _ _ e => e)
      clear hX24
      refine hK.out _ _ ?_ (fun hHeld => ?_)
      · exact HS.out _ hW24
      clear hK K
      try simp only [Act.put, List.setIfInBounds_toArray, List.set_cons_zero, List.set_cons_succ]
      refine wpAnyH_take (i := 16) (v := ?v13) rfl (by kernel_rfl) (by kernel_rfl) (by kernel_rfl) (fun _ _ _ h => h) (Or.inl ⟨by kernel_rfl, ?hy13⟩) (by assumption) ?rest13
      case hy13 => intro w hSw; (try dsimp only at hSw); go_simp; (try with_reducible rfl)
      try simp only [Act.put, List.setIfInBounds_toArray, List.set_cons_zero, List.set_cons_succ]
      refine wpAnyH_take (i := 17) (v := ?v14) rfl (by kernel_rfl) (by kernel_rfl) (by kernel_rfl) (fun _ _ _ h => h) (Or.inl ⟨by kernel_rfl, ?hy14⟩) (by assumption) ?rest14
      case hy14 => intro w hSw; (try dsimp only at hSw); go_simp; (try with_reducible rfl)
      try simp only [Act.put, List.setIfInBounds_toArray, List.set_cons_zero, List.set_cons_succ]
      refine wpAnyH_take (i := 18) (v := ?v15) rfl (by kernel_rfl) (by kernel_rfl) (by kernel_rfl) (fun _ _ _ h => h) (Or.inl ⟨by kernel_rfl, ?hy15⟩) (by assumption) ?rest15
      case hy15 => intro w hSw; (try dsimp only at hSw); go_simp; (try with_reducible rfl)
      try simp only [Act.put, List.setIfInBounds_toArray, List.set_cons_zero, List.set_cons_succ]
      refine wpAnyH_take (i := 19) (v := ?v16) rfl (by kernel_rfl) (by kernel_rfl) (by kernel_rfl) (fun _ _ _ h => h) (Or.inl ⟨by kernel_rfl, ?hy16⟩) (by assumption) ?rest16
      case hy16 => intro w hSw; (try dsimp only at hSw); go_simp; (try with_reducible rfl)
      try simp only [Act.put, List.setIfInBounds_toArray, List.set_cons_zero, List.set_cons_succ]
      refine wpAnyH_ready (rs := [20]) (by kernel_rfl) (by simp) ?_
      refine AllReadyH.cons rfl (fun K hK => ?_) AllReadyH.nil
      go_simp
      refine Calls.mono (HEm.out _) ?_
      rintro e w25 ⟨rfl, hX25⟩
      have hW25 : Fr (fun _ => False) W w25 := hHeld.2.2.trans hX25 (fun _ _ e => e)
      clear hX25
      refine hK.out _ _ ?_ (fun hHeld => ?_)
      · exact HS.out _ hW25
      clear hK K
      try simp only [Act.put, List.setIfInBounds_toArray, List.set_cons_zero, List.set_cons_succ]
      refine wpAnyH_take (i := 21) (v := ?v17) rfl (by kernel_rfl) (by kernel_rfl) (by kernel_rfl) (fun _ _ _ h => h) (Or.inl ⟨by kernel_rfl, ?hy17⟩) (by assumption) ?rest17
      case hy17 => intro w hSw; (try dsimp only at hSw); go_simp; (try with_reducible rfl)
      try simp only [Act.put, List.setIfInBounds_toArray, List.set_cons_zero, List.set_cons_succ]
      refine wpAnyH_take (i := 22) (v := ?v18) rfl (by kernel_rfl) (by kernel_rfl) (by kernel_rfl) (fun _ _ _ h => h) (Or.inl ⟨by kernel_rfl, ?hy18⟩) (by assumption) ?rest18
      case hy18 => intro w hSw; (try dsimp only at hSw); go_simp; (try with_reducible rfl)
      try simp only [Act.put, List.setIfInBounds_toArray, List.set_cons_zero, List.set_cons_succ]
      refine wpAnyH_take (i := 23) (v := undef) rfl (by kernel_rfl) (by kernel_rfl) (by kernel_rfl) (fun _ _ _ h => h) (Or.inr ⟨by kernel_rfl, rfl⟩) (by assumption) ?_
      try simp only [Act.put, List.setIfInBounds_toArray, List.set_cons_zero, List.set_cons_succ]
      refine wpAnyH_take (i := 24) (v := undef) rfl (by kernel_rfl) (by kernel_rfl) (by kernel_rfl) (fun _ _ _ h => h) (Or.inr ⟨by kernel_rfl, rfl⟩) (by assumption) ?_
      try simp only [Act.put, List.setIfInBounds_toArray, List.set_cons_zero, List.set_cons_succ]
      refine wpAnyH_take (i := 25) (v := undef) rfl (by kernel_rfl) (by kernel_rfl) (by kernel_rfl) (fun _ _ _ h => h) (Or.inr ⟨by kernel_rfl, rfl⟩) (by assumption) ?_
      try simp only [Act.put, List.setIfInBounds_toArray, List.set_cons_zero, List.set_cons_succ]
      refine wpAnyH_take (i := 26) (v := undef) rfl (by kernel_rfl) (by kernel_rfl) (by kernel_rfl) (fun _ _ _ h => h) (Or.inr ⟨by kernel_rfl, rfl⟩) (by assumption) ?_
      try simp only [Act.put, List.setIfInBounds_toArray, List.set_cons_zero, List.set_cons_succ]
      refine wpAnyH_take (i := 27) (v := ?v19) rfl (by kernel_rfl) (by kernel_rfl) (by kernel_rfl) (fun _ _ _ h => h) (Or.inl ⟨by kernel_rfl, ?hy19⟩) (by assumption) ?rest19
      case hy19 => intro w hSw; (try dsimp only at hSw); go_simp; (try with_reducible rfl)
      try simp only [Act.put, List.setIfInBounds_toArray, List.set_cons_zero, List.set_cons_succ]
      refine wpAnyH_take (i := 28) (v := ?v20) rfl (by kernel_rfl) (by kernel_rfl) (by kernel_rfl) (fun _ _ _ h => h) (Or.inl ⟨by kernel_rfl, ?hy20⟩) (by assumption) ?rest20
      case hy20 => intro w hSw; (try dsimp only at hSw); go_simp; (try with_reducible rfl)
      try simp only [Act.put, List.setIfInBounds_toArray, List.set_cons_zero, List.set_cons_succ]
      refine wpAnyH_take (i := 29) (v := ?v21) rfl (by kernel_rfl) (by kernel_rfl) (by kernel_rfl) (fun _ _ _ h => h) (Or.inl ⟨by kernel_rfl, ?hy21⟩) (by assumption) ?rest21
      case hy21 => intro w hSw; (try dsimp only at hSw); go_simp; (try with_reducible rfl)
      try simp only [Act.put, List.setIfInBounds_toArray, List.set_cons_zero, List.set_cons_succ]
      refine wpAnyH_done (by kernel_rfl) ?_ _
      go_wp2_with fail
      go_ret
      exact ⟨rfl, HF0.out.trans hW25 (fun _ _ e => e)⟩

end Go.Proofs.Ytcbmkiiahdbipaa
