/- SpanOne, walked. -/
import Derived.Test.YtcbmkiiahdbipaaTr
namespace Go.Proofs.Ytcbmkiiahdbipaa
open Go.RowKit Go.IntWalk
set_option linter.unusedSimpArgs false
set_option linter.unusedVariables false

theorem one_self (k : ByteArray) : decide (KeyIn (k, bhd k) k.toList) = true := by
  refine decide_eq_true ⟨List.lt_irrefl _, Or.inr ?_⟩
  show k.toList < (bhd k).toList
  rw [bhd_toList, by_behind]
  exact List.lt_irrefl _

theorem one_other (k o : ByteArray) : decide (KeyIn (k, bhd k) o.toList) = (k.toList == o.toList) := by
  rw [Bool.eq_iff_iff]
  simp only [decide_eq_true_eq, beq_iff_eq]
  show (¬ o.toList < k.toList ∧ ((bhd k).toList = [] ∨ o.toList < (bhd k).toList)) ↔ _
  rw [bhd_toList, by_behind]
  constructor
  · rintro ⟨h1, h2⟩
    rcases h2 with h2 | h2
    · simp at h2
    · rcases by_tri k.toList o.toList with h | h | h
      · exact absurd h h2
      · exact h
      · exact absurd h h1
  · intro h
    rw [h]
    exact ⟨List.lt_irrefl _, Or.inr (List.lt_irrefl _)⟩

theorem upto_keys (s : Sp) (k o : ByteArray) : decide (KeyIn (uptoS s k) o.toList) = (decide (KeyIn s o.toList) && (Op.bytesLess o.toList k.toList || o.toList == k.toList)) := by
  rw [le_iff, upto_eq, ← Bool.decide_and]
  refine decide_eq_decide.mpr ?_
  show (¬ o.toList < lo s ∧ ((leastS s.2 (bhd k)).toList = [] ∨ o.toList < (leastS s.2 (bhd k)).toList)) ↔ (¬ o.toList < lo s ∧ (hi s = [] ∨ o.toList < hi s)) ∧ ¬ k.toList < o.toList
  have hb : (bhd k).toList ≠ [] := by rw [bhd_toList]; simp
  have h1 := by_behind o.toList k.toList
  rw [← bhd_toList] at h1
  rw [leastS_toList, ← h1]
  show (¬ o.toList < lo s ∧ ((if hi s = [] ∨ (bhd k).toList ≠ [] ∧ (bhd k).toList < hi s then (bhd k).toList else hi s) = [] ∨ o.toList < (if hi s = [] ∨ (bhd k).toList ≠ [] ∧ (bhd k).toList < hi s then (bhd k).toList else hi s))) ↔ _
  generalize (bhd k).toList = c at *
  generalize hi s = x at *
  generalize o.toList = m at *
  clear h1
  by_cases hx : x = []
  · simp only [hx, true_or, if_true, hb, false_or, and_true]
  · simp only [hx, hb, false_or, ne_eq, not_false_eq_true, true_and]
    by_cases hc : c < x
    · rw [if_pos hc]
      simp only [hb, false_or]
      constructor
      · rintro ⟨h1, h2⟩
        exact ⟨⟨h1, List.lt_trans h2 hc⟩, h2⟩
      · rintro ⟨⟨h1, _⟩, h2⟩
        exact ⟨h1, h2⟩
    · rw [if_neg hc]
      simp only [hx, false_or]
      constructor
      · rintro ⟨h1, h2⟩
        refine ⟨⟨h1, h2⟩, ?_⟩
        clear h1
        obtain ⟨f, hl, he⟩ := rank [m, x, c]
        simp only [hl, he, List.mem_cons, true_or, or_true] at *
        omega
      · rintro ⟨⟨h1, h2⟩, _⟩
        exact ⟨h1, h2⟩

theorem long1 (a : Sp) (w : World) : Calls Try.prog 9 #[.slice (some ⟨w.heap.size, 0, none⟩) 1 1, .int .i64 1] (w.alloc (.cells #[.string a.1, .string a.2] 23)) fun e w' => (∃ v, e = .returned (.bool v)) ∧ w' = w.alloc (.cells #[.string a.1, .string a.2] 23) := by
  refine Calls.mono (long_any (some ⟨w.heap.size, 0, none⟩) 1 [a] 1 _ (Or.inr (sps_arr [a] w)) (by simp) (by decide)) ?_
  rintro e w' ⟨v, rfl, rfl, _⟩
  exact ⟨⟨v, rfl⟩, rfl⟩

/-- A region's end: which temporaries it leaves, whatever the order. -/
def Via (F : Nat → Nat → Act) (R : Nat → Nat → World → Prop) : Exit → Act → World → Prop
  | .normal, a', w' => ∃ p q, a' = F p q ∧ R p q w'
  | _, _, _ => False

theorem wp_via {P : Program} {c : Code} {Q : Exit → Act → World → Prop} {a : Act} {w : World} (F : Act → Nat → Nat → Act) (R : Nat → Nat → World → Prop) (h1 : c.wp P (Via (F a) R) a w) (h2 : ∀ p q w', R p q w' → Q .normal (F a p q) w') : c.wp P Q a w :=
  Code.wp_mono (fun e a' w' h => by
    cases e <;> first | exact (h : False).elim | (obtain ⟨p, q, rfl, hr⟩ := h; exact h2 p q w' hr)) h1

set_option maxRecDepth 100000 in
set_option maxHeartbeats 8000000 in
theorem one_t (s : Sp) (k o : ByteArray) (w : World) (hp : decide (KeyIn s o.toList) = true) : Calls Try.prog 7 #[.agg #[.string s.1, .string s.2], .string k, .string o] w fun e w' => e = .returned (.bool true) ∧ Fr (fun _ => False) w w' := by
  have HOn := hideIt (fun (hk : k.size < 9223372036854775807) w => one_any k hk w)
  have HUp := hideIt (fun (hk : k.size < 9223372036854775807) w => upto_any s k hk w)
  have H1 := hideIt (fun w => by have := in_any (k, bhd k) k w; rw [one_self] at this; exact this)
  have H2 := hideIt (fun w => by have := in_any (k, bhd k) o w; rw [one_other] at this; exact this)
  have H3 := hideIt (fun w => by have := in_any (uptoS s k) o w; rw [upto_keys, hp, Bool.true_and] at this; exact this)
  have H4 := hideIt (fun w => by have := in_any s o w; rw [hp] at this; exact this)
  generalize uptoS s k = u at *
  generalize bhd k = kb at *
  clear hp
  have HC := hideIt (show ∀ w' : World, Fr (fun _ => False) (w.alloc (.cells #[.string s.1, .string s.2] 23)) w' → w'.cell? ⟨w.heap.size, 0, none⟩ = some (.string s.1) ∧ w'.cell? ⟨w.heap.size, 1, none⟩ = some (.string s.2) from fun w' h =>
    ⟨h.cell0 (cellNew w _ _ _ 0 rfl), h.cell0 (cellNew w _ _ _ 1 rfl)⟩)
  have HF0 := hideIt ((Fr.refl (fun _ => False) w).alloc (.cells #[.string s.1, .string s.2] 23))
  go_enter Try.func7, Try.ntmps7
  go_wp2_with fail
  generalize w.alloc (.cells #[.string s.1, .string s.2] 23) = W at *
  refine Calls.mono (awake_any _) ?_
  rintro e w1 ⟨rfl, hW1⟩
  obtain ⟨c0, c1⟩ := HC.out w1 hW1
  go_wp2_with fail
  refine Calls.mono (long1 s w1) ?_
  rintro e w1' ⟨⟨v, rfl⟩, rfl⟩
  have hW2 := hW1.alloc (.cells #[.string s.1, .string s.2] 23)
  cases v
  case true =>
    go_wp2_with fail
    go_ret
    exact ⟨rfl, HF0.out.trans hW2 (fun _ _ e => e)⟩
  case false =>
    by_cases hk : 100 < k.size
    · have hk' : (100 : Int) < (k.size : Int) := by omega
      go_wp2_with fail
      go_ret
      exact ⟨rfl, HF0.out.trans hW2 (fun _ _ e => e)⟩
    · have hk' : ¬ (100 : Int) < (k.size : Int) := by omega
      by_cases ho : 100 < o.size
      · have ho' : (100 : Int) < (o.size : Int) := by omega
        go_wp2_with fail
        go_ret
        exact ⟨rfl, HF0.out.trans hW2 (fun _ _ e => e)⟩
      · have ho' : ¬ (100 : Int) < (o.size : Int) := by omega
        have hks : k.size < 9223372036854775807 := by omega
        clear c0 c1
        generalize w1.alloc (.cells #[.string s.1, .string s.2] 23) = w2 at *
        obtain ⟨c0, c1⟩ := HC.out w2 hW2
        clear hW1
        go_wp2_with fail
        have HS := hideIt (show ∀ w' : World, Fr (fun _ => False) w2 w' → w'.cell? ⟨w.heap.size, 0, none⟩ = some (.string s.1) ∧ w'.cell? ⟨w.heap.size, 1, none⟩ = some (.string s.2) ∧ Fr (fun _ => False) w2 w' from fun w' h => by
          obtain ⟨h0, h1⟩ := HC.out w' (hW2.trans h (fun _ _ e => e))
          exact ⟨h0, h1, h⟩)
        refine wp_via (fun a p q => ((((((a.put (some 25) (.string k)).put (some 28) (.string k)).put (some 27) (.agg #[.string s.1, .string s.2])).put (some 26) (.agg #[.string k, .string kb])).put (some 29) (.agg #[.string u.1, .string u.2])).put (some 8) (.pointer (some ⟨p, 0, none⟩))).put (some 9) (.pointer (some ⟨q, 0, none⟩))) (fun p q w' => w'.cell? ⟨p, 0, none⟩ = some (.string k) ∧ w'.cell? ⟨p, 1, none⟩ = some (.string kb) ∧ w'.cell? ⟨q, 0, none⟩ = some (.string u.1) ∧ w'.cell? ⟨q, 1, none⟩ = some (.string u.2) ∧ Fr (fun _ => False) w2 w') ?_ ?_
        · refine wp_region_held_drew (S := fun w' => w'.cell? ⟨w.heap.size, 0, none⟩ = some (.string s.1) ∧ w'.cell? ⟨w.heap.size, 1, none⟩ = some (.string s.2) ∧ Fr (fun _ => False) w2 w') (by kernel_rfl) ?_ (fun hHeld => ?_)
          · exact HS.out _ (Fr.refl _ _).drew
          generalize w2.drew = w2d at *
          refine wpAnyH_take (i := 0) (v := ?v1) rfl (by kernel_rfl) (by kernel_rfl) (by kernel_rfl) (fun _ _ _ h => h) (Or.inl ⟨by rfl, ?hy1⟩) (by assumption) ?rest1
          case hy1 => intro w hSw; (try dsimp only at hSw); go_simp; (try with_reducible rfl)
          try simp only [Act.put, List.setIfInBounds_toArray, List.set_cons_zero, List.set_cons_succ]
          refine wpAnyH_take (i := 3) (v := ?v2) rfl (by kernel_rfl) (by kernel_rfl) (by kernel_rfl) (fun _ _ _ h => h) (Or.inl ⟨by rfl, ?hy2⟩) (by assumption) ?rest2
          case hy2 => intro w hSw; (try dsimp only at hSw); go_simp; (try with_reducible rfl)
          try simp only [Act.put, List.setIfInBounds_toArray, List.set_cons_zero, List.set_cons_succ]
          refine wpAnyH_take (i := 2) (v := ?v3) rfl (by kernel_rfl) (by kernel_rfl) (by kernel_rfl) (fun _ _ _ h => h) (Or.inl ⟨by rfl, ?hy3⟩) (by assumption) ?rest3
          case hy3 => intro w hSw; (try dsimp only at hSw); go_simp; (try with_reducible rfl)
          try simp only [Act.put, List.setIfInBounds_toArray, List.set_cons_zero, List.set_cons_succ]
          refine wpAnyH_ready (rs := [1, 5, 6]) (by kernel_rfl) (by simp) ?_
          refine AllReadyH.cons rfl (fun K hK => ?_) ?_
          · go_simp
            refine Calls.mono (HOn.out hks _) ?_
            rintro e wc1 ⟨rfl, hX⟩
            have hF := hHeld.2.2.trans hX (fun _ _ e => e)
            have hsz := hX.size
            refine hK.out _ _ ?_ (fun hHeld => ?_)
            · exact HS.out _ hF
            clear hK K hX hF
            try simp only [Act.put, List.setIfInBounds_toArray, List.set_cons_zero, List.set_cons_succ]
            refine wpAnyH_ready (rs := [4, 5, 6]) (by kernel_rfl) (by simp) ?_
            refine AllReadyH.cons rfl (fun K hK => ?_) ?_
            · go_simp
              refine Calls.mono (HUp.out hks _) ?_
              rintro e wc2 ⟨rfl, hX⟩
              have hF := hHeld.2.2.trans hX (fun _ _ e => e)
              have hsz := hX.size
              refine hK.out _ _ ?_ (fun hHeld => ?_)
              · exact HS.out _ hF
              clear hK K hX hF
              try simp only [Act.put, List.setIfInBounds_toArray, List.set_cons_zero, List.set_cons_succ]
              refine wpAnyH_ready (rs := [5, 6]) (by kernel_rfl) (by simp) ?_
              refine AllReadyH.cons rfl (fun K hK => ?_) ?_
              · go_simp
                have hF := hHeld.2.2.alloc (.cells #[.string ⟨#[]⟩, .string ⟨#[]⟩] 23)
                have hg8 := hHeld.2.2.size
                have h8 : (wc2.alloc (.cells #[.string ⟨#[]⟩, .string ⟨#[]⟩] 23)).heap[wc2.heap.size]? = some (.cells #[.string ⟨#[]⟩, .string ⟨#[]⟩] 23) := heap_alloc_new _ _
                refine hK.out _ _ ?_ (fun hHeld => ?_)
                · exact HS.out _ hF
                clear hK K hF
                try simp only [Act.put, List.setIfInBounds_toArray, List.set_cons_zero, List.set_cons_succ]
                generalize wc2.alloc (.cells #[.string ⟨#[]⟩, .string ⟨#[]⟩] 23) = wc3 at *
                refine wpAnyH_ready (rs := [6]) (by kernel_rfl) (by simp) ?_
                refine AllReadyH.cons rfl (fun K hK => ?_) ?_
                · go_simp
                  have hF := hHeld.2.2.alloc (.cells #[.string ⟨#[]⟩, .string ⟨#[]⟩] 23)
                  have hg9 := hHeld.2.2.size
                  have hlt := (Array.getElem?_eq_some_iff.1 h8).1
                  replace h8 := (Below.heap_alloc wc3 (.cells #[.string ⟨#[]⟩, .string ⟨#[]⟩] 23) _ hlt).trans h8
                  have h9 : (wc3.alloc (.cells #[.string ⟨#[]⟩, .string ⟨#[]⟩] 23)).heap[wc3.heap.size]? = some (.cells #[.string ⟨#[]⟩, .string ⟨#[]⟩] 23) := heap_alloc_new _ _
                  refine hK.out _ _ ?_ (fun hHeld => ?_)
                  · exact HS.out _ hF
                  clear hK K hF
                  try simp only [Act.put, List.setIfInBounds_toArray, List.set_cons_zero, List.set_cons_succ]
                  generalize wc3.alloc (.cells #[.string ⟨#[]⟩, .string ⟨#[]⟩] 23) = wc4 at *
                  have c80 := cellH h8 0 rfl
                  have c81 := cellH h8 1 rfl
                  have f80 := frozen_of_row wc4 wc2.heap.size 0 _ _ h8
                  have f81 := frozen_of_row wc4 wc2.heap.size 1 _ _ h8
                  have h8b : ((wc4.setCell ⟨wc2.heap.size, 0, none⟩ (.string k)).setCell ⟨wc2.heap.size, 1, none⟩ (.string kb)).heap[wc2.heap.size]? = some (.cells #[.string k, .string kb] 23 (0, 0)) := by rw [heap_setCell_same _ _ 1 _ _ _ (heap_setCell_same _ _ 0 _ _ _ h8)]; rfl
                  have h9b : ((wc4.setCell ⟨wc2.heap.size, 0, none⟩ (.string k)).setCell ⟨wc2.heap.size, 1, none⟩ (.string kb)).heap[wc3.heap.size]? = some (.cells #[.string ⟨#[]⟩, .string ⟨#[]⟩] 23) := by rw [heap_setCell_other _ _ _ _ (by show wc3.heap.size ≠ wc2.heap.size; omega), heap_setCell_other _ _ _ _ (by show wc3.heap.size ≠ wc2.heap.size; omega)]; exact h9
                  have hFs := Fr.setCell (Fr.setCell hHeld.2.2 (p := ⟨wc2.heap.size, 0, none⟩) (fun e => by have e1 : wc2.heap.size < w2.heap.size := e; omega) (.string k)) (p := ⟨wc2.heap.size, 1, none⟩) (fun e => by have e1 : wc2.heap.size < w2.heap.size := e; omega) (.string kb)
                  refine wpAnyH_ready (rs := [7]) (by kernel_rfl) (by simp) ?_
                  refine AllReadyH.cons rfl (fun K hK => ?_) AllReadyH.nil
                  go_simp
                  refine hK.out _ _ ?_ (fun hHeld => ?_)
                  · exact HS.out _ hFs
                  clear hK K c80 c81 f80 f81
                  try simp only [Act.put, List.setIfInBounds_toArray, List.set_cons_zero, List.set_cons_succ]
                  generalize (wc4.setCell ⟨wc2.heap.size, 0, none⟩ (.string k)).setCell ⟨wc2.heap.size, 1, none⟩ (.string kb) = wD at *
                  have c90 := cellH h9b 0 rfl
                  have c91 := cellH h9b 1 rfl
                  have f90 := frozen_of_row wD wc3.heap.size 0 _ _ h9b
                  have f91 := frozen_of_row wD wc3.heap.size 1 _ _ h9b
                  have h9c : ((wD.setCell ⟨wc3.heap.size, 0, none⟩ (.string u.1)).setCell ⟨wc3.heap.size, 1, none⟩ (.string u.2)).heap[wc3.heap.size]? = some (.cells #[.string u.1, .string u.2] 23 (0, 0)) := by rw [heap_setCell_same _ _ 1 _ _ _ (heap_setCell_same _ _ 0 _ _ _ h9b)]; rfl
                  have h8c : ((wD.setCell ⟨wc3.heap.size, 0, none⟩ (.string u.1)).setCell ⟨wc3.heap.size, 1, none⟩ (.string u.2)).heap[wc2.heap.size]? = some (.cells #[.string k, .string kb] 23 (0, 0)) := by rw [heap_setCell_other _ _ _ _ (by show wc2.heap.size ≠ wc3.heap.size; omega), heap_setCell_other _ _ _ _ (by show wc2.heap.size ≠ wc3.heap.size; omega)]; exact h8b
                  have hFt := Fr.setCell (Fr.setCell hHeld.2.2 (p := ⟨wc3.heap.size, 0, none⟩) (fun e => by have e1 : wc3.heap.size < w2.heap.size := e; omega) (.string u.1)) (p := ⟨wc3.heap.size, 1, none⟩) (fun e => by have e1 : wc3.heap.size < w2.heap.size := e; omega) (.string u.2)
                  refine wpAnyH_ready (rs := [8]) (by kernel_rfl) (by simp) ?_
                  refine AllReadyH.cons rfl (fun K hK => ?_) AllReadyH.nil
                  go_simp
                  refine hK.out _ _ ?_ (fun hHeld => ?_)
                  · exact HS.out _ hFt
                  clear hK K
                  try simp only [Act.put, List.setIfInBounds_toArray, List.set_cons_zero, List.set_cons_succ]
                  refine wpAnyH_done (by kernel_rfl) ?_ _
                  exact ⟨wc2.heap.size, wc3.heap.size, rfl, cellH h8c 0 rfl, cellH h8c 1 rfl, cellH h9c 0 rfl, cellH h9c 1 rfl, hHeld.2.2⟩
                exact AllReadyH.nil
              refine AllReadyH.cons rfl (fun K hK => ?_) ?_
              · go_simp
                have hF := hHeld.2.2.alloc (.cells #[.string ⟨#[]⟩, .string ⟨#[]⟩] 23)
                have hg9 := hHeld.2.2.size
                have h9 : (wc2.alloc (.cells #[.string ⟨#[]⟩, .string ⟨#[]⟩] 23)).heap[wc2.heap.size]? = some (.cells #[.string ⟨#[]⟩, .string ⟨#[]⟩] 23) := heap_alloc_new _ _
                refine hK.out _ _ ?_ (fun hHeld => ?_)
                · exact HS.out _ hF
                clear hK K hF
                try simp only [Act.put, List.setIfInBounds_toArray, List.set_cons_zero, List.set_cons_succ]
                generalize wc2.alloc (.cells #[.string ⟨#[]⟩, .string ⟨#[]⟩] 23) = wc5 at *
                refine wpAnyH_ready (rs := [5]) (by kernel_rfl) (by simp) ?_
                refine AllReadyH.cons rfl (fun K hK => ?_) ?_
                · go_simp
                  have hF := hHeld.2.2.alloc (.cells #[.string ⟨#[]⟩, .string ⟨#[]⟩] 23)
                  have hg8 := hHeld.2.2.size
                  have hlt := (Array.getElem?_eq_some_iff.1 h9).1
                  replace h9 := (Below.heap_alloc wc5 (.cells #[.string ⟨#[]⟩, .string ⟨#[]⟩] 23) _ hlt).trans h9
                  have h8 : (wc5.alloc (.cells #[.string ⟨#[]⟩, .string ⟨#[]⟩] 23)).heap[wc5.heap.size]? = some (.cells #[.string ⟨#[]⟩, .string ⟨#[]⟩] 23) := heap_alloc_new _ _
                  refine hK.out _ _ ?_ (fun hHeld => ?_)
                  · exact HS.out _ hF
                  clear hK K hF
                  try simp only [Act.put, List.setIfInBounds_toArray, List.set_cons_zero, List.set_cons_succ]
                  generalize wc5.alloc (.cells #[.string ⟨#[]⟩, .string ⟨#[]⟩] 23) = wc6 at *
                  have c80 := cellH h8 0 rfl
                  have c81 := cellH h8 1 rfl
                  have f80 := frozen_of_row wc6 wc5.heap.size 0 _ _ h8
                  have f81 := frozen_of_row wc6 wc5.heap.size 1 _ _ h8
                  have h8b : ((wc6.setCell ⟨wc5.heap.size, 0, none⟩ (.string k)).setCell ⟨wc5.heap.size, 1, none⟩ (.string kb)).heap[wc5.heap.size]? = some (.cells #[.string k, .string kb] 23 (0, 0)) := by rw [heap_setCell_same _ _ 1 _ _ _ (heap_setCell_same _ _ 0 _ _ _ h8)]; rfl
                  have h9b : ((wc6.setCell ⟨wc5.heap.size, 0, none⟩ (.string k)).setCell ⟨wc5.heap.size, 1, none⟩ (.string kb)).heap[wc2.heap.size]? = some (.cells #[.string ⟨#[]⟩, .string ⟨#[]⟩] 23) := by rw [heap_setCell_other _ _ _ _ (by show wc2.heap.size ≠ wc5.heap.size; omega), heap_setCell_other _ _ _ _ (by show wc2.heap.size ≠ wc5.heap.size; omega)]; exact h9
                  have hFs := Fr.setCell (Fr.setCell hHeld.2.2 (p := ⟨wc5.heap.size, 0, none⟩) (fun e => by have e1 : wc5.heap.size < w2.heap.size := e; omega) (.string k)) (p := ⟨wc5.heap.size, 1, none⟩) (fun e => by have e1 : wc5.heap.size < w2.heap.size := e; omega) (.string kb)
                  refine wpAnyH_ready (rs := [7]) (by kernel_rfl) (by simp) ?_
                  refine AllReadyH.cons rfl (fun K hK => ?_) AllReadyH.nil
                  go_simp
                  refine hK.out _ _ ?_ (fun hHeld => ?_)
                  · exact HS.out _ hFs
                  clear hK K c80 c81 f80 f81
                  try simp only [Act.put, List.setIfInBounds_toArray, List.set_cons_zero, List.set_cons_succ]
                  generalize (wc6.setCell ⟨wc5.heap.size, 0, none⟩ (.string k)).setCell ⟨wc5.heap.size, 1, none⟩ (.string kb) = wD at *
                  have c90 := cellH h9b 0 rfl
                  have c91 := cellH h9b 1 rfl
                  have f90 := frozen_of_row wD wc2.heap.size 0 _ _ h9b
                  have f91 := frozen_of_row wD wc2.heap.size 1 _ _ h9b
                  have h9c : ((wD.setCell ⟨wc2.heap.size, 0, none⟩ (.string u.1)).setCell ⟨wc2.heap.size, 1, none⟩ (.string u.2)).heap[wc2.heap.size]? = some (.cells #[.string u.1, .string u.2] 23 (0, 0)) := by rw [heap_setCell_same _ _ 1 _ _ _ (heap_setCell_same _ _ 0 _ _ _ h9b)]; rfl
                  have h8c : ((wD.setCell ⟨wc2.heap.size, 0, none⟩ (.string u.1)).setCell ⟨wc2.heap.size, 1, none⟩ (.string u.2)).heap[wc5.heap.size]? = some (.cells #[.string k, .string kb] 23 (0, 0)) := by rw [heap_setCell_other _ _ _ _ (by show wc5.heap.size ≠ wc2.heap.size; omega), heap_setCell_other _ _ _ _ (by show wc5.heap.size ≠ wc2.heap.size; omega)]; exact h8b
                  have hFt := Fr.setCell (Fr.setCell hHeld.2.2 (p := ⟨wc2.heap.size, 0, none⟩) (fun e => by have e1 : wc2.heap.size < w2.heap.size := e; omega) (.string u.1)) (p := ⟨wc2.heap.size, 1, none⟩) (fun e => by have e1 : wc2.heap.size < w2.heap.size := e; omega) (.string u.2)
                  refine wpAnyH_ready (rs := [8]) (by kernel_rfl) (by simp) ?_
                  refine AllReadyH.cons rfl (fun K hK => ?_) AllReadyH.nil
                  go_simp
                  refine hK.out _ _ ?_ (fun hHeld => ?_)
                  · exact HS.out _ hFt
                  clear hK K
                  try simp only [Act.put, List.setIfInBounds_toArray, List.set_cons_zero, List.set_cons_succ]
                  refine wpAnyH_done (by kernel_rfl) ?_ _
                  exact ⟨wc5.heap.size, wc2.heap.size, rfl, cellH h8c 0 rfl, cellH h8c 1 rfl, cellH h9c 0 rfl, cellH h9c 1 rfl, hHeld.2.2⟩
                exact AllReadyH.nil
              exact AllReadyH.nil
            refine AllReadyH.cons rfl (fun K hK => ?_) ?_
            · go_simp
              have hF := hHeld.2.2.alloc (.cells #[.string ⟨#[]⟩, .string ⟨#[]⟩] 23)
              have hg8 := hHeld.2.2.size
              have h8 : (wc1.alloc (.cells #[.string ⟨#[]⟩, .string ⟨#[]⟩] 23)).heap[wc1.heap.size]? = some (.cells #[.string ⟨#[]⟩, .string ⟨#[]⟩] 23) := heap_alloc_new _ _
              refine hK.out _ _ ?_ (fun hHeld => ?_)
              · exact HS.out _ hF
              clear hK K hF
              try simp only [Act.put, List.setIfInBounds_toArray, List.set_cons_zero, List.set_cons_succ]
              generalize wc1.alloc (.cells #[.string ⟨#[]⟩, .string ⟨#[]⟩] 23) = wc7 at *
              refine wpAnyH_ready (rs := [4, 6]) (by kernel_rfl) (by simp) ?_
              refine AllReadyH.cons rfl (fun K hK => ?_) ?_
              · go_simp
                refine Calls.mono (HUp.out hks _) ?_
                rintro e wc8 ⟨rfl, hX⟩
                have hF := hHeld.2.2.trans hX (fun _ _ e => e)
                have hsz := hX.size
                replace h8 := (hX.block _ (Array.getElem?_eq_some_iff.1 h8).1 (fun e => e)).trans h8
                refine hK.out _ _ ?_ (fun hHeld => ?_)
                · exact HS.out _ hF
                clear hK K hX hF
                try simp only [Act.put, List.setIfInBounds_toArray, List.set_cons_zero, List.set_cons_succ]
                refine wpAnyH_ready (rs := [6]) (by kernel_rfl) (by simp) ?_
                refine AllReadyH.cons rfl (fun K hK => ?_) ?_
                · go_simp
                  have hF := hHeld.2.2.alloc (.cells #[.string ⟨#[]⟩, .string ⟨#[]⟩] 23)
                  have hg9 := hHeld.2.2.size
                  have hlt := (Array.getElem?_eq_some_iff.1 h8).1
                  replace h8 := (Below.heap_alloc wc8 (.cells #[.string ⟨#[]⟩, .string ⟨#[]⟩] 23) _ hlt).trans h8
                  have h9 : (wc8.alloc (.cells #[.string ⟨#[]⟩, .string ⟨#[]⟩] 23)).heap[wc8.heap.size]? = some (.cells #[.string ⟨#[]⟩, .string ⟨#[]⟩] 23) := heap_alloc_new _ _
                  refine hK.out _ _ ?_ (fun hHeld => ?_)
                  · exact HS.out _ hF
                  clear hK K hF
                  try simp only [Act.put, List.setIfInBounds_toArray, List.set_cons_zero, List.set_cons_succ]
                  generalize wc8.alloc (.cells #[.string ⟨#[]⟩, .string ⟨#[]⟩] 23) = wc9 at *
                  have c80 := cellH h8 0 rfl
                  have c81 := cellH h8 1 rfl
                  have f80 := frozen_of_row wc9 wc1.heap.size 0 _ _ h8
                  have f81 := frozen_of_row wc9 wc1.heap.size 1 _ _ h8
                  have h8b : ((wc9.setCell ⟨wc1.heap.size, 0, none⟩ (.string k)).setCell ⟨wc1.heap.size, 1, none⟩ (.string kb)).heap[wc1.heap.size]? = some (.cells #[.string k, .string kb] 23 (0, 0)) := by rw [heap_setCell_same _ _ 1 _ _ _ (heap_setCell_same _ _ 0 _ _ _ h8)]; rfl
                  have h9b : ((wc9.setCell ⟨wc1.heap.size, 0, none⟩ (.string k)).setCell ⟨wc1.heap.size, 1, none⟩ (.string kb)).heap[wc8.heap.size]? = some (.cells #[.string ⟨#[]⟩, .string ⟨#[]⟩] 23) := by rw [heap_setCell_other _ _ _ _ (by show wc8.heap.size ≠ wc1.heap.size; omega), heap_setCell_other _ _ _ _ (by show wc8.heap.size ≠ wc1.heap.size; omega)]; exact h9
                  have hFs := Fr.setCell (Fr.setCell hHeld.2.2 (p := ⟨wc1.heap.size, 0, none⟩) (fun e => by have e1 : wc1.heap.size < w2.heap.size := e; omega) (.string k)) (p := ⟨wc1.heap.size, 1, none⟩) (fun e => by have e1 : wc1.heap.size < w2.heap.size := e; omega) (.string kb)
                  refine wpAnyH_ready (rs := [7]) (by kernel_rfl) (by simp) ?_
                  refine AllReadyH.cons rfl (fun K hK => ?_) AllReadyH.nil
                  go_simp
                  refine hK.out _ _ ?_ (fun hHeld => ?_)
                  · exact HS.out _ hFs
                  clear hK K c80 c81 f80 f81
                  try simp only [Act.put, List.setIfInBounds_toArray, List.set_cons_zero, List.set_cons_succ]
                  generalize (wc9.setCell ⟨wc1.heap.size, 0, none⟩ (.string k)).setCell ⟨wc1.heap.size, 1, none⟩ (.string kb) = wD at *
                  have c90 := cellH h9b 0 rfl
                  have c91 := cellH h9b 1 rfl
                  have f90 := frozen_of_row wD wc8.heap.size 0 _ _ h9b
                  have f91 := frozen_of_row wD wc8.heap.size 1 _ _ h9b
                  have h9c : ((wD.setCell ⟨wc8.heap.size, 0, none⟩ (.string u.1)).setCell ⟨wc8.heap.size, 1, none⟩ (.string u.2)).heap[wc8.heap.size]? = some (.cells #[.string u.1, .string u.2] 23 (0, 0)) := by rw [heap_setCell_same _ _ 1 _ _ _ (heap_setCell_same _ _ 0 _ _ _ h9b)]; rfl
                  have h8c : ((wD.setCell ⟨wc8.heap.size, 0, none⟩ (.string u.1)).setCell ⟨wc8.heap.size, 1, none⟩ (.string u.2)).heap[wc1.heap.size]? = some (.cells #[.string k, .string kb] 23 (0, 0)) := by rw [heap_setCell_other _ _ _ _ (by show wc1.heap.size ≠ wc8.heap.size; omega), heap_setCell_other _ _ _ _ (by show wc1.heap.size ≠ wc8.heap.size; omega)]; exact h8b
                  have hFt := Fr.setCell (Fr.setCell hHeld.2.2 (p := ⟨wc8.heap.size, 0, none⟩) (fun e => by have e1 : wc8.heap.size < w2.heap.size := e; omega) (.string u.1)) (p := ⟨wc8.heap.size, 1, none⟩) (fun e => by have e1 : wc8.heap.size < w2.heap.size := e; omega) (.string u.2)
                  refine wpAnyH_ready (rs := [8]) (by kernel_rfl) (by simp) ?_
                  refine AllReadyH.cons rfl (fun K hK => ?_) AllReadyH.nil
                  go_simp
                  refine hK.out _ _ ?_ (fun hHeld => ?_)
                  · exact HS.out _ hFt
                  clear hK K
                  try simp only [Act.put, List.setIfInBounds_toArray, List.set_cons_zero, List.set_cons_succ]
                  refine wpAnyH_done (by kernel_rfl) ?_ _
                  exact ⟨wc1.heap.size, wc8.heap.size, rfl, cellH h8c 0 rfl, cellH h8c 1 rfl, cellH h9c 0 rfl, cellH h9c 1 rfl, hHeld.2.2⟩
                exact AllReadyH.nil
              refine AllReadyH.cons rfl (fun K hK => ?_) ?_
              · go_simp
                have hF := hHeld.2.2.alloc (.cells #[.string ⟨#[]⟩, .string ⟨#[]⟩] 23)
                have hg9 := hHeld.2.2.size
                have hlt := (Array.getElem?_eq_some_iff.1 h8).1
                replace h8 := (Below.heap_alloc wc7 (.cells #[.string ⟨#[]⟩, .string ⟨#[]⟩] 23) _ hlt).trans h8
                have h9 : (wc7.alloc (.cells #[.string ⟨#[]⟩, .string ⟨#[]⟩] 23)).heap[wc7.heap.size]? = some (.cells #[.string ⟨#[]⟩, .string ⟨#[]⟩] 23) := heap_alloc_new _ _
                refine hK.out _ _ ?_ (fun hHeld => ?_)
                · exact HS.out _ hF
                clear hK K hF
                try simp only [Act.put, List.setIfInBounds_toArray, List.set_cons_zero, List.set_cons_succ]
                generalize wc7.alloc (.cells #[.string ⟨#[]⟩, .string ⟨#[]⟩] 23) = wc10 at *
                refine wpAnyH_ready (rs := [4]) (by kernel_rfl) (by simp) ?_
                refine AllReadyH.cons rfl (fun K hK => ?_) ?_
                · go_simp
                  refine Calls.mono (HUp.out hks _) ?_
                  rintro e wc11 ⟨rfl, hX⟩
                  have hF := hHeld.2.2.trans hX (fun _ _ e => e)
                  have hsz := hX.size
                  replace h8 := (hX.block _ (Array.getElem?_eq_some_iff.1 h8).1 (fun e => e)).trans h8
                  replace h9 := (hX.block _ (Array.getElem?_eq_some_iff.1 h9).1 (fun e => e)).trans h9
                  refine hK.out _ _ ?_ (fun hHeld => ?_)
                  · exact HS.out _ hF
                  clear hK K hX hF
                  try simp only [Act.put, List.setIfInBounds_toArray, List.set_cons_zero, List.set_cons_succ]
                  have c80 := cellH h8 0 rfl
                  have c81 := cellH h8 1 rfl
                  have f80 := frozen_of_row wc11 wc1.heap.size 0 _ _ h8
                  have f81 := frozen_of_row wc11 wc1.heap.size 1 _ _ h8
                  have h8b : ((wc11.setCell ⟨wc1.heap.size, 0, none⟩ (.string k)).setCell ⟨wc1.heap.size, 1, none⟩ (.string kb)).heap[wc1.heap.size]? = some (.cells #[.string k, .string kb] 23 (0, 0)) := by rw [heap_setCell_same _ _ 1 _ _ _ (heap_setCell_same _ _ 0 _ _ _ h8)]; rfl
                  have h9b : ((wc11.setCell ⟨wc1.heap.size, 0, none⟩ (.string k)).setCell ⟨wc1.heap.size, 1, none⟩ (.string kb)).heap[wc7.heap.size]? = some (.cells #[.string ⟨#[]⟩, .string ⟨#[]⟩] 23) := by rw [heap_setCell_other _ _ _ _ (by show wc7.heap.size ≠ wc1.heap.size; omega), heap_setCell_other _ _ _ _ (by show wc7.heap.size ≠ wc1.heap.size; omega)]; exact h9
                  have hFs := Fr.setCell (Fr.setCell hHeld.2.2 (p := ⟨wc1.heap.size, 0, none⟩) (fun e => by have e1 : wc1.heap.size < w2.heap.size := e; omega) (.string k)) (p := ⟨wc1.heap.size, 1, none⟩) (fun e => by have e1 : wc1.heap.size < w2.heap.size := e; omega) (.string kb)
                  refine wpAnyH_ready (rs := [7]) (by kernel_rfl) (by simp) ?_
                  refine AllReadyH.cons rfl (fun K hK => ?_) AllReadyH.nil
                  go_simp
                  refine hK.out _ _ ?_ (fun hHeld => ?_)
                  · exact HS.out _ hFs
                  clear hK K c80 c81 f80 f81
                  try simp only [Act.put, List.setIfInBounds_toArray, List.set_cons_zero, List.set_cons_succ]
                  generalize (wc11.setCell ⟨wc1.heap.size, 0, none⟩ (.string k)).setCell ⟨wc1.heap.size, 1, none⟩ (.string kb) = wD at *
                  have c90 := cellH h9b 0 rfl
                  have c91 := cellH h9b 1 rfl
                  have f90 := frozen_of_row wD wc7.heap.size 0 _ _ h9b
                  have f91 := frozen_of_row wD wc7.heap.size 1 _ _ h9b
                  have h9c : ((wD.setCell ⟨wc7.heap.size, 0, none⟩ (.string u.1)).setCell ⟨wc7.heap.size, 1, none⟩ (.string u.2)).heap[wc7.heap.size]? = some (.cells #[.string u.1, .string u.2] 23 (0, 0)) := by rw [heap_setCell_same _ _ 1 _ _ _ (heap_setCell_same _ _ 0 _ _ _ h9b)]; rfl
                  have h8c : ((wD.setCell ⟨wc7.heap.size, 0, none⟩ (.string u.1)).setCell ⟨wc7.heap.size, 1, none⟩ (.string u.2)).heap[wc1.heap.size]? = some (.cells #[.string k, .string kb] 23 (0, 0)) := by rw [heap_setCell_other _ _ _ _ (by show wc1.heap.size ≠ wc7.heap.size; omega), heap_setCell_other _ _ _ _ (by show wc1.heap.size ≠ wc7.heap.size; omega)]; exact h8b
                  have hFt := Fr.setCell (Fr.setCell hHeld.2.2 (p := ⟨wc7.heap.size, 0, none⟩) (fun e => by have e1 : wc7.heap.size < w2.heap.size := e; omega) (.string u.1)) (p := ⟨wc7.heap.size, 1, none⟩) (fun e => by have e1 : wc7.heap.size < w2.heap.size := e; omega) (.string u.2)
                  refine wpAnyH_ready (rs := [8]) (by kernel_rfl) (by simp) ?_
                  refine AllReadyH.cons rfl (fun K hK => ?_) AllReadyH.nil
                  go_simp
                  refine hK.out _ _ ?_ (fun hHeld => ?_)
                  · exact HS.out _ hFt
                  clear hK K
                  try simp only [Act.put, List.setIfInBounds_toArray, List.set_cons_zero, List.set_cons_succ]
                  refine wpAnyH_done (by kernel_rfl) ?_ _
                  exact ⟨wc1.heap.size, wc7.heap.size, rfl, cellH h8c 0 rfl, cellH h8c 1 rfl, cellH h9c 0 rfl, cellH h9c 1 rfl, hHeld.2.2⟩
                exact AllReadyH.nil
              exact AllReadyH.nil
            refine AllReadyH.cons rfl (fun K hK => ?_) ?_
            · go_simp
              have hF := hHeld.2.2.alloc (.cells #[.string ⟨#[]⟩, .string ⟨#[]⟩] 23)
              have hg9 := hHeld.2.2.size
              have h9 : (wc1.alloc (.cells #[.string ⟨#[]⟩, .string ⟨#[]⟩] 23)).heap[wc1.heap.size]? = some (.cells #[.string ⟨#[]⟩, .string ⟨#[]⟩] 23) := heap_alloc_new _ _
              refine hK.out _ _ ?_ (fun hHeld => ?_)
              · exact HS.out _ hF
              clear hK K hF
              try simp only [Act.put, List.setIfInBounds_toArray, List.set_cons_zero, List.set_cons_succ]
              generalize wc1.alloc (.cells #[.string ⟨#[]⟩, .string ⟨#[]⟩] 23) = wc12 at *
              refine wpAnyH_ready (rs := [4, 5]) (by kernel_rfl) (by simp) ?_
              refine AllReadyH.cons rfl (fun K hK => ?_) ?_
              · go_simp
                refine Calls.mono (HUp.out hks _) ?_
                rintro e wc13 ⟨rfl, hX⟩
                have hF := hHeld.2.2.trans hX (fun _ _ e => e)
                have hsz := hX.size
                replace h9 := (hX.block _ (Array.getElem?_eq_some_iff.1 h9).1 (fun e => e)).trans h9
                refine hK.out _ _ ?_ (fun hHeld => ?_)
                · exact HS.out _ hF
                clear hK K hX hF
                try simp only [Act.put, List.setIfInBounds_toArray, List.set_cons_zero, List.set_cons_succ]
                refine wpAnyH_ready (rs := [5]) (by kernel_rfl) (by simp) ?_
                refine AllReadyH.cons rfl (fun K hK => ?_) ?_
                · go_simp
                  have hF := hHeld.2.2.alloc (.cells #[.string ⟨#[]⟩, .string ⟨#[]⟩] 23)
                  have hg8 := hHeld.2.2.size
                  have hlt := (Array.getElem?_eq_some_iff.1 h9).1
                  replace h9 := (Below.heap_alloc wc13 (.cells #[.string ⟨#[]⟩, .string ⟨#[]⟩] 23) _ hlt).trans h9
                  have h8 : (wc13.alloc (.cells #[.string ⟨#[]⟩, .string ⟨#[]⟩] 23)).heap[wc13.heap.size]? = some (.cells #[.string ⟨#[]⟩, .string ⟨#[]⟩] 23) := heap_alloc_new _ _
                  refine hK.out _ _ ?_ (fun hHeld => ?_)
                  · exact HS.out _ hF
                  clear hK K hF
                  try simp only [Act.put, List.setIfInBounds_toArray, List.set_cons_zero, List.set_cons_succ]
                  generalize wc13.alloc (.cells #[.string ⟨#[]⟩, .string ⟨#[]⟩] 23) = wc14 at *
                  have c80 := cellH h8 0 rfl
                  have c81 := cellH h8 1 rfl
                  have f80 := frozen_of_row wc14 wc13.heap.size 0 _ _ h8
                  have f81 := frozen_of_row wc14 wc13.heap.size 1 _ _ h8
                  have h8b : ((wc14.setCell ⟨wc13.heap.size, 0, none⟩ (.string k)).setCell ⟨wc13.heap.size, 1, none⟩ (.string kb)).heap[wc13.heap.size]? = some (.cells #[.string k, .string kb] 23 (0, 0)) := by rw [heap_setCell_same _ _ 1 _ _ _ (heap_setCell_same _ _ 0 _ _ _ h8)]; rfl
                  have h9b : ((wc14.setCell ⟨wc13.heap.size, 0, none⟩ (.string k)).setCell ⟨wc13.heap.size, 1, none⟩ (.string kb)).heap[wc1.heap.size]? = some (.cells #[.string ⟨#[]⟩, .string ⟨#[]⟩] 23) := by rw [heap_setCell_other _ _ _ _ (by show wc1.heap.size ≠ wc13.heap.size; omega), heap_setCell_other _ _ _ _ (by show wc1.heap.size ≠ wc13.heap.size; omega)]; exact h9
                  have hFs := Fr.setCell (Fr.setCell hHeld.2.2 (p := ⟨wc13.heap.size, 0, none⟩) (fun e => by have e1 : wc13.heap.size < w2.heap.size := e; omega) (.string k)) (p := ⟨wc13.heap.size, 1, none⟩) (fun e => by have e1 : wc13.heap.size < w2.heap.size := e; omega) (.string kb)
                  refine wpAnyH_ready (rs := [7]) (by kernel_rfl) (by simp) ?_
                  refine AllReadyH.cons rfl (fun K hK => ?_) AllReadyH.nil
                  go_simp
                  refine hK.out _ _ ?_ (fun hHeld => ?_)
                  · exact HS.out _ hFs
                  clear hK K c80 c81 f80 f81
                  try simp only [Act.put, List.setIfInBounds_toArray, List.set_cons_zero, List.set_cons_succ]
                  generalize (wc14.setCell ⟨wc13.heap.size, 0, none⟩ (.string k)).setCell ⟨wc13.heap.size, 1, none⟩ (.string kb) = wD at *
                  have c90 := cellH h9b 0 rfl
                  have c91 := cellH h9b 1 rfl
                  have f90 := frozen_of_row wD wc1.heap.size 0 _ _ h9b
                  have f91 := frozen_of_row wD wc1.heap.size 1 _ _ h9b
                  have h9c : ((wD.setCell ⟨wc1.heap.size, 0, none⟩ (.string u.1)).setCell ⟨wc1.heap.size, 1, none⟩ (.string u.2)).heap[wc1.heap.size]? = some (.cells #[.string u.1, .string u.2] 23 (0, 0)) := by rw [heap_setCell_same _ _ 1 _ _ _ (heap_setCell_same _ _ 0 _ _ _ h9b)]; rfl
                  have h8c : ((wD.setCell ⟨wc1.heap.size, 0, none⟩ (.string u.1)).setCell ⟨wc1.heap.size, 1, none⟩ (.string u.2)).heap[wc13.heap.size]? = some (.cells #[.string k, .string kb] 23 (0, 0)) := by rw [heap_setCell_other _ _ _ _ (by show wc13.heap.size ≠ wc1.heap.size; omega), heap_setCell_other _ _ _ _ (by show wc13.heap.size ≠ wc1.heap.size; omega)]; exact h8b
                  have hFt := Fr.setCell (Fr.setCell hHeld.2.2 (p := ⟨wc1.heap.size, 0, none⟩) (fun e => by have e1 : wc1.heap.size < w2.heap.size := e; omega) (.string u.1)) (p := ⟨wc1.heap.size, 1, none⟩) (fun e => by have e1 : wc1.heap.size < w2.heap.size := e; omega) (.string u.2)
                  refine wpAnyH_ready (rs := [8]) (by kernel_rfl) (by simp) ?_
                  refine AllReadyH.cons rfl (fun K hK => ?_) AllReadyH.nil
                  go_simp
                  refine hK.out _ _ ?_ (fun hHeld => ?_)
                  · exact HS.out _ hFt
                  clear hK K
                  try simp only [Act.put, List.setIfInBounds_toArray, List.set_cons_zero, List.set_cons_succ]
                  refine wpAnyH_done (by kernel_rfl) ?_ _
                  exact ⟨wc13.heap.size, wc1.heap.size, rfl, cellH h8c 0 rfl, cellH h8c 1 rfl, cellH h9c 0 rfl, cellH h9c 1 rfl, hHeld.2.2⟩
                exact AllReadyH.nil
              refine AllReadyH.cons rfl (fun K hK => ?_) ?_
              · go_simp
                have hF := hHeld.2.2.alloc (.cells #[.string ⟨#[]⟩, .string ⟨#[]⟩] 23)
                have hg8 := hHeld.2.2.size
                have hlt := (Array.getElem?_eq_some_iff.1 h9).1
                replace h9 := (Below.heap_alloc wc12 (.cells #[.string ⟨#[]⟩, .string ⟨#[]⟩] 23) _ hlt).trans h9
                have h8 : (wc12.alloc (.cells #[.string ⟨#[]⟩, .string ⟨#[]⟩] 23)).heap[wc12.heap.size]? = some (.cells #[.string ⟨#[]⟩, .string ⟨#[]⟩] 23) := heap_alloc_new _ _
                refine hK.out _ _ ?_ (fun hHeld => ?_)
                · exact HS.out _ hF
                clear hK K hF
                try simp only [Act.put, List.setIfInBounds_toArray, List.set_cons_zero, List.set_cons_succ]
                generalize wc12.alloc (.cells #[.string ⟨#[]⟩, .string ⟨#[]⟩] 23) = wc15 at *
                refine wpAnyH_ready (rs := [4]) (by kernel_rfl) (by simp) ?_
                refine AllReadyH.cons rfl (fun K hK => ?_) ?_
                · go_simp
                  refine Calls.mono (HUp.out hks _) ?_
                  rintro e wc16 ⟨rfl, hX⟩
                  have hF := hHeld.2.2.trans hX (fun _ _ e => e)
                  have hsz := hX.size
                  replace h8 := (hX.block _ (Array.getElem?_eq_some_iff.1 h8).1 (fun e => e)).trans h8
                  replace h9 := (hX.block _ (Array.getElem?_eq_some_iff.1 h9).1 (fun e => e)).trans h9
                  refine hK.out _ _ ?_ (fun hHeld => ?_)
                  · exact HS.out _ hF
                  clear hK K hX hF
                  try simp only [Act.put, List.setIfInBounds_toArray, List.set_cons_zero, List.set_cons_succ]
                  have c80 := cellH h8 0 rfl
                  have c81 := cellH h8 1 rfl
                  have f80 := frozen_of_row wc16 wc12.heap.size 0 _ _ h8
                  have f81 := frozen_of_row wc16 wc12.heap.size 1 _ _ h8
                  have h8b : ((wc16.setCell ⟨wc12.heap.size, 0, none⟩ (.string k)).setCell ⟨wc12.heap.size, 1, none⟩ (.string kb)).heap[wc12.heap.size]? = some (.cells #[.string k, .string kb] 23 (0, 0)) := by rw [heap_setCell_same _ _ 1 _ _ _ (heap_setCell_same _ _ 0 _ _ _ h8)]; rfl
                  have h9b : ((wc16.setCell ⟨wc12.heap.size, 0, none⟩ (.string k)).setCell ⟨wc12.heap.size, 1, none⟩ (.string kb)).heap[wc1.heap.size]? = some (.cells #[.string ⟨#[]⟩, .string ⟨#[]⟩] 23) := by rw [heap_setCell_other _ _ _ _ (by show wc1.heap.size ≠ wc12.heap.size; omega), heap_setCell_other _ _ _ _ (by show wc1.heap.size ≠ wc12.heap.size; omega)]; exact h9
                  have hFs := Fr.setCell (Fr.setCell hHeld.2.2 (p := ⟨wc12.heap.size, 0, none⟩) (fun e => by have e1 : wc12.heap.size < w2.heap.size := e; omega) (.string k)) (p := ⟨wc12.heap.size, 1, none⟩) (fun e => by have e1 : wc12.heap.size < w2.heap.size := e; omega) (.string kb)
                  refine wpAnyH_ready (rs := [7]) (by kernel_rfl) (by simp) ?_
                  refine AllReadyH.cons rfl (fun K hK => ?_) AllReadyH.nil
                  go_simp
                  refine hK.out _ _ ?_ (fun hHeld => ?_)
                  · exact HS.out _ hFs
                  clear hK K c80 c81 f80 f81
                  try simp only [Act.put, List.setIfInBounds_toArray, List.set_cons_zero, List.set_cons_succ]
                  generalize (wc16.setCell ⟨wc12.heap.size, 0, none⟩ (.string k)).setCell ⟨wc12.heap.size, 1, none⟩ (.string kb) = wD at *
                  have c90 := cellH h9b 0 rfl
                  have c91 := cellH h9b 1 rfl
                  have f90 := frozen_of_row wD wc1.heap.size 0 _ _ h9b
                  have f91 := frozen_of_row wD wc1.heap.size 1 _ _ h9b
                  have h9c : ((wD.setCell ⟨wc1.heap.size, 0, none⟩ (.string u.1)).setCell ⟨wc1.heap.size, 1, none⟩ (.string u.2)).heap[wc1.heap.size]? = some (.cells #[.string u.1, .string u.2] 23 (0, 0)) := by rw [heap_setCell_same _ _ 1 _ _ _ (heap_setCell_same _ _ 0 _ _ _ h9b)]; rfl
                  have h8c : ((wD.setCell ⟨wc1.heap.size, 0, none⟩ (.string u.1)).setCell ⟨wc1.heap.size, 1, none⟩ (.string u.2)).heap[wc12.heap.size]? = some (.cells #[.string k, .string kb] 23 (0, 0)) := by rw [heap_setCell_other _ _ _ _ (by show wc12.heap.size ≠ wc1.heap.size; omega), heap_setCell_other _ _ _ _ (by show wc12.heap.size ≠ wc1.heap.size; omega)]; exact h8b
                  have hFt := Fr.setCell (Fr.setCell hHeld.2.2 (p := ⟨wc1.heap.size, 0, none⟩) (fun e => by have e1 : wc1.heap.size < w2.heap.size := e; omega) (.string u.1)) (p := ⟨wc1.heap.size, 1, none⟩) (fun e => by have e1 : wc1.heap.size < w2.heap.size := e; omega) (.string u.2)
                  refine wpAnyH_ready (rs := [8]) (by kernel_rfl) (by simp) ?_
                  refine AllReadyH.cons rfl (fun K hK => ?_) AllReadyH.nil
                  go_simp
                  refine hK.out _ _ ?_ (fun hHeld => ?_)
                  · exact HS.out _ hFt
                  clear hK K
                  try simp only [Act.put, List.setIfInBounds_toArray, List.set_cons_zero, List.set_cons_succ]
                  refine wpAnyH_done (by kernel_rfl) ?_ _
                  exact ⟨wc12.heap.size, wc1.heap.size, rfl, cellH h8c 0 rfl, cellH h8c 1 rfl, cellH h9c 0 rfl, cellH h9c 1 rfl, hHeld.2.2⟩
                exact AllReadyH.nil
              exact AllReadyH.nil
            exact AllReadyH.nil
          refine AllReadyH.cons rfl (fun K hK => ?_) ?_
          · go_simp
            have hF := hHeld.2.2.alloc (.cells #[.string ⟨#[]⟩, .string ⟨#[]⟩] 23)
            have hg8 := hHeld.2.2.size
            have h8 : (w2d.alloc (.cells #[.string ⟨#[]⟩, .string ⟨#[]⟩] 23)).heap[w2d.heap.size]? = some (.cells #[.string ⟨#[]⟩, .string ⟨#[]⟩] 23) := heap_alloc_new _ _
            refine hK.out _ _ ?_ (fun hHeld => ?_)
            · exact HS.out _ hF
            clear hK K hF
            try simp only [Act.put, List.setIfInBounds_toArray, List.set_cons_zero, List.set_cons_succ]
            generalize w2d.alloc (.cells #[.string ⟨#[]⟩, .string ⟨#[]⟩] 23) = wc17 at *
            refine wpAnyH_ready (rs := [1, 6]) (by kernel_rfl) (by simp) ?_
            refine AllReadyH.cons rfl (fun K hK => ?_) ?_
            · go_simp
              refine Calls.mono (HOn.out hks _) ?_
              rintro e wc18 ⟨rfl, hX⟩
              have hF := hHeld.2.2.trans hX (fun _ _ e => e)
              have hsz := hX.size
              replace h8 := (hX.block _ (Array.getElem?_eq_some_iff.1 h8).1 (fun e => e)).trans h8
              refine hK.out _ _ ?_ (fun hHeld => ?_)
              · exact HS.out _ hF
              clear hK K hX hF
              try simp only [Act.put, List.setIfInBounds_toArray, List.set_cons_zero, List.set_cons_succ]
              refine wpAnyH_ready (rs := [4, 6]) (by kernel_rfl) (by simp) ?_
              refine AllReadyH.cons rfl (fun K hK => ?_) ?_
              · go_simp
                refine Calls.mono (HUp.out hks _) ?_
                rintro e wc19 ⟨rfl, hX⟩
                have hF := hHeld.2.2.trans hX (fun _ _ e => e)
                have hsz := hX.size
                replace h8 := (hX.block _ (Array.getElem?_eq_some_iff.1 h8).1 (fun e => e)).trans h8
                refine hK.out _ _ ?_ (fun hHeld => ?_)
                · exact HS.out _ hF
                clear hK K hX hF
                try simp only [Act.put, List.setIfInBounds_toArray, List.set_cons_zero, List.set_cons_succ]
                refine wpAnyH_ready (rs := [6]) (by kernel_rfl) (by simp) ?_
                refine AllReadyH.cons rfl (fun K hK => ?_) ?_
                · go_simp
                  have hF := hHeld.2.2.alloc (.cells #[.string ⟨#[]⟩, .string ⟨#[]⟩] 23)
                  have hg9 := hHeld.2.2.size
                  have hlt := (Array.getElem?_eq_some_iff.1 h8).1
                  replace h8 := (Below.heap_alloc wc19 (.cells #[.string ⟨#[]⟩, .string ⟨#[]⟩] 23) _ hlt).trans h8
                  have h9 : (wc19.alloc (.cells #[.string ⟨#[]⟩, .string ⟨#[]⟩] 23)).heap[wc19.heap.size]? = some (.cells #[.string ⟨#[]⟩, .string ⟨#[]⟩] 23) := heap_alloc_new _ _
                  refine hK.out _ _ ?_ (fun hHeld => ?_)
                  · exact HS.out _ hF
                  clear hK K hF
                  try simp only [Act.put, List.setIfInBounds_toArray, List.set_cons_zero, List.set_cons_succ]
                  generalize wc19.alloc (.cells #[.string ⟨#[]⟩, .string ⟨#[]⟩] 23) = wc20 at *
                  have c80 := cellH h8 0 rfl
                  have c81 := cellH h8 1 rfl
                  have f80 := frozen_of_row wc20 w2d.heap.size 0 _ _ h8
                  have f81 := frozen_of_row wc20 w2d.heap.size 1 _ _ h8
                  have h8b : ((wc20.setCell ⟨w2d.heap.size, 0, none⟩ (.string k)).setCell ⟨w2d.heap.size, 1, none⟩ (.string kb)).heap[w2d.heap.size]? = some (.cells #[.string k, .string kb] 23 (0, 0)) := by rw [heap_setCell_same _ _ 1 _ _ _ (heap_setCell_same _ _ 0 _ _ _ h8)]; rfl
                  have h9b : ((wc20.setCell ⟨w2d.heap.size, 0, none⟩ (.string k)).setCell ⟨w2d.heap.size, 1, none⟩ (.string kb)).heap[wc19.heap.size]? = some (.cells #[.string ⟨#[]⟩, .string ⟨#[]⟩] 23) := by rw [heap_setCell_other _ _ _ _ (by show wc19.heap.size ≠ w2d.heap.size; omega), heap_setCell_other _ _ _ _ (by show wc19.heap.size ≠ w2d.heap.size; omega)]; exact h9
                  have hFs := Fr.setCell (Fr.setCell hHeld.2.2 (p := ⟨w2d.heap.size, 0, none⟩) (fun e => by have e1 : w2d.heap.size < w2.heap.size := e; omega) (.string k)) (p := ⟨w2d.heap.size, 1, none⟩) (fun e => by have e1 : w2d.heap.size < w2.heap.size := e; omega) (.string kb)
                  refine wpAnyH_ready (rs := [7]) (by kernel_rfl) (by simp) ?_
                  refine AllReadyH.cons rfl (fun K hK => ?_) AllReadyH.nil
                  go_simp
                  refine hK.out _ _ ?_ (fun hHeld => ?_)
                  · exact HS.out _ hFs
                  clear hK K c80 c81 f80 f81
                  try simp only [Act.put, List.setIfInBounds_toArray, List.set_cons_zero, List.set_cons_succ]
                  generalize (wc20.setCell ⟨w2d.heap.size, 0, none⟩ (.string k)).setCell ⟨w2d.heap.size, 1, none⟩ (.string kb) = wD at *
                  have c90 := cellH h9b 0 rfl
                  have c91 := cellH h9b 1 rfl
                  have f90 := frozen_of_row wD wc19.heap.size 0 _ _ h9b
                  have f91 := frozen_of_row wD wc19.heap.size 1 _ _ h9b
                  have h9c : ((wD.setCell ⟨wc19.heap.size, 0, none⟩ (.string u.1)).setCell ⟨wc19.heap.size, 1, none⟩ (.string u.2)).heap[wc19.heap.size]? = some (.cells #[.string u.1, .string u.2] 23 (0, 0)) := by rw [heap_setCell_same _ _ 1 _ _ _ (heap_setCell_same _ _ 0 _ _ _ h9b)]; rfl
                  have h8c : ((wD.setCell ⟨wc19.heap.size, 0, none⟩ (.string u.1)).setCell ⟨wc19.heap.size, 1, none⟩ (.string u.2)).heap[w2d.heap.size]? = some (.cells #[.string k, .string kb] 23 (0, 0)) := by rw [heap_setCell_other _ _ _ _ (by show w2d.heap.size ≠ wc19.heap.size; omega), heap_setCell_other _ _ _ _ (by show w2d.heap.size ≠ wc19.heap.size; omega)]; exact h8b
                  have hFt := Fr.setCell (Fr.setCell hHeld.2.2 (p := ⟨wc19.heap.size, 0, none⟩) (fun e => by have e1 : wc19.heap.size < w2.heap.size := e; omega) (.string u.1)) (p := ⟨wc19.heap.size, 1, none⟩) (fun e => by have e1 : wc19.heap.size < w2.heap.size := e; omega) (.string u.2)
                  refine wpAnyH_ready (rs := [8]) (by kernel_rfl) (by simp) ?_
                  refine AllReadyH.cons rfl (fun K hK => ?_) AllReadyH.nil
                  go_simp
                  refine hK.out _ _ ?_ (fun hHeld => ?_)
                  · exact HS.out _ hFt
                  clear hK K
                  try simp only [Act.put, List.setIfInBounds_toArray, List.set_cons_zero, List.set_cons_succ]
                  refine wpAnyH_done (by kernel_rfl) ?_ _
                  exact ⟨w2d.heap.size, wc19.heap.size, rfl, cellH h8c 0 rfl, cellH h8c 1 rfl, cellH h9c 0 rfl, cellH h9c 1 rfl, hHeld.2.2⟩
                exact AllReadyH.nil
              refine AllReadyH.cons rfl (fun K hK => ?_) ?_
              · go_simp
                have hF := hHeld.2.2.alloc (.cells #[.string ⟨#[]⟩, .string ⟨#[]⟩] 23)
                have hg9 := hHeld.2.2.size
                have hlt := (Array.getElem?_eq_some_iff.1 h8).1
                replace h8 := (Below.heap_alloc wc18 (.cells #[.string ⟨#[]⟩, .string ⟨#[]⟩] 23) _ hlt).trans h8
                have h9 : (wc18.alloc (.cells #[.string ⟨#[]⟩, .string ⟨#[]⟩] 23)).heap[wc18.heap.size]? = some (.cells #[.string ⟨#[]⟩, .string ⟨#[]⟩] 23) := heap_alloc_new _ _
                refine hK.out _ _ ?_ (fun hHeld => ?_)
                · exact HS.out _ hF
                clear hK K hF
                try simp only [Act.put, List.setIfInBounds_toArray, List.set_cons_zero, List.set_cons_succ]
                generalize wc18.alloc (.cells #[.string ⟨#[]⟩, .string ⟨#[]⟩] 23) = wc21 at *
                refine wpAnyH_ready (rs := [4]) (by kernel_rfl) (by simp) ?_
                refine AllReadyH.cons rfl (fun K hK => ?_) ?_
                · go_simp
                  refine Calls.mono (HUp.out hks _) ?_
                  rintro e wc22 ⟨rfl, hX⟩
                  have hF := hHeld.2.2.trans hX (fun _ _ e => e)
                  have hsz := hX.size
                  replace h8 := (hX.block _ (Array.getElem?_eq_some_iff.1 h8).1 (fun e => e)).trans h8
                  replace h9 := (hX.block _ (Array.getElem?_eq_some_iff.1 h9).1 (fun e => e)).trans h9
                  refine hK.out _ _ ?_ (fun hHeld => ?_)
                  · exact HS.out _ hF
                  clear hK K hX hF
                  try simp only [Act.put, List.setIfInBounds_toArray, List.set_cons_zero, List.set_cons_succ]
                  have c80 := cellH h8 0 rfl
                  have c81 := cellH h8 1 rfl
                  have f80 := frozen_of_row wc22 w2d.heap.size 0 _ _ h8
                  have f81 := frozen_of_row wc22 w2d.heap.size 1 _ _ h8
                  have h8b : ((wc22.setCell ⟨w2d.heap.size, 0, none⟩ (.string k)).setCell ⟨w2d.heap.size, 1, none⟩ (.string kb)).heap[w2d.heap.size]? = some (.cells #[.string k, .string kb] 23 (0, 0)) := by rw [heap_setCell_same _ _ 1 _ _ _ (heap_setCell_same _ _ 0 _ _ _ h8)]; rfl
                  have h9b : ((wc22.setCell ⟨w2d.heap.size, 0, none⟩ (.string k)).setCell ⟨w2d.heap.size, 1, none⟩ (.string kb)).heap[wc18.heap.size]? = some (.cells #[.string ⟨#[]⟩, .string ⟨#[]⟩] 23) := by rw [heap_setCell_other _ _ _ _ (by show wc18.heap.size ≠ w2d.heap.size; omega), heap_setCell_other _ _ _ _ (by show wc18.heap.size ≠ w2d.heap.size; omega)]; exact h9
                  have hFs := Fr.setCell (Fr.setCell hHeld.2.2 (p := ⟨w2d.heap.size, 0, none⟩) (fun e => by have e1 : w2d.heap.size < w2.heap.size := e; omega) (.string k)) (p := ⟨w2d.heap.size, 1, none⟩) (fun e => by have e1 : w2d.heap.size < w2.heap.size := e; omega) (.string kb)
                  refine wpAnyH_ready (rs := [7]) (by kernel_rfl) (by simp) ?_
                  refine AllReadyH.cons rfl (fun K hK => ?_) AllReadyH.nil
                  go_simp
                  refine hK.out _ _ ?_ (fun hHeld => ?_)
                  · exact HS.out _ hFs
                  clear hK K c80 c81 f80 f81
                  try simp only [Act.put, List.setIfInBounds_toArray, List.set_cons_zero, List.set_cons_succ]
                  generalize (wc22.setCell ⟨w2d.heap.size, 0, none⟩ (.string k)).setCell ⟨w2d.heap.size, 1, none⟩ (.string kb) = wD at *
                  have c90 := cellH h9b 0 rfl
                  have c91 := cellH h9b 1 rfl
                  have f90 := frozen_of_row wD wc18.heap.size 0 _ _ h9b
                  have f91 := frozen_of_row wD wc18.heap.size 1 _ _ h9b
                  have h9c : ((wD.setCell ⟨wc18.heap.size, 0, none⟩ (.string u.1)).setCell ⟨wc18.heap.size, 1, none⟩ (.string u.2)).heap[wc18.heap.size]? = some (.cells #[.string u.1, .string u.2] 23 (0, 0)) := by rw [heap_setCell_same _ _ 1 _ _ _ (heap_setCell_same _ _ 0 _ _ _ h9b)]; rfl
                  have h8c : ((wD.setCell ⟨wc18.heap.size, 0, none⟩ (.string u.1)).setCell ⟨wc18.heap.size, 1, none⟩ (.string u.2)).heap[w2d.heap.size]? = some (.cells #[.string k, .string kb] 23 (0, 0)) := by rw [heap_setCell_other _ _ _ _ (by show w2d.heap.size ≠ wc18.heap.size; omega), heap_setCell_other _ _ _ _ (by show w2d.heap.size ≠ wc18.heap.size; omega)]; exact h8b
                  have hFt := Fr.setCell (Fr.setCell hHeld.2.2 (p := ⟨wc18.heap.size, 0, none⟩) (fun e => by have e1 : wc18.heap.size < w2.heap.size := e; omega) (.string u.1)) (p := ⟨wc18.heap.size, 1, none⟩) (fun e => by have e1 : wc18.heap.size < w2.heap.size := e; omega) (.string u.2)
                  refine wpAnyH_ready (rs := [8]) (by kernel_rfl) (by simp) ?_
                  refine AllReadyH.cons rfl (fun K hK => ?_) AllReadyH.nil
                  go_simp
                  refine hK.out _ _ ?_ (fun hHeld => ?_)
                  · exact HS.out _ hFt
                  clear hK K
                  try simp only [Act.put, List.setIfInBounds_toArray, List.set_cons_zero, List.set_cons_succ]
                  refine wpAnyH_done (by kernel_rfl) ?_ _
                  exact ⟨w2d.heap.size, wc18.heap.size, rfl, cellH h8c 0 rfl, cellH h8c 1 rfl, cellH h9c 0 rfl, cellH h9c 1 rfl, hHeld.2.2⟩
                exact AllReadyH.nil
              exact AllReadyH.nil
            refine AllReadyH.cons rfl (fun K hK => ?_) ?_
            · go_simp
              have hF := hHeld.2.2.alloc (.cells #[.string ⟨#[]⟩, .string ⟨#[]⟩] 23)
              have hg9 := hHeld.2.2.size
              have hlt := (Array.getElem?_eq_some_iff.1 h8).1
              replace h8 := (Below.heap_alloc wc17 (.cells #[.string ⟨#[]⟩, .string ⟨#[]⟩] 23) _ hlt).trans h8
              have h9 : (wc17.alloc (.cells #[.string ⟨#[]⟩, .string ⟨#[]⟩] 23)).heap[wc17.heap.size]? = some (.cells #[.string ⟨#[]⟩, .string ⟨#[]⟩] 23) := heap_alloc_new _ _
              refine hK.out _ _ ?_ (fun hHeld => ?_)
              · exact HS.out _ hF
              clear hK K hF
              try simp only [Act.put, List.setIfInBounds_toArray, List.set_cons_zero, List.set_cons_succ]
              generalize wc17.alloc (.cells #[.string ⟨#[]⟩, .string ⟨#[]⟩] 23) = wc23 at *
              refine wpAnyH_ready (rs := [1]) (by kernel_rfl) (by simp) ?_
              refine AllReadyH.cons rfl (fun K hK => ?_) ?_
              · go_simp
                refine Calls.mono (HOn.out hks _) ?_
                rintro e wc24 ⟨rfl, hX⟩
                have hF := hHeld.2.2.trans hX (fun _ _ e => e)
                have hsz := hX.size
                replace h8 := (hX.block _ (Array.getElem?_eq_some_iff.1 h8).1 (fun e => e)).trans h8
                replace h9 := (hX.block _ (Array.getElem?_eq_some_iff.1 h9).1 (fun e => e)).trans h9
                refine hK.out _ _ ?_ (fun hHeld => ?_)
                · exact HS.out _ hF
                clear hK K hX hF
                try simp only [Act.put, List.setIfInBounds_toArray, List.set_cons_zero, List.set_cons_succ]
                refine wpAnyH_ready (rs := [4]) (by kernel_rfl) (by simp) ?_
                refine AllReadyH.cons rfl (fun K hK => ?_) ?_
                · go_simp
                  refine Calls.mono (HUp.out hks _) ?_
                  rintro e wc25 ⟨rfl, hX⟩
                  have hF := hHeld.2.2.trans hX (fun _ _ e => e)
                  have hsz := hX.size
                  replace h8 := (hX.block _ (Array.getElem?_eq_some_iff.1 h8).1 (fun e => e)).trans h8
                  replace h9 := (hX.block _ (Array.getElem?_eq_some_iff.1 h9).1 (fun e => e)).trans h9
                  refine hK.out _ _ ?_ (fun hHeld => ?_)
                  · exact HS.out _ hF
                  clear hK K hX hF
                  try simp only [Act.put, List.setIfInBounds_toArray, List.set_cons_zero, List.set_cons_succ]
                  have c80 := cellH h8 0 rfl
                  have c81 := cellH h8 1 rfl
                  have f80 := frozen_of_row wc25 w2d.heap.size 0 _ _ h8
                  have f81 := frozen_of_row wc25 w2d.heap.size 1 _ _ h8
                  have h8b : ((wc25.setCell ⟨w2d.heap.size, 0, none⟩ (.string k)).setCell ⟨w2d.heap.size, 1, none⟩ (.string kb)).heap[w2d.heap.size]? = some (.cells #[.string k, .string kb] 23 (0, 0)) := by rw [heap_setCell_same _ _ 1 _ _ _ (heap_setCell_same _ _ 0 _ _ _ h8)]; rfl
                  have h9b : ((wc25.setCell ⟨w2d.heap.size, 0, none⟩ (.string k)).setCell ⟨w2d.heap.size, 1, none⟩ (.string kb)).heap[wc17.heap.size]? = some (.cells #[.string ⟨#[]⟩, .string ⟨#[]⟩] 23) := by rw [heap_setCell_other _ _ _ _ (by show wc17.heap.size ≠ w2d.heap.size; omega), heap_setCell_other _ _ _ _ (by show wc17.heap.size ≠ w2d.heap.size; omega)]; exact h9
                  have hFs := Fr.setCell (Fr.setCell hHeld.2.2 (p := ⟨w2d.heap.size, 0, none⟩) (fun e => by have e1 : w2d.heap.size < w2.heap.size := e; omega) (.string k)) (p := ⟨w2d.heap.size, 1, none⟩) (fun e => by have e1 : w2d.heap.size < w2.heap.size := e; omega) (.string kb)
                  refine wpAnyH_ready (rs := [7]) (by kernel_rfl) (by simp) ?_
                  refine AllReadyH.cons rfl (fun K hK => ?_) AllReadyH.nil
                  go_simp
                  refine hK.out _ _ ?_ (fun hHeld => ?_)
                  · exact HS.out _ hFs
                  clear hK K c80 c81 f80 f81
                  try simp only [Act.put, List.setIfInBounds_toArray, List.set_cons_zero, List.set_cons_succ]
                  generalize (wc25.setCell ⟨w2d.heap.size, 0, none⟩ (.string k)).setCell ⟨w2d.heap.size, 1, none⟩ (.string kb) = wD at *
                  have c90 := cellH h9b 0 rfl
                  have c91 := cellH h9b 1 rfl
                  have f90 := frozen_of_row wD wc17.heap.size 0 _ _ h9b
                  have f91 := frozen_of_row wD wc17.heap.size 1 _ _ h9b
                  have h9c : ((wD.setCell ⟨wc17.heap.size, 0, none⟩ (.string u.1)).setCell ⟨wc17.heap.size, 1, none⟩ (.string u.2)).heap[wc17.heap.size]? = some (.cells #[.string u.1, .string u.2] 23 (0, 0)) := by rw [heap_setCell_same _ _ 1 _ _ _ (heap_setCell_same _ _ 0 _ _ _ h9b)]; rfl
                  have h8c : ((wD.setCell ⟨wc17.heap.size, 0, none⟩ (.string u.1)).setCell ⟨wc17.heap.size, 1, none⟩ (.string u.2)).heap[w2d.heap.size]? = some (.cells #[.string k, .string kb] 23 (0, 0)) := by rw [heap_setCell_other _ _ _ _ (by show w2d.heap.size ≠ wc17.heap.size; omega), heap_setCell_other _ _ _ _ (by show w2d.heap.size ≠ wc17.heap.size; omega)]; exact h8b
                  have hFt := Fr.setCell (Fr.setCell hHeld.2.2 (p := ⟨wc17.heap.size, 0, none⟩) (fun e => by have e1 : wc17.heap.size < w2.heap.size := e; omega) (.string u.1)) (p := ⟨wc17.heap.size, 1, none⟩) (fun e => by have e1 : wc17.heap.size < w2.heap.size := e; omega) (.string u.2)
                  refine wpAnyH_ready (rs := [8]) (by kernel_rfl) (by simp) ?_
                  refine AllReadyH.cons rfl (fun K hK => ?_) AllReadyH.nil
                  go_simp
                  refine hK.out _ _ ?_ (fun hHeld => ?_)
                  · exact HS.out _ hFt
                  clear hK K
                  try simp only [Act.put, List.setIfInBounds_toArray, List.set_cons_zero, List.set_cons_succ]
                  refine wpAnyH_done (by kernel_rfl) ?_ _
                  exact ⟨w2d.heap.size, wc17.heap.size, rfl, cellH h8c 0 rfl, cellH h8c 1 rfl, cellH h9c 0 rfl, cellH h9c 1 rfl, hHeld.2.2⟩
                exact AllReadyH.nil
              exact AllReadyH.nil
            exact AllReadyH.nil
          refine AllReadyH.cons rfl (fun K hK => ?_) ?_
          · go_simp
            have hF := hHeld.2.2.alloc (.cells #[.string ⟨#[]⟩, .string ⟨#[]⟩] 23)
            have hg9 := hHeld.2.2.size
            have h9 : (w2d.alloc (.cells #[.string ⟨#[]⟩, .string ⟨#[]⟩] 23)).heap[w2d.heap.size]? = some (.cells #[.string ⟨#[]⟩, .string ⟨#[]⟩] 23) := heap_alloc_new _ _
            refine hK.out _ _ ?_ (fun hHeld => ?_)
            · exact HS.out _ hF
            clear hK K hF
            try simp only [Act.put, List.setIfInBounds_toArray, List.set_cons_zero, List.set_cons_succ]
            generalize w2d.alloc (.cells #[.string ⟨#[]⟩, .string ⟨#[]⟩] 23) = wc26 at *
            refine wpAnyH_ready (rs := [1, 5]) (by kernel_rfl) (by simp) ?_
            refine AllReadyH.cons rfl (fun K hK => ?_) ?_
            · go_simp
              refine Calls.mono (HOn.out hks _) ?_
              rintro e wc27 ⟨rfl, hX⟩
              have hF := hHeld.2.2.trans hX (fun _ _ e => e)
              have hsz := hX.size
              replace h9 := (hX.block _ (Array.getElem?_eq_some_iff.1 h9).1 (fun e => e)).trans h9
              refine hK.out _ _ ?_ (fun hHeld => ?_)
              · exact HS.out _ hF
              clear hK K hX hF
              try simp only [Act.put, List.setIfInBounds_toArray, List.set_cons_zero, List.set_cons_succ]
              refine wpAnyH_ready (rs := [4, 5]) (by kernel_rfl) (by simp) ?_
              refine AllReadyH.cons rfl (fun K hK => ?_) ?_
              · go_simp
                refine Calls.mono (HUp.out hks _) ?_
                rintro e wc28 ⟨rfl, hX⟩
                have hF := hHeld.2.2.trans hX (fun _ _ e => e)
                have hsz := hX.size
                replace h9 := (hX.block _ (Array.getElem?_eq_some_iff.1 h9).1 (fun e => e)).trans h9
                refine hK.out _ _ ?_ (fun hHeld => ?_)
                · exact HS.out _ hF
                clear hK K hX hF
                try simp only [Act.put, List.setIfInBounds_toArray, List.set_cons_zero, List.set_cons_succ]
                refine wpAnyH_ready (rs := [5]) (by kernel_rfl) (by simp) ?_
                refine AllReadyH.cons rfl (fun K hK => ?_) ?_
                · go_simp
                  have hF := hHeld.2.2.alloc (.cells #[.string ⟨#[]⟩, .string ⟨#[]⟩] 23)
                  have hg8 := hHeld.2.2.size
                  have hlt := (Array.getElem?_eq_some_iff.1 h9).1
                  replace h9 := (Below.heap_alloc wc28 (.cells #[.string ⟨#[]⟩, .string ⟨#[]⟩] 23) _ hlt).trans h9
                  have h8 : (wc28.alloc (.cells #[.string ⟨#[]⟩, .string ⟨#[]⟩] 23)).heap[wc28.heap.size]? = some (.cells #[.string ⟨#[]⟩, .string ⟨#[]⟩] 23) := heap_alloc_new _ _
                  refine hK.out _ _ ?_ (fun hHeld => ?_)
                  · exact HS.out _ hF
                  clear hK K hF
                  try simp only [Act.put, List.setIfInBounds_toArray, List.set_cons_zero, List.set_cons_succ]
                  generalize wc28.alloc (.cells #[.string ⟨#[]⟩, .string ⟨#[]⟩] 23) = wc29 at *
                  have c80 := cellH h8 0 rfl
                  have c81 := cellH h8 1 rfl
                  have f80 := frozen_of_row wc29 wc28.heap.size 0 _ _ h8
                  have f81 := frozen_of_row wc29 wc28.heap.size 1 _ _ h8
                  have h8b : ((wc29.setCell ⟨wc28.heap.size, 0, none⟩ (.string k)).setCell ⟨wc28.heap.size, 1, none⟩ (.string kb)).heap[wc28.heap.size]? = some (.cells #[.string k, .string kb] 23 (0, 0)) := by rw [heap_setCell_same _ _ 1 _ _ _ (heap_setCell_same _ _ 0 _ _ _ h8)]; rfl
                  have h9b : ((wc29.setCell ⟨wc28.heap.size, 0, none⟩ (.string k)).setCell ⟨wc28.heap.size, 1, none⟩ (.string kb)).heap[w2d.heap.size]? = some (.cells #[.string ⟨#[]⟩, .string ⟨#[]⟩] 23) := by rw [heap_setCell_other _ _ _ _ (by show w2d.heap.size ≠ wc28.heap.size; omega), heap_setCell_other _ _ _ _ (by show w2d.heap.size ≠ wc28.heap.size; omega)]; exact h9
                  have hFs := Fr.setCell (Fr.setCell hHeld.2.2 (p := ⟨wc28.heap.size, 0, none⟩) (fun e => by have e1 : wc28.heap.size < w2.heap.size := e; omega) (.string k)) (p := ⟨wc28.heap.size, 1, none⟩) (fun e => by have e1 : wc28.heap.size < w2.heap.size := e; omega) (.string kb)
                  refine wpAnyH_ready (rs := [7]) (by kernel_rfl) (by simp) ?_
                  refine AllReadyH.cons rfl (fun K hK => ?_) AllReadyH.nil
                  go_simp
                  refine hK.out _ _ ?_ (fun hHeld => ?_)
                  · exact HS.out _ hFs
                  clear hK K c80 c81 f80 f81
                  try simp only [Act.put, List.setIfInBounds_toArray, List.set_cons_zero, List.set_cons_succ]
                  generalize (wc29.setCell ⟨wc28.heap.size, 0, none⟩ (.string k)).setCell ⟨wc28.heap.size, 1, none⟩ (.string kb) = wD at *
                  have c90 := cellH h9b 0 rfl
                  have c91 := cellH h9b 1 rfl
                  have f90 := frozen_of_row wD w2d.heap.size 0 _ _ h9b
                  have f91 := frozen_of_row wD w2d.heap.size 1 _ _ h9b
                  have h9c : ((wD.setCell ⟨w2d.heap.size, 0, none⟩ (.string u.1)).setCell ⟨w2d.heap.size, 1, none⟩ (.string u.2)).heap[w2d.heap.size]? = some (.cells #[.string u.1, .string u.2] 23 (0, 0)) := by rw [heap_setCell_same _ _ 1 _ _ _ (heap_setCell_same _ _ 0 _ _ _ h9b)]; rfl
                  have h8c : ((wD.setCell ⟨w2d.heap.size, 0, none⟩ (.string u.1)).setCell ⟨w2d.heap.size, 1, none⟩ (.string u.2)).heap[wc28.heap.size]? = some (.cells #[.string k, .string kb] 23 (0, 0)) := by rw [heap_setCell_other _ _ _ _ (by show wc28.heap.size ≠ w2d.heap.size; omega), heap_setCell_other _ _ _ _ (by show wc28.heap.size ≠ w2d.heap.size; omega)]; exact h8b
                  have hFt := Fr.setCell (Fr.setCell hHeld.2.2 (p := ⟨w2d.heap.size, 0, none⟩) (fun e => by have e1 : w2d.heap.size < w2.heap.size := e; omega) (.string u.1)) (p := ⟨w2d.heap.size, 1, none⟩) (fun e => by have e1 : w2d.heap.size < w2.heap.size := e; omega) (.string u.2)
                  refine wpAnyH_ready (rs := [8]) (by kernel_rfl) (by simp) ?_
                  refine AllReadyH.cons rfl (fun K hK => ?_) AllReadyH.nil
                  go_simp
                  refine hK.out _ _ ?_ (fun hHeld => ?_)
                  · exact HS.out _ hFt
                  clear hK K
                  try simp only [Act.put, List.setIfInBounds_toArray, List.set_cons_zero, List.set_cons_succ]
                  refine wpAnyH_done (by kernel_rfl) ?_ _
                  exact ⟨wc28.heap.size, w2d.heap.size, rfl, cellH h8c 0 rfl, cellH h8c 1 rfl, cellH h9c 0 rfl, cellH h9c 1 rfl, hHeld.2.2⟩
                exact AllReadyH.nil
              refine AllReadyH.cons rfl (fun K hK => ?_) ?_
              · go_simp
                have hF := hHeld.2.2.alloc (.cells #[.string ⟨#[]⟩, .string ⟨#[]⟩] 23)
                have hg8 := hHeld.2.2.size
                have hlt := (Array.getElem?_eq_some_iff.1 h9).1
                replace h9 := (Below.heap_alloc wc27 (.cells #[.string ⟨#[]⟩, .string ⟨#[]⟩] 23) _ hlt).trans h9
                have h8 : (wc27.alloc (.cells #[.string ⟨#[]⟩, .string ⟨#[]⟩] 23)).heap[wc27.heap.size]? = some (.cells #[.string ⟨#[]⟩, .string ⟨#[]⟩] 23) := heap_alloc_new _ _
                refine hK.out _ _ ?_ (fun hHeld => ?_)
                · exact HS.out _ hF
                clear hK K hF
                try simp only [Act.put, List.setIfInBounds_toArray, List.set_cons_zero, List.set_cons_succ]
                generalize wc27.alloc (.cells #[.string ⟨#[]⟩, .string ⟨#[]⟩] 23) = wc30 at *
                refine wpAnyH_ready (rs := [4]) (by kernel_rfl) (by simp) ?_
                refine AllReadyH.cons rfl (fun K hK => ?_) ?_
                · go_simp
                  refine Calls.mono (HUp.out hks _) ?_
                  rintro e wc31 ⟨rfl, hX⟩
                  have hF := hHeld.2.2.trans hX (fun _ _ e => e)
                  have hsz := hX.size
                  replace h8 := (hX.block _ (Array.getElem?_eq_some_iff.1 h8).1 (fun e => e)).trans h8
                  replace h9 := (hX.block _ (Array.getElem?_eq_some_iff.1 h9).1 (fun e => e)).trans h9
                  refine hK.out _ _ ?_ (fun hHeld => ?_)
                  · exact HS.out _ hF
                  clear hK K hX hF
                  try simp only [Act.put, List.setIfInBounds_toArray, List.set_cons_zero, List.set_cons_succ]
                  have c80 := cellH h8 0 rfl
                  have c81 := cellH h8 1 rfl
                  have f80 := frozen_of_row wc31 wc27.heap.size 0 _ _ h8
                  have f81 := frozen_of_row wc31 wc27.heap.size 1 _ _ h8
                  have h8b : ((wc31.setCell ⟨wc27.heap.size, 0, none⟩ (.string k)).setCell ⟨wc27.heap.size, 1, none⟩ (.string kb)).heap[wc27.heap.size]? = some (.cells #[.string k, .string kb] 23 (0, 0)) := by rw [heap_setCell_same _ _ 1 _ _ _ (heap_setCell_same _ _ 0 _ _ _ h8)]; rfl
                  have h9b : ((wc31.setCell ⟨wc27.heap.size, 0, none⟩ (.string k)).setCell ⟨wc27.heap.size, 1, none⟩ (.string kb)).heap[w2d.heap.size]? = some (.cells #[.string ⟨#[]⟩, .string ⟨#[]⟩] 23) := by rw [heap_setCell_other _ _ _ _ (by show w2d.heap.size ≠ wc27.heap.size; omega), heap_setCell_other _ _ _ _ (by show w2d.heap.size ≠ wc27.heap.size; omega)]; exact h9
                  have hFs := Fr.setCell (Fr.setCell hHeld.2.2 (p := ⟨wc27.heap.size, 0, none⟩) (fun e => by have e1 : wc27.heap.size < w2.heap.size := e; omega) (.string k)) (p := ⟨wc27.heap.size, 1, none⟩) (fun e => by have e1 : wc27.heap.size < w2.heap.size := e; omega) (.string kb)
                  refine wpAnyH_ready (rs := [7]) (by kernel_rfl) (by simp) ?_
                  refine AllReadyH.cons rfl (fun K hK => ?_) AllReadyH.nil
                  go_simp
                  refine hK.out _ _ ?_ (fun hHeld => ?_)
                  · exact HS.out _ hFs
                  clear hK K c80 c81 f80 f81
                  try simp only [Act.put, List.setIfInBounds_toArray, List.set_cons_zero, List.set_cons_succ]
                  generalize (wc31.setCell ⟨wc27.heap.size, 0, none⟩ (.string k)).setCell ⟨wc27.heap.size, 1, none⟩ (.string kb) = wD at *
                  have c90 := cellH h9b 0 rfl
                  have c91 := cellH h9b 1 rfl
                  have f90 := frozen_of_row wD w2d.heap.size 0 _ _ h9b
                  have f91 := frozen_of_row wD w2d.heap.size 1 _ _ h9b
                  have h9c : ((wD.setCell ⟨w2d.heap.size, 0, none⟩ (.string u.1)).setCell ⟨w2d.heap.size, 1, none⟩ (.string u.2)).heap[w2d.heap.size]? = some (.cells #[.string u.1, .string u.2] 23 (0, 0)) := by rw [heap_setCell_same _ _ 1 _ _ _ (heap_setCell_same _ _ 0 _ _ _ h9b)]; rfl
                  have h8c : ((wD.setCell ⟨w2d.heap.size, 0, none⟩ (.string u.1)).setCell ⟨w2d.heap.size, 1, none⟩ (.string u.2)).heap[wc27.heap.size]? = some (.cells #[.string k, .string kb] 23 (0, 0)) := by rw [heap_setCell_other _ _ _ _ (by show wc27.heap.size ≠ w2d.heap.size; omega), heap_setCell_other _ _ _ _ (by show wc27.heap.size ≠ w2d.heap.size; omega)]; exact h8b
                  have hFt := Fr.setCell (Fr.setCell hHeld.2.2 (p := ⟨w2d.heap.size, 0, none⟩) (fun e => by have e1 : w2d.heap.size < w2.heap.size := e; omega) (.string u.1)) (p := ⟨w2d.heap.size, 1, none⟩) (fun e => by have e1 : w2d.heap.size < w2.heap.size := e; omega) (.string u.2)
                  refine wpAnyH_ready (rs := [8]) (by kernel_rfl) (by simp) ?_
                  refine AllReadyH.cons rfl (fun K hK => ?_) AllReadyH.nil
                  go_simp
                  refine hK.out _ _ ?_ (fun hHeld => ?_)
                  · exact HS.out _ hFt
                  clear hK K
                  try simp only [Act.put, List.setIfInBounds_toArray, List.set_cons_zero, List.set_cons_succ]
                  refine wpAnyH_done (by kernel_rfl) ?_ _
                  exact ⟨wc27.heap.size, w2d.heap.size, rfl, cellH h8c 0 rfl, cellH h8c 1 rfl, cellH h9c 0 rfl, cellH h9c 1 rfl, hHeld.2.2⟩
                exact AllReadyH.nil
              exact AllReadyH.nil
            refine AllReadyH.cons rfl (fun K hK => ?_) ?_
            · go_simp
              have hF := hHeld.2.2.alloc (.cells #[.string ⟨#[]⟩, .string ⟨#[]⟩] 23)
              have hg8 := hHeld.2.2.size
              have hlt := (Array.getElem?_eq_some_iff.1 h9).1
              replace h9 := (Below.heap_alloc wc26 (.cells #[.string ⟨#[]⟩, .string ⟨#[]⟩] 23) _ hlt).trans h9
              have h8 : (wc26.alloc (.cells #[.string ⟨#[]⟩, .string ⟨#[]⟩] 23)).heap[wc26.heap.size]? = some (.cells #[.string ⟨#[]⟩, .string ⟨#[]⟩] 23) := heap_alloc_new _ _
              refine hK.out _ _ ?_ (fun hHeld => ?_)
              · exact HS.out _ hF
              clear hK K hF
              try simp only [Act.put, List.setIfInBounds_toArray, List.set_cons_zero, List.set_cons_succ]
              generalize wc26.alloc (.cells #[.string ⟨#[]⟩, .string ⟨#[]⟩] 23) = wc32 at *
              refine wpAnyH_ready (rs := [1]) (by kernel_rfl) (by simp) ?_
              refine AllReadyH.cons rfl (fun K hK => ?_) ?_
              · go_simp
                refine Calls.mono (HOn.out hks _) ?_
                rintro e wc33 ⟨rfl, hX⟩
                have hF := hHeld.2.2.trans hX (fun _ _ e => e)
                have hsz := hX.size
                replace h8 := (hX.block _ (Array.getElem?_eq_some_iff.1 h8).1 (fun e => e)).trans h8
                replace h9 := (hX.block _ (Array.getElem?_eq_some_iff.1 h9).1 (fun e => e)).trans h9
                refine hK.out _ _ ?_ (fun hHeld => ?_)
                · exact HS.out _ hF
                clear hK K hX hF
                try simp only [Act.put, List.setIfInBounds_toArray, List.set_cons_zero, List.set_cons_succ]
                refine wpAnyH_ready (rs := [4]) (by kernel_rfl) (by simp) ?_
                refine AllReadyH.cons rfl (fun K hK => ?_) ?_
                · go_simp
                  refine Calls.mono (HUp.out hks _) ?_
                  rintro e wc34 ⟨rfl, hX⟩
                  have hF := hHeld.2.2.trans hX (fun _ _ e => e)
                  have hsz := hX.size
                  replace h8 := (hX.block _ (Array.getElem?_eq_some_iff.1 h8).1 (fun e => e)).trans h8
                  replace h9 := (hX.block _ (Array.getElem?_eq_some_iff.1 h9).1 (fun e => e)).trans h9
                  refine hK.out _ _ ?_ (fun hHeld => ?_)
                  · exact HS.out _ hF
                  clear hK K hX hF
                  try simp only [Act.put, List.setIfInBounds_toArray, List.set_cons_zero, List.set_cons_succ]
                  have c80 := cellH h8 0 rfl
                  have c81 := cellH h8 1 rfl
                  have f80 := frozen_of_row wc34 wc26.heap.size 0 _ _ h8
                  have f81 := frozen_of_row wc34 wc26.heap.size 1 _ _ h8
                  have h8b : ((wc34.setCell ⟨wc26.heap.size, 0, none⟩ (.string k)).setCell ⟨wc26.heap.size, 1, none⟩ (.string kb)).heap[wc26.heap.size]? = some (.cells #[.string k, .string kb] 23 (0, 0)) := by rw [heap_setCell_same _ _ 1 _ _ _ (heap_setCell_same _ _ 0 _ _ _ h8)]; rfl
                  have h9b : ((wc34.setCell ⟨wc26.heap.size, 0, none⟩ (.string k)).setCell ⟨wc26.heap.size, 1, none⟩ (.string kb)).heap[w2d.heap.size]? = some (.cells #[.string ⟨#[]⟩, .string ⟨#[]⟩] 23) := by rw [heap_setCell_other _ _ _ _ (by show w2d.heap.size ≠ wc26.heap.size; omega), heap_setCell_other _ _ _ _ (by show w2d.heap.size ≠ wc26.heap.size; omega)]; exact h9
                  have hFs := Fr.setCell (Fr.setCell hHeld.2.2 (p := ⟨wc26.heap.size, 0, none⟩) (fun e => by have e1 : wc26.heap.size < w2.heap.size := e; omega) (.string k)) (p := ⟨wc26.heap.size, 1, none⟩) (fun e => by have e1 : wc26.heap.size < w2.heap.size := e; omega) (.string kb)
                  refine wpAnyH_ready (rs := [7]) (by kernel_rfl) (by simp) ?_
                  refine AllReadyH.cons rfl (fun K hK => ?_) AllReadyH.nil
                  go_simp
                  refine hK.out _ _ ?_ (fun hHeld => ?_)
                  · exact HS.out _ hFs
                  clear hK K c80 c81 f80 f81
                  try simp only [Act.put, List.setIfInBounds_toArray, List.set_cons_zero, List.set_cons_succ]
                  generalize (wc34.setCell ⟨wc26.heap.size, 0, none⟩ (.string k)).setCell ⟨wc26.heap.size, 1, none⟩ (.string kb) = wD at *
                  have c90 := cellH h9b 0 rfl
                  have c91 := cellH h9b 1 rfl
                  have f90 := frozen_of_row wD w2d.heap.size 0 _ _ h9b
                  have f91 := frozen_of_row wD w2d.heap.size 1 _ _ h9b
                  have h9c : ((wD.setCell ⟨w2d.heap.size, 0, none⟩ (.string u.1)).setCell ⟨w2d.heap.size, 1, none⟩ (.string u.2)).heap[w2d.heap.size]? = some (.cells #[.string u.1, .string u.2] 23 (0, 0)) := by rw [heap_setCell_same _ _ 1 _ _ _ (heap_setCell_same _ _ 0 _ _ _ h9b)]; rfl
                  have h8c : ((wD.setCell ⟨w2d.heap.size, 0, none⟩ (.string u.1)).setCell ⟨w2d.heap.size, 1, none⟩ (.string u.2)).heap[wc26.heap.size]? = some (.cells #[.string k, .string kb] 23 (0, 0)) := by rw [heap_setCell_other _ _ _ _ (by show wc26.heap.size ≠ w2d.heap.size; omega), heap_setCell_other _ _ _ _ (by show wc26.heap.size ≠ w2d.heap.size; omega)]; exact h8b
                  have hFt := Fr.setCell (Fr.setCell hHeld.2.2 (p := ⟨w2d.heap.size, 0, none⟩) (fun e => by have e1 : w2d.heap.size < w2.heap.size := e; omega) (.string u.1)) (p := ⟨w2d.heap.size, 1, none⟩) (fun e => by have e1 : w2d.heap.size < w2.heap.size := e; omega) (.string u.2)
                  refine wpAnyH_ready (rs := [8]) (by kernel_rfl) (by simp) ?_
                  refine AllReadyH.cons rfl (fun K hK => ?_) AllReadyH.nil
                  go_simp
                  refine hK.out _ _ ?_ (fun hHeld => ?_)
                  · exact HS.out _ hFt
                  clear hK K
                  try simp only [Act.put, List.setIfInBounds_toArray, List.set_cons_zero, List.set_cons_succ]
                  refine wpAnyH_done (by kernel_rfl) ?_ _
                  exact ⟨wc26.heap.size, w2d.heap.size, rfl, cellH h8c 0 rfl, cellH h8c 1 rfl, cellH h9c 0 rfl, cellH h9c 1 rfl, hHeld.2.2⟩
                exact AllReadyH.nil
              exact AllReadyH.nil
            exact AllReadyH.nil
          exact AllReadyH.nil
        · intro p8 p9 w5 hR5
          obtain ⟨e0, e1, e2, e3, hW5⟩ := hR5
          try simp only [Act.put, List.setIfInBounds_toArray, List.set_cons_zero, List.set_cons_succ]
          go_wp2_with fail
          have HT := hideIt (show ∀ w' : World, Fr (fun _ => False) w5 w' → w'.cell? ⟨p8, 0, none⟩ = some (.string k) ∧ w'.cell? ⟨p8, 1, none⟩ = some (.string kb) ∧ w'.cell? ⟨p9, 0, none⟩ = some (.string u.1) ∧ w'.cell? ⟨p9, 1, none⟩ = some (.string u.2) ∧ w'.cell? ⟨w.heap.size, 0, none⟩ = some (.string s.1) ∧ w'.cell? ⟨w.heap.size, 1, none⟩ = some (.string s.2) ∧ Fr (fun _ => False) w5 w' from fun w' h => by
            obtain ⟨h0, h1⟩ := HC.out w' ((hW2.trans hW5 (fun _ _ e => e)).trans h (fun _ _ e => e))
            exact ⟨h.cell0 e0, h.cell0 e1, h.cell0 e2, h.cell0 e3, h0, h1, h⟩)
          have HFN := hideIt (HF0.out.trans (hW2.trans hW5 (fun _ _ e => e)) (fun _ _ e => e))
          clear HOn HUp HS hW5 hW2
          refine wp_region_held_drew (S := fun w' => w'.cell? ⟨p8, 0, none⟩ = some (.string k) ∧ w'.cell? ⟨p8, 1, none⟩ = some (.string kb) ∧ w'.cell? ⟨p9, 0, none⟩ = some (.string u.1) ∧ w'.cell? ⟨p9, 1, none⟩ = some (.string u.2) ∧ w'.cell? ⟨w.heap.size, 0, none⟩ = some (.string s.1) ∧ w'.cell? ⟨w.heap.size, 1, none⟩ = some (.string s.2) ∧ Fr (fun _ => False) w5 w') (by kernel_rfl) ?_ (fun hHeld => ?_)
          · exact HT.out _ (Fr.refl _ _).drew
          refine wpAnyH_take (i := 0) (v := ?v4) rfl (by kernel_rfl) (by kernel_rfl) (by kernel_rfl) (fun _ _ _ h => h) (Or.inl ⟨by kernel_rfl, ?hy4⟩) (by assumption) ?rest4
          case hy4 => intro w hSw; (try dsimp only at hSw); go_simp; (try with_reducible rfl)
          try simp only [Act.put, List.setIfInBounds_toArray, List.set_cons_zero, List.set_cons_succ]
          refine wpAnyH_take (i := 1) (v := ?v5) rfl (by kernel_rfl) (by kernel_rfl) (by kernel_rfl) (fun _ _ _ h => h) (Or.inl ⟨by kernel_rfl, ?hy5⟩) (by assumption) ?rest5
          case hy5 => intro w hSw; (try dsimp only at hSw); go_simp; (try with_reducible rfl)
          try simp only [Act.put, List.setIfInBounds_toArray, List.set_cons_zero, List.set_cons_succ]
          refine wpAnyH_take (i := 2) (v := ?v6) rfl (by kernel_rfl) (by kernel_rfl) (by kernel_rfl) (fun _ _ _ h => h) (Or.inl ⟨by kernel_rfl, ?hy6⟩) (by assumption) ?rest6
          case hy6 => intro w hSw; (try dsimp only at hSw); go_simp; (try with_reducible rfl)
          try simp only [Act.put, List.setIfInBounds_toArray, List.set_cons_zero, List.set_cons_succ]
          refine wpAnyH_take (i := 3) (v := ?v7) rfl (by kernel_rfl) (by kernel_rfl) (by kernel_rfl) (fun _ _ _ h => h) (Or.inl ⟨by kernel_rfl, ?hy7⟩) (by assumption) ?rest7
          case hy7 => intro w hSw; (try dsimp only at hSw); go_simp; (try with_reducible rfl)
          try simp only [Act.put, List.setIfInBounds_toArray, List.set_cons_zero, List.set_cons_succ]
          refine wpAnyH_ready (rs := [4]) (by kernel_rfl) (by simp) ?_
          refine AllReadyH.cons rfl (fun K hK => ?_) AllReadyH.nil
          go_simp
          refine Calls.mono (H1.out _) ?_
          rintro e w21 ⟨rfl, hX21⟩
          have hW21 : Fr (fun _ => False) w5 w21 := hHeld.2.2.2.2.2.2.trans hX21 (fun _ _ e => e)
          clear hX21
          refine hK.out _ _ ?_ (fun hHeld => ?_)
          · exact HT.out _ hW21
          clear hK K
          try simp only [Act.put, List.setIfInBounds_toArray, List.set_cons_zero, List.set_cons_succ]
          refine wpAnyH_take (i := 5) (v := ?v8) rfl (by kernel_rfl) (by kernel_rfl) (by kernel_rfl) (fun _ _ _ h => h) (Or.inl ⟨by kernel_rfl, ?hy8⟩) (by assumption) ?rest8
          case hy8 => intro w hSw; (try dsimp only at hSw); go_simp; (try with_reducible rfl)
          try simp only [Act.put, List.setIfInBounds_toArray, List.set_cons_zero, List.set_cons_succ]
          refine wpAnyH_take (i := 6) (v := ?v9) rfl (by kernel_rfl) (by kernel_rfl) (by kernel_rfl) (fun _ _ _ h => h) (Or.inl ⟨by kernel_rfl, ?hy9⟩) (by assumption) ?rest9
          case hy9 => intro w hSw; (try dsimp only at hSw); go_simp; (try with_reducible rfl)
          try simp only [Act.put, List.setIfInBounds_toArray, List.set_cons_zero, List.set_cons_succ]
          refine wpAnyH_take (i := 7) (v := ?v10) rfl (by kernel_rfl) (by kernel_rfl) (by kernel_rfl) (fun _ _ _ h => h) (Or.inl ⟨by kernel_rfl, ?hy10⟩) (by assumption) ?rest10
          case hy10 => intro w hSw; (try dsimp only at hSw); go_simp; (try with_reducible rfl)
          try simp only [Act.put, List.setIfInBounds_toArray, List.set_cons_zero, List.set_cons_succ]
          refine wpAnyH_take (i := 8) (v := ?v11) rfl (by kernel_rfl) (by kernel_rfl) (by kernel_rfl) (fun _ _ _ h => h) (Or.inl ⟨by kernel_rfl, ?hy11⟩) (by assumption) ?rest11
          case hy11 => intro w hSw; (try dsimp only at hSw); go_simp; (try with_reducible rfl)
          try simp only [Act.put, List.setIfInBounds_toArray, List.set_cons_zero, List.set_cons_succ]
          refine wpAnyH_take (i := 10) (v := ?v12) rfl (by kernel_rfl) (by kernel_rfl) (by kernel_rfl) (fun _ _ _ h => h) (Or.inl ⟨by kernel_rfl, ?hy12⟩) (by assumption) ?rest12
          case hy12 => intro w hSw; (try dsimp only at hSw); go_simp; (try with_reducible rfl)
          try simp only [Act.put, List.setIfInBounds_toArray, List.set_cons_zero, List.set_cons_succ]
          refine wpAnyH_take (i := 11) (v := ?v13) rfl (by kernel_rfl) (by kernel_rfl) (by kernel_rfl) (fun _ _ _ h => h) (Or.inl ⟨by kernel_rfl, ?hy13⟩) (by assumption) ?rest13
          case hy13 => intro w hSw; (try dsimp only at hSw); go_simp; (try with_reducible rfl)
          try simp only [Act.put, List.setIfInBounds_toArray, List.set_cons_zero, List.set_cons_succ]
          refine wpAnyH_take (i := 12) (v := ?v14) rfl (by kernel_rfl) (by kernel_rfl) (by kernel_rfl) (fun _ _ _ h => h) (Or.inl ⟨by kernel_rfl, ?hy14⟩) (by assumption) ?rest14
          case hy14 => intro w hSw; (try dsimp only at hSw); go_simp; (try with_reducible rfl)
          try simp only [Act.put, List.setIfInBounds_toArray, List.set_cons_zero, List.set_cons_succ]
          refine wpAnyH_ready (rs := [9]) (by kernel_rfl) (by simp) ?_
          refine AllReadyH.cons rfl (fun K hK => ?_) AllReadyH.nil
          go_simp
          refine Calls.mono (H2.out _) ?_
          rintro e w22 ⟨rfl, hX22⟩
          have hW22 : Fr (fun _ => False) w5 w22 := hHeld.2.2.2.2.2.2.trans hX22 (fun _ _ e => e)
          clear hX22
          refine hK.out _ _ ?_ (fun hHeld => ?_)
          · exact HT.out _ hW22
          clear hK K
          try simp only [Act.put, List.setIfInBounds_toArray, List.set_cons_zero, List.set_cons_succ]
          refine wpAnyH_take (i := 13) (v := ?v15) rfl (by kernel_rfl) (by kernel_rfl) (by kernel_rfl) (fun _ _ _ h => h) (Or.inl ⟨by kernel_rfl, ?hy15⟩) (by assumption) ?rest15
          case hy15 => intro w hSw; (try dsimp only at hSw); go_simp; (try with_reducible rfl)
          try simp only [Act.put, List.setIfInBounds_toArray, List.set_cons_zero, List.set_cons_succ]
          refine wpAnyH_take (i := 14) (v := ?v16) rfl (by kernel_rfl) (by kernel_rfl) (by kernel_rfl) (fun _ _ _ h => h) (Or.inl ⟨by kernel_rfl, ?hy16⟩) (by assumption) ?rest16
          case hy16 => intro w hSw; (try dsimp only at hSw); go_simp; (try with_reducible rfl)
          try simp only [Act.put, List.setIfInBounds_toArray, List.set_cons_zero, List.set_cons_succ]
          refine wpAnyH_take (i := 15) (v := ?v17) rfl (by kernel_rfl) (by kernel_rfl) (by kernel_rfl) (fun _ _ _ h => h) (Or.inl ⟨by kernel_rfl, ?hy17⟩) (by assumption) ?rest17
          case hy17 => intro w hSw; (try dsimp only at hSw); go_simp; (try with_reducible rfl)
          try simp only [Act.put, List.setIfInBounds_toArray, List.set_cons_zero, List.set_cons_succ]
          refine wpAnyH_take (i := 16) (v := ?v18) rfl (by kernel_rfl) (by kernel_rfl) (by kernel_rfl) (fun _ _ _ h => h) (Or.inl ⟨by kernel_rfl, ?hy18⟩) (by assumption) ?rest18
          case hy18 => intro w hSw; (try dsimp only at hSw); go_simp; (try with_reducible rfl)
          try simp only [Act.put, List.setIfInBounds_toArray, List.set_cons_zero, List.set_cons_succ]
          refine wpAnyH_take (i := 17) (v := ?v19) rfl (by kernel_rfl) (by kernel_rfl) (by kernel_rfl) (fun _ _ _ h => h) (Or.inl ⟨by kernel_rfl, ?hy19⟩) (by assumption) ?rest19
          case hy19 => intro w hSw; (try dsimp only at hSw); go_simp; (try with_reducible rfl)
          try simp only [Act.put, List.setIfInBounds_toArray, List.set_cons_zero, List.set_cons_succ]
          refine wpAnyH_take (i := 19) (v := ?v20) rfl (by kernel_rfl) (by kernel_rfl) (by kernel_rfl) (fun _ _ _ h => h) (Or.inl ⟨by kernel_rfl, ?hy20⟩) (by assumption) ?rest20
          case hy20 => intro w hSw; (try dsimp only at hSw); go_simp; (try with_reducible rfl)
          try simp only [Act.put, List.setIfInBounds_toArray, List.set_cons_zero, List.set_cons_succ]
          refine wpAnyH_take (i := 20) (v := ?v21) rfl (by kernel_rfl) (by kernel_rfl) (by kernel_rfl) (fun _ _ _ h => h) (Or.inl ⟨by kernel_rfl, ?hy21⟩) (by assumption) ?rest21
          case hy21 => intro w hSw; (try dsimp only at hSw); go_simp; (try with_reducible rfl)
          try simp only [Act.put, List.setIfInBounds_toArray, List.set_cons_zero, List.set_cons_succ]
          refine wpAnyH_ready (rs := [18]) (by kernel_rfl) (by simp) ?_
          refine AllReadyH.cons rfl (fun K hK => ?_) AllReadyH.nil
          go_simp
          refine Calls.mono (H3.out _) ?_
          rintro e w23 ⟨rfl, hX23⟩
          have hW23 : Fr (fun _ => False) w5 w23 := hHeld.2.2.2.2.2.2.trans hX23 (fun _ _ e => e)
          clear hX23
          refine hK.out _ _ ?_ (fun hHeld => ?_)
          · exact HT.out _ hW23
          clear hK K
          try simp only [Act.put, List.setIfInBounds_toArray, List.set_cons_zero, List.set_cons_succ]
          refine wpAnyH_ready (rs := [21]) (by kernel_rfl) (by simp) ?_
          refine AllReadyH.cons rfl (fun K hK => ?_) AllReadyH.nil
          go_simp
          refine Calls.mono (H4.out _) ?_
          rintro e w24 ⟨rfl, hX24⟩
          have hW24 : Fr (fun _ => False) w5 w24 := hHeld.2.2.2.2.2.2.trans hX24 (fun _ _ e => e)
          clear hX24
          refine hK.out _ _ ?_ (fun hHeld => ?_)
          · exact HT.out _ hW24
          clear hK K
          try simp only [Act.put, List.setIfInBounds_toArray, List.set_cons_zero, List.set_cons_succ]
          refine wpAnyH_take (i := 22) (v := ?v22) rfl (by kernel_rfl) (by kernel_rfl) (by kernel_rfl) (fun _ _ _ h => h) (Or.inl ⟨by kernel_rfl, ?hy22⟩) (by assumption) ?rest22
          case hy22 => intro w hSw; (try dsimp only at hSw); go_simp; (try with_reducible rfl)
          try simp only [Act.put, List.setIfInBounds_toArray, List.set_cons_zero, List.set_cons_succ]
          refine wpAnyH_take (i := 23) (v := ?v23) rfl (by kernel_rfl) (by kernel_rfl) (by kernel_rfl) (fun _ _ _ h => h) (Or.inl ⟨by kernel_rfl, ?hy23⟩) (by assumption) ?rest23
          case hy23 => intro w hSw; (try dsimp only at hSw); go_simp; (try with_reducible rfl)
          try simp only [Act.put, List.setIfInBounds_toArray, List.set_cons_zero, List.set_cons_succ]
          refine wpAnyH_take (i := 24) (v := ?v24) rfl (by kernel_rfl) (by kernel_rfl) (by kernel_rfl) (fun _ _ _ h => h) (Or.inl ⟨by kernel_rfl, ?hy24⟩) (by assumption) ?rest24
          case hy24 => intro w hSw; (try dsimp only at hSw); go_simp; (try with_reducible rfl)
          try simp only [Act.put, List.setIfInBounds_toArray, List.set_cons_zero, List.set_cons_succ]
          refine wpAnyH_take (i := 25) (v := ?v25) rfl (by kernel_rfl) (by kernel_rfl) (by kernel_rfl) (fun _ _ _ h => h) (Or.inl ⟨by kernel_rfl, ?hy25⟩) (by assumption) ?rest25
          case hy25 => intro w hSw; (try dsimp only at hSw); go_simp; (try with_reducible rfl)
          try simp only [Act.put, List.setIfInBounds_toArray, List.set_cons_zero, List.set_cons_succ]
          refine wpAnyH_take (i := 26) (v := ?v26) rfl (by kernel_rfl) (by kernel_rfl) (by kernel_rfl) (fun _ _ _ h => h) (Or.inl ⟨by kernel_rfl, ?hy26⟩) (by assumption) ?rest26
          case hy26 => intro w hSw; (try dsimp only at hSw); go_simp; (try with_reducible rfl)
          try simp only [Act.put, List.setIfInBounds_toArray, List.set_cons_zero, List.set_cons_succ]
          refine wpAnyH_take (i := 27) (v := ?v27) rfl (by kernel_rfl) (by kernel_rfl) (by kernel_rfl) (fun _ _ _ h => h) (Or.inl ⟨by kernel_rfl, ?hy27⟩) (by assumption) ?rest27
          case hy27 => intro w hSw; (try dsimp only at hSw); go_simp; (try with_reducible rfl)
          try simp only [Act.put, List.setIfInBounds_toArray, List.set_cons_zero, List.set_cons_succ]
          refine wpAnyH_take (i := 28) (v := ?v28) rfl (by kernel_rfl) (by kernel_rfl) (by kernel_rfl) (fun _ _ _ h => h) (Or.inl ⟨by kernel_rfl, ?hy28⟩) (by assumption) ?rest28
          case hy28 => intro w hSw; (try dsimp only at hSw); go_simp; (try with_reducible rfl)
          try simp only [Act.put, List.setIfInBounds_toArray, List.set_cons_zero, List.set_cons_succ]
          refine wpAnyH_take (i := 29) (v := ?v29) rfl (by kernel_rfl) (by kernel_rfl) (by kernel_rfl) (fun _ _ _ h => h) (Or.inl ⟨by kernel_rfl, ?hy29⟩) (by assumption) ?rest29
          case hy29 => intro w hSw; (try dsimp only at hSw); go_simp; (try with_reducible rfl)
          try simp only [Act.put, List.setIfInBounds_toArray, List.set_cons_zero, List.set_cons_succ]
          refine wpAnyH_done (by kernel_rfl) ?_ _
          go_wp2_with fail
          go_ret
          exact ⟨rfl, HFN.out.trans hW24 (fun _ _ e => e)⟩

set_option maxRecDepth 100000 in
set_option maxHeartbeats 8000000 in
theorem one_f (s : Sp) (k o : ByteArray) (w : World) (hp : decide (KeyIn s o.toList) = false) : Calls Try.prog 7 #[.agg #[.string s.1, .string s.2], .string k, .string o] w fun e w' => e = .returned (.bool true) ∧ Fr (fun _ => False) w w' := by
  have HOn := hideIt (fun (hk : k.size < 9223372036854775807) w => one_any k hk w)
  have HUp := hideIt (fun (hk : k.size < 9223372036854775807) w => upto_any s k hk w)
  have H1 := hideIt (fun w => by have := in_any (k, bhd k) k w; rw [one_self] at this; exact this)
  have H2 := hideIt (fun w => by have := in_any (k, bhd k) o w; rw [one_other] at this; exact this)
  have H3 := hideIt (fun w => by have := in_any (uptoS s k) o w; rw [upto_keys, hp, Bool.false_and] at this; exact this)
  have H4 := hideIt (fun w => by have := in_any s o w; rw [hp] at this; exact this)
  generalize uptoS s k = u at *
  generalize bhd k = kb at *
  clear hp
  have HC := hideIt (show ∀ w' : World, Fr (fun _ => False) (w.alloc (.cells #[.string s.1, .string s.2] 23)) w' → w'.cell? ⟨w.heap.size, 0, none⟩ = some (.string s.1) ∧ w'.cell? ⟨w.heap.size, 1, none⟩ = some (.string s.2) from fun w' h =>
    ⟨h.cell0 (cellNew w _ _ _ 0 rfl), h.cell0 (cellNew w _ _ _ 1 rfl)⟩)
  have HF0 := hideIt ((Fr.refl (fun _ => False) w).alloc (.cells #[.string s.1, .string s.2] 23))
  go_enter Try.func7, Try.ntmps7
  go_wp2_with fail
  generalize w.alloc (.cells #[.string s.1, .string s.2] 23) = W at *
  refine Calls.mono (awake_any _) ?_
  rintro e w1 ⟨rfl, hW1⟩
  obtain ⟨c0, c1⟩ := HC.out w1 hW1
  go_wp2_with fail
  refine Calls.mono (long1 s w1) ?_
  rintro e w1' ⟨⟨v, rfl⟩, rfl⟩
  have hW2 := hW1.alloc (.cells #[.string s.1, .string s.2] 23)
  cases v
  case true =>
    go_wp2_with fail
    go_ret
    exact ⟨rfl, HF0.out.trans hW2 (fun _ _ e => e)⟩
  case false =>
    by_cases hk : 100 < k.size
    · have hk' : (100 : Int) < (k.size : Int) := by omega
      go_wp2_with fail
      go_ret
      exact ⟨rfl, HF0.out.trans hW2 (fun _ _ e => e)⟩
    · have hk' : ¬ (100 : Int) < (k.size : Int) := by omega
      by_cases ho : 100 < o.size
      · have ho' : (100 : Int) < (o.size : Int) := by omega
        go_wp2_with fail
        go_ret
        exact ⟨rfl, HF0.out.trans hW2 (fun _ _ e => e)⟩
      · have ho' : ¬ (100 : Int) < (o.size : Int) := by omega
        have hks : k.size < 9223372036854775807 := by omega
        clear c0 c1
        generalize w1.alloc (.cells #[.string s.1, .string s.2] 23) = w2 at *
        obtain ⟨c0, c1⟩ := HC.out w2 hW2
        clear hW1
        go_wp2_with fail
        have HS := hideIt (show ∀ w' : World, Fr (fun _ => False) w2 w' → w'.cell? ⟨w.heap.size, 0, none⟩ = some (.string s.1) ∧ w'.cell? ⟨w.heap.size, 1, none⟩ = some (.string s.2) ∧ Fr (fun _ => False) w2 w' from fun w' h => by
          obtain ⟨h0, h1⟩ := HC.out w' (hW2.trans h (fun _ _ e => e))
          exact ⟨h0, h1, h⟩)
        refine wp_via (fun a p q => ((((((a.put (some 25) (.string k)).put (some 28) (.string k)).put (some 27) (.agg #[.string s.1, .string s.2])).put (some 26) (.agg #[.string k, .string kb])).put (some 29) (.agg #[.string u.1, .string u.2])).put (some 8) (.pointer (some ⟨p, 0, none⟩))).put (some 9) (.pointer (some ⟨q, 0, none⟩))) (fun p q w' => w'.cell? ⟨p, 0, none⟩ = some (.string k) ∧ w'.cell? ⟨p, 1, none⟩ = some (.string kb) ∧ w'.cell? ⟨q, 0, none⟩ = some (.string u.1) ∧ w'.cell? ⟨q, 1, none⟩ = some (.string u.2) ∧ Fr (fun _ => False) w2 w') ?_ ?_
        · refine wp_region_held_drew (S := fun w' => w'.cell? ⟨w.heap.size, 0, none⟩ = some (.string s.1) ∧ w'.cell? ⟨w.heap.size, 1, none⟩ = some (.string s.2) ∧ Fr (fun _ => False) w2 w') (by kernel_rfl) ?_ (fun hHeld => ?_)
          · exact HS.out _ (Fr.refl _ _).drew
          generalize w2.drew = w2d at *
          refine wpAnyH_take (i := 0) (v := ?v1) rfl (by kernel_rfl) (by kernel_rfl) (by kernel_rfl) (fun _ _ _ h => h) (Or.inl ⟨by rfl, ?hy1⟩) (by assumption) ?rest1
          case hy1 => intro w hSw; (try dsimp only at hSw); go_simp; (try with_reducible rfl)
          try simp only [Act.put, List.setIfInBounds_toArray, List.set_cons_zero, List.set_cons_succ]
          refine wpAnyH_take (i := 3) (v := ?v2) rfl (by kernel_rfl) (by kernel_rfl) (by kernel_rfl) (fun _ _ _ h => h) (Or.inl ⟨by rfl, ?hy2⟩) (by assumption) ?rest2
          case hy2 => intro w hSw; (try dsimp only at hSw); go_simp; (try with_reducible rfl)
          try simp only [Act.put, List.setIfInBounds_toArray, List.set_cons_zero, List.set_cons_succ]
          refine wpAnyH_take (i := 2) (v := ?v3) rfl (by kernel_rfl) (by kernel_rfl) (by kernel_rfl) (fun _ _ _ h => h) (Or.inl ⟨by rfl, ?hy3⟩) (by assumption) ?rest3
          case hy3 => intro w hSw; (try dsimp only at hSw); go_simp; (try with_reducible rfl)
          try simp only [Act.put, List.setIfInBounds_toArray, List.set_cons_zero, List.set_cons_succ]
          refine wpAnyH_ready (rs := [1, 5, 6]) (by kernel_rfl) (by simp) ?_
          refine AllReadyH.cons rfl (fun K hK => ?_) ?_
          · go_simp
            refine Calls.mono (HOn.out hks _) ?_
            rintro e wc1 ⟨rfl, hX⟩
            have hF := hHeld.2.2.trans hX (fun _ _ e => e)
            have hsz := hX.size
            refine hK.out _ _ ?_ (fun hHeld => ?_)
            · exact HS.out _ hF
            clear hK K hX hF
            try simp only [Act.put, List.setIfInBounds_toArray, List.set_cons_zero, List.set_cons_succ]
            refine wpAnyH_ready (rs := [4, 5, 6]) (by kernel_rfl) (by simp) ?_
            refine AllReadyH.cons rfl (fun K hK => ?_) ?_
            · go_simp
              refine Calls.mono (HUp.out hks _) ?_
              rintro e wc2 ⟨rfl, hX⟩
              have hF := hHeld.2.2.trans hX (fun _ _ e => e)
              have hsz := hX.size
              refine hK.out _ _ ?_ (fun hHeld => ?_)
              · exact HS.out _ hF
              clear hK K hX hF
              try simp only [Act.put, List.setIfInBounds_toArray, List.set_cons_zero, List.set_cons_succ]
              refine wpAnyH_ready (rs := [5, 6]) (by kernel_rfl) (by simp) ?_
              refine AllReadyH.cons rfl (fun K hK => ?_) ?_
              · go_simp
                have hF := hHeld.2.2.alloc (.cells #[.string ⟨#[]⟩, .string ⟨#[]⟩] 23)
                have hg8 := hHeld.2.2.size
                have h8 : (wc2.alloc (.cells #[.string ⟨#[]⟩, .string ⟨#[]⟩] 23)).heap[wc2.heap.size]? = some (.cells #[.string ⟨#[]⟩, .string ⟨#[]⟩] 23) := heap_alloc_new _ _
                refine hK.out _ _ ?_ (fun hHeld => ?_)
                · exact HS.out _ hF
                clear hK K hF
                try simp only [Act.put, List.setIfInBounds_toArray, List.set_cons_zero, List.set_cons_succ]
                generalize wc2.alloc (.cells #[.string ⟨#[]⟩, .string ⟨#[]⟩] 23) = wc3 at *
                refine wpAnyH_ready (rs := [6]) (by kernel_rfl) (by simp) ?_
                refine AllReadyH.cons rfl (fun K hK => ?_) ?_
                · go_simp
                  have hF := hHeld.2.2.alloc (.cells #[.string ⟨#[]⟩, .string ⟨#[]⟩] 23)
                  have hg9 := hHeld.2.2.size
                  have hlt := (Array.getElem?_eq_some_iff.1 h8).1
                  replace h8 := (Below.heap_alloc wc3 (.cells #[.string ⟨#[]⟩, .string ⟨#[]⟩] 23) _ hlt).trans h8
                  have h9 : (wc3.alloc (.cells #[.string ⟨#[]⟩, .string ⟨#[]⟩] 23)).heap[wc3.heap.size]? = some (.cells #[.string ⟨#[]⟩, .string ⟨#[]⟩] 23) := heap_alloc_new _ _
                  refine hK.out _ _ ?_ (fun hHeld => ?_)
                  · exact HS.out _ hF
                  clear hK K hF
                  try simp only [Act.put, List.setIfInBounds_toArray, List.set_cons_zero, List.set_cons_succ]
                  generalize wc3.alloc (.cells #[.string ⟨#[]⟩, .string ⟨#[]⟩] 23) = wc4 at *
                  have c80 := cellH h8 0 rfl
                  have c81 := cellH h8 1 rfl
                  have f80 := frozen_of_row wc4 wc2.heap.size 0 _ _ h8
                  have f81 := frozen_of_row wc4 wc2.heap.size 1 _ _ h8
                  have h8b : ((wc4.setCell ⟨wc2.heap.size, 0, none⟩ (.string k)).setCell ⟨wc2.heap.size, 1, none⟩ (.string kb)).heap[wc2.heap.size]? = some (.cells #[.string k, .string kb] 23 (0, 0)) := by rw [heap_setCell_same _ _ 1 _ _ _ (heap_setCell_same _ _ 0 _ _ _ h8)]; rfl
                  have h9b : ((wc4.setCell ⟨wc2.heap.size, 0, none⟩ (.string k)).setCell ⟨wc2.heap.size, 1, none⟩ (.string kb)).heap[wc3.heap.size]? = some (.cells #[.string ⟨#[]⟩, .string ⟨#[]⟩] 23) := by rw [heap_setCell_other _ _ _ _ (by show wc3.heap.size ≠ wc2.heap.size; omega), heap_setCell_other _ _ _ _ (by show wc3.heap.size ≠ wc2.heap.size; omega)]; exact h9
                  have hFs := Fr.setCell (Fr.setCell hHeld.2.2 (p := ⟨wc2.heap.size, 0, none⟩) (fun e => by have e1 : wc2.heap.size < w2.heap.size := e; omega) (.string k)) (p := ⟨wc2.heap.size, 1, none⟩) (fun e => by have e1 : wc2.heap.size < w2.heap.size := e; omega) (.string kb)
                  refine wpAnyH_ready (rs := [7]) (by kernel_rfl) (by simp) ?_
                  refine AllReadyH.cons rfl (fun K hK => ?_) AllReadyH.nil
                  go_simp
                  refine hK.out _ _ ?_ (fun hHeld => ?_)
                  · exact HS.out _ hFs
                  clear hK K c80 c81 f80 f81
                  try simp only [Act.put, List.setIfInBounds_toArray, List.set_cons_zero, List.set_cons_succ]
                  generalize (wc4.setCell ⟨wc2.heap.size, 0, none⟩ (.string k)).setCell ⟨wc2.heap.size, 1, none⟩ (.string kb) = wD at *
                  have c90 := cellH h9b 0 rfl
                  have c91 := cellH h9b 1 rfl
                  have f90 := frozen_of_row wD wc3.heap.size 0 _ _ h9b
                  have f91 := frozen_of_row wD wc3.heap.size 1 _ _ h9b
                  have h9c : ((wD.setCell ⟨wc3.heap.size, 0, none⟩ (.string u.1)).setCell ⟨wc3.heap.size, 1, none⟩ (.string u.2)).heap[wc3.heap.size]? = some (.cells #[.string u.1, .string u.2] 23 (0, 0)) := by rw [heap_setCell_same _ _ 1 _ _ _ (heap_setCell_same _ _ 0 _ _ _ h9b)]; rfl
                  have h8c : ((wD.setCell ⟨wc3.heap.size, 0, none⟩ (.string u.1)).setCell ⟨wc3.heap.size, 1, none⟩ (.string u.2)).heap[wc2.heap.size]? = some (.cells #[.string k, .string kb] 23 (0, 0)) := by rw [heap_setCell_other _ _ _ _ (by show wc2.heap.size ≠ wc3.heap.size; omega), heap_setCell_other _ _ _ _ (by show wc2.heap.size ≠ wc3.heap.size; omega)]; exact h8b
                  have hFt := Fr.setCell (Fr.setCell hHeld.2.2 (p := ⟨wc3.heap.size, 0, none⟩) (fun e => by have e1 : wc3.heap.size < w2.heap.size := e; omega) (.string u.1)) (p := ⟨wc3.heap.size, 1, none⟩) (fun e => by have e1 : wc3.heap.size < w2.heap.size := e; omega) (.string u.2)
                  refine wpAnyH_ready (rs := [8]) (by kernel_rfl) (by simp) ?_
                  refine AllReadyH.cons rfl (fun K hK => ?_) AllReadyH.nil
                  go_simp
                  refine hK.out _ _ ?_ (fun hHeld => ?_)
                  · exact HS.out _ hFt
                  clear hK K
                  try simp only [Act.put, List.setIfInBounds_toArray, List.set_cons_zero, List.set_cons_succ]
                  refine wpAnyH_done (by kernel_rfl) ?_ _
                  exact ⟨wc2.heap.size, wc3.heap.size, rfl, cellH h8c 0 rfl, cellH h8c 1 rfl, cellH h9c 0 rfl, cellH h9c 1 rfl, hHeld.2.2⟩
                exact AllReadyH.nil
              refine AllReadyH.cons rfl (fun K hK => ?_) ?_
              · go_simp
                have hF := hHeld.2.2.alloc (.cells #[.string ⟨#[]⟩, .string ⟨#[]⟩] 23)
                have hg9 := hHeld.2.2.size
                have h9 : (wc2.alloc (.cells #[.string ⟨#[]⟩, .string ⟨#[]⟩] 23)).heap[wc2.heap.size]? = some (.cells #[.string ⟨#[]⟩, .string ⟨#[]⟩] 23) := heap_alloc_new _ _
                refine hK.out _ _ ?_ (fun hHeld => ?_)
                · exact HS.out _ hF
                clear hK K hF
                try simp only [Act.put, List.setIfInBounds_toArray, List.set_cons_zero, List.set_cons_succ]
                generalize wc2.alloc (.cells #[.string ⟨#[]⟩, .string ⟨#[]⟩] 23) = wc5 at *
                refine wpAnyH_ready (rs := [5]) (by kernel_rfl) (by simp) ?_
                refine AllReadyH.cons rfl (fun K hK => ?_) ?_
                · go_simp
                  have hF := hHeld.2.2.alloc (.cells #[.string ⟨#[]⟩, .string ⟨#[]⟩] 23)
                  have hg8 := hHeld.2.2.size
                  have hlt := (Array.getElem?_eq_some_iff.1 h9).1
                  replace h9 := (Below.heap_alloc wc5 (.cells #[.string ⟨#[]⟩, .string ⟨#[]⟩] 23) _ hlt).trans h9
                  have h8 : (wc5.alloc (.cells #[.string ⟨#[]⟩, .string ⟨#[]⟩] 23)).heap[wc5.heap.size]? = some (.cells #[.string ⟨#[]⟩, .string ⟨#[]⟩] 23) := heap_alloc_new _ _
                  refine hK.out _ _ ?_ (fun hHeld => ?_)
                  · exact HS.out _ hF
                  clear hK K hF
                  try simp only [Act.put, List.setIfInBounds_toArray, List.set_cons_zero, List.set_cons_succ]
                  generalize wc5.alloc (.cells #[.string ⟨#[]⟩, .string ⟨#[]⟩] 23) = wc6 at *
                  have c80 := cellH h8 0 rfl
                  have c81 := cellH h8 1 rfl
                  have f80 := frozen_of_row wc6 wc5.heap.size 0 _ _ h8
                  have f81 := frozen_of_row wc6 wc5.heap.size 1 _ _ h8
                  have h8b : ((wc6.setCell ⟨wc5.heap.size, 0, none⟩ (.string k)).setCell ⟨wc5.heap.size, 1, none⟩ (.string kb)).heap[wc5.heap.size]? = some (.cells #[.string k, .string kb] 23 (0, 0)) := by rw [heap_setCell_same _ _ 1 _ _ _ (heap_setCell_same _ _ 0 _ _ _ h8)]; rfl
                  have h9b : ((wc6.setCell ⟨wc5.heap.size, 0, none⟩ (.string k)).setCell ⟨wc5.heap.size, 1, none⟩ (.string kb)).heap[wc2.heap.size]? = some (.cells #[.string ⟨#[]⟩, .string ⟨#[]⟩] 23) := by rw [heap_setCell_other _ _ _ _ (by show wc2.heap.size ≠ wc5.heap.size; omega), heap_setCell_other _ _ _ _ (by show wc2.heap.size ≠ wc5.heap.size; omega)]; exact h9
                  have hFs := Fr.setCell (Fr.setCell hHeld.2.2 (p := ⟨wc5.heap.size, 0, none⟩) (fun e => by have e1 : wc5.heap.size < w2.heap.size := e; omega) (.string k)) (p := ⟨wc5.heap.size, 1, none⟩) (fun e => by have e1 : wc5.heap.size < w2.heap.size := e; omega) (.string kb)
                  refine wpAnyH_ready (rs := [7]) (by kernel_rfl) (by simp) ?_
                  refine AllReadyH.cons rfl (fun K hK => ?_) AllReadyH.nil
                  go_simp
                  refine hK.out _ _ ?_ (fun hHeld => ?_)
                  · exact HS.out _ hFs
                  clear hK K c80 c81 f80 f81
                  try simp only [Act.put, List.setIfInBounds_toArray, List.set_cons_zero, List.set_cons_succ]
                  generalize (wc6.setCell ⟨wc5.heap.size, 0, none⟩ (.string k)).setCell ⟨wc5.heap.size, 1, none⟩ (.string kb) = wD at *
                  have c90 := cellH h9b 0 rfl
                  have c91 := cellH h9b 1 rfl
                  have f90 := frozen_of_row wD wc2.heap.size 0 _ _ h9b
                  have f91 := frozen_of_row wD wc2.heap.size 1 _ _ h9b
                  have h9c : ((wD.setCell ⟨wc2.heap.size, 0, none⟩ (.string u.1)).setCell ⟨wc2.heap.size, 1, none⟩ (.string u.2)).heap[wc2.heap.size]? = some (.cells #[.string u.1, .string u.2] 23 (0, 0)) := by rw [heap_setCell_same _ _ 1 _ _ _ (heap_setCell_same _ _ 0 _ _ _ h9b)]; rfl
                  have h8c : ((wD.setCell ⟨wc2.heap.size, 0, none⟩ (.string u.1)).setCell ⟨wc2.heap.size, 1, none⟩ (.string u.2)).heap[wc5.heap.size]? = some (.cells #[.string k, .string kb] 23 (0, 0)) := by rw [heap_setCell_other _ _ _ _ (by show wc5.heap.size ≠ wc2.heap.size; omega), heap_setCell_other _ _ _ _ (by show wc5.heap.size ≠ wc2.heap.size; omega)]; exact h8b
                  have hFt := Fr.setCell (Fr.setCell hHeld.2.2 (p := ⟨wc2.heap.size, 0, none⟩) (fun e => by have e1 : wc2.heap.size < w2.heap.size := e; omega) (.string u.1)) (p := ⟨wc2.heap.size, 1, none⟩) (fun e => by have e1 : wc2.heap.size < w2.heap.size := e; omega) (.string u.2)
                  refine wpAnyH_ready (rs := [8]) (by kernel_rfl) (by simp) ?_
                  refine AllReadyH.cons rfl (fun K hK => ?_) AllReadyH.nil
                  go_simp
                  refine hK.out _ _ ?_ (fun hHeld => ?_)
                  · exact HS.out _ hFt
                  clear hK K
                  try simp only [Act.put, List.setIfInBounds_toArray, List.set_cons_zero, List.set_cons_succ]
                  refine wpAnyH_done (by kernel_rfl) ?_ _
                  exact ⟨wc5.heap.size, wc2.heap.size, rfl, cellH h8c 0 rfl, cellH h8c 1 rfl, cellH h9c 0 rfl, cellH h9c 1 rfl, hHeld.2.2⟩
                exact AllReadyH.nil
              exact AllReadyH.nil
            refine AllReadyH.cons rfl (fun K hK => ?_) ?_
            · go_simp
              have hF := hHeld.2.2.alloc (.cells #[.string ⟨#[]⟩, .string ⟨#[]⟩] 23)
              have hg8 := hHeld.2.2.size
              have h8 : (wc1.alloc (.cells #[.string ⟨#[]⟩, .string ⟨#[]⟩] 23)).heap[wc1.heap.size]? = some (.cells #[.string ⟨#[]⟩, .string ⟨#[]⟩] 23) := heap_alloc_new _ _
              refine hK.out _ _ ?_ (fun hHeld => ?_)
              · exact HS.out _ hF
              clear hK K hF
              try simp only [Act.put, List.setIfInBounds_toArray, List.set_cons_zero, List.set_cons_succ]
              generalize wc1.alloc (.cells #[.string ⟨#[]⟩, .string ⟨#[]⟩] 23) = wc7 at *
              refine wpAnyH_ready (rs := [4, 6]) (by kernel_rfl) (by simp) ?_
              refine AllReadyH.cons rfl (fun K hK => ?_) ?_
              · go_simp
                refine Calls.mono (HUp.out hks _) ?_
                rintro e wc8 ⟨rfl, hX⟩
                have hF := hHeld.2.2.trans hX (fun _ _ e => e)
                have hsz := hX.size
                replace h8 := (hX.block _ (Array.getElem?_eq_some_iff.1 h8).1 (fun e => e)).trans h8
                refine hK.out _ _ ?_ (fun hHeld => ?_)
                · exact HS.out _ hF
                clear hK K hX hF
                try simp only [Act.put, List.setIfInBounds_toArray, List.set_cons_zero, List.set_cons_succ]
                refine wpAnyH_ready (rs := [6]) (by kernel_rfl) (by simp) ?_
                refine AllReadyH.cons rfl (fun K hK => ?_) ?_
                · go_simp
                  have hF := hHeld.2.2.alloc (.cells #[.string ⟨#[]⟩, .string ⟨#[]⟩] 23)
                  have hg9 := hHeld.2.2.size
                  have hlt := (Array.getElem?_eq_some_iff.1 h8).1
                  replace h8 := (Below.heap_alloc wc8 (.cells #[.string ⟨#[]⟩, .string ⟨#[]⟩] 23) _ hlt).trans h8
                  have h9 : (wc8.alloc (.cells #[.string ⟨#[]⟩, .string ⟨#[]⟩] 23)).heap[wc8.heap.size]? = some (.cells #[.string ⟨#[]⟩, .string ⟨#[]⟩] 23) := heap_alloc_new _ _
                  refine hK.out _ _ ?_ (fun hHeld => ?_)
                  · exact HS.out _ hF
                  clear hK K hF
                  try simp only [Act.put, List.setIfInBounds_toArray, List.set_cons_zero, List.set_cons_succ]
                  generalize wc8.alloc (.cells #[.string ⟨#[]⟩, .string ⟨#[]⟩] 23) = wc9 at *
                  have c80 := cellH h8 0 rfl
                  have c81 := cellH h8 1 rfl
                  have f80 := frozen_of_row wc9 wc1.heap.size 0 _ _ h8
                  have f81 := frozen_of_row wc9 wc1.heap.size 1 _ _ h8
                  have h8b : ((wc9.setCell ⟨wc1.heap.size, 0, none⟩ (.string k)).setCell ⟨wc1.heap.size, 1, none⟩ (.string kb)).heap[wc1.heap.size]? = some (.cells #[.string k, .string kb] 23 (0, 0)) := by rw [heap_setCell_same _ _ 1 _ _ _ (heap_setCell_same _ _ 0 _ _ _ h8)]; rfl
                  have h9b : ((wc9.setCell ⟨wc1.heap.size, 0, none⟩ (.string k)).setCell ⟨wc1.heap.size, 1, none⟩ (.string kb)).heap[wc8.heap.size]? = some (.cells #[.string ⟨#[]⟩, .string ⟨#[]⟩] 23) := by rw [heap_setCell_other _ _ _ _ (by show wc8.heap.size ≠ wc1.heap.size; omega), heap_setCell_other _ _ _ _ (by show wc8.heap.size ≠ wc1.heap.size; omega)]; exact h9
                  have hFs := Fr.setCell (Fr.setCell hHeld.2.2 (p := ⟨wc1.heap.size, 0, none⟩) (fun e => by have e1 : wc1.heap.size < w2.heap.size := e; omega) (.string k)) (p := ⟨wc1.heap.size, 1, none⟩) (fun e => by have e1 : wc1.heap.size < w2.heap.size := e; omega) (.string kb)
                  refine wpAnyH_ready (rs := [7]) (by kernel_rfl) (by simp) ?_
                  refine AllReadyH.cons rfl (fun K hK => ?_) AllReadyH.nil
                  go_simp
                  refine hK.out _ _ ?_ (fun hHeld => ?_)
                  · exact HS.out _ hFs
                  clear hK K c80 c81 f80 f81
                  try simp only [Act.put, List.setIfInBounds_toArray, List.set_cons_zero, List.set_cons_succ]
                  generalize (wc9.setCell ⟨wc1.heap.size, 0, none⟩ (.string k)).setCell ⟨wc1.heap.size, 1, none⟩ (.string kb) = wD at *
                  have c90 := cellH h9b 0 rfl
                  have c91 := cellH h9b 1 rfl
                  have f90 := frozen_of_row wD wc8.heap.size 0 _ _ h9b
                  have f91 := frozen_of_row wD wc8.heap.size 1 _ _ h9b
                  have h9c : ((wD.setCell ⟨wc8.heap.size, 0, none⟩ (.string u.1)).setCell ⟨wc8.heap.size, 1, none⟩ (.string u.2)).heap[wc8.heap.size]? = some (.cells #[.string u.1, .string u.2] 23 (0, 0)) := by rw [heap_setCell_same _ _ 1 _ _ _ (heap_setCell_same _ _ 0 _ _ _ h9b)]; rfl
                  have h8c : ((wD.setCell ⟨wc8.heap.size, 0, none⟩ (.string u.1)).setCell ⟨wc8.heap.size, 1, none⟩ (.string u.2)).heap[wc1.heap.size]? = some (.cells #[.string k, .string kb] 23 (0, 0)) := by rw [heap_setCell_other _ _ _ _ (by show wc1.heap.size ≠ wc8.heap.size; omega), heap_setCell_other _ _ _ _ (by show wc1.heap.size ≠ wc8.heap.size; omega)]; exact h8b
                  have hFt := Fr.setCell (Fr.setCell hHeld.2.2 (p := ⟨wc8.heap.size, 0, none⟩) (fun e => by have e1 : wc8.heap.size < w2.heap.size := e; omega) (.string u.1)) (p := ⟨wc8.heap.size, 1, none⟩) (fun e => by have e1 : wc8.heap.size < w2.heap.size := e; omega) (.string u.2)
                  refine wpAnyH_ready (rs := [8]) (by kernel_rfl) (by simp) ?_
                  refine AllReadyH.cons rfl (fun K hK => ?_) AllReadyH.nil
                  go_simp
                  refine hK.out _ _ ?_ (fun hHeld => ?_)
                  · exact HS.out _ hFt
                  clear hK K
                  try simp only [Act.put, List.setIfInBounds_toArray, List.set_cons_zero, List.set_cons_succ]
                  refine wpAnyH_done (by kernel_rfl) ?_ _
                  exact ⟨wc1.heap.size, wc8.heap.size, rfl, cellH h8c 0 rfl, cellH h8c 1 rfl, cellH h9c 0 rfl, cellH h9c 1 rfl, hHeld.2.2⟩
                exact AllReadyH.nil
              refine AllReadyH.cons rfl (fun K hK => ?_) ?_
              · go_simp
                have hF := hHeld.2.2.alloc (.cells #[.string ⟨#[]⟩, .string ⟨#[]⟩] 23)
                have hg9 := hHeld.2.2.size
                have hlt := (Array.getElem?_eq_some_iff.1 h8).1
                replace h8 := (Below.heap_alloc wc7 (.cells #[.string ⟨#[]⟩, .string ⟨#[]⟩] 23) _ hlt).trans h8
                have h9 : (wc7.alloc (.cells #[.string ⟨#[]⟩, .string ⟨#[]⟩] 23)).heap[wc7.heap.size]? = some (.cells #[.string ⟨#[]⟩, .string ⟨#[]⟩] 23) := heap_alloc_new _ _
                refine hK.out _ _ ?_ (fun hHeld => ?_)
                · exact HS.out _ hF
                clear hK K hF
                try simp only [Act.put, List.setIfInBounds_toArray, List.set_cons_zero, List.set_cons_succ]
                generalize wc7.alloc (.cells #[.string ⟨#[]⟩, .string ⟨#[]⟩] 23) = wc10 at *
                refine wpAnyH_ready (rs := [4]) (by kernel_rfl) (by simp) ?_
                refine AllReadyH.cons rfl (fun K hK => ?_) ?_
                · go_simp
                  refine Calls.mono (HUp.out hks _) ?_
                  rintro e wc11 ⟨rfl, hX⟩
                  have hF := hHeld.2.2.trans hX (fun _ _ e => e)
                  have hsz := hX.size
                  replace h8 := (hX.block _ (Array.getElem?_eq_some_iff.1 h8).1 (fun e => e)).trans h8
                  replace h9 := (hX.block _ (Array.getElem?_eq_some_iff.1 h9).1 (fun e => e)).trans h9
                  refine hK.out _ _ ?_ (fun hHeld => ?_)
                  · exact HS.out _ hF
                  clear hK K hX hF
                  try simp only [Act.put, List.setIfInBounds_toArray, List.set_cons_zero, List.set_cons_succ]
                  have c80 := cellH h8 0 rfl
                  have c81 := cellH h8 1 rfl
                  have f80 := frozen_of_row wc11 wc1.heap.size 0 _ _ h8
                  have f81 := frozen_of_row wc11 wc1.heap.size 1 _ _ h8
                  have h8b : ((wc11.setCell ⟨wc1.heap.size, 0, none⟩ (.string k)).setCell ⟨wc1.heap.size, 1, none⟩ (.string kb)).heap[wc1.heap.size]? = some (.cells #[.string k, .string kb] 23 (0, 0)) := by rw [heap_setCell_same _ _ 1 _ _ _ (heap_setCell_same _ _ 0 _ _ _ h8)]; rfl
                  have h9b : ((wc11.setCell ⟨wc1.heap.size, 0, none⟩ (.string k)).setCell ⟨wc1.heap.size, 1, none⟩ (.string kb)).heap[wc7.heap.size]? = some (.cells #[.string ⟨#[]⟩, .string ⟨#[]⟩] 23) := by rw [heap_setCell_other _ _ _ _ (by show wc7.heap.size ≠ wc1.heap.size; omega), heap_setCell_other _ _ _ _ (by show wc7.heap.size ≠ wc1.heap.size; omega)]; exact h9
                  have hFs := Fr.setCell (Fr.setCell hHeld.2.2 (p := ⟨wc1.heap.size, 0, none⟩) (fun e => by have e1 : wc1.heap.size < w2.heap.size := e; omega) (.string k)) (p := ⟨wc1.heap.size, 1, none⟩) (fun e => by have e1 : wc1.heap.size < w2.heap.size := e; omega) (.string kb)
                  refine wpAnyH_ready (rs := [7]) (by kernel_rfl) (by simp) ?_
                  refine AllReadyH.cons rfl (fun K hK => ?_) AllReadyH.nil
                  go_simp
                  refine hK.out _ _ ?_ (fun hHeld => ?_)
                  · exact HS.out _ hFs
                  clear hK K c80 c81 f80 f81
                  try simp only [Act.put, List.setIfInBounds_toArray, List.set_cons_zero, List.set_cons_succ]
                  generalize (wc11.setCell ⟨wc1.heap.size, 0, none⟩ (.string k)).setCell ⟨wc1.heap.size, 1, none⟩ (.string kb) = wD at *
                  have c90 := cellH h9b 0 rfl
                  have c91 := cellH h9b 1 rfl
                  have f90 := frozen_of_row wD wc7.heap.size 0 _ _ h9b
                  have f91 := frozen_of_row wD wc7.heap.size 1 _ _ h9b
                  have h9c : ((wD.setCell ⟨wc7.heap.size, 0, none⟩ (.string u.1)).setCell ⟨wc7.heap.size, 1, none⟩ (.string u.2)).heap[wc7.heap.size]? = some (.cells #[.string u.1, .string u.2] 23 (0, 0)) := by rw [heap_setCell_same _ _ 1 _ _ _ (heap_setCell_same _ _ 0 _ _ _ h9b)]; rfl
                  have h8c : ((wD.setCell ⟨wc7.heap.size, 0, none⟩ (.string u.1)).setCell ⟨wc7.heap.size, 1, none⟩ (.string u.2)).heap[wc1.heap.size]? = some (.cells #[.string k, .string kb] 23 (0, 0)) := by rw [heap_setCell_other _ _ _ _ (by show wc1.heap.size ≠ wc7.heap.size; omega), heap_setCell_other _ _ _ _ (by show wc1.heap.size ≠ wc7.heap.size; omega)]; exact h8b
                  have hFt := Fr.setCell (Fr.setCell hHeld.2.2 (p := ⟨wc7.heap.size, 0, none⟩) (fun e => by have e1 : wc7.heap.size < w2.heap.size := e; omega) (.string u.1)) (p := ⟨wc7.heap.size, 1, none⟩) (fun e => by have e1 : wc7.heap.size < w2.heap.size := e; omega) (.string u.2)
                  refine wpAnyH_ready (rs := [8]) (by kernel_rfl) (by simp) ?_
                  refine AllReadyH.cons rfl (fun K hK => ?_) AllReadyH.nil
                  go_simp
                  refine hK.out _ _ ?_ (fun hHeld => ?_)
                  · exact HS.out _ hFt
                  clear hK K
                  try simp only [Act.put, List.setIfInBounds_toArray, List.set_cons_zero, List.set_cons_succ]
                  refine wpAnyH_done (by kernel_rfl) ?_ _
                  exact ⟨wc1.heap.size, wc7.heap.size, rfl, cellH h8c 0 rfl, cellH h8c 1 rfl, cellH h9c 0 rfl, cellH h9c 1 rfl, hHeld.2.2⟩
                exact AllReadyH.nil
              exact AllReadyH.nil
            refine AllReadyH.cons rfl (fun K hK => ?_) ?_
            · go_simp
              have hF := hHeld.2.2.alloc (.cells #[.string ⟨#[]⟩, .string ⟨#[]⟩] 23)
              have hg9 := hHeld.2.2.size
              have h9 : (wc1.alloc (.cells #[.string ⟨#[]⟩, .string ⟨#[]⟩] 23)).heap[wc1.heap.size]? = some (.cells #[.string ⟨#[]⟩, .string ⟨#[]⟩] 23) := heap_alloc_new _ _
              refine hK.out _ _ ?_ (fun hHeld => ?_)
              · exact HS.out _ hF
              clear hK K hF
              try simp only [Act.put, List.setIfInBounds_toArray, List.set_cons_zero, List.set_cons_succ]
              generalize wc1.alloc (.cells #[.string ⟨#[]⟩, .string ⟨#[]⟩] 23) = wc12 at *
              refine wpAnyH_ready (rs := [4, 5]) (by kernel_rfl) (by simp) ?_
              refine AllReadyH.cons rfl (fun K hK => ?_) ?_
              · go_simp
                refine Calls.mono (HUp.out hks _) ?_
                rintro e wc13 ⟨rfl, hX⟩
                have hF := hHeld.2.2.trans hX (fun _ _ e => e)
                have hsz := hX.size
                replace h9 := (hX.block _ (Array.getElem?_eq_some_iff.1 h9).1 (fun e => e)).trans h9
                refine hK.out _ _ ?_ (fun hHeld => ?_)
                · exact HS.out _ hF
                clear hK K hX hF
                try simp only [Act.put, List.setIfInBounds_toArray, List.set_cons_zero, List.set_cons_succ]
                refine wpAnyH_ready (rs := [5]) (by kernel_rfl) (by simp) ?_
                refine AllReadyH.cons rfl (fun K hK => ?_) ?_
                · go_simp
                  have hF := hHeld.2.2.alloc (.cells #[.string ⟨#[]⟩, .string ⟨#[]⟩] 23)
                  have hg8 := hHeld.2.2.size
                  have hlt := (Array.getElem?_eq_some_iff.1 h9).1
                  replace h9 := (Below.heap_alloc wc13 (.cells #[.string ⟨#[]⟩, .string ⟨#[]⟩] 23) _ hlt).trans h9
                  have h8 : (wc13.alloc (.cells #[.string ⟨#[]⟩, .string ⟨#[]⟩] 23)).heap[wc13.heap.size]? = some (.cells #[.string ⟨#[]⟩, .string ⟨#[]⟩] 23) := heap_alloc_new _ _
                  refine hK.out _ _ ?_ (fun hHeld => ?_)
                  · exact HS.out _ hF
                  clear hK K hF
                  try simp only [Act.put, List.setIfInBounds_toArray, List.set_cons_zero, List.set_cons_succ]
                  generalize wc13.alloc (.cells #[.string ⟨#[]⟩, .string ⟨#[]⟩] 23) = wc14 at *
                  have c80 := cellH h8 0 rfl
                  have c81 := cellH h8 1 rfl
                  have f80 := frozen_of_row wc14 wc13.heap.size 0 _ _ h8
                  have f81 := frozen_of_row wc14 wc13.heap.size 1 _ _ h8
                  have h8b : ((wc14.setCell ⟨wc13.heap.size, 0, none⟩ (.string k)).setCell ⟨wc13.heap.size, 1, none⟩ (.string kb)).heap[wc13.heap.size]? = some (.cells #[.string k, .string kb] 23 (0, 0)) := by rw [heap_setCell_same _ _ 1 _ _ _ (heap_setCell_same _ _ 0 _ _ _ h8)]; rfl
                  have h9b : ((wc14.setCell ⟨wc13.heap.size, 0, none⟩ (.string k)).setCell ⟨wc13.heap.size, 1, none⟩ (.string kb)).heap[wc1.heap.size]? = some (.cells #[.string ⟨#[]⟩, .string ⟨#[]⟩] 23) := by rw [heap_setCell_other _ _ _ _ (by show wc1.heap.size ≠ wc13.heap.size; omega), heap_setCell_other _ _ _ _ (by show wc1.heap.size ≠ wc13.heap.size; omega)]; exact h9
                  have hFs := Fr.setCell (Fr.setCell hHeld.2.2 (p := ⟨wc13.heap.size, 0, none⟩) (fun e => by have e1 : wc13.heap.size < w2.heap.size := e; omega) (.string k)) (p := ⟨wc13.heap.size, 1, none⟩) (fun e => by have e1 : wc13.heap.size < w2.heap.size := e; omega) (.string kb)
                  refine wpAnyH_ready (rs := [7]) (by kernel_rfl) (by simp) ?_
                  refine AllReadyH.cons rfl (fun K hK => ?_) AllReadyH.nil
                  go_simp
                  refine hK.out _ _ ?_ (fun hHeld => ?_)
                  · exact HS.out _ hFs
                  clear hK K c80 c81 f80 f81
                  try simp only [Act.put, List.setIfInBounds_toArray, List.set_cons_zero, List.set_cons_succ]
                  generalize (wc14.setCell ⟨wc13.heap.size, 0, none⟩ (.string k)).setCell ⟨wc13.heap.size, 1, none⟩ (.string kb) = wD at *
                  have c90 := cellH h9b 0 rfl
                  have c91 := cellH h9b 1 rfl
                  have f90 := frozen_of_row wD wc1.heap.size 0 _ _ h9b
                  have f91 := frozen_of_row wD wc1.heap.size 1 _ _ h9b
                  have h9c : ((wD.setCell ⟨wc1.heap.size, 0, none⟩ (.string u.1)).setCell ⟨wc1.heap.size, 1, none⟩ (.string u.2)).heap[wc1.heap.size]? = some (.cells #[.string u.1, .string u.2] 23 (0, 0)) := by rw [heap_setCell_same _ _ 1 _ _ _ (heap_setCell_same _ _ 0 _ _ _ h9b)]; rfl
                  have h8c : ((wD.setCell ⟨wc1.heap.size, 0, none⟩ (.string u.1)).setCell ⟨wc1.heap.size, 1, none⟩ (.string u.2)).heap[wc13.heap.size]? = some (.cells #[.string k, .string kb] 23 (0, 0)) := by rw [heap_setCell_other _ _ _ _ (by show wc13.heap.size ≠ wc1.heap.size; omega), heap_setCell_other _ _ _ _ (by show wc13.heap.size ≠ wc1.heap.size; omega)]; exact h8b
                  have hFt := Fr.setCell (Fr.setCell hHeld.2.2 (p := ⟨wc1.heap.size, 0, none⟩) (fun e => by have e1 : wc1.heap.size < w2.heap.size := e; omega) (.string u.1)) (p := ⟨wc1.heap.size, 1, none⟩) (fun e => by have e1 : wc1.heap.size < w2.heap.size := e; omega) (.string u.2)
                  refine wpAnyH_ready (rs := [8]) (by kernel_rfl) (by simp) ?_
                  refine AllReadyH.cons rfl (fun K hK => ?_) AllReadyH.nil
                  go_simp
                  refine hK.out _ _ ?_ (fun hHeld => ?_)
                  · exact HS.out _ hFt
                  clear hK K
                  try simp only [Act.put, List.setIfInBounds_toArray, List.set_cons_zero, List.set_cons_succ]
                  refine wpAnyH_done (by kernel_rfl) ?_ _
                  exact ⟨wc13.heap.size, wc1.heap.size, rfl, cellH h8c 0 rfl, cellH h8c 1 rfl, cellH h9c 0 rfl, cellH h9c 1 rfl, hHeld.2.2⟩
                exact AllReadyH.nil
              refine AllReadyH.cons rfl (fun K hK => ?_) ?_
              · go_simp
                have hF := hHeld.2.2.alloc (.cells #[.string ⟨#[]⟩, .string ⟨#[]⟩] 23)
                have hg8 := hHeld.2.2.size
                have hlt := (Array.getElem?_eq_some_iff.1 h9).1
                replace h9 := (Below.heap_alloc wc12 (.cells #[.string ⟨#[]⟩, .string ⟨#[]⟩] 23) _ hlt).trans h9
                have h8 : (wc12.alloc (.cells #[.string ⟨#[]⟩, .string ⟨#[]⟩] 23)).heap[wc12.heap.size]? = some (.cells #[.string ⟨#[]⟩, .string ⟨#[]⟩] 23) := heap_alloc_new _ _
                refine hK.out _ _ ?_ (fun hHeld => ?_)
                · exact HS.out _ hF
                clear hK K hF
                try simp only [Act.put, List.setIfInBounds_toArray, List.set_cons_zero, List.set_cons_succ]
                generalize wc12.alloc (.cells #[.string ⟨#[]⟩, .string ⟨#[]⟩] 23) = wc15 at *
                refine wpAnyH_ready (rs := [4]) (by kernel_rfl) (by simp) ?_
                refine AllReadyH.cons rfl (fun K hK => ?_) ?_
                · go_simp
                  refine Calls.mono (HUp.out hks _) ?_
                  rintro e wc16 ⟨rfl, hX⟩
                  have hF := hHeld.2.2.trans hX (fun _ _ e => e)
                  have hsz := hX.size
                  replace h8 := (hX.block _ (Array.getElem?_eq_some_iff.1 h8).1 (fun e => e)).trans h8
                  replace h9 := (hX.block _ (Array.getElem?_eq_some_iff.1 h9).1 (fun e => e)).trans h9
                  refine hK.out _ _ ?_ (fun hHeld => ?_)
                  · exact HS.out _ hF
                  clear hK K hX hF
                  try simp only [Act.put, List.setIfInBounds_toArray, List.set_cons_zero, List.set_cons_succ]
                  have c80 := cellH h8 0 rfl
                  have c81 := cellH h8 1 rfl
                  have f80 := frozen_of_row wc16 wc12.heap.size 0 _ _ h8
                  have f81 := frozen_of_row wc16 wc12.heap.size 1 _ _ h8
                  have h8b : ((wc16.setCell ⟨wc12.heap.size, 0, none⟩ (.string k)).setCell ⟨wc12.heap.size, 1, none⟩ (.string kb)).heap[wc12.heap.size]? = some (.cells #[.string k, .string kb] 23 (0, 0)) := by rw [heap_setCell_same _ _ 1 _ _ _ (heap_setCell_same _ _ 0 _ _ _ h8)]; rfl
                  have h9b : ((wc16.setCell ⟨wc12.heap.size, 0, none⟩ (.string k)).setCell ⟨wc12.heap.size, 1, none⟩ (.string kb)).heap[wc1.heap.size]? = some (.cells #[.string ⟨#[]⟩, .string ⟨#[]⟩] 23) := by rw [heap_setCell_other _ _ _ _ (by show wc1.heap.size ≠ wc12.heap.size; omega), heap_setCell_other _ _ _ _ (by show wc1.heap.size ≠ wc12.heap.size; omega)]; exact h9
                  have hFs := Fr.setCell (Fr.setCell hHeld.2.2 (p := ⟨wc12.heap.size, 0, none⟩) (fun e => by have e1 : wc12.heap.size < w2.heap.size := e; omega) (.string k)) (p := ⟨wc12.heap.size, 1, none⟩) (fun e => by have e1 : wc12.heap.size < w2.heap.size := e; omega) (.string kb)
                  refine wpAnyH_ready (rs := [7]) (by kernel_rfl) (by simp) ?_
                  refine AllReadyH.cons rfl (fun K hK => ?_) AllReadyH.nil
                  go_simp
                  refine hK.out _ _ ?_ (fun hHeld => ?_)
                  · exact HS.out _ hFs
                  clear hK K c80 c81 f80 f81
                  try simp only [Act.put, List.setIfInBounds_toArray, List.set_cons_zero, List.set_cons_succ]
                  generalize (wc16.setCell ⟨wc12.heap.size, 0, none⟩ (.string k)).setCell ⟨wc12.heap.size, 1, none⟩ (.string kb) = wD at *
                  have c90 := cellH h9b 0 rfl
                  have c91 := cellH h9b 1 rfl
                  have f90 := frozen_of_row wD wc1.heap.size 0 _ _ h9b
                  have f91 := frozen_of_row wD wc1.heap.size 1 _ _ h9b
                  have h9c : ((wD.setCell ⟨wc1.heap.size, 0, none⟩ (.string u.1)).setCell ⟨wc1.heap.size, 1, none⟩ (.string u.2)).heap[wc1.heap.size]? = some (.cells #[.string u.1, .string u.2] 23 (0, 0)) := by rw [heap_setCell_same _ _ 1 _ _ _ (heap_setCell_same _ _ 0 _ _ _ h9b)]; rfl
                  have h8c : ((wD.setCell ⟨wc1.heap.size, 0, none⟩ (.string u.1)).setCell ⟨wc1.heap.size, 1, none⟩ (.string u.2)).heap[wc12.heap.size]? = some (.cells #[.string k, .string kb] 23 (0, 0)) := by rw [heap_setCell_other _ _ _ _ (by show wc12.heap.size ≠ wc1.heap.size; omega), heap_setCell_other _ _ _ _ (by show wc12.heap.size ≠ wc1.heap.size; omega)]; exact h8b
                  have hFt := Fr.setCell (Fr.setCell hHeld.2.2 (p := ⟨wc1.heap.size, 0, none⟩) (fun e => by have e1 : wc1.heap.size < w2.heap.size := e; omega) (.string u.1)) (p := ⟨wc1.heap.size, 1, none⟩) (fun e => by have e1 : wc1.heap.size < w2.heap.size := e; omega) (.string u.2)
                  refine wpAnyH_ready (rs := [8]) (by kernel_rfl) (by simp) ?_
                  refine AllReadyH.cons rfl (fun K hK => ?_) AllReadyH.nil
                  go_simp
                  refine hK.out _ _ ?_ (fun hHeld => ?_)
                  · exact HS.out _ hFt
                  clear hK K
                  try simp only [Act.put, List.setIfInBounds_toArray, List.set_cons_zero, List.set_cons_succ]
                  refine wpAnyH_done (by kernel_rfl) ?_ _
                  exact ⟨wc12.heap.size, wc1.heap.size, rfl, cellH h8c 0 rfl, cellH h8c 1 rfl, cellH h9c 0 rfl, cellH h9c 1 rfl, hHeld.2.2⟩
                exact AllReadyH.nil
              exact AllReadyH.nil
            exact AllReadyH.nil
          refine AllReadyH.cons rfl (fun K hK => ?_) ?_
          · go_simp
            have hF := hHeld.2.2.alloc (.cells #[.string ⟨#[]⟩, .string ⟨#[]⟩] 23)
            have hg8 := hHeld.2.2.size
            have h8 : (w2d.alloc (.cells #[.string ⟨#[]⟩, .string ⟨#[]⟩] 23)).heap[w2d.heap.size]? = some (.cells #[.string ⟨#[]⟩, .string ⟨#[]⟩] 23) := heap_alloc_new _ _
            refine hK.out _ _ ?_ (fun hHeld => ?_)
            · exact HS.out _ hF
            clear hK K hF
            try simp only [Act.put, List.setIfInBounds_toArray, List.set_cons_zero, List.set_cons_succ]
            generalize w2d.alloc (.cells #[.string ⟨#[]⟩, .string ⟨#[]⟩] 23) = wc17 at *
            refine wpAnyH_ready (rs := [1, 6]) (by kernel_rfl) (by simp) ?_
            refine AllReadyH.cons rfl (fun K hK => ?_) ?_
            · go_simp
              refine Calls.mono (HOn.out hks _) ?_
              rintro e wc18 ⟨rfl, hX⟩
              have hF := hHeld.2.2.trans hX (fun _ _ e => e)
              have hsz := hX.size
              replace h8 := (hX.block _ (Array.getElem?_eq_some_iff.1 h8).1 (fun e => e)).trans h8
              refine hK.out _ _ ?_ (fun hHeld => ?_)
              · exact HS.out _ hF
              clear hK K hX hF
              try simp only [Act.put, List.setIfInBounds_toArray, List.set_cons_zero, List.set_cons_succ]
              refine wpAnyH_ready (rs := [4, 6]) (by kernel_rfl) (by simp) ?_
              refine AllReadyH.cons rfl (fun K hK => ?_) ?_
              · go_simp
                refine Calls.mono (HUp.out hks _) ?_
                rintro e wc19 ⟨rfl, hX⟩
                have hF := hHeld.2.2.trans hX (fun _ _ e => e)
                have hsz := hX.size
                replace h8 := (hX.block _ (Array.getElem?_eq_some_iff.1 h8).1 (fun e => e)).trans h8
                refine hK.out _ _ ?_ (fun hHeld => ?_)
                · exact HS.out _ hF
                clear hK K hX hF
                try simp only [Act.put, List.setIfInBounds_toArray, List.set_cons_zero, List.set_cons_succ]
                refine wpAnyH_ready (rs := [6]) (by kernel_rfl) (by simp) ?_
                refine AllReadyH.cons rfl (fun K hK => ?_) ?_
                · go_simp
                  have hF := hHeld.2.2.alloc (.cells #[.string ⟨#[]⟩, .string ⟨#[]⟩] 23)
                  have hg9 := hHeld.2.2.size
                  have hlt := (Array.getElem?_eq_some_iff.1 h8).1
                  replace h8 := (Below.heap_alloc wc19 (.cells #[.string ⟨#[]⟩, .string ⟨#[]⟩] 23) _ hlt).trans h8
                  have h9 : (wc19.alloc (.cells #[.string ⟨#[]⟩, .string ⟨#[]⟩] 23)).heap[wc19.heap.size]? = some (.cells #[.string ⟨#[]⟩, .string ⟨#[]⟩] 23) := heap_alloc_new _ _
                  refine hK.out _ _ ?_ (fun hHeld => ?_)
                  · exact HS.out _ hF
                  clear hK K hF
                  try simp only [Act.put, List.setIfInBounds_toArray, List.set_cons_zero, List.set_cons_succ]
                  generalize wc19.alloc (.cells #[.string ⟨#[]⟩, .string ⟨#[]⟩] 23) = wc20 at *
                  have c80 := cellH h8 0 rfl
                  have c81 := cellH h8 1 rfl
                  have f80 := frozen_of_row wc20 w2d.heap.size 0 _ _ h8
                  have f81 := frozen_of_row wc20 w2d.heap.size 1 _ _ h8
                  have h8b : ((wc20.setCell ⟨w2d.heap.size, 0, none⟩ (.string k)).setCell ⟨w2d.heap.size, 1, none⟩ (.string kb)).heap[w2d.heap.size]? = some (.cells #[.string k, .string kb] 23 (0, 0)) := by rw [heap_setCell_same _ _ 1 _ _ _ (heap_setCell_same _ _ 0 _ _ _ h8)]; rfl
                  have h9b : ((wc20.setCell ⟨w2d.heap.size, 0, none⟩ (.string k)).setCell ⟨w2d.heap.size, 1, none⟩ (.string kb)).heap[wc19.heap.size]? = some (.cells #[.string ⟨#[]⟩, .string ⟨#[]⟩] 23) := by rw [heap_setCell_other _ _ _ _ (by show wc19.heap.size ≠ w2d.heap.size; omega), heap_setCell_other _ _ _ _ (by show wc19.heap.size ≠ w2d.heap.size; omega)]; exact h9
                  have hFs := Fr.setCell (Fr.setCell hHeld.2.2 (p := ⟨w2d.heap.size, 0, none⟩) (fun e => by have e1 : w2d.heap.size < w2.heap.size := e; omega) (.string k)) (p := ⟨w2d.heap.size, 1, none⟩) (fun e => by have e1 : w2d.heap.size < w2.heap.size := e; omega) (.string kb)
                  refine wpAnyH_ready (rs := [7]) (by kernel_rfl) (by simp) ?_
                  refine AllReadyH.cons rfl (fun K hK => ?_) AllReadyH.nil
                  go_simp
                  refine hK.out _ _ ?_ (fun hHeld => ?_)
                  · exact HS.out _ hFs
                  clear hK K c80 c81 f80 f81
                  try simp only [Act.put, List.setIfInBounds_toArray, List.set_cons_zero, List.set_cons_succ]
                  generalize (wc20.setCell ⟨w2d.heap.size, 0, none⟩ (.string k)).setCell ⟨w2d.heap.size, 1, none⟩ (.string kb) = wD at *
                  have c90 := cellH h9b 0 rfl
                  have c91 := cellH h9b 1 rfl
                  have f90 := frozen_of_row wD wc19.heap.size 0 _ _ h9b
                  have f91 := frozen_of_row wD wc19.heap.size 1 _ _ h9b
                  have h9c : ((wD.setCell ⟨wc19.heap.size, 0, none⟩ (.string u.1)).setCell ⟨wc19.heap.size, 1, none⟩ (.string u.2)).heap[wc19.heap.size]? = some (.cells #[.string u.1, .string u.2] 23 (0, 0)) := by rw [heap_setCell_same _ _ 1 _ _ _ (heap_setCell_same _ _ 0 _ _ _ h9b)]; rfl
                  have h8c : ((wD.setCell ⟨wc19.heap.size, 0, none⟩ (.string u.1)).setCell ⟨wc19.heap.size, 1, none⟩ (.string u.2)).heap[w2d.heap.size]? = some (.cells #[.string k, .string kb] 23 (0, 0)) := by rw [heap_setCell_other _ _ _ _ (by show w2d.heap.size ≠ wc19.heap.size; omega), heap_setCell_other _ _ _ _ (by show w2d.heap.size ≠ wc19.heap.size; omega)]; exact h8b
                  have hFt := Fr.setCell (Fr.setCell hHeld.2.2 (p := ⟨wc19.heap.size, 0, none⟩) (fun e => by have e1 : wc19.heap.size < w2.heap.size := e; omega) (.string u.1)) (p := ⟨wc19.heap.size, 1, none⟩) (fun e => by have e1 : wc19.heap.size < w2.heap.size := e; omega) (.string u.2)
                  refine wpAnyH_ready (rs := [8]) (by kernel_rfl) (by simp) ?_
                  refine AllReadyH.cons rfl (fun K hK => ?_) AllReadyH.nil
                  go_simp
                  refine hK.out _ _ ?_ (fun hHeld => ?_)
                  · exact HS.out _ hFt
                  clear hK K
                  try simp only [Act.put, List.setIfInBounds_toArray, List.set_cons_zero, List.set_cons_succ]
                  refine wpAnyH_done (by kernel_rfl) ?_ _
                  exact ⟨w2d.heap.size, wc19.heap.size, rfl, cellH h8c 0 rfl, cellH h8c 1 rfl, cellH h9c 0 rfl, cellH h9c 1 rfl, hHeld.2.2⟩
                exact AllReadyH.nil
              refine AllReadyH.cons rfl (fun K hK => ?_) ?_
              · go_simp
                have hF := hHeld.2.2.alloc (.cells #[.string ⟨#[]⟩, .string ⟨#[]⟩] 23)
                have hg9 := hHeld.2.2.size
                have hlt := (Array.getElem?_eq_some_iff.1 h8).1
                replace h8 := (Below.heap_alloc wc18 (.cells #[.string ⟨#[]⟩, .string ⟨#[]⟩] 23) _ hlt).trans h8
                have h9 : (wc18.alloc (.cells #[.string ⟨#[]⟩, .string ⟨#[]⟩] 23)).heap[wc18.heap.size]? = some (.cells #[.string ⟨#[]⟩, .string ⟨#[]⟩] 23) := heap_alloc_new _ _
                refine hK.out _ _ ?_ (fun hHeld => ?_)
                · exact HS.out _ hF
                clear hK K hF
                try simp only [Act.put, List.setIfInBounds_toArray, List.set_cons_zero, List.set_cons_succ]
                generalize wc18.alloc (.cells #[.string ⟨#[]⟩, .string ⟨#[]⟩] 23) = wc21 at *
                refine wpAnyH_ready (rs := [4]) (by kernel_rfl) (by simp) ?_
                refine AllReadyH.cons rfl (fun K hK => ?_) ?_
                · go_simp
                  refine Calls.mono (HUp.out hks _) ?_
                  rintro e wc22 ⟨rfl, hX⟩
                  have hF := hHeld.2.2.trans hX (fun _ _ e => e)
                  have hsz := hX.size
                  replace h8 := (hX.block _ (Array.getElem?_eq_some_iff.1 h8).1 (fun e => e)).trans h8
                  replace h9 := (hX.block _ (Array.getElem?_eq_some_iff.1 h9).1 (fun e => e)).trans h9
                  refine hK.out _ _ ?_ (fun hHeld => ?_)
                  · exact HS.out _ hF
                  clear hK K hX hF
                  try simp only [Act.put, List.setIfInBounds_toArray, List.set_cons_zero, List.set_cons_succ]
                  have c80 := cellH h8 0 rfl
                  have c81 := cellH h8 1 rfl
                  have f80 := frozen_of_row wc22 w2d.heap.size 0 _ _ h8
                  have f81 := frozen_of_row wc22 w2d.heap.size 1 _ _ h8
                  have h8b : ((wc22.setCell ⟨w2d.heap.size, 0, none⟩ (.string k)).setCell ⟨w2d.heap.size, 1, none⟩ (.string kb)).heap[w2d.heap.size]? = some (.cells #[.string k, .string kb] 23 (0, 0)) := by rw [heap_setCell_same _ _ 1 _ _ _ (heap_setCell_same _ _ 0 _ _ _ h8)]; rfl
                  have h9b : ((wc22.setCell ⟨w2d.heap.size, 0, none⟩ (.string k)).setCell ⟨w2d.heap.size, 1, none⟩ (.string kb)).heap[wc18.heap.size]? = some (.cells #[.string ⟨#[]⟩, .string ⟨#[]⟩] 23) := by rw [heap_setCell_other _ _ _ _ (by show wc18.heap.size ≠ w2d.heap.size; omega), heap_setCell_other _ _ _ _ (by show wc18.heap.size ≠ w2d.heap.size; omega)]; exact h9
                  have hFs := Fr.setCell (Fr.setCell hHeld.2.2 (p := ⟨w2d.heap.size, 0, none⟩) (fun e => by have e1 : w2d.heap.size < w2.heap.size := e; omega) (.string k)) (p := ⟨w2d.heap.size, 1, none⟩) (fun e => by have e1 : w2d.heap.size < w2.heap.size := e; omega) (.string kb)
                  refine wpAnyH_ready (rs := [7]) (by kernel_rfl) (by simp) ?_
                  refine AllReadyH.cons rfl (fun K hK => ?_) AllReadyH.nil
                  go_simp
                  refine hK.out _ _ ?_ (fun hHeld => ?_)
                  · exact HS.out _ hFs
                  clear hK K c80 c81 f80 f81
                  try simp only [Act.put, List.setIfInBounds_toArray, List.set_cons_zero, List.set_cons_succ]
                  generalize (wc22.setCell ⟨w2d.heap.size, 0, none⟩ (.string k)).setCell ⟨w2d.heap.size, 1, none⟩ (.string kb) = wD at *
                  have c90 := cellH h9b 0 rfl
                  have c91 := cellH h9b 1 rfl
                  have f90 := frozen_of_row wD wc18.heap.size 0 _ _ h9b
                  have f91 := frozen_of_row wD wc18.heap.size 1 _ _ h9b
                  have h9c : ((wD.setCell ⟨wc18.heap.size, 0, none⟩ (.string u.1)).setCell ⟨wc18.heap.size, 1, none⟩ (.string u.2)).heap[wc18.heap.size]? = some (.cells #[.string u.1, .string u.2] 23 (0, 0)) := by rw [heap_setCell_same _ _ 1 _ _ _ (heap_setCell_same _ _ 0 _ _ _ h9b)]; rfl
                  have h8c : ((wD.setCell ⟨wc18.heap.size, 0, none⟩ (.string u.1)).setCell ⟨wc18.heap.size, 1, none⟩ (.string u.2)).heap[w2d.heap.size]? = some (.cells #[.string k, .string kb] 23 (0, 0)) := by rw [heap_setCell_other _ _ _ _ (by show w2d.heap.size ≠ wc18.heap.size; omega), heap_setCell_other _ _ _ _ (by show w2d.heap.size ≠ wc18.heap.size; omega)]; exact h8b
                  have hFt := Fr.setCell (Fr.setCell hHeld.2.2 (p := ⟨wc18.heap.size, 0, none⟩) (fun e => by have e1 : wc18.heap.size < w2.heap.size := e; omega) (.string u.1)) (p := ⟨wc18.heap.size, 1, none⟩) (fun e => by have e1 : wc18.heap.size < w2.heap.size := e; omega) (.string u.2)
                  refine wpAnyH_ready (rs := [8]) (by kernel_rfl) (by simp) ?_
                  refine AllReadyH.cons rfl (fun K hK => ?_) AllReadyH.nil
                  go_simp
                  refine hK.out _ _ ?_ (fun hHeld => ?_)
                  · exact HS.out _ hFt
                  clear hK K
                  try simp only [Act.put, List.setIfInBounds_toArray, List.set_cons_zero, List.set_cons_succ]
                  refine wpAnyH_done (by kernel_rfl) ?_ _
                  exact ⟨w2d.heap.size, wc18.heap.size, rfl, cellH h8c 0 rfl, cellH h8c 1 rfl, cellH h9c 0 rfl, cellH h9c 1 rfl, hHeld.2.2⟩
                exact AllReadyH.nil
              exact AllReadyH.nil
            refine AllReadyH.cons rfl (fun K hK => ?_) ?_
            · go_simp
              have hF := hHeld.2.2.alloc (.cells #[.string ⟨#[]⟩, .string ⟨#[]⟩] 23)
              have hg9 := hHeld.2.2.size
              have hlt := (Array.getElem?_eq_some_iff.1 h8).1
              replace h8 := (Below.heap_alloc wc17 (.cells #[.string ⟨#[]⟩, .string ⟨#[]⟩] 23) _ hlt).trans h8
              have h9 : (wc17.alloc (.cells #[.string ⟨#[]⟩, .string ⟨#[]⟩] 23)).heap[wc17.heap.size]? = some (.cells #[.string ⟨#[]⟩, .string ⟨#[]⟩] 23) := heap_alloc_new _ _
              refine hK.out _ _ ?_ (fun hHeld => ?_)
              · exact HS.out _ hF
              clear hK K hF
              try simp only [Act.put, List.setIfInBounds_toArray, List.set_cons_zero, List.set_cons_succ]
              generalize wc17.alloc (.cells #[.string ⟨#[]⟩, .string ⟨#[]⟩] 23) = wc23 at *
              refine wpAnyH_ready (rs := [1]) (by kernel_rfl) (by simp) ?_
              refine AllReadyH.cons rfl (fun K hK => ?_) ?_
              · go_simp
                refine Calls.mono (HOn.out hks _) ?_
                rintro e wc24 ⟨rfl, hX⟩
                have hF := hHeld.2.2.trans hX (fun _ _ e => e)
                have hsz := hX.size
                replace h8 := (hX.block _ (Array.getElem?_eq_some_iff.1 h8).1 (fun e => e)).trans h8
                replace h9 := (hX.block _ (Array.getElem?_eq_some_iff.1 h9).1 (fun e => e)).trans h9
                refine hK.out _ _ ?_ (fun hHeld => ?_)
                · exact HS.out _ hF
                clear hK K hX hF
                try simp only [Act.put, List.setIfInBounds_toArray, List.set_cons_zero, List.set_cons_succ]
                refine wpAnyH_ready (rs := [4]) (by kernel_rfl) (by simp) ?_
                refine AllReadyH.cons rfl (fun K hK => ?_) ?_
                · go_simp
                  refine Calls.mono (HUp.out hks _) ?_
                  rintro e wc25 ⟨rfl, hX⟩
                  have hF := hHeld.2.2.trans hX (fun _ _ e => e)
                  have hsz := hX.size
                  replace h8 := (hX.block _ (Array.getElem?_eq_some_iff.1 h8).1 (fun e => e)).trans h8
                  replace h9 := (hX.block _ (Array.getElem?_eq_some_iff.1 h9).1 (fun e => e)).trans h9
                  refine hK.out _ _ ?_ (fun hHeld => ?_)
                  · exact HS.out _ hF
                  clear hK K hX hF
                  try simp only [Act.put, List.setIfInBounds_toArray, List.set_cons_zero, List.set_cons_succ]
                  have c80 := cellH h8 0 rfl
                  have c81 := cellH h8 1 rfl
                  have f80 := frozen_of_row wc25 w2d.heap.size 0 _ _ h8
                  have f81 := frozen_of_row wc25 w2d.heap.size 1 _ _ h8
                  have h8b : ((wc25.setCell ⟨w2d.heap.size, 0, none⟩ (.string k)).setCell ⟨w2d.heap.size, 1, none⟩ (.string kb)).heap[w2d.heap.size]? = some (.cells #[.string k, .string kb] 23 (0, 0)) := by rw [heap_setCell_same _ _ 1 _ _ _ (heap_setCell_same _ _ 0 _ _ _ h8)]; rfl
                  have h9b : ((wc25.setCell ⟨w2d.heap.size, 0, none⟩ (.string k)).setCell ⟨w2d.heap.size, 1, none⟩ (.string kb)).heap[wc17.heap.size]? = some (.cells #[.string ⟨#[]⟩, .string ⟨#[]⟩] 23) := by rw [heap_setCell_other _ _ _ _ (by show wc17.heap.size ≠ w2d.heap.size; omega), heap_setCell_other _ _ _ _ (by show wc17.heap.size ≠ w2d.heap.size; omega)]; exact h9
                  have hFs := Fr.setCell (Fr.setCell hHeld.2.2 (p := ⟨w2d.heap.size, 0, none⟩) (fun e => by have e1 : w2d.heap.size < w2.heap.size := e; omega) (.string k)) (p := ⟨w2d.heap.size, 1, none⟩) (fun e => by have e1 : w2d.heap.size < w2.heap.size := e; omega) (.string kb)
                  refine wpAnyH_ready (rs := [7]) (by kernel_rfl) (by simp) ?_
                  refine AllReadyH.cons rfl (fun K hK => ?_) AllReadyH.nil
                  go_simp
                  refine hK.out _ _ ?_ (fun hHeld => ?_)
                  · exact HS.out _ hFs
                  clear hK K c80 c81 f80 f81
                  try simp only [Act.put, List.setIfInBounds_toArray, List.set_cons_zero, List.set_cons_succ]
                  generalize (wc25.setCell ⟨w2d.heap.size, 0, none⟩ (.string k)).setCell ⟨w2d.heap.size, 1, none⟩ (.string kb) = wD at *
                  have c90 := cellH h9b 0 rfl
                  have c91 := cellH h9b 1 rfl
                  have f90 := frozen_of_row wD wc17.heap.size 0 _ _ h9b
                  have f91 := frozen_of_row wD wc17.heap.size 1 _ _ h9b
                  have h9c : ((wD.setCell ⟨wc17.heap.size, 0, none⟩ (.string u.1)).setCell ⟨wc17.heap.size, 1, none⟩ (.string u.2)).heap[wc17.heap.size]? = some (.cells #[.string u.1, .string u.2] 23 (0, 0)) := by rw [heap_setCell_same _ _ 1 _ _ _ (heap_setCell_same _ _ 0 _ _ _ h9b)]; rfl
                  have h8c : ((wD.setCell ⟨wc17.heap.size, 0, none⟩ (.string u.1)).setCell ⟨wc17.heap.size, 1, none⟩ (.string u.2)).heap[w2d.heap.size]? = some (.cells #[.string k, .string kb] 23 (0, 0)) := by rw [heap_setCell_other _ _ _ _ (by show w2d.heap.size ≠ wc17.heap.size; omega), heap_setCell_other _ _ _ _ (by show w2d.heap.size ≠ wc17.heap.size; omega)]; exact h8b
                  have hFt := Fr.setCell (Fr.setCell hHeld.2.2 (p := ⟨wc17.heap.size, 0, none⟩) (fun e => by have e1 : wc17.heap.size < w2.heap.size := e; omega) (.string u.1)) (p := ⟨wc17.heap.size, 1, none⟩) (fun e => by have e1 : wc17.heap.size < w2.heap.size := e; omega) (.string u.2)
                  refine wpAnyH_ready (rs := [8]) (by kernel_rfl) (by simp) ?_
                  refine AllReadyH.cons rfl (fun K hK => ?_) AllReadyH.nil
                  go_simp
                  refine hK.out _ _ ?_ (fun hHeld => ?_)
                  · exact HS.out _ hFt
                  clear hK K
                  try simp only [Act.put, List.setIfInBounds_toArray, List.set_cons_zero, List.set_cons_succ]
                  refine wpAnyH_done (by kernel_rfl) ?_ _
                  exact ⟨w2d.heap.size, wc17.heap.size, rfl, cellH h8c 0 rfl, cellH h8c 1 rfl, cellH h9c 0 rfl, cellH h9c 1 rfl, hHeld.2.2⟩
                exact AllReadyH.nil
              exact AllReadyH.nil
            exact AllReadyH.nil
          refine AllReadyH.cons rfl (fun K hK => ?_) ?_
          · go_simp
            have hF := hHeld.2.2.alloc (.cells #[.string ⟨#[]⟩, .string ⟨#[]⟩] 23)
            have hg9 := hHeld.2.2.size
            have h9 : (w2d.alloc (.cells #[.string ⟨#[]⟩, .string ⟨#[]⟩] 23)).heap[w2d.heap.size]? = some (.cells #[.string ⟨#[]⟩, .string ⟨#[]⟩] 23) := heap_alloc_new _ _
            refine hK.out _ _ ?_ (fun hHeld => ?_)
            · exact HS.out _ hF
            clear hK K hF
            try simp only [Act.put, List.setIfInBounds_toArray, List.set_cons_zero, List.set_cons_succ]
            generalize w2d.alloc (.cells #[.string ⟨#[]⟩, .string ⟨#[]⟩] 23) = wc26 at *
            refine wpAnyH_ready (rs := [1, 5]) (by kernel_rfl) (by simp) ?_
            refine AllReadyH.cons rfl (fun K hK => ?_) ?_
            · go_simp
              refine Calls.mono (HOn.out hks _) ?_
              rintro e wc27 ⟨rfl, hX⟩
              have hF := hHeld.2.2.trans hX (fun _ _ e => e)
              have hsz := hX.size
              replace h9 := (hX.block _ (Array.getElem?_eq_some_iff.1 h9).1 (fun e => e)).trans h9
              refine hK.out _ _ ?_ (fun hHeld => ?_)
              · exact HS.out _ hF
              clear hK K hX hF
              try simp only [Act.put, List.setIfInBounds_toArray, List.set_cons_zero, List.set_cons_succ]
              refine wpAnyH_ready (rs := [4, 5]) (by kernel_rfl) (by simp) ?_
              refine AllReadyH.cons rfl (fun K hK => ?_) ?_
              · go_simp
                refine Calls.mono (HUp.out hks _) ?_
                rintro e wc28 ⟨rfl, hX⟩
                have hF := hHeld.2.2.trans hX (fun _ _ e => e)
                have hsz := hX.size
                replace h9 := (hX.block _ (Array.getElem?_eq_some_iff.1 h9).1 (fun e => e)).trans h9
                refine hK.out _ _ ?_ (fun hHeld => ?_)
                · exact HS.out _ hF
                clear hK K hX hF
                try simp only [Act.put, List.setIfInBounds_toArray, List.set_cons_zero, List.set_cons_succ]
                refine wpAnyH_ready (rs := [5]) (by kernel_rfl) (by simp) ?_
                refine AllReadyH.cons rfl (fun K hK => ?_) ?_
                · go_simp
                  have hF := hHeld.2.2.alloc (.cells #[.string ⟨#[]⟩, .string ⟨#[]⟩] 23)
                  have hg8 := hHeld.2.2.size
                  have hlt := (Array.getElem?_eq_some_iff.1 h9).1
                  replace h9 := (Below.heap_alloc wc28 (.cells #[.string ⟨#[]⟩, .string ⟨#[]⟩] 23) _ hlt).trans h9
                  have h8 : (wc28.alloc (.cells #[.string ⟨#[]⟩, .string ⟨#[]⟩] 23)).heap[wc28.heap.size]? = some (.cells #[.string ⟨#[]⟩, .string ⟨#[]⟩] 23) := heap_alloc_new _ _
                  refine hK.out _ _ ?_ (fun hHeld => ?_)
                  · exact HS.out _ hF
                  clear hK K hF
                  try simp only [Act.put, List.setIfInBounds_toArray, List.set_cons_zero, List.set_cons_succ]
                  generalize wc28.alloc (.cells #[.string ⟨#[]⟩, .string ⟨#[]⟩] 23) = wc29 at *
                  have c80 := cellH h8 0 rfl
                  have c81 := cellH h8 1 rfl
                  have f80 := frozen_of_row wc29 wc28.heap.size 0 _ _ h8
                  have f81 := frozen_of_row wc29 wc28.heap.size 1 _ _ h8
                  have h8b : ((wc29.setCell ⟨wc28.heap.size, 0, none⟩ (.string k)).setCell ⟨wc28.heap.size, 1, none⟩ (.string kb)).heap[wc28.heap.size]? = some (.cells #[.string k, .string kb] 23 (0, 0)) := by rw [heap_setCell_same _ _ 1 _ _ _ (heap_setCell_same _ _ 0 _ _ _ h8)]; rfl
                  have h9b : ((wc29.setCell ⟨wc28.heap.size, 0, none⟩ (.string k)).setCell ⟨wc28.heap.size, 1, none⟩ (.string kb)).heap[w2d.heap.size]? = some (.cells #[.string ⟨#[]⟩, .string ⟨#[]⟩] 23) := by rw [heap_setCell_other _ _ _ _ (by show w2d.heap.size ≠ wc28.heap.size; omega), heap_setCell_other _ _ _ _ (by show w2d.heap.size ≠ wc28.heap.size; omega)]; exact h9
                  have hFs := Fr.setCell (Fr.setCell hHeld.2.2 (p := ⟨wc28.heap.size, 0, none⟩) (fun e => by have e1 : wc28.heap.size < w2.heap.size := e; omega) (.string k)) (p := ⟨wc28.heap.size, 1, none⟩) (fun e => by have e1 : wc28.heap.size < w2.heap.size := e; omega) (.string kb)
                  refine wpAnyH_ready (rs := [7]) (by kernel_rfl) (by simp) ?_
                  refine AllReadyH.cons rfl (fun K hK => ?_) AllReadyH.nil
                  go_simp
                  refine hK.out _ _ ?_ (fun hHeld => ?_)
                  · exact HS.out _ hFs
                  clear hK K c80 c81 f80 f81
                  try simp only [Act.put, List.setIfInBounds_toArray, List.set_cons_zero, List.set_cons_succ]
                  generalize (wc29.setCell ⟨wc28.heap.size, 0, none⟩ (.string k)).setCell ⟨wc28.heap.size, 1, none⟩ (.string kb) = wD at *
                  have c90 := cellH h9b 0 rfl
                  have c91 := cellH h9b 1 rfl
                  have f90 := frozen_of_row wD w2d.heap.size 0 _ _ h9b
                  have f91 := frozen_of_row wD w2d.heap.size 1 _ _ h9b
                  have h9c : ((wD.setCell ⟨w2d.heap.size, 0, none⟩ (.string u.1)).setCell ⟨w2d.heap.size, 1, none⟩ (.string u.2)).heap[w2d.heap.size]? = some (.cells #[.string u.1, .string u.2] 23 (0, 0)) := by rw [heap_setCell_same _ _ 1 _ _ _ (heap_setCell_same _ _ 0 _ _ _ h9b)]; rfl
                  have h8c : ((wD.setCell ⟨w2d.heap.size, 0, none⟩ (.string u.1)).setCell ⟨w2d.heap.size, 1, none⟩ (.string u.2)).heap[wc28.heap.size]? = some (.cells #[.string k, .string kb] 23 (0, 0)) := by rw [heap_setCell_other _ _ _ _ (by show wc28.heap.size ≠ w2d.heap.size; omega), heap_setCell_other _ _ _ _ (by show wc28.heap.size ≠ w2d.heap.size; omega)]; exact h8b
                  have hFt := Fr.setCell (Fr.setCell hHeld.2.2 (p := ⟨w2d.heap.size, 0, none⟩) (fun e => by have e1 : w2d.heap.size < w2.heap.size := e; omega) (.string u.1)) (p := ⟨w2d.heap.size, 1, none⟩) (fun e => by have e1 : w2d.heap.size < w2.heap.size := e; omega) (.string u.2)
                  refine wpAnyH_ready (rs := [8]) (by kernel_rfl) (by simp) ?_
                  refine AllReadyH.cons rfl (fun K hK => ?_) AllReadyH.nil
                  go_simp
                  refine hK.out _ _ ?_ (fun hHeld => ?_)
                  · exact HS.out _ hFt
                  clear hK K
                  try simp only [Act.put, List.setIfInBounds_toArray, List.set_cons_zero, List.set_cons_succ]
                  refine wpAnyH_done (by kernel_rfl) ?_ _
                  exact ⟨wc28.heap.size, w2d.heap.size, rfl, cellH h8c 0 rfl, cellH h8c 1 rfl, cellH h9c 0 rfl, cellH h9c 1 rfl, hHeld.2.2⟩
                exact AllReadyH.nil
              refine AllReadyH.cons rfl (fun K hK => ?_) ?_
              · go_simp
                have hF := hHeld.2.2.alloc (.cells #[.string ⟨#[]⟩, .string ⟨#[]⟩] 23)
                have hg8 := hHeld.2.2.size
                have hlt := (Array.getElem?_eq_some_iff.1 h9).1
                replace h9 := (Below.heap_alloc wc27 (.cells #[.string ⟨#[]⟩, .string ⟨#[]⟩] 23) _ hlt).trans h9
                have h8 : (wc27.alloc (.cells #[.string ⟨#[]⟩, .string ⟨#[]⟩] 23)).heap[wc27.heap.size]? = some (.cells #[.string ⟨#[]⟩, .string ⟨#[]⟩] 23) := heap_alloc_new _ _
                refine hK.out _ _ ?_ (fun hHeld => ?_)
                · exact HS.out _ hF
                clear hK K hF
                try simp only [Act.put, List.setIfInBounds_toArray, List.set_cons_zero, List.set_cons_succ]
                generalize wc27.alloc (.cells #[.string ⟨#[]⟩, .string ⟨#[]⟩] 23) = wc30 at *
                refine wpAnyH_ready (rs := [4]) (by kernel_rfl) (by simp) ?_
                refine AllReadyH.cons rfl (fun K hK => ?_) ?_
                · go_simp
                  refine Calls.mono (HUp.out hks _) ?_
                  rintro e wc31 ⟨rfl, hX⟩
                  have hF := hHeld.2.2.trans hX (fun _ _ e => e)
                  have hsz := hX.size
                  replace h8 := (hX.block _ (Array.getElem?_eq_some_iff.1 h8).1 (fun e => e)).trans h8
                  replace h9 := (hX.block _ (Array.getElem?_eq_some_iff.1 h9).1 (fun e => e)).trans h9
                  refine hK.out _ _ ?_ (fun hHeld => ?_)
                  · exact HS.out _ hF
                  clear hK K hX hF
                  try simp only [Act.put, List.setIfInBounds_toArray, List.set_cons_zero, List.set_cons_succ]
                  have c80 := cellH h8 0 rfl
                  have c81 := cellH h8 1 rfl
                  have f80 := frozen_of_row wc31 wc27.heap.size 0 _ _ h8
                  have f81 := frozen_of_row wc31 wc27.heap.size 1 _ _ h8
                  have h8b : ((wc31.setCell ⟨wc27.heap.size, 0, none⟩ (.string k)).setCell ⟨wc27.heap.size, 1, none⟩ (.string kb)).heap[wc27.heap.size]? = some (.cells #[.string k, .string kb] 23 (0, 0)) := by rw [heap_setCell_same _ _ 1 _ _ _ (heap_setCell_same _ _ 0 _ _ _ h8)]; rfl
                  have h9b : ((wc31.setCell ⟨wc27.heap.size, 0, none⟩ (.string k)).setCell ⟨wc27.heap.size, 1, none⟩ (.string kb)).heap[w2d.heap.size]? = some (.cells #[.string ⟨#[]⟩, .string ⟨#[]⟩] 23) := by rw [heap_setCell_other _ _ _ _ (by show w2d.heap.size ≠ wc27.heap.size; omega), heap_setCell_other _ _ _ _ (by show w2d.heap.size ≠ wc27.heap.size; omega)]; exact h9
                  have hFs := Fr.setCell (Fr.setCell hHeld.2.2 (p := ⟨wc27.heap.size, 0, none⟩) (fun e => by have e1 : wc27.heap.size < w2.heap.size := e; omega) (.string k)) (p := ⟨wc27.heap.size, 1, none⟩) (fun e => by have e1 : wc27.heap.size < w2.heap.size := e; omega) (.string kb)
                  refine wpAnyH_ready (rs := [7]) (by kernel_rfl) (by simp) ?_
                  refine AllReadyH.cons rfl (fun K hK => ?_) AllReadyH.nil
                  go_simp
                  refine hK.out _ _ ?_ (fun hHeld => ?_)
                  · exact HS.out _ hFs
                  clear hK K c80 c81 f80 f81
                  try simp only [Act.put, List.setIfInBounds_toArray, List.set_cons_zero, List.set_cons_succ]
                  generalize (wc31.setCell ⟨wc27.heap.size, 0, none⟩ (.string k)).setCell ⟨wc27.heap.size, 1, none⟩ (.string kb) = wD at *
                  have c90 := cellH h9b 0 rfl
                  have c91 := cellH h9b 1 rfl
                  have f90 := frozen_of_row wD w2d.heap.size 0 _ _ h9b
                  have f91 := frozen_of_row wD w2d.heap.size 1 _ _ h9b
                  have h9c : ((wD.setCell ⟨w2d.heap.size, 0, none⟩ (.string u.1)).setCell ⟨w2d.heap.size, 1, none⟩ (.string u.2)).heap[w2d.heap.size]? = some (.cells #[.string u.1, .string u.2] 23 (0, 0)) := by rw [heap_setCell_same _ _ 1 _ _ _ (heap_setCell_same _ _ 0 _ _ _ h9b)]; rfl
                  have h8c : ((wD.setCell ⟨w2d.heap.size, 0, none⟩ (.string u.1)).setCell ⟨w2d.heap.size, 1, none⟩ (.string u.2)).heap[wc27.heap.size]? = some (.cells #[.string k, .string kb] 23 (0, 0)) := by rw [heap_setCell_other _ _ _ _ (by show wc27.heap.size ≠ w2d.heap.size; omega), heap_setCell_other _ _ _ _ (by show wc27.heap.size ≠ w2d.heap.size; omega)]; exact h8b
                  have hFt := Fr.setCell (Fr.setCell hHeld.2.2 (p := ⟨w2d.heap.size, 0, none⟩) (fun e => by have e1 : w2d.heap.size < w2.heap.size := e; omega) (.string u.1)) (p := ⟨w2d.heap.size, 1, none⟩) (fun e => by have e1 : w2d.heap.size < w2.heap.size := e; omega) (.string u.2)
                  refine wpAnyH_ready (rs := [8]) (by kernel_rfl) (by simp) ?_
                  refine AllReadyH.cons rfl (fun K hK => ?_) AllReadyH.nil
                  go_simp
                  refine hK.out _ _ ?_ (fun hHeld => ?_)
                  · exact HS.out _ hFt
                  clear hK K
                  try simp only [Act.put, List.setIfInBounds_toArray, List.set_cons_zero, List.set_cons_succ]
                  refine wpAnyH_done (by kernel_rfl) ?_ _
                  exact ⟨wc27.heap.size, w2d.heap.size, rfl, cellH h8c 0 rfl, cellH h8c 1 rfl, cellH h9c 0 rfl, cellH h9c 1 rfl, hHeld.2.2⟩
                exact AllReadyH.nil
              exact AllReadyH.nil
            refine AllReadyH.cons rfl (fun K hK => ?_) ?_
            · go_simp
              have hF := hHeld.2.2.alloc (.cells #[.string ⟨#[]⟩, .string ⟨#[]⟩] 23)
              have hg8 := hHeld.2.2.size
              have hlt := (Array.getElem?_eq_some_iff.1 h9).1
              replace h9 := (Below.heap_alloc wc26 (.cells #[.string ⟨#[]⟩, .string ⟨#[]⟩] 23) _ hlt).trans h9
              have h8 : (wc26.alloc (.cells #[.string ⟨#[]⟩, .string ⟨#[]⟩] 23)).heap[wc26.heap.size]? = some (.cells #[.string ⟨#[]⟩, .string ⟨#[]⟩] 23) := heap_alloc_new _ _
              refine hK.out _ _ ?_ (fun hHeld => ?_)
              · exact HS.out _ hF
              clear hK K hF
              try simp only [Act.put, List.setIfInBounds_toArray, List.set_cons_zero, List.set_cons_succ]
              generalize wc26.alloc (.cells #[.string ⟨#[]⟩, .string ⟨#[]⟩] 23) = wc32 at *
              refine wpAnyH_ready (rs := [1]) (by kernel_rfl) (by simp) ?_
              refine AllReadyH.cons rfl (fun K hK => ?_) ?_
              · go_simp
                refine Calls.mono (HOn.out hks _) ?_
                rintro e wc33 ⟨rfl, hX⟩
                have hF := hHeld.2.2.trans hX (fun _ _ e => e)
                have hsz := hX.size
                replace h8 := (hX.block _ (Array.getElem?_eq_some_iff.1 h8).1 (fun e => e)).trans h8
                replace h9 := (hX.block _ (Array.getElem?_eq_some_iff.1 h9).1 (fun e => e)).trans h9
                refine hK.out _ _ ?_ (fun hHeld => ?_)
                · exact HS.out _ hF
                clear hK K hX hF
                try simp only [Act.put, List.setIfInBounds_toArray, List.set_cons_zero, List.set_cons_succ]
                refine wpAnyH_ready (rs := [4]) (by kernel_rfl) (by simp) ?_
                refine AllReadyH.cons rfl (fun K hK => ?_) ?_
                · go_simp
                  refine Calls.mono (HUp.out hks _) ?_
                  rintro e wc34 ⟨rfl, hX⟩
                  have hF := hHeld.2.2.trans hX (fun _ _ e => e)
                  have hsz := hX.size
                  replace h8 := (hX.block _ (Array.getElem?_eq_some_iff.1 h8).1 (fun e => e)).trans h8
                  replace h9 := (hX.block _ (Array.getElem?_eq_some_iff.1 h9).1 (fun e => e)).trans h9
                  refine hK.out _ _ ?_ (fun hHeld => ?_)
                  · exact HS.out _ hF
                  clear hK K hX hF
                  try simp only [Act.put, List.setIfInBounds_toArray, List.set_cons_zero, List.set_cons_succ]
                  have c80 := cellH h8 0 rfl
                  have c81 := cellH h8 1 rfl
                  have f80 := frozen_of_row wc34 wc26.heap.size 0 _ _ h8
                  have f81 := frozen_of_row wc34 wc26.heap.size 1 _ _ h8
                  have h8b : ((wc34.setCell ⟨wc26.heap.size, 0, none⟩ (.string k)).setCell ⟨wc26.heap.size, 1, none⟩ (.string kb)).heap[wc26.heap.size]? = some (.cells #[.string k, .string kb] 23 (0, 0)) := by rw [heap_setCell_same _ _ 1 _ _ _ (heap_setCell_same _ _ 0 _ _ _ h8)]; rfl
                  have h9b : ((wc34.setCell ⟨wc26.heap.size, 0, none⟩ (.string k)).setCell ⟨wc26.heap.size, 1, none⟩ (.string kb)).heap[w2d.heap.size]? = some (.cells #[.string ⟨#[]⟩, .string ⟨#[]⟩] 23) := by rw [heap_setCell_other _ _ _ _ (by show w2d.heap.size ≠ wc26.heap.size; omega), heap_setCell_other _ _ _ _ (by show w2d.heap.size ≠ wc26.heap.size; omega)]; exact h9
                  have hFs := Fr.setCell (Fr.setCell hHeld.2.2 (p := ⟨wc26.heap.size, 0, none⟩) (fun e => by have e1 : wc26.heap.size < w2.heap.size := e; omega) (.string k)) (p := ⟨wc26.heap.size, 1, none⟩) (fun e => by have e1 : wc26.heap.size < w2.heap.size := e; omega) (.string kb)
                  refine wpAnyH_ready (rs := [7]) (by kernel_rfl) (by simp) ?_
                  refine AllReadyH.cons rfl (fun K hK => ?_) AllReadyH.nil
                  go_simp
                  refine hK.out _ _ ?_ (fun hHeld => ?_)
                  · exact HS.out _ hFs
                  clear hK K c80 c81 f80 f81
                  try simp only [Act.put, List.setIfInBounds_toArray, List.set_cons_zero, List.set_cons_succ]
                  generalize (wc34.setCell ⟨wc26.heap.size, 0, none⟩ (.string k)).setCell ⟨wc26.heap.size, 1, none⟩ (.string kb) = wD at *
                  have c90 := cellH h9b 0 rfl
                  have c91 := cellH h9b 1 rfl
                  have f90 := frozen_of_row wD w2d.heap.size 0 _ _ h9b
                  have f91 := frozen_of_row wD w2d.heap.size 1 _ _ h9b
                  have h9c : ((wD.setCell ⟨w2d.heap.size, 0, none⟩ (.string u.1)).setCell ⟨w2d.heap.size, 1, none⟩ (.string u.2)).heap[w2d.heap.size]? = some (.cells #[.string u.1, .string u.2] 23 (0, 0)) := by rw [heap_setCell_same _ _ 1 _ _ _ (heap_setCell_same _ _ 0 _ _ _ h9b)]; rfl
                  have h8c : ((wD.setCell ⟨w2d.heap.size, 0, none⟩ (.string u.1)).setCell ⟨w2d.heap.size, 1, none⟩ (.string u.2)).heap[wc26.heap.size]? = some (.cells #[.string k, .string kb] 23 (0, 0)) := by rw [heap_setCell_other _ _ _ _ (by show wc26.heap.size ≠ w2d.heap.size; omega), heap_setCell_other _ _ _ _ (by show wc26.heap.size ≠ w2d.heap.size; omega)]; exact h8b
                  have hFt := Fr.setCell (Fr.setCell hHeld.2.2 (p := ⟨w2d.heap.size, 0, none⟩) (fun e => by have e1 : w2d.heap.size < w2.heap.size := e; omega) (.string u.1)) (p := ⟨w2d.heap.size, 1, none⟩) (fun e => by have e1 : w2d.heap.size < w2.heap.size := e; omega) (.string u.2)
                  refine wpAnyH_ready (rs := [8]) (by kernel_rfl) (by simp) ?_
                  refine AllReadyH.cons rfl (fun K hK => ?_) AllReadyH.nil
                  go_simp
                  refine hK.out _ _ ?_ (fun hHeld => ?_)
                  · exact HS.out _ hFt
                  clear hK K
                  try simp only [Act.put, List.setIfInBounds_toArray, List.set_cons_zero, List.set_cons_succ]
                  refine wpAnyH_done (by kernel_rfl) ?_ _
                  exact ⟨wc26.heap.size, w2d.heap.size, rfl, cellH h8c 0 rfl, cellH h8c 1 rfl, cellH h9c 0 rfl, cellH h9c 1 rfl, hHeld.2.2⟩
                exact AllReadyH.nil
              exact AllReadyH.nil
            exact AllReadyH.nil
          exact AllReadyH.nil
        · intro p8 p9 w5 hR5
          obtain ⟨e0, e1, e2, e3, hW5⟩ := hR5
          try simp only [Act.put, List.setIfInBounds_toArray, List.set_cons_zero, List.set_cons_succ]
          go_wp2_with fail
          have HT := hideIt (show ∀ w' : World, Fr (fun _ => False) w5 w' → w'.cell? ⟨p8, 0, none⟩ = some (.string k) ∧ w'.cell? ⟨p8, 1, none⟩ = some (.string kb) ∧ w'.cell? ⟨p9, 0, none⟩ = some (.string u.1) ∧ w'.cell? ⟨p9, 1, none⟩ = some (.string u.2) ∧ w'.cell? ⟨w.heap.size, 0, none⟩ = some (.string s.1) ∧ w'.cell? ⟨w.heap.size, 1, none⟩ = some (.string s.2) ∧ Fr (fun _ => False) w5 w' from fun w' h => by
            obtain ⟨h0, h1⟩ := HC.out w' ((hW2.trans hW5 (fun _ _ e => e)).trans h (fun _ _ e => e))
            exact ⟨h.cell0 e0, h.cell0 e1, h.cell0 e2, h.cell0 e3, h0, h1, h⟩)
          have HFN := hideIt (HF0.out.trans (hW2.trans hW5 (fun _ _ e => e)) (fun _ _ e => e))
          clear HOn HUp HS hW5 hW2
          refine wp_region_held_drew (S := fun w' => w'.cell? ⟨p8, 0, none⟩ = some (.string k) ∧ w'.cell? ⟨p8, 1, none⟩ = some (.string kb) ∧ w'.cell? ⟨p9, 0, none⟩ = some (.string u.1) ∧ w'.cell? ⟨p9, 1, none⟩ = some (.string u.2) ∧ w'.cell? ⟨w.heap.size, 0, none⟩ = some (.string s.1) ∧ w'.cell? ⟨w.heap.size, 1, none⟩ = some (.string s.2) ∧ Fr (fun _ => False) w5 w') (by kernel_rfl) ?_ (fun hHeld => ?_)
          · exact HT.out _ (Fr.refl _ _).drew
          refine wpAnyH_take (i := 0) (v := ?v30) rfl (by kernel_rfl) (by kernel_rfl) (by kernel_rfl) (fun _ _ _ h => h) (Or.inl ⟨by kernel_rfl, ?hy30⟩) (by assumption) ?rest30
          case hy30 => intro w hSw; (try dsimp only at hSw); go_simp; (try with_reducible rfl)
          try simp only [Act.put, List.setIfInBounds_toArray, List.set_cons_zero, List.set_cons_succ]
          refine wpAnyH_take (i := 1) (v := ?v31) rfl (by kernel_rfl) (by kernel_rfl) (by kernel_rfl) (fun _ _ _ h => h) (Or.inl ⟨by kernel_rfl, ?hy31⟩) (by assumption) ?rest31
          case hy31 => intro w hSw; (try dsimp only at hSw); go_simp; (try with_reducible rfl)
          try simp only [Act.put, List.setIfInBounds_toArray, List.set_cons_zero, List.set_cons_succ]
          refine wpAnyH_take (i := 2) (v := ?v32) rfl (by kernel_rfl) (by kernel_rfl) (by kernel_rfl) (fun _ _ _ h => h) (Or.inl ⟨by kernel_rfl, ?hy32⟩) (by assumption) ?rest32
          case hy32 => intro w hSw; (try dsimp only at hSw); go_simp; (try with_reducible rfl)
          try simp only [Act.put, List.setIfInBounds_toArray, List.set_cons_zero, List.set_cons_succ]
          refine wpAnyH_take (i := 3) (v := ?v33) rfl (by kernel_rfl) (by kernel_rfl) (by kernel_rfl) (fun _ _ _ h => h) (Or.inl ⟨by kernel_rfl, ?hy33⟩) (by assumption) ?rest33
          case hy33 => intro w hSw; (try dsimp only at hSw); go_simp; (try with_reducible rfl)
          try simp only [Act.put, List.setIfInBounds_toArray, List.set_cons_zero, List.set_cons_succ]
          refine wpAnyH_ready (rs := [4]) (by kernel_rfl) (by simp) ?_
          refine AllReadyH.cons rfl (fun K hK => ?_) AllReadyH.nil
          go_simp
          refine Calls.mono (H1.out _) ?_
          rintro e w21 ⟨rfl, hX21⟩
          have hW21 : Fr (fun _ => False) w5 w21 := hHeld.2.2.2.2.2.2.trans hX21 (fun _ _ e => e)
          clear hX21
          refine hK.out _ _ ?_ (fun hHeld => ?_)
          · exact HT.out _ hW21
          clear hK K
          try simp only [Act.put, List.setIfInBounds_toArray, List.set_cons_zero, List.set_cons_succ]
          refine wpAnyH_take (i := 5) (v := ?v34) rfl (by kernel_rfl) (by kernel_rfl) (by kernel_rfl) (fun _ _ _ h => h) (Or.inl ⟨by kernel_rfl, ?hy34⟩) (by assumption) ?rest34
          case hy34 => intro w hSw; (try dsimp only at hSw); go_simp; (try with_reducible rfl)
          try simp only [Act.put, List.setIfInBounds_toArray, List.set_cons_zero, List.set_cons_succ]
          refine wpAnyH_take (i := 6) (v := ?v35) rfl (by kernel_rfl) (by kernel_rfl) (by kernel_rfl) (fun _ _ _ h => h) (Or.inl ⟨by kernel_rfl, ?hy35⟩) (by assumption) ?rest35
          case hy35 => intro w hSw; (try dsimp only at hSw); go_simp; (try with_reducible rfl)
          try simp only [Act.put, List.setIfInBounds_toArray, List.set_cons_zero, List.set_cons_succ]
          refine wpAnyH_take (i := 7) (v := ?v36) rfl (by kernel_rfl) (by kernel_rfl) (by kernel_rfl) (fun _ _ _ h => h) (Or.inl ⟨by kernel_rfl, ?hy36⟩) (by assumption) ?rest36
          case hy36 => intro w hSw; (try dsimp only at hSw); go_simp; (try with_reducible rfl)
          try simp only [Act.put, List.setIfInBounds_toArray, List.set_cons_zero, List.set_cons_succ]
          refine wpAnyH_take (i := 8) (v := ?v37) rfl (by kernel_rfl) (by kernel_rfl) (by kernel_rfl) (fun _ _ _ h => h) (Or.inl ⟨by kernel_rfl, ?hy37⟩) (by assumption) ?rest37
          case hy37 => intro w hSw; (try dsimp only at hSw); go_simp; (try with_reducible rfl)
          try simp only [Act.put, List.setIfInBounds_toArray, List.set_cons_zero, List.set_cons_succ]
          refine wpAnyH_take (i := 10) (v := ?v38) rfl (by kernel_rfl) (by kernel_rfl) (by kernel_rfl) (fun _ _ _ h => h) (Or.inl ⟨by kernel_rfl, ?hy38⟩) (by assumption) ?rest38
          case hy38 => intro w hSw; (try dsimp only at hSw); go_simp; (try with_reducible rfl)
          try simp only [Act.put, List.setIfInBounds_toArray, List.set_cons_zero, List.set_cons_succ]
          refine wpAnyH_take (i := 11) (v := ?v39) rfl (by kernel_rfl) (by kernel_rfl) (by kernel_rfl) (fun _ _ _ h => h) (Or.inl ⟨by kernel_rfl, ?hy39⟩) (by assumption) ?rest39
          case hy39 => intro w hSw; (try dsimp only at hSw); go_simp; (try with_reducible rfl)
          try simp only [Act.put, List.setIfInBounds_toArray, List.set_cons_zero, List.set_cons_succ]
          refine wpAnyH_take (i := 12) (v := ?v40) rfl (by kernel_rfl) (by kernel_rfl) (by kernel_rfl) (fun _ _ _ h => h) (Or.inl ⟨by kernel_rfl, ?hy40⟩) (by assumption) ?rest40
          case hy40 => intro w hSw; (try dsimp only at hSw); go_simp; (try with_reducible rfl)
          try simp only [Act.put, List.setIfInBounds_toArray, List.set_cons_zero, List.set_cons_succ]
          refine wpAnyH_ready (rs := [9]) (by kernel_rfl) (by simp) ?_
          refine AllReadyH.cons rfl (fun K hK => ?_) AllReadyH.nil
          go_simp
          refine Calls.mono (H2.out _) ?_
          rintro e w22 ⟨rfl, hX22⟩
          have hW22 : Fr (fun _ => False) w5 w22 := hHeld.2.2.2.2.2.2.trans hX22 (fun _ _ e => e)
          clear hX22
          refine hK.out _ _ ?_ (fun hHeld => ?_)
          · exact HT.out _ hW22
          clear hK K
          try simp only [Act.put, List.setIfInBounds_toArray, List.set_cons_zero, List.set_cons_succ]
          refine wpAnyH_take (i := 13) (v := ?v41) rfl (by kernel_rfl) (by kernel_rfl) (by kernel_rfl) (fun _ _ _ h => h) (Or.inl ⟨by kernel_rfl, ?hy41⟩) (by assumption) ?rest41
          case hy41 => intro w hSw; (try dsimp only at hSw); go_simp; (try with_reducible rfl)
          try simp only [Act.put, List.setIfInBounds_toArray, List.set_cons_zero, List.set_cons_succ]
          refine wpAnyH_take (i := 14) (v := ?v42) rfl (by kernel_rfl) (by kernel_rfl) (by kernel_rfl) (fun _ _ _ h => h) (Or.inl ⟨by kernel_rfl, ?hy42⟩) (by assumption) ?rest42
          case hy42 => intro w hSw; (try dsimp only at hSw); go_simp; (try with_reducible rfl)
          try simp only [Act.put, List.setIfInBounds_toArray, List.set_cons_zero, List.set_cons_succ]
          refine wpAnyH_take (i := 15) (v := ?v43) rfl (by kernel_rfl) (by kernel_rfl) (by kernel_rfl) (fun _ _ _ h => h) (Or.inl ⟨by kernel_rfl, ?hy43⟩) (by assumption) ?rest43
          case hy43 => intro w hSw; (try dsimp only at hSw); go_simp; (try with_reducible rfl)
          try simp only [Act.put, List.setIfInBounds_toArray, List.set_cons_zero, List.set_cons_succ]
          refine wpAnyH_take (i := 16) (v := ?v44) rfl (by kernel_rfl) (by kernel_rfl) (by kernel_rfl) (fun _ _ _ h => h) (Or.inl ⟨by kernel_rfl, ?hy44⟩) (by assumption) ?rest44
          case hy44 => intro w hSw; (try dsimp only at hSw); go_simp; (try with_reducible rfl)
          try simp only [Act.put, List.setIfInBounds_toArray, List.set_cons_zero, List.set_cons_succ]
          refine wpAnyH_take (i := 17) (v := ?v45) rfl (by kernel_rfl) (by kernel_rfl) (by kernel_rfl) (fun _ _ _ h => h) (Or.inl ⟨by kernel_rfl, ?hy45⟩) (by assumption) ?rest45
          case hy45 => intro w hSw; (try dsimp only at hSw); go_simp; (try with_reducible rfl)
          try simp only [Act.put, List.setIfInBounds_toArray, List.set_cons_zero, List.set_cons_succ]
          refine wpAnyH_take (i := 19) (v := ?v46) rfl (by kernel_rfl) (by kernel_rfl) (by kernel_rfl) (fun _ _ _ h => h) (Or.inl ⟨by kernel_rfl, ?hy46⟩) (by assumption) ?rest46
          case hy46 => intro w hSw; (try dsimp only at hSw); go_simp; (try with_reducible rfl)
          try simp only [Act.put, List.setIfInBounds_toArray, List.set_cons_zero, List.set_cons_succ]
          refine wpAnyH_take (i := 20) (v := ?v47) rfl (by kernel_rfl) (by kernel_rfl) (by kernel_rfl) (fun _ _ _ h => h) (Or.inl ⟨by kernel_rfl, ?hy47⟩) (by assumption) ?rest47
          case hy47 => intro w hSw; (try dsimp only at hSw); go_simp; (try with_reducible rfl)
          try simp only [Act.put, List.setIfInBounds_toArray, List.set_cons_zero, List.set_cons_succ]
          refine wpAnyH_ready (rs := [18]) (by kernel_rfl) (by simp) ?_
          refine AllReadyH.cons rfl (fun K hK => ?_) AllReadyH.nil
          go_simp
          refine Calls.mono (H3.out _) ?_
          rintro e w23 ⟨rfl, hX23⟩
          have hW23 : Fr (fun _ => False) w5 w23 := hHeld.2.2.2.2.2.2.trans hX23 (fun _ _ e => e)
          clear hX23
          refine hK.out _ _ ?_ (fun hHeld => ?_)
          · exact HT.out _ hW23
          clear hK K
          try simp only [Act.put, List.setIfInBounds_toArray, List.set_cons_zero, List.set_cons_succ]
          refine wpAnyH_ready (rs := [21]) (by kernel_rfl) (by simp) ?_
          refine AllReadyH.cons rfl (fun K hK => ?_) AllReadyH.nil
          go_simp
          refine Calls.mono (H4.out _) ?_
          rintro e w24 ⟨rfl, hX24⟩
          have hW24 : Fr (fun _ => False) w5 w24 := hHeld.2.2.2.2.2.2.trans hX24 (fun _ _ e => e)
          clear hX24
          refine hK.out _ _ ?_ (fun hHeld => ?_)
          · exact HT.out _ hW24
          clear hK K
          try simp only [Act.put, List.setIfInBounds_toArray, List.set_cons_zero, List.set_cons_succ]
          refine wpAnyH_take (i := 22) (v := ?v48) rfl (by kernel_rfl) (by kernel_rfl) (by kernel_rfl) (fun _ _ _ h => h) (Or.inl ⟨by kernel_rfl, ?hy48⟩) (by assumption) ?rest48
          case hy48 => intro w hSw; (try dsimp only at hSw); go_simp; (try with_reducible rfl)
          try simp only [Act.put, List.setIfInBounds_toArray, List.set_cons_zero, List.set_cons_succ]
          refine wpAnyH_take (i := 23) (v := undef) rfl (by kernel_rfl) (by kernel_rfl) (by kernel_rfl) (fun _ _ _ h => h) (Or.inr ⟨by kernel_rfl, rfl⟩) (by assumption) ?_
          try simp only [Act.put, List.setIfInBounds_toArray, List.set_cons_zero, List.set_cons_succ]
          refine wpAnyH_take (i := 24) (v := undef) rfl (by kernel_rfl) (by kernel_rfl) (by kernel_rfl) (fun _ _ _ h => h) (Or.inr ⟨by kernel_rfl, rfl⟩) (by assumption) ?_
          try simp only [Act.put, List.setIfInBounds_toArray, List.set_cons_zero, List.set_cons_succ]
          refine wpAnyH_take (i := 25) (v := undef) rfl (by kernel_rfl) (by kernel_rfl) (by kernel_rfl) (fun _ _ _ h => h) (Or.inr ⟨by kernel_rfl, rfl⟩) (by assumption) ?_
          try simp only [Act.put, List.setIfInBounds_toArray, List.set_cons_zero, List.set_cons_succ]
          refine wpAnyH_take (i := 26) (v := ?v49) rfl (by kernel_rfl) (by kernel_rfl) (by kernel_rfl) (fun _ _ _ h => h) (Or.inl ⟨by kernel_rfl, ?hy49⟩) (by assumption) ?rest49
          case hy49 => intro w hSw; (try dsimp only at hSw); go_simp; (try with_reducible rfl)
          try simp only [Act.put, List.setIfInBounds_toArray, List.set_cons_zero, List.set_cons_succ]
          refine wpAnyH_take (i := 27) (v := ?v50) rfl (by kernel_rfl) (by kernel_rfl) (by kernel_rfl) (fun _ _ _ h => h) (Or.inl ⟨by kernel_rfl, ?hy50⟩) (by assumption) ?rest50
          case hy50 => intro w hSw; (try dsimp only at hSw); go_simp; (try with_reducible rfl)
          try simp only [Act.put, List.setIfInBounds_toArray, List.set_cons_zero, List.set_cons_succ]
          refine wpAnyH_take (i := 28) (v := ?v51) rfl (by kernel_rfl) (by kernel_rfl) (by kernel_rfl) (fun _ _ _ h => h) (Or.inl ⟨by kernel_rfl, ?hy51⟩) (by assumption) ?rest51
          case hy51 => intro w hSw; (try dsimp only at hSw); go_simp; (try with_reducible rfl)
          try simp only [Act.put, List.setIfInBounds_toArray, List.set_cons_zero, List.set_cons_succ]
          refine wpAnyH_take (i := 29) (v := ?v52) rfl (by kernel_rfl) (by kernel_rfl) (by kernel_rfl) (fun _ _ _ h => h) (Or.inl ⟨by kernel_rfl, ?hy52⟩) (by assumption) ?rest52
          case hy52 => intro w hSw; (try dsimp only at hSw); go_simp; (try with_reducible rfl)
          try simp only [Act.put, List.setIfInBounds_toArray, List.set_cons_zero, List.set_cons_succ]
          refine wpAnyH_done (by kernel_rfl) ?_ _
          go_wp2_with fail
          go_ret
          exact ⟨rfl, HFN.out.trans hW24 (fun _ _ e => e)⟩

theorem one_all (s : Sp) (k o : ByteArray) (w : World) : Calls Try.prog 7 #[.agg #[.string s.1, .string s.2], .string k, .string o] w fun e w' => e = .returned (.bool true) ∧ Fr (fun _ => False) w w' := by
  by_cases h : KeyIn s o.toList
  · exact one_t s k o w (decide_eq_true h)
  · exact one_f s k o w (decide_eq_false h)

end Go.Proofs.Ytcbmkiiahdbipaa
