/- CellParts, on paper: a span that is scanned in two parts. -/
import Derived.Test.YtefikadaiconaaaLo
namespace Go.Proofs.Ytefikadaiconaaa
set_option linter.unusedSimpArgs false
set_option linter.unusedVariables false

theorem sub_rises {l m : List Sp} (h : Rises (l.map Prod.fst)) (hs : m.Sublist l) : Rises (m.map Prod.fst) := List.Pairwise.sublist (List.Sublist.map _ hs) h

/-- What a span has, of a state: those of its keys. -/
theorem scan_filter (l : List Sp) (s : Sp) (h : Rises (l.map Prod.fst)) : ((l.drop (placeL l s.1)).takeWhile fun p => decide (KeyIn s p.1.toList)) = l.filter fun p => decide (KeyIn s p.1.toList) := by
  refine sp_unique (sub_rises h ((List.takeWhile_sublist _).trans (List.drop_sublist _ _))) (sub_rises h List.filter_sublist) fun p => ?_
  constructor
  · intro hp
    refine List.mem_filter.2 ⟨List.mem_of_mem_drop ((List.takeWhile_sublist _).subset hp), ?_⟩
    have : ∀ (r : List Sp) (q : Sp → Bool), p ∈ r.takeWhile q → q p = true := by
      intro r q
      induction r with
      | nil => intro h; cases h
      | cons x r ih =>
        intro h
        rw [List.takeWhile_cons] at h
        split at h
        · rename_i hx
          rcases List.mem_cons.1 h with e | e
          · rw [e]; exact hx
          · exact ih e
        · cases h
    exact this _ _ hp
  · intro hp
    obtain ⟨h1, h2⟩ := List.mem_filter.1 hp
    have hk : KeyIn s p.1.toList := of_decide_eq_true h2
    have hd : p ∈ l.drop (placeL l s.1) := by
      have hs : p ∈ l.take (placeL l s.1) ++ l.drop (placeL l s.1) := by rw [List.take_append_drop]; exact h1
      rcases List.mem_append.1 hs with e | e
      · exact absurd (take_lt h e) hk.1
      · exact e
    have hge : ∀ x ∈ l.drop (placeL l s.1), ¬ kLt x.1 s.1 := fun x hx hlt => by
      obtain ⟨t, ht, rfl⟩ := List.getElem_of_mem hx
      rw [List.getElem_drop] at hlt
      rw [List.length_drop] at ht
      have := (place_iff l s.1 h _ (by omega)).1 hlt
      omega
    have hr := rises_drop h (placeL l s.1)
    generalize l.drop (placeL l s.1) = r at *
    clear h h1 h2 hp
    induction r with
    | nil => cases hd
    | cons x r ih =>
      obtain ⟨hr2, hx2⟩ := rises_cons hr
      have hx : KeyIn s x.1.toList := by
        refine ⟨hge x (List.mem_cons_self ..), ?_⟩
        rcases List.mem_cons.1 hd with e | e
        · rw [← e]; exact hk.2
        · rcases hk.2 with e2 | e2
          · exact Or.inl e2
          · exact Or.inr (List.lt_trans (hx2 _ e) e2)
      rw [List.takeWhile_cons, if_pos (decide_eq_true hx)]
      rcases List.mem_cons.1 hd with e | e
      · rw [e]; exact List.mem_cons_self ..
      · exact List.mem_cons_of_mem _ (ih e (fun y hy => hge y (List.mem_cons_of_mem _ hy)) hr2)

def inS (l : List Sp) (s : Sp) : List Sp := l.filter fun p => decide (KeyIn s p.1.toList)
theorem scan_all (l : List Sp) (s : Sp) (most : Int) (hc : chkE l = 0) : scanL l s most = (inS l s).take most.toNat := by
  unfold scanL scanS inS
  rw [if_pos hc, scan_filter l s ((chkE_ok l).1 hc).2.rises]
theorem inS_len (l : List Sp) (s : Sp) : (inS l s).length ≤ l.length := List.length_filter_le _ _
theorem scan_1000 (l : List Sp) (s : Sp) (hc : chkE l = 0) (hl : l.length ≤ 100) : scanL l s 1000 = inS l s := by
  rw [scan_all l s 1000 hc, List.take_of_length_le]
  have := inS_len l s
  show _ ≤ 1000
  omega

/-- In two parts, up to a key of the span and behind it. -/
theorem scan_parts (l : List Sp) (s : Sp) (k : ByteArray) (hc : chkE l = 0) (hk : KeyIn s k.toList) : uptoS s k = s ∨ inS l (uptoS s k) ++ inS l ((uptoS s k).2, s.2) = inS l s := by
  have hr := ((chkE_ok l).1 hc).2.rises
  unfold uptoS
  by_cases he : endS (hi s) (bhd k).toList ≤ 0
  · exact Or.inl (if_pos he)
  · right
    rw [if_neg he]
    have hone : ∀ x : ByteArray, KeyIn (s.1, bhd k) x.toList ↔ ¬ x.toList < lo s ∧ ¬ k.toList < x.toList := fun x => by
      have e : hi ((s.1, bhd k) : Sp) = k.toList ++ [0] := bhd_toList k
      unfold KeyIn
      rw [e, by_behind]
      refine and_congr Iff.rfl ?_
      simp
    have htwo : ∀ x : ByteArray, KeyIn (bhd k, s.2) x.toList ↔ k.toList < x.toList ∧ (hi s = [] ∨ x.toList < hi s) := fun x => by
      have e : lo ((bhd k, s.2) : Sp) = k.toList ++ [0] := bhd_toList k
      unfold KeyIn
      rw [e, by_behind, Decidable.not_not]
      rfl
    refine sp_unique ?_ (sub_rises hr List.filter_sublist) fun p => ?_
    · rw [List.map_append]
      refine List.pairwise_append.2 ⟨sub_rises hr List.filter_sublist, sub_rises hr List.filter_sublist, fun x hx y hy => ?_⟩
      obtain ⟨p, hp, rfl⟩ := List.mem_map.1 hx
      obtain ⟨q, hq, rfl⟩ := List.mem_map.1 hy
      have h1 := ((hone p.1).1 (of_decide_eq_true (List.mem_filter.1 hp).2)).2
      have h2 := ((htwo q.1).1 (of_decide_eq_true (List.mem_filter.1 hq).2)).1
      rcases kLt_tri p.1 k with e | e | e
      · exact kLt_trans e h2
      · rw [e]; exact h2
      · exact absurd e h1
    · unfold inS
      rw [List.mem_append, List.mem_filter, List.mem_filter, List.mem_filter, decide_eq_true_eq, decide_eq_true_eq, decide_eq_true_eq, hone, htwo]
      constructor
      · rintro (⟨h1, h2, h3⟩ | ⟨h1, h2, h3⟩)
        · refine ⟨h1, h2, ?_⟩
          rcases hk.2 with e | e
          · exact Or.inl e
          · right
            rcases by_tri p.1.toList k.toList with e2 | e2 | e2
            · exact List.lt_trans e2 e
            · rw [e2]; exact e
            · exact absurd e2 h3
        · exact ⟨h1, fun e => hk.1 (List.lt_trans h2 e), h3⟩
      · rintro ⟨h1, h2, h3⟩
        by_cases hkx : k.toList < p.1.toList
        · exact Or.inr ⟨h1, hkx, h3⟩
        · exact Or.inl ⟨h1, h2, hkx⟩

theorem inS_mem {l : List Sp} {s p : Sp} (h : p ∈ inS l s) : p ∈ l ∧ KeyIn s p.1.toList := by
  obtain ⟨h1, h2⟩ := List.mem_filter.1 h
  exact ⟨h1, of_decide_eq_true h2⟩

end Go.Proofs.Ytefikadaiconaaa
