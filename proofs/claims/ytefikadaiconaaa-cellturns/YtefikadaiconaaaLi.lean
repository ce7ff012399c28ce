/- Cell, on paper: what a state behind writes has, and that it is a state. -/
import Derived.Test.YtefikadaiconaaaLh
namespace Go.Proofs.Ytefikadaiconaaa
set_option linter.unusedSimpArgs false
set_option linter.unusedVariables false

theorem take_lt {l : List Sp} {k : ByteArray} {p : Sp} (hr : Rises (l.map Prod.fst)) (h : p ∈ l.take (placeL l k)) : kLt p.1 k := by
  obtain ⟨t, ht, rfl⟩ := List.getElem_of_mem h
  rw [List.getElem_take]
  rw [List.length_take] at ht
  exact (place_iff l k hr t (by omega)).2 (by omega)
theorem rest_gt {l : List Sp} {k : ByteArray} {p : Sp} (hr : Rises (l.map Prod.fst)) (h : p ∈ l.drop (placeL l k + (if hereB l k then 1 else 0))) : kLt k p.1 := by
  obtain ⟨t, ht, rfl⟩ := List.getElem_of_mem h
  rw [List.getElem_drop]
  rw [List.length_drop] at ht
  have hge : ∀ (u : Nat) (hu : u < l.length), placeL l k ≤ u → ¬ kLt l[u].1 k := fun u hu h1 h2 => by
    have := (place_iff l k hr u hu).1 h2
    omega
  by_cases hh : hereB l k = true
  · obtain ⟨h1, h2⟩ := (here_get l k).1 hh
    simp only [hh, if_true] at ht ⊢
    have := rises_lt hr (i := placeL l k) (j := placeL l k + 1 + t) (by omega) (by omega)
    rw [h2] at this
    exact this
  · simp only [hh, if_false, Nat.add_zero] at ht ⊢
    have h3 := hge (placeL l k + t) (by omega) (by omega)
    rcases kLt_tri k (l[placeL l k + t]'(by omega)).1 with e | e | e
    · simpa using e
    · exfalso
      have h4 : ¬ kLt (l[placeL l k]'(by omega)).1 k := hge _ (by omega) (Nat.le_refl _)
      by_cases t0 : t = 0
      · subst t0
        exact hh ((here_get l k).2 ⟨by omega, e.symm⟩)
      · have h5 := rises_lt hr (i := placeL l k) (j := placeL l k + t) (by omega) (by omega)
        rw [← e] at h5
        exact h4 h5
    · exact absurd e h3
theorem mem_parts (l : List Sp) (k : ByteArray) (p : Sp) : p ∈ l ↔ p ∈ l.take (placeL l k) ∨ (p ∈ l ∧ p.1 = k ∧ hereB l k = true) ∨ p ∈ l.drop (placeL l k + (if hereB l k then 1 else 0)) := by
  constructor
  · intro h
    have hs : p ∈ l.take (placeL l k) ++ l.drop (placeL l k) := by rw [List.take_append_drop]; exact h
    rcases List.mem_append.1 hs with h1 | h1
    · exact Or.inl h1
    · by_cases hh : hereB l k = true
      · obtain ⟨h2, h3⟩ := (here_get l k).1 hh
        rw [List.drop_eq_getElem_cons h2] at h1
        rcases List.mem_cons.1 h1 with e | e
        · exact Or.inr (Or.inl ⟨h, by rw [e]; exact h3, hh⟩)
        · exact Or.inr (Or.inr (by simpa only [hh, if_true] using e))
      · exact Or.inr (Or.inr (by rw [if_neg hh]; exact h1))
  · rintro (h | h | h)
    · exact List.mem_of_mem_take h
    · exact h.1
    · exact List.mem_of_mem_drop h

theorem mem_behL (f : ByteArray → Wr) : ∀ (ks : List ByteArray) (l : List Sp), Rises ks → Rises (l.map Prod.fst) → ∀ p : Sp, p ∈ behL ks f l ↔ (p.1 ∉ ks ∧ p ∈ l) ∨ (p.1 ∈ ks ∧ (f p.1).2.2 = false ∧ p.2 = (f p.1).2.1)
  | [], l, _, _, p => by simp [behL]
  | k :: ks, l, hk, hr, p => by
    have hk2 := List.pairwise_cons.1 hk
    have ih := mem_behL f ks (l.drop (placeL l k + (if hereB l k then 1 else 0))) hk2.2 (rises_drop hr _) p
    have hm := mem_parts l k p
    rw [behL, List.mem_append, List.mem_append, ih]
    have hopt : p ∈ (if (f k).2.2 then [] else [(k, (f k).2.1)]) ↔ p.1 = k ∧ (f k).2.2 = false ∧ p.2 = (f k).2.1 := by
      cases hd : (f k).2.2 with
      | true => simp
      | false =>
        simp only [Bool.false_eq_true, if_false, List.mem_singleton, true_and]
        exact ⟨fun e => by rw [e]; exact ⟨rfl, rfl⟩, fun ⟨e1, e2⟩ => Prod.ext e1 e2⟩
    rw [hopt]
    constructor
    · rintro (h | h | h | h)
      · have h1 := take_lt hr h
        refine Or.inl ⟨fun e => ?_, List.mem_of_mem_take h⟩
        rcases List.mem_cons.1 e with e | e
        · rw [e] at h1; exact kLt_irrefl _ h1
        · exact kLt_irrefl _ (kLt_trans h1 (hk2.1 _ e))
      · exact Or.inr ⟨by rw [h.1]; exact List.mem_cons_self .., by rw [h.1]; exact h.2.1, by rw [h.1]; exact h.2.2⟩
      · have h1 := rest_gt hr h.2
        refine Or.inl ⟨fun e => ?_, List.mem_of_mem_drop h.2⟩
        rcases List.mem_cons.1 e with e | e
        · rw [e] at h1; exact kLt_irrefl _ h1
        · exact h.1 e
      · exact Or.inr ⟨List.mem_cons_of_mem _ h.1, h.2⟩
    · rintro (⟨h1, h2⟩ | ⟨h1, h2⟩)
      · rcases hm.1 h2 with h | h | h
        · exact Or.inl h
        · exact absurd (by rw [h.2.1]; exact List.mem_cons_self ..) h1
        · exact Or.inr (Or.inr (Or.inl ⟨fun e => h1 (List.mem_cons_of_mem _ e), h⟩))
      · rcases List.mem_cons.1 h1 with e | e
        · exact Or.inr (Or.inl ⟨e, by rw [← e]; exact h2.1, by rw [← e]; exact h2.2⟩)
        · exact Or.inr (Or.inr (Or.inr ⟨e, h2⟩))

theorem behL_rises (f : ByteArray → Wr) : ∀ (ks : List ByteArray) (l : List Sp), Rises ks → Rises (l.map Prod.fst) → Rises ((behL ks f l).map Prod.fst)
  | [], l, _, hr => hr
  | k :: ks, l, hk, hr => by
    have hk2 := List.pairwise_cons.1 hk
    have hr2 := rises_drop hr (placeL l k + (if hereB l k then 1 else 0))
    have ih := behL_rises f ks _ hk2.2 hr2
    have hgt : ∀ p ∈ behL ks f (l.drop (placeL l k + (if hereB l k then 1 else 0))), kLt k p.1 := fun p hp => by
      rcases (mem_behL f ks _ hk2.2 hr2 p).1 hp with h | h
      · exact rest_gt hr h.2
      · exact hk2.1 _ h.1
    have hopt : ∀ p ∈ (if (f k).2.2 then [] else [(k, (f k).2.1)]), p.1 = k := fun p hp => by
      cases hd : (f k).2.2 with
      | true => rw [hd] at hp; simp at hp
      | false =>
        rw [hd] at hp
        simp only [Bool.false_eq_true, if_false, List.mem_singleton] at hp
        rw [hp]
    rw [behL, List.map_append, List.map_append]
    refine List.pairwise_append.2 ⟨List.Pairwise.sublist (List.Sublist.map _ (List.take_sublist _ _)) hr, List.pairwise_append.2 ⟨?_, ih, ?_⟩, ?_⟩
    · cases (f k).2.2 <;> simp
    · intro x hx y hy
      obtain ⟨p, hp, rfl⟩ := List.mem_map.1 hx
      obtain ⟨q, hq, rfl⟩ := List.mem_map.1 hy
      rw [hopt p hp]
      exact hgt q hq
    · intro x hx y hy
      obtain ⟨p, hp, rfl⟩ := List.mem_map.1 hx
      have h1 := take_lt hr hp
      rcases List.mem_append.1 hy with h | h
      · obtain ⟨q, hq, rfl⟩ := List.mem_map.1 h
        rw [hopt q hq]
        exact h1
      · obtain ⟨q, hq, rfl⟩ := List.mem_map.1 h
        exact kLt_trans h1 (hgt q hq)

theorem behL_len (f : ByteArray → Wr) : ∀ (ks : List ByteArray) (l : List Sp), (behL ks f l).length ≤ l.length + ks.length
  | [], l => by simp [behL]
  | k :: ks, l => by
    have ih := behL_len f ks (l.drop (placeL l k + (if hereB l k then 1 else 0)))
    have h1 := placeL_le l k
    have h2 : (if (f k).2.2 then ([] : List Sp) else [(k, (f k).2.1)]).length ≤ 1 := by cases (f k).2.2 <;> simp
    rw [List.length_drop] at ih
    rw [behL, List.length_append, List.length_append, List.length_take, List.length_cons]
    omega

theorem lastW_mem : ∀ (ws : List Wr) (k : ByteArray), k ∈ ws.map Prod.fst → lastW ws k ∈ ws ∧ (lastW ws k).1 = k := by
  intro ws k h
  unfold lastW
  cases hf : ws.reverse.find? (fun x => decide (x.1 = k)) with
  | none =>
    exfalso
    rw [List.find?_eq_none] at hf
    obtain ⟨x, hx, e⟩ := List.mem_map.1 h
    exact absurd (decide_eq_true e) (by simpa using hf x (by simpa using hx))
  | some x =>
    have h1 := List.mem_of_find?_eq_some hf
    have h2 := List.find?_some hf
    exact ⟨by simpa using h1, by simpa using h2⟩

/-- What a state behind writes has. -/
theorem mem_apL (l : List Sp) (ws : List Wr) (hr : Rises (l.map Prod.fst)) (p : Sp) : p ∈ apL l ws ↔ (p.1 ∉ ws.map Prod.fst ∧ p ∈ l) ∨ (p.1 ∈ ws.map Prod.fst ∧ (lastW ws p.1).2.2 = false ∧ p.2 = (lastW ws p.1).2.1) := by
  unfold apL
  rw [mem_behL _ _ _ (setL_rises _) hr, mem_setL]

theorem apL_stt (l : List Sp) (ws : List Wr) (h : Stt l) (hw : ∀ x ∈ ws, mayB x = true) : Stt (apL l ws) := by
  refine ⟨fun p hp => ?_, fun p hp => ?_, behL_rises _ _ _ (setL_rises _) h.rises⟩
  · rcases (mem_apL l ws h.rises p).1 hp with e | e
    · exact h.keys p e.2
    · obtain ⟨h1, h2⟩ := lastW_mem ws p.1 e.1
      have := mayB_key (hw _ h1)
      rwa [h2] at this
  · rcases (mem_apL l ws h.rises p).1 hp with e | e
    · exact h.vals p e.2
    · obtain ⟨h1, h2⟩ := lastW_mem ws p.1 e.1
      have := hw _ h1
      unfold mayB at this
      rw [Bool.and_eq_true, Bool.and_eq_true] at this
      rw [e.2.2]
      exact this.1.2
theorem apL_len (l : List Sp) (ws : List Wr) : (apL l ws).length ≤ l.length + ws.length := by
  have h1 := behL_len (lastW ws) (setL (ws.map Prod.fst)) l
  have h2 := setL_len (ws.map Prod.fst)
  rw [List.length_map] at h2
  unfold apL
  omega

theorem getL_mem {l : List Sp} {k v : ByteArray} (hc : chkE l = 0) (h : (k, v) ∈ l) : getL l k = (v, true) := by
  have hr := ((chkE_ok l).1 hc).2.rises
  obtain ⟨t, ht, e⟩ := List.getElem_of_mem h
  have h1 : ¬ kLt l[t].1 k := by rw [e]; exact kLt_irrefl k
  have hpl : placeL l k ≤ t := by
    rcases Nat.lt_or_ge t (placeL l k) with h2 | h2
    · exact absurd ((place_iff l k hr t ht).2 h2) h1
    · exact h2
  have hpe : placeL l k = t := by
    rcases Nat.lt_or_ge (placeL l k) t with h2 | h2
    · exfalso
      have h3 := rises_lt hr h2 ht
      rw [e] at h3
      have := (place_iff l k hr (placeL l k) (by omega)).1 h3
      omega
    · omega
  have hh : hereB l k = true := (here_get l k).2 ⟨by omega, by simp only [hpe, e]⟩
  unfold getL
  rw [if_pos ⟨hc, hh⟩, hpe]
  simp [List.getD, ht, e]
theorem getL_none {l : List Sp} {k : ByteArray} (h : ∀ v, (k, v) ∉ l) : getL l k = (⟨#[]⟩, false) := by
  unfold getL
  rw [if_neg]
  rintro ⟨_, hh⟩
  obtain ⟨h1, h2⟩ := (here_get l k).1 hh
  exact h (l[placeL l k].2) (by have := List.getElem_mem h1; rwa [show l[placeL l k] = (k, l[placeL l k].2) from Prod.ext h2 rfl] at this)
theorem getL_eq {l m : List Sp} {k : ByteArray} (hl : chkE l = 0) (hm : chkE m = 0) (h : ∀ v, (k, v) ∈ l ↔ (k, v) ∈ m) : getL l k = getL m k := by
  by_cases hv : ∃ v, (k, v) ∈ l
  · obtain ⟨v, hv⟩ := hv
    rw [getL_mem hl hv, getL_mem hm ((h v).1 hv)]
  · rw [getL_none fun v hx => hv ⟨v, hx⟩, getL_none fun v hx => hv ⟨v, (h v).2 hx⟩]

/-- What the writes say of a key, one by one. -/
def sayW (k : ByteArray) (g : ByteArray × Bool) (x : Wr) : ByteArray × Bool := if x.1 = k then (x.2.1, !x.2.2) else g
theorem say_take (k : ByteArray) (g : ByteArray × Bool) (ws : List Wr) : ∀ j, j ≤ ws.length → (ws.take j).foldl (sayW k) g = if inL ((ws.take j).map Prod.fst) k then ((lastW (ws.take j) k).2.1, !(lastW (ws.take j) k).2.2) else g
  | 0, _ => by simp [inL]
  | j + 1, h => by
    have ih := say_take k g ws j (by omega)
    have hin : inL (((ws.take j) ++ [ws[j]]).map Prod.fst) k = (inL ((ws.take j).map Prod.fst) k || decide (ws[j].1 = k)) := by
      unfold inL
      rw [List.map_append, List.any_append]
      simp
    rw [List.take_succ_eq_append_getElem (show j < ws.length by omega), List.foldl_append, ih, lastW_snoc, hin]
    simp only [List.foldl_cons, List.foldl_nil, sayW]
    by_cases hx : ws[j].1 = k
    · rw [if_pos hx, if_pos hx, decide_eq_true hx, Bool.or_true, if_pos rfl]
    · rw [if_neg hx, if_neg hx, decide_eq_false hx, Bool.or_false]
theorem say_all (k : ByteArray) (g : ByteArray × Bool) (ws : List Wr) : ws.foldl (sayW k) g = if inL (ws.map Prod.fst) k then ((lastW ws k).2.1, !(lastW ws k).2.2) else g := by
  have := say_take k g ws ws.length (Nat.le_refl _)
  rwa [List.take_length] at this

theorem ba_empty {v : ByteArray} (h : v.size = 0) : v = ⟨#[]⟩ := by
  cases v with
  | mk d =>
    have : d = #[] := Array.eq_empty_of_size_eq_zero h
    rw [this]
theorem apL_chk (l : List Sp) (ws : List Wr) (hc : chkE l = 0) (hw : ∀ x ∈ ws, mayB x = true) (hlen : (apL l ws).length ≤ 65536) : chkE (apL l ws) = 0 :=
  (chkE_ok _).2 ⟨hlen, apL_stt l ws ((chkE_ok l).1 hc).2 hw⟩
/-- What a key has behind writes. -/
theorem get_apL (l : List Sp) (ws : List Wr) (k : ByteArray) (hc : chkE l = 0) (hw : ∀ x ∈ ws, mayB x = true) (hlen : (apL l ws).length ≤ 65536) : getL (apL l ws) k = ws.foldl (sayW k) (getL l k) := by
  have hS := ((chkE_ok l).1 hc).2
  have hc2 := apL_chk l ws hc hw hlen
  have hm := fun v => mem_apL l ws hS.rises (k, v)
  dsimp only at hm
  rw [say_all]
  by_cases hk : k ∈ ws.map Prod.fst
  · rw [if_pos ((inL_iff _ _).2 hk)]
    obtain ⟨h1, h2⟩ := lastW_mem ws k hk
    have hmay := hw _ h1
    cases hd : (lastW ws k).2.2 with
    | false => rw [getL_mem hc2 ((hm (lastW ws k).2.1).2 (Or.inr ⟨hk, hd, rfl⟩))]; rfl
    | true =>
      rw [getL_none (fun v hv => ?_)]
      · unfold mayB at hmay
        rw [hd, Bool.and_eq_true] at hmay
        have h3 := hmay.2
        simp only [Bool.not_true, Bool.false_or, decide_eq_true_eq] at h3
        rw [ba_empty h3]
        rfl
      · rcases (hm v).1 hv with e | e
        · exact e.1 hk
        · rw [hd] at e
          cases e.2.1
  · rw [if_neg (fun e => hk ((inL_iff _ _).1 e))]
    exact getL_eq hc2 hc fun v => by
      rw [hm v]
      exact ⟨fun e => e.elim (fun e => e.2) (fun e => absurd e.1 hk), fun e => Or.inl ⟨hk, e⟩⟩

/-- Where there is an error. -/
theorem ap_err (l : List Sp) (ws : List Wr) (hl : l.length ≤ 100) (hw : ws.length ≤ 60) (h : apE l ws ≠ 0) : apR l ws = [] ∧ (chkE l = apE l ws ∨ apE l ws = 2) := by
  refine ⟨by unfold apR; rw [if_neg h], ?_⟩
  have hlen := apL_len l ws
  unfold apE at h ⊢
  by_cases hc : chkE l = 0
  · rw [if_pos hc] at h ⊢
    by_cases ha : ws.all mayB = true
    · rw [if_pos ha, if_neg (by omega)] at h
      exact absurd rfl h
    · rw [if_neg ha]
      exact Or.inr rfl
  · rw [if_neg hc]
    exact Or.inl rfl
theorem ap_ok (l : List Sp) (ws : List Wr) (h : apE l ws = 0) : apR l ws = apL l ws ∧ chkE l = 0 ∧ (∀ x ∈ ws, mayB x = true) ∧ (apL l ws).length ≤ 65536 := by
  refine ⟨by unfold apR; rw [if_pos h], ?_⟩
  unfold apE at h
  by_cases hc : chkE l = 0
  · rw [if_pos hc] at h
    by_cases ha : ws.all mayB = true
    · rw [if_pos ha] at h
      by_cases hn : 65536 < (apL l ws).length
      · rw [if_pos hn] at h; cases h
      · exact ⟨hc, List.all_eq_true.1 ha, by omega⟩
    · rw [if_neg ha] at h; cases h
  · rw [if_neg hc] at h; exact absurd h hc

end Go.Proofs.Ytefikadaiconaaa
