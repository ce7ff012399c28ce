/- Cell: Changed; on paper: what leads from one state to another one. -/
import Derived.Test.YtefikadaiconaaaLn
namespace Go.Proofs.Ytefikadaiconaaa
open Go.RowKit Go.IntWalk
set_option linter.unusedSimpArgs false
set_option linter.unusedVariables false

def strL (x : ByteArray) : List Value := [.string x]
abbrev GrowK := Grow strL 1 9
theorem strL_len (x : ByteArray) : (strL x).length = 1 := rfl
theorem strL_one (x : ByteArray) : ∀ u ∈ strL x, u.oneCell' = true := fun u hu => by
  simp only [strL, List.mem_cons, List.not_mem_nil, or_false] at hu
  subst hu
  rfl
theorem atOf_ks {w : World} {ao : Option Addr} {l : List ByteArray} (h : AtOf strL 1 w ao l) : KsAt w ao l := by
  rcases h with h | ⟨b, off, rfl, hb, hc⟩
  · exact Or.inl h
  · exact Or.inr ⟨b, off, rfl, hb, fun i hi => by have := hc i hi 0 _ rfl; rwa [Nat.mul_one, Nat.add_zero] at this⟩
theorem ks_atOf {w : World} {ao : Option Addr} {l : List ByteArray} (h : KsAt w ao l) : AtOf strL 1 w ao l := by
  rcases h with h | ⟨b, off, rfl, hb, hc⟩
  · exact Or.inl h
  · refine Or.inr ⟨b, off, rfl, hb, fun i hi j v hv => ?_⟩
    have hj : j < 1 := (List.getElem?_eq_some_iff.1 hv).1
    obtain rfl : j = 0 := by omega
    obtain rfl := Option.some.inj hv
    rw [Nat.mul_one, Nat.add_zero]
    exact hc i hi
theorem growK_app {W0 wr : World} {ao : Option Addr} {cap : Nat} {acc : List ByteArray} (h : GrowK W0 wr ao cap acc) (ys : List ByteArray) (bo : Option Addr) (c : Nat) (hs : ys = [] ∨ KsAt wr bo ys) (hb : acc.length + ys.length ≤ 1099511627776) :
    ∃ ao' cap' w', (Builtin.append_ #[44, 44] 44 #[.slice ao acc.length cap, .slice bo ys.length c]).run Try.prog wr = .ok (.slice ao' (acc.length + ys.length) cap') w' ∧ GrowK W0 w' ao' cap' (acc ++ ys) := by
  obtain ⟨i0, hi, hz0, hz1, hz2⟩ := info_parts Try.infoStr
  exact h.app Try.underlying44 hi hz0 16 hz1 hz2 rfl (by decide) (by decide) strL_len strL_one ys bo c (hs.imp_right ks_atOf) hb
theorem Grow.wsAt {W0 wr : World} {ao : Option Addr} {cap : Nat} {acc : List Wr} (h : GrowW W0 wr ao cap acc) : WsAt wr ao acc := atOf_ws (h.row.at wrL_len)
theorem Grow.ksAt {W0 wr : World} {ao : Option Addr} {cap : Nat} {acc : List ByteArray} (h : GrowK W0 wr ao cap acc) : KsAt wr ao acc := atOf_ks (h.row.at strL_len)

def ChangedPost (R : List ByteArray) (w : World) (e : Ending) (w' : World) : Prop := ∃ ao cap, e = .returned (.slice ao R.length cap) ∧ GrowK w w' ao cap R

theorem diffF_len : ∀ (f : Nat) (a b : List Sp), (diffF f a b).length ≤ f
  | 0, _, _ => by simp [diffF]
  | f + 1, a, b => by
    rw [diffF]
    have h1 := diffF_len f a.tail b
    have h2 := diffF_len f a b.tail
    have h3 := diffF_len f a.tail b.tail
    split
    · simp
    · split
      · simp only [List.length_cons]; omega
      · split
        · simp only [List.length_cons]; omega
        · rw [List.length_append]
          split
          · simp only [List.length_nil]; omega
          · simp only [List.length_cons, List.length_nil]; omega
theorem diffL_len (a b : List Sp) : (diffL a b).length ≤ a.length + b.length := by
  unfold diffL
  split
  · exact diffF_len _ _ _
  · simp

set_option maxRecDepth 100000 in
set_option maxHeartbeats 4000000 in
theorem echanged_any (ao bo : Option Addr) (ca cb : Nat) (a b : List Sp) (w : World) (ha : a = [] ∨ SpsAt w ao a) (hb : b = [] ∨ SpsAt w bo b) (hca : a.length ≤ ca) (hcb : b.length ≤ cb) (hl : a.length ≤ 1000000) (hl2 : b.length ≤ 1000000) :
    Calls Try.prog 27 #[.slice ao a.length ca, .slice bo b.length cb] w (ChangedPost ((diffL a b).map Prod.fst) w) := by
  have HD := hideIt (ediff_any ao bo ca cb a b w ha hb hca hcb hl hl2)
  have hdl := diffL_len a b
  clear ha hb
  generalize diffL a b = d at *
  go_enter Try.func27, Try.ntmps27
  go_wp2_with fail
  refine Calls.mono HD.out ?_
  rintro e w1 ⟨a1, c1, rfl, hG⟩
  have HG := hideIt hG
  clear hG HD
  go_wp2_with fail
  go_loopw [12, 5] (fun s12 s5 wr => ∃ (j : Nat) (a5 : Option Addr) (c5 : Nat) (told : List ByteArray), s12 = .int .i64 j ∧ j ≤ d.length ∧ s5 = .slice a5 j c5 ∧ Hid (told = (d.take j).map Prod.fst) ∧ Hid (GrowK w1 wr a5 c5 told)) (fun s12 _ _ => d.length - (intOf s12).toNat)
  case atStart => exact ⟨0, none, 0, [], rfl, Nat.zero_le _, rfl, hideIt (by simp), hideIt (Grow.start (Fr.refl _ _))⟩
  case round =>
    obtain ⟨j, a5, c5, told, rfl, hj, rfl, HT, HK⟩ := hrel
    have HTL := hideIt (show told.length = j by rw [HT.out, List.length_map, List.length_take, Nat.min_eq_left hj])
    by_cases hlt : j < d.length
    · obtain ⟨b3, off3, rfl, hb3, c0, c1', c2⟩ := ws_get (wats_fr0 (Or.inr HG.out.wsAt) HK.out.fr) j hlt
      have HN := hideIt (show (d.take (j + 1)).map Prod.fst = told ++ [d[j].1] by rw [List.take_succ_eq_append_getElem hlt, List.map_append, HT.out]; rfl)
      have hj' : (j : Int) < (d.length : Int) := by omega
      generalize d[j] = x at *
      obtain ⟨x1, x2, x3⟩ := x
      dsimp only at *
      obtain ⟨a6, c6, w6, hrun, hK6⟩ := growK_app ((HK.out.quiet ((Fr.refl _ _).alloc (.cells #[.string x1, .string x2, .bool x3] 52))).quiet ((Fr.refl _ _).alloc (.cells #[.string x1] 9))) [x1] (some ⟨wr.heap.size + 1, 0, none⟩) 1 (Or.inr (by have := ks_new (wr.alloc (.cells #[.string x1, .string x2, .bool x3] 52)) [x1] 9; simpa using this)) (by rw [HTL.out]; simp; omega)
      rw [HTL.out] at hrun
      have HR := hideIt hrun
      have HK6 := hideIt hK6
      clear hrun hK6 HK
      go_wp2_with (first | (at_builtin; refine wpList_append_run _ rfl (.tmp 16) (.tmp 19) 44 44 rfl _ _ _ _ rfl rfl HR.out ?_))
      go_roundw
      case measure => simp [intOf]; omega
      case rel => exact ⟨j + 1, a6, c6, told ++ [x1], by go_num, by omega, rfl, hideIt HN.out.symm, HK6⟩
    · obtain rfl : j = d.length := by omega
      have HX := hideIt (show told = d.map Prod.fst by rw [HT.out, List.take_length])
      go_wp2_with fail
      go_ret
      refine ⟨a5, c5, ?_, ?_⟩
      · rw [List.length_map]
        rfl
      · rw [← HX.out]
        have hK := HK.out
        exact ⟨hK.row, fun k hk => Nat.le_trans HG.out.fr.size (hK.new k hk), HG.out.fr.trans hK.fr (fun _ _ e => e)⟩

/-! On paper. -/
theorem rises_cons {p : Sp} {a : List Sp} (h : Rises ((p :: a).map Prod.fst)) : Rises (a.map Prod.fst) ∧ ∀ q ∈ a, kLt p.1 q.1 := by
  have := List.pairwise_cons.1 h
  exact ⟨this.2, fun q hq => this.1 _ (List.mem_map_of_mem hq)⟩
theorem rises_uniq {l : List Sp} (h : Rises (l.map Prod.fst)) {k v v' : ByteArray} (h1 : (k, v) ∈ l) (h2 : (k, v') ∈ l) : v = v' := by
  induction l with
  | nil => cases h1
  | cons p l ih =>
    obtain ⟨hr, hlt⟩ := rises_cons h
    rcases List.mem_cons.1 h1 with e1 | e1
    · rcases List.mem_cons.1 h2 with e2 | e2
      · rw [← e1] at e2
        exact (Prod.mk.inj e2).2.symm
      · have := hlt _ e2
        rw [← e1] at this
        exact absurd this (kLt_irrefl _)
    · rcases List.mem_cons.1 h2 with e2 | e2
      · have := hlt _ e1
        rw [← e2] at this
        exact absurd this (kLt_irrefl _)
      · exact ih hr e1 e2
theorem sp_unique {a b : List Sp} (ha : Rises (a.map Prod.fst)) (hb : Rises (b.map Prod.fst)) (hm : ∀ p, p ∈ a ↔ p ∈ b) : a = b := by
  have ha2 : a.Pairwise (fun p q => kLt p.1 q.1) := List.pairwise_map.1 ha
  have hb2 : b.Pairwise (fun p q => kLt p.1 q.1) := List.pairwise_map.1 hb
  have na : a.Nodup := ha2.imp (fun h e => by subst e; exact kLt_irrefl _ h)
  have nb : b.Nodup := hb2.imp (fun h e => by subst e; exact kLt_irrefl _ h)
  exact List.Perm.eq_of_pairwise (le := fun p q : Sp => kLt p.1 q.1) (fun x y _ _ h1 h2 => (kLt_irrefl _ (kLt_trans h1 h2)).elim) ha2 hb2 ((List.perm_ext_iff_of_nodup na nb).2 hm)

theorem less_cons (p q : Sp) (a b : List Sp) : (lessS (p :: a) (q :: b) < 0 ↔ kLt p.1 q.1) ∧ (0 < lessS (p :: a) (q :: b) ↔ kLt q.1 p.1) ∧ (lessS (p :: a) (q :: b) = 0 ↔ p.1 = q.1) := by
  have e : lessS (p :: a) (q :: b) = cmpS p.1.toList q.1.toList := rfl
  rw [e]
  refine ⟨?_, cmpS_pos _ _, ?_⟩
  · have h1 := cmpS_pos p.1.toList q.1.toList
    have h2 := cmpS_nought p.1.toList q.1.toList
    constructor
    · intro h
      rcases kLt_tri p.1 q.1 with e | e | e
      · exact e
      · have := h2.2 (by rw [e]); omega
      · have := h1.2 e; omega
    · intro h
      have n1 : ¬ 0 < cmpS p.1.toList q.1.toList := fun e => kLt_irrefl _ (kLt_trans h (h1.1 e))
      have n2 : ¬ cmpS p.1.toList q.1.toList = 0 := fun e => by have := h2.1 e; unfold kLt at h; rw [this] at h; exact List.lt_irrefl _ h
      omega
  · rw [cmpS_nought]
    exact ⟨fun h => toList_inj h, fun h => by rw [h]⟩

/-- What is told of a key: it goes, or it has another value. -/
def Tells (a b : List Sp) (x : Wr) : Prop := (x.2.2 = true ∧ x.2.1 = ⟨#[]⟩ ∧ x.1 ∈ a.map Prod.fst ∧ x.1 ∉ b.map Prod.fst) ∨ (x.2.2 = false ∧ (x.1, x.2.1) ∈ b ∧ (x.1, x.2.1) ∉ a)

theorem key_of {l : List Sp} {k : ByteArray} (h : k ∈ l.map Prod.fst) : ∃ v, (k, v) ∈ l := by
  obtain ⟨p, hp, rfl⟩ := List.mem_map.1 h
  exact ⟨p.2, hp⟩
theorem of_key {l : List Sp} {k v : ByteArray} (h : (k, v) ∈ l) : k ∈ l.map Prod.fst := List.mem_map.2 ⟨_, h, rfl⟩

theorem mem_diffF : ∀ (f : Nat) (a b : List Sp), Rises (a.map Prod.fst) → Rises (b.map Prod.fst) → a.length + b.length ≤ f → ∀ x, x ∈ diffF f a b ↔ Tells a b x
  | f, [], [], _, _, _, x => by rw [diffF_none]; simp [Tells]
  | 0, p :: a, b, _, _, h, x => by simp at h
  | 0, [], q :: b, _, _, h, x => by simp at h
  | f + 1, [], q :: b, ha, hb, h, x => by
    obtain ⟨hb2, hq⟩ := rises_cons hb
    rw [diffF_pos f q [] b (by decide +kernel : (0 : Int) < 1), List.mem_cons, mem_diffF f [] b ha hb2 (by simp at h ⊢; omega) x]
    obtain ⟨k, v, d⟩ := x
    simp only [Tells, List.map_nil, List.not_mem_nil, false_and, and_false, false_or, not_false_eq_true, and_true, List.mem_cons, Prod.mk.injEq]
    constructor
    · rintro (⟨h1, h2, h3⟩ | ⟨h1, h2⟩)
      · exact ⟨h3, Or.inl (Prod.ext h1 h2)⟩
      · exact ⟨h1, Or.inr h2⟩
    · rintro ⟨h1, h2 | h2⟩
      · rw [← h2]; exact Or.inl ⟨rfl, rfl, h1⟩
      · exact Or.inr ⟨h1, h2⟩
  | f + 1, p :: a, [], ha, hb, h, x => by
    obtain ⟨ha2, hp⟩ := rises_cons ha
    rw [diffF_neg f p a [] (by decide +kernel : (-1 : Int) < 0), List.mem_cons, mem_diffF f a [] ha2 hb (by simp at h ⊢; omega) x]
    obtain ⟨k, v, d⟩ := x
    simp only [Tells, List.map_nil, List.not_mem_nil, false_and, and_false, or_false, not_false_eq_true, and_true, List.map_cons, List.mem_cons, Prod.mk.injEq]
    constructor
    · rintro (⟨h1, h2, h3⟩ | ⟨h1, h2, h3⟩)
      · exact ⟨h3, h2, Or.inl h1⟩
      · exact ⟨h1, h2, Or.inr h3⟩
    · rintro ⟨h1, h2, h3 | h3⟩
      · exact Or.inl ⟨h3, h2, h1⟩
      · exact Or.inr ⟨h1, h2, h3⟩
  | f + 1, p :: a, q :: b, ha, hb, h, x => by
    obtain ⟨ha2, hp⟩ := rises_cons ha
    obtain ⟨hb2, hq⟩ := rises_cons hb
    obtain ⟨l1, l2, l3⟩ := less_cons p q a b
    have hka : ∀ k, k ∈ a.map Prod.fst → kLt p.1 k := fun k hk => by obtain ⟨v, hv⟩ := key_of hk; exact hp _ hv
    have hkb : ∀ k, k ∈ b.map Prod.fst → kLt q.1 k := fun k hk => by obtain ⟨v, hv⟩ := key_of hk; exact hq _ hv
    have hma : ∀ k, k ∈ (p :: a).map Prod.fst ↔ k = p.1 ∨ k ∈ a.map Prod.fst := fun k => by rw [List.map_cons, List.mem_cons]
    have hmb : ∀ k, k ∈ (q :: b).map Prod.fst ↔ k = q.1 ∨ k ∈ b.map Prod.fst := fun k => by rw [List.map_cons, List.mem_cons]
    obtain ⟨k, v, d⟩ := x
    rcases kLt_tri p.1 q.1 with e | e | e
    · rw [diffF_neg f p a (q :: b) (l1.2 e), List.mem_cons, mem_diffF f a (q :: b) ha2 hb (by simp at h ⊢; omega) (k, v, d)]
      have hpb : p.1 ∉ (q :: b).map Prod.fst := fun hm => by
        rw [List.map_cons] at hm
        rcases List.mem_cons.1 hm with e2 | e2
        · rw [e2] at e; exact kLt_irrefl _ e
        · exact kLt_irrefl _ (kLt_trans e (hkb _ e2))
      have hne : (k, v) ∈ q :: b → (k, v) ≠ p := fun hm e2 => hpb (by rw [← e2]; exact of_key hm)
      simp only [Tells, hma, Prod.mk.injEq]
      constructor
      · rintro (⟨h1, h2, h3⟩ | ⟨h1, h2, h3, h4⟩ | ⟨h1, h2, h3⟩)
        · exact Or.inl ⟨h3, h2, Or.inl h1, by rw [h1]; exact hpb⟩
        · exact Or.inl ⟨h1, h2, Or.inr h3, h4⟩
        · exact Or.inr ⟨h1, h2, fun hm => by rcases List.mem_cons.1 hm with e2 | e2; exact hne h2 e2; exact h3 e2⟩
      · rintro (⟨h1, h2, h3 | h3, h4⟩ | ⟨h1, h2, h3⟩)
        · exact Or.inl ⟨h3, h2, h1⟩
        · exact Or.inr (Or.inl ⟨h1, h2, h3, h4⟩)
        · exact Or.inr (Or.inr ⟨h1, h2, fun hm => h3 (List.mem_cons_of_mem _ hm)⟩)
    · rw [diffF_eq f p q a b (l3.2 e), List.mem_append, mem_diffF f a b ha2 hb2 (by simp at h ⊢; omega) (k, v, d)]
      have hqa : ∀ u, (p.1, u) ∉ a := fun u hm => kLt_irrefl p.1 (show kLt p.1 p.1 from hp (p.1, u) hm)
      have hqb : ∀ u, (q.1, u) ∉ b := fun u hm => kLt_irrefl q.1 (show kLt q.1 q.1 from hq (q.1, u) hm)
      have hif : (k, v, d) ∈ (if p.2 = q.2 then ([] : List Wr) else [(q.1, q.2, false)]) ↔ d = false ∧ (k, v) = q ∧ (k, v) ∉ p :: a := by
        by_cases h2 : p.2 = q.2
        · rw [if_pos h2]
          constructor
          · intro hm; cases hm
          · rintro ⟨_, h3, h4⟩
            exact absurd (by rw [h3, show q = p from (Prod.ext e h2).symm]; exact List.mem_cons_self ..) h4
        · rw [if_neg h2]
          simp only [List.mem_singleton, Prod.mk.injEq]
          constructor
          · rintro ⟨h3, h4, h5⟩
            refine ⟨h5, Prod.ext h3 h4, fun hm => ?_⟩
            rcases List.mem_cons.1 hm with e2 | e2
            · exact h2 (by rw [← e2]; exact h4)
            · rw [h3, ← e] at e2; exact hqa _ e2
          · rintro ⟨h3, h4, _⟩
            rw [← h4]
            exact ⟨rfl, rfl, h3⟩
      rw [hif]
      simp only [Tells, hma, hmb]
      constructor
      · rintro (⟨h1, h2, h3⟩ | ⟨h1, h2, h3, h4⟩ | ⟨h1, h2, h3⟩)
        · exact Or.inr ⟨h1, by rw [h2]; exact List.mem_cons_self .., h3⟩
        · refine Or.inl ⟨h1, h2, Or.inr h3, ?_⟩
          rintro (e2 | e2)
          · have := hka _ h3; rw [e2, ← e] at this; exact kLt_irrefl _ this
          · exact h4 e2
        · refine Or.inr ⟨h1, List.mem_cons_of_mem _ h2, fun hm => ?_⟩
          rcases List.mem_cons.1 hm with e2 | e2
          · have : k = q.1 := by rw [← e, ← e2]
            rw [this] at h2
            exact hqb _ h2
          · exact h3 e2
      · rintro (⟨h1, h2, h3 | h3, h4⟩ | ⟨h1, h2, h3⟩)
        · exact absurd (Or.inl (h3.trans e)) h4
        · exact Or.inr (Or.inl ⟨h1, h2, h3, fun e2 => h4 (Or.inr e2)⟩)
        · rcases List.mem_cons.1 h2 with h2 | h2
          · exact Or.inl ⟨h1, h2, h3⟩
          · exact Or.inr (Or.inr ⟨h1, h2, fun hm => h3 (List.mem_cons_of_mem _ hm)⟩)
    · rw [diffF_pos f q (p :: a) b (l2.2 e), List.mem_cons, mem_diffF f (p :: a) b ha hb2 (by simp at h ⊢; omega) (k, v, d)]
      have hqa : q.1 ∉ (p :: a).map Prod.fst := fun hm => by
        rw [List.map_cons] at hm
        rcases List.mem_cons.1 hm with e2 | e2
        · rw [e2] at e; exact kLt_irrefl _ e
        · exact kLt_irrefl _ (kLt_trans e (hka _ e2))
      simp only [Tells, hmb, Prod.mk.injEq]
      constructor
      · rintro (⟨h1, h2, h3⟩ | ⟨h1, h2, h3, h4⟩ | ⟨h1, h2, h3⟩)
        · exact Or.inr ⟨h3, by rw [show (k, v) = q from Prod.ext h1 h2]; exact List.mem_cons_self .., fun hm => hqa (by rw [← h1]; exact of_key hm)⟩
        · refine Or.inl ⟨h1, h2, h3, ?_⟩
          rintro (e2 | e2)
          · rw [e2] at h3; exact hqa h3
          · exact h4 e2
        · exact Or.inr ⟨h1, List.mem_cons_of_mem _ h2, h3⟩
      · rintro (⟨h1, h2, h3, h4⟩ | ⟨h1, h2, h3⟩)
        · exact Or.inr (Or.inl ⟨h1, h2, h3, fun e2 => h4 (Or.inr e2)⟩)
        · rcases List.mem_cons.1 h2 with h2 | h2
          · rw [← h2]; exact Or.inl ⟨rfl, rfl, h1⟩
          · exact Or.inr (Or.inr ⟨h1, h2, h3⟩)

end Go.Proofs.Ytefikadaiconaaa
