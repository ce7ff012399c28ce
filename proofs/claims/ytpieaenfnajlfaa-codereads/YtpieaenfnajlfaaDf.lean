/- Code, on paper: what the document's Read tells is what Read tells. -/
import Derived.Test.YtpieaenfnajlfaaDa
import Derived.Test.YtpieaenfnajlfaaDe
namespace Go.Proofs.Ytpieaenfnajlfaa
open Go.RowKit Go.IntWalk Go.Lib
set_option linter.unusedSimpArgs false
set_option linter.unusedVariables false

/-! A window of 67 bytes is enough. -/
theorem scan_take (bs : List UInt8) : ∀ (i acc k : Nat), 9 ≤ k + i → i ≤ 8 → scan (bs.take k) i acc = scan bs i acc := by
  induction bs with
  | nil => intro i acc k _ _; rw [List.take_nil]
  | cons b bs ih =>
    intro i acc k hk hi
    obtain ⟨k, rfl⟩ : ∃ j, k = j + 1 := ⟨k - 1, by omega⟩
    rw [List.take_succ_cons]
    by_cases h1 : 128 ≤ b.toNat ∧ i + 1 = 9
    · rw [scan_big h1, scan_big h1]
    by_cases h2 : b.toNat = 0 ∧ 0 < i
    · rw [scan_zero h2, scan_zero h2]
    by_cases h3 : b.toNat < 128
    · rw [scan_last h2 h3, scan_last h2 h3]
    · rw [scan_more h1 h3, scan_more h1 h3]
      exact ih (i + 1) _ k (by omega) (by omega)
theorem scan_far (bs : List UInt8) : ∀ (i acc : Nat), 9 ≤ bs.length + i → i ≤ 8 → scan bs i acc ≠ .error 0 := by
  induction bs with
  | nil => intro i acc hk hi; simp at hk; omega
  | cons b bs ih =>
    intro i acc hk hi
    rw [List.length_cons] at hk
    by_cases h1 : 128 ≤ b.toNat ∧ i + 1 = 9
    · rw [scan_big h1]; simp
    by_cases h2 : b.toNat = 0 ∧ 0 < i
    · rw [scan_zero h2]; simp
    by_cases h3 : b.toNat < 128
    · rw [scan_last h2 h3]; simp
    · rw [scan_more h1 h3]
      exact ih (i + 1) _ (by omega) (by omega)

theorem drop_take67 (cs : List UInt8) (p : Nat) : (cs.take 67).drop p = (cs.drop p).take (67 - p) := by rw [List.drop_take]

theorem rdNum_win (cs : List UInt8) (p : Nat) (lo hi ab : Int) (hl : 67 ≤ cs.length) (hp : p ≤ 58) : rdNum (cs.take 67) p lo hi ab = rdNum cs p lo hi ab := by
  unfold rdNum
  rw [drop_take67, scan_take _ 0 0 (67 - p) (by omega) (by omega)]
  have hf := scan_far (cs.drop p) 0 0 (by rw [List.length_drop]; omega) (by omega)
  split
  · rename_i h; exact absurd h hf
  · rfl
  · rfl
  · rfl

theorem rInt_win (cs : List UInt8) (lo hi : Int) (s : Nat × Int × Int) (hl : 67 ≤ cs.length) (hp : s.1 ≤ 58) : rInt (cs.take 67) lo hi s = rInt cs lo hi s := by
  unfold rInt
  rw [rdNum_win cs s.1 lo hi 5 hl hp]
theorem rText_win (cs : List UInt8) (s : Nat × Int × Int) (hl : 67 ≤ cs.length) (hp : s.1 ≤ 2) : rText (cs.take 67) 64 s = rText cs 64 s := by
  unfold rText rdText
  rw [rdNum_win cs s.1 0 64 3 hl (by omega)]
  by_cases hs : s.2.1 ≠ 0
  · rw [if_pos hs, if_pos hs]
  · rw [if_neg hs, if_neg hs]
    cases hn : rdNum cs s.1 0 64 3 with
    | inl f => rfl
    | inr g =>
      obtain ⟨n, m⟩ := g
      have hb := rInt_back (bs := cs) (lo := 0) (hi := 64) (p := s.1) (x := 0) (v := n) (q := m) (y := 0) (by decide) (by decide) (by omega) (by
        unfold rInt
        rw [if_neg (by simp)]
        simp only
        have : rdNum cs s.1 0 64 5 = .inr (n, m) := by
          unfold rdNum at hn ⊢
          split at hn
          · cases hn
          · cases hn
          · cases hn
          · split at hn
            · cases hn
            · split at hn
              · cases hn
              · rename_i g1 g2
                rw [if_neg g1, if_neg g2]
                exact hn
        rw [this])
      obtain ⟨_, h0, h64, _, hm, _⟩ := hb
      simp only
      rw [if_neg (by rw [List.length_take]; omega), if_neg (by omega)]
      simp only
      rw [drop_take67, List.take_take, Nat.min_eq_left (by omega)]

theorem tk_win (cs : List UInt8) (l : Nat) (hl : Ltr l) (j : Ins) (s : Nat × Int × Int) (h67 : 67 ≤ cs.length) (hp : s.1 ≤ 58) (ht : l = 83 → s.1 ≤ 2) : tk (cs.take 67) l j s = tk cs l j s := by
  unfold tk
  by_cases h5 : fld l = 5
  · have hl83 : l = 83 := by rcases hl with rfl | rfl | rfl | rfl | rfl | rfl <;> first | rfl | exact absurd h5 (by decide)
    rw [if_pos h5, if_pos h5, rText_win cs s h67 (ht hl83)]
  · rw [if_neg h5, if_neg h5, rInt_win cs _ _ s h67 hp]

/-- With a fault all readers tell the same. -/
theorem tk_shut (cs ds : List UInt8) (l : Nat) (j : Ins) (s : Nat × Int × Int) (h : s.2.1 ≠ 0) : tk cs l j s = tk ds l j s := by
  unfold tk rText rInt
  simp only [if_pos h]
theorem tks_shut (cs ds : List UInt8) : ∀ (ls : List Nat) (j : Ins) (s : Nat × Int × Int), s.2.1 ≠ 0 → tks cs ls (j, s) = tks ds ls (j, s)
  | [], _, _, _ => rfl
  | l :: ls, j, s, h => by
    show tks cs ls (tk cs l j s) = tks ds ls (tk ds l j s)
    rw [tk_shut cs ds l j s h]
    have e := tk_sticks ds l j s h
    rw [show tk ds l j s = ((tk ds l j s).1, s) from Prod.ext rfl e]
    exact tks_shut cs ds ls _ s h

/-- A thing that is no text has one byte. -/
theorem tk_next (cs : List UInt8) (l : Nat) (hl : Ltr l) (h83 : l ≠ 83) (j : Ins) (p : Nat) (x : Int) (hp : p ≤ cs.length) (h0 : (tk cs l j (p, 0, x)).2.2.1 = 0) : (tk cs l j (p, 0, x)).2.1 = p + 1 := by
  have hb := tk_back l hl cs j p x hp h0
  rw [hb.2.2.2.1]
  have : (encL l (tk cs l j (p, 0, x)).1).length = 1 := by
    unfold encL
    rw [if_neg (fun e => h83 (by rcases hl with rfl | rfl | rfl | rfl | rfl | rfl <;> first | rfl | exact absurd e (by decide)))]
    rfl
  omega

theorem tks_win (cs : List UInt8) (h67 : 67 ≤ cs.length) (ls : List Nat) : ∀ (j : Ins) (p : Nat) (x : Int), (∀ l ∈ ls, Ltr l) → p + ls.length ≤ 50 → (∀ k, ls[k]? = some 83 → p + k ≤ 2 ∧ k + 1 = ls.length) → tks (cs.take 67) ls (j, (p, 0, x)) = tks cs ls (j, (p, 0, x)) := by
  induction ls with
  | nil => intro j p x _ _ _; rfl
  | cons l ls ih =>
    intro j p x hL hp ht
    rw [List.length_cons] at hp
    show tks _ ls (tk (cs.take 67) l j (p, 0, x)) = tks cs ls (tk cs l j (p, 0, x))
    rw [tk_win cs l (hL l (List.mem_cons_self ..)) j (p, 0, x) h67 (by show p ≤ 58; omega) (fun e => by have := (ht 0 (by rw [e]; rfl)).1; show p ≤ 2; omega)]
    by_cases he : (tk cs l j (p, 0, x)).2.2.1 = 0
    · by_cases h83 : l = 83
      · have hnil := (ht 0 (by rw [h83]; rfl)).2
        have : ls = [] := List.eq_nil_of_length_eq_zero (by simpa using hnil)
        subst this
        rfl
      · have hn := tk_next cs l (hL l (List.mem_cons_self ..)) h83 j p x (by omega) he
        cases htk : tk cs l j (p, 0, x) with
        | mk j1 s1 =>
          obtain ⟨q, e, y⟩ := s1
          rw [htk] at he hn
          obtain rfl : e = 0 := he
          obtain rfl : q = p + 1 := hn
          exact ih j1 (p + 1) y (fun l hl => hL l (List.mem_cons_of_mem _ hl)) (by omega) (fun k hk => by have := ht (k + 1) (by simpa using hk); rw [List.length_cons] at this; omega)
    · cases htk : tk cs l j (p, 0, x) with
      | mk j1 s1 =>
        rw [htk] at he
        exact tks_shut _ _ ls j1 s1 he

/-! Bytes ahead shift the places alone. -/
def Sh (a : Nat) (X Y : Ins × (Nat × Int × Int)) : Prop := X.1 = Y.1 ∧ X.2.1 = a + Y.2.1 ∧ X.2.2.1 = Y.2.2.1 ∧ (Y.2.2.1 ≠ 0 → X.2.2.2 = a + Y.2.2.2)

theorem rdNum_sh (bs : List UInt8) (a p : Nat) (ha : a ≤ bs.length) (lo hi ab : Int) :
    rdNum bs (a + p) lo hi ab = match rdNum (bs.drop a) p lo hi ab with
      | .inl (e, x) => .inl (e, a + x)
      | .inr (n, m) => .inr (n, a + m) := by
  unfold rdNum
  rw [List.drop_drop]
  cases scan (bs.drop (a + p)) 0 0 with
  | error x =>
    match x with
    | 0 => simp only [List.length_drop]; congr 2; omega
    | 1 => simp only [Int.natCast_add]
    | x + 2 => simp only [Int.natCast_add]
  | ok g =>
    obtain ⟨n, k⟩ := g
    simp only
    by_cases h1 : (n : Int) < lo
    · rw [if_pos h1, if_pos h1]; simp only [Int.natCast_add]
    · rw [if_neg h1, if_neg h1]
      by_cases h2 : hi < (n : Int)
      · rw [if_pos h2, if_pos h2]; simp only [Int.natCast_add]
      · rw [if_neg h2, if_neg h2]; simp only [Nat.add_assoc]

theorem rInt_sh (bs : List UInt8) (a : Nat) (ha : a ≤ bs.length) (lo hi : Int) (s s' : Nat × Int × Int) (h1 : s.1 = a + s'.1) (h2 : s.2.1 = s'.2.1) (h3 : s'.2.1 ≠ 0 → s.2.2 = a + s'.2.2) :
    (rInt bs lo hi s).1 = (rInt (bs.drop a) lo hi s').1 ∧ (rInt bs lo hi s).2.1 = a + (rInt (bs.drop a) lo hi s').2.1 ∧ (rInt bs lo hi s).2.2.1 = (rInt (bs.drop a) lo hi s').2.2.1 ∧ ((rInt (bs.drop a) lo hi s').2.2.1 ≠ 0 → (rInt bs lo hi s).2.2.2 = a + (rInt (bs.drop a) lo hi s').2.2.2) := by
  obtain ⟨p, e, x⟩ := s
  obtain ⟨p', e', x'⟩ := s'
  obtain rfl : p = a + p' := h1
  obtain rfl : e = e' := h2
  unfold rInt
  by_cases he : e ≠ 0
  · rw [if_pos he, if_pos he]
    exact ⟨rfl, rfl, rfl, h3⟩
  · rw [if_neg he, if_neg he]
    simp only
    rw [rdNum_sh bs a p' ha lo hi 5]
    cases rdNum (bs.drop a) p' lo hi 5 with
    | inl f => obtain ⟨e1, x1⟩ := f; exact ⟨rfl, rfl, rfl, fun _ => rfl⟩
    | inr g => obtain ⟨n, m⟩ := g; exact ⟨rfl, rfl, rfl, fun h => absurd rfl h⟩

theorem rText_sh (bs : List UInt8) (a : Nat) (ha : a ≤ bs.length) (most : Int) (s s' : Nat × Int × Int) (h1 : s.1 = a + s'.1) (h2 : s.2.1 = s'.2.1) (h3 : s'.2.1 ≠ 0 → s.2.2 = a + s'.2.2) :
    (rText bs most s).1 = (rText (bs.drop a) most s').1 ∧ (rText bs most s).2.1 = a + (rText (bs.drop a) most s').2.1 ∧ (rText bs most s).2.2.1 = (rText (bs.drop a) most s').2.2.1 ∧ ((rText (bs.drop a) most s').2.2.1 ≠ 0 → (rText bs most s).2.2.2 = a + (rText (bs.drop a) most s').2.2.2) := by
  obtain ⟨p, e, x⟩ := s
  obtain ⟨p', e', x'⟩ := s'
  obtain rfl : p = a + p' := h1
  obtain rfl : e = e' := h2
  unfold rText rdText
  by_cases he : e ≠ 0
  · rw [if_pos he, if_pos he]
    exact ⟨rfl, rfl, rfl, h3⟩
  · rw [if_neg he, if_neg he]
    simp only
    rw [rdNum_sh bs a p' ha 0 most 3]
    cases rdNum (bs.drop a) p' 0 most 3 with
    | inl f => obtain ⟨e1, x1⟩ := f; exact ⟨rfl, rfl, rfl, fun _ => rfl⟩
    | inr g =>
      obtain ⟨n, m⟩ := g
      simp only
      by_cases hl : bs.length < a + m + n
      · rw [if_pos hl, if_pos (by rw [List.length_drop]; omega)]
        refine ⟨rfl, rfl, rfl, fun _ => ?_⟩
        show (bs.length : Int) = a + ((bs.drop a).length : Int)
        rw [List.length_drop]
        omega
      · rw [if_neg hl, if_neg (by rw [List.length_drop]; omega)]
        refine ⟨?_, ?_, rfl, fun h => absurd rfl h⟩
        · show (bs.drop (a + m)).take n = ((bs.drop a).drop m).take n
          rw [List.drop_drop]
        · show a + m + n = a + (m + n)
          omega

theorem tk_sh (bs : List UInt8) (a : Nat) (ha : a ≤ bs.length) (l : Nat) (X Y : Ins × (Nat × Int × Int)) (h : Sh a X Y) : Sh a (tk bs l X.1 X.2) (tk (bs.drop a) l Y.1 Y.2) := by
  obtain ⟨j, s⟩ := X
  obtain ⟨j', s'⟩ := Y
  obtain ⟨h0, h1, h2, h3⟩ := h
  obtain rfl : j = j' := h0
  unfold tk
  by_cases h5 : fld l = 5
  · rw [if_pos h5, if_pos h5]
    obtain ⟨g0, g1, g2, g3⟩ := rText_sh bs a ha 64 s s' h1 h2 h3
    exact ⟨by show ({ j with s := _ } : Ins) = { j with s := _ }; rw [g0], g1, g2, g3⟩
  · rw [if_neg h5, if_neg h5]
    obtain ⟨g0, g1, g2, g3⟩ := rInt_sh bs a ha (lowL l) (highL l) s s' h1 h2 h3
    exact ⟨by show j.put _ _ = j.put _ _; rw [g0], g1, g2, g3⟩
theorem tks_sh (bs : List UInt8) (a : Nat) (ha : a ≤ bs.length) : ∀ (ls : List Nat) (X Y : Ins × (Nat × Int × Int)), Sh a X Y → Sh a (tks bs ls X) (tks (bs.drop a) ls Y)
  | [], _, _, h => h
  | l :: ls, X, Y, h => tks_sh bs a ha ls _ _ (tk_sh bs a ha l X Y h)

theorem last83 : ∀ m : Fin 16, ∀ k : Fin 5, (ltrs m.val)[k.val]? = some 83 → 1 + k.val ≤ 2 ∧ k.val + 1 = (ltrs m.val).length := by decide

theorem rdI_win (cs : List UInt8) : rdI (cs.take 67) = rdI cs := by
  by_cases h67 : 67 ≤ cs.length
  · unfold rdI
    rw [rInt_win cs 1 15 (0, 0, 0) h67 (by decide)]
    cases hr : rInt cs 1 15 (0, 0, 0) with
    | mk v s =>
      obtain ⟨q, e, y⟩ := s
      simp only
      by_cases he : e = 0
      · subst he
        obtain ⟨rfl, h1, h2, _, h4, _⟩ := rInt_back (by decide) (by decide) (Nat.zero_le _) hr
        obtain rfl : q = 1 := by omega
        obtain ⟨m, rfl⟩ : ∃ m : Nat, v = m := ⟨v.toNat, by omega⟩
        rw [Int.toNat_natCast]
        have hm : m < 16 := by omega
        have hlen := (ltrs_nodup m (by omega)).2
        refine tks_win cs h67 (ltrs m) _ 1 0 (ltrs_ok m (by omega)) (by omega) (fun k hk => ?_)
        have hk5 : k < 5 := by
          have := (List.getElem?_eq_some_iff.1 hk).1
          omega
        exact last83 ⟨m, hm⟩ ⟨k, hk5⟩ hk
      · exact tks_shut _ _ _ _ _ he
  · rw [List.take_of_length_le (by omega)]

/-- What the document's Read tells, from a place within the bytes. -/
def refR (bs : List UInt8) (a : Nat) : Ins × Int × Int × Int :=
  endR (tks bs (ltrs (rInt bs 1 15 (a, 0, 0)).1.toNat) (⟨(rInt bs 1 15 (a, 0, 0)).1, 0, 0, 0, 0, ⟨#[]⟩⟩, (rInt bs 1 15 (a, 0, 0)).2)).1 (tks bs (ltrs (rInt bs 1 15 (a, 0, 0)).1.toNat) (⟨(rInt bs 1 15 (a, 0, 0)).1, 0, 0, 0, 0, ⟨#[]⟩⟩, (rInt bs 1 15 (a, 0, 0)).2)).2
theorem refR_eq (bs : List UInt8) (a : Nat) (ha : a ≤ bs.length) : refR bs a = readR bs (a : Int) := by
  have h0 := rInt_sh bs a ha 1 15 (a, 0, 0) (0, 0, 0) (by rfl) rfl (fun h => absurd rfl h)
  have hS : Sh a (⟨(rInt bs 1 15 (a, 0, 0)).1, 0, 0, 0, 0, ⟨#[]⟩⟩, (rInt bs 1 15 (a, 0, 0)).2) (⟨(rInt (bs.drop a) 1 15 (0, 0, 0)).1, 0, 0, 0, 0, ⟨#[]⟩⟩, (rInt (bs.drop a) 1 15 (0, 0, 0)).2) :=
    ⟨by rw [h0.1], h0.2.1, h0.2.2.1, h0.2.2.2⟩
  have h := tks_sh bs a ha (ltrs (rInt (bs.drop a) 1 15 (0, 0, 0)).1.toNat) _ _ hS
  have hw : rdI (win bs a) = rdI (bs.drop a) := rdI_win (bs.drop a)
  have hI : rdI (bs.drop a) = tks (bs.drop a) (ltrs (rInt (bs.drop a) 1 15 (0, 0, 0)).1.toNat) (⟨(rInt (bs.drop a) 1 15 (0, 0, 0)).1, 0, 0, 0, 0, ⟨#[]⟩⟩, (rInt (bs.drop a) 1 15 (0, 0, 0)).2) := rfl
  rw [← hI] at h
  have hR : refR bs a = endR (tks bs (ltrs (rInt (bs.drop a) 1 15 (0, 0, 0)).1.toNat) (⟨(rInt bs 1 15 (a, 0, 0)).1, 0, 0, 0, 0, ⟨#[]⟩⟩, (rInt bs 1 15 (a, 0, 0)).2)).1 (tks bs (ltrs (rInt (bs.drop a) 1 15 (0, 0, 0)).1.toNat) (⟨(rInt bs 1 15 (a, 0, 0)).1, 0, 0, 0, 0, ⟨#[]⟩⟩, (rInt bs 1 15 (a, 0, 0)).2)).2 := by
    unfold refR
    rw [h0.1]
  rw [hR]
  unfold readR
  rw [if_neg (by omega), Int.toNat_natCast, hw]
  generalize tks bs _ _ = X at *
  generalize rdI (bs.drop a) = Y at *
  obtain ⟨g0, g1, g2, g3⟩ := h
  unfold endR
  rw [g0, g2]
  by_cases he : Y.2.2.1 = 0
  · rw [if_pos he, if_pos he, g1, Int.natCast_add]
  · rw [if_neg he, if_neg he, g3 he]

end Go.Proofs.Ytpieaenfnajlfaa
