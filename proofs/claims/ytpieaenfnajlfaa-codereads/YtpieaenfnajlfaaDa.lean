/- Code, on paper: what is read is told as its bytes. -/
import Derived.Test.YtpieaenfnajlfaaCz
namespace Go.Proofs.Ytpieaenfnajlfaa
open Go.RowKit Go.IntWalk Go.Lib
set_option linter.unusedSimpArgs false
set_option linter.unusedVariables false

theorem scan_low (bs : List UInt8) : ∀ (i acc n k : Nat), 0 < i → scan bs i acc = .ok (n, k) → 128 ^ i ≤ n := by
  induction bs with
  | nil => intro i acc n k _ h; simp [scan] at h
  | cons b bs ih =>
    intro i acc n k hi h
    by_cases h1 : 128 ≤ b.toNat ∧ i + 1 = 9
    · rw [scan_big h1] at h; cases h
    by_cases h2 : b.toNat = 0 ∧ 0 < i
    · rw [scan_zero h2] at h; cases h
    by_cases h3 : b.toNat < 128
    · rw [scan_last h2 h3] at h
      simp only [Except.ok.injEq, Prod.mk.injEq] at h
      have hb : 1 ≤ b.toNat := by omega
      have : 1 * 128 ^ i ≤ b.toNat % 128 * 128 ^ i := Nat.mul_le_mul_right _ (by omega)
      omega
    · rw [scan_more h1 h3] at h
      have := ih (i + 1) _ n k (by omega) h
      have e : 128 ^ (i + 1) = 128 ^ i * 128 := Nat.pow_succ ..
      have hp : 0 < 128 ^ i := Nat.pow_pos (by decide)
      omega

theorem scan_small (bs : List UInt8) (n k : Nat) (hn : n ≤ 127) (h : scan bs 0 0 = .ok (n, k)) : k = 1 ∧ ∃ r, bs = UInt8.ofNat n :: r := by
  cases bs with
  | nil => simp [scan] at h
  | cons b bs =>
    by_cases h3 : b.toNat < 128
    · rw [scan_last (by omega) h3] at h
      simp only [Except.ok.injEq, Prod.mk.injEq] at h
      have e : n = b.toNat := by have := h.1; simp at this; omega
      refine ⟨by omega, bs, ?_⟩
      rw [e]
      simp
    · rw [scan_more (by omega) h3] at h
      have := scan_low bs 1 _ n k (by omega) h
      omega

/-- A number of one byte was read. -/
theorem rInt_back {bs : List UInt8} {lo hi : Int} {p : Nat} {x : Int} {v : Int} {q : Nat} {y : Int} (hhi : hi ≤ 127) (hlo : 0 ≤ lo) (hp : p ≤ bs.length) (h : rInt bs lo hi (p, 0, x) = (v, (q, 0, y))) :
    y = x ∧ lo ≤ v ∧ v ≤ hi ∧ bs.drop p = UInt8.ofNat v.toNat :: bs.drop q ∧ q = p + 1 ∧ q ≤ bs.length := by
  unfold rInt at h
  rw [if_neg (by simp)] at h
  simp only at h
  cases hr : rdNum bs p lo hi 5 with
  | inl f =>
    rw [hr] at h
    simp only [Prod.mk.injEq] at h
    obtain ⟨_, _, e, _⟩ := h
    unfold rdNum at hr
    split at hr <;> (try (simp at hr; rw [← hr] at e; simp at e; done))
    split at hr
    · simp at hr; rw [← hr] at e; simp at e
    · split at hr
      · simp at hr; rw [← hr] at e; simp at e
      · cases hr
  | inr g =>
    obtain ⟨n, m⟩ := g
    rw [hr] at h
    simp only [Prod.mk.injEq] at h
    obtain ⟨rfl, rfl, _, rfl⟩ := h
    unfold rdNum at hr
    split at hr
    · cases hr
    · cases hr
    · cases hr
    · rename_i n' k' hs
      split at hr
      · cases hr
      · split at hr
        · cases hr
        · simp only [Sum.inr.injEq, Prod.mk.injEq] at hr
          obtain ⟨rfl, rfl⟩ := hr
          obtain ⟨rfl, r, hr⟩ := scan_small _ _ _ (by omega) hs
          have hq : p + 1 ≤ bs.length := by
            have := congrArg List.length hr
            simp at this
            omega
          refine ⟨rfl, by omega, by omega, ?_, rfl, hq⟩
          have e : bs.drop (p + 1) = (bs.drop p).drop 1 := by rw [List.drop_drop]
          rw [e, hr, Int.toNat_natCast]
          rfl

theorem rText_back {bs : List UInt8} {p : Nat} {x : Int} {v : List UInt8} {q : Nat} {y : Int} (hp : p ≤ bs.length) (h : rText bs 64 (p, 0, x) = (v, (q, 0, y))) :
    y = x ∧ v.length ≤ 64 ∧ bs.drop p = UInt8.ofNat v.length :: v ++ bs.drop q ∧ q = p + 1 + v.length ∧ q ≤ bs.length := by
  unfold rText at h
  rw [if_neg (by simp)] at h
  simp only at h
  cases hr : rdText bs p 64 with
  | inl f =>
    rw [hr] at h
    simp only [Prod.mk.injEq] at h
    obtain ⟨_, _, e, _⟩ := h
    unfold rdText at hr
    split at hr
    · rename_i g hg
      obtain rfl := Sum.inl.inj hr
      unfold rdNum at hg
      split at hg <;> (try (simp at hg; rw [← hg] at e; simp at e; done))
      split at hg
      · simp at hg; rw [← hg] at e; simp at e
      · split at hg
        · simp at hg; rw [← hg] at e; simp at e
        · cases hg
    · split at hr
      · simp at hr; rw [← hr] at e; simp at e
      · cases hr
  | inr g =>
    obtain ⟨v', m⟩ := g
    rw [hr] at h
    simp only [Prod.mk.injEq] at h
    obtain ⟨rfl, rfl, _, rfl⟩ := h
    unfold rdText at hr
    split at hr
    · cases hr
    · rename_i n m' hg
      split at hr
      · cases hr
      · rename_i hlen
        simp only [Sum.inr.injEq, Prod.mk.injEq] at hr
        obtain ⟨rfl, rfl⟩ := hr
        have hb := rInt_back (bs := bs) (lo := 0) (hi := 64) (p := p) (x := x) (v := n) (q := m') (y := x) (by decide) (by decide) hp (by
          unfold rInt
          rw [if_neg (by simp)]
          simp only
          have : rdNum bs p 0 64 5 = .inr (n, m') := by
            unfold rdNum at hg ⊢
            split at hg
            · cases hg
            · cases hg
            · cases hg
            · rename_i n' k' hs
              split at hg
              · cases hg
              · split at hg
                · cases hg
                · rename_i g1 g2
                  rw [if_neg g1, if_neg g2]
                  exact hg
          rw [this])
        obtain ⟨_, h0, h64, hd, rfl, hq⟩ := hb
        have hvl : ((bs.drop (p + 1)).take n).length = n := by rw [List.length_take, List.length_drop]; omega
        refine ⟨rfl, by omega, ?_, by omega, by omega⟩
        rw [hvl, hd, Int.toNat_natCast]
        show UInt8.ofNat n :: bs.drop (p + 1) = UInt8.ofNat n :: ((bs.drop (p + 1)).take n ++ bs.drop (p + 1 + n))
        rw [show bs.drop (p + 1 + n) = (bs.drop (p + 1)).drop n from (List.drop_drop ..).symm, List.take_append_drop]

theorem same_put (j : Ins) (g : Nat) (v : Int) (f : Nat) (h1 : 1 ≤ f) (h5 : f ≤ 5) (hg : 1 ≤ g ∧ g ≤ 4) (hne : f ≠ g) : same f j (j.put g v) := by
  obtain rfl | rfl | rfl | rfl : g = 1 ∨ g = 2 ∨ g = 3 ∨ g = 4 := by omega
  all_goals obtain rfl | rfl | rfl | rfl | rfl : f = 1 ∨ f = 2 ∨ f = 3 ∨ f = 4 ∨ f = 5 := by omega
  all_goals first | rfl | exact absurd rfl hne

/-- A thing was read: it fits, its bytes were passed over, nothing else was changed. -/
theorem tk_back (l : Nat) (hl : Ltr l) (cs : List UInt8) (j : Ins) (p : Nat) (x : Int) (hp : p ≤ cs.length) (h0 : (tk cs l j (p, 0, x)).2.2.1 = 0) :
    fitsB l (tk cs l j (p, 0, x)).1 = true ∧ (tk cs l j (p, 0, x)).2.2.2 = x ∧ cs.drop p = encL l (tk cs l j (p, 0, x)).1 ++ cs.drop (tk cs l j (p, 0, x)).2.1 ∧ (tk cs l j (p, 0, x)).2.1 = p + (encL l (tk cs l j (p, 0, x)).1).length ∧ (tk cs l j (p, 0, x)).2.1 ≤ cs.length ∧
      (tk cs l j (p, 0, x)).1.op = j.op ∧ ∀ f, 1 ≤ f → f ≤ 5 → f ≠ fld l → same f j (tk cs l j (p, 0, x)).1 := by
  have num : ∀ (g : Nat) (lo hi : Int), (1 ≤ g ∧ g ≤ 4) → hi ≤ 127 → 0 ≤ lo → (rInt cs lo hi (p, 0, x)).2.2.1 = 0 → ∃ v q, rInt cs lo hi (p, 0, x) = (v, (q, 0, x)) ∧ lo ≤ v ∧ v ≤ hi ∧ cs.drop p = UInt8.ofNat v.toNat :: cs.drop q ∧ q = p + 1 ∧ q ≤ cs.length := fun g lo hi hg hh hlo he => by
    cases hr : rInt cs lo hi (p, 0, x) with
    | mk v s =>
      obtain ⟨q, e, y⟩ := s
      rw [hr] at he
      obtain rfl : e = 0 := he
      obtain ⟨rfl, h1, h2, h3, h4, h5⟩ := rInt_back hh hlo hp hr
      exact ⟨v, q, rfl, h1, h2, h3, h4, h5⟩
  have opput : ∀ (g : Nat) (v : Int), (j.put g v).op = j.op := fun g v => by
    unfold Ins.put
    split
    · rfl
    split
    · rfl
    split <;> rfl
  rcases hl with rfl | rfl | rfl | rfl | rfl | rfl
  · have hh : (rInt cs 0 7 (p, 0, x)).2.2.1 = 0 := h0
    obtain ⟨v, q, hr, h1, h2, h3, h4, h5⟩ := num 1 0 7 (by decide) (by decide) (by decide) hh
    have ht : tk cs 65 j (p, 0, x) = (j.put 1 v, (q, 0, x)) := by
      show (j.put 1 (rInt cs 0 7 (p, 0, x)).1, (rInt cs 0 7 (p, 0, x)).2) = _
      rw [hr]
    rw [ht]
    exact ⟨(fb1 _).2 ⟨h1, h2⟩, rfl, h3, h4, h5, opput 1 v, fun f hf1 hf5 hne => same_put j 1 v f hf1 hf5 (by decide) hne⟩
  · have hh : (rInt cs 0 7 (p, 0, x)).2.2.1 = 0 := h0
    obtain ⟨v, q, hr, h1, h2, h3, h4, h5⟩ := num 2 0 7 (by decide) (by decide) (by decide) hh
    have ht : tk cs 66 j (p, 0, x) = (j.put 2 v, (q, 0, x)) := by
      show (j.put 2 (rInt cs 0 7 (p, 0, x)).1, (rInt cs 0 7 (p, 0, x)).2) = _
      rw [hr]
    rw [ht]
    exact ⟨(fb2 _).2 ⟨h1, h2⟩, rfl, h3, h4, h5, opput 2 v, fun f hf1 hf5 hne => same_put j 2 v f hf1 hf5 (by decide) hne⟩
  · have hh : (rInt cs 0 7 (p, 0, x)).2.2.1 = 0 := h0
    obtain ⟨v, q, hr, h1, h2, h3, h4, h5⟩ := num 3 0 7 (by decide) (by decide) (by decide) hh
    have ht : tk cs 67 j (p, 0, x) = (j.put 3 v, (q, 0, x)) := by
      show (j.put 3 (rInt cs 0 7 (p, 0, x)).1, (rInt cs 0 7 (p, 0, x)).2) = _
      rw [hr]
    rw [ht]
    exact ⟨(fb3 _).2 ⟨h1, h2⟩, rfl, h3, h4, h5, opput 3 v, fun f hf1 hf5 hne => same_put j 3 v f hf1 hf5 (by decide) hne⟩
  · have hh : (rInt cs 1 16 (p, 0, x)).2.2.1 = 0 := h0
    obtain ⟨v, q, hr, h1, h2, h3, h4, h5⟩ := num 4 1 16 (by decide) (by decide) (by decide) hh
    have ht : tk cs 69 j (p, 0, x) = (j.put 4 v, (q, 0, x)) := by
      show (j.put 4 (rInt cs 1 16 (p, 0, x)).1, (rInt cs 1 16 (p, 0, x)).2) = _
      rw [hr]
    rw [ht]
    exact ⟨(fb4 _).2 ⟨h1, h2⟩, rfl, h3, h4, h5, opput 4 v, fun f hf1 hf5 hne => same_put j 4 v f hf1 hf5 (by decide) hne⟩
  · have hh : (rInt cs 1 60 (p, 0, x)).2.2.1 = 0 := h0
    obtain ⟨v, q, hr, h1, h2, h3, h4, h5⟩ := num 4 1 60 (by decide) (by decide) (by decide) hh
    have ht : tk cs 80 j (p, 0, x) = (j.put 4 v, (q, 0, x)) := by
      show (j.put 4 (rInt cs 1 60 (p, 0, x)).1, (rInt cs 1 60 (p, 0, x)).2) = _
      rw [hr]
    rw [ht]
    exact ⟨(fb5 _).2 ⟨h1, h2⟩, rfl, h3, h4, h5, opput 4 v, fun f hf1 hf5 hne => same_put j 4 v f hf1 hf5 (by decide) hne⟩
  · obtain hr : ∃ v s, rText cs 64 (p, 0, x) = (v, s) := ⟨_, _, rfl⟩
    obtain ⟨v, ⟨q, e, y⟩, hr⟩ := hr
    have ht : tk cs 83 j (p, 0, x) = ({ j with s := ⟨v.toArray⟩ }, (q, e, y)) := by
      show ({ j with s := ⟨(rText cs 64 (p, 0, x)).1.toArray⟩ }, (rText cs 64 (p, 0, x)).2) = _
      rw [hr]
    rw [ht] at h0 ⊢
    obtain rfl : e = 0 := h0
    obtain ⟨rfl, h1, h2, h3, h4⟩ := rText_back hp hr
    have hsz : (⟨v.toArray⟩ : ByteArray).size = v.length := rfl
    refine ⟨(fb6 _).2 (by show ((⟨v.toArray⟩ : ByteArray).size : Int) ≤ 64; rw [hsz]; omega), rfl, ?_, ?_, h4, rfl, fun f hf1 hf5 hne => ?_⟩
    · show cs.drop p = UInt8.ofNat (⟨v.toArray⟩ : ByteArray).size :: v ++ cs.drop q
      rw [hsz]
      exact h2
    · show q = p + (UInt8.ofNat (⟨v.toArray⟩ : ByteArray).size :: v).length
      rw [List.length_cons]
      omega
    · obtain rfl | rfl | rfl | rfl | rfl : f = 1 ∨ f = 2 ∨ f = 3 ∨ f = 4 ∨ f = 5 := by omega
      all_goals first | rfl | exact absurd rfl hne

theorem same_fits {l : Nat} (hl : Ltr l) {i j : Ins} (h : same (fld l) i j) : fitsB l i = fitsB l j ∧ encL l i = encL l j := by
  rcases hl with rfl | rfl | rfl | rfl | rfl | rfl
  all_goals (unfold same at h; simp only [fld] at h; simp [fitsB, encL, fld] at h ⊢; simp [h])

theorem tks_back (ls : List Nat) (cs : List UInt8) : ∀ (j : Ins) (p : Nat) (x : Int), (∀ l ∈ ls, Ltr l) → (ls.map fld).Nodup → p ≤ cs.length → (tks cs ls (j, (p, 0, x))).2.2.1 = 0 →
    (∀ l ∈ ls, fitsB l (tks cs ls (j, (p, 0, x))).1 = true) ∧ (tks cs ls (j, (p, 0, x))).2.2.2 = x ∧ cs.drop p = encs ls (tks cs ls (j, (p, 0, x))).1 ++ cs.drop (tks cs ls (j, (p, 0, x))).2.1 ∧ (tks cs ls (j, (p, 0, x))).2.1 = p + (encs ls (tks cs ls (j, (p, 0, x))).1).length ∧
      (tks cs ls (j, (p, 0, x))).2.1 ≤ cs.length ∧ (tks cs ls (j, (p, 0, x))).1.op = j.op ∧ ∀ f, 1 ≤ f → f ≤ 5 → f ∉ ls.map fld → same f j (tks cs ls (j, (p, 0, x))).1 := by
  induction ls with
  | nil => intro j p x _ _ hp _; exact ⟨(fun l hl => by cases hl), rfl, rfl, rfl, hp, rfl, fun f _ _ _ => same.rfl'⟩
  | cons l ls ih =>
    intro j p x hL hn hp h0
    have hn' := List.nodup_cons.1 (show (fld l :: ls.map fld).Nodup from hn)
    have hstep : tks cs (l :: ls) (j, (p, 0, x)) = tks cs ls (tk cs l j (p, 0, x)) := rfl
    rw [hstep] at h0 ⊢
    have he : (tk cs l j (p, 0, x)).2.2.1 = 0 := by
      by_cases e : (tk cs l j (p, 0, x)).2.2.1 = 0
      · exact e
      · have := tks_sticks cs ls (tk cs l j (p, 0, x)).1 (tk cs l j (p, 0, x)).2 e
        rw [show ((tk cs l j (p, 0, x)).1, (tk cs l j (p, 0, x)).2) = tk cs l j (p, 0, x) from rfl] at this
        rw [this] at h0
        exact absurd h0 e
    obtain ⟨a1, a2, a3, a4, a5, a6, a7⟩ := tk_back l (hL l (List.mem_cons_self ..)) cs j p x hp he
    cases htk : tk cs l j (p, 0, x) with
    | mk j1 s1 =>
      obtain ⟨q, e, y⟩ := s1
      rw [htk] at h0 he a1 a2 a3 a4 a5 a6 a7
      dsimp only at he a1 a2 a3 a4 a5 a6 a7
      subst he a2
      obtain ⟨b1, b2, b3, b4, b5, b6, b7⟩ := ih j1 q y (fun l hl => hL l (List.mem_cons_of_mem _ hl)) hn'.2 a5 h0
      have hs := b7 (fld l) (by rcases hL l (List.mem_cons_self ..) with rfl | rfl | rfl | rfl | rfl | rfl <;> decide) (by rcases hL l (List.mem_cons_self ..) with rfl | rfl | rfl | rfl | rfl | rfl <;> decide) hn'.1
      obtain ⟨c1, c2⟩ := same_fits (hL l (List.mem_cons_self ..)) hs
      refine ⟨fun l' hl' => ?_, b2, ?_, ?_, b5, b6.trans a6, fun f hf1 hf5 hf => ?_⟩
      · rcases List.mem_cons.1 hl' with rfl | h
        · rw [← c1]; exact a1
        · exact b1 l' h
      · rw [show encs (l :: ls) (tks cs ls (j1, (q, 0, y))).1 = encL l (tks cs ls (j1, (q, 0, y))).1 ++ encs ls (tks cs ls (j1, (q, 0, y))).1 from rfl, ← c2, a3, List.append_assoc, ← b3]
      · rw [show encs (l :: ls) (tks cs ls (j1, (q, 0, y))).1 = encL l (tks cs ls (j1, (q, 0, y))).1 ++ encs ls (tks cs ls (j1, (q, 0, y))).1 from rfl, ← c2, List.length_append]
        omega
      · have hf' : f ≠ fld l ∧ f ∉ ls.map fld := by simpa [not_or] using hf
        exact (a7 f hf1 hf5 hf'.1).trans (b7 f hf1 hf5 hf'.2)

theorem blank_of (m : Nat) (h1 : 1 ≤ m) (h2 : m ≤ 15) (i : Ins) (h : ∀ f, 1 ≤ f → f ≤ 5 → f ∉ (ltrs m).map fld → same f ⟨m, 0, 0, 0, 0, ⟨#[]⟩⟩ i) : blank (clrs (ltrs m) i) := by
  have k1 : 1 ∉ (ltrs m).map fld → i.a = 0 := fun e => (h 1 (by decide) (by decide) e).symm
  have k2 : 2 ∉ (ltrs m).map fld → i.b = 0 := fun e => (h 2 (by decide) (by decide) e).symm
  have k3 : 3 ∉ (ltrs m).map fld → i.c = 0 := fun e => (h 3 (by decide) (by decide) e).symm
  have k4 : 4 ∉ (ltrs m).map fld → i.n = 0 := fun e => (h 4 (by decide) (by decide) e).symm
  have k5 : 5 ∉ (ltrs m).map fld → i.s = ⟨#[]⟩ := fun e => (h 5 (by decide) (by decide) e).symm
  clear h
  obtain rfl | rfl | rfl | rfl | rfl | rfl | rfl | rfl | rfl | rfl | rfl | rfl | rfl | rfl | rfl : m = 1 ∨ m = 2 ∨ m = 3 ∨ m = 4 ∨ m = 5 ∨ m = 6 ∨ m = 7 ∨ m = 8 ∨ m = 9 ∨ m = 10 ∨ m = 11 ∨ m = 12 ∨ m = 13 ∨ m = 14 ∨ m = 15 := by omega
  all_goals exact ⟨by first | rfl | exact k1 (by decide), by first | rfl | exact k2 (by decide), by first | rfl | exact k3 (by decide), by first | rfl | exact k4 (by decide), by first | rfl | exact k5 (by decide)⟩

/-- What is read of any bytes may be, and is told as the bytes that it was read from. -/
theorem rdI_back (cs : List UInt8) (h : (rdI cs).2.2.1 = 0) : ∃ m, Good (rdI cs).1 m ∧ cs = codeI (rdI cs).1 ++ cs.drop (rdI cs).2.1 ∧ (rdI cs).2.1 = (codeI (rdI cs).1).length ∧ (rdI cs).2.1 ≤ cs.length := by
  cases hr : rInt cs 1 15 (0, 0, 0) with
  | mk v s =>
    obtain ⟨q, e, y⟩ := s
    have hI : rdI cs = tks cs (ltrs v.toNat) (⟨v, 0, 0, 0, 0, ⟨#[]⟩⟩, (q, e, y)) := by unfold rdI; rw [hr]
    rw [hI] at h ⊢
    have he : e = 0 := by
      by_cases e0 : e = 0
      · exact e0
      · have := tks_sticks cs (ltrs v.toNat) ⟨v, 0, 0, 0, 0, ⟨#[]⟩⟩ (q, e, y) e0
        rw [this] at h
        exact absurd h e0
    subst he
    obtain ⟨rfl, h1, h2, h3, h4, h5⟩ := rInt_back (by decide) (by decide) (Nat.zero_le _) hr
    obtain ⟨m, rfl⟩ : ∃ m : Nat, v = m := ⟨v.toNat, by omega⟩
    rw [Int.toNat_natCast] at h h3 ⊢
    have hm : m ≤ 15 := by omega
    obtain ⟨b1, b2, b3, b4, b5, b6, b7⟩ := tks_back (ltrs m) cs ⟨m, 0, 0, 0, 0, ⟨#[]⟩⟩ q 0 (ltrs_ok m hm) (ltrs_nodup m hm).1 h5 h
    have hG : Good (tks cs (ltrs m) (⟨m, 0, 0, 0, 0, ⟨#[]⟩⟩, (q, 0, 0))).1 m := ⟨b6, by omega, hm, b1, (chkL_iff m hm _).2 ⟨b1, blank_of m (by omega) hm _ b7⟩⟩
    refine ⟨m, hG, ?_, ?_, b5⟩
    · rw [hG.code, List.cons_append, ← b3]
      rw [List.drop_zero] at h3
      exact h3
    · rw [hG.code, List.length_cons]
      omega

theorem readR_back (bs : List UInt8) (h : (readR bs 0).2.2.1 = 0) : ∃ m k, Good (readR bs 0).1 m ∧ codeI (readR bs 0).1 = bs.take k ∧ (readR bs 0).2.1 = (k : Int) ∧ 1 ≤ k ∧ k ≤ bs.length ∧ (readR bs 0).2.2.2 = 0 := by
  have hw : win bs 0 = bs.take 67 := by unfold win; rw [List.drop_zero]
  have h00 : ¬ ((0 : Int) < 0 ∨ (bs.length : Int) < 0) := by omega
  unfold readR at h ⊢
  rw [if_neg h00] at h ⊢
  rw [show (0 : Int).toNat = 0 from rfl, hw] at h ⊢
  by_cases e : (rdI (bs.take 67)).2.2.1 = 0
  · rw [if_pos e] at h ⊢
    obtain ⟨m, hG, h1, h2, h3⟩ := rdI_back (bs.take 67) e
    have hl := codeI_len m _ hG
    have hbl : (codeI (rdI (bs.take 67)).1).length ≤ bs.length := by rw [List.length_take] at h3; omega
    refine ⟨m, (codeI (rdI (bs.take 67)).1).length, hG, ?_, ?_, hl.1, hbl, rfl⟩
    · have := congrArg (List.take (codeI (rdI (bs.take 67)).1).length) h1
      rw [List.take_take, Nat.min_eq_left hl.2, List.take_left'] at this
      · exact this.symm
      · rfl
    · show (0 : Int) + (rdI (bs.take 67)).2.1 = _
      rw [h2]
      omega
  · rw [if_neg e] at h
    exact absurd h e

end Go.Proofs.Ytpieaenfnajlfaa
