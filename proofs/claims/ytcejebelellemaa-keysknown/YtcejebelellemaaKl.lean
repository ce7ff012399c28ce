/- Keys: joined spans, asked by binary search. -/
import Derived.Test.YtcejebelellemaaTo
import Derived.Test.YtcejebelellemaaKd
import Derived.Laws.Shifts
namespace Go.Proofs.Ytcejebelellemaa
open Go.RowKit Go.IntWalk
set_option linter.unusedSimpArgs false
set_option linter.unusedVariables false

theorem Jd.pairs : ∀ l : List Sp, Jd l → l.Pairwise (fun s t => hi s ≠ [] ∧ hi s < lo t) ∧ ∀ s ∈ l, NonE s
  | [], _ => ⟨List.Pairwise.nil, by simp⟩
  | s :: r, h => by
    obtain ⟨h1, h2⟩ := Jd.pairs r h.tail
    refine ⟨List.pairwise_cons.2 ⟨fun t ht => ?_, h1⟩, fun t ht => ?_⟩
    · have := Jd.behind r s h t ht
      exact ⟨this.1, this.2.1⟩
    · rcases List.mem_cons.1 ht with e | e
      · subst e; exact h.head
      · exact h2 t e

theorem Jd.lo_lt {l : List Sp} (h : Jd l) {i j : Nat} (hij : i < j) (hj : j < l.length) : (hi (l[i]'(by omega)) ≠ [] ∧ hi (l[i]'(by omega)) < lo l[j]) ∧ lo (l[i]'(by omega)) < lo l[j] := by
  obtain ⟨h1, h2⟩ := Jd.pairs l h
  have hp := List.pairwise_iff_getElem.1 h1 i j (by omega) hj hij
  refine ⟨hp, ?_⟩
  have hn := h2 (l[i]'(by omega)) (List.getElem_mem _)
  rcases hn with e | e
  · exact absurd e hp.1
  · exact List.lt_trans e hp.2

/-- Where a key stands among joined spans. -/
structure Stands (l : List Sp) (k : By) (n : Nat) : Prop where
  le : n ≤ l.length
  ahead : ∀ t (h : t < l.length), t < n → lo l[t] < k
  rest : ∀ t (h : t < l.length), n ≤ t → ¬ lo l[t] < k

theorem Stands.hits {l : List Sp} {k : By} {n : Nat} (h : Stands l k n) (hj : Jd l) (hn : n < l.length) (he : lo l[n] = k) : hasB l k = true := by
  rw [hasB_iff]
  obtain ⟨_, h2⟩ := Jd.pairs l hj
  exact ⟨l[n], List.getElem_mem hn, he ▸ (h2 _ (List.getElem_mem hn)).lo_in⟩

theorem Stands.last {l : List Sp} {k : By} {n : Nat} (h : Stands l k n) (hj : Jd l) (hn : 0 < n) (hne : ∀ (hh : n < l.length), lo l[n] ≠ k) : hasB l k = decide (KeyIn (l[n - 1]'(by have := h.le; omega)) k) := by
  have hle := h.le
  rw [Bool.eq_iff_iff, hasB_iff, decide_eq_true_eq]
  constructor
  · rintro ⟨s, hs, hk⟩
    obtain ⟨t, ht, rfl⟩ := List.getElem_of_mem hs
    by_cases h1 : t = n - 1
    · subst h1; exact hk
    · exfalso
      by_cases h2 : t < n
      · have h3 := (hj.lo_lt (i := t) (j := n - 1) (by omega) (by omega)).1
        have h4 := h.ahead (n - 1) (by omega) (by omega)
        rcases hk.2 with e | e
        · exact h3.1 e
        · exact List.lt_irrefl _ (List.lt_trans (List.lt_trans e h3.2) h4)
      · have h3 := h.rest n (by omega) (Nat.le_refl _)
        have h4 : k < lo (l[n]'(by omega)) := by
          rcases by_tri k (lo (l[n]'(by omega))) with e | e | e
          · exact e
          · exact absurd e.symm (hne (by omega))
          · exact absurd e h3
        by_cases h5 : t = n
        · subst h5; exact hk.1 h4
        · exact hk.1 (List.lt_trans h4 (hj.lo_lt (i := n) (j := t) (by omega) ht).2)
  · intro hk
    exact ⟨_, List.getElem_mem _, hk⟩

theorem Stands.none {l : List Sp} {k : By} (h : Stands l k 0) (hj : Jd l) (hne : ∀ (hh : 0 < l.length), lo l[0] ≠ k) : hasB l k = false := by
  cases hb : hasB l k with
  | false => rfl
  | true =>
    exfalso
    obtain ⟨s, hs, hk⟩ := (hasB_iff l k).1 hb
    obtain ⟨t, ht, rfl⟩ := List.getElem_of_mem hs
    have h4 : k < lo (l[0]'(by omega)) := by
      rcases by_tri k (lo (l[0]'(by omega))) with e | e | e
      · exact e
      · exact absurd e.symm (hne (by omega))
      · exact absurd e (h.rest 0 (by omega) (Nat.le_refl _))
    by_cases h5 : t = 0
    · subst h5; exact hk.1 h4
    · exact hk.1 (List.lt_trans h4 (hj.lo_lt (i := 0) (j := t) (by omega) ht).2)

theorem area1_any (s : Sp) (k : ByteArray) (w : World) : Calls Try.prog 55 #[.agg #[.string s.1, .string s.2], .string k] w fun e w' => e = .returned (.int .i64 (cmpS (lo s) k.toList)) ∧ Fr (fun _ => False) w w' := by
  go_enter Try.func55, Try.ntmps55
  go_wp2_with (go_at_call 56; refine (cmp_any _ _ _).mono ?_; rintro e w' ⟨rfl, rfl⟩)
  all_goals
    go_ret
    exact ⟨rfl, (Fr.refl _ _).alloc _⟩

theorem cmpS_neg (a b : By) : cmpS a b < 0 ↔ a < b := by
  unfold cmpS
  split
  · rename_i h; exact ⟨fun _ => h, fun _ => by decide⟩
  · rename_i h
    split
    · exact ⟨fun e => absurd e (by decide), fun e => absurd e h⟩
    · exact ⟨fun e => absurd e (by decide), fun e => absurd e h⟩

theorem cmpS_zero (a b : By) : cmpS a b = 0 ↔ a = b := by
  unfold cmpS
  split
  · rename_i h; exact ⟨fun e => absurd e (by decide), fun e => by subst e; exact absurd h (List.lt_irrefl _)⟩
  · split
    · rename_i h; exact ⟨fun _ => h, fun _ => rfl⟩
    · rename_i h; exact ⟨fun e => absurd e (by decide), fun e => absurd e h⟩

/-- A span begins by a key, at a place. -/
def AtLo (l : List Sp) (k : By) (n : Nat) : Prop := ∃ h : n < l.length, lo l[n] = k

def BsfPost (l : List Sp) (k : By) (w : World) (e : Ending) (w' : World) : Prop :=
  ∃ (n : Nat) (f : Bool), e = .returned (.tuple #[.int .i64 n, .bool f]) ∧ Stands l k n ∧ (f = true ↔ AtLo l k n) ∧ Fr (fun _ => False) w w'

set_option maxRecDepth 100000 in
set_option maxHeartbeats 2000000 in
theorem kbsf_any (ao : Option Addr) (cap : Nat) (l : List Sp) (k : ByteArray) (w : World) (h : l = [] ∨ SpsAt w ao l) (hj : Jd l) (hl : l.length ≤ 1000000) :
    Calls Try.prog 54 #[.slice ao l.length cap, .string k, .func (.func 55) #[] #[]] w (BsfPost l k.toList w) := by
  have HH := hideIt h
  have HJ := hideIt hj
  clear h hj
  go_enter Try.func54, Try.ntmps54
  go_wp2_with fail
  go_loopw [9, 10] (fun s9 s10 wr => ∃ i j : Nat, s9 = .int .i64 i ∧ s10 = .int .i64 j ∧ i ≤ j ∧ j ≤ l.length ∧ Hid ((∀ t (h : t < l.length), t < i → lo l[t] < k.toList) ∧ (∀ t (h : t < l.length), j ≤ t → ¬ lo l[t] < k.toList)) ∧ Hid (Fr (fun _ => False) w wr)) (fun s9 s10 _ => (intOf s10).toNat - (intOf s9).toNat)
  case atStart => exact ⟨0, l.length, rfl, rfl, Nat.zero_le _, Nat.le_refl _, hideIt ⟨fun t h e => by omega, fun t h e => by omega⟩, hideIt (Fr.refl _ _)⟩
  case round =>
    obtain ⟨i, j, rfl, rfl, hij, hjl, HI, HF⟩ := hrel
    by_cases hlt : i < j
    · have hm : (i + j) / 2 < l.length := by omega
      obtain ⟨b, off, rfl, hbl, c0, c1⟩ := SpsAt.get (ats_fr0 HH.out HF.out) ((i + j) / 2) hm
      have hA := hideIt (fun u => area1_any l[(i + j) / 2] k u)
      have HLT := hideIt (fun (hx : lo l[(i + j) / 2] < k.toList) t (h : t < l.length) (h2 : t < (i + j) / 2 + 1) => show lo l[t] < k.toList from by
        by_cases e : t = (i + j) / 2
        · subst e; exact hx
        · exact List.lt_trans (HJ.out.lo_lt (i := t) (j := (i + j) / 2) (by omega) hm).2 hx)
      have HGE := hideIt (fun (hx : ¬ lo l[(i + j) / 2] < k.toList) t (h : t < l.length) (h2 : (i + j) / 2 ≤ t) => show ¬ lo l[t] < k.toList from by
        by_cases e : t = (i + j) / 2
        · subst e; exact hx
        · exact fun e2 => hx (List.lt_trans (HJ.out.lo_lt (i := (i + j) / 2) (j := t) (by omega) h).2 e2))
      have HM := hideIt (show i ≤ (i + j) / 2 ∧ (i + j) / 2 < j by omega)
      have hcx := cmpS_neg (lo l[(i + j) / 2]) k.toList
      generalize l[(i + j) / 2] = x at *
      generalize cmpS (lo x) k.toList = c at *
      by_cases hc : c < 0
      · have HX := hideIt (HLT.out (hcx.1 hc))
        clear hcx
        go_wp2_with fail
        refine Calls.mono (hA.out _) ?_
        rintro e w' ⟨rfl, hF⟩
        have HG := hideIt hF
        clear hF
        go_wp2_with fail
        go_roundw
        case measure => simp [intOf]; omega
        case rel => exact ⟨(i + j) / 2 + 1, j, by rw [show ((i : Int) + (j : Int)) / 2 + 1 = (((i + j) / 2 + 1 : Nat) : Int) by omega], rfl, by omega, hjl, hideIt ⟨HX.out, HI.out.2⟩, hideIt (HF.out.trans HG.out (fun _ _ e => e))⟩
      · have HX := hideIt (HGE.out (fun e => hc (hcx.2 e)))
        clear hcx
        go_wp2_with fail
        refine Calls.mono (hA.out _) ?_
        rintro e w' ⟨rfl, hF⟩
        have HG := hideIt hF
        clear hF
        go_wp2_with fail
        go_roundw
        case measure => simp [intOf]; omega
        case rel => exact ⟨i, (i + j) / 2, rfl, by rw [show ((i : Int) + (j : Int)) / 2 = (((i + j) / 2 : Nat) : Int) by omega], by omega, by omega, hideIt ⟨HI.out.1, HX.out⟩, hideIt (HF.out.trans HG.out (fun _ _ e => e))⟩
    · obtain rfl : j = i := by omega
      have HST := hideIt (show Stands l k.toList j from ⟨hjl, HI.out.1, HI.out.2⟩)
      by_cases hn : j < l.length
      · obtain ⟨b, off, rfl, hbl, c0, c1⟩ := SpsAt.get (ats_fr0 HH.out HF.out) j hn
        have hA := hideIt (fun u => area1_any l[j] k u)
        have HZ := hideIt (show (decide (cmpS (lo l[j]) k.toList = 0) = true) ↔ AtLo l k.toList j by rw [decide_eq_true_eq, cmpS_zero]; exact ⟨fun e => ⟨hn, e⟩, fun ⟨_, e⟩ => e⟩)
        generalize l[j] = x at *
        generalize cmpS (lo x) k.toList = c at *
        by_cases hc : c = 0
        · subst hc
          go_wp2_with fail
          refine Calls.mono (hA.out _) ?_
          rintro e w' ⟨rfl, hF⟩
          have HG := hideIt hF
          clear hF
          go_wp2_with fail
          go_ret2
          exact ⟨j, true, rfl, HST.out, by simpa using HZ.out, HF.out.trans HG.out (fun _ _ e => e)⟩
        · have hc' : (c == 0) = false := beq_eq_false_iff_ne.2 hc
          have HZ2 := HZ
          rw [decide_eq_false hc] at HZ2
          go_wp2_with fail
          refine Calls.mono (hA.out _) ?_
          rintro e w' ⟨rfl, hF⟩
          have HG := hideIt hF
          clear hF
          go_wp2_with fail
          go_ret2
          exact ⟨j, false, rfl, HST.out, HZ2.out, HF.out.trans HG.out (fun _ _ e => e)⟩
      · obtain rfl : j = l.length := by omega
        go_wp2_with fail
        go_ret2
        exact ⟨l.length, false, rfl, HST.out, ⟨fun e => (by cases e), fun ⟨h, _⟩ => absurd h (Nat.lt_irrefl _)⟩, HF.out⟩

end Go.Proofs.Ytcejebelellemaa
