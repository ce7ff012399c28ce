/- KeysMeets, part 2 of the road: what the program's functions do, each by its own walk. -/
import Derived.Test.YtnjogpojikjflaaQ1
import Derived.Sort.Walk0
import Derived.Lib.Strings

/- Spans as plain pairs of texts: which keys they have, what joining them comes to. Nothing here speaks of memory. -/
namespace Go.Proofs.Ytnjogpojikjflaa
set_option linter.unusedSimpArgs false
set_option linter.unusedVariables false
set_option maxRecDepth 100000

/-- A text's bytes. -/
abbrev By := List UInt8

/-- Finitely many texts stand to one another as some numbers do. -/
def rk (L : List By) (t : By) : Int := (L.countP fun x => decide (x < t) : Nat)

theorem by_tri (a b : By) : a < b ∨ a = b ∨ b < a := by
  by_cases h1 : a < b
  · exact Or.inl h1
  · by_cases h2 : b < a
    · exact Or.inr (Or.inr h2)
    · exact Or.inr (Or.inl (List.le_antisymm (List.not_lt.1 h2) (List.not_lt.1 h1)))

theorem rk_le (L : List By) {a b : By} (h : ¬ b < a) : rk L a ≤ rk L b := by
  have : L.countP (fun x => decide (x < a)) ≤ L.countP (fun x => decide (x < b)) := by
    apply List.countP_mono_left
    intro x _ hx
    simp only [decide_eq_true_eq] at hx ⊢
    rcases by_tri a b with h1 | h1 | h1
    · exact List.lt_trans hx h1
    · exact h1 ▸ hx
    · exact absurd h1 h
  simp only [rk]
  omega

theorem rk_lt : ∀ (L : List By) {a b : By}, a ∈ L → a < b → rk L a < rk L b
  | [], _, _, h, _ => absurd h (by simp)
  | x :: L, a, b, h, hab => by
    have hle : rk L a ≤ rk L b := rk_le L (fun e => List.lt_irrefl _ (List.lt_trans e hab))
    simp only [rk, List.countP_cons] at *
    by_cases hx : x = a
    · subst hx
      simp only [List.lt_irrefl, hab, decide_false, decide_true, if_true]
      simp
      omega
    · have hm : a ∈ L := by simpa [Ne.symm hx] using h
      have := rk_lt L hm hab
      simp only [rk] at this
      by_cases h1 : x < a
      · have h2 : x < b := List.lt_trans h1 hab
        simp only [h1, h2, decide_true, if_true]
        omega
      · simp only [h1, decide_false]
        simp
        omega

theorem rank (L : List By) : ∃ f : By → Int, (∀ a b, a ∈ L → b ∈ L → (a < b ↔ f a < f b)) ∧ (∀ a b, a ∈ L → b ∈ L → (a = b ↔ f a = f b)) := by
  have h : ∀ a b, a ∈ L → b ∈ L → (a < b ↔ rk L a < rk L b) := fun a b ha hb => ⟨rk_lt L ha, fun h => by
    rcases by_tri a b with h1 | h1 | h1
    · exact h1
    · subst h1; omega
    · have := rk_lt L hb h1; omega⟩
  refine ⟨rk L, h, fun a b ha hb => ⟨fun e => by rw [e], fun e => ?_⟩⟩
  rcases by_tri a b with h1 | h1 | h1
  · have := rk_lt L ha h1; omega
  · exact h1
  · have := rk_lt L hb h1; omega

theorem by_nil (a : By) : ¬ a < [] := by simp

/-- The key right behind another one. -/
theorem by_behind (a k : By) : a < k ++ [0] ↔ ¬ k < a := by
  induction k generalizing a with
  | nil =>
    cases a with
    | nil => simp
    | cons x a =>
      simp only [List.nil_append, List.cons_lt_cons_iff, List.not_lt_nil, and_false, or_false, List.nil_lt_cons, not_true_eq_false, iff_false]
      intro h
      exact absurd h (UInt8.not_lt_zero)
  | cons y k ih =>
    cases a with
    | nil => simp
    | cons x a =>
      simp only [List.cons_append, List.cons_lt_cons_iff, ih]
      by_cases h1 : x < y
      · have h2 : ¬ y < x := UInt8.lt_asymm h1
        have h3 : ¬ y = x := fun e => UInt8.lt_irrefl _ (e ▸ h1)
        simp [h1, h2, h3]
      · by_cases h2 : y < x
        · have h3 : ¬ x = y := fun e => UInt8.lt_irrefl _ (e ▸ h2)
          simp [h1, h2, h3]
        · have h3 : x = y := UInt8.le_antisymm (UInt8.not_lt.1 h2) (UInt8.not_lt.1 h1)
          subst h3
          simp [h1]

/-- A span: where it begins, where it ends. -/
abbrev Sp := ByteArray × ByteArray

def lo (s : Sp) : By := s.1.toList
def hi (s : Sp) : By := s.2.toList

theorem toList_inj {a b : ByteArray} (h : a.toList = b.toList) : a = b := by
  rw [Lib.toList_data, Lib.toList_data] at h
  cases a; cases b
  simp only [ByteArray.mk.injEq]
  exact Array.ext' h

theorem sp_ext {a b : Sp} (h1 : lo a = lo b) (h2 : hi a = hi b) : a = b := Prod.ext (toList_inj h1) (toList_inj h2)

/-- A key is in a span. -/
abbrev KeyIn (s : Sp) (k : By) : Prop := ¬ k < lo s ∧ (hi s = [] ∨ k < hi s)

/-- A span is not empty. -/
abbrev NonE (s : Sp) : Prop := hi s = [] ∨ lo s < hi s

/-- A key is in one of some. -/
def HasK (l : List Sp) (k : By) : Prop := ∃ s ∈ l, KeyIn s k


theorem HasK.cons {s : Sp} {l : List Sp} {k : By} : HasK (s :: l) k ↔ KeyIn s k ∨ HasK l k := by simp [HasK]
theorem HasK.nil {k : By} : ¬ HasK [] k := by simp [HasK]

theorem NonE.lo_in {s : Sp} (h : NonE s) : KeyIn s (lo s) := ⟨List.lt_irrefl _, h⟩
theorem KeyIn.nonE {s : Sp} {k : By} (h : KeyIn s k) : NonE s := by
  rcases h.2 with h2 | h2
  · exact Or.inl h2
  · have h1 := h.1
    right
    generalize lo s = a at *
    generalize hi s = b at *
    obtain ⟨f, hl, he⟩ := rank [a, b, k]
    simp only [hl, he, List.mem_cons, true_or, or_true] at *
    omega

/-- The end is ahead of a key. -/
abbrev short (s : Sp) (k : By) : Prop := hi s ≠ [] ∧ hi s < k
/-- The end is beyond that of another one. -/
abbrev outl (s t : Sp) : Prop := hi t ≠ [] ∧ (hi s = [] ∨ hi t < hi s)

/-- The last one grows by another one. -/
def grow1 (last s : Sp) : Sp := if outl s last then (last.1, s.2) else last

/-- Spans that are joined, one behind the other. -/
def jn : Sp → List Sp → List Sp
  | last, [] => [last]
  | last, s :: r => if short last (lo s) then last :: jn s r else jn (grow1 last s) r

theorem grow1_lo (last s : Sp) : lo (grow1 last s) = lo last := by
  unfold grow1
  split <;> rfl

theorem grow1_keys {last s : Sp} (hs : NonE s) (hl : NonE last) (hle : ¬ lo s < lo last) (hn : ¬ short last (lo s)) (k : By) : KeyIn (grow1 last s) k ↔ KeyIn last k ∨ KeyIn s k := by
  unfold grow1
  unfold short at hn
  unfold NonE at hs hl
  by_cases h : hi last ≠ [] ∧ (hi s = [] ∨ hi last < hi s)
  · rw [if_pos h]
    show (¬ k < lo last ∧ (hi s = [] ∨ k < hi s)) ↔ (¬ k < lo last ∧ (hi last = [] ∨ k < hi last)) ∨ (¬ k < lo s ∧ (hi s = [] ∨ k < hi s))
    obtain ⟨h1, h2⟩ := h
    have hn' : ¬ hi last < lo s := fun e => hn ⟨h1, e⟩
    have hl' : lo last < hi last := hl.resolve_left h1
    clear hn hl
    by_cases e : hi s = []
    · simp only [e, true_or, and_true, h1, false_or]
      clear hs h2 h1 e
      generalize lo last = a at *
      generalize hi last = b at *
      generalize lo s = c at *
      obtain ⟨f, hl, he⟩ := rank [a, b, c, k]
      simp only [hl, he, List.mem_cons, true_or, or_true] at *
      omega
    · simp only [e, h1, false_or]
      have h2' := h2.resolve_left e
      have hs' := hs.resolve_left e
      clear hs h2 h1 e
      generalize lo last = a at *
      generalize hi last = b at *
      generalize lo s = c at *
      generalize hi s = d at *
      obtain ⟨f, hl, he⟩ := rank [a, b, c, d, k]
      simp only [hl, he, List.mem_cons, true_or, or_true] at *
      omega
  · rw [if_neg h]
    refine ⟨Or.inl, ?_⟩
    rintro (h1 | ⟨h1, h2⟩)
    · exact h1
    · refine ⟨?_, ?_⟩
      · generalize lo last = a at *
        generalize lo s = c at *
        clear hn hs h2 h hl
        obtain ⟨f, hl', he⟩ := rank [a, c, k]
        simp only [hl', he, List.mem_cons, true_or, or_true] at *
        omega
      · by_cases e : hi last = []
        · exact Or.inl e
        · right
          simp only [ne_eq, e, not_false_eq_true, true_and, not_or] at h
          rcases h2 with h2 | h2
          · exact absurd h2 h.1
          · have h3 := h.2
            generalize hi last = a at *
            generalize hi s = c at *
            clear hn hs h hl hle h1 e
            obtain ⟨f, hl', he⟩ := rank [a, c, k]
            simp only [hl', he, List.mem_cons, true_or, or_true] at *
            omega

theorem jn_keys : ∀ (r : List Sp) (last : Sp), NonE last → (∀ s ∈ r, NonE s) → (∀ s ∈ r, ¬ lo s < lo last) → r.Pairwise (fun a b => ¬ lo b < lo a) → ∀ k, HasK (jn last r) k ↔ KeyIn last k ∨ HasK r k
  | [], last, _, _, _, _, k => by simp [jn, HasK]
  | s :: r, last, hl, hr, hle, hp, k => by
    rw [List.pairwise_cons] at hp
    have hs : NonE s := hr s (by simp)
    rw [jn]
    split
    · rw [HasK.cons, jn_keys r s hs (fun x hx => hr x (by simp [hx])) hp.1 hp.2 k, HasK.cons]
    · rename_i hn
      have hk := grow1_keys hs hl (hle s (by simp)) hn
      have hne : NonE (grow1 last s) := ((hk (lo last)).2 (Or.inl hl.lo_in)).nonE
      rw [jn_keys r (grow1 last s) hne (fun x hx => hr x (by simp [hx])) (fun x hx => by rw [grow1_lo]; exact hle x (by simp [hx])) hp.2 k, hk, HasK.cons, or_assoc]

/-- Spans are joined. -/
def Jd : List Sp → Prop
  | [] => True
  | [s] => NonE s
  | s :: t :: r => (NonE s ∧ hi s ≠ [] ∧ hi s < lo t) ∧ Jd (t :: r)

theorem jn_joined : ∀ (r : List Sp) (last : Sp), NonE last → (∀ s ∈ r, NonE s) → (∀ s ∈ r, ¬ lo s < lo last) → r.Pairwise (fun a b => ¬ lo b < lo a) → ∃ h t, jn last r = h :: t ∧ lo h = lo last ∧ Jd (h :: t)
  | [], last, hl, _, _, _ => ⟨last, [], rfl, rfl, hl⟩
  | s :: r, last, hl, hr, hle, hp => by
    rw [List.pairwise_cons] at hp
    have hs : NonE s := hr s (by simp)
    rw [jn]
    split
    · rename_i hn
      obtain ⟨h, t, e, h1, h2⟩ := jn_joined r s hs (fun x hx => hr x (by simp [hx])) hp.1 hp.2
      exact ⟨last, h :: t, by rw [e], rfl, ⟨hl, hn.1, by rw [h1]; exact hn.2⟩, h2⟩
    · rename_i hn
      have hk := grow1_keys hs hl (hle s (by simp)) hn
      have hne : NonE (grow1 last s) := ((hk (lo last)).2 (Or.inl hl.lo_in)).nonE
      obtain ⟨h, t, e, h1, h2⟩ := jn_joined r (grow1 last s) hne (fun x hx => hr x (by simp [hx])) (fun x hx => by rw [grow1_lo]; exact hle x (by simp [hx])) hp.2
      exact ⟨h, t, e, h1.trans (grow1_lo _ _), h2⟩

theorem Jd.head {s : Sp} {r : List Sp} (h : Jd (s :: r)) : NonE s := by
  cases r with
  | nil => exact h
  | cons t r => exact h.1.1

theorem Jd.tail {s : Sp} {r : List Sp} (h : Jd (s :: r)) : Jd r := by
  cases r with
  | nil => exact True.intro
  | cons t r => exact h.2

theorem Jd.behind : ∀ (r : List Sp) (s : Sp), Jd (s :: r) → ∀ t ∈ r, hi s ≠ [] ∧ hi s < lo t ∧ NonE t
  | [], _, _, t, ht => absurd ht (by simp)
  | u :: r, s, h, t, ht => by
    rcases List.mem_cons.1 ht with rfl | ht
    · exact ⟨h.1.2.1, h.1.2.2, h.2.head⟩
    · obtain ⟨h1, h2, h3⟩ := Jd.behind r u h.2 t ht
      refine ⟨h.1.2.1, ?_, h3⟩
      have h4 := h.1.2.2
      have h5 := h.2.head
      simp only [NonE, h1, false_or] at h5
      exact List.lt_trans h4 (List.lt_trans h5 h2)

theorem Jd.none {s : Sp} {r : List Sp} (h : Jd (s :: r)) {k : By} (hk : ¬ hi s < k) (hn : hi s ≠ []) : ¬ HasK r k := by
  rintro ⟨t, ht, h1, _⟩
  obtain ⟨_, h2, _⟩ := h.behind r s t ht
  generalize hi s = a at *
  generalize lo t = b at *
  clear hn
  obtain ⟨f, hl', he⟩ := rank [a, b, k]
  simp only [hl', he, List.mem_cons, true_or, or_true] at *
  omega

/-- The end of one of them is in none. -/
theorem Jd.end_none {s : Sp} {r : List Sp} (h : Jd (s :: r)) (hn : hi s ≠ []) : ¬ HasK (s :: r) (hi s) := by
  rw [HasK.cons]
  rintro (⟨_, h1 | h1⟩ | h1)
  · exact hn h1
  · exact List.lt_irrefl _ h1
  · exact h.none (List.lt_irrefl _) hn h1

theorem Jd.least {s : Sp} {r : List Sp} (h : Jd (s :: r)) {k : By} (hk : HasK (s :: r) k) : ¬ k < lo s := by
  obtain ⟨t, ht, h1, _⟩ := hk
  rcases List.mem_cons.1 ht with rfl | ht
  · exact h1
  · obtain ⟨h3, h2, _⟩ := h.behind r s t ht
    have h4 := h.head
    simp only [NonE, h3, false_or] at h4
    generalize hi s = a at *
    generalize lo t = b at *
    generalize lo s = c at *
    clear h3
    obtain ⟨f, hl', he⟩ := rank [a, b, c, k]
    simp only [hl', he, List.mem_cons, true_or, or_true] at *
    omega

theorem Jd.hi_le {s t : Sp} {r q : List Sp} (ha : Jd (s :: r)) (hb : Jd (t :: q)) (hk : ∀ k, HasK (s :: r) k ↔ HasK (t :: q) k) (el : lo s = lo t) (hn : hi s ≠ []) : hi t ≠ [] ∧ ¬ hi s < hi t := by
  have h1 := ha.end_none hn
  rw [hk, HasK.cons, not_or] at h1
  have h2 := h1.1
  have h3 := ha.head
  simp only [NonE, hn, false_or] at h3
  rw [el] at h3
  have h4 : ¬ hi s < lo t := fun e => List.lt_irrefl _ (List.lt_trans e h3)
  simp only [KeyIn, h4, not_false_eq_true, true_and, not_or] at h2
  exact h2

theorem Jd.unique : ∀ (a b : List Sp), Jd a → Jd b → (∀ k, HasK a k ↔ HasK b k) → a = b
  | [], [], _, _, _ => rfl
  | [], t :: q, _, hb, hk => absurd ((hk (lo t)).2 ⟨t, by simp, hb.head.lo_in⟩) HasK.nil
  | s :: r, [], ha, _, hk => absurd ((hk (lo s)).1 ⟨s, by simp, ha.head.lo_in⟩) HasK.nil
  | s :: r, t :: q, ha, hb, hk => by
    have el : lo s = lo t := by
      have h1 := ha.least ((hk (lo t)).2 ⟨t, by simp, hb.head.lo_in⟩)
      have h2 := hb.least ((hk (lo s)).1 ⟨s, by simp, ha.head.lo_in⟩)
      rcases by_tri (lo s) (lo t) with h | h | h
      · exact absurd h h2
      · exact h
      · exact absurd h h1
    have eh : hi s = hi t := by
      by_cases h1 : hi s = []
      · by_cases h2 : hi t = []
        · rw [h1, h2]
        · exact absurd h1 (hb.hi_le ha (fun k => (hk k).symm) el.symm h2).1
      · have h3 := ha.hi_le hb hk el h1
        have h4 := hb.hi_le ha (fun k => (hk k).symm) el.symm h3.1
        rcases by_tri (hi s) (hi t) with h | h | h
        · exact absurd h h3.2
        · exact h
        · exact absurd h h4.2
    have est : s = t := sp_ext el eh
    subst est
    congr 1
    refine Jd.unique r q ha.tail hb.tail fun k => ?_
    have hk' := hk k
    rw [HasK.cons, HasK.cons] at hk'
    have out : ∀ (x : List Sp), Jd (s :: x) → HasK x k → ¬ KeyIn s k := by
      rintro x hx ⟨u, hu, h1, _⟩ ⟨_, h2⟩
      obtain ⟨h3, h4, _⟩ := hx.behind x s u hu
      simp only [h3, false_or] at h2
      exact h1 (List.lt_trans h2 h4)
    constructor
    · intro h
      rcases hk'.1 (Or.inr h) with h1 | h1
      · exact absurd h1 (out r ha h)
      · exact h1
    · intro h
      rcases hk'.2 (Or.inr h) with h1 | h1
      · exact absurd h1 (out q hb h)
      · exact h1

/-- Spans in their order, joined. -/
def jl : List Sp → List Sp
  | [] => []
  | s :: r => jn s r

/-- Those of a list that are not empty, by rising Lo. -/
structure Sorted (l m : List Sp) : Prop where
  mem : ∀ s, s ∈ m ↔ s ∈ l ∧ NonE s
  up : m.Pairwise (fun a b => ¬ lo b < lo a)

theorem Sorted.jd {l m : List Sp} (h : Sorted l m) : Jd (jl m) := by
  cases m with
  | nil => exact True.intro
  | cons s r =>
    have hp := List.pairwise_cons.1 h.up
    obtain ⟨x, t, e, _, hj⟩ := jn_joined r s ((h.mem s).1 (by simp)).2 (fun x hx => ((h.mem x).1 (by simp [hx])).2) hp.1 hp.2
    show Jd (jn s r)
    rw [e]
    exact hj

theorem Sorted.keys {l m : List Sp} (h : Sorted l m) (k : By) : HasK (jl m) k ↔ HasK l k := by
  have h1 : HasK (jl m) k ↔ HasK m k := by
    cases m with
    | nil => exact Iff.rfl
    | cons s r =>
      have hp := List.pairwise_cons.1 h.up
      show HasK (jn s r) k ↔ _
      rw [jn_keys r s ((h.mem s).1 (by simp)).2 (fun x hx => ((h.mem x).1 (by simp [hx])).2) hp.1 hp.2 k, HasK.cons]
  rw [h1]
  constructor
  · rintro ⟨s, hs, hk⟩
    exact ⟨s, ((h.mem s).1 hs).1, hk⟩
  · rintro ⟨s, hs, hk⟩
    exact ⟨s, (h.mem s).2 ⟨hs, hk.nonE⟩, hk⟩

/-- Whatever the order of those that begin alike, what is joined is one. -/
theorem Sorted.one {l l' m m' : List Sp} (h : Sorted l m) (h' : Sorted l' m') (hk : ∀ k, HasK l k ↔ HasK l' k) : jl m = jl m' :=
  Jd.unique _ _ h.jd h'.jd fun k => by rw [h.keys, h'.keys, hk]

end Go.Proofs.Ytnjogpojikjflaa

/- Lists of keys as sets: what rises, the set of a list; nothing here speaks of one program. -/
namespace Go.Proofs.Ytnjogpojikjflaa
open Go.RowKit
set_option linter.unusedSimpArgs false
set_option linter.unusedVariables false
set_option maxRecDepth 100000

/-- A key is less than another one. -/
abbrev kLt (a b : ByteArray) : Prop := a.toList < b.toList

theorem kLt_irrefl (a : ByteArray) : ¬ kLt a a := List.lt_irrefl _
theorem kLt_trans {a b c : ByteArray} (h : kLt a b) (k : kLt b c) : kLt a c := List.lt_trans h k
theorem kLt_tri (a b : ByteArray) : kLt a b ∨ a = b ∨ kLt b a := by
  rcases by_tri a.toList b.toList with h | h | h
  · exact Or.inl h
  · exact Or.inr (Or.inl (toList_inj h))
  · exact Or.inr (Or.inr h)

/-- Keys that rise. -/
def Rises (l : List ByteArray) : Prop := l.Pairwise kLt

theorem Rises.nodup {l : List ByteArray} (h : Rises l) : l.Nodup := h.imp (fun hab e => by subst e; exact kLt_irrefl _ hab)

theorem Rises.unique {a b : List ByteArray} (ha : Rises a) (hb : Rises b) (hm : ∀ k, k ∈ a ↔ k ∈ b) : a = b :=
  List.Perm.eq_of_pairwise (le := kLt) (fun x y _ _ h1 h2 => (kLt_irrefl _ (kLt_trans h1 h2)).elim) ha hb ((List.perm_ext_iff_of_nodup ha.nodup hb.nodup).2 hm)

/-- A key is put in its place. -/
def ins (k : ByteArray) : List ByteArray → List ByteArray
  | [] => [k]
  | x :: r => if kLt x k then x :: ins k r else if x = k then x :: r else k :: x :: r

theorem mem_ins (k x : ByteArray) : ∀ l : List ByteArray, x ∈ ins k l ↔ x = k ∨ x ∈ l
  | [] => by simp [ins]
  | y :: r => by
    unfold ins
    split
    · rw [List.mem_cons, mem_ins k x r, List.mem_cons]
      constructor
      · rintro (h | h | h)
        · exact Or.inr (Or.inl h)
        · exact Or.inl h
        · exact Or.inr (Or.inr h)
      · rintro (h | h | h)
        · exact Or.inr (Or.inl h)
        · exact Or.inl h
        · exact Or.inr (Or.inr h)
    · split
      · rename_i e
        subst e
        simp
      · simp

theorem ins_rises (k : ByteArray) : ∀ l : List ByteArray, Rises l → Rises (ins k l)
  | [], _ => by simp [ins, Rises]
  | y :: r, h => by
    have h1 := List.pairwise_cons.1 h
    unfold ins
    split
    · rename_i hlt
      refine List.pairwise_cons.2 ⟨fun z hz => ?_, ins_rises k r h1.2⟩
      rcases (mem_ins k z r).1 hz with e | e
      · subst e; exact hlt
      · exact h1.1 z e
    · rename_i hge
      split
      · exact h
      · rename_i hne
        have hk : kLt k y := by
          rcases kLt_tri k y with e | e | e
          · exact e
          · exact absurd e.symm hne
          · exact absurd e hge
        refine List.pairwise_cons.2 ⟨fun z hz => ?_, h⟩
        rcases List.mem_cons.1 hz with e | e
        · subst e; exact hk
        · exact kLt_trans hk (h1.1 z e)

/-- The set of a list. -/
def setL (l : List ByteArray) : List ByteArray := l.foldl (fun o k => ins k o) []

theorem fold_rises : ∀ (l o : List ByteArray), Rises o → Rises (l.foldl (fun o k => ins k o) o)
  | [], _, h => h
  | k :: l, o, h => fold_rises l (ins k o) (ins_rises k o h)

theorem fold_mem : ∀ (l o : List ByteArray) (x : ByteArray), x ∈ l.foldl (fun o k => ins k o) o ↔ x ∈ l ∨ x ∈ o
  | [], o, x => by simp
  | k :: l, o, x => by
    rw [List.foldl_cons, fold_mem l (ins k o) x, mem_ins, List.mem_cons]
    constructor
    · rintro (h | h | h)
      · exact Or.inl (Or.inr h)
      · exact Or.inl (Or.inl h)
      · exact Or.inr h
    · rintro ((h | h) | h)
      · exact Or.inr (Or.inl h)
      · exact Or.inl h
      · exact Or.inr (Or.inr h)

theorem setL_rises (l : List ByteArray) : Rises (setL l) := fold_rises l [] List.Pairwise.nil
theorem mem_setL (l : List ByteArray) (x : ByteArray) : x ∈ setL l ↔ x ∈ l := by simp [setL, fold_mem]
theorem setL_of {l r : List ByteArray} (h : Rises r) (hm : ∀ k, k ∈ r ↔ k ∈ l) : r = setL l := h.unique (setL_rises l) (fun k => by rw [hm, mem_setL])
theorem setL_self {l : List ByteArray} (h : Rises l) : setL l = l := (setL_of h (fun _ => Iff.rfl)).symm
theorem setL_eq {l m : List ByteArray} (h : ∀ k, k ∈ l ↔ k ∈ m) : setL l = setL m := setL_of (setL_rises l) (fun k => by rw [mem_setL, h])
theorem setL_snoc (l : List ByteArray) (k : ByteArray) : setL (l ++ [k]) = ins k (setL l) := by simp [setL, List.foldl_append]
theorem ins_len (k : ByteArray) : ∀ l : List ByteArray, (ins k l).length ≤ l.length + 1
  | [] => by simp [ins]
  | y :: r => by
    unfold ins
    split
    · have := ins_len k r
      simp only [List.length_cons]
      omega
    · split <;> simp
theorem fold_len : ∀ (l o : List ByteArray), (l.foldl (fun o k => ins k o) o).length ≤ l.length + o.length
  | [], o => by simp
  | k :: l, o => by
    rw [List.foldl_cons]
    have h1 := fold_len l (ins k o)
    have h2 := ins_len k o
    simp only [List.length_cons]
    omega
theorem setL_len (l : List ByteArray) : (setL l).length ≤ l.length := by have := fold_len l []; simpa [setL] using this
theorem setL_nil {l : List ByteArray} : setL l = [] ↔ l = [] := by
  constructor
  · intro h
    cases l with
    | nil => rfl
    | cons k l => have := (mem_setL (k :: l) k).2 (List.mem_cons_self ..); rw [h] at this; cases this
  · rintro rfl; rfl

/-- Whether a key is one of some. -/
def inL (l : List ByteArray) (k : ByteArray) : Bool := l.any fun x => decide (x = k)
theorem inL_iff (l : List ByteArray) (k : ByteArray) : inL l k = true ↔ k ∈ l := by
  unfold inL
  rw [List.any_eq_true]
  simp only [decide_eq_true_eq]
  exact ⟨fun ⟨x, hx, e⟩ => e ▸ hx, fun h => ⟨k, h, rfl⟩⟩
theorem inL_eq {l m : List ByteArray} {k j : ByteArray} (h : k ∈ l ↔ j ∈ m) : inL l k = inL m j := by rw [Bool.eq_iff_iff, inL_iff, inL_iff, h]
theorem inL_not (l : List ByteArray) (k : ByteArray) : inL l k = false ↔ k ∉ l := by rw [← inL_iff]; cases inL l k <;> simp

/-- Whether keys rise. -/
def risesB : List ByteArray → Bool
  | [] => true
  | [_] => true
  | x :: y :: r => decide (kLt x y) && risesB (y :: r)

theorem risesB_iff : ∀ l : List ByteArray, risesB l = true ↔ Rises l
  | [] => by simp [risesB, Rises]
  | [x] => by simp [risesB, Rises]
  | x :: y :: r => by
    unfold risesB
    rw [Bool.and_eq_true, decide_eq_true_eq, risesB_iff (y :: r)]
    constructor
    · rintro ⟨h1, h2⟩
      refine List.pairwise_cons.2 ⟨fun z hz => ?_, h2⟩
      rcases List.mem_cons.1 hz with e | e
      · subst e; exact h1
      · exact kLt_trans h1 ((List.pairwise_cons.1 h2).1 z e)
    · intro h
      exact ⟨(List.pairwise_cons.1 h).1 y (List.mem_cons_self ..), (List.pairwise_cons.1 h).2⟩

/-- Keys rise just if each one is greater than the one ahead. -/
theorem risesB_get (l : List ByteArray) : risesB l = true ↔ ∀ i, (h : i + 1 < l.length) → kLt (l[i]'(by omega)) l[i + 1] := by
  induction l with
  | nil => simp [risesB]
  | cons x l ih =>
    cases l with
    | nil => simp [risesB]
    | cons y r =>
      unfold risesB
      rw [Bool.and_eq_true, decide_eq_true_eq, ih]
      constructor
      · rintro ⟨h1, h2⟩ i hi
        cases i with
        | zero => exact h1
        | succ i => exact h2 i (by simpa using hi)
      · intro h
        exact ⟨h 0 (by simp), fun i hi => h (i + 1) (by simpa using hi)⟩

end Go.Proofs.Ytnjogpojikjflaa

/- Keys, on paper: where a key is put in its place. -/
namespace Go.Proofs.Ytnjogpojikjflaa
open Go.RowKit Go.IntWalk
set_option linter.unusedSimpArgs false
set_option linter.unusedVariables false
set_option maxRecDepth 100000

theorem ins_end (x : ByteArray) : ∀ m : List ByteArray, (∀ y ∈ m, kLt y x) → ins x m = m ++ [x]
  | [], _ => rfl
  | y :: r, h => by
    unfold ins
    rw [if_pos (h y (List.mem_cons_self ..)), ins_end x r (fun z hz => h z (List.mem_cons_of_mem _ hz))]
    rfl
theorem ins_at (x : ByteArray) : ∀ (m : List ByteArray) (k : Nat) (hk : k < m.length), (∀ y ∈ m.take k, kLt y x) → ¬ kLt m[k] x → m[k] ≠ x → ins x m = m.take k ++ [x] ++ m.drop k
  | y :: r, 0, _, _, h1, h2 => by
    have h1' : ¬ kLt y x := h1
    have h2' : y ≠ x := h2
    unfold ins
    rw [if_neg h1', if_neg h2']
    rfl
  | y :: r, k + 1, hk, h, h1, h2 => by
    unfold ins
    rw [List.take_succ_cons] at h
    rw [if_pos (h y (List.mem_cons_self ..)), ins_at x r k (by simpa using hk) (fun z hz => h z (List.mem_cons_of_mem _ hz)) h1 h2]
    rfl
theorem ins_there (x : ByteArray) : ∀ (m : List ByteArray) (k : Nat) (hk : k < m.length), (∀ y ∈ m.take k, kLt y x) → m[k] = x → ins x m = m
  | y :: r, 0, _, _, h2 => by
    unfold ins
    have h3 : y = x := h2
    rw [if_neg (by rw [h3]; exact kLt_irrefl _), if_pos h3]
  | y :: r, k + 1, hk, h, h2 => by
    unfold ins
    rw [List.take_succ_cons] at h
    rw [if_pos (h y (List.mem_cons_self ..)), ins_there x r k (by simpa using hk) (fun z hz => h z (List.mem_cons_of_mem _ hz)) h2]

end Go.Proofs.Ytnjogpojikjflaa
