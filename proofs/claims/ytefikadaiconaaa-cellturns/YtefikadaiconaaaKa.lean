/- Lists of keys as sets: what rises, the set of a list; nothing here speaks of one program. -/
import Derived.Test.YtefikadaiconaaaTa
namespace Go.Proofs.Ytefikadaiconaaa
open Go.RowKit
set_option linter.unusedSimpArgs false
set_option linter.unusedVariables false

/-- A key is less than another one. -/
abbrev kLt (a b : ByteArray) : Prop := a.toList < b.toList

theorem kLt_irrefl (a : ByteArray) : ¬ kLt a a := List.lt_irrefl _
theorem kLt_trans {a b c : ByteArray} (h : kLt a b) (k : kLt b c) : kLt a c := List.lt_trans h k
theorem kLt_tri (a b : ByteArray) : kLt a b ∨ a = b ∨ kLt b a := by
  rcases by_tri a.toList b.toList with h | h | h
  · exact Or.inl h
  · exact Or.inr (Or.inl (toList_inj h))
  · exact Or.inr (Or.inr h)

/-- Keys that rise. -/
def Rises (l : List ByteArray) : Prop := l.Pairwise kLt

theorem Rises.nodup {l : List ByteArray} (h : Rises l) : l.Nodup := h.imp (fun hab e => by subst e; exact kLt_irrefl _ hab)

theorem Rises.unique {a b : List ByteArray} (ha : Rises a) (hb : Rises b) (hm : ∀ k, k ∈ a ↔ k ∈ b) : a = b :=
  List.Perm.eq_of_pairwise (le := kLt) (fun x y _ _ h1 h2 => (kLt_irrefl _ (kLt_trans h1 h2)).elim) ha hb ((List.perm_ext_iff_of_nodup ha.nodup hb.nodup).2 hm)

/-- A key is put in its place. -/
def ins (k : ByteArray) : List ByteArray → List ByteArray
  | [] => [k]
  | x :: r => if kLt x k then x :: ins k r else if x = k then x :: r else k :: x :: r

theorem mem_ins (k x : ByteArray) : ∀ l : List ByteArray, x ∈ ins k l ↔ x = k ∨ x ∈ l
  | [] => by simp [ins]
  | y :: r => by
    unfold ins
    split
    · rw [List.mem_cons, mem_ins k x r, List.mem_cons]
      constructor
      · rintro (h | h | h)
        · exact Or.inr (Or.inl h)
        · exact Or.inl h
        · exact Or.inr (Or.inr h)
      · rintro (h | h | h)
        · exact Or.inr (Or.inl h)
        · exact Or.inl h
        · exact Or.inr (Or.inr h)
    · split
      · rename_i e
        subst e
        simp
      · simp

theorem ins_rises (k : ByteArray) : ∀ l : List ByteArray, Rises l → Rises (ins k l)
  | [], _ => by simp [ins, Rises]
  | y :: r, h => by
    have h1 := List.pairwise_cons.1 h
    unfold ins
    split
    · rename_i hlt
      refine List.pairwise_cons.2 ⟨fun z hz => ?_, ins_rises k r h1.2⟩
      rcases (mem_ins k z r).1 hz with e | e
      · subst e; exact hlt
      · exact h1.1 z e
    · rename_i hge
      split
      · exact h
      · rename_i hne
        have hk : kLt k y := by
          rcases kLt_tri k y with e | e | e
          · exact e
          · exact absurd e.symm hne
          · exact absurd e hge
        refine List.pairwise_cons.2 ⟨fun z hz => ?_, h⟩
        rcases List.mem_cons.1 hz with e | e
        · subst e; exact hk
        · exact kLt_trans hk (h1.1 z e)

/-- The set of a list. -/
def setL (l : List ByteArray) : List ByteArray := l.foldl (fun o k => ins k o) []

theorem fold_rises : ∀ (l o : List ByteArray), Rises o → Rises (l.foldl (fun o k => ins k o) o)
  | [], _, h => h
  | k :: l, o, h => fold_rises l (ins k o) (ins_rises k o h)

theorem fold_mem : ∀ (l o : List ByteArray) (x : ByteArray), x ∈ l.foldl (fun o k => ins k o) o ↔ x ∈ l ∨ x ∈ o
  | [], o, x => by simp
  | k :: l, o, x => by
    rw [List.foldl_cons, fold_mem l (ins k o) x, mem_ins, List.mem_cons]
    constructor
    · rintro (h | h | h)
      · exact Or.inl (Or.inr h)
      · exact Or.inl (Or.inl h)
      · exact Or.inr h
    · rintro ((h | h) | h)
      · exact Or.inr (Or.inl h)
      · exact Or.inl h
      · exact Or.inr (Or.inr h)

theorem setL_rises (l : List ByteArray) : Rises (setL l) := fold_rises l [] List.Pairwise.nil
theorem mem_setL (l : List ByteArray) (x : ByteArray) : x ∈ setL l ↔ x ∈ l := by simp [setL, fold_mem]
theorem setL_of {l r : List ByteArray} (h : Rises r) (hm : ∀ k, k ∈ r ↔ k ∈ l) : r = setL l := h.unique (setL_rises l) (fun k => by rw [hm, mem_setL])
theorem setL_self {l : List ByteArray} (h : Rises l) : setL l = l := (setL_of h (fun _ => Iff.rfl)).symm
theorem setL_eq {l m : List ByteArray} (h : ∀ k, k ∈ l ↔ k ∈ m) : setL l = setL m := setL_of (setL_rises l) (fun k => by rw [mem_setL, h])
theorem setL_snoc (l : List ByteArray) (k : ByteArray) : setL (l ++ [k]) = ins k (setL l) := by simp [setL, List.foldl_append]
theorem ins_len (k : ByteArray) : ∀ l : List ByteArray, (ins k l).length ≤ l.length + 1
  | [] => by simp [ins]
  | y :: r => by
    unfold ins
    split
    · have := ins_len k r
      simp only [List.length_cons]
      omega
    · split <;> simp
theorem fold_len : ∀ (l o : List ByteArray), (l.foldl (fun o k => ins k o) o).length ≤ l.length + o.length
  | [], o => by simp
  | k :: l, o => by
    rw [List.foldl_cons]
    have h1 := fold_len l (ins k o)
    have h2 := ins_len k o
    simp only [List.length_cons]
    omega
theorem setL_len (l : List ByteArray) : (setL l).length ≤ l.length := by have := fold_len l []; simpa [setL] using this
theorem setL_nil {l : List ByteArray} : setL l = [] ↔ l = [] := by
  constructor
  · intro h
    cases l with
    | nil => rfl
    | cons k l => have := (mem_setL (k :: l) k).2 (List.mem_cons_self ..); rw [h] at this; cases this
  · rintro rfl; rfl

/-- Whether a key is one of some. -/
def inL (l : List ByteArray) (k : ByteArray) : Bool := l.any fun x => decide (x = k)
theorem inL_iff (l : List ByteArray) (k : ByteArray) : inL l k = true ↔ k ∈ l := by
  unfold inL
  rw [List.any_eq_true]
  simp only [decide_eq_true_eq]
  exact ⟨fun ⟨x, hx, e⟩ => e ▸ hx, fun h => ⟨k, h, rfl⟩⟩
theorem inL_eq {l m : List ByteArray} {k j : ByteArray} (h : k ∈ l ↔ j ∈ m) : inL l k = inL m j := by rw [Bool.eq_iff_iff, inL_iff, inL_iff, h]
theorem inL_not (l : List ByteArray) (k : ByteArray) : inL l k = false ↔ k ∉ l := by rw [← inL_iff]; cases inL l k <;> simp

/-- Whether keys rise. -/
def risesB : List ByteArray → Bool
  | [] => true
  | [_] => true
  | x :: y :: r => decide (kLt x y) && risesB (y :: r)

theorem risesB_iff : ∀ l : List ByteArray, risesB l = true ↔ Rises l
  | [] => by simp [risesB, Rises]
  | [x] => by simp [risesB, Rises]
  | x :: y :: r => by
    unfold risesB
    rw [Bool.and_eq_true, decide_eq_true_eq, risesB_iff (y :: r)]
    constructor
    · rintro ⟨h1, h2⟩
      refine List.pairwise_cons.2 ⟨fun z hz => ?_, h2⟩
      rcases List.mem_cons.1 hz with e | e
      · subst e; exact h1
      · exact kLt_trans h1 ((List.pairwise_cons.1 h2).1 z e)
    · intro h
      exact ⟨(List.pairwise_cons.1 h).1 y (List.mem_cons_self ..), (List.pairwise_cons.1 h).2⟩

/-- Keys rise just if each one is greater than the one ahead. -/
theorem risesB_get (l : List ByteArray) : risesB l = true ↔ ∀ i, (h : i + 1 < l.length) → kLt (l[i]'(by omega)) l[i + 1] := by
  induction l with
  | nil => simp [risesB]
  | cons x l ih =>
    cases l with
    | nil => simp [risesB]
    | cons y r =>
      unfold risesB
      rw [Bool.and_eq_true, decide_eq_true_eq, ih]
      constructor
      · rintro ⟨h1, h2⟩ i hi
        cases i with
        | zero => exact h1
        | succ i => exact h2 i (by simpa using hi)
      · intro h
        exact ⟨h 0 (by simp), fun i hi => h (i + 1) (by simpa using hi)⟩

end Go.Proofs.Ytefikadaiconaaa
