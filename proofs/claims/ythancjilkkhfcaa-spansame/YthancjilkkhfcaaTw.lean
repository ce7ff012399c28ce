/- SpanSame: what follows of spans that are joined. -/
import Derived.Test.YthancjilkkhfcaaTq
namespace Go.Proofs.Ythancjilkkhfcaa
open Go.RowKit Go.IntWalk
set_option linter.unusedSimpArgs false
set_option linter.unusedVariables false

theorem joinC_jd (l : List Sp) : Jd (joinC l) := (sortC_sorted l).jd
theorem joinC_keys (l : List Sp) (k : By) : HasK (joinC l) k ↔ HasK l k := (sortC_sorted l).keys k
theorem joinC_same {l l' : List Sp} (h : ∀ k, HasK l k ↔ HasK l' k) : joinC l = joinC l' := (sortC_sorted l).one (sortC_sorted l') h
theorem joinC_own (l : List Sp) : joinC (joinC l) = joinC l := joinC_same (joinC_keys l)

theorem hasB_eq {l l' : List Sp} {k : By} (h : HasK l k ↔ HasK l' k) : hasB l k = hasB l' k := by
  rw [Bool.eq_iff_iff, hasB_iff, hasB_iff]
  exact h

theorem turned_same (l : List Sp) (f : Nat) : joinC (l.drop f ++ l.take f) = joinC l := by
  refine joinC_same fun k => ?_
  have e : ∀ s, s ∈ l.drop f ++ l.take f ↔ s ∈ l := fun s => by
    rw [List.mem_append, or_comm, ← List.mem_append, List.take_append_drop]
  simp only [HasK, e]

theorem Jd.all {J : List Sp} (h : Jd J) {s : Sp} (hs : s ∈ J) : NonE s := by
  cases J with
  | nil => simp at hs
  | cons t r =>
    rcases List.mem_cons.1 hs with rfl | hs
    · exact h.head
    · exact (h.behind r t s hs).2.2

theorem Jd.next : ∀ (J : List Sp), Jd J → ∀ i (h : i + 1 < J.length), hi J[i] ≠ [] ∧ hi J[i] < lo J[i + 1]
  | [], _, i, h => absurd h (by simp)
  | s :: r, hj, i, h => by
    cases i with
    | zero =>
      have h0 : 0 < r.length := by simpa using h
      have := hj.behind r s r[0] (List.getElem_mem h0)
      exact ⟨this.1, this.2.1⟩
    | succ i => exact Jd.next r hj.tail i (by simpa using h)

theorem Jd.gap : ∀ (J : List Sp), Jd J → ∀ s ∈ J, hi s ≠ [] → ¬ HasK J (hi s)
  | [], _, s, hs, _ => absurd hs (by simp)
  | t :: r, hj, s, hs, hn => by
    rcases List.mem_cons.1 hs with rfl | hs
    · exact hj.end_none hn
    · rw [HasK.cons]
      rintro (⟨_, h1⟩ | h1)
      · obtain ⟨h2, h3, h4⟩ := hj.behind r t s hs
        have h5 := h1.resolve_left h2
        have h6 := h4.resolve_left hn
        exact List.lt_irrefl _ (List.lt_trans (List.lt_trans h5 h3) h6)
      · exact Jd.gap r hj.tail s hs hn h1

theorem covB_true (s : Sp) : ∀ (J : List Sp), HasK J (lo s) → (∀ j ∈ J, KeyIn j (lo s) → ¬ outl s j) → covB J s = true
  | [], h, _ => absurd h HasK.nil
  | j :: J, h, ho => by
    rw [covB]
    by_cases hj : KeyIn j (lo s)
    · rw [if_pos hj]
      simp only [ho j (by simp) hj, decide_false, Bool.not_false]
    · rw [if_neg hj]
      exact covB_true s J ((HasK.cons.1 h).resolve_left hj) (fun x hx => ho x (by simp [hx]))

/-- Spans that are joined cover each span of which they have all keys. -/
theorem covers_own {J : List Sp} (hJ : Jd J) {s : Sp} (hs : NonE s) (hk : ∀ k, KeyIn s k → HasK J k) : covB J s = true := by
  refine covB_true s J (hk _ hs.lo_in) fun j hj h1 h2 => ?_
  refine Jd.gap J hJ j hj h2.1 (hk _ ⟨?_, h2.2⟩)
  have h3 := h1.2.resolve_left h2.1
  exact fun e => List.lt_irrefl _ (List.lt_trans e h3)

theorem cov_each (l : List Sp) {s : Sp} (hs : s ∈ l) : (if NonE s then covB (joinC l) s else true) = true := by
  split
  · rename_i h
    exact covers_own (joinC_jd l) h fun k hk => (joinC_keys l k).2 ⟨s, hs, hk⟩
  · rfl

theorem has_each (l : List Sp) {s : Sp} (hs : s ∈ l) (h : NonE s) : hasB (joinC l) (lo s) = true := by
  rw [hasB_iff, joinC_keys]
  exact ⟨s, hs, h.lo_in⟩

theorem gap_none (l : List Sp) {s : Sp} (hs : s ∈ joinC l) (hn : hi s ≠ []) : hasB l (hi s) = false := by
  rw [← Bool.not_eq_true, hasB_iff, ← joinC_keys]
  exact (joinC_jd l).gap _ s hs hn

theorem SpsAt.drop {w : World} {b off : Nat} {l : List Sp} (h : SpsAt w (some ⟨b, off, none⟩) l) (f : Nat) : SpsAt w (some ⟨b, off + f * 2, none⟩) (l.drop f) := by
  rcases h with ⟨e, _⟩ | ⟨b', off', e, h2, h3⟩
  · cases e
  · obtain ⟨rfl, rfl⟩ : b = b' ∧ off = off' := by simpa using e
    refine Or.inr ⟨b, off + f * 2, rfl, h2, fun i hi => ?_⟩
    have hlt : f + i < l.length := by rw [List.length_drop] at hi; omega
    have := h3 (f + i) hlt
    rw [show off + (f + i) * 2 = off + f * 2 + i * 2 by omega] at this
    rw [List.getElem_drop]
    exact this

theorem SpsAt.take {w : World} {ao : Option Addr} {l : List Sp} (h : SpsAt w ao l) (f : Nat) : SpsAt w ao (l.take f) := by
  rcases h with ⟨e, h⟩ | ⟨b, off, e, h2, h3⟩
  · exact Or.inl ⟨e, by rw [h]; simp⟩
  · refine Or.inr ⟨b, off, e, h2, fun i hi => ?_⟩
    have hlt : i < l.length := by rw [List.length_take] at hi; omega
    rw [List.getElem_take]
    exact h3 i hlt

theorem pick_any (x : Int) (n : Nat) (hn : 1 ≤ n) (hb : n ≤ 1000000) (w : World) : Calls Try.prog 30 #[.int .i64 x, .int .i64 n] w fun e w' => (∃ r : Nat, e = .returned (.int .i64 r) ∧ r < n) ∧ w' = w := by
  have hn0 : ((n : Int) == 0) = false := by simp; omega
  have hn1 : ¬ (n : Int) < 1 := by omega
  have h1 := Int.tmod_lt_of_pos x (show (0 : Int) < n by omega)
  have h2 := Int.lt_tmod_of_pos x (show (0 : Int) < n by omega)
  go_enter Try.func30, Try.ntmps30
  go_wp2
  all_goals
    go_ret
    first | exact ⟨⟨(x.tmod n + n).toNat, by rw [Int.toNat_of_nonneg (by omega)]; rfl, by omega⟩, rfl⟩ | exact ⟨⟨(x.tmod n).toNat, by rw [Int.toNat_of_nonneg (by omega)]; rfl, by omega⟩, rfl⟩

end Go.Proofs.Ythancjilkkhfcaa
