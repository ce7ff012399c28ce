/- The document's own reader: numbers. -/
import Derived.Test.YteihmonafdnicaaY2
import Derived.Test.YteihmonafdnicaaY
namespace Go.Proofs.Yteihmonafdnicaa
open Go.RowKit Go.IntWalk
set_option linter.unusedSimpArgs false
set_option linter.unusedVariables false

/-- The document's reader, by its place and its fault; it is apart from the bytes that it reads. -/
def YOk (w : World) (p : Nat) (ao : Option Addr) (cap : Nat) (bs : List UInt8) (s : Nat × Int × Int) : Prop := YAt w p ao cap bs s.1 s.2.1 s.2.2 ∧ ¬ blk ao p ∧ s.1 ≤ bs.length

/-- What peek tells, and the fault behind it. -/
def yPeek (bs : List UInt8) (low hi above : Int) (s : Nat × Int × Int) : (Int × Int) × (Nat × Int × Int) :=
  if s.2.1 ≠ 0 then ((0, 0), s) else match rdNum bs s.1 low hi above with
    | .inl (e, a) => ((0, 0), (s.1, e, a))
    | .inr (n, m) => ((n, (m : Int) - s.1), (s.1, 0, s.2.2))

theorem ypeek_any (p : Nat) (ao : Option Addr) (cap : Nat) (bs : List UInt8) (s : Nat × Int × Int) (low hi above : Int) (w : World) (h : YOk w p ao cap bs s) (hb : bs.length ≤ 140737488355328) :
    Calls Try.prog 56 #[.pointer (some ⟨p, 0, none⟩), .int .i64 low, .int .i64 hi, .int .i64 above] w fun e w' => e = .returned (.tuple #[.int .i64 (yPeek bs low hi above s).1.1, .int .i64 (yPeek bs low hi above s).1.2]) ∧ YOk w' p ao cap bs (yPeek bs low hi above s).2 ∧ Fr (fun k => k = p) w w' := by
  obtain ⟨at_, er, ea⟩ := s
  obtain ⟨hY, hap, hat⟩ := h
  simp only at hY hat
  unfold yPeek
  by_cases her : er = 0
  · subst her
    simp only [ne_eq, not_true_eq_false, if_false]
    cases hs : scan (bs.drop at_) 0 0 with
    | error x =>
      obtain ⟨e0, a0, h1, h2⟩ : ∃ e0 a0, sizeV bs.length at_ (scan (bs.drop at_) 0 0) = (0, e0, a0) ∧ rdNum bs at_ low hi above = .inl (e0, a0) := by
        unfold rdNum
        rw [hs]
        match x with
        | 0 => exact ⟨_, _, rfl, rfl⟩
        | 1 => exact ⟨_, _, rfl, rfl⟩
        | n + 2 => exact ⟨_, _, rfl, rfl⟩
      rw [h2]
      refine (ypeek_none p ao cap bs at_ ea low hi above e0 a0 w hY hap hat hb h1).mono ?_
      rintro e w' ⟨rfl, hY', hF⟩
      exact ⟨rfl, ⟨hY', hap, hat⟩, hF⟩
    | ok nk =>
      obtain ⟨n, k⟩ := nk
      refine (ypeek_num p ao cap bs at_ ea low hi above n k w hY hap hat hb hs).mono ?_
      rintro e w' ⟨hF, hp⟩
      unfold rdNum
      rw [hs]
      simp only
      split at hp
      · rename_i h1
        rw [if_pos h1]
        exact ⟨hp.1, ⟨hp.2, hap, hat⟩, hF⟩
      · rename_i h1
        rw [if_neg h1]
        split at hp
        · rename_i h2
          rw [if_pos h2]
          exact ⟨hp.1, ⟨hp.2, hap, hat⟩, hF⟩
        · rename_i h2
          rw [if_neg h2]
          refine ⟨?_, ⟨hp.2, hap, hat⟩, hF⟩
          rw [hp.1]
          simp
          omega
  · simp only [ne_eq, her, not_false_eq_true, if_true]
    refine (ypeek_shut p ao cap bs at_ er ea low hi above w hY her).mono ?_
    rintro e w' ⟨rfl, rfl⟩
    exact ⟨rfl, ⟨hY, hap, hat⟩, Fr.refl _ _⟩

theorem YAt.moved {w : World} {p : Nat} {ao : Option Addr} {cap : Nat} {bs : List UInt8} {at_ er ea : Int} (h : YAt w p ao cap bs at_ er ea) (hap : ¬ blk ao p) (n : Int) : YAt (w.setCell ⟨p, 1, none⟩ (.int .i64 n)) p ao cap bs n er ea := by
  have hF : Fr (fun k => k = p) w (w.setCell ⟨p, 1, none⟩ (.int .i64 n)) := (Fr.refl (fun k => k = p) w).setCell (p := ⟨p, 1, none⟩) (fun _ => rfl) _
  refine ⟨?_, h.bytes.fr hF (fun k _ hk e => hap (by subst e; exact hk))⟩
  rw [heap_setCell_same w p 1 _ _ _ h.box]
  rfl

theorem yint_any (p : Nat) (ao : Option Addr) (cap : Nat) (bs : List UInt8) (s : Nat × Int × Int) (low hi : Int) (w : World) (h : YOk w p ao cap bs s) (hb : bs.length ≤ 140737488355328) :
    Calls Try.prog 25 #[.pointer (some ⟨p, 0, none⟩), .int .i64 low, .int .i64 hi] w fun e w' => e = .returned (.int .i64 (rInt bs low hi s).1) ∧ YOk w' p ao cap bs (rInt bs low hi s).2 ∧ Fr (fun k => k = p) w w' := by
  have HPK := hideIt (ypeek_any p ao cap bs s low hi 5 w h hb)
  obtain ⟨v, k, at_, er, ea, hv, hr1, hr2⟩ : ∃ (v k : Int) (at_ : Nat) (er ea : Int), yPeek bs low hi 5 s = ((v, k), (at_, er, ea)) ∧ (rInt bs low hi s).1 = v ∧ ∃ m : Nat, (rInt bs low hi s).2 = (m, er, ea) ∧ (at_ : Int) + k = m ∧ m ≤ bs.length := by
    obtain ⟨a0, e0, f0⟩ := s
    obtain ⟨hY, hap, hat⟩ := h
    simp only at hat
    by_cases her : e0 = 0
    · subst her
      cases hn : rdNum bs a0 low hi 5 with
      | inl f => exact ⟨0, 0, a0, f.1, f.2, by simp [yPeek, hn], by simp [rInt, hn], a0, by simp [rInt, hn], by omega, hat⟩
      | inr f =>
        have hle := rdNum_le hn hat
        exact ⟨f.1, (f.2 : Int) - a0, a0, 0, f0, by simp [yPeek, hn], by simp [rInt, hn], f.2, by simp [rInt, hn], by omega, hle⟩
    · exact ⟨0, 0, a0, e0, f0, by simp [yPeek, her], by simp [rInt, her], a0, by simp [rInt, her], by omega, hat⟩
  obtain ⟨m, hr2, hm, hml⟩ := hr2
  rw [hv] at HPK
  rw [hr1, hr2]
  clear hv hr1 hr2 h
  simp only at HPK
  have hkb : -140737488355328 ≤ k ∧ k ≤ 140737488355328 ∨ True := Or.inr trivial
  clear hkb
  go_enter Try.func25, Try.ntmps25
  go_wp2_with fail
  refine Calls.mono HPK.out ?_
  rintro e w1 ⟨rfl, ⟨hY1, hap1, hat1⟩, hF1⟩
  simp only at hY1 hat1
  have c1 := hY1.c1
  have hz := frozen_of_row w1 p 1 _ _ hY1.box
  have hpl := hY1.lt
  have hwr : IntKind.i64.wrap ((at_ : Int) + k) = (m : Int) := by rw [IntKind.wrap_i64]; omega
  have hwr2 : wrap64 ((at_ : Int) + k) = (m : Int) := by simp only [wrap64]; omega
  have HFIN := hideIt (hY1.moved hap1 m)
  have HFR := hideIt (hF1.setCell (p := ⟨p, 1, none⟩) (fun _ => rfl) (.int .i64 (m : Int)))
  have HML := hideIt hml
  clear hF1 hY1 hm hml
  go_wp2_with fail
  go_ret
  exact ⟨rfl, ⟨HFIN.out, hap1, HML.out⟩, HFR.out⟩

theorem ycount_any (p : Nat) (ao : Option Addr) (cap : Nat) (bs : List UInt8) (s : Nat × Int × Int) (most : Int) (w : World) (h : YOk w p ao cap bs s) (hb : bs.length ≤ 140737488355328) :
    Calls Try.prog 27 #[.pointer (some ⟨p, 0, none⟩), .int .i64 most] w fun e w' => e = .returned (.int .i64 (rCount bs most s).1) ∧ YOk w' p ao cap bs (rCount bs most s).2 ∧ Fr (fun k => k = p) w w' := by
  have HPK := hideIt (ypeek_any p ao cap bs s 0 most 3 w h hb)
  obtain ⟨v, k, at_, er, ea, hv, hr1, hr2⟩ : ∃ (v k : Int) (at_ : Nat) (er ea : Int), yPeek bs 0 most 3 s = ((v, k), (at_, er, ea)) ∧ (rCount bs most s).1 = v ∧ ∃ m : Nat, (rCount bs most s).2 = (m, er, ea) ∧ (at_ : Int) + k = m ∧ m ≤ bs.length := by
    obtain ⟨a0, e0, f0⟩ := s
    obtain ⟨hY, hap, hat⟩ := h
    simp only at hat
    by_cases her : e0 = 0
    · subst her
      cases hn : rdNum bs a0 0 most 3 with
      | inl f => exact ⟨0, 0, a0, f.1, f.2, by simp [yPeek, hn], by simp [rCount, hn], a0, by simp [rCount, hn], by omega, hat⟩
      | inr f =>
        have hle := rdNum_le hn hat
        exact ⟨f.1, (f.2 : Int) - a0, a0, 0, f0, by simp [yPeek, hn], by simp [rCount, hn], f.2, by simp [rCount, hn], by omega, hle⟩
    · exact ⟨0, 0, a0, e0, f0, by simp [yPeek, her], by simp [rCount, her], a0, by simp [rCount, her], by omega, hat⟩
  obtain ⟨m, hr2, hm, hml⟩ := hr2
  rw [hv] at HPK
  rw [hr1, hr2]
  clear hv hr1 hr2 h
  simp only at HPK
  have hkb : -140737488355328 ≤ k ∧ k ≤ 140737488355328 ∨ True := Or.inr trivial
  clear hkb
  go_enter Try.func27, Try.ntmps27
  go_wp2_with fail
  refine Calls.mono HPK.out ?_
  rintro e w1 ⟨rfl, ⟨hY1, hap1, hat1⟩, hF1⟩
  simp only at hY1 hat1
  have c1 := hY1.c1
  have hz := frozen_of_row w1 p 1 _ _ hY1.box
  have hpl := hY1.lt
  have hwr : IntKind.i64.wrap ((at_ : Int) + k) = (m : Int) := by rw [IntKind.wrap_i64]; omega
  have hwr2 : wrap64 ((at_ : Int) + k) = (m : Int) := by simp only [wrap64]; omega
  have HFIN := hideIt (hY1.moved hap1 m)
  have HFR := hideIt (hF1.setCell (p := ⟨p, 1, none⟩) (fun _ => rfl) (.int .i64 (m : Int)))
  have HML := hideIt hml
  clear hF1 hY1 hm hml
  go_wp2_with fail
  go_ret
  exact ⟨rfl, ⟨HFIN.out, hap1, HML.out⟩, HFR.out⟩

end Go.Proofs.Yteihmonafdnicaa
