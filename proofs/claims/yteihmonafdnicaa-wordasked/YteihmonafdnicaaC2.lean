/- What is told is written as the bytes that were passed over. -/
import Derived.Test.YteihmonafdnicaaB3
import Derived.Test.YteihmonafdnicaaC
namespace Go.Proofs.Yteihmonafdnicaa
set_option linter.unusedSimpArgs false
set_option linter.unusedVariables false

theorem scan_back : ∀ (bs : List UInt8) (i acc n k : Nat), i ≤ 8 → scan bs i acc = .ok (n, k) → ∃ m, n = acc + m * 128 ^ i ∧ k = i + (sevens m).length ∧ bs.take (sevens m).length = sevens m ∧ (0 < i → 0 < m)
  | [], i, acc, n, k, _, h => by simp [scan] at h
  | b :: bs, i, acc, n, k, hi, h => by
    rw [scan] at h
    by_cases c1 : 128 ≤ b.toNat ∧ i + 1 = 9
    · rw [if_pos c1] at h
      cases h
    rw [if_neg c1] at h
    by_cases c2 : b.toNat = 0 ∧ 0 < i
    · rw [if_pos c2] at h
      cases h
    rw [if_neg c2] at h
    have hb : UInt8.ofNat b.toNat = b := by simp
    by_cases c3 : b.toNat < 128
    · rw [if_pos c3] at h
      have e : n = acc + b.toNat % 128 * 128 ^ i ∧ k = i + 1 := by
        injection h with h
        injection h with h1 h2
        exact ⟨h1.symm, h2.symm⟩
      refine ⟨b.toNat, by rw [e.1, Nat.mod_eq_of_lt c3], by rw [sevens_lt c3]; exact e.2, by rw [sevens_lt c3, hb]; rfl, fun h0 => ?_⟩
      rcases Nat.eq_zero_or_pos b.toNat with hz | hz
      · exact absurd ⟨hz, h0⟩ c2
      · exact hz
    · rw [if_neg c3] at h
      obtain ⟨m, h1, h2, h3, h4⟩ := scan_back bs (i + 1) _ n k (by omega) h
      have hm := h4 (by omega)
      have hlt := UInt8.toNat_lt b
      have hge : ¬ (b.toNat % 128 + 128 * m < 128) := by omega
      have hs : sevens (b.toNat % 128 + 128 * m) = b :: sevens m := by
        rw [sevens_ge hge, show (b.toNat % 128 + 128 * m) % 128 + 128 = b.toNat by omega, show (b.toNat % 128 + 128 * m) / 128 = m by omega, hb]
      refine ⟨b.toNat % 128 + 128 * m, ?_, ?_, ?_, fun _ => by omega⟩
      · rw [h1, Nat.pow_succ, Nat.add_mul, Nat.add_assoc]
        congr 2
        rw [Nat.mul_comm (128 ^ i) 128, ← Nat.mul_assoc, Nat.mul_comm m 128]
      · rw [hs, List.length_cons]
        omega
      · rw [hs, List.length_cons, List.take_succ_cons, h3]

theorem rdNum_back {bs : List UInt8} {at_ n m : Nat} {low high above : Int} (h : rdNum bs at_ low high above = .inr (n, m)) : m = at_ + (sevens n).length ∧ (bs.drop at_).take (sevens n).length = sevens n := by
  unfold rdNum at h
  split at h
  · cases h
  · cases h
  · cases h
  · rename_i n' k hs
    obtain ⟨q, h1, h2, h3, _⟩ := scan_back _ 0 0 n' k (by omega) hs
    have e1 : n' = q := by simpa using h1
    subst e1
    split at h
    · cases h
    · split at h
      · cases h
      · injection h with h
        injection h with ha hb
        subst ha
        exact ⟨by rw [← hb, h2]; omega, h3⟩

theorem rdNum_fault {bs : List UInt8} {at_ : Nat} {low high above e a : Int} (hat : at_ ≤ bs.length) (h : rdNum bs at_ low high above = .inl (e, a)) : (e = 4 ∨ e = 5 ∨ e = above) ∧ (at_ : Int) ≤ a ∧ a ≤ (bs.length : Int) := by
  unfold rdNum at h
  split at h
  · injection h with h
    injection h with h1 h2
    exact ⟨Or.inl h1.symm, by omega, by omega⟩
  · injection h with h
    injection h with h1 h2
    exact ⟨Or.inr (Or.inl h1.symm), by omega, by omega⟩
  · injection h with h
    injection h with h1 h2
    exact ⟨Or.inl h1.symm, by omega, by omega⟩
  · split at h
    · injection h with h
      injection h with h1 h2
      exact ⟨Or.inr (Or.inl h1.symm), by omega, by omega⟩
    · split at h
      · injection h with h
        injection h with h1 h2
        exact ⟨Or.inr (Or.inr h1.symm), by omega, by omega⟩
      · cases h

theorem take_more (bs : List UInt8) (a n : Nat) (x : List UInt8) (h : (bs.drop a).take n = x) : bs.take a ++ x = bs.take (a + n) := by
  rw [← h, ← List.take_add]

/-- What an ask tells and does, where no fault stood. -/
def Passed (bs : List UInt8) (at_ : Nat) (ea : Int) (r : Th × (Nat × Int × Int)) : Prop :=
  (r.2.2.1 = 0 → r.2.2.2 = ea ∧ at_ ≤ r.2.1 ∧ r.2.1 ≤ bs.length ∧ wTh r.1 (bs.take at_, false) = (bs.take r.2.1, false)) ∧ (r.2.2.1 ≠ 0 → r.2.1 = at_ ∧ (at_ : Int) ≤ r.2.2.2 ∧ r.2.2.2 ≤ (bs.length : Int))

theorem passed_num (bs : List UInt8) (at_ : Nat) (ea low high above : Int) (z : List UInt8) (hat : at_ ≤ bs.length) (hab : above ≠ 0) (p : Int × (Nat × Int × Int))
    (hp : p = match rdNum bs at_ low high above with | .inl (e, a) => (0, (at_, e, a)) | .inr (n, m) => ((n : Int), (m, 0, ea))) : Passed bs at_ ea (⟨0, p.1, ⟨#[]⟩, z⟩, p.2) := by
  subst hp
  cases h : rdNum bs at_ low high above with
  | inl f =>
    obtain ⟨e, a⟩ := f
    obtain ⟨h1, h2, h3⟩ := rdNum_fault hat h
    exact ⟨fun h0 => by simp only at h0; omega, fun _ => ⟨rfl, h2, h3⟩⟩
  | inr f =>
    obtain ⟨n, m⟩ := f
    have hle := rdNum_le h hat
    obtain ⟨h1, h2⟩ := rdNum_back h
    refine ⟨fun _ => ⟨rfl, by simp only; omega, hle, ?_⟩, fun h0 => absurd rfl h0⟩
    have hn : ¬ ((n : Int) < 0) := by omega
    simp only [wTh, wInt, if_true, Bool.false_eq_true, if_false, hn, Int.toNat_natCast]
    rw [take_more bs at_ _ _ h2, ← h1]

theorem ask_passed (bs : List UInt8) (q : Int × Int × Int) (at_ : Nat) (ea : Int) (hat : at_ ≤ bs.length) : Passed bs at_ ea (askS bs q (at_, 0, ea)) := by
  unfold askS
  by_cases h0 : q.1 = 0
  · rw [if_pos h0]
    exact passed_num bs at_ ea q.2.1 q.2.2 5 zeros32 hat (by decide) (rInt bs q.2.1 q.2.2 (at_, 0, ea)) (by simp only [rInt, ne_eq, not_true_eq_false, if_false]; cases rdNum bs at_ q.2.1 q.2.2 5 <;> rfl)
  rw [if_neg h0]
  by_cases h1 : q.1 = 1
  · rw [if_pos h1]
    exact passed_num bs at_ ea 0 q.2.2 3 zeros32 hat (by decide) (rCount bs q.2.2 (at_, 0, ea)) (by simp only [rCount, ne_eq, not_true_eq_false, if_false]; cases rdNum bs at_ 0 q.2.2 3 <;> rfl)
  rw [if_neg h1]
  by_cases h2 : q.1 = 2
  · rw [if_pos h2]
    cases h : rdNum bs at_ 0 q.2.2 3 with
    | inl f =>
      obtain ⟨e, a⟩ := f
      obtain ⟨g1, g2, g3⟩ := rdNum_fault hat h
      have e1 : rText bs q.2.2 (at_, 0, ea) = ([], (at_, e, a)) := by simp [rText, rdText, h]
      rw [e1]
      exact ⟨fun h0 => by simp only at h0; omega, fun _ => ⟨rfl, g2, g3⟩⟩
    | inr f =>
      obtain ⟨n, m⟩ := f
      have hle := rdNum_le h hat
      obtain ⟨g1, g2⟩ := rdNum_back h
      by_cases hl : bs.length < m + n
      · have e1 : rText bs q.2.2 (at_, 0, ea) = ([], (at_, 4, (bs.length : Int))) := by simp [rText, rdText, h, hl]
        rw [e1]
        exact ⟨fun h0 => by simp only at h0; omega, fun _ => ⟨rfl, by simp only; omega, by simp only; omega⟩⟩
      · have e1 : rText bs q.2.2 (at_, 0, ea) = ((bs.drop m).take n, (m + n, 0, ea)) := by simp [rText, rdText, h, hl]
        rw [e1]
        refine ⟨fun _ => ⟨rfl, by simp only; omega, by simp only; omega, ?_⟩, fun h0 => absurd rfl h0⟩
        have hyl : ((bs.drop m).take n).length = n := by simp; omega
        have n0 : ¬ ((1 : Int) = 0) := by decide
        simp only [wTh, wText, n0, if_true, if_false, Bool.false_eq_true, hyl]
        rw [← List.append_assoc, take_more bs at_ _ _ g2, ← g1, take_more bs m n _ rfl]
  rw [if_neg h2]
  by_cases h3 : q.1 = 3
  · rw [if_pos h3]
    by_cases hl : bs.length < at_ + 32
    · have e1 : rID bs (at_, 0, ea) = (zeros32, (at_, 4, (bs.length : Int))) := by simp [rID, hl]
      rw [e1]
      exact ⟨fun h0 => by simp only at h0; omega, fun _ => ⟨rfl, by simp only; omega, by simp only; omega⟩⟩
    · have e1 : rID bs (at_, 0, ea) = ((bs.drop at_).take 32, (at_ + 32, 0, ea)) := by simp [rID, hl]
      rw [e1]
      refine ⟨fun _ => ⟨rfl, by simp only; omega, by simp only; omega, ?_⟩, fun h0 => absurd rfl h0⟩
      have n0 : ¬ ((2 : Int) = 0) := by decide
      have n1 : ¬ ((2 : Int) = 1) := by decide
      simp only [wTh, wID, n0, n1, if_true, if_false, Bool.false_eq_true]
      rw [take_more bs at_ 32 _ rfl]
  · rw [if_neg h3]
    refine ⟨fun _ => ⟨rfl, Nat.le_refl _, hat, ?_⟩, fun h0 => absurd rfl h0⟩
    have n0 : ¬ ((3 : Int) = 0) := by decide
    have n1 : ¬ ((3 : Int) = 1) := by decide
    have n2 : ¬ ((3 : Int) = 2) := by decide
    simp only [wTh, n0, n1, n2, if_false]

end Go.Proofs.Yteihmonafdnicaa
