/- The document's own reader: texts, what is left, the end. -/
import Derived.Test.YteihmonafdnicaaY4
namespace Go.Proofs.Yteihmonafdnicaa
open Go.RowKit Go.IntWalk
set_option linter.unusedSimpArgs false
set_option linter.unusedVariables false

/-- Text, out of what peek and pass do. -/
theorem ytext_via (p : Nat) (most v k : Int) (x : List UInt8) (w : World) (R : World → Prop)
    (hpk : Calls Try.prog 56 #[.pointer (some ⟨p, 0, none⟩), .int .i64 0, .int .i64 most, .int .i64 3] w fun e w1 => e = .returned (.tuple #[.int .i64 v, .int .i64 k]) ∧
      Calls Try.prog 61 #[.pointer (some ⟨p, 0, none⟩), .int .i64 k, .int .i64 v] w1 fun e2 w2 => ∃ ao' cap', e2 = .returned (.slice ao' x.length cap') ∧ BsAt w2 ao' x ∧ R w2) :
    Calls Try.prog 29 #[.pointer (some ⟨p, 0, none⟩), .int .i64 most] w fun e w' => e = .returned (.string ⟨x.toArray⟩) ∧ R w' := by
  have HPK := hideIt hpk
  clear hpk
  go_enter Try.func29, Try.ntmps29
  go_wp2_with fail
  refine Calls.mono HPK.out ?_
  rintro e w1 ⟨rfl, hps⟩
  have HPS := hideIt hps
  clear hps
  go_wp2_with fail
  refine Calls.mono HPS.out ?_
  rintro e w2 ⟨ao', cap', rfl, hbs, hR⟩
  have hcv := hbs.conv cap'
  have HR := hideIt hR
  clear hbs hR
  go_wp2_with fail
  go_ret
  exact ⟨rfl, HR.out⟩

theorem ytext_any (p : Nat) (ao : Option Addr) (cap : Nat) (bs : List UInt8) (s : Nat × Int × Int) (most : Int) (w : World) (h : YOk w p ao cap bs s) (hb : bs.length ≤ 140737488355328) (hcl : bs.length ≤ cap) (hcm : cap ≤ maxLen) :
    Calls Try.prog 29 #[.pointer (some ⟨p, 0, none⟩), .int .i64 most] w fun e w' => e = .returned (.string ⟨(rText bs most s).1.toArray⟩) ∧ YOk w' p ao cap bs (rText bs most s).2 ∧ Fr (fun k => k = p) w w' := by
  have hpk := ypeek_any p ao cap bs s 0 most 3 w h hb
  obtain ⟨at_, er, ea⟩ := s
  obtain ⟨hY, hap, hat⟩ := h
  simp only at hY hat
  by_cases her : er = 0
  · subst her
    cases hn : rdNum bs at_ 0 most 3 with
    | inl f =>
      obtain ⟨e0, a0⟩ := f
      obtain ⟨he, _, _⟩ := rdNum_fault hat hn
      have e1 : yPeek bs 0 most 3 (at_, 0, ea) = ((0, 0), (at_, e0, a0)) := by simp [yPeek, hn]
      have e2 : rText bs most (at_, 0, ea) = ([], (at_, e0, a0)) := by simp [rText, rdText, hn]
      rw [e1] at hpk
      rw [e2]
      refine ytext_via p most 0 0 [] w (fun w' => YOk w' p ao cap bs (at_, e0, a0) ∧ Fr (fun k => k = p) w w') (hpk.mono ?_)
      rintro e w1 ⟨rfl, ⟨hY1, _, _⟩, hF1⟩
      simp only at hY1
      refine ⟨rfl, (ypass_shut p ao cap bs at_ e0 a0 0 0 w1 hY1 (by omega) (by omega) (by omega) (by omega)).mono ?_⟩
      rintro e w2 ⟨rfl, rfl⟩
      exact ⟨none, 0, rfl, Or.inl ⟨rfl, rfl⟩, ⟨hY1, hap, hat⟩, hF1⟩
    | inr f =>
      obtain ⟨n, m⟩ := f
      have hro := rdNum_room hn hat
      have e1 : yPeek bs 0 most 3 (at_, 0, ea) = (((n : Int), (m : Int) - at_), (at_, 0, ea)) := by simp [yPeek, hn]
      rw [e1] at hpk
      by_cases hl : bs.length < m + n
      · have e2 : rText bs most (at_, 0, ea) = ([], (at_, 4, (bs.length : Int))) := by simp [rText, rdText, hn, hl]
        rw [e2]
        refine ytext_via p most n ((m : Int) - at_) [] w (fun w' => YOk w' p ao cap bs (at_, 4, (bs.length : Int)) ∧ Fr (fun k => k = p) w w') (hpk.mono ?_)
        rintro e w1 ⟨rfl, ⟨hY1, _, _⟩, hF1⟩
        simp only at hY1
        refine ⟨rfl, (ypass_long p ao cap bs at_ ea ((m : Int) - at_) n w1 hY1 hap m (by omega) (by omega) hb (by omega)).mono ?_⟩
        rintro e w2 ⟨rfl, hY2, hF2⟩
        exact ⟨none, 0, rfl, Or.inl ⟨rfl, rfl⟩, ⟨hY2, hap, hat⟩, hF1.trans hF2 (fun _ _ e => e)⟩
      · have e2 : rText bs most (at_, 0, ea) = ((bs.drop m).take n, (m + n, 0, ea)) := by simp [rText, rdText, hn, hl]
        rw [e2]
        have hxl : ((bs.drop m).take n).length = n := by simp; omega
        refine ytext_via p most n ((m : Int) - at_) ((bs.drop m).take n) w (fun w' => YOk w' p ao cap bs (m + n, 0, ea) ∧ Fr (fun k => k = p) w w') (hpk.mono ?_)
        rintro e w1 ⟨rfl, ⟨hY1, _, _⟩, hF1⟩
        simp only at hY1
        have hne : ao ≠ none := by
          rintro rfl
          rcases hY1.bytes with ⟨_, e⟩ | ⟨_, _, e, _⟩
          · rw [e] at hro
            simp at hro
            omega
          · cases e
        refine ⟨rfl, (ypass_ok p ao cap bs at_ ea ((m : Int) - at_) n w1 hY1 hap m n (by omega) rfl (by omega) hb hcl hcm hne).mono ?_⟩
        rintro e w2 ⟨ao', cap', rfl, hB2, hY2, hF2⟩
        refine ⟨ao', cap', by rw [hxl], hB2, ⟨?_, hap, by simp only; omega⟩, hF1.trans hF2 (fun _ _ e => e)⟩
        simpa using hY2
  · have e1 : yPeek bs 0 most 3 (at_, er, ea) = ((0, 0), (at_, er, ea)) := by simp [yPeek, her]
    have e2 : rText bs most (at_, er, ea) = ([], (at_, er, ea)) := by simp [rText, her]
    rw [e1] at hpk
    rw [e2]
    refine ytext_via p most 0 0 [] w (fun w' => YOk w' p ao cap bs (at_, er, ea) ∧ Fr (fun k => k = p) w w') (hpk.mono ?_)
    rintro e w1 ⟨rfl, ⟨hY1, _, _⟩, hF1⟩
    simp only at hY1
    refine ⟨rfl, (ypass_shut p ao cap bs at_ er ea 0 0 w1 hY1 her (by omega) (by omega) (by omega)).mono ?_⟩
    rintro e w2 ⟨rfl, rfl⟩
    exact ⟨none, 0, rfl, Or.inl ⟨rfl, rfl⟩, ⟨hY1, hap, hat⟩, hF1⟩

theorem yopen_any (ao : Option Addr) (cap : Nat) (bs : List UInt8) (w : World) (h : BsAt w ao bs) (hlt : ∀ k, blk ao k → k < w.heap.size) :
    Calls Try.prog 22 #[.slice ao bs.length cap] w fun e w' => e = .returned (.pointer (some ⟨w.heap.size, 0, none⟩)) ∧ YOk w' w.heap.size ao cap bs (0, 0, 0) ∧ Fr (fun _ => False) w w' ∧ w'.heap.size = w.heap.size + 1 := by
  go_enter Try.func22, Try.ntmps22
  go_wp2
  go_ret
  have hF : Fr (fun _ => False) w (w.alloc (.cells #[.slice ao bs.length cap, .int .i64 0, .int .i64 0, .int .i64 0] 60)) := (Fr.refl _ _).alloc _
  exact ⟨rfl, ⟨⟨heap_new rfl, h.fr hF (fun _ _ _ e => e)⟩, fun e => by have := hlt _ e; omega, Nat.zero_le _⟩, hF, by simp⟩

theorem yleft_any (p : Nat) (ao : Option Addr) (cap : Nat) (bs : List UInt8) (s : Nat × Int × Int) (w : World) (h : YOk w p ao cap bs s) (hb : bs.length ≤ 140737488355328) :
    Calls Try.prog 34 #[.pointer (some ⟨p, 0, none⟩)] w fun e w' => e = .returned (.int .i64 ((bs.length : Int) - s.1)) ∧ ∃ k, w' = w.drewN k := by
  obtain ⟨at_, er, ea⟩ := s
  obtain ⟨hY, hap, hat⟩ := h
  have c0 := hY.c0
  have c1 := hY.c1
  simp only at c1 hat ⊢
  go_enter Try.func34, Try.ntmps34
  go_wp2_with fail
  first | (go_quiet (fail); go_wp2; go_ret; exact ⟨rfl, _, rfl⟩) | (go_ret; exact ⟨rfl, 0, rfl⟩)

end Go.Proofs.Yteihmonafdnicaa
