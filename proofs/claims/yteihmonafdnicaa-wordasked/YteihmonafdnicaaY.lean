/- The reader's Count, Text whole; ID; End. -/
import Derived.Test.YteihmonafdnicaaU
import Derived.Laws.CopyOwn
namespace Go.Proofs.Yteihmonafdnicaa
open Go.RowKit Go.IntWalk
set_option linter.unusedSimpArgs false
set_option linter.unusedVariables false

/-- What Count tells, and the state behind it. -/
def rCount (bs : List UInt8) (most : Int) (s : Nat × Int × Int) : Int × (Nat × Int × Int) :=
  if s.2.1 ≠ 0 then (0, s) else match rdNum bs s.1 0 most 3 with
    | .inl (e, a) => (0, (s.1, e, a))
    | .inr (n, m) => (n, (m, 0, s.2.2))

/-- What Text tells, and the state behind it. -/
def rText (bs : List UInt8) (most : Int) (s : Nat × Int × Int) : List UInt8 × (Nat × Int × Int) :=
  if s.2.1 ≠ 0 then ([], s) else match rdText bs s.1 most with
    | .inl (e, a) => ([], (s.1, e, a))
    | .inr (x, m) => (x, (m, 0, s.2.2))

theorem rdText_le {bs : List UInt8} {at_ m : Nat} {x : List UInt8} {most : Int} (h : rdText bs at_ most = .inr (x, m)) : m ≤ bs.length := by
  unfold rdText at h
  split at h
  · cases h
  · split at h
    · cases h
    · simp at h; omega

section
variable {w : World} {p t : Nat} {ao : Option Addr} {cap : Nat} {bs : List UInt8}

/-- What is common to Count and Text: the boxes. -/
theorem rb2 (at_ : Nat) (er ea most : Int) (o : Obj) (hR : RAt w p t ao cap bs at_ er ea) :
    RAt (rboxes2 w p most o) p t ao cap bs at_ er ea ∧ RAt (boxed (rboxes2 w p most o) t).drew p t ao cap bs at_ er ea ∧ w.heap.size + 1 + 1 < (rboxes2 w p most o).heap.size ∧ ¬ wset t ao (w.heap.size + 1 + 1) ∧
    (∀ k, k < (rboxes2 w p most o).heap.size → (boxed (rboxes2 w p most o) t).drew.heap[k]? = (rboxes2 w p most o).heap[k]?) ∧
    (∀ w' : World, Fr (fun k => k = t ∨ k = w.heap.size + 1 + 1) (rboxes2 w p most o) w' → Fr (fun k => k = t) w w') := by
  have hsz := rboxes2_size w p most o
  have hB : RAt (rboxes2 w p most o) p t ao cap bs at_ er ea := hR.fr (Fr.rboxes2 w p most o (fun _ => False)) (fun e => e) (fun _ _ e => e)
  refine ⟨hB, hB.fr (Fr.boxed _ t (fun _ => False)) (fun e => e) (fun _ _ e => e), by omega, fun e => by have := hR.setlt e; omega, fun k hk => (Fr.boxed _ t (fun _ => False)).block k hk (fun e => e), fun w' hF => ?_⟩
  exact (Fr.rboxes2 w p most o _).trans hF (fun i hi e => e.resolve_right (by omega))
end

theorem rcount_any (p t : Nat) (ao : Option Addr) (cap : Nat) (bs : List UInt8) (s : Nat × Int × Int) (most : Int) (w : World) (h : ROk w p t ao cap bs s) (hb : bs.length ≤ 140737488355328) :
    Calls Try.prog 26 #[.pointer (some ⟨p, 0, none⟩), .int .i64 most] w fun e w' => e = .returned (.int .i64 (rCount bs most s).1) ∧ ROk w' p t ao cap bs (rCount bs most s).2 ∧ Fr (fun k => k = t) w w' := by
  obtain ⟨at_, er, ea⟩ := s
  obtain ⟨hR, hat⟩ := h
  simp only at hR hat
  obtain ⟨g0, g1, g2⟩ := rboxes2_get w p most (.cells #[.int .i64 0] 3)
  obtain ⟨hB, hB2, hd, hdt, hbx, hfin⟩ := rb2 at_ er ea most (.cells #[.int .i64 0] 3) hR
  have hlt := hR.lt
  by_cases her : er = 0
  · subst her
    cases hr : rdNum bs at_ 0 most 3 with
    | inl ea0 =>
      obtain ⟨e0, a0⟩ := ea0
      rw [show rCount bs most (at_, 0, ea) = (0, (at_, e0, a0)) by simp [rCount, hr]]
      refine rcount_via p t most 0 w (fun w' => ROk w' p t ao cap bs (at_, e0, a0) ∧ Fr (fun k => k = t) w w') hR.c hlt ?_
      refine (rdo_bad (d := w.heap.size + 1 + 1) 57 _ e0 a0 hB hd hdt (fun _ => by kernel_rfl) (rcount1_bad p t _ _ _ ao cap bs at_ 0 ea most e0 a0 _ hB2 hb hat
        (cellOfHeap ((hbx _ (by omega)).trans g0) 0 rfl) (cellOfHeap ((hbx _ (by omega)).trans g1) 0 rfl) hr)).mono ?_
      rintro e w' ⟨rfl, h1, h2, h3⟩
      exact ⟨rfl, h1.trans g2, ⟨h2, hat⟩, hfin w' h3⟩
    | inr nm =>
      obtain ⟨n, m⟩ := nm
      rw [show rCount bs most (at_, 0, ea) = ((n : Int), (m, 0, ea)) by simp [rCount, hr]]
      refine rcount_via p t most n w (fun w' => ROk w' p t ao cap bs (m, 0, ea) ∧ Fr (fun k => k = t) w w') hR.c hlt ?_
      refine (rdo_ok (d := w.heap.size + 1 + 1) 57 _ _ m hB hd hdt (by omega) (fun _ => by kernel_rfl) (rcount1_ok p t _ _ _ ao cap bs at_ 0 ea most 0 n m _ hB2 hb hat
        (cellOfHeap ((hbx _ (by omega)).trans g0) 0 rfl) (cellOfHeap ((hbx _ (by omega)).trans g1) 0 rfl) ((hbx _ (by omega)).trans g2) hr)).mono ?_
      rintro e w' ⟨rfl, h1, h2, h3⟩
      exact ⟨rfl, h1, ⟨h2, rdNum_le hr hat⟩, hfin w' h3⟩
  · rw [show rCount bs most (at_, er, ea) = (0, (at_, er, ea)) by simp [rCount, her]]
    refine rcount_via p t most 0 w (fun w' => ROk w' p t ao cap bs (at_, er, ea) ∧ Fr (fun k => k = t) w w') hR.c hlt ?_
    refine (rdo_shut (d := w.heap.size + 1 + 1) _ hB (by simpa using her) hd).mono ?_
    rintro e w' ⟨rfl, h1, h2, h3⟩
    exact ⟨rfl, h1.trans g2, ⟨h2, hat⟩, hfin w' h3⟩

theorem rtext_any (p t : Nat) (ao : Option Addr) (cap : Nat) (bs : List UInt8) (s : Nat × Int × Int) (most : Int) (w : World) (h : ROk w p t ao cap bs s) (hb : bs.length ≤ 140737488355328) :
    Calls Try.prog 28 #[.pointer (some ⟨p, 0, none⟩), .int .i64 most] w fun e w' => e = .returned (.string ⟨(rText bs most s).1.toArray⟩) ∧ ROk w' p t ao cap bs (rText bs most s).2 ∧ Fr (fun k => k = t) w w' := by
  obtain ⟨at_, er, ea⟩ := s
  obtain ⟨hR, hat⟩ := h
  simp only at hR hat
  obtain ⟨g0, g1, g2⟩ := rboxes2_get w p most (.cells #[.string ⟨#[]⟩] 9)
  obtain ⟨hB, hB2, hd, hdt, hbx, hfin⟩ := rb2 at_ er ea most (.cells #[.string ⟨#[]⟩] 9) hR
  have hlt := hR.lt
  by_cases her : er = 0
  · subst her
    cases hr : rdText bs at_ most with
    | inl ea0 =>
      obtain ⟨e0, a0⟩ := ea0
      rw [show rText bs most (at_, 0, ea) = ([], (at_, e0, a0)) by simp [rText, hr]]
      refine rtext_via p t most ⟨#[]⟩ w (fun w' => ROk w' p t ao cap bs (at_, e0, a0) ∧ Fr (fun k => k = t) w w') hR.c hlt ?_
      refine (rdo_bad (d := w.heap.size + 1 + 1) 59 _ e0 a0 hB hd hdt (fun _ => by kernel_rfl) (rtext1_bad p t _ _ _ ao cap bs at_ 0 ea most e0 a0 _ hB2 hb hat
        (cellOfHeap ((hbx _ (by omega)).trans g0) 0 rfl) (cellOfHeap ((hbx _ (by omega)).trans g1) 0 rfl) hr)).mono ?_
      rintro e w' ⟨rfl, h1, h2, h3⟩
      exact ⟨rfl, h1.trans g2, ⟨h2, hat⟩, hfin w' h3⟩
    | inr nm =>
      obtain ⟨x, m⟩ := nm
      rw [show rText bs most (at_, 0, ea) = (x, (m, 0, ea)) by simp [rText, hr]]
      refine rtext_via p t most ⟨x.toArray⟩ w (fun w' => ROk w' p t ao cap bs (m, 0, ea) ∧ Fr (fun k => k = t) w w') hR.c hlt ?_
      refine (rdo_ok (d := w.heap.size + 1 + 1) 59 _ _ m hB hd hdt (by omega) (fun _ => by kernel_rfl) (rtext1_ok p t _ _ _ ao cap bs at_ 0 ea most ⟨#[]⟩ x m _ hB2 hb hat
        (cellOfHeap ((hbx _ (by omega)).trans g0) 0 rfl) (cellOfHeap ((hbx _ (by omega)).trans g1) 0 rfl) ((hbx _ (by omega)).trans g2) hr)).mono ?_
      rintro e w' ⟨rfl, h1, h2, h3⟩
      exact ⟨rfl, h1, ⟨h2, rdText_le hr⟩, hfin w' h3⟩
  · rw [show rText bs most (at_, er, ea) = ([], (at_, er, ea)) by simp [rText, her]]
    refine rtext_via p t most ⟨#[]⟩ w (fun w' => ROk w' p t ao cap bs (at_, er, ea) ∧ Fr (fun k => k = t) w w') hR.c hlt ?_
    refine (rdo_shut (d := w.heap.size + 1 + 1) _ hB (by simpa using her) hd).mono ?_
    rintro e w' ⟨rfl, h1, h2, h3⟩
    exact ⟨rfl, h1.trans g2, ⟨h2, hat⟩, hfin w' h3⟩

/-- End: the fault; without one, that bytes are left. -/
def rEnd (bs : List UInt8) (s : Nat × Int × Int) : Int × Int := if s.2.1 = 0 ∧ s.1 < bs.length then (4, s.1) else s.2

theorem rend_any (p t : Nat) (ao : Option Addr) (cap : Nat) (bs : List UInt8) (s : Nat × Int × Int) (w : World) (h : ROk w p t ao cap bs s) (hb : bs.length ≤ 140737488355328) :
    Calls Try.prog 36 #[.pointer (some ⟨p, 0, none⟩)] w fun e w' => e = .returned (.agg #[.int .i64 (rEnd bs s).1, .int .i64 (rEnd bs s).2]) ∧ Fr (fun _ => False) w w' := by
  have hO : ∀ w', Fr (fun _ => False) w w' → ROk w' p t ao cap bs s := fun w' hF => ⟨h.1.fr hF (fun e => e) (fun _ _ e => e), h.2⟩
  obtain ⟨at_, er, ea⟩ := s
  have hat := h.2
  simp only at hat
  have hpl := h.1.lt
  have htl := h.1.tp.lt
  have HF := hideIt (rfault_any p t ao cap bs (at_, er, ea) (w.alloc (.cells #[.int .i64 0, .int .i64 0] 58)) (hO _ ((Fr.refl _ _).alloc _)))
  have hnew : ∀ w1, Fr (fun _ => False) (w.alloc (.cells #[.int .i64 0, .int .i64 0] 58)) w1 → w1.cell? ⟨w.heap.size, 0, none⟩ = some (.int .i64 0) ∧ w1.cell? ⟨w.heap.size, 1, none⟩ = some (.int .i64 0) ∧ w1.frozen? ⟨w.heap.size, 0, none⟩ = false ∧ w1.frozen? ⟨w.heap.size, 1, none⟩ = false ∧ w.heap.size < w1.heap.size := fun w1 hF1 => by
    have hb1 := (hF1.block w.heap.size (by simp) (fun e => e)).trans (heap_alloc_new w _)
    have := hF1.size
    simp at this
    exact ⟨cellOfHeap hb1 0 rfl, cellOfHeap hb1 1 rfl, frozen_of_row _ _ _ _ _ hb1, frozen_of_row _ _ _ _ _ hb1, by omega⟩
  by_cases hc : er = 0 ∧ at_ < bs.length
  · obtain ⟨rfl, hlt⟩ := hc
    rw [show rEnd bs (at_, 0, ea) = (4, (at_ : Int)) by simp [rEnd, hlt]]
    have HN := hideIt hnew
    clear hnew
    go_enter Try.func36, Try.ntmps36
    go_wp2_with fail
    refine Calls.mono HF.out ?_
    rintro e w1 ⟨rfl, hF1⟩
    obtain ⟨q0, q1, z0, z1, ql⟩ := HN.out w1 hF1
    have hF1' : Fr (fun _ => False) w w1 := ((Fr.refl _ w).alloc _).trans hF1 (fun _ _ e => e)
    have hO2 := fun o => hO (w1.alloc o) (hF1'.alloc o)
    have HL := hideIt (fun o => rleft_any p t ao cap bs (at_, 0, ea) (w1.alloc o) (hO2 o) hb)
    have hcp := (hO w1 hF1').1.c
    have hct := (hO w1 hF1').1.tp.c1
    have hpl1 := (hO w1 hF1').1.lt
    have htl1 := (hO w1 hF1').1.tp.lt
    simp only at hct
    clear hF1
    go_wp2_with fail
    refine Calls.mono (HL.out _) ?_
    rintro e w2 ⟨rfl, k, rfl⟩
    go_wp2_with fail
    exact bodyPost_ret (v := .agg #[.int .i64 4, .int .i64 at_]) (by simp [results, Try.results36, go_sem, q0, q1, ql]) rfl ⟨rfl, by
      repeat (first | exact hF1' | apply Fr.drewN | apply Fr.alloc | (refine Fr.setCell ?_ (fun h => absurd h (by simp)) _))⟩
  · rw [show rEnd bs (at_, er, ea) = (er, ea) by simp only [rEnd]; rw [if_neg hc]]
    have HN := hideIt hnew
    clear hnew
    by_cases her : er = 0
    · subst her
      obtain rfl : at_ = bs.length := by omega
      clear hc
      go_enter Try.func36, Try.ntmps36
      go_wp2_with fail
      refine Calls.mono HF.out ?_
      rintro e w1 ⟨rfl, hF1⟩
      obtain ⟨q0, q1, z0, z1, ql⟩ := HN.out w1 hF1
      have hF1' : Fr (fun _ => False) w w1 := ((Fr.refl _ w).alloc _).trans hF1 (fun _ _ e => e)
      have hO2 := fun o => hO (w1.alloc o) (hF1'.alloc o)
      have HL := hideIt (fun o => rleft_any p t ao cap bs (bs.length, 0, ea) (w1.alloc o) (hO2 o) hb)
      clear hF1
      go_wp2_with fail
      refine Calls.mono (HL.out _) ?_
      rintro e w2 ⟨rfl, k, rfl⟩
      go_wp2_with fail
      exact bodyPost_ret (v := .agg #[.int .i64 0, .int .i64 ea]) (by simp [results, Try.results36, go_sem, q0, q1, ql]) rfl ⟨rfl, by
        repeat (first | exact hF1' | apply Fr.drewN | apply Fr.alloc | (refine Fr.setCell ?_ (fun h => absurd h (by simp)) _))⟩
    · have her' : (er == 0) = false := by simpa using her
      clear hc her
      go_enter Try.func36, Try.ntmps36
      go_wp2_with fail
      refine Calls.mono HF.out ?_
      rintro e w1 ⟨rfl, hF1⟩
      obtain ⟨q0, q1, z0, z1, ql⟩ := HN.out w1 hF1
      have hF1' : Fr (fun _ => False) w w1 := ((Fr.refl _ w).alloc _).trans hF1 (fun _ _ e => e)
      clear hF1
      go_wp2_with fail
      exact bodyPost_ret (v := .agg #[.int .i64 er, .int .i64 ea]) (by simp [results, Try.results36, go_sem, q0, q1, ql]) rfl ⟨rfl, by
        repeat (first | exact hF1' | apply Fr.drewN | apply Fr.alloc | (refine Fr.setCell ?_ (fun h => absurd h (by simp)) _))⟩

end Go.Proofs.Yteihmonafdnicaa
