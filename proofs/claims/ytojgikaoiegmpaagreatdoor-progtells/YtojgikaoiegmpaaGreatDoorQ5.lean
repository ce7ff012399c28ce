/- ProgTells, part 5 of the road: what the program's functions do, each by its own walk. -/
import Derived.Test.YtojgikaoiegmpaaGreatDoorQ4
import Derived.Laws.CopyOwn
import Derived.Lib.OthersKept
import Derived.Test.YtojgikaoiegmpaaGreatDoorQ3
import Derived.Deep.MidRow
import Derived.Deep.RegionHeld3
import Derived.Deep.QuietTactic

/- The reader's Count, Text whole; ID; End. -/
namespace Go.Proofs.YtojgikaoiegmpaaGreatDoor
open Go.RowKit Go.IntWalk
set_option linter.unusedSimpArgs false
set_option linter.unusedVariables false
set_option maxRecDepth 100000

/-- What Count tells, and the state behind it. -/
def rCount (bs : List UInt8) (most : Int) (s : Nat × Int × Int) : Int × (Nat × Int × Int) :=
  if s.2.1 ≠ 0 then (0, s) else match rdNum bs s.1 0 most 3 with
    | .inl (e, a) => (0, (s.1, e, a))
    | .inr (n, m) => (n, (m, 0, s.2.2))

/-- What Text tells, and the state behind it. -/
def rText (bs : List UInt8) (most : Int) (s : Nat × Int × Int) : List UInt8 × (Nat × Int × Int) :=
  if s.2.1 ≠ 0 then ([], s) else match rdText bs s.1 most with
    | .inl (e, a) => ([], (s.1, e, a))
    | .inr (x, m) => (x, (m, 0, s.2.2))

theorem rdText_le {bs : List UInt8} {at_ m : Nat} {x : List UInt8} {most : Int} (h : rdText bs at_ most = .inr (x, m)) : m ≤ bs.length := by
  unfold rdText at h
  split at h
  · cases h
  · split at h
    · cases h
    · simp at h; omega

section
variable {w : World} {p t : Nat} {ao : Option Addr} {cap : Nat} {bs : List UInt8}

/-- What is common to Count and Text: the boxes. -/
theorem rb2 (at_ : Nat) (er ea most : Int) (o : Obj) (hR : RAt w p t ao cap bs at_ er ea) :
    RAt (rboxes2 w p most o) p t ao cap bs at_ er ea ∧ RAt (boxed (rboxes2 w p most o) t).drew p t ao cap bs at_ er ea ∧ w.heap.size + 1 + 1 < (rboxes2 w p most o).heap.size ∧ ¬ wset t ao (w.heap.size + 1 + 1) ∧
    (∀ k, k < (rboxes2 w p most o).heap.size → (boxed (rboxes2 w p most o) t).drew.heap[k]? = (rboxes2 w p most o).heap[k]?) ∧
    (∀ w' : World, Fr (fun k => k = t ∨ k = w.heap.size + 1 + 1) (rboxes2 w p most o) w' → Fr (fun k => k = t) w w') := by
  have hsz := rboxes2_size w p most o
  have hB : RAt (rboxes2 w p most o) p t ao cap bs at_ er ea := hR.fr (Fr.rboxes2 w p most o (fun _ => False)) (fun e => e) (fun _ _ e => e)
  refine ⟨hB, hB.fr (Fr.boxed _ t (fun _ => False)) (fun e => e) (fun _ _ e => e), by omega, fun e => by have := hR.setlt e; omega, fun k hk => (Fr.boxed _ t (fun _ => False)).block k hk (fun e => e), fun w' hF => ?_⟩
  exact (Fr.rboxes2 w p most o _).trans hF (fun i hi e => e.resolve_right (by omega))
end

theorem rcount_any (p t : Nat) (ao : Option Addr) (cap : Nat) (bs : List UInt8) (s : Nat × Int × Int) (most : Int) (w : World) (h : ROk w p t ao cap bs s) (hb : bs.length ≤ 140737488355328) :
    Calls Tryz.prog 62 #[.pointer (some ⟨p, 0, none⟩), .int .i64 most] w fun e w' => e = .returned (.int .i64 (rCount bs most s).1) ∧ ROk w' p t ao cap bs (rCount bs most s).2 ∧ Fr (fun k => k = t) w w' := by
  obtain ⟨at_, er, ea⟩ := s
  obtain ⟨hR, hat⟩ := h
  simp only at hR hat
  obtain ⟨g0, g1, g2⟩ := rboxes2_get w p most (.cells #[.int .i64 0] 3)
  obtain ⟨hB, hB2, hd, hdt, hbx, hfin⟩ := rb2 at_ er ea most (.cells #[.int .i64 0] 3) hR
  have hlt := hR.lt
  by_cases her : er = 0
  · subst her
    cases hr : rdNum bs at_ 0 most 3 with
    | inl ea0 =>
      obtain ⟨e0, a0⟩ := ea0
      rw [show rCount bs most (at_, 0, ea) = (0, (at_, e0, a0)) by simp [rCount, hr]]
      refine rcount_via p t most 0 w (fun w' => ROk w' p t ao cap bs (at_, e0, a0) ∧ Fr (fun k => k = t) w w') hR.c hlt ?_
      refine (rdo_bad (d := w.heap.size + 1 + 1) 86 _ e0 a0 hB hd hdt (fun _ => by kernel_rfl) (rcount1_bad p t _ _ _ ao cap bs at_ 0 ea most e0 a0 _ hB2 hb hat
        (cellOfHeap ((hbx _ (by omega)).trans g0) 0 rfl) (cellOfHeap ((hbx _ (by omega)).trans g1) 0 rfl) hr)).mono ?_
      rintro e w' ⟨rfl, h1, h2, h3⟩
      exact ⟨rfl, h1.trans g2, ⟨h2, hat⟩, hfin w' h3⟩
    | inr nm =>
      obtain ⟨n, m⟩ := nm
      rw [show rCount bs most (at_, 0, ea) = ((n : Int), (m, 0, ea)) by simp [rCount, hr]]
      refine rcount_via p t most n w (fun w' => ROk w' p t ao cap bs (m, 0, ea) ∧ Fr (fun k => k = t) w w') hR.c hlt ?_
      refine (rdo_ok (d := w.heap.size + 1 + 1) 86 _ _ m hB hd hdt (by omega) (fun _ => by kernel_rfl) (rcount1_ok p t _ _ _ ao cap bs at_ 0 ea most 0 n m _ hB2 hb hat
        (cellOfHeap ((hbx _ (by omega)).trans g0) 0 rfl) (cellOfHeap ((hbx _ (by omega)).trans g1) 0 rfl) ((hbx _ (by omega)).trans g2) hr)).mono ?_
      rintro e w' ⟨rfl, h1, h2, h3⟩
      exact ⟨rfl, h1, ⟨h2, rdNum_le hr hat⟩, hfin w' h3⟩
  · rw [show rCount bs most (at_, er, ea) = (0, (at_, er, ea)) by simp [rCount, her]]
    refine rcount_via p t most 0 w (fun w' => ROk w' p t ao cap bs (at_, er, ea) ∧ Fr (fun k => k = t) w w') hR.c hlt ?_
    refine (rdo_shut (d := w.heap.size + 1 + 1) _ hB (by simpa using her) hd).mono ?_
    rintro e w' ⟨rfl, h1, h2, h3⟩
    exact ⟨rfl, h1.trans g2, ⟨h2, hat⟩, hfin w' h3⟩

theorem rtext_any (p t : Nat) (ao : Option Addr) (cap : Nat) (bs : List UInt8) (s : Nat × Int × Int) (most : Int) (w : World) (h : ROk w p t ao cap bs s) (hb : bs.length ≤ 140737488355328) :
    Calls Tryz.prog 109 #[.pointer (some ⟨p, 0, none⟩), .int .i64 most] w fun e w' => e = .returned (.string ⟨(rText bs most s).1.toArray⟩) ∧ ROk w' p t ao cap bs (rText bs most s).2 ∧ Fr (fun k => k = t) w w' := by
  obtain ⟨at_, er, ea⟩ := s
  obtain ⟨hR, hat⟩ := h
  simp only at hR hat
  obtain ⟨g0, g1, g2⟩ := rboxes2_get w p most (.cells #[.string ⟨#[]⟩] 9)
  obtain ⟨hB, hB2, hd, hdt, hbx, hfin⟩ := rb2 at_ er ea most (.cells #[.string ⟨#[]⟩] 9) hR
  have hlt := hR.lt
  by_cases her : er = 0
  · subst her
    cases hr : rdText bs at_ most with
    | inl ea0 =>
      obtain ⟨e0, a0⟩ := ea0
      rw [show rText bs most (at_, 0, ea) = ([], (at_, e0, a0)) by simp [rText, hr]]
      refine rtext_via p t most ⟨#[]⟩ w (fun w' => ROk w' p t ao cap bs (at_, e0, a0) ∧ Fr (fun k => k = t) w w') hR.c hlt ?_
      refine (rdo_bad (d := w.heap.size + 1 + 1) 111 _ e0 a0 hB hd hdt (fun _ => by kernel_rfl) (rtext1_bad p t _ _ _ ao cap bs at_ 0 ea most e0 a0 _ hB2 hb hat
        (cellOfHeap ((hbx _ (by omega)).trans g0) 0 rfl) (cellOfHeap ((hbx _ (by omega)).trans g1) 0 rfl) hr)).mono ?_
      rintro e w' ⟨rfl, h1, h2, h3⟩
      exact ⟨rfl, h1.trans g2, ⟨h2, hat⟩, hfin w' h3⟩
    | inr nm =>
      obtain ⟨x, m⟩ := nm
      rw [show rText bs most (at_, 0, ea) = (x, (m, 0, ea)) by simp [rText, hr]]
      refine rtext_via p t most ⟨x.toArray⟩ w (fun w' => ROk w' p t ao cap bs (m, 0, ea) ∧ Fr (fun k => k = t) w w') hR.c hlt ?_
      refine (rdo_ok (d := w.heap.size + 1 + 1) 111 _ _ m hB hd hdt (by omega) (fun _ => by kernel_rfl) (rtext1_ok p t _ _ _ ao cap bs at_ 0 ea most ⟨#[]⟩ x m _ hB2 hb hat
        (cellOfHeap ((hbx _ (by omega)).trans g0) 0 rfl) (cellOfHeap ((hbx _ (by omega)).trans g1) 0 rfl) ((hbx _ (by omega)).trans g2) hr)).mono ?_
      rintro e w' ⟨rfl, h1, h2, h3⟩
      exact ⟨rfl, h1, ⟨h2, rdText_le hr⟩, hfin w' h3⟩
  · rw [show rText bs most (at_, er, ea) = ([], (at_, er, ea)) by simp [rText, her]]
    refine rtext_via p t most ⟨#[]⟩ w (fun w' => ROk w' p t ao cap bs (at_, er, ea) ∧ Fr (fun k => k = t) w w') hR.c hlt ?_
    refine (rdo_shut (d := w.heap.size + 1 + 1) _ hB (by simpa using her) hd).mono ?_
    rintro e w' ⟨rfl, h1, h2, h3⟩
    exact ⟨rfl, h1.trans g2, ⟨h2, hat⟩, hfin w' h3⟩

/-- End: the fault; without one, that bytes are left. -/
def rEnd (bs : List UInt8) (s : Nat × Int × Int) : Int × Int := if s.2.1 = 0 ∧ s.1 < bs.length then (4, s.1) else s.2


end Go.Proofs.YtojgikaoiegmpaaGreatDoor

/- Code: an instruction in memory, the things that letters stand for (find, fits, clear). -/
namespace Go.Proofs.YtojgikaoiegmpaaGreatDoor
open Go.RowKit Go.IntWalk
set_option linter.unusedSimpArgs false
set_option linter.unusedVariables false
set_option maxRecDepth 100000

/-- An instruction. -/
structure Ins where
  op : Int
  a : Int
  b : Int
  c : Int
  n : Int
  s : ByteArray

/-- Its number at a place. -/
def Ins.get (i : Ins) (f : Nat) : Int := if f = 0 then i.op else if f = 1 then i.a else if f = 2 then i.b else if f = 3 then i.c else i.n
def Ins.put (i : Ins) (f : Nat) (v : Int) : Ins := if f = 1 then { i with a := v } else if f = 2 then { i with b := v } else if f = 3 then { i with c := v } else { i with n := v }

def icells (i : Ins) : Array Value := #[.int .i64 i.op, .int .i64 i.a, .int .i64 i.b, .int .i64 i.c, .int .i64 i.n, .string i.s]
def InsAt (w : World) (p : Nat) (i : Ins) : Prop := w.heap[p]? = some (.cells (icells i) 40)

section
variable {w w' : World} {p : Nat} {i : Ins}
theorem InsAt.lt (h : InsAt w p i) : p < w.heap.size := (Array.getElem?_eq_some_iff.1 h).1
theorem InsAt.c0 (h : InsAt w p i) : w.cell? ⟨p, 0, none⟩ = some (.int .i64 i.op) := by rw [cell_of_row w p 0 _ _ _ h]; rfl
theorem InsAt.c1 (h : InsAt w p i) : w.cell? ⟨p, 1, none⟩ = some (.int .i64 i.a) := by rw [cell_of_row w p 1 _ _ _ h]; rfl
theorem InsAt.c2 (h : InsAt w p i) : w.cell? ⟨p, 2, none⟩ = some (.int .i64 i.b) := by rw [cell_of_row w p 2 _ _ _ h]; rfl
theorem InsAt.c3 (h : InsAt w p i) : w.cell? ⟨p, 3, none⟩ = some (.int .i64 i.c) := by rw [cell_of_row w p 3 _ _ _ h]; rfl
theorem InsAt.c4 (h : InsAt w p i) : w.cell? ⟨p, 4, none⟩ = some (.int .i64 i.n) := by rw [cell_of_row w p 4 _ _ _ h]; rfl
theorem InsAt.c5 (h : InsAt w p i) : w.cell? ⟨p, 5, none⟩ = some (.string i.s) := by rw [cell_of_row w p 5 _ _ _ h]; rfl
theorem InsAt.fz (h : InsAt w p i) (j : Nat) : w.frozen? ⟨p, j, none⟩ = false := frozen_of_row w p j _ _ h
theorem InsAt.num (h : InsAt w p i) (f : Nat) (h1 : 1 ≤ f) (h4 : f ≤ 4) : w.cell? ⟨p, f, none⟩ = some (.int .i64 (i.get f)) := by
  obtain rfl | rfl | rfl | rfl : f = 1 ∨ f = 2 ∨ f = 3 ∨ f = 4 := by omega
  · exact h.c1
  · exact h.c2
  · exact h.c3
  · exact h.c4
theorem InsAt.keep (h : InsAt w p i) (hb : w'.heap[p]? = w.heap[p]?) : InsAt w' p i := hb.trans h
theorem InsAt.fr {S : Nat → Prop} (h : InsAt w p i) (hf : Fr S w w') (hS : ¬ S p) : InsAt w' p i := (hf.block p h.lt hS).trans h
theorem InsAt.putN (h : InsAt w p i) (f : Nat) (h1 : 1 ≤ f) (h4 : f ≤ 4) (v : Int) : InsAt (w.setCell ⟨p, f, none⟩ (.int .i64 v)) p (i.put f v) := by
  have := heap_setCell_same w p f (icells i) 40 (.int .i64 v) h
  obtain rfl | rfl | rfl | rfl : f = 1 ∨ f = 2 ∨ f = 3 ∨ f = 4 := by omega
  all_goals exact this
theorem InsAt.putS (h : InsAt w p i) (s : ByteArray) : InsAt (w.setCell ⟨p, 5, none⟩ (.string s)) p { i with s := s } :=
  heap_setCell_same w p 5 (icells i) 40 (.string s) h
end

/-- Which field a letter stands for; its bounds. -/
def fld (l : Nat) : Nat := if l = 65 then 1 else if l = 66 then 2 else if l = 67 then 3 else if l = 69 then 4 else if l = 80 then 4 else 5
def lowL (l : Nat) : Int := if l = 69 then 1 else if l = 80 then 1 else 0
def highL (l : Nat) : Int := if l = 69 then 16 else if l = 80 then 60 else 7
def numV (p f : Nat) (lo hi : Int) : Value := .agg #[.pointer (some ⟨p, f, none⟩), .int .i64 lo, .int .i64 hi, .pointer none]
def textV (p : Nat) : Value := .agg #[.pointer none, .int .i64 0, .int .i64 0, .pointer (some ⟨p, 5, none⟩)]
def partV (p l : Nat) : Value := if fld l = 5 then textV p else numV p (fld l) (lowL l) (highL l)
/-- A letter of the table. -/
abbrev Ltr (l : Nat) : Prop := l = 65 ∨ l = 66 ∨ l = 67 ∨ l = 69 ∨ l = 80 ∨ l = 83

theorem find_any (p l : Nat) (hl : Ltr l) (w : World) : Calls Tryz.prog 50 #[.pointer (some ⟨p, 0, none⟩), .int .i32 (l : Int)] w fun e w' => e = .returned (partV p l) ∧ Fr (fun _ => False) w w' := by
  rcases hl with rfl | rfl | rfl | rfl | rfl | rfl
  · go_enter Tryz.func50, Tryz.ntmps50
    go_wp2
    exact bodyPost_ret (v := numV p 1 0 7) (by simp [results, Tryz.results50, go_sem, numV]) rfl ⟨rfl, (Fr.refl _ _).alloc _⟩
  · go_enter Tryz.func50, Tryz.ntmps50
    go_wp2
    exact bodyPost_ret (v := numV p 2 0 7) (by simp [results, Tryz.results50, go_sem, numV]) rfl ⟨rfl, (Fr.refl _ _).alloc _⟩
  · go_enter Tryz.func50, Tryz.ntmps50
    go_wp2
    exact bodyPost_ret (v := numV p 3 0 7) (by simp [results, Tryz.results50, go_sem, numV]) rfl ⟨rfl, (Fr.refl _ _).alloc _⟩
  · go_enter Tryz.func50, Tryz.ntmps50
    go_wp2
    exact bodyPost_ret (v := numV p 4 1 16) (by simp [results, Tryz.results50, go_sem, numV]) rfl ⟨rfl, (Fr.refl _ _).alloc _⟩
  · go_enter Tryz.func50, Tryz.ntmps50
    go_wp2
    exact bodyPost_ret (v := numV p 4 1 60) (by simp [results, Tryz.results50, go_sem, numV]) rfl ⟨rfl, (Fr.refl _ _).alloc _⟩
  · go_enter Tryz.func50, Tryz.ntmps50
    go_wp2
    exact bodyPost_ret (v := textV p) (by simp [results, Tryz.results50, go_sem, textV]) rfl ⟨rfl, (Fr.refl _ _).alloc _⟩

end Go.Proofs.YtojgikaoiegmpaaGreatDoor

/- Code: whether a thing fits; cleared, written, read. -/
namespace Go.Proofs.YtojgikaoiegmpaaGreatDoor
open Go.RowKit Go.IntWalk
set_option linter.unusedSimpArgs false
set_option linter.unusedVariables false
set_option maxRecDepth 100000

theorem fits_num (p f : Nat) (lo hi v : Int) (w : World) (hc : w.cell? ⟨p, f, none⟩ = some (.int .i64 v)) (hpl : p < w.heap.size) :
    Calls Tryz.prog 66 #[numV p f lo hi] w fun e w' => e = .returned (.bool (decide (lo ≤ v) && decide (v ≤ hi))) ∧ Fr (fun _ => False) w w' := by
  have hc1 : ∀ o, (w.alloc o).cell? ⟨p, f, none⟩ = some (.int .i64 v) := fun o => cellA hc o
  have hne : ¬ w.heap.size = p := by omega
  have hne2 : ¬ p = w.heap.size := by omega
  unfold numV
  by_cases h1 : lo ≤ v
  · have hd : decide (lo ≤ v) = true := by simp [h1]
    go_enter Tryz.func66, Tryz.ntmps66
    go_wp2_with fail
    go_quiet (fail)
    go_wp2_with fail
    go_ret
    exact ⟨by simp [h1], ((Fr.refl _ _).alloc _).drewN _⟩
  · have hd : decide (lo ≤ v) = false := by simp [h1]
    go_enter Tryz.func66, Tryz.ntmps66
    go_wp2_with fail
    go_quiet (fail)
    go_wp2_with fail
    go_ret
    exact ⟨by rw [hd]; rfl, ((Fr.refl _ _).alloc _).drewN _⟩

theorem fits_text (p : Nat) (x : ByteArray) (w : World) (hc : w.cell? ⟨p, 5, none⟩ = some (.string x)) (hpl : p < w.heap.size) :
    Calls Tryz.prog 66 #[textV p] w fun e w' => e = .returned (.bool (decide ((x.size : Int) ≤ 64))) ∧ Fr (fun _ => False) w w' := by
  have hc1 : ∀ o, (w.alloc o).cell? ⟨p, 5, none⟩ = some (.string x) := fun o => cellA hc o
  unfold textV
  go_enter Tryz.func66, Tryz.ntmps66
  go_wp2_with fail
  go_ret
  exact ⟨rfl, (Fr.refl _ _).alloc _⟩

theorem clear_num (p f : Nat) (lo hi v : Int) (w : World) (hc : w.cell? ⟨p, f, none⟩ = some (.int .i64 v)) (hf : w.frozen? ⟨p, f, none⟩ = false) (hpl : p < w.heap.size) (i : Ins) (hI : InsAt w p i) (h1 : 1 ≤ f) (h4 : f ≤ 4) :
    Calls Tryz.prog 67 #[numV p f lo hi] w fun e w' => e = .returned (.tuple #[]) ∧ InsAt w' p (i.put f 0) ∧ Fr (fun k => k = p) w w' := by
  have hc1 : ∀ o, (w.alloc o).cell? ⟨p, f, none⟩ = some (.int .i64 v) := fun o => cellA hc o
  have hf1 : ∀ o, (w.alloc o).frozen? ⟨p, f, none⟩ = false := fun o => (World.frozen?_alloc_old _ _ _ (by simp; omega)).trans hf
  have HI := hideIt hI
  clear hI
  unfold numV
  go_enter Tryz.func67, Tryz.ntmps67
  go_wp2_with fail
  go_end0
  exact ⟨rfl, (HI.out.putN f h1 h4 0).fr ((Fr.refl (fun _ => False) _).alloc _) (fun e => e), ((Fr.refl (fun k => k = p) _).setCell (p := ⟨p, f, none⟩) (fun _ => rfl) _).alloc _⟩

theorem clear_text (p : Nat) (x : ByteArray) (w : World) (hc : w.cell? ⟨p, 5, none⟩ = some (.string x)) (hf : w.frozen? ⟨p, 5, none⟩ = false) (hpl : p < w.heap.size) (i : Ins) (hI : InsAt w p i) :
    Calls Tryz.prog 67 #[textV p] w fun e w' => e = .returned (.tuple #[]) ∧ InsAt w' p { i with s := ⟨#[]⟩ } ∧ Fr (fun k => k = p) w w' := by
  have hc1 : ∀ o, (w.alloc o).cell? ⟨p, 5, none⟩ = some (.string x) := fun o => cellA hc o
  have hf1 : ∀ o, (w.alloc o).frozen? ⟨p, 5, none⟩ = false := fun o => (World.frozen?_alloc_old _ _ _ (by simp; omega)).trans hf
  have HI := hideIt hI
  clear hI
  unfold textV
  go_enter Tryz.func67, Tryz.ntmps67
  go_wp2_with fail
  refine bodyPost_ret (v := .tuple #[]) (by simp [results, Tryz.results67, go_sem]) rfl ?_
  exact ⟨rfl, (HI.out.putS _).fr ((Fr.refl (fun _ => False) _).alloc _) (fun e => e), ((Fr.refl (fun k => k = p) _).setCell (p := ⟨p, 5, none⟩) (fun _ => rfl) _).alloc _⟩

/-- The things of a kind. -/
def kindT (n : Nat) : ByteArray := if n = 1 then ⟨#[65, 83]⟩ else if n = 2 then ⟨#[65, 66]⟩ else if n = 3 then ⟨#[65, 66, 67]⟩ else if n = 4 then ⟨#[65, 66]⟩ else if n = 5 then ⟨#[65]⟩ else if n = 6 then ⟨#[65, 66, 67, 69]⟩ else if n = 7 then ⟨#[65, 66, 67]⟩ else if n = 8 then ⟨#[65, 66, 67]⟩ else if n = 9 then ⟨#[65, 66, 67]⟩ else if n = 10 then ⟨#[65, 66, 67]⟩ else if n = 11 then ⟨#[65, 66, 67]⟩ else if n = 12 then ⟨#[65, 80]⟩ else if n = 13 then ⟨#[80]⟩ else if n = 14 then ⟨#[65]⟩ else ⟨#[]⟩
def kindsA : Array Value := #[.string ⟨#[]⟩, .string ⟨#[65, 83]⟩, .string ⟨#[65, 66]⟩, .string ⟨#[65, 66, 67]⟩, .string ⟨#[65, 66]⟩, .string ⟨#[65]⟩, .string ⟨#[65, 66, 67, 69]⟩, .string ⟨#[65, 66, 67]⟩, .string ⟨#[65, 66, 67]⟩, .string ⟨#[65, 66, 67]⟩, .string ⟨#[65, 66, 67]⟩, .string ⟨#[65, 66, 67]⟩, .string ⟨#[65, 80]⟩, .string ⟨#[80]⟩, .string ⟨#[65]⟩, .string ⟨#[]⟩]

theorem kindsA_get (n : Nat) (hn : n ≤ 15) : kindsA[n]? = some (.string (kindT n)) := by
  obtain rfl | rfl | rfl | rfl | rfl | rfl | rfl | rfl | rfl | rfl | rfl | rfl | rfl | rfl | rfl | rfl : n = 0 ∨ n = 1 ∨ n = 2 ∨ n = 3 ∨ n = 4 ∨ n = 5 ∨ n = 6 ∨ n = 7 ∨ n = 8 ∨ n = 9 ∨ n = 10 ∨ n = 11 ∨ n = 12 ∨ n = 13 ∨ n = 14 ∨ n = 15 := by omega
  all_goals rfl

theorem idx_run (n : Nat) (hn : n ≤ 15) (w0 : World) : (Instr.index 73 (.agg kindsA) (.int .i64 (n : Int))).run Tryz.prog w0 = .ok (.string (kindT n)) w0 := by
  obtain rfl | rfl | rfl | rfl | rfl | rfl | rfl | rfl | rfl | rfl | rfl | rfl | rfl | rfl | rfl | rfl : n = 0 ∨ n = 1 ∨ n = 2 ∨ n = 3 ∨ n = 4 ∨ n = 5 ∨ n = 6 ∨ n = 7 ∨ n = 8 ∨ n = 9 ∨ n = 10 ∨ n = 11 ∨ n = 12 ∨ n = 13 ∨ n = 14 ∨ n = 15 := by omega
  all_goals first | rfl | kernel_rfl

set_option maxRecDepth 100000 in
theorem kinds_any (w : World) : Calls Tryz.prog 49 #[] w fun e w' => e = .returned (.agg kindsA) ∧ Fr (fun _ => False) w w' := by
  go_enter Tryz.func49, Tryz.ntmps49
  go_wp2
  exact bodyPost_ret (v := .agg kindsA) (by simp [results, Tryz.results49, go_sem, kindsA]) rfl ⟨rfl, (Fr.refl _ _).alloc _⟩

end Go.Proofs.YtojgikaoiegmpaaGreatDoor

/- Code: a thing is written; a thing is read. -/
namespace Go.Proofs.YtojgikaoiegmpaaGreatDoor
open Go.RowKit Go.IntWalk
set_option linter.unusedSimpArgs false
set_option linter.unusedVariables false
set_option maxRecDepth 100000

theorem WOk.fr0 {w w' : World} {p t : Nat} {ao : Option Addr} {cap : Nat} {s : List UInt8 × Bool} (h : WOk w p t ao cap s) (hf : Fr (fun _ => False) w w') : WOk w' p t ao cap s := by
  obtain ⟨a, e, h⟩ := h
  exact ⟨a, e, h.fr hf (fun e => e) (fun _ _ e => e)⟩

theorem WPost.after {w0 w w' : World} {p t : Nat} {ao : Option Addr} {s : List UInt8 × Bool} (h : WPost w p t ao s w') (hf : Fr (fun _ => False) w0 w) : WPost w0 p t ao s w' := by
  obtain ⟨ao', cap', hW, hF, hn⟩ := h
  exact ⟨ao', cap', hW, hf.mono (fun _ e => e.elim) |>.trans hF (fun _ _ e => e), hn.imp id (fun g k hk => Nat.le_trans hf.size (g k hk))⟩

theorem write_num (q f p t : Nat) (lo hi v : Int) (ao : Option Addr) (cap : Nat) (s : List UInt8 × Bool) (w : World) (hc : w.cell? ⟨q, f, none⟩ = some (.int .i64 v)) (hpl : q < w.heap.size) (h : WOk w p t ao cap s) (hv : v ≤ 9223372036854775807) (hb : s.1.length + 20 ≤ 140737488355328) :
    Calls Tryz.prog 51 #[numV q f lo hi, .pointer (some ⟨p, 0, none⟩)] w fun e w' => e = .returned (.tuple #[]) ∧ WPost w p t ao (wInt v s) w' := by
  have hc1 : ∀ o, (w.alloc o).cell? ⟨q, f, none⟩ = some (.int .i64 v) := fun o => cellA hc o
  have HW := hideIt (fun o => wint_any p t ao cap s v (w.alloc o) (h.fr0 ((Fr.refl _ _).alloc o)) hv hb)
  clear h
  unfold numV
  go_enter Tryz.func51, Tryz.ntmps51
  go_wp2_with fail
  refine Calls.mono (HW.out _) ?_
  rintro e w1 ⟨rfl, hP⟩
  have HP := hideIt (hP.after ((Fr.refl _ _).alloc _))
  clear hP
  go_wp2_with fail
  go_end0
  exact ⟨rfl, HP.out⟩

theorem write_text (q p t : Nat) (x : ByteArray) (ao : Option Addr) (cap : Nat) (s : List UInt8 × Bool) (w : World) (hc : w.cell? ⟨q, 5, none⟩ = some (.string x)) (hpl : q < w.heap.size) (h : WOk w p t ao cap s) (hb : s.1.length + 20 + x.size ≤ 140737488355328) :
    Calls Tryz.prog 51 #[textV q, .pointer (some ⟨p, 0, none⟩)] w fun e w' => e = .returned (.tuple #[]) ∧ WPost w p t ao (wText x.data.toList s) w' := by
  have hc1 : ∀ o, (w.alloc o).cell? ⟨q, 5, none⟩ = some (.string x) := fun o => cellA hc o
  have HW := hideIt (fun o => wtext_any p t ao cap s x (w.alloc o) (h.fr0 ((Fr.refl _ _).alloc o)) hb)
  clear h
  unfold textV
  go_enter Tryz.func51, Tryz.ntmps51
  go_wp2_with fail
  refine Calls.mono (HW.out _) ?_
  rintro e w1 ⟨rfl, hP⟩
  have HP := hideIt (hP.after ((Fr.refl _ _).alloc _))
  clear hP
  go_wp2_with fail
  refine bodyPost_ret (v := .tuple #[]) (by simp [results, Tryz.results51, go_sem]) rfl ?_
  exact ⟨rfl, HP.out⟩

theorem ROk.fr0 {w w' : World} {p t : Nat} {ao : Option Addr} {cap : Nat} {bs : List UInt8} {s : Nat × Int × Int} (h : ROk w p t ao cap bs s) (hf : Fr (fun _ => False) w w') : ROk w' p t ao cap bs s := ⟨h.1.fr hf (fun e => e) (fun _ _ e => e), h.2⟩

end Go.Proofs.YtojgikaoiegmpaaGreatDoor

/- Code: a thing is read. -/
namespace Go.Proofs.YtojgikaoiegmpaaGreatDoor
open Go.RowKit Go.IntWalk
set_option linter.unusedSimpArgs false
set_option linter.unusedVariables false
set_option maxRecDepth 100000

set_option maxRecDepth 100000 in
theorem take_num (q f p t : Nat) (lo hi v : Int) (i : Ins) (ao : Option Addr) (cap : Nat) (bs : List UInt8) (s : Nat × Int × Int) (w : World) (hc : w.cell? ⟨q, f, none⟩ = some (.int .i64 v)) (hf : w.frozen? ⟨q, f, none⟩ = false) (hpl : q < w.heap.size) (hI : InsAt w q i) (h1 : 1 ≤ f) (h4 : f ≤ 4) (h : ROk w p t ao cap bs s) (hb : bs.length ≤ 140737488355328) (htl : t < w.heap.size) (hqt : ¬ wset t ao q) (hqp : ¬ q = p) :
    Calls Tryz.prog 103 #[numV q f lo hi, .pointer (some ⟨p, 0, none⟩)] w fun e w' => e = .returned (.tuple #[]) ∧ InsAt w' q (i.put f (rInt bs lo hi s).1) ∧ ROk w' p t ao cap bs (rInt bs lo hi s).2 ∧ Fr (fun k => k = t ∨ k = q) w w' := by
  have hqt' : ¬ q = t := fun e => hqt (Or.inl e)
  have hII := hideIt hI
  have HS0 := hideIt (show (fun w0 => w0.cell? ⟨w.heap.size, 0, none⟩ = some (.pointer (some ⟨q, f, none⟩)) ∧ w0.cell? ⟨w.heap.size, 1, none⟩ = some (.int .i64 lo) ∧ w0.cell? ⟨w.heap.size, 2, none⟩ = some (.int .i64 hi)) (w.alloc (.cells #[.pointer (some ⟨q, f, none⟩), .int .i64 lo, .int .i64 hi, .pointer none] 78)).drew from ⟨cellOfHeap (heap_new rfl) 0 rfl, cellOfHeap (heap_new rfl) 1 rfl, cellOfHeap (heap_new rfl) 2 rfl⟩)
  have HS := hideIt (show ∀ w1, Fr (fun k => k = t) (w.alloc (.cells #[.pointer (some ⟨q, f, none⟩), .int .i64 lo, .int .i64 hi, .pointer none] 78)).drew w1 → (fun w0 => w0.cell? ⟨w.heap.size, 0, none⟩ = some (.pointer (some ⟨q, f, none⟩)) ∧ w0.cell? ⟨w.heap.size, 1, none⟩ = some (.int .i64 lo) ∧ w0.cell? ⟨w.heap.size, 2, none⟩ = some (.int .i64 hi)) w1 from fun w1 hF => by
    have e := (hF.block w.heap.size (by simp) (by omega)).trans (heap_new (o := (.cells #[.pointer (some ⟨q, f, none⟩), .int .i64 lo, .int .i64 hi, .pointer none] 78)) rfl)
    exact ⟨cellOfHeap (e) 0 rfl, cellOfHeap (e) 1 rfl, cellOfHeap (e) 2 rfl⟩)
  have HS1 := hideIt (show ∀ w1, Fr (fun k => k = t) (w.alloc (.cells #[.pointer (some ⟨q, f, none⟩), .int .i64 lo, .int .i64 hi, .pointer none] 78)).drew w1 → ∀ v, (fun w0 => w0.cell? ⟨w.heap.size, 0, none⟩ = some (.pointer (some ⟨q, f, none⟩)) ∧ w0.cell? ⟨w.heap.size, 1, none⟩ = some (.int .i64 lo) ∧ w0.cell? ⟨w.heap.size, 2, none⟩ = some (.int .i64 hi)) (w1.setCell ⟨q, f, none⟩ v) from fun w1 hF v => by
    have e := ((((Fr.refl (fun k => k = q) w1).setCell (p := ⟨q, f, none⟩) (fun _ => rfl) v).block w.heap.size (by have := hF.size; simp at this; omega) (by omega)).trans (hF.block w.heap.size (by simp) (by omega))).trans (heap_new (o := (.cells #[.pointer (some ⟨q, f, none⟩), .int .i64 lo, .int .i64 hi, .pointer none] 78)) rfl)
    exact ⟨cellOfHeap (e) 0 rfl, cellOfHeap (e) 1 rfl, cellOfHeap (e) 2 rfl⟩)
  have HR := hideIt (rint_any p t ao cap bs s lo hi (w.alloc (.cells #[.pointer (some ⟨q, f, none⟩), .int .i64 lo, .int .i64 hi, .pointer none] 78)).drew (h.fr0 (((Fr.refl _ _).alloc _).drew)) hb)
  generalize rInt bs lo hi s = R at *
  clear h
  unfold numV
  go_enter Tryz.func103, Tryz.ntmps103
  go_wp2_with fail
  refine wp_region_held_drew (S := fun w0 => w0.cell? ⟨w.heap.size, 0, none⟩ = some (.pointer (some ⟨q, f, none⟩)) ∧ w0.cell? ⟨w.heap.size, 1, none⟩ = some (.int .i64 lo) ∧ w0.cell? ⟨w.heap.size, 2, none⟩ = some (.int .i64 hi)) (by kernel_rfl) ?_ (fun hHeld => ?_)
  · exact HS0.out
  refine wpAnyH_take (i := 0) (v := ?v1) rfl (by kernel_rfl) (by kernel_rfl) (by kernel_rfl) (fun _ _ _ h => h) (Or.inl ⟨by rfl, ?hy1⟩) (by assumption) ?rest1
  case hy1 => intro w hSw; (try dsimp only at hSw); go_simp; (try with_reducible rfl)
  try simp only [Act.put, List.setIfInBounds_toArray, List.set_cons_zero, List.set_cons_succ]
  refine wpAnyH_take (i := 1) (v := ?v2) rfl (by kernel_rfl) (by kernel_rfl) (by kernel_rfl) (fun _ _ _ h => h) (Or.inl ⟨by rfl, ?hy2⟩) (by assumption) ?rest2
  case hy2 => intro w hSw; (try dsimp only at hSw); go_simp; (try with_reducible rfl)
  try simp only [Act.put, List.setIfInBounds_toArray, List.set_cons_zero, List.set_cons_succ]
  refine wpAnyH_take (i := 2) (v := ?v3) rfl (by kernel_rfl) (by kernel_rfl) (by kernel_rfl) (fun _ _ _ h => h) (Or.inl ⟨by rfl, ?hy3⟩) (by assumption) ?rest3
  case hy3 => intro w hSw; (try dsimp only at hSw); go_simp; (try with_reducible rfl)
  try simp only [Act.put, List.setIfInBounds_toArray, List.set_cons_zero, List.set_cons_succ]
  refine wpAnyH_take (i := 3) (v := ?v4) rfl (by kernel_rfl) (by kernel_rfl) (by kernel_rfl) (fun _ _ _ h => h) (Or.inl ⟨by rfl, ?hy4⟩) (by assumption) ?rest4
  case hy4 => intro w hSw; (try dsimp only at hSw); go_simp; (try with_reducible rfl)
  try simp only [Act.put, List.setIfInBounds_toArray, List.set_cons_zero, List.set_cons_succ]
  refine wpAnyH_take (i := 4) (v := ?v5) rfl (by kernel_rfl) (by kernel_rfl) (by kernel_rfl) (fun _ _ _ h => h) (Or.inl ⟨by rfl, ?hy5⟩) (by assumption) ?rest5
  case hy5 => intro w hSw; (try dsimp only at hSw); go_simp; (try with_reducible rfl)
  try simp only [Act.put, List.setIfInBounds_toArray, List.set_cons_zero, List.set_cons_succ]
  refine wpAnyH_take (i := 5) (v := ?v6) rfl (by kernel_rfl) (by kernel_rfl) (by kernel_rfl) (fun _ _ _ h => h) (Or.inl ⟨by rfl, ?hy6⟩) (by assumption) ?rest6
  case hy6 => intro w hSw; (try dsimp only at hSw); go_simp; (try with_reducible rfl)
  try simp only [Act.put, List.setIfInBounds_toArray, List.set_cons_zero, List.set_cons_succ]
  refine wpAnyH_take (i := 6) (v := ?v7) rfl (by kernel_rfl) (by kernel_rfl) (by kernel_rfl) (fun _ _ _ h => h) (Or.inl ⟨by rfl, ?hy7⟩) (by assumption) ?rest7
  case hy7 => intro w hSw; (try dsimp only at hSw); go_simp; (try with_reducible rfl)
  try simp only [Act.put, List.setIfInBounds_toArray, List.set_cons_zero, List.set_cons_succ]
  refine wpAnyH_ready (rs := [7]) (by kernel_rfl) (by simp) ?_
  refine AllReadyH.cons rfl (fun K hK => ?_) AllReadyH.nil
  go_simp
  refine Calls.mono (HR.out) ?_
  rintro e w2 ⟨rfl, hok, hF⟩
  have HOK := hideIt hok
  have HF := hideIt hF
  have hc2 : w2.cell? ⟨q, f, none⟩ = some _ := (World.cell?_of_block (a := ⟨q, f, none⟩) (hF.block q (by simp; omega) (by assumption))).trans (cellA hc _)
  have hf2 : w2.frozen? ⟨q, f, none⟩ = false := (World.frozen?_of_block (a := ⟨q, f, none⟩) (hF.block q (by simp; omega) (by assumption))).trans ((World.frozen?_alloc_old _ _ _ (by simp; omega)).trans hf)
  clear hok hF
  refine hK.out _ _ ?_ (fun hHeld => ?_)
  · exact HS.out _ HF.out
  clear hK K
  try simp only [Act.put, List.setIfInBounds_toArray, List.set_cons_zero, List.set_cons_succ]
  refine wpAnyH_take (i := 8) (v := ?v8) rfl (by kernel_rfl) (by kernel_rfl) (by kernel_rfl) (fun _ _ _ h => h) (Or.inl ⟨by rfl, ?hy8⟩) (by assumption) ?rest8
  case hy8 => intro w hSw; (try dsimp only at hSw); go_simp; (try with_reducible rfl)
  try simp only [Act.put, List.setIfInBounds_toArray, List.set_cons_zero, List.set_cons_succ]
  refine wpAnyH_ready (rs := [9]) (by kernel_rfl) (by simp) ?_
  refine AllReadyH.cons rfl (fun K hK => ?_) AllReadyH.nil
  go_simp
  refine hK.out _ _ ?_ (fun hHeld => ?_)
  · exact HS1.out _ HF.out _
  clear hK K
  try simp only [Act.put, List.setIfInBounds_toArray, List.set_cons_zero, List.set_cons_succ]
  refine wpAnyH_done (by kernel_rfl) ?_ _
  skip
  go_wp2_with fail
  go_end0
  have hFW : Fr (fun k => k = t) w w2 := (((Fr.refl _ _).alloc _).drew).trans HF.out (fun _ _ e => e)
  have hFS := hFW.mono (S' := fun k => k = t ∨ k = q) (fun _ e => Or.inl e)
  have hRS := HOK.out
  exact ⟨rfl, (hII.out.fr hFW hqt').putN f h1 h4 _, ⟨hRS.1.fr ((Fr.refl (fun k => k = q) w2).setCell (p := ⟨q, f, none⟩) (fun _ => rfl) _) (fun e => hqp e.symm) (fun k hk e => hqt (e ▸ hk)), hRS.2⟩, hFS.setCell (fun _ => Or.inr rfl) _⟩

set_option maxRecDepth 100000 in
theorem take_text (q p t : Nat) (v : ByteArray) (i : Ins) (ao : Option Addr) (cap : Nat) (bs : List UInt8) (s : Nat × Int × Int) (w : World) (hc : w.cell? ⟨q, 5, none⟩ = some (.string v)) (hf : w.frozen? ⟨q, 5, none⟩ = false) (hpl : q < w.heap.size) (hI : InsAt w q i) (h : ROk w p t ao cap bs s) (hb : bs.length ≤ 140737488355328) (htl : t < w.heap.size) (hqt : ¬ wset t ao q) (hqp : ¬ q = p) :
    Calls Tryz.prog 103 #[textV q, .pointer (some ⟨p, 0, none⟩)] w fun e w' => e = .returned (.tuple #[]) ∧ InsAt w' q { i with s := ⟨(rText bs 64 s).1.toArray⟩ } ∧ ROk w' p t ao cap bs (rText bs 64 s).2 ∧ Fr (fun k => k = t ∨ k = q) w w' := by
  have hqt' : ¬ q = t := fun e => hqt (Or.inl e)
  have hII := hideIt hI
  have HS0 := hideIt (show (fun w0 => w0.cell? ⟨w.heap.size, 3, none⟩ = some (.pointer (some ⟨q, 5, none⟩))) (w.alloc (.cells #[.pointer none, .int .i64 0, .int .i64 0, .pointer (some ⟨q, 5, none⟩)] 78)).drew from cellOfHeap (heap_new rfl) 3 rfl)
  have HS := hideIt (show ∀ w1, Fr (fun k => k = t) (w.alloc (.cells #[.pointer none, .int .i64 0, .int .i64 0, .pointer (some ⟨q, 5, none⟩)] 78)).drew w1 → (fun w0 => w0.cell? ⟨w.heap.size, 3, none⟩ = some (.pointer (some ⟨q, 5, none⟩))) w1 from fun w1 hF => by
    have e := (hF.block w.heap.size (by simp) (by omega)).trans (heap_new (o := (.cells #[.pointer none, .int .i64 0, .int .i64 0, .pointer (some ⟨q, 5, none⟩)] 78)) rfl)
    exact cellOfHeap (e) 3 rfl)
  have HS1 := hideIt (show ∀ w1, Fr (fun k => k = t) (w.alloc (.cells #[.pointer none, .int .i64 0, .int .i64 0, .pointer (some ⟨q, 5, none⟩)] 78)).drew w1 → ∀ v, (fun w0 => w0.cell? ⟨w.heap.size, 3, none⟩ = some (.pointer (some ⟨q, 5, none⟩))) (w1.setCell ⟨q, 5, none⟩ v) from fun w1 hF v => by
    have e := ((((Fr.refl (fun k => k = q) w1).setCell (p := ⟨q, 5, none⟩) (fun _ => rfl) v).block w.heap.size (by have := hF.size; simp at this; omega) (by omega)).trans (hF.block w.heap.size (by simp) (by omega))).trans (heap_new (o := (.cells #[.pointer none, .int .i64 0, .int .i64 0, .pointer (some ⟨q, 5, none⟩)] 78)) rfl)
    exact cellOfHeap (e) 3 rfl)
  have HR := hideIt (rtext_any p t ao cap bs s 64 (w.alloc (.cells #[.pointer none, .int .i64 0, .int .i64 0, .pointer (some ⟨q, 5, none⟩)] 78)).drew (h.fr0 (((Fr.refl _ _).alloc _).drew)) hb)
  generalize rText bs 64 s = R at *
  clear h
  unfold textV
  go_enter Tryz.func103, Tryz.ntmps103
  go_wp2_with fail
  refine wp_region_held_drew (S := fun w0 => w0.cell? ⟨w.heap.size, 3, none⟩ = some (.pointer (some ⟨q, 5, none⟩))) (by kernel_rfl) ?_ (fun hHeld => ?_)
  · exact HS0.out
  refine wpAnyH_take (i := 0) (v := ?v9) rfl (by kernel_rfl) (by kernel_rfl) (by kernel_rfl) (fun _ _ _ h => h) (Or.inl ⟨by rfl, ?hy9⟩) (by assumption) ?rest9
  case hy9 => intro w hSw; (try dsimp only at hSw); go_simp; (try with_reducible rfl)
  try simp only [Act.put, List.setIfInBounds_toArray, List.set_cons_zero, List.set_cons_succ]
  refine wpAnyH_take (i := 1) (v := ?v10) rfl (by kernel_rfl) (by kernel_rfl) (by kernel_rfl) (fun _ _ _ h => h) (Or.inl ⟨by rfl, ?hy10⟩) (by assumption) ?rest10
  case hy10 => intro w hSw; (try dsimp only at hSw); go_simp; (try with_reducible rfl)
  try simp only [Act.put, List.setIfInBounds_toArray, List.set_cons_zero, List.set_cons_succ]
  refine wpAnyH_take (i := 2) (v := ?v11) rfl (by kernel_rfl) (by kernel_rfl) (by kernel_rfl) (fun _ _ _ h => h) (Or.inl ⟨by rfl, ?hy11⟩) (by assumption) ?rest11
  case hy11 => intro w hSw; (try dsimp only at hSw); go_simp; (try with_reducible rfl)
  try simp only [Act.put, List.setIfInBounds_toArray, List.set_cons_zero, List.set_cons_succ]
  refine wpAnyH_ready (rs := [3]) (by kernel_rfl) (by simp) ?_
  refine AllReadyH.cons rfl (fun K hK => ?_) AllReadyH.nil
  go_simp
  refine Calls.mono (HR.out) ?_
  rintro e w2 ⟨rfl, hok, hF⟩
  have HOK := hideIt hok
  have HF := hideIt hF
  have hc2 : w2.cell? ⟨q, 5, none⟩ = some _ := (World.cell?_of_block (a := ⟨q, 5, none⟩) (hF.block q (by simp; omega) (by assumption))).trans (cellA hc _)
  have hf2 : w2.frozen? ⟨q, 5, none⟩ = false := (World.frozen?_of_block (a := ⟨q, 5, none⟩) (hF.block q (by simp; omega) (by assumption))).trans ((World.frozen?_alloc_old _ _ _ (by simp; omega)).trans hf)
  clear hok hF
  refine hK.out _ _ ?_ (fun hHeld => ?_)
  · exact HS.out _ HF.out
  clear hK K
  try simp only [Act.put, List.setIfInBounds_toArray, List.set_cons_zero, List.set_cons_succ]
  refine wpAnyH_take (i := 4) (v := ?v12) rfl (by kernel_rfl) (by kernel_rfl) (by kernel_rfl) (fun _ _ _ h => h) (Or.inl ⟨by rfl, ?hy12⟩) (by assumption) ?rest12
  case hy12 => intro w hSw; (try dsimp only at hSw); go_simp; (try with_reducible rfl)
  try simp only [Act.put, List.setIfInBounds_toArray, List.set_cons_zero, List.set_cons_succ]
  refine wpAnyH_ready (rs := [5]) (by kernel_rfl) (by simp) ?_
  refine AllReadyH.cons rfl (fun K hK => ?_) AllReadyH.nil
  go_simp
  refine hK.out _ _ ?_ (fun hHeld => ?_)
  · exact HS1.out _ HF.out _
  clear hK K
  try simp only [Act.put, List.setIfInBounds_toArray, List.set_cons_zero, List.set_cons_succ]
  refine wpAnyH_done (by kernel_rfl) ?_ _
  skip
  go_wp2_with fail
  refine bodyPost_ret (v := .tuple #[]) (by simp [results, Tryz.results103, go_sem]) rfl ?_
  have hFW : Fr (fun k => k = t) w w2 := (((Fr.refl _ _).alloc _).drew).trans HF.out (fun _ _ e => e)
  have hFS := hFW.mono (S' := fun k => k = t ∨ k = q) (fun _ e => Or.inl e)
  have hRS := HOK.out
  exact ⟨rfl, (hII.out.fr hFW hqt').putS _, ⟨hRS.1.fr ((Fr.refl (fun k => k = q) w2).setCell (p := ⟨q, 5, none⟩) (fun _ => rfl) _) (fun e => hqp e.symm) (fun k hk e => hqt (e ▸ hk)), hRS.2⟩, hFS.setCell (fun _ => Or.inr rfl) _⟩

end Go.Proofs.YtojgikaoiegmpaaGreatDoor

/- Code: letters, on paper and in memory. -/
namespace Go.Proofs.YtojgikaoiegmpaaGreatDoor
open Go.RowKit Go.IntWalk Go.Lib
set_option linter.unusedSimpArgs false
set_option linter.unusedVariables false
set_option maxRecDepth 100000

/-- The letters of an Op. -/
def ltrs (n : Nat) : List Nat := (kindT n).data.toList.map UInt8.toNat
theorem ltrs_ok (n : Nat) (hn : n ≤ 15) : ∀ l ∈ ltrs n, Ltr l := by
  obtain rfl | rfl | rfl | rfl | rfl | rfl | rfl | rfl | rfl | rfl | rfl | rfl | rfl | rfl | rfl | rfl : n = 0 ∨ n = 1 ∨ n = 2 ∨ n = 3 ∨ n = 4 ∨ n = 5 ∨ n = 6 ∨ n = 7 ∨ n = 8 ∨ n = 9 ∨ n = 10 ∨ n = 11 ∨ n = 12 ∨ n = 13 ∨ n = 14 ∨ n = 15 := by omega
  all_goals decide
theorem ltrs_length (n : Nat) : (ltrs n).length = (kindT n).size := by
  unfold ltrs
  rw [List.length_map, Array.length_toList]
  rfl
theorem ltrs_get (n pos : Nat) (h : pos < (kindT n).size) : ((kindT n)[pos]'h).toNat = (ltrs n)[pos]'(by rw [ltrs_length]; exact h) := by
  unfold ltrs
  rw [List.getElem_map, Array.getElem_toList]
  rfl

/-- The letter at a place. -/
theorem ltrs_at (n pos : Nat) (hn : n ≤ 15) (h : pos < (kindT n).size) : Ltr ((kindT n)[pos]'h).toNat ∧ (ltrs n).drop pos = ((kindT n)[pos]'h).toNat :: (ltrs n).drop (pos + 1) ∧ (ltrs n).take (pos + 1) = (ltrs n).take pos ++ [((kindT n)[pos]'h).toNat] := by
  have hl : pos < (ltrs n).length := by rw [ltrs_length]; exact h
  rw [ltrs_get n pos h]
  exact ⟨ltrs_ok n hn _ (List.getElem_mem hl), List.drop_eq_getElem_cons hl, List.take_succ_eq_append_getElem hl⟩
theorem ltrs_end (n pos : Nat) (h : ¬ pos < (kindT n).size) : (ltrs n).drop pos = [] := List.drop_eq_nil_of_le (by rw [ltrs_length]; omega)

theorem ba_nil {x : ByteArray} (h : x.toList = []) : x = ⟨#[]⟩ := (toList_nil_iff_emptyBytes x).1 h

def fitsB (l : Nat) (i : Ins) : Bool := if fld l = 5 then decide ((i.s.size : Int) ≤ 64) else decide (lowL l ≤ i.get (fld l)) && decide (i.get (fld l) ≤ highL l)
def clr (l : Nat) (i : Ins) : Ins := if fld l = 5 then { i with s := ⟨#[]⟩ } else i.put (fld l) 0
def chkL : List Nat → Ins → Option Ins
  | [], i => some i
  | l :: ls, i => if fitsB l i then chkL ls (clr l i) else none
theorem clr_op (l : Nat) (i : Ins) : (clr l i).op = i.op := by
  unfold clr Ins.put
  split
  · rfl
  split
  · rfl
  split
  · rfl
  split <;> rfl

def poA (p l : Nat) : Option Addr := if fld l = 5 then none else some ⟨p, fld l, none⟩
def poT (p l : Nat) : Option Addr := if fld l = 5 then some ⟨p, 5, none⟩ else none
def hiL (l : Nat) : Int := if fld l = 5 then 0 else highL l
abbrev partW (p l : Nat) : Value := .agg #[.pointer (poA p l), .int .i64 (lowL l), .int .i64 (hiL l), .pointer (poT p l)]
theorem partV_eq (p l : Nat) (hl : Ltr l) : partV p l = partW p l := by rcases hl with rfl | rfl | rfl | rfl | rfl | rfl <;> rfl

theorem find_w (p l : Nat) (hl : Ltr l) (w : World) : Calls Tryz.prog 50 #[.pointer (some ⟨p, 0, none⟩), .int .i32 (l : Int)] w fun e w' => e = .returned (partW p l) ∧ Fr (fun _ => False) w w' := by
  have h := find_any p l hl w
  rw [partV_eq p l hl] at h
  exact h

theorem fits_w (p l : Nat) (hl : Ltr l) (i : Ins) (w : World) (hI : InsAt w p i) : Calls Tryz.prog 66 #[partW p l] w fun e w' => e = .returned (.bool (fitsB l i)) ∧ Fr (fun _ => False) w w' := by
  rcases hl with rfl | rfl | rfl | rfl | rfl | rfl
  · exact fits_num p 1 0 7 i.a w hI.c1 hI.lt
  · exact fits_num p 2 0 7 i.b w hI.c2 hI.lt
  · exact fits_num p 3 0 7 i.c w hI.c3 hI.lt
  · exact fits_num p 4 1 16 i.n w hI.c4 hI.lt
  · exact fits_num p 4 1 60 i.n w hI.c4 hI.lt
  · exact fits_text p i.s w hI.c5 hI.lt

theorem clear_w (p l : Nat) (hl : Ltr l) (i : Ins) (w : World) (hI : InsAt w p i) : Calls Tryz.prog 67 #[partW p l] w fun e w' => e = .returned (.tuple #[]) ∧ InsAt w' p (clr l i) ∧ Fr (fun k => k = p) w w' := by
  rcases hl with rfl | rfl | rfl | rfl | rfl | rfl
  · exact clear_num p 1 0 7 i.a w hI.c1 (hI.fz 1) hI.lt i hI (by decide) (by decide)
  · exact clear_num p 2 0 7 i.b w hI.c2 (hI.fz 2) hI.lt i hI (by decide) (by decide)
  · exact clear_num p 3 0 7 i.c w hI.c3 (hI.fz 3) hI.lt i hI (by decide) (by decide)
  · exact clear_num p 4 1 16 i.n w hI.c4 (hI.fz 4) hI.lt i hI (by decide) (by decide)
  · exact clear_num p 4 1 60 i.n w hI.c4 (hI.fz 4) hI.lt i hI (by decide) (by decide)
  · exact clear_text p i.s w hI.c5 (hI.fz 5) hI.lt i hI

/-- A thing is written. -/
def wL (l : Nat) (i : Ins) (s : List UInt8 × Bool) : List UInt8 × Bool := if fld l = 5 then wText i.s.data.toList s else wInt (i.get (fld l)) s

theorem write_w (q l : Nat) (hl : Ltr l) (i : Ins) (p t : Nat) (ao : Option Addr) (cap : Nat) (s : List UInt8 × Bool) (w : World) (hI : InsAt w q i) (hfit : fitsB l i = true) (h : WOk w p t ao cap s) (hb : s.1.length + 84 ≤ 140737488355328) :
    Calls Tryz.prog 51 #[partW q l, .pointer (some ⟨p, 0, none⟩)] w fun e w' => e = .returned (.tuple #[]) ∧ WPost w p t ao (wL l i s) w' := by
  rcases hl with rfl | rfl | rfl | rfl | rfl | rfl
  · have hv : 0 ≤ i.a ∧ i.a ≤ 7 := by simpa [fitsB, fld, lowL, highL, Ins.get] using hfit
    exact write_num q 1 p t 0 7 i.a ao cap s w hI.c1 hI.lt h (by omega) (by omega)
  · have hv : 0 ≤ i.b ∧ i.b ≤ 7 := by simpa [fitsB, fld, lowL, highL, Ins.get] using hfit
    exact write_num q 2 p t 0 7 i.b ao cap s w hI.c2 hI.lt h (by omega) (by omega)
  · have hv : 0 ≤ i.c ∧ i.c ≤ 7 := by simpa [fitsB, fld, lowL, highL, Ins.get] using hfit
    exact write_num q 3 p t 0 7 i.c ao cap s w hI.c3 hI.lt h (by omega) (by omega)
  · have hv : 1 ≤ i.n ∧ i.n ≤ 16 := by simpa [fitsB, fld, lowL, highL, Ins.get] using hfit
    exact write_num q 4 p t 1 16 i.n ao cap s w hI.c4 hI.lt h (by omega) (by omega)
  · have hv : 1 ≤ i.n ∧ i.n ≤ 60 := by simpa [fitsB, fld, lowL, highL, Ins.get] using hfit
    exact write_num q 4 p t 1 60 i.n ao cap s w hI.c4 hI.lt h (by omega) (by omega)
  · have hv : (i.s.size : Int) ≤ 64 := by simpa [fitsB, fld] using hfit
    exact write_text q p t i.s ao cap s w hI.c5 hI.lt h (by omega)

/-- A thing is read. -/
def tk (bs : List UInt8) (l : Nat) (i : Ins) (s : Nat × Int × Int) : Ins × (Nat × Int × Int) := if fld l = 5 then ({ i with s := ⟨(rText bs 64 s).1.toArray⟩ }, (rText bs 64 s).2) else (i.put (fld l) (rInt bs (lowL l) (highL l) s).1, (rInt bs (lowL l) (highL l) s).2)

theorem take_w (q l : Nat) (hl : Ltr l) (p t : Nat) (i : Ins) (ao : Option Addr) (cap : Nat) (bs : List UInt8) (s : Nat × Int × Int) (w : World) (hI : InsAt w q i) (h : ROk w p t ao cap bs s) (hb : bs.length ≤ 140737488355328) (hqt : ¬ wset t ao q) (hqp : ¬ q = p) :
    Calls Tryz.prog 103 #[partW q l, .pointer (some ⟨p, 0, none⟩)] w fun e w' => e = .returned (.tuple #[]) ∧ InsAt w' q (tk bs l i s).1 ∧ ROk w' p t ao cap bs (tk bs l i s).2 ∧ Fr (fun k => k = t ∨ k = q) w w' := by
  have htl := h.1.tp.lt
  rcases hl with rfl | rfl | rfl | rfl | rfl | rfl
  · exact take_num q 1 p t 0 7 i.a i ao cap bs s w hI.c1 (hI.fz 1) hI.lt hI (by decide) (by decide) h hb htl hqt hqp
  · exact take_num q 2 p t 0 7 i.b i ao cap bs s w hI.c2 (hI.fz 2) hI.lt hI (by decide) (by decide) h hb htl hqt hqp
  · exact take_num q 3 p t 0 7 i.c i ao cap bs s w hI.c3 (hI.fz 3) hI.lt hI (by decide) (by decide) h hb htl hqt hqp
  · exact take_num q 4 p t 1 16 i.n i ao cap bs s w hI.c4 (hI.fz 4) hI.lt hI (by decide) (by decide) h hb htl hqt hqp
  · exact take_num q 4 p t 1 60 i.n i ao cap bs s w hI.c4 (hI.fz 4) hI.lt hI (by decide) (by decide) h hb htl hqt hqp
  · exact take_text q p t i.s i ao cap bs s w hI.c5 (hI.fz 5) hI.lt hI h hb htl hqt hqp

/-- What is left of an instruction is nothing. -/
def blank (j : Ins) : Prop := j.a = 0 ∧ j.b = 0 ∧ j.c = 0 ∧ j.n = 0 ∧ j.s = ⟨#[]⟩
open Classical in
noncomputable def checkE (i : Ins) : Int := if 1 ≤ i.op ∧ i.op ≤ 15 ∧ ∃ j, chkL (ltrs i.op.toNat) i = some j ∧ blank j then 0 else 2
theorem checkE_out (i : Ins) (h : ¬ (1 ≤ i.op ∧ i.op ≤ 15)) : checkE i = 2 := by
  unfold checkE
  exact if_neg (fun e => h ⟨e.1, e.2.1⟩)
theorem checkE_none (i : Ins) (h : chkL (ltrs i.op.toNat) i = none) : checkE i = 2 := by
  unfold checkE
  exact if_neg (fun ⟨_, _, j, e, _⟩ => by rw [h] at e; cases e)
theorem checkE_left (i j : Ins) (h : chkL (ltrs i.op.toNat) i = some j) (hj : ¬ blank j) : checkE i = 2 := by
  unfold checkE
  exact if_neg (fun ⟨_, _, k, e, b⟩ => by rw [h] at e; cases e; exact hj b)
theorem checkE_ok (i j : Ins) (h1 : 1 ≤ i.op) (h2 : i.op ≤ 15) (h : chkL (ltrs i.op.toNat) i = some j) (hj : blank j) : checkE i = 0 := by
  unfold checkE
  exact if_pos ⟨h1, h2, j, h, hj⟩

/-- What Check answers. -/
def CheckC : Prop := ∀ (i : Ins) (w : World), Calls Tryz.prog 38 #[.agg (icells i)] w fun e w' => e = .returned (.int .i64 (checkE i)) ∧ Fr (fun _ => False) w w'

theorem Fr.iterAt {S : Nat → Prop} {a b : World} (h : Fr S a b) {k : Nat} (hk : k < a.heap.size → S k) (s : ByteArray) (pos : Nat) : Fr S a (b.iterAt k s pos) :=
  ⟨h.os, h.tape, h.output, by rw [iterAt_size]; exact h.size, fun j hj hn => by rw [iterAt_other _ _ _ _ _ (fun e => hn (by subst e; exact hk hj))]; exact h.block j hj hn⟩
theorem iterPos_of {w : World} {k : Nat} {s : ByteArray} {p : Nat} (h : w.heap[k]? = some (.stringIter s p)) : w.iterPos k = p := by simp [World.iterPos, h]

end Go.Proofs.YtojgikaoiegmpaaGreatDoor

/- Code: Read. -/
namespace Go.Proofs.YtojgikaoiegmpaaGreatDoor
open Go.RowKit Go.IntWalk Go.Lib
set_option linter.unusedSimpArgs false
set_option linter.unusedVariables false
set_option maxRecDepth 100000

/-- A reader's place and its fault's lie within the bytes. -/
def FB (bs : List UInt8) (s : Nat × Int × Int) : Prop := s.1 ≤ bs.length ∧ 0 ≤ s.2.2 ∧ s.2.2 ≤ bs.length

theorem rdNum_inl {bs : List UInt8} {a : Nat} {lo hi ab e x : Int} (h : rdNum bs a lo hi ab = .inl (e, x)) (ha : a ≤ bs.length) : 0 ≤ x ∧ x ≤ bs.length := by
  unfold rdNum at h
  split at h
  · simp at h; omega
  · simp at h; omega
  · simp at h; omega
  · split at h
    · simp at h; omega
    · split at h
      · simp at h; omega
      · simp at h
theorem rInt_fb {bs : List UInt8} {lo hi : Int} {s : Nat × Int × Int} (h : FB bs s) : FB bs (rInt bs lo hi s).2 := by
  unfold rInt
  split
  · exact h
  · split
    · rename_i e x hx
      have := rdNum_inl hx h.1
      exact ⟨h.1, this⟩
    · rename_i n m hx
      exact ⟨rdNum_le hx h.1, h.2⟩
theorem rText_fb {bs : List UInt8} {most : Int} {s : Nat × Int × Int} (h : FB bs s) : FB bs (rText bs most s).2 := by
  unfold rText
  split
  · exact h
  · split
    · rename_i e x hx
      refine ⟨h.1, ?_⟩
      unfold rdText at hx
      split at hx
      · rename_i f hf
        obtain rfl := Sum.inl.inj hx
        exact rdNum_inl hf h.1
      · split at hx
        · simp at hx; show 0 ≤ x ∧ x ≤ bs.length; omega
        · cases hx
    · rename_i x m hx
      exact ⟨rdText_le hx, h.2⟩
theorem tk_fb {bs : List UInt8} {l : Nat} {i : Ins} {s : Nat × Int × Int} (h : FB bs s) : FB bs (tk bs l i s).2 := by
  unfold tk
  split
  · exact rText_fb h
  · exact rInt_fb h
theorem rInt_rng (bs : List UInt8) (lo hi : Int) (s : Nat × Int × Int) (hh : 0 ≤ hi) : 0 ≤ (rInt bs lo hi s).1 ∧ (rInt bs lo hi s).1 ≤ hi := by
  unfold rInt
  split
  · exact ⟨Int.le_refl _, hh⟩
  · split
    · exact ⟨Int.le_refl _, hh⟩
    · rename_i n m hx
      unfold rdNum at hx
      split at hx
      · cases hx
      · cases hx
      · cases hx
      · split at hx
        · cases hx
        · split at hx
          · cases hx
          · simp at hx
            show 0 ≤ (n : Int) ∧ (n : Int) ≤ hi
            omega

def zeroI : Ins := ⟨0, 0, 0, 0, 0, ⟨#[]⟩⟩
/-- The instruction that stands at the head of bytes, and the reader's state behind it. -/
def tks (cs : List UInt8) (ls : List Nat) (x : Ins × (Nat × Int × Int)) : Ins × (Nat × Int × Int) := ls.foldl (fun x l => tk cs l x.1 x.2) x
def rdI (cs : List UInt8) : Ins × (Nat × Int × Int) := tks cs (ltrs (rInt cs 1 15 (0, 0, 0)).1.toNat) (⟨(rInt cs 1 15 (0, 0, 0)).1, 0, 0, 0, 0, ⟨#[]⟩⟩, (rInt cs 1 15 (0, 0, 0)).2)
def win (bs : List UInt8) (a : Nat) : List UInt8 := (bs.drop a).take 67
/-- What Read tells: the instruction, the place, the fault. -/
def readR (bs : List UInt8) (at_ : Int) : Ins × Int × Int × Int :=
  if at_ < 0 ∨ (bs.length : Int) < at_ then (zeroI, 0, 5, 0)
  else if (rdI (win bs at_.toNat)).2.2.1 = 0 then ((rdI (win bs at_.toNat)).1, at_ + (rdI (win bs at_.toNat)).2.1, 0, 0)
  else (zeroI, 0, (rdI (win bs at_.toNat)).2.2.1, at_ + (rdI (win bs at_.toNat)).2.2.2)
def readV (r : Ins × Int × Int × Int) : Value := .tuple #[.agg (icells r.1), .int .i64 r.2.1, .agg #[.int .i64 r.2.2.1, .int .i64 r.2.2.2]]

theorem read_out (ao : Option Addr) (cap : Nat) (bs : List UInt8) (at_ : Int) (w : World) (h : at_ < 0 ∨ (bs.length : Int) < at_) :
    Calls Tryz.prog 88 #[.slice ao bs.length cap, .int .i64 at_] w fun e w' => e = .returned (readV (readR bs at_)) ∧ Fr (fun _ => False) w w' := by
  have hr : readV (readR bs at_) = .tuple #[.agg (icells zeroI), .int .i64 0, .agg #[.int .i64 5, .int .i64 0]] := by unfold readR; rw [if_pos h]; rfl
  rw [hr]
  clear hr
  by_cases h1 : at_ < 0
  · have hd : decide (at_ < 0) = true := by simp [h1]
    clear h
    go_enter Tryz.func88, Tryz.ntmps88
    go_wp2_with fail
    refine bodyPost_ret (v := .tuple #[.agg (icells zeroI), .int .i64 0, .agg #[.int .i64 5, .int .i64 0]]) (by simp [results, Tryz.results88, go_sem, icells, zeroI]) rfl ⟨rfl, ?_⟩
    exact ((Fr.refl _ _).alloc _).alloc _
  · have h2 : (bs.length : Int) < at_ := h.resolve_left h1
    have hd : decide (at_ < 0) = false := by simp [h1]
    have hd2 : decide ((bs.length : Int) < at_) = true := by simp [h2]
    clear h
    go_enter Tryz.func88, Tryz.ntmps88
    go_wp2_with fail
    refine bodyPost_ret (v := .tuple #[.agg (icells zeroI), .int .i64 0, .agg #[.int .i64 5, .int .i64 0]]) (by simp [results, Tryz.results88, go_sem, icells, zeroI]) rfl ⟨rfl, ?_⟩
    exact ((Fr.refl _ _).alloc _).alloc _

theorem setCell_far {w : World} {k b j : Nat} {v : Value} (h : k ≠ b) : (w.setCell ⟨b, j, none⟩ v).heap[k]? = w.heap[k]? := heap_setCell_other _ _ _ _ h

theorem drew_heap (w : World) : w.drew.heap = w.heap := rfl

theorem there_row {w : World} {b : Nat} {C : Array Value} {t : TypeId} (h : w.heap[b]? = some (.cells C t (0, 0))) (n : Nat) (hn : n ≤ C.size) : w.there b 0 n := fun j hj => by
  rw [Nat.zero_add, cell_of_row w b j _ _ _ h]
  exact ⟨by simp; omega, frozen_of_row w b j _ _ h⟩

theorem setCells_heap (b : Nat) (t : TypeId) : ∀ (vs : List Value) (o : Nat) (w : World) (cur : Array Value), w.heap[b]? = some (.cells cur t (0, 0)) → o + vs.length ≤ cur.size →
    ∃ A : Array Value, (w.setCells b o vs).heap[b]? = some (.cells A t (0, 0)) ∧ A.toList = cur.toList.take o ++ vs ++ cur.toList.drop (o + vs.length)
  | [], o, w, cur, h, _ => ⟨cur, h, by simp⟩
  | v :: vs, o, w, cur, h, hle => by
    simp only [List.length_cons] at hle
    obtain ⟨A, h1, h2⟩ := setCells_heap b t vs (o + 1) (w.setCell ⟨b, o, none⟩ v) (cur.setIfInBounds o v) (heap_setCell_same w b o cur t v h) (by simp; omega)
    refine ⟨A, h1, ?_⟩
    have ho : o < cur.toList.length := by simp; omega
    rw [h2, Array.toList_setIfInBounds]
    have e1 : (cur.toList.set o v).take (o + 1) = cur.toList.take o ++ [v] := by
      rw [List.set_eq_take_append_cons_drop, if_pos ho, List.take_append]
      have hl : (cur.toList.take o).length = o := by simp; omega
      rw [hl, List.take_of_length_le (by omega), show o + 1 - o = 1 by omega]
      simp
    have e2 : (cur.toList.set o v).drop (o + 1 + vs.length) = cur.toList.drop (o + (vs.length + 1)) := by
      rw [List.drop_set_of_lt (by omega), show o + 1 + vs.length = o + (vs.length + 1) by omega]
    rw [e1, e2]
    simp

theorem setCells_full (b : Nat) (t : TypeId) (vs : List Value) (w : World) (cur : Array Value) (h : w.heap[b]? = some (.cells cur t (0, 0))) (hl : vs.length = cur.size) : (w.setCells b 0 vs).heap[b]? = some (.cells vs.toArray t (0, 0)) := by
  obtain ⟨A, h1, h2⟩ := setCells_heap b t vs 0 w cur h (by omega)
  rw [h1]
  have e : A = vs.toArray := by
    apply Array.ext'
    rw [h2, List.drop_of_length_le (by simp; omega)]
    simp
  rw [e]

theorem tape_setCells (b : Nat) : ∀ (vs : List Value) (o : Nat) (w : World), (w.setCells b o vs).tape = w.tape ∧ (w.setCells b o vs).heap.size = w.heap.size
  | [], o, w => ⟨rfl, rfl⟩
  | v :: vs, o, w => by
    have := tape_setCells b vs (o + 1) (w.setCell ⟨b, o, none⟩ v)
    exact ⟨this.1, this.2.trans (by simp)⟩

theorem Fr.setCells (w : World) (b o : Nat) (vs : List Value) : Fr (fun k => k = b) w (w.setCells b o vs) :=
  ⟨World.os_setCells _ _ _ _, (tape_setCells b vs o w).1, World.output_setCells _ _ _ _, Nat.le_of_eq (tape_setCells b vs o w).2.symm, fun k hk hne => World.heap_setCells_other w b o vs hk hne⟩

/-- A struct is stored over one. -/
theorem store_over {b : Nat} {t : TypeId} {C V : Array Value} {w : World} (h : w.heap[b]? = some (.cells C t (0, 0))) (hs : V.size = C.size) :
    (w.setCells b 0 V.toList).heap[b]? = some (.cells V t (0, 0)) ∧ Fr (fun k => k = b) w (w.setCells b 0 V.toList) := by
  have := setCells_full b t V.toList w C h (by simpa using hs)
  exact ⟨by simpa using this, Fr.setCells w b 0 V.toList⟩

theorem icells_one (i : Ins) : (icells i).all (·.oneCell') = true := by simp [icells, Value.oneCell']
theorem fault_one (x y : Int) : (#[Value.int .i64 x, Value.int .i64 y] : Array Value).all (·.oneCell') = true := by simp [Value.oneCell']

/-- What Open answers of the window. -/
def OpenP (cs : List UInt8) (w : World) (e : Ending) (w' : World) : Prop :=
  ∃ p t ao' cap', e = .returned (.pointer (some ⟨p, 0, none⟩)) ∧ RAt w' p t ao' cap' cs 0 0 0 ∧ Fr (fun _ => False) w w' ∧ w.heap.size ≤ p ∧ w.heap.size ≤ t ∧ ∀ k, blk ao' k → w.heap.size ≤ k

theorem win_len (bs : List UInt8) (a : Nat) : (win bs a).length = min 67 (bs.length - a) := by simp [win]

theorem open_end (ao : Option Addr) (bs : List UInt8) (a : Nat) (w W : World) (h : BsAt w ao bs) (hF : Fr (fun _ => False) w W) (he : bs.length = a) :
    Calls Tryz.prog 61 #[.slice ao (bs.length - a) 0] W (OpenP (win bs a) W) := by
  have hl : (win bs a).length = bs.length - a := by rw [win_len]; omega
  have hnil : win bs a = [] := List.eq_nil_of_length_eq_zero (by rw [hl]; omega)
  have hB : BsAt W ao (win bs a) := by
    rw [hnil]
    rcases h with ⟨rfl, _⟩ | ⟨b, off, rfl, _⟩
    · exact Or.inl ⟨rfl, rfl⟩
    · exact Or.inr ⟨b, off, rfl, fun j hj => absurd hj (by simp)⟩
  have := open_any ao 0 (win bs a) W hB (fun _ => rfl) (by rw [hl]; omega)
  rw [hl] at this
  exact this

theorem open_mid (ao : Option Addr) (cap : Nat) (bs : List UInt8) (a n : Nat) (w W : World) (h : BsAt w ao bs) (hcap0 : ao = none → cap = 0) (hcl : bs.length ≤ cap) (hale : a ≤ bs.length) (hF : Fr (fun _ => False) w W) (hca : ¬ cap = a) (hn : n = min 67 (bs.length - a)) :
    Calls Tryz.prog 61 #[.slice (Option.map (fun x => x.add a) ao) n (cap - a)] W (OpenP (win bs a) W) := by
  have hl : (win bs a).length = n := by rw [win_len, hn]
  have hB : BsAt W (Option.map (fun x => x.add a) ao) (win bs a) := by
    have h' := h.fr hF (fun _ _ _ e => e)
    rcases h' with ⟨rfl, rfl⟩ | ⟨b, off, rfl, hc⟩
    · have := hcap0 rfl
      simp at hale
      omega
    · refine Or.inr ⟨b, off + a, by simp [Addr.add_lit], fun j hj => ?_⟩
      have hj2 : a + j < bs.length := by rw [win_len] at hj; omega
      have := hc (a + j) hj2
      rw [← Nat.add_assoc] at this
      rw [this]
      congr 2
      simp [win]
  have := open_any (Option.map (fun x => x.add a) ao) (cap - a) (win bs a) W hB (fun e => by cases ao with | none => rw [hcap0 rfl]; omega | some x => cases e) (by rw [hl]; omega)
  rw [hl] at this
  exact this

end Go.Proofs.YtojgikaoiegmpaaGreatDoor

/- Code, on paper: an instruction's bytes. -/
namespace Go.Proofs.YtojgikaoiegmpaaGreatDoor
open Go.RowKit Go.IntWalk
set_option linter.unusedSimpArgs false
set_option linter.unusedVariables false
set_option maxRecDepth 100000

theorem fits_clr (l k : Nat) (hl : Ltr l) (hk : Ltr k) (i : Ins) (h : fld l ≠ fld k) : fitsB l (clr k i) = fitsB l i := by
  rcases hl with rfl | rfl | rfl | rfl | rfl | rfl <;> rcases hk with rfl | rfl | rfl | rfl | rfl | rfl <;> first | rfl | exact absurd rfl h

theorem chkL_fits (ls : List Nat) : ∀ (i j : Ins), chkL ls i = some j → (ls.map fld).Nodup → (∀ l ∈ ls, Ltr l) → ∀ l ∈ ls, fitsB l i = true := by
  induction ls with
  | nil => intro i j _ _ _ l hl; cases hl
  | cons k ls ih =>
    intro i j h hn hL l hl
    have hk : fitsB k i = true := by
      by_cases e : fitsB k i = true
      · exact e
      · simp [chkL, e] at h
    have h' : chkL ls (clr k i) = some j := by simpa [chkL, hk] using h
    rcases List.mem_cons.1 hl with rfl | hl'
    · exact hk
    · have hn' := List.nodup_cons.1 (show (fld k :: ls.map fld).Nodup from hn)
      have := ih (clr k i) j h' hn'.2 (fun x hx => hL x (List.mem_cons_of_mem _ hx)) l hl'
      rw [fits_clr l k (hL l hl) (hL k (List.mem_cons_self ..)) i (fun e => hn'.1 (by rw [← e]; exact List.mem_map_of_mem hl'))] at this
      exact this

theorem ltrs_nodup (n : Nat) (hn : n ≤ 15) : ((ltrs n).map fld).Nodup ∧ (ltrs n).length ≤ 4 := by
  obtain rfl | rfl | rfl | rfl | rfl | rfl | rfl | rfl | rfl | rfl | rfl | rfl | rfl | rfl | rfl | rfl : n = 0 ∨ n = 1 ∨ n = 2 ∨ n = 3 ∨ n = 4 ∨ n = 5 ∨ n = 6 ∨ n = 7 ∨ n = 8 ∨ n = 9 ∨ n = 10 ∨ n = 11 ∨ n = 12 ∨ n = 13 ∨ n = 14 ∨ n = 15 := by omega
  all_goals decide

/-- A thing's bytes. -/
def encL (l : Nat) (i : Ins) : List UInt8 := if fld l = 5 then UInt8.ofNat i.s.size :: i.s.data.toList else [UInt8.ofNat (i.get (fld l)).toNat]
def encs (ls : List Nat) (i : Ins) : List UInt8 := ls.flatMap fun l => encL l i
/-- An instruction's bytes, if it may be. -/
def codeL (i : Ins) : List UInt8 := UInt8.ofNat i.op.toNat :: encs (ltrs i.op.toNat) i
noncomputable def codeI (i : Ins) : List UInt8 := if checkE i = 0 then codeL i else []

theorem wInt_small (v : Int) (h0 : 0 ≤ v) (h1 : v ≤ 127) (x : List UInt8) : wInt v (x, false) = (x ++ [UInt8.ofNat v.toNat], false) := by
  unfold wInt
  rw [if_neg (by simp), if_neg (by omega), sevens_lt (by omega)]

theorem wL_fits (l : Nat) (hl : Ltr l) (i : Ins) (h : fitsB l i = true) (x : List UInt8) : wL l i (x, false) = (x ++ encL l i, false) := by
  rcases hl with rfl | rfl | rfl | rfl | rfl | rfl
  · have hv : 0 ≤ i.a ∧ i.a ≤ 7 := by simpa [fitsB, fld, lowL, highL, Ins.get] using h
    exact wInt_small i.a (by omega) (by omega) x
  · have hv : 0 ≤ i.b ∧ i.b ≤ 7 := by simpa [fitsB, fld, lowL, highL, Ins.get] using h
    exact wInt_small i.b (by omega) (by omega) x
  · have hv : 0 ≤ i.c ∧ i.c ≤ 7 := by simpa [fitsB, fld, lowL, highL, Ins.get] using h
    exact wInt_small i.c (by omega) (by omega) x
  · have hv : 1 ≤ i.n ∧ i.n ≤ 16 := by simpa [fitsB, fld, lowL, highL, Ins.get] using h
    exact wInt_small i.n (by omega) (by omega) x
  · have hv : 1 ≤ i.n ∧ i.n ≤ 60 := by simpa [fitsB, fld, lowL, highL, Ins.get] using h
    exact wInt_small i.n (by omega) (by omega) x
  · have hv : (i.s.size : Int) ≤ 64 := by simpa [fitsB, fld] using h
    have hlen : i.s.data.toList.length = i.s.size := by rw [Array.length_toList]; rfl
    show wText i.s.data.toList (x, false) = (x ++ (UInt8.ofNat i.s.size :: i.s.data.toList), false)
    unfold wText
    rw [if_neg (by simp), hlen, sevens_lt (by omega)]
    rfl

theorem encL_len (l : Nat) (hl : Ltr l) (i : Ins) (h : fitsB l i = true) : (encL l i).length ≤ 65 := by
  rcases hl with rfl | rfl | rfl | rfl | rfl | rfl
  · exact Nat.le_trans (Nat.le_refl 1) (by omega)
  · exact Nat.le_trans (Nat.le_refl 1) (by omega)
  · exact Nat.le_trans (Nat.le_refl 1) (by omega)
  · exact Nat.le_trans (Nat.le_refl 1) (by omega)
  · exact Nat.le_trans (Nat.le_refl 1) (by omega)
  · have hv : (i.s.size : Int) ≤ 64 := by simpa [fitsB, fld] using h
    have hlen : i.s.data.toList.length = i.s.size := by rw [Array.length_toList]; rfl
    show (UInt8.ofNat i.s.size :: i.s.data.toList).length ≤ 65
    rw [List.length_cons, hlen]
    omega

theorem encs_len (ls : List Nat) (i : Ins) (hL : ∀ l ∈ ls, Ltr l) (h : ∀ l ∈ ls, fitsB l i = true) : (encs ls i).length ≤ 65 * ls.length := by
  induction ls with
  | nil => exact Nat.le_refl _
  | cons l ls ih =>
    have h1 := encL_len l (hL l (List.mem_cons_self ..)) i (h l (List.mem_cons_self ..))
    have h2 := ih (fun x hx => hL x (List.mem_cons_of_mem _ hx)) (fun x hx => h x (List.mem_cons_of_mem _ hx))
    show (encL l i ++ encs ls i).length ≤ 65 * (ls.length + 1)
    rw [List.length_append]
    omega
theorem encs_snoc (ls : List Nat) (l : Nat) (i : Ins) : encs (ls ++ [l]) i = encs ls i ++ encL l i := by simp [encs]

/-- What may be: its Op, its things. -/
structure Good (i : Ins) (m : Nat) : Prop where
  op : i.op = m
  lo : 1 ≤ m
  hi : m ≤ 15
  fit : ∀ l ∈ ltrs m, fitsB l i = true
  left : ∃ j, chkL (ltrs m) i = some j ∧ blank j
theorem good_of (i : Ins) (h : checkE i = 0) : ∃ m, Good i m := by
  unfold checkE at h
  by_cases hc : 1 ≤ i.op ∧ i.op ≤ 15 ∧ ∃ j, chkL (ltrs i.op.toNat) i = some j ∧ blank j
  · obtain ⟨h1, h2, j, hj, hb⟩ := hc
    have hm : i.op.toNat ≤ 15 := by omega
    exact ⟨i.op.toNat, by omega, by omega, hm, chkL_fits _ i j hj (ltrs_nodup _ hm).1 (ltrs_ok _ hm), j, hj, hb⟩
  · rw [if_neg hc] at h
    cases h
theorem Good.check {i : Ins} {m : Nat} (h : Good i m) : checkE i = 0 := by
  obtain ⟨j, hj, hb⟩ := h.left
  have e : i.op.toNat = m := by rw [h.op]; rfl
  exact checkE_ok i j (by rw [h.op]; have := h.lo; omega) (by rw [h.op]; have := h.hi; omega) (by rw [e]; exact hj) hb
theorem checkE_or (i : Ins) : checkE i = 0 ∨ checkE i = 2 := by
  unfold checkE
  split
  · exact Or.inl rfl
  · exact Or.inr rfl
theorem Good.code {i : Ins} {m : Nat} (h : Good i m) : codeI i = UInt8.ofNat m :: encs (ltrs m) i := by
  have e : i.op.toNat = m := by rw [h.op]; rfl
  unfold codeI
  rw [if_pos h.check]
  unfold codeL
  rw [e]

end Go.Proofs.YtojgikaoiegmpaaGreatDoor

/- Code: Check. -/
namespace Go.Proofs.YtojgikaoiegmpaaGreatDoor
open Go.RowKit Go.IntWalk Go.Lib
set_option linter.unusedSimpArgs false
set_option linter.unusedVariables false
set_option maxRecDepth 100000

set_option maxRecDepth 100000 in
set_option maxHeartbeats 2000000 in
theorem check_any : CheckC := by
  rintro ⟨op, a, b, c, n, s⟩ w
  by_cases h1 : op < 1
  · have hE : checkE ⟨op, a, b, c, n, s⟩ = 2 := checkE_out _ (fun e => by have := e.1; simp at this; omega)
    have hd : decide (op < 1) = true := by simp [h1]
    rw [hE]
    unfold icells
    go_enter Tryz.func38, Tryz.ntmps38
    go_wp2_with fail
    go_ret
    exact ⟨rfl, (Fr.refl _ _).alloc _⟩
  by_cases h2 : 15 < op
  · have hE : checkE ⟨op, a, b, c, n, s⟩ = 2 := checkE_out _ (fun e => by have := e.2; simp at this; omega)
    have hd : decide (op < 1) = false := by simp [h1]
    have hd2 : decide (15 < op) = true := by simp [h2]
    rw [hE]
    unfold icells
    go_enter Tryz.func38, Tryz.ntmps38
    go_wp2_with fail
    go_ret
    exact ⟨rfl, (Fr.refl _ _).alloc _⟩
  · obtain ⟨m, rfl⟩ : ∃ m : Nat, op = m := ⟨op.toNat, by omega⟩
    have hm : m ≤ 15 := by omega
    have hm1 : 1 ≤ m := by omega
    have hd : decide ((m : Int) < 1) = false := by simp [h1]
    have hd2 : decide (15 < (m : Int)) = false := by simp [h2]
    have HK := hideIt kinds_any
    have hidx := idx_run m hm
    have HI1 := hideIt (show ∀ w1, Fr (fun _ => False) (w.alloc (.cells (icells ⟨m, a, b, c, n, s⟩) 40)) w1 → InsAt w1 w.heap.size ⟨m, a, b, c, n, s⟩ from fun w1 hF => (hF.block w.heap.size (by simp) (fun e => e)).trans (heap_new rfl))
    unfold icells
    go_enter Tryz.func38, Tryz.ntmps38
    go_wp2_with fail
    refine wp_region_held_drew (S := fun w0 => w0.cell? ⟨w.heap.size, 0, none⟩ = some (.int .i64 (m : Int))) (by kernel_rfl) ?_ (fun hHeld => ?_)
    · exact (HI1.out _ (Fr.refl _ _).drew).c0
    refine wpAnyH_take (i := 1) (v := ?v1) rfl (by kernel_rfl) (by kernel_rfl) (by kernel_rfl) (fun _ _ _ h => h) (Or.inl ⟨by rfl, ?hy1⟩) (by assumption) ?rest1
    case hy1 => intro w hSw; (try dsimp only at hSw); go_simp; (try with_reducible rfl)
    try simp only [Act.put, List.setIfInBounds_toArray, List.set_cons_zero, List.set_cons_succ]
    refine wpAnyH_take (i := 2) (v := ?v2) rfl (by kernel_rfl) (by kernel_rfl) (by kernel_rfl) (fun _ _ _ h => h) (Or.inl ⟨by rfl, ?hy2⟩) (by assumption) ?rest2
    case hy2 => intro w hSw; (try dsimp only at hSw); go_simp; (try with_reducible rfl)
    try simp only [Act.put, List.setIfInBounds_toArray, List.set_cons_zero, List.set_cons_succ]
    refine wpAnyH_ready (rs := [0]) (by kernel_rfl) (by simp) ?_
    refine AllReadyH.cons rfl (fun K hK => ?_) AllReadyH.nil
    go_simp
    refine Calls.mono (HK.out _) ?_
    rintro e w2 ⟨rfl, hF⟩
    have HF := hideIt hF
    clear hF
    refine hK.out _ _ ?_ (fun hHeld => ?_)
    · exact (HI1.out _ ((Fr.refl _ _).drew.trans HF.out (fun _ _ e => e))).c0
    clear hK K
    try simp only [Act.put, List.setIfInBounds_toArray, List.set_cons_zero, List.set_cons_succ]
    refine wpAnyH_take (i := 3) (v := ?v3) rfl (by kernel_rfl) (by kernel_rfl) (by kernel_rfl) (fun _ _ _ h => h) (Or.inl ⟨by rfl, ?hy3⟩) (by assumption) ?rest3
    case hy3 => intro w hSw; (try dsimp only at hSw); go_simp; first | done | exact hidx w | (with_reducible rfl) | rfl
    try simp only [Act.put, List.setIfInBounds_toArray, List.set_cons_zero, List.set_cons_succ]
    refine wpAnyH_ready (rs := [4]) (by kernel_rfl) (by simp) ?_
    refine AllReadyH.cons rfl (fun K hK => ?_) AllReadyH.nil
    go_simp
    refine hK.out _ _ ?_ (fun hHeld => ?_)
    · exact (HI1.out _ (((Fr.refl _ _).drew.trans HF.out (fun _ _ e => e)).alloc _)).c0
    clear hK K
    try simp only [Act.put, List.setIfInBounds_toArray, List.set_cons_zero, List.set_cons_succ]
    refine wpAnyH_done (by kernel_rfl) ?_ _
    skip
    go_wp2_with fail
    have hk0 : w.heap.size < w2.heap.size := by have := HF.out.size; simp at this; omega
    have HFW := hideIt (((Fr.refl (fun _ => False) w).alloc (.cells (icells ⟨m, a, b, c, n, s⟩) 40)).drew.trans HF.out (fun _ _ e => e))
    have HIW := hideIt (HI1.out _ (((Fr.refl _ _).drew.trans HF.out (fun _ _ e => e)).alloc (.stringIter (kindT m) 0)))
    clear HI1 HK hidx HF hHeld
    go_loopw [2] (fun v wr => v = .int .i64 0 ∧ ∃ (pos : Nat) (j : Ins), Hid (wr.heap[w2.heap.size]? = some (.stringIter (kindT m) pos)) ∧ Hid (InsAt wr w.heap.size j) ∧ Hid (Fr (fun _ => False) w wr) ∧ Hid (j.op = m ∧ chkL ((ltrs m).drop pos) j = chkL (ltrs m) ⟨m, a, b, c, n, s⟩)) (fun _ wr => (kindT m).size - wr.iterPos w2.heap.size)
    case atStart => exact ⟨rfl, 0, ⟨m, a, b, c, n, s⟩, hideIt (heap_new rfl), HIW, hideIt (HFW.out.alloc _), hideIt ⟨rfl, rfl⟩⟩
    case round =>
      obtain ⟨rfl, pos, j, HIT, HJ, HFR, HP⟩ := hrel
      have hne : w.heap.size ≠ w2.heap.size := by omega
      by_cases hp : pos < (kindT m).size
      · obtain ⟨hl, hd0, _⟩ := ltrs_at m pos hm hp
        have HD := hideIt hd0
        have hnx := fun ty => run_next_ascii_at (P := Tryz.prog) wr w2.heap.size (kindT m) pos ty HIT.out hp (by have := hl; omega)
        clear hd0
        generalize ((kindT m)[pos]'hp).toNat = l at *
        have HJ1 := hideIt (HJ.out.keep (iterAt_other wr w2.heap.size w.heap.size (kindT m) (pos + 1) hne))
        have HIT1 := hideIt (iterAt_heap wr w2.heap.size (kindT m) pos (pos + 1) HIT.out)
        have HFR1 := hideIt (HFR.out.iterAt (k := w2.heap.size) (fun e => by omega) (kindT m) (pos + 1))
        have hpos0 := hideIt (iterPos_of HIT.out)
        generalize wr.iterAt w2.heap.size (kindT m) (pos + 1) = W1 at *
        go_wp2_with fail
        refine Calls.mono (find_w w.heap.size l hl _) ?_
        rintro e w3 ⟨rfl, hF3⟩
        have HJ3 := hideIt (HJ1.out.fr hF3 (fun e => e))
        have HF3 := hideIt hF3
        clear hF3
        go_wp2_with fail
        refine Calls.mono (fits_w w.heap.size l hl j _ (HJ3.out.fr ((Fr.refl (fun _ => False) _).alloc _) (fun e => e))) ?_
        rintro e w5 ⟨rfl, hF5⟩
        have HJ5 := hideIt ((HJ3.out.fr ((Fr.refl (fun _ => False) _).alloc _) (fun e => e)).fr hF5 (fun e => e))
        have hc5 := (hF5.block w3.heap.size (by simp) (fun e => e)).trans (heap_new rfl)
        have hc50 := cellOfHeap hc5 0 rfl
        have hc51 := cellOfHeap hc5 1 rfl
        have hc52 := cellOfHeap hc5 2 rfl
        have hc53 := cellOfHeap hc5 3 rfl
        have HF15 := hideIt ((HF3.out.alloc _).trans hF5 (fun _ _ e => e))
        clear hF5
        cases hfit : fitsB l j
        · have hE : checkE ⟨m, a, b, c, n, s⟩ = 2 := checkE_none _ (by show chkL (ltrs (m : Int).toNat) _ = none; rw [Int.toNat_natCast, ← HP.out.2, HD.out]; simp [chkL, hfit])
          go_wp2_with fail
          go_ret
          exact ⟨by rw [hE]; rfl, HFR1.out.trans HF15.out (fun _ _ e => e)⟩
        · go_wp2_with fail
          refine Calls.mono (clear_w w.heap.size l hl j _ HJ5.out) ?_
          rintro e w6 ⟨rfl, hI6, hF6⟩
          have HI6 := hideIt hI6
          have HF16 := hideIt ((HF15.out.mono (S' := fun k => k = w.heap.size) (fun _ e => e.elim)).trans hF6 (fun _ _ e => e))
          clear hI6 hF6
          have HIT6 := hideIt ((HF16.out.block w2.heap.size (Array.getElem?_eq_some_iff.1 HIT1.out).1 (by omega)).trans HIT1.out)
          go_wp2_with fail
          go_roundw
          case measure =>
            rw [iterPos_of HIT6.out, hpos0.out]
            omega
          case rel =>
            exact ⟨rfl, pos + 1, clr l j, HIT6, HI6, hideIt (HFR1.out.trans HF16.out (fun i hi e => by omega)), hideIt ⟨(clr_op l j).trans HP.out.1, by rw [← HP.out.2, HD.out]; simp [chkL, hfit]⟩⟩
      · have hnx := fun ty => run_next_end_at (P := Tryz.prog) wr w2.heap.size (kindT m) pos ty HIT.out hp
        have HC := hideIt (show chkL (ltrs m) ⟨m, a, b, c, n, s⟩ = some j by rw [← HP.out.2, ltrs_end m pos hp]; rfl)
        obtain ⟨jo, ja, jb, jc, jn, js⟩ := j
        obtain rfl : jo = m := HP.out.1
        have c0 := HJ.out.c0
        have c1 := HJ.out.c1
        have c2 := HJ.out.c2
        have c3 := HJ.out.c3
        have c4 := HJ.out.c4
        have c5 := HJ.out.c5
        dsimp only at c0 c1 c2 c3 c4 c5
        by_cases hz : ja = 0 ∧ jb = 0 ∧ jc = 0 ∧ jn = 0 ∧ js = ⟨#[]⟩
        · have hE : checkE ⟨m, a, b, c, n, s⟩ = 0 := checkE_ok _ ⟨m, ja, jb, jc, jn, js⟩ (by show (1 : Int) ≤ m; omega) (by show (m : Int) ≤ 15; omega) (by show chkL (ltrs (m : Int).toNat) _ = _; rw [Int.toNat_natCast]; exact HC.out) hz
          obtain ⟨rfl, rfl, rfl, rfl, rfl⟩ := hz
          go_wp2_with fail
          go_ret
          exact ⟨by first | rfl | (rw [hE]; rfl), HFR.out⟩
        · have hE : checkE ⟨m, a, b, c, n, s⟩ = 2 := checkE_left _ ⟨m, ja, jb, jc, jn, js⟩ (by show chkL (ltrs (m : Int).toNat) _ = _; rw [Int.toNat_natCast]; exact HC.out) hz
          have HZ := hideIt hz
          clear hz
          go_wp2_with fail
          all_goals go_ret
          all_goals first | exact ⟨by rw [hE]; rfl, HFR.out⟩ | exact ⟨rfl, HFR.out⟩ | (exfalso; first | exact HZ.out (ba_nil (by assumption)) | refine HZ.out ⟨?_, ?_, ?_, ?_, ?_⟩ <;> first | assumption | rfl | exact ba_nil (by assumption))

end Go.Proofs.YtojgikaoiegmpaaGreatDoor

/- The document's own numbers by sevens (retconref01.Sevens, Size). -/
namespace Go.Proofs.YtojgikaoiegmpaaGreatDoor
open Go.RowKit Go.IntWalk
set_option linter.unusedSimpArgs false
set_option linter.unusedVariables false
set_option maxRecDepth 100000

theorem Row.set {w : World} {e : TypeId} {g cap : Nat} {bs : List UInt8} (h : Row w e (some ⟨g, 0, none⟩) cap bs) (j : Nat) (b : UInt8) : Row (w.setCell ⟨g, j, none⟩ (.int .u8 b.toNat)) e (some ⟨g, 0, none⟩) cap (bs.set j b) := by
  rcases h.form with ⟨h0, _⟩ | ⟨g', cur, h0, hh, hle, hcm, hcs, htake⟩
  · cases h0
  · obtain rfl : g = g' := by simpa using h0
    refine ⟨by simp [bv_length], Or.inr ⟨g, cap, _, by simp, Nat.zero_le _, heap_setCell_same w g j cur e _ hh, by simpa using hle, hcm, by simpa using hcs, ?_⟩⟩
    rw [Array.toList_setIfInBounds, List.length_set, Nat.mul_one, List.take_set, htake]
    simp [bv, List.map_set]

theorem sevens_neg (n : Int) (w : World) (h : n < 0) : Calls Tryz.prog 32 #[.int .i64 n] w fun e w' => e = .returned (.slice none 0 0) ∧ w' = w := by
  go_enter Tryz.func32, Tryz.ntmps32
  go_wp2
  go_ret
  exact ⟨rfl, rfl⟩

/-- One step more. -/
theorem sevens_split (m : Nat) : sevens m = if m / 128 = 0 then [UInt8.ofNat (m % 128)] else UInt8.ofNat (m % 128 + 128) :: sevens (m / 128) := by
  by_cases h : m < 128
  · rw [sevens_lt h, if_pos (by omega), Nat.mod_eq_of_lt h]
  · rw [sevens_ge h, if_neg (by omega)]

theorem sevens_step (n b m : Nat) (pre : List UInt8) (hm : 0 < m) (h : sevens n = pre ++ (if m = 0 then [UInt8.ofNat b] else UInt8.ofNat (b + 128) :: sevens m)) :
    sevens n = (pre ++ [UInt8.ofNat (b + 128)]) ++ (if m / 128 = 0 then [UInt8.ofNat (m % 128)] else UInt8.ofNat (m % 128 + 128) :: sevens (m / 128)) := by
  rw [h, if_neg (by omega), ← sevens_split m]
  simp

theorem byte_row (w : World) (b : UInt8) : Row (w.alloc (.cells #[.int .u8 b.toNat] 5)) 5 (some ⟨w.heap.size, 0, none⟩) 1 [b] :=
  ⟨by simp [bv], Or.inr ⟨w.heap.size, 1, _, rfl, Nat.zero_le _, heap_new rfl, Nat.le_refl _, by decide, rfl, rfl⟩⟩

set_option maxRecDepth 100000 in
set_option maxHeartbeats 1000000 in
theorem sevens_nat (n : Nat) (hn : n ≤ 9223372036854775807) (w : World) :
    Calls Tryz.prog 32 #[.int .i64 (n : Int)] w fun e w' => ∃ ao cap, e = .returned (.slice ao (sevens n).length cap) ∧ Row w' 5 ao cap (sevens n) ∧ Fr (fun _ => False) w w' ∧ ∀ k, blk ao k → w.heap.size ≤ k := by
  have e0 : ((UInt8.ofNat (n % 128)).toNat : Int) = (n : Int) % 128 := by simp; omega
  have HR0 := hideIt (by have := byte_row w (UInt8.ofNat (n % 128)); rw [e0] at this; exact this)
  have HS0 := hideIt (show sevens n = [] ++ (if n / 128 = 0 then [UInt8.ofNat (n % 128)] else UInt8.ofNat (n % 128 + 128) :: sevens (n / 128)) from sevens_split n)
  have h9 := sevens_nine hn
  have H9 := hideIt h9
  clear e0 h9
  go_enter Tryz.func32, Tryz.ntmps32
  go_wp2_with fail
  go_loopw [0, 3] (fun v o wr => ∃ (m b : Nat) (pre : List UInt8) (ao : Option Addr) (cap : Nat), v = .int .i64 (m : Int) ∧ m ≤ 9223372036854775807 ∧ b < 128 ∧ o = .slice ao (pre.length + 1) cap ∧ Hid (sevens n = pre ++ (if m = 0 then [UInt8.ofNat b] else UInt8.ofNat (b + 128) :: sevens m)) ∧ Row wr 5 ao cap (pre ++ [UInt8.ofNat b]) ∧ Fr (fun _ => False) w wr ∧ ∀ k, blk ao k → w.heap.size ≤ k)
    (fun v _ _ => (intOf v).toNat)
  case atStart => exact ⟨n / 128, n % 128, [], some ⟨w.heap.size, 0, none⟩, 1, by simp, by omega, by omega, rfl, HS0, HR0.out, (Fr.refl _ _).alloc _, fun k ⟨_, e, e2⟩ => by obtain rfl := Option.some.inj e; exact Nat.le_of_eq e2⟩
  case round =>
    clear HR0 HS0
    obtain ⟨m, b, pre, ao, cap, rfl, hm, hb, rfl, HS, hrow, hF, hn1⟩ := hrel
    by_cases h0 : 0 < m
    · have h0' : (0 : Int) < (m : Int) := by omega
      have hpl : pre.length ≤ 9 := by
        have h1 := congrArg List.length HS.out
        have h2 := H9.out
        simp only [List.length_append] at h1
        omega
      obtain ⟨g, rfl⟩ : ∃ g, ao = some ⟨g, 0, none⟩ := by
        rcases hrow.form with ⟨_, h, _⟩ | ⟨g, _, h, _⟩
        · simp at h
        · exact ⟨g, h⟩
      have hc : wr.cell? ⟨g, pre.length, none⟩ = some (.int .u8 (b : Int)) := by
        have := hrow.cell pre.length (by simp)
        rw [this]
        simp
        omega
      have hfz : wr.frozen? ⟨g, pre.length, none⟩ = false := by
        rcases hrow.form with ⟨h, _⟩ | ⟨g', cur, h, hh, _⟩
        · cases h
        · obtain rfl : g = g' := by simpa using h
          exact frozen_of_row wr g _ _ _ hh
      have hset := hrow.set pre.length (UInt8.ofNat (b + 128))
      rw [List.set_append_right _ _ (Nat.le_refl _), Nat.sub_self, List.set_cons_zero] at hset
      have e1 : ((UInt8.ofNat (b + 128)).toNat : Int) = (b : Int) + 128 := by simp; omega
      have e2 : ((UInt8.ofNat (m % 128)).toNat : Int) = (m : Int) % 128 := by simp; omega
      rw [e1] at hset
      have hF1 : Fr (fun k => k = g) wr (wr.setCell ⟨g, pre.length, none⟩ (.int .u8 ((b : Int) + 128))) := (Fr.refl (fun k => k = g) wr).setCell (p := ⟨g, pre.length, none⟩) (fun _ => rfl) _
      have hF2 : Fr (fun _ => False) w ((wr.setCell ⟨g, pre.length, none⟩ (.int .u8 ((b : Int) + 128))).alloc (.cells #[.int .u8 ((m : Int) % 128)] 5)) := (hF.trans hF1 (fun i hi e => by have := hn1 g ⟨_, rfl, rfl⟩; omega)).alloc _
      have hsrc : BsAt ((wr.setCell ⟨g, pre.length, none⟩ (.int .u8 ((b : Int) + 128))).alloc (.cells #[.int .u8 ((m : Int) % 128)] 5)) (some ⟨wr.heap.size, 0, none⟩) [UInt8.ofNat (m % 128)] := by
        refine Or.inr ⟨wr.heap.size, 0, rfl, fun j hj => ?_⟩
        obtain rfl : j = 0 := by simpa using hj
        have hb : ((wr.setCell ⟨g, pre.length, none⟩ (.int .u8 ((b : Int) + 128))).alloc (.cells #[.int .u8 ((m : Int) % 128)] 5)).heap[wr.heap.size]? = some (.cells #[.int .u8 ((m : Int) % 128)] 5 (0, 0)) := heap_new (by simp)
        have := cellOfHeap hb 0 rfl
        rw [this]
        simp only [List.getElem_cons_zero, e2]
        rfl
      obtain ⟨ao', cap', w', hrun, hrow', hF3, hao'⟩ := app_row _ 29 (some ⟨g, 0, none⟩) cap (pre ++ [UInt8.ofNat (b + 128)]) [UInt8.ofNat (m % 128)] (hset.alloc (.cells #[.int .u8 ((m : Int) % 128)] 5)) _ (hsrc.src 1) (by simp; omega)
      have elen : (pre ++ [UInt8.ofNat (b + 128)]).length = pre.length + 1 := by simp
      rw [elen] at hrun
      have HRUN := hideIt hrun
      have HROW := hideIt hrow'
      have HFF := hideIt (hF2.trans hF3 (fun i hi e => by have := hn1 i e; omega))
      have HNB := hideIt (show ∀ k, blk ao' k → w.heap.size ≤ k by
        intro k hk
        rcases hao' with rfl | rfl
        · exact hn1 k hk
        · obtain ⟨_, e, rfl⟩ := hk
          obtain rfl := Option.some.inj e
          have := hF.size
          simp
          omega)
      have HSS := hideIt (sevens_step n b m pre h0 HS.out)
      clear hrun hrow' hF3 hao' hF2 hF1 hsrc hset e1 e2 hrow hF hn1 HS elen
      go_wp2_with (first | (at_builtin; refine wpList_append_run _ rfl (.tmp 28) (.tmp 32) 29 29 rfl _ _ _ _ rfl rfl HRUN.out ?_))
      exact ⟨⟨m / 128, m % 128, pre ++ [UInt8.ofNat (b + 128)], ao', cap', by simp, by omega, by omega, by simp, HSS, HROW.out, HFF.out, HNB.out⟩, by simp [intOf]; omega⟩
    · obtain rfl : m = 0 := by omega
      have hs : sevens n = pre ++ [UInt8.ofNat b] := by simpa using HS.out
      have HQ := hideIt (show (sevens n).length = pre.length + 1 by rw [hs]; simp)
      have HROW := hideIt (show Row wr 5 ao cap (sevens n) by rw [hs]; exact hrow)
      have HF := hideIt hF
      have HN := hideIt hn1
      clear hs hrow hF hn1 HS H9
      go_wp2_with fail
      go_ret
      exact ⟨ao, cap, by rw [HQ.out]; rfl, HROW.out, HF.out, HN.out⟩

theorem xsize_neg (n : Int) (w : World) (h : n < 0) : Calls Tryz.prog 26 #[.int .i64 n] w fun e w' => e = .returned (.int .i64 0) ∧ w' = w := by
  go_enter Tryz.func26, Tryz.ntmps26
  go_wp2_with (go_at_call 32; refine (sevens_neg n _ h).mono ?_; rintro e w' ⟨rfl, rfl⟩)
  go_ret
  exact ⟨rfl, rfl⟩
theorem xsize_nat (n : Nat) (hn : n ≤ 9223372036854775807) (w : World) : Calls Tryz.prog 26 #[.int .i64 (n : Int)] w fun e w' => e = .returned (.int .i64 ((sevens n).length : Nat)) ∧ Fr (fun _ => False) w w' := by
  have HC := hideIt (sevens_nat n hn w)
  go_enter Tryz.func26, Tryz.ntmps26
  go_wp2_with fail
  refine Calls.mono HC.out ?_
  rintro e w1 ⟨ao, cap, rfl, _, hF, _⟩
  have HF := hideIt hF
  clear hF
  go_wp2_with fail
  go_ret
  exact ⟨rfl, HF.out⟩

end Go.Proofs.YtojgikaoiegmpaaGreatDoor

/- Code: Read, from a place within the bytes. -/
namespace Go.Proofs.YtojgikaoiegmpaaGreatDoor
open Go.RowKit Go.IntWalk Go.Lib
set_option linter.unusedSimpArgs false
set_option linter.unusedVariables false
set_option maxRecDepth 100000

set_option maxRecDepth 100000 in
set_option maxHeartbeats 2000000 in
theorem read_in1 (ao : Option Addr) (cap : Nat) (bs : List UInt8) (a : Nat) (w : World) (h : BsAt w ao bs) (hcap0 : ao = none → cap = 0) (hcl : bs.length ≤ cap) (hb : bs.length ≤ 140737488355328) (hale : a ≤ bs.length) (hca : cap = a) :
    Calls Tryz.prog 88 #[.slice ao bs.length cap, .int .i64 (a : Int)] w fun e w' => e = .returned (readV (readR bs a)) ∧ Fr (fun _ => False) w w' := by
  have hd1 : decide ((a : Int) < 0) = false := decide_eq_false (by omega)
  have hd2 : decide ((bs.length : Int) < (a : Int)) = false := decide_eq_false (by omega)
  have HOP := hideIt (open_end ao bs a w ((w.alloc (.cells (icells zeroI) 40)).alloc (.cells #[.int .i64 0, .int .i64 0] 45)) h (((Fr.refl _ w).alloc _).alloc _) (by omega))
  have hcs : (win bs a).length ≤ 67 := by rw [win_len]; omega
  generalize hcsE : win bs a = cs at *
  have HCS := hideIt hcsE
  clear hcsE
  obtain ⟨m, hm0⟩ : ∃ m : Nat, (rInt cs 1 15 (0, 0, 0)).1 = m := ⟨_, (Int.toNat_of_nonneg (rInt_rng cs 1 15 (0, 0, 0) (by decide)).1).symm⟩
  have hm : m ≤ 15 := by have := (rInt_rng cs 1 15 (0, 0, 0) (by decide)).2; omega
  have HFB1 := hideIt (rInt_fb (bs := cs) (lo := 1) (hi := 15) (s := (0, 0, 0)) ⟨Nat.zero_le _, Int.le_refl _, by show (0 : Int) ≤ cs.length; omega⟩)
  have HRI := hideIt (fun p t ao cap w h hb => by have := rint_any p t ao cap cs (0, 0, 0) 1 15 w h hb; rw [hm0] at this; exact this)
  have HRD := hideIt (show rdI cs = tks cs (ltrs m) (⟨m, 0, 0, 0, 0, ⟨#[]⟩⟩, (rInt cs 1 15 (0, 0, 0)).2) by unfold rdI; rw [hm0, Int.toNat_natCast])
  generalize (rInt cs 1 15 (0, 0, 0)).2 = s1 at *
  clear hm0
  have HK := hideIt kinds_any
  have hidx := idx_run m hm
  go_enter Tryz.func88, Tryz.ntmps88
  go_wp2_with fail
  refine Calls.mono HOP.out ?_
  rintro e w1 ⟨p, t, ao1, cap1, rfl, hR, hF1, hp, ht, hn⟩
  simp at hp ht hn
  clear HOP
  have HR := hideIt hR
  have HF1 := hideIt hF1
  have HN := hideIt hn
  have hs1 : w.heap.size + 2 ≤ w1.heap.size := by have := hF1.size; simp at this; omega
  have hpl : p < w1.heap.size := hR.lt
  have htl : t < w1.heap.size := hR.tp.lt
  have HSL := hideIt (fun k (hk : wset t ao1 k) => hR.setlt hk)
  clear hR hF1 hn
  go_wp2_with fail
  refine Calls.mono (HRI.out p t ao1 cap1 w1 ⟨HR.out, Nat.zero_le _⟩ (by omega)) ?_
  rintro e w2 ⟨rfl, hR2, hF2⟩
  have HR2 := hideIt hR2
  have HF2 := hideIt (HF1.out.mono (S' := fun k => w.heap.size + 2 ≤ k) (fun _ e => e.elim) |>.trans hF2 (fun k _ e => by omega))
  have hs2 : w1.heap.size ≤ w2.heap.size := hF2.size
  clear hR2 hF2 HRI HR HF1
  go_wp2_with fail
  have HI1 := hideIt (fun w' (hF : Fr (fun _ => False) (w2.alloc (.cells (icells ⟨m, 0, 0, 0, 0, ⟨#[]⟩⟩) 40)) w') => show InsAt w' w2.heap.size ⟨m, 0, 0, 0, 0, ⟨#[]⟩⟩ from (hF.block w2.heap.size (by simp) (fun e => e)).trans (heap_new rfl))
  refine wp_region_held_drew (S := fun w0 => w0.cell? ⟨w2.heap.size, 0, none⟩ = some (.int .i64 (m : Int))) (by kernel_rfl) ?_ (fun hHeld => ?_)
  · exact (HI1.out _ (Fr.refl _ _).drew).c0
  refine wpAnyH_take (i := 1) (v := ?v1) rfl (by kernel_rfl) (by kernel_rfl) (by kernel_rfl) (fun _ _ _ h => h) (Or.inl ⟨by rfl, ?hy1⟩) (by assumption) ?rest1
  case hy1 => intro w hSw; (try dsimp only at hSw); go_simp; (try with_reducible rfl)
  try simp only [Act.put, List.setIfInBounds_toArray, List.set_cons_zero, List.set_cons_succ]
  refine wpAnyH_take (i := 2) (v := ?v2) rfl (by kernel_rfl) (by kernel_rfl) (by kernel_rfl) (fun _ _ _ h => h) (Or.inl ⟨by rfl, ?hy2⟩) (by assumption) ?rest2
  case hy2 => intro w hSw; (try dsimp only at hSw); go_simp; (try with_reducible rfl)
  try simp only [Act.put, List.setIfInBounds_toArray, List.set_cons_zero, List.set_cons_succ]
  refine wpAnyH_ready (rs := [0]) (by kernel_rfl) (by simp) ?_
  refine AllReadyH.cons rfl (fun K hK => ?_) AllReadyH.nil
  go_simp
  refine Calls.mono (HK.out _) ?_
  rintro e w4 ⟨rfl, hF⟩
  have HF := hideIt hF
  clear hF
  refine hK.out _ _ ?_ (fun hHeld => ?_)
  · exact (HI1.out _ ((Fr.refl _ _).drew.trans HF.out (fun _ _ e => e))).c0
  clear hK K
  try simp only [Act.put, List.setIfInBounds_toArray, List.set_cons_zero, List.set_cons_succ]
  refine wpAnyH_take (i := 3) (v := ?v3) rfl (by kernel_rfl) (by kernel_rfl) (by kernel_rfl) (fun _ _ _ h => h) (Or.inl ⟨by rfl, ?hy3⟩) (by assumption) ?rest3
  case hy3 => intro w hSw; (try dsimp only at hSw); go_simp; first | done | exact hidx w | (with_reducible rfl) | rfl
  try simp only [Act.put, List.setIfInBounds_toArray, List.set_cons_zero, List.set_cons_succ]
  refine wpAnyH_ready (rs := [4]) (by kernel_rfl) (by simp) ?_
  refine AllReadyH.cons rfl (fun K hK => ?_) AllReadyH.nil
  go_simp
  refine hK.out _ _ ?_ (fun hHeld => ?_)
  · exact (HI1.out _ (((Fr.refl _ _).drew.trans HF.out (fun _ _ e => e)).alloc _)).c0
  clear hK K
  try simp only [Act.put, List.setIfInBounds_toArray, List.set_cons_zero, List.set_cons_succ]
  refine wpAnyH_done (by kernel_rfl) ?_ _
  skip
  go_wp2_with fail
  have hs4 : w2.heap.size < w4.heap.size := by have := HF.out.size; simp at this; omega
  have HFC := hideIt (((Fr.refl (fun _ => False) (w2.alloc (.cells (icells ⟨m, 0, 0, 0, 0, ⟨#[]⟩⟩) 40))).drew.trans HF.out (fun _ _ e => e)).alloc (.stringIter (kindT m) 0))
  have HIW := hideIt (HI1.out _ HFC.out)
  have HRW := hideIt ((HR2.out.fr0 ((Fr.refl _ _).alloc _)).fr0 HFC.out)
  have HFW := hideIt ((HF2.out.alloc _).trans HFC.out (fun _ _ e => e.elim))
  clear HI1 HK hidx HF hHeld HR2 HF2 HFC
  go_loopw [10] (fun _ wr => ∃ (pos : Nat) (i : Ins) (s : Nat × Int × Int), Hid (wr.heap[w4.heap.size]? = some (.stringIter (kindT m) pos)) ∧ Hid (InsAt wr w2.heap.size i) ∧ Hid (ROk wr p t ao1 cap1 cs s) ∧ Hid (Fr (fun k => w.heap.size + 2 ≤ k) ((w.alloc (.cells (icells zeroI) 40)).alloc (.cells #[.int .i64 0, .int .i64 0] 45)) wr) ∧ Hid (FB cs s ∧ rdI cs = tks cs ((ltrs m).drop pos) (i, s))) (fun _ wr => (kindT m).size - wr.iterPos w4.heap.size)
  case atStart => exact ⟨0, ⟨m, 0, 0, 0, 0, ⟨#[]⟩⟩, s1, hideIt (heap_new rfl), HIW, HRW, HFW, hideIt ⟨HFB1.out, HRD.out⟩⟩
  case round =>
    obtain ⟨pos, i, s, HIT, HJ, HRO, HFR, HP⟩ := hrel
    have hne : w2.heap.size ≠ w4.heap.size := by omega
    by_cases hp4 : pos < (kindT m).size
    · obtain ⟨hl, hd0, _⟩ := ltrs_at m pos hm hp4
      have HD := hideIt hd0
      have hnx := fun ty => run_next_ascii_at (P := Tryz.prog) wr w4.heap.size (kindT m) pos ty HIT.out hp4 (by have := hl; omega)
      clear hd0
      generalize ((kindT m)[pos]'hp4).toNat = l at *
      have HFI := hideIt ((Fr.refl (fun k => k = w4.heap.size) wr).iterAt (k := w4.heap.size) (fun _ => rfl) (kindT m) (pos + 1))
      have HJ1 := hideIt (HJ.out.fr HFI.out hne)
      have HR1 := hideIt (show ROk _ p t ao1 cap1 cs s from ⟨HRO.out.1.fr HFI.out (by omega) (fun k hk e => by have := HSL.out k hk; omega), HRO.out.2⟩)
      have HIT1 := hideIt (iterAt_heap wr w4.heap.size (kindT m) pos (pos + 1) HIT.out)
      have HFR1 := hideIt (HFR.out.trans HFI.out (fun i hi e => by omega))
      have hpos0 := hideIt (iterPos_of HIT.out)
      generalize wr.iterAt w4.heap.size (kindT m) (pos + 1) = W1 at *
      go_wp2_with fail
      refine Calls.mono (find_w w2.heap.size l hl _) ?_
      rintro e w5 ⟨rfl, hF5⟩
      have HJ5 := hideIt (HJ1.out.fr hF5 (fun e => e))
      have HR5 := hideIt (HR1.out.fr0 hF5)
      have HIT5 := hideIt ((hF5.block w4.heap.size (Array.getElem?_eq_some_iff.1 HIT1.out).1 (fun e => e)).trans HIT1.out)
      have HFR5 := hideIt (HFR1.out.trans hF5 (fun _ _ e => e.elim))
      clear hF5
      go_wp2_with fail
      refine Calls.mono (take_w w2.heap.size l hl p t i ao1 cap1 cs s w5 HJ5.out HR5.out (by omega) (fun e => by have := HSL.out _ e; omega) (by omega)) ?_
      rintro e w6 ⟨rfl, hI6, hR6, hF6⟩
      have HI6 := hideIt hI6
      have HR6 := hideIt hR6
      have HF6 := hideIt hF6
      clear hI6 hR6 hF6
      have hk5 : w4.heap.size < w5.heap.size := (Array.getElem?_eq_some_iff.1 HIT5.out).1
      have HIT6 := hideIt ((HF6.out.block w4.heap.size hk5 (by omega)).trans HIT5.out)
      go_wp2_with fail
      go_roundw
      case measure =>
        rw [iterPos_of HIT6.out, hpos0.out]
        omega
      case rel =>
        exact ⟨pos + 1, (tk cs l i s).1, (tk cs l i s).2, HIT6, HI6, HR6, hideIt (HFR5.out.trans HF6.out (fun k hk e => by omega)), hideIt ⟨tk_fb HP.out.1, by rw [HP.out.2, HD.out]; rfl⟩⟩
    · have hnx := fun ty => run_next_end_at (P := Tryz.prog) wr w4.heap.size (kindT m) pos ty HIT.out hp4
      have HX := hideIt (show rdI cs = (i, s) by rw [HP.out.2, ltrs_end m pos hp4]; rfl)
      have HFBs := hideIt HP.out.1
      clear HP HRD HFB1
      have hA := (HFR.out.block w.heap.size (by simp; omega) (by omega)).trans (heap_old (heap_new rfl))
      have hF := (HFR.out.block (w.heap.size + 1) (by simp) (by omega)).trans (heap_new (by simp))
      obtain ⟨sp, se, sa⟩ := s
      have hsp : (sp : Int) ≤ 67 := by have := HFBs.out.1; dsimp only at this; omega
      have hsa : 0 ≤ sa ∧ sa ≤ 67 := by have := HFBs.out.2; dsimp only at this; omega
      obtain ⟨hsa0, hsa1⟩ := hsa
      go_wp2_with fail
      refine Calls.mono (rfault_any p t ao1 cap1 cs (sp, se, sa) wr HRO.out) ?_
      rintro e w7 ⟨rfl, hF7⟩
      have hs7 : wr.heap.size ≤ w7.heap.size := hF7.size
      have HF8 := hideIt (hF7.alloc (.cells #[.int .i64 se, .int .i64 sa] 45))
      have HJ8 := hideIt (HJ.out.fr HF8.out (fun e => e))
      have HR8 := hideIt (HRO.out.fr0 HF8.out)
      have HG8 := hideIt (show (w7.alloc (.cells #[.int .i64 se, .int .i64 sa] 45)).drew.cell? ⟨w7.heap.size, 0, none⟩ = some (.int .i64 se) ∧ (w7.alloc (.cells #[.int .i64 se, .int .i64 sa] 45)).drew.cell? ⟨w7.heap.size, 1, none⟩ = some (.int .i64 sa) from ⟨cellOfHeap (heap_new rfl) 0 rfl, cellOfHeap (heap_new rfl) 1 rfl⟩)
      have hA8 := (HF8.out.block w.heap.size (by have := (Array.getElem?_eq_some_iff.1 hA).1; omega) (fun e => e)).trans hA
      have hF8 := (HF8.out.block (w.heap.size + 1) (by have := (Array.getElem?_eq_some_iff.1 hF).1; omega) (fun e => e)).trans hF
      have hQ8 := HJ8.out.lt
      have HA8h := hideIt (show (w7.alloc (.cells #[.int .i64 se, .int .i64 sa] 45)).drew.heap[w.heap.size]? = _ from hA8)
      have HF8h := hideIt (show (w7.alloc (.cells #[.int .i64 se, .int .i64 sa] 45)).drew.heap[w.heap.size + 1]? = _ from hF8)
      have hFlt : w.heap.size + 1 < (w7.alloc (.cells #[.int .i64 se, .int .i64 sa] 45)).drew.heap.size := (Array.getElem?_eq_some_iff.1 hF8).1
      have HG9 := hideIt (fun (w' : World) (h : w'.heap[w7.heap.size]? = some (.cells #[.int .i64 se, .int .i64 sa] 45)) => And.intro (cellOfHeap h 0 rfl) (cellOfHeap h 1 rfl))
      have HFRw := hideIt ((((Fr.refl (fun _ => False) w).alloc (.cells (icells zeroI) 40)).alloc (.cells #[.int .i64 0, .int .i64 0] 45)).trans (HFR.out.trans HF8.out (fun _ _ e => e.elim)) (fun k hk e => by omega) |>.drew)
      have hsz : w.heap.size + 2 ≤ wr.heap.size := by have := HFR.out.size; simp at this; omega
      have hwr1 : IntKind.i64.wrap ((a : Int) + sa) = (a : Int) + sa := i64_in _ (by omega)
      have hwr2 : IntKind.i64.wrap ((a : Int) + (sp : Int)) = (a : Int) + (sp : Int) := i64_in _ (by omega)
      have hGA : w7.heap.size ≠ w.heap.size := by omega
      have hGF : w7.heap.size ≠ w.heap.size + 1 := by omega
      have hQA : w2.heap.size ≠ w.heap.size := by omega
      have hQF : w2.heap.size ≠ w.heap.size + 1 := by omega
      clear hF7 hA hF hA8 hF8
      by_cases hz : se = 0
      · subst hz
        have HE := hideIt (show readR bs a = (i, (a : Int) + sp, 0, 0) by unfold readR; rw [if_neg (by omega), Int.toNat_natCast, HCS.out, HX.out]; exact if_pos rfl)
        go_wp2_with fail
        refine wp_region_held_drew (S := fun w0 => InsAt w0 w2.heap.size i) (by kernel_rfl) ?_ (fun hHeld => ?_)
        · exact HJ8.out.keep rfl
        refine wpAnyH_take (i := 0) (v := ?v201) rfl (by kernel_rfl) (by kernel_rfl) (by kernel_rfl) (fun _ _ _ h => h) (Or.inl ⟨by rfl, ?hy201⟩) (by assumption) ?rest201
        case hy201 => intro w hSw; (try dsimp only at hSw); have c0 := hSw.c0; have c1 := hSw.c1; have c2 := hSw.c2; have c3 := hSw.c3; have c4 := hSw.c4; have c5 := hSw.c5; go_simp; (try with_reducible rfl)
        try simp only [Act.put, List.getElem_toArray, List.getElem_cons_zero, List.getElem_cons_succ, List.setIfInBounds_toArray, List.set_cons_zero, List.set_cons_succ]
        refine wpAnyH_take (i := 1) (v := ?v202) rfl (by kernel_rfl) (by kernel_rfl) (by kernel_rfl) (fun _ _ _ h => h) (Or.inl ⟨by rfl, ?hy202⟩) (by assumption) ?rest202
        case hy202 => intro w hSw; (try dsimp only at hSw); go_simp; (try with_reducible rfl)
        try simp only [Act.put, List.getElem_toArray, List.getElem_cons_zero, List.getElem_cons_succ, List.setIfInBounds_toArray, List.set_cons_zero, List.set_cons_succ]
        refine wpAnyH_take (i := 2) (v := ?v203) rfl (by kernel_rfl) (by kernel_rfl) (by kernel_rfl) (fun _ _ _ h => h) (Or.inl ⟨by rfl, ?hy203⟩) (by assumption) ?rest203
        case hy203 => intro w hSw; (try dsimp only at hSw); go_simp; (try with_reducible rfl)
        try simp only [Act.put, List.getElem_toArray, List.getElem_cons_zero, List.getElem_cons_succ, List.setIfInBounds_toArray, List.set_cons_zero, List.set_cons_succ]
        refine wpAnyH_take (i := 5) (v := ?v204) rfl (by kernel_rfl) (by kernel_rfl) (by kernel_rfl) (fun _ _ _ h => h) (Or.inl ⟨by rfl, ?hy204⟩) (by assumption) ?rest204
        case hy204 => intro w hSw; (try dsimp only at hSw); go_simp; (try with_reducible rfl)
        try simp only [Act.put, List.getElem_toArray, List.getElem_cons_zero, List.getElem_cons_succ, List.setIfInBounds_toArray, List.set_cons_zero, List.set_cons_succ]
        refine wpAnyH_ready (rs := [3]) (by kernel_rfl) (by simp) ?_
        refine AllReadyH.cons rfl (fun K hK => ?_) AllReadyH.nil
        go_simp
        refine Calls.mono (rat_any p t ao1 cap1 cs (sp, 0, sa) _ (HR8.out.fr0 (Fr.refl _ _).drew)) ?_
        rintro e w9 ⟨rfl, rfl⟩
        refine hK.out _ _ ?_ (fun hHeld => ?_)
        · exact HJ8.out.keep rfl
        clear hK K
        try simp only [Act.put, List.getElem_toArray, List.getElem_cons_zero, List.getElem_cons_succ, List.setIfInBounds_toArray, List.set_cons_zero, List.set_cons_succ]
        refine wpAnyH_take (i := 4) (v := ?v205) rfl (by kernel_rfl) (by kernel_rfl) (by kernel_rfl) (fun _ _ _ h => h) (Or.inl ⟨by rfl, ?hy205⟩) (by assumption) ?rest205
        case hy205 => intro w hSw; (try dsimp only at hSw); go_simp; (try with_reducible rfl)
        try simp only [Act.put, List.getElem_toArray, List.getElem_cons_zero, List.getElem_cons_succ, List.setIfInBounds_toArray, List.set_cons_zero, List.set_cons_succ]
        refine wpAnyH_ready (rs := [6]) (by kernel_rfl) (by simp) ?_
        refine AllReadyH.cons rfl (fun K hK => ?_) AllReadyH.nil
        rw [if_pos (by rfl)]
        refine wp_store_mid 40 _ _ rfl w.heap.size 0 (icells i) rfl rfl (there_row HA8h.out _ (Nat.le_refl _)) (by kernel_rfl) (icells_one _) ?_
        obtain ⟨hst, hfr⟩ := store_over (V := (icells i)) HA8h.out (by rfl)
        have HA10 := hideIt hst
        have HFr10 := hideIt hfr
        have HG10 := hideIt ((hfr.block (w.heap.size + 1) hFlt (by omega)).trans HF8h.out)
        clear hst hfr
        generalize hW10 : World.setCells _ w.heap.size 0 _ = W10 at *
        clear hW10
        refine hK.out _ _ ?_ (fun hHeld => ?_)
        · exact HJ8.out.keep (HFr10.out.block w2.heap.size HJ8.out.lt hQA)
        clear hK K
        try simp only [Act.put, List.getElem_toArray, List.getElem_cons_zero, List.getElem_cons_succ, List.setIfInBounds_toArray, List.set_cons_zero, List.set_cons_succ]
        refine wpAnyH_take (i := 7) (v := ?v206) rfl (by kernel_rfl) (by kernel_rfl) (by kernel_rfl) (fun _ _ _ h => h) (Or.inl ⟨by rfl, ?hy206⟩) (by assumption) ?rest206
        case hy206 => intro w hSw; (try dsimp only at hSw); go_simp; (try with_reducible rfl)
        try simp only [Act.put, List.getElem_toArray, List.getElem_cons_zero, List.getElem_cons_succ, List.setIfInBounds_toArray, List.set_cons_zero, List.set_cons_succ]
        refine wpAnyH_ready (rs := [8]) (by kernel_rfl) (by simp) ?_
        refine AllReadyH.cons rfl (fun K hK => ?_) AllReadyH.nil
        rw [if_pos (by rfl)]
        refine wp_store_mid 45 _ _ rfl (w.heap.size + 1) 0 #[.int .i64 0, .int .i64 0] rfl rfl (there_row HG10.out _ (Nat.le_refl _)) (by kernel_rfl) (fault_one _ _) ?_
        obtain ⟨hst, hfr⟩ := store_over (V := #[.int .i64 0, .int .i64 0]) HG10.out (by rfl)
        have HG11 := hideIt hst
        have HFr11 := hideIt ((HFr10.out.mono (S' := fun k => k = w.heap.size ∨ k = w.heap.size + 1) (fun _ e => Or.inl e)).trans hfr (fun _ _ e => Or.inr e))
        have HA11 := hideIt ((hfr.block w.heap.size (Array.getElem?_eq_some_iff.1 HA10.out).1 (by omega)).trans HA10.out)
        clear hst hfr
        generalize hW11 : World.setCells _ (w.heap.size + 1) 0 _ = W11 at *
        clear hW11
        refine hK.out _ _ ?_ (fun hHeld => ?_)
        · exact HJ8.out.keep (HFr11.out.block w2.heap.size HJ8.out.lt (by omega))
        clear hK K
        try simp only [Act.put, List.getElem_toArray, List.getElem_cons_zero, List.getElem_cons_succ, List.setIfInBounds_toArray, List.set_cons_zero, List.set_cons_succ]
        refine wpAnyH_done (by kernel_rfl) ?_ _
        go_wp2_with fail
        have hA0 := cellOfHeap HA11.out 0 rfl
        have hA1 := cellOfHeap HA11.out 1 rfl
        have hA2 := cellOfHeap HA11.out 2 rfl
        have hA3 := cellOfHeap HA11.out 3 rfl
        have hA4 := cellOfHeap HA11.out 4 rfl
        have hA5 := cellOfHeap HA11.out 5 rfl
        have hF0 := cellOfHeap HG11.out 0 rfl
        have hF1 := cellOfHeap HG11.out 1 rfl
        refine bodyPost_ret (v := readV (i, (a : Int) + sp, 0, 0)) (by simp [results, Tryz.results88, go_sem, readV, icells, zeroI, hA0, hA1, hA2, hA3, hA4, hA5, hF0, hF1]) rfl ⟨by rw [HE.out], ?_⟩
        exact HFRw.out.trans HFr11.out (fun k hk e => by omega)
      · have HE := hideIt (show readR bs a = (zeroI, 0, se, (a : Int) + sa) by unfold readR; rw [if_neg (by omega), Int.toNat_natCast, HCS.out, HX.out]; exact if_neg hz)
        go_wp2_with fail
        refine wp_region_held_drew (S := fun w0 => w0.cell? ⟨w7.heap.size, 0, none⟩ = some (.int .i64 se) ∧ w0.cell? ⟨w7.heap.size, 1, none⟩ = some (.int .i64 sa)) (by kernel_rfl) ?_ (fun hHeld => ?_)
        · exact HG8.out
        refine wpAnyH_take (i := 0) (v := ?v207) rfl (by kernel_rfl) (by kernel_rfl) (by kernel_rfl) (fun _ _ _ h => h) (Or.inl ⟨by rfl, ?hy207⟩) (by assumption) ?rest207
        case hy207 => intro w hSw; (try dsimp only at hSw); go_simp; (try with_reducible rfl)
        try simp only [Act.put, List.getElem_toArray, List.getElem_cons_zero, List.getElem_cons_succ, List.setIfInBounds_toArray, List.set_cons_zero, List.set_cons_succ]
        refine wpAnyH_take (i := 1) (v := ?v208) rfl (by kernel_rfl) (by kernel_rfl) (by kernel_rfl) (fun _ _ _ h => h) (Or.inl ⟨by rfl, ?hy208⟩) (by assumption) ?rest208
        case hy208 => intro w hSw; (try dsimp only at hSw); go_simp; (try with_reducible rfl)
        try simp only [Act.put, List.getElem_toArray, List.getElem_cons_zero, List.getElem_cons_succ, List.setIfInBounds_toArray, List.set_cons_zero, List.set_cons_succ]
        refine wpAnyH_take (i := 2) (v := ?v209) rfl (by kernel_rfl) (by kernel_rfl) (by kernel_rfl) (fun _ _ _ h => h) (Or.inl ⟨by rfl, ?hy209⟩) (by assumption) ?rest209
        case hy209 => intro w hSw; (try dsimp only at hSw); go_simp; (try with_reducible rfl)
        try simp only [Act.put, List.getElem_toArray, List.getElem_cons_zero, List.getElem_cons_succ, List.setIfInBounds_toArray, List.set_cons_zero, List.set_cons_succ]
        refine wpAnyH_take (i := 3) (v := ?v210) rfl (by kernel_rfl) (by kernel_rfl) (by kernel_rfl) (fun _ _ _ h => h) (Or.inl ⟨by rfl, ?hy210⟩) (by assumption) ?rest210
        case hy210 => intro w hSw; (try dsimp only at hSw); go_simp; (try with_reducible rfl)
        try simp only [Act.put, List.getElem_toArray, List.getElem_cons_zero, List.getElem_cons_succ, List.setIfInBounds_toArray, List.set_cons_zero, List.set_cons_succ]
        refine wpAnyH_take (i := 4) (v := ?v211) rfl (by kernel_rfl) (by kernel_rfl) (by kernel_rfl) (fun _ _ _ h => h) (Or.inl ⟨by rfl, ?hy211⟩) (by assumption) ?rest211
        case hy211 => intro w hSw; (try dsimp only at hSw); go_simp; (try with_reducible rfl)
        try simp only [Act.put, List.getElem_toArray, List.getElem_cons_zero, List.getElem_cons_succ, List.setIfInBounds_toArray, List.set_cons_zero, List.set_cons_succ]
        refine wpAnyH_take (i := 5) (v := ?v212) rfl (by kernel_rfl) (by kernel_rfl) (by kernel_rfl) (fun _ _ _ h => h) (Or.inl ⟨by rfl, ?hy212⟩) (by assumption) ?rest212
        case hy212 => intro w hSw; (try dsimp only at hSw); go_simp; (try with_reducible rfl)
        try simp only [Act.put, List.getElem_toArray, List.getElem_cons_zero, List.getElem_cons_succ, List.setIfInBounds_toArray, List.set_cons_zero, List.set_cons_succ]
        refine wpAnyH_take (i := 6) (v := ?v213) rfl (by kernel_rfl) (by kernel_rfl) (by kernel_rfl) (fun _ _ _ h => h) (Or.inl ⟨by rfl, ?hy213⟩) (by assumption) ?rest213
        case hy213 => intro w hSw; (try dsimp only at hSw); go_simp; (try with_reducible rfl)
        try simp only [Act.put, List.getElem_toArray, List.getElem_cons_zero, List.getElem_cons_succ, List.setIfInBounds_toArray, List.set_cons_zero, List.set_cons_succ]
        refine wpAnyH_take (i := 7) (v := ?v214) rfl (by kernel_rfl) (by kernel_rfl) (by kernel_rfl) (fun _ _ _ h => h) (Or.inl ⟨by rfl, ?hy214⟩) (by assumption) ?rest214
        case hy214 => intro w hSw; (try dsimp only at hSw); go_simp; (try with_reducible rfl)
        try simp only [Act.put, List.getElem_toArray, List.getElem_cons_zero, List.getElem_cons_succ, List.setIfInBounds_toArray, List.set_cons_zero, List.set_cons_succ]
        refine wpAnyH_ready (rs := [8]) (by kernel_rfl) (by simp) ?_
        refine AllReadyH.cons rfl (fun K hK => ?_) AllReadyH.nil
        rw [if_pos (by rfl)]
        refine wp_store_mid 40 _ _ rfl w.heap.size 0 (icells zeroI) rfl rfl (there_row HA8h.out _ (Nat.le_refl _)) (by kernel_rfl) (icells_one _) ?_
        obtain ⟨hst, hfr⟩ := store_over (V := (icells zeroI)) HA8h.out (by rfl)
        have HA10 := hideIt hst
        have HFr10 := hideIt hfr
        have HG10 := hideIt ((hfr.block (w.heap.size + 1) hFlt (by omega)).trans HF8h.out)
        clear hst hfr
        generalize hW10 : World.setCells _ w.heap.size 0 _ = W10 at *
        clear hW10
        refine hK.out _ _ ?_ (fun hHeld => ?_)
        · exact HG9.out _ ((HFr10.out.block w7.heap.size (by simp) hGA).trans (heap_new rfl))
        clear hK K
        try simp only [Act.put, List.getElem_toArray, List.getElem_cons_zero, List.getElem_cons_succ, List.setIfInBounds_toArray, List.set_cons_zero, List.set_cons_succ]
        refine wpAnyH_take (i := 9) (v := ?v215) rfl (by kernel_rfl) (by kernel_rfl) (by kernel_rfl) (fun _ _ _ h => h) (Or.inl ⟨by rfl, ?hy215⟩) (by assumption) ?rest215
        case hy215 => intro w hSw; (try dsimp only at hSw); go_simp; (try with_reducible rfl)
        try simp only [Act.put, List.getElem_toArray, List.getElem_cons_zero, List.getElem_cons_succ, List.setIfInBounds_toArray, List.set_cons_zero, List.set_cons_succ]
        refine wpAnyH_ready (rs := [10]) (by kernel_rfl) (by simp) ?_
        refine AllReadyH.cons rfl (fun K hK => ?_) AllReadyH.nil
        rw [if_pos (by rfl)]
        refine wp_store_mid 45 _ _ rfl (w.heap.size + 1) 0 #[.int .i64 se, .int .i64 ((a : Int) + sa)] rfl rfl (there_row HG10.out _ (Nat.le_refl _)) (by kernel_rfl) (fault_one _ _) ?_
        obtain ⟨hst, hfr⟩ := store_over (V := #[.int .i64 se, .int .i64 ((a : Int) + sa)]) HG10.out (by rfl)
        have HG11 := hideIt hst
        have HFr11 := hideIt ((HFr10.out.mono (S' := fun k => k = w.heap.size ∨ k = w.heap.size + 1) (fun _ e => Or.inl e)).trans hfr (fun _ _ e => Or.inr e))
        have HA11 := hideIt ((hfr.block w.heap.size (Array.getElem?_eq_some_iff.1 HA10.out).1 (by omega)).trans HA10.out)
        clear hst hfr
        generalize hW11 : World.setCells _ (w.heap.size + 1) 0 _ = W11 at *
        clear hW11
        refine hK.out _ _ ?_ (fun hHeld => ?_)
        · exact HG9.out _ ((HFr11.out.block w7.heap.size (by simp) (by omega)).trans (heap_new rfl))
        clear hK K
        try simp only [Act.put, List.getElem_toArray, List.getElem_cons_zero, List.getElem_cons_succ, List.setIfInBounds_toArray, List.set_cons_zero, List.set_cons_succ]
        refine wpAnyH_done (by kernel_rfl) ?_ _
        go_wp2_with fail
        have hA0 := cellOfHeap HA11.out 0 rfl
        have hA1 := cellOfHeap HA11.out 1 rfl
        have hA2 := cellOfHeap HA11.out 2 rfl
        have hA3 := cellOfHeap HA11.out 3 rfl
        have hA4 := cellOfHeap HA11.out 4 rfl
        have hA5 := cellOfHeap HA11.out 5 rfl
        have hF0 := cellOfHeap HG11.out 0 rfl
        have hF1 := cellOfHeap HG11.out 1 rfl
        refine bodyPost_ret (v := readV (zeroI, 0, se, (a : Int) + sa)) (by simp [results, Tryz.results88, go_sem, readV, icells, zeroI, hA0, hA1, hA2, hA3, hA4, hA5, hF0, hF1]) rfl ⟨by rw [HE.out], ?_⟩
        exact HFRw.out.trans HFr11.out (fun k hk e => by omega)

end Go.Proofs.YtojgikaoiegmpaaGreatDoor

/- Code: Read, from a place within the bytes. -/
namespace Go.Proofs.YtojgikaoiegmpaaGreatDoor
open Go.RowKit Go.IntWalk Go.Lib
set_option linter.unusedSimpArgs false
set_option linter.unusedVariables false
set_option maxRecDepth 100000

set_option maxRecDepth 100000 in
set_option maxHeartbeats 2000000 in
theorem read_in2 (ao : Option Addr) (cap : Nat) (bs : List UInt8) (a : Nat) (w : World) (h : BsAt w ao bs) (hcap0 : ao = none → cap = 0) (hcl : bs.length ≤ cap) (hb : bs.length ≤ 140737488355328) (hale : a ≤ bs.length) (hca : ¬ cap = a) (hq : (bs.length : Int) ≤ (a : Int) + 67) :
    Calls Tryz.prog 88 #[.slice ao bs.length cap, .int .i64 (a : Int)] w fun e w' => e = .returned (readV (readR bs a)) ∧ Fr (fun _ => False) w w' := by
  have hd1 : decide ((a : Int) < 0) = false := decide_eq_false (by omega)
  have hd2 : decide ((bs.length : Int) < (a : Int)) = false := decide_eq_false (by omega)
  have HOP := hideIt (open_mid ao cap bs a (bs.length - a) w ((w.alloc (.cells (icells zeroI) 40)).alloc (.cells #[.int .i64 0, .int .i64 0] 45)) h hcap0 hcl hale (((Fr.refl _ w).alloc _).alloc _) hca (by omega))
  have hq2 : ¬ ((a : Int) + 67 < (bs.length : Int)) := by omega
  have hcs : (win bs a).length ≤ 67 := by rw [win_len]; omega
  generalize hcsE : win bs a = cs at *
  have HCS := hideIt hcsE
  clear hcsE
  obtain ⟨m, hm0⟩ : ∃ m : Nat, (rInt cs 1 15 (0, 0, 0)).1 = m := ⟨_, (Int.toNat_of_nonneg (rInt_rng cs 1 15 (0, 0, 0) (by decide)).1).symm⟩
  have hm : m ≤ 15 := by have := (rInt_rng cs 1 15 (0, 0, 0) (by decide)).2; omega
  have HFB1 := hideIt (rInt_fb (bs := cs) (lo := 1) (hi := 15) (s := (0, 0, 0)) ⟨Nat.zero_le _, Int.le_refl _, by show (0 : Int) ≤ cs.length; omega⟩)
  have HRI := hideIt (fun p t ao cap w h hb => by have := rint_any p t ao cap cs (0, 0, 0) 1 15 w h hb; rw [hm0] at this; exact this)
  have HRD := hideIt (show rdI cs = tks cs (ltrs m) (⟨m, 0, 0, 0, 0, ⟨#[]⟩⟩, (rInt cs 1 15 (0, 0, 0)).2) by unfold rdI; rw [hm0, Int.toNat_natCast])
  generalize (rInt cs 1 15 (0, 0, 0)).2 = s1 at *
  clear hm0
  have HK := hideIt kinds_any
  have hidx := idx_run m hm
  go_enter Tryz.func88, Tryz.ntmps88
  go_wp2_with fail
  refine Calls.mono HOP.out ?_
  rintro e w1 ⟨p, t, ao1, cap1, rfl, hR, hF1, hp, ht, hn⟩
  simp at hp ht hn
  clear HOP
  have HR := hideIt hR
  have HF1 := hideIt hF1
  have HN := hideIt hn
  have hs1 : w.heap.size + 2 ≤ w1.heap.size := by have := hF1.size; simp at this; omega
  have hpl : p < w1.heap.size := hR.lt
  have htl : t < w1.heap.size := hR.tp.lt
  have HSL := hideIt (fun k (hk : wset t ao1 k) => hR.setlt hk)
  clear hR hF1 hn
  go_wp2_with fail
  refine Calls.mono (HRI.out p t ao1 cap1 w1 ⟨HR.out, Nat.zero_le _⟩ (by omega)) ?_
  rintro e w2 ⟨rfl, hR2, hF2⟩
  have HR2 := hideIt hR2
  have HF2 := hideIt (HF1.out.mono (S' := fun k => w.heap.size + 2 ≤ k) (fun _ e => e.elim) |>.trans hF2 (fun k _ e => by omega))
  have hs2 : w1.heap.size ≤ w2.heap.size := hF2.size
  clear hR2 hF2 HRI HR HF1
  go_wp2_with fail
  have HI1 := hideIt (fun w' (hF : Fr (fun _ => False) (w2.alloc (.cells (icells ⟨m, 0, 0, 0, 0, ⟨#[]⟩⟩) 40)) w') => show InsAt w' w2.heap.size ⟨m, 0, 0, 0, 0, ⟨#[]⟩⟩ from (hF.block w2.heap.size (by simp) (fun e => e)).trans (heap_new rfl))
  refine wp_region_held_drew (S := fun w0 => w0.cell? ⟨w2.heap.size, 0, none⟩ = some (.int .i64 (m : Int))) (by kernel_rfl) ?_ (fun hHeld => ?_)
  · exact (HI1.out _ (Fr.refl _ _).drew).c0
  refine wpAnyH_take (i := 1) (v := ?v1) rfl (by kernel_rfl) (by kernel_rfl) (by kernel_rfl) (fun _ _ _ h => h) (Or.inl ⟨by rfl, ?hy1⟩) (by assumption) ?rest1
  case hy1 => intro w hSw; (try dsimp only at hSw); go_simp; (try with_reducible rfl)
  try simp only [Act.put, List.setIfInBounds_toArray, List.set_cons_zero, List.set_cons_succ]
  refine wpAnyH_take (i := 2) (v := ?v2) rfl (by kernel_rfl) (by kernel_rfl) (by kernel_rfl) (fun _ _ _ h => h) (Or.inl ⟨by rfl, ?hy2⟩) (by assumption) ?rest2
  case hy2 => intro w hSw; (try dsimp only at hSw); go_simp; (try with_reducible rfl)
  try simp only [Act.put, List.setIfInBounds_toArray, List.set_cons_zero, List.set_cons_succ]
  refine wpAnyH_ready (rs := [0]) (by kernel_rfl) (by simp) ?_
  refine AllReadyH.cons rfl (fun K hK => ?_) AllReadyH.nil
  go_simp
  refine Calls.mono (HK.out _) ?_
  rintro e w4 ⟨rfl, hF⟩
  have HF := hideIt hF
  clear hF
  refine hK.out _ _ ?_ (fun hHeld => ?_)
  · exact (HI1.out _ ((Fr.refl _ _).drew.trans HF.out (fun _ _ e => e))).c0
  clear hK K
  try simp only [Act.put, List.setIfInBounds_toArray, List.set_cons_zero, List.set_cons_succ]
  refine wpAnyH_take (i := 3) (v := ?v3) rfl (by kernel_rfl) (by kernel_rfl) (by kernel_rfl) (fun _ _ _ h => h) (Or.inl ⟨by rfl, ?hy3⟩) (by assumption) ?rest3
  case hy3 => intro w hSw; (try dsimp only at hSw); go_simp; first | done | exact hidx w | (with_reducible rfl) | rfl
  try simp only [Act.put, List.setIfInBounds_toArray, List.set_cons_zero, List.set_cons_succ]
  refine wpAnyH_ready (rs := [4]) (by kernel_rfl) (by simp) ?_
  refine AllReadyH.cons rfl (fun K hK => ?_) AllReadyH.nil
  go_simp
  refine hK.out _ _ ?_ (fun hHeld => ?_)
  · exact (HI1.out _ (((Fr.refl _ _).drew.trans HF.out (fun _ _ e => e)).alloc _)).c0
  clear hK K
  try simp only [Act.put, List.setIfInBounds_toArray, List.set_cons_zero, List.set_cons_succ]
  refine wpAnyH_done (by kernel_rfl) ?_ _
  skip
  go_wp2_with fail
  have hs4 : w2.heap.size < w4.heap.size := by have := HF.out.size; simp at this; omega
  have HFC := hideIt (((Fr.refl (fun _ => False) (w2.alloc (.cells (icells ⟨m, 0, 0, 0, 0, ⟨#[]⟩⟩) 40))).drew.trans HF.out (fun _ _ e => e)).alloc (.stringIter (kindT m) 0))
  have HIW := hideIt (HI1.out _ HFC.out)
  have HRW := hideIt ((HR2.out.fr0 ((Fr.refl _ _).alloc _)).fr0 HFC.out)
  have HFW := hideIt ((HF2.out.alloc _).trans HFC.out (fun _ _ e => e.elim))
  clear HI1 HK hidx HF hHeld HR2 HF2 HFC
  go_loopw [10] (fun _ wr => ∃ (pos : Nat) (i : Ins) (s : Nat × Int × Int), Hid (wr.heap[w4.heap.size]? = some (.stringIter (kindT m) pos)) ∧ Hid (InsAt wr w2.heap.size i) ∧ Hid (ROk wr p t ao1 cap1 cs s) ∧ Hid (Fr (fun k => w.heap.size + 2 ≤ k) ((w.alloc (.cells (icells zeroI) 40)).alloc (.cells #[.int .i64 0, .int .i64 0] 45)) wr) ∧ Hid (FB cs s ∧ rdI cs = tks cs ((ltrs m).drop pos) (i, s))) (fun _ wr => (kindT m).size - wr.iterPos w4.heap.size)
  case atStart => exact ⟨0, ⟨m, 0, 0, 0, 0, ⟨#[]⟩⟩, s1, hideIt (heap_new rfl), HIW, HRW, HFW, hideIt ⟨HFB1.out, HRD.out⟩⟩
  case round =>
    obtain ⟨pos, i, s, HIT, HJ, HRO, HFR, HP⟩ := hrel
    have hne : w2.heap.size ≠ w4.heap.size := by omega
    by_cases hp4 : pos < (kindT m).size
    · obtain ⟨hl, hd0, _⟩ := ltrs_at m pos hm hp4
      have HD := hideIt hd0
      have hnx := fun ty => run_next_ascii_at (P := Tryz.prog) wr w4.heap.size (kindT m) pos ty HIT.out hp4 (by have := hl; omega)
      clear hd0
      generalize ((kindT m)[pos]'hp4).toNat = l at *
      have HFI := hideIt ((Fr.refl (fun k => k = w4.heap.size) wr).iterAt (k := w4.heap.size) (fun _ => rfl) (kindT m) (pos + 1))
      have HJ1 := hideIt (HJ.out.fr HFI.out hne)
      have HR1 := hideIt (show ROk _ p t ao1 cap1 cs s from ⟨HRO.out.1.fr HFI.out (by omega) (fun k hk e => by have := HSL.out k hk; omega), HRO.out.2⟩)
      have HIT1 := hideIt (iterAt_heap wr w4.heap.size (kindT m) pos (pos + 1) HIT.out)
      have HFR1 := hideIt (HFR.out.trans HFI.out (fun i hi e => by omega))
      have hpos0 := hideIt (iterPos_of HIT.out)
      generalize wr.iterAt w4.heap.size (kindT m) (pos + 1) = W1 at *
      go_wp2_with fail
      refine Calls.mono (find_w w2.heap.size l hl _) ?_
      rintro e w5 ⟨rfl, hF5⟩
      have HJ5 := hideIt (HJ1.out.fr hF5 (fun e => e))
      have HR5 := hideIt (HR1.out.fr0 hF5)
      have HIT5 := hideIt ((hF5.block w4.heap.size (Array.getElem?_eq_some_iff.1 HIT1.out).1 (fun e => e)).trans HIT1.out)
      have HFR5 := hideIt (HFR1.out.trans hF5 (fun _ _ e => e.elim))
      clear hF5
      go_wp2_with fail
      refine Calls.mono (take_w w2.heap.size l hl p t i ao1 cap1 cs s w5 HJ5.out HR5.out (by omega) (fun e => by have := HSL.out _ e; omega) (by omega)) ?_
      rintro e w6 ⟨rfl, hI6, hR6, hF6⟩
      have HI6 := hideIt hI6
      have HR6 := hideIt hR6
      have HF6 := hideIt hF6
      clear hI6 hR6 hF6
      have hk5 : w4.heap.size < w5.heap.size := (Array.getElem?_eq_some_iff.1 HIT5.out).1
      have HIT6 := hideIt ((HF6.out.block w4.heap.size hk5 (by omega)).trans HIT5.out)
      go_wp2_with fail
      go_roundw
      case measure =>
        rw [iterPos_of HIT6.out, hpos0.out]
        omega
      case rel =>
        exact ⟨pos + 1, (tk cs l i s).1, (tk cs l i s).2, HIT6, HI6, HR6, hideIt (HFR5.out.trans HF6.out (fun k hk e => by omega)), hideIt ⟨tk_fb HP.out.1, by rw [HP.out.2, HD.out]; rfl⟩⟩
    · have hnx := fun ty => run_next_end_at (P := Tryz.prog) wr w4.heap.size (kindT m) pos ty HIT.out hp4
      have HX := hideIt (show rdI cs = (i, s) by rw [HP.out.2, ltrs_end m pos hp4]; rfl)
      have HFBs := hideIt HP.out.1
      clear HP HRD HFB1
      have hA := (HFR.out.block w.heap.size (by simp; omega) (by omega)).trans (heap_old (heap_new rfl))
      have hF := (HFR.out.block (w.heap.size + 1) (by simp) (by omega)).trans (heap_new (by simp))
      obtain ⟨sp, se, sa⟩ := s
      have hsp : (sp : Int) ≤ 67 := by have := HFBs.out.1; dsimp only at this; omega
      have hsa : 0 ≤ sa ∧ sa ≤ 67 := by have := HFBs.out.2; dsimp only at this; omega
      obtain ⟨hsa0, hsa1⟩ := hsa
      go_wp2_with fail
      refine Calls.mono (rfault_any p t ao1 cap1 cs (sp, se, sa) wr HRO.out) ?_
      rintro e w7 ⟨rfl, hF7⟩
      have hs7 : wr.heap.size ≤ w7.heap.size := hF7.size
      have HF8 := hideIt (hF7.alloc (.cells #[.int .i64 se, .int .i64 sa] 45))
      have HJ8 := hideIt (HJ.out.fr HF8.out (fun e => e))
      have HR8 := hideIt (HRO.out.fr0 HF8.out)
      have HG8 := hideIt (show (w7.alloc (.cells #[.int .i64 se, .int .i64 sa] 45)).drew.cell? ⟨w7.heap.size, 0, none⟩ = some (.int .i64 se) ∧ (w7.alloc (.cells #[.int .i64 se, .int .i64 sa] 45)).drew.cell? ⟨w7.heap.size, 1, none⟩ = some (.int .i64 sa) from ⟨cellOfHeap (heap_new rfl) 0 rfl, cellOfHeap (heap_new rfl) 1 rfl⟩)
      have hA8 := (HF8.out.block w.heap.size (by have := (Array.getElem?_eq_some_iff.1 hA).1; omega) (fun e => e)).trans hA
      have hF8 := (HF8.out.block (w.heap.size + 1) (by have := (Array.getElem?_eq_some_iff.1 hF).1; omega) (fun e => e)).trans hF
      have hQ8 := HJ8.out.lt
      have HA8h := hideIt (show (w7.alloc (.cells #[.int .i64 se, .int .i64 sa] 45)).drew.heap[w.heap.size]? = _ from hA8)
      have HF8h := hideIt (show (w7.alloc (.cells #[.int .i64 se, .int .i64 sa] 45)).drew.heap[w.heap.size + 1]? = _ from hF8)
      have hFlt : w.heap.size + 1 < (w7.alloc (.cells #[.int .i64 se, .int .i64 sa] 45)).drew.heap.size := (Array.getElem?_eq_some_iff.1 hF8).1
      have HG9 := hideIt (fun (w' : World) (h : w'.heap[w7.heap.size]? = some (.cells #[.int .i64 se, .int .i64 sa] 45)) => And.intro (cellOfHeap h 0 rfl) (cellOfHeap h 1 rfl))
      have HFRw := hideIt ((((Fr.refl (fun _ => False) w).alloc (.cells (icells zeroI) 40)).alloc (.cells #[.int .i64 0, .int .i64 0] 45)).trans (HFR.out.trans HF8.out (fun _ _ e => e.elim)) (fun k hk e => by omega) |>.drew)
      have hsz : w.heap.size + 2 ≤ wr.heap.size := by have := HFR.out.size; simp at this; omega
      have hwr1 : IntKind.i64.wrap ((a : Int) + sa) = (a : Int) + sa := i64_in _ (by omega)
      have hwr2 : IntKind.i64.wrap ((a : Int) + (sp : Int)) = (a : Int) + (sp : Int) := i64_in _ (by omega)
      have hGA : w7.heap.size ≠ w.heap.size := by omega
      have hGF : w7.heap.size ≠ w.heap.size + 1 := by omega
      have hQA : w2.heap.size ≠ w.heap.size := by omega
      have hQF : w2.heap.size ≠ w.heap.size + 1 := by omega
      clear hF7 hA hF hA8 hF8
      by_cases hz : se = 0
      · subst hz
        have HE := hideIt (show readR bs a = (i, (a : Int) + sp, 0, 0) by unfold readR; rw [if_neg (by omega), Int.toNat_natCast, HCS.out, HX.out]; exact if_pos rfl)
        go_wp2_with fail
        refine wp_region_held_drew (S := fun w0 => InsAt w0 w2.heap.size i) (by kernel_rfl) ?_ (fun hHeld => ?_)
        · exact HJ8.out.keep rfl
        refine wpAnyH_take (i := 0) (v := ?v201) rfl (by kernel_rfl) (by kernel_rfl) (by kernel_rfl) (fun _ _ _ h => h) (Or.inl ⟨by rfl, ?hy201⟩) (by assumption) ?rest201
        case hy201 => intro w hSw; (try dsimp only at hSw); have c0 := hSw.c0; have c1 := hSw.c1; have c2 := hSw.c2; have c3 := hSw.c3; have c4 := hSw.c4; have c5 := hSw.c5; go_simp; (try with_reducible rfl)
        try simp only [Act.put, List.getElem_toArray, List.getElem_cons_zero, List.getElem_cons_succ, List.setIfInBounds_toArray, List.set_cons_zero, List.set_cons_succ]
        refine wpAnyH_take (i := 1) (v := ?v202) rfl (by kernel_rfl) (by kernel_rfl) (by kernel_rfl) (fun _ _ _ h => h) (Or.inl ⟨by rfl, ?hy202⟩) (by assumption) ?rest202
        case hy202 => intro w hSw; (try dsimp only at hSw); go_simp; (try with_reducible rfl)
        try simp only [Act.put, List.getElem_toArray, List.getElem_cons_zero, List.getElem_cons_succ, List.setIfInBounds_toArray, List.set_cons_zero, List.set_cons_succ]
        refine wpAnyH_take (i := 2) (v := ?v203) rfl (by kernel_rfl) (by kernel_rfl) (by kernel_rfl) (fun _ _ _ h => h) (Or.inl ⟨by rfl, ?hy203⟩) (by assumption) ?rest203
        case hy203 => intro w hSw; (try dsimp only at hSw); go_simp; (try with_reducible rfl)
        try simp only [Act.put, List.getElem_toArray, List.getElem_cons_zero, List.getElem_cons_succ, List.setIfInBounds_toArray, List.set_cons_zero, List.set_cons_succ]
        refine wpAnyH_take (i := 5) (v := ?v204) rfl (by kernel_rfl) (by kernel_rfl) (by kernel_rfl) (fun _ _ _ h => h) (Or.inl ⟨by rfl, ?hy204⟩) (by assumption) ?rest204
        case hy204 => intro w hSw; (try dsimp only at hSw); go_simp; (try with_reducible rfl)
        try simp only [Act.put, List.getElem_toArray, List.getElem_cons_zero, List.getElem_cons_succ, List.setIfInBounds_toArray, List.set_cons_zero, List.set_cons_succ]
        refine wpAnyH_ready (rs := [3]) (by kernel_rfl) (by simp) ?_
        refine AllReadyH.cons rfl (fun K hK => ?_) AllReadyH.nil
        go_simp
        refine Calls.mono (rat_any p t ao1 cap1 cs (sp, 0, sa) _ (HR8.out.fr0 (Fr.refl _ _).drew)) ?_
        rintro e w9 ⟨rfl, rfl⟩
        refine hK.out _ _ ?_ (fun hHeld => ?_)
        · exact HJ8.out.keep rfl
        clear hK K
        try simp only [Act.put, List.getElem_toArray, List.getElem_cons_zero, List.getElem_cons_succ, List.setIfInBounds_toArray, List.set_cons_zero, List.set_cons_succ]
        refine wpAnyH_take (i := 4) (v := ?v205) rfl (by kernel_rfl) (by kernel_rfl) (by kernel_rfl) (fun _ _ _ h => h) (Or.inl ⟨by rfl, ?hy205⟩) (by assumption) ?rest205
        case hy205 => intro w hSw; (try dsimp only at hSw); go_simp; (try with_reducible rfl)
        try simp only [Act.put, List.getElem_toArray, List.getElem_cons_zero, List.getElem_cons_succ, List.setIfInBounds_toArray, List.set_cons_zero, List.set_cons_succ]
        refine wpAnyH_ready (rs := [6]) (by kernel_rfl) (by simp) ?_
        refine AllReadyH.cons rfl (fun K hK => ?_) AllReadyH.nil
        rw [if_pos (by rfl)]
        refine wp_store_mid 40 _ _ rfl w.heap.size 0 (icells i) rfl rfl (there_row HA8h.out _ (Nat.le_refl _)) (by kernel_rfl) (icells_one _) ?_
        obtain ⟨hst, hfr⟩ := store_over (V := (icells i)) HA8h.out (by rfl)
        have HA10 := hideIt hst
        have HFr10 := hideIt hfr
        have HG10 := hideIt ((hfr.block (w.heap.size + 1) hFlt (by omega)).trans HF8h.out)
        clear hst hfr
        generalize hW10 : World.setCells _ w.heap.size 0 _ = W10 at *
        clear hW10
        refine hK.out _ _ ?_ (fun hHeld => ?_)
        · exact HJ8.out.keep (HFr10.out.block w2.heap.size HJ8.out.lt hQA)
        clear hK K
        try simp only [Act.put, List.getElem_toArray, List.getElem_cons_zero, List.getElem_cons_succ, List.setIfInBounds_toArray, List.set_cons_zero, List.set_cons_succ]
        refine wpAnyH_take (i := 7) (v := ?v206) rfl (by kernel_rfl) (by kernel_rfl) (by kernel_rfl) (fun _ _ _ h => h) (Or.inl ⟨by rfl, ?hy206⟩) (by assumption) ?rest206
        case hy206 => intro w hSw; (try dsimp only at hSw); go_simp; (try with_reducible rfl)
        try simp only [Act.put, List.getElem_toArray, List.getElem_cons_zero, List.getElem_cons_succ, List.setIfInBounds_toArray, List.set_cons_zero, List.set_cons_succ]
        refine wpAnyH_ready (rs := [8]) (by kernel_rfl) (by simp) ?_
        refine AllReadyH.cons rfl (fun K hK => ?_) AllReadyH.nil
        rw [if_pos (by rfl)]
        refine wp_store_mid 45 _ _ rfl (w.heap.size + 1) 0 #[.int .i64 0, .int .i64 0] rfl rfl (there_row HG10.out _ (Nat.le_refl _)) (by kernel_rfl) (fault_one _ _) ?_
        obtain ⟨hst, hfr⟩ := store_over (V := #[.int .i64 0, .int .i64 0]) HG10.out (by rfl)
        have HG11 := hideIt hst
        have HFr11 := hideIt ((HFr10.out.mono (S' := fun k => k = w.heap.size ∨ k = w.heap.size + 1) (fun _ e => Or.inl e)).trans hfr (fun _ _ e => Or.inr e))
        have HA11 := hideIt ((hfr.block w.heap.size (Array.getElem?_eq_some_iff.1 HA10.out).1 (by omega)).trans HA10.out)
        clear hst hfr
        generalize hW11 : World.setCells _ (w.heap.size + 1) 0 _ = W11 at *
        clear hW11
        refine hK.out _ _ ?_ (fun hHeld => ?_)
        · exact HJ8.out.keep (HFr11.out.block w2.heap.size HJ8.out.lt (by omega))
        clear hK K
        try simp only [Act.put, List.getElem_toArray, List.getElem_cons_zero, List.getElem_cons_succ, List.setIfInBounds_toArray, List.set_cons_zero, List.set_cons_succ]
        refine wpAnyH_done (by kernel_rfl) ?_ _
        go_wp2_with fail
        have hA0 := cellOfHeap HA11.out 0 rfl
        have hA1 := cellOfHeap HA11.out 1 rfl
        have hA2 := cellOfHeap HA11.out 2 rfl
        have hA3 := cellOfHeap HA11.out 3 rfl
        have hA4 := cellOfHeap HA11.out 4 rfl
        have hA5 := cellOfHeap HA11.out 5 rfl
        have hF0 := cellOfHeap HG11.out 0 rfl
        have hF1 := cellOfHeap HG11.out 1 rfl
        refine bodyPost_ret (v := readV (i, (a : Int) + sp, 0, 0)) (by simp [results, Tryz.results88, go_sem, readV, icells, zeroI, hA0, hA1, hA2, hA3, hA4, hA5, hF0, hF1]) rfl ⟨by rw [HE.out], ?_⟩
        exact HFRw.out.trans HFr11.out (fun k hk e => by omega)
      · have HE := hideIt (show readR bs a = (zeroI, 0, se, (a : Int) + sa) by unfold readR; rw [if_neg (by omega), Int.toNat_natCast, HCS.out, HX.out]; exact if_neg hz)
        go_wp2_with fail
        refine wp_region_held_drew (S := fun w0 => w0.cell? ⟨w7.heap.size, 0, none⟩ = some (.int .i64 se) ∧ w0.cell? ⟨w7.heap.size, 1, none⟩ = some (.int .i64 sa)) (by kernel_rfl) ?_ (fun hHeld => ?_)
        · exact HG8.out
        refine wpAnyH_take (i := 0) (v := ?v207) rfl (by kernel_rfl) (by kernel_rfl) (by kernel_rfl) (fun _ _ _ h => h) (Or.inl ⟨by rfl, ?hy207⟩) (by assumption) ?rest207
        case hy207 => intro w hSw; (try dsimp only at hSw); go_simp; (try with_reducible rfl)
        try simp only [Act.put, List.getElem_toArray, List.getElem_cons_zero, List.getElem_cons_succ, List.setIfInBounds_toArray, List.set_cons_zero, List.set_cons_succ]
        refine wpAnyH_take (i := 1) (v := ?v208) rfl (by kernel_rfl) (by kernel_rfl) (by kernel_rfl) (fun _ _ _ h => h) (Or.inl ⟨by rfl, ?hy208⟩) (by assumption) ?rest208
        case hy208 => intro w hSw; (try dsimp only at hSw); go_simp; (try with_reducible rfl)
        try simp only [Act.put, List.getElem_toArray, List.getElem_cons_zero, List.getElem_cons_succ, List.setIfInBounds_toArray, List.set_cons_zero, List.set_cons_succ]
        refine wpAnyH_take (i := 2) (v := ?v209) rfl (by kernel_rfl) (by kernel_rfl) (by kernel_rfl) (fun _ _ _ h => h) (Or.inl ⟨by rfl, ?hy209⟩) (by assumption) ?rest209
        case hy209 => intro w hSw; (try dsimp only at hSw); go_simp; (try with_reducible rfl)
        try simp only [Act.put, List.getElem_toArray, List.getElem_cons_zero, List.getElem_cons_succ, List.setIfInBounds_toArray, List.set_cons_zero, List.set_cons_succ]
        refine wpAnyH_take (i := 3) (v := ?v210) rfl (by kernel_rfl) (by kernel_rfl) (by kernel_rfl) (fun _ _ _ h => h) (Or.inl ⟨by rfl, ?hy210⟩) (by assumption) ?rest210
        case hy210 => intro w hSw; (try dsimp only at hSw); go_simp; (try with_reducible rfl)
        try simp only [Act.put, List.getElem_toArray, List.getElem_cons_zero, List.getElem_cons_succ, List.setIfInBounds_toArray, List.set_cons_zero, List.set_cons_succ]
        refine wpAnyH_take (i := 4) (v := ?v211) rfl (by kernel_rfl) (by kernel_rfl) (by kernel_rfl) (fun _ _ _ h => h) (Or.inl ⟨by rfl, ?hy211⟩) (by assumption) ?rest211
        case hy211 => intro w hSw; (try dsimp only at hSw); go_simp; (try with_reducible rfl)
        try simp only [Act.put, List.getElem_toArray, List.getElem_cons_zero, List.getElem_cons_succ, List.setIfInBounds_toArray, List.set_cons_zero, List.set_cons_succ]
        refine wpAnyH_take (i := 5) (v := ?v212) rfl (by kernel_rfl) (by kernel_rfl) (by kernel_rfl) (fun _ _ _ h => h) (Or.inl ⟨by rfl, ?hy212⟩) (by assumption) ?rest212
        case hy212 => intro w hSw; (try dsimp only at hSw); go_simp; (try with_reducible rfl)
        try simp only [Act.put, List.getElem_toArray, List.getElem_cons_zero, List.getElem_cons_succ, List.setIfInBounds_toArray, List.set_cons_zero, List.set_cons_succ]
        refine wpAnyH_take (i := 6) (v := ?v213) rfl (by kernel_rfl) (by kernel_rfl) (by kernel_rfl) (fun _ _ _ h => h) (Or.inl ⟨by rfl, ?hy213⟩) (by assumption) ?rest213
        case hy213 => intro w hSw; (try dsimp only at hSw); go_simp; (try with_reducible rfl)
        try simp only [Act.put, List.getElem_toArray, List.getElem_cons_zero, List.getElem_cons_succ, List.setIfInBounds_toArray, List.set_cons_zero, List.set_cons_succ]
        refine wpAnyH_take (i := 7) (v := ?v214) rfl (by kernel_rfl) (by kernel_rfl) (by kernel_rfl) (fun _ _ _ h => h) (Or.inl ⟨by rfl, ?hy214⟩) (by assumption) ?rest214
        case hy214 => intro w hSw; (try dsimp only at hSw); go_simp; (try with_reducible rfl)
        try simp only [Act.put, List.getElem_toArray, List.getElem_cons_zero, List.getElem_cons_succ, List.setIfInBounds_toArray, List.set_cons_zero, List.set_cons_succ]
        refine wpAnyH_ready (rs := [8]) (by kernel_rfl) (by simp) ?_
        refine AllReadyH.cons rfl (fun K hK => ?_) AllReadyH.nil
        rw [if_pos (by rfl)]
        refine wp_store_mid 40 _ _ rfl w.heap.size 0 (icells zeroI) rfl rfl (there_row HA8h.out _ (Nat.le_refl _)) (by kernel_rfl) (icells_one _) ?_
        obtain ⟨hst, hfr⟩ := store_over (V := (icells zeroI)) HA8h.out (by rfl)
        have HA10 := hideIt hst
        have HFr10 := hideIt hfr
        have HG10 := hideIt ((hfr.block (w.heap.size + 1) hFlt (by omega)).trans HF8h.out)
        clear hst hfr
        generalize hW10 : World.setCells _ w.heap.size 0 _ = W10 at *
        clear hW10
        refine hK.out _ _ ?_ (fun hHeld => ?_)
        · exact HG9.out _ ((HFr10.out.block w7.heap.size (by simp) hGA).trans (heap_new rfl))
        clear hK K
        try simp only [Act.put, List.getElem_toArray, List.getElem_cons_zero, List.getElem_cons_succ, List.setIfInBounds_toArray, List.set_cons_zero, List.set_cons_succ]
        refine wpAnyH_take (i := 9) (v := ?v215) rfl (by kernel_rfl) (by kernel_rfl) (by kernel_rfl) (fun _ _ _ h => h) (Or.inl ⟨by rfl, ?hy215⟩) (by assumption) ?rest215
        case hy215 => intro w hSw; (try dsimp only at hSw); go_simp; (try with_reducible rfl)
        try simp only [Act.put, List.getElem_toArray, List.getElem_cons_zero, List.getElem_cons_succ, List.setIfInBounds_toArray, List.set_cons_zero, List.set_cons_succ]
        refine wpAnyH_ready (rs := [10]) (by kernel_rfl) (by simp) ?_
        refine AllReadyH.cons rfl (fun K hK => ?_) AllReadyH.nil
        rw [if_pos (by rfl)]
        refine wp_store_mid 45 _ _ rfl (w.heap.size + 1) 0 #[.int .i64 se, .int .i64 ((a : Int) + sa)] rfl rfl (there_row HG10.out _ (Nat.le_refl _)) (by kernel_rfl) (fault_one _ _) ?_
        obtain ⟨hst, hfr⟩ := store_over (V := #[.int .i64 se, .int .i64 ((a : Int) + sa)]) HG10.out (by rfl)
        have HG11 := hideIt hst
        have HFr11 := hideIt ((HFr10.out.mono (S' := fun k => k = w.heap.size ∨ k = w.heap.size + 1) (fun _ e => Or.inl e)).trans hfr (fun _ _ e => Or.inr e))
        have HA11 := hideIt ((hfr.block w.heap.size (Array.getElem?_eq_some_iff.1 HA10.out).1 (by omega)).trans HA10.out)
        clear hst hfr
        generalize hW11 : World.setCells _ (w.heap.size + 1) 0 _ = W11 at *
        clear hW11
        refine hK.out _ _ ?_ (fun hHeld => ?_)
        · exact HG9.out _ ((HFr11.out.block w7.heap.size (by simp) (by omega)).trans (heap_new rfl))
        clear hK K
        try simp only [Act.put, List.getElem_toArray, List.getElem_cons_zero, List.getElem_cons_succ, List.setIfInBounds_toArray, List.set_cons_zero, List.set_cons_succ]
        refine wpAnyH_done (by kernel_rfl) ?_ _
        go_wp2_with fail
        have hA0 := cellOfHeap HA11.out 0 rfl
        have hA1 := cellOfHeap HA11.out 1 rfl
        have hA2 := cellOfHeap HA11.out 2 rfl
        have hA3 := cellOfHeap HA11.out 3 rfl
        have hA4 := cellOfHeap HA11.out 4 rfl
        have hA5 := cellOfHeap HA11.out 5 rfl
        have hF0 := cellOfHeap HG11.out 0 rfl
        have hF1 := cellOfHeap HG11.out 1 rfl
        refine bodyPost_ret (v := readV (zeroI, 0, se, (a : Int) + sa)) (by simp [results, Tryz.results88, go_sem, readV, icells, zeroI, hA0, hA1, hA2, hA3, hA4, hA5, hF0, hF1]) rfl ⟨by rw [HE.out], ?_⟩
        exact HFRw.out.trans HFr11.out (fun k hk e => by omega)

end Go.Proofs.YtojgikaoiegmpaaGreatDoor

/- Code: Read, from a place within the bytes. -/
namespace Go.Proofs.YtojgikaoiegmpaaGreatDoor
open Go.RowKit Go.IntWalk Go.Lib
set_option linter.unusedSimpArgs false
set_option linter.unusedVariables false
set_option maxRecDepth 100000

set_option maxRecDepth 100000 in
set_option maxHeartbeats 2000000 in
theorem read_in3 (ao : Option Addr) (cap : Nat) (bs : List UInt8) (a : Nat) (w : World) (h : BsAt w ao bs) (hcap0 : ao = none → cap = 0) (hcl : bs.length ≤ cap) (hb : bs.length ≤ 140737488355328) (hale : a ≤ bs.length) (hca : ¬ cap = a) (hq : (a : Int) + 67 < (bs.length : Int)) :
    Calls Tryz.prog 88 #[.slice ao bs.length cap, .int .i64 (a : Int)] w fun e w' => e = .returned (readV (readR bs a)) ∧ Fr (fun _ => False) w w' := by
  have hd1 : decide ((a : Int) < 0) = false := decide_eq_false (by omega)
  have hd2 : decide ((bs.length : Int) < (a : Int)) = false := decide_eq_false (by omega)
  have HOP := hideIt (open_mid ao cap bs a 67 w ((w.alloc (.cells (icells zeroI) 40)).alloc (.cells #[.int .i64 0, .int .i64 0] 45)) h hcap0 hcl hale (((Fr.refl _ w).alloc _).alloc _) hca (by omega))
  have hq2 : ¬ ((bs.length : Int) ≤ (a : Int) + 67) := by omega
  have hcs : (win bs a).length ≤ 67 := by rw [win_len]; omega
  generalize hcsE : win bs a = cs at *
  have HCS := hideIt hcsE
  clear hcsE
  obtain ⟨m, hm0⟩ : ∃ m : Nat, (rInt cs 1 15 (0, 0, 0)).1 = m := ⟨_, (Int.toNat_of_nonneg (rInt_rng cs 1 15 (0, 0, 0) (by decide)).1).symm⟩
  have hm : m ≤ 15 := by have := (rInt_rng cs 1 15 (0, 0, 0) (by decide)).2; omega
  have HFB1 := hideIt (rInt_fb (bs := cs) (lo := 1) (hi := 15) (s := (0, 0, 0)) ⟨Nat.zero_le _, Int.le_refl _, by show (0 : Int) ≤ cs.length; omega⟩)
  have HRI := hideIt (fun p t ao cap w h hb => by have := rint_any p t ao cap cs (0, 0, 0) 1 15 w h hb; rw [hm0] at this; exact this)
  have HRD := hideIt (show rdI cs = tks cs (ltrs m) (⟨m, 0, 0, 0, 0, ⟨#[]⟩⟩, (rInt cs 1 15 (0, 0, 0)).2) by unfold rdI; rw [hm0, Int.toNat_natCast])
  generalize (rInt cs 1 15 (0, 0, 0)).2 = s1 at *
  clear hm0
  have HK := hideIt kinds_any
  have hidx := idx_run m hm
  go_enter Tryz.func88, Tryz.ntmps88
  go_wp2_with fail
  refine Calls.mono HOP.out ?_
  rintro e w1 ⟨p, t, ao1, cap1, rfl, hR, hF1, hp, ht, hn⟩
  simp at hp ht hn
  clear HOP
  have HR := hideIt hR
  have HF1 := hideIt hF1
  have HN := hideIt hn
  have hs1 : w.heap.size + 2 ≤ w1.heap.size := by have := hF1.size; simp at this; omega
  have hpl : p < w1.heap.size := hR.lt
  have htl : t < w1.heap.size := hR.tp.lt
  have HSL := hideIt (fun k (hk : wset t ao1 k) => hR.setlt hk)
  clear hR hF1 hn
  go_wp2_with fail
  refine Calls.mono (HRI.out p t ao1 cap1 w1 ⟨HR.out, Nat.zero_le _⟩ (by omega)) ?_
  rintro e w2 ⟨rfl, hR2, hF2⟩
  have HR2 := hideIt hR2
  have HF2 := hideIt (HF1.out.mono (S' := fun k => w.heap.size + 2 ≤ k) (fun _ e => e.elim) |>.trans hF2 (fun k _ e => by omega))
  have hs2 : w1.heap.size ≤ w2.heap.size := hF2.size
  clear hR2 hF2 HRI HR HF1
  go_wp2_with fail
  have HI1 := hideIt (fun w' (hF : Fr (fun _ => False) (w2.alloc (.cells (icells ⟨m, 0, 0, 0, 0, ⟨#[]⟩⟩) 40)) w') => show InsAt w' w2.heap.size ⟨m, 0, 0, 0, 0, ⟨#[]⟩⟩ from (hF.block w2.heap.size (by simp) (fun e => e)).trans (heap_new rfl))
  refine wp_region_held_drew (S := fun w0 => w0.cell? ⟨w2.heap.size, 0, none⟩ = some (.int .i64 (m : Int))) (by kernel_rfl) ?_ (fun hHeld => ?_)
  · exact (HI1.out _ (Fr.refl _ _).drew).c0
  refine wpAnyH_take (i := 1) (v := ?v1) rfl (by kernel_rfl) (by kernel_rfl) (by kernel_rfl) (fun _ _ _ h => h) (Or.inl ⟨by rfl, ?hy1⟩) (by assumption) ?rest1
  case hy1 => intro w hSw; (try dsimp only at hSw); go_simp; (try with_reducible rfl)
  try simp only [Act.put, List.setIfInBounds_toArray, List.set_cons_zero, List.set_cons_succ]
  refine wpAnyH_take (i := 2) (v := ?v2) rfl (by kernel_rfl) (by kernel_rfl) (by kernel_rfl) (fun _ _ _ h => h) (Or.inl ⟨by rfl, ?hy2⟩) (by assumption) ?rest2
  case hy2 => intro w hSw; (try dsimp only at hSw); go_simp; (try with_reducible rfl)
  try simp only [Act.put, List.setIfInBounds_toArray, List.set_cons_zero, List.set_cons_succ]
  refine wpAnyH_ready (rs := [0]) (by kernel_rfl) (by simp) ?_
  refine AllReadyH.cons rfl (fun K hK => ?_) AllReadyH.nil
  go_simp
  refine Calls.mono (HK.out _) ?_
  rintro e w4 ⟨rfl, hF⟩
  have HF := hideIt hF
  clear hF
  refine hK.out _ _ ?_ (fun hHeld => ?_)
  · exact (HI1.out _ ((Fr.refl _ _).drew.trans HF.out (fun _ _ e => e))).c0
  clear hK K
  try simp only [Act.put, List.setIfInBounds_toArray, List.set_cons_zero, List.set_cons_succ]
  refine wpAnyH_take (i := 3) (v := ?v3) rfl (by kernel_rfl) (by kernel_rfl) (by kernel_rfl) (fun _ _ _ h => h) (Or.inl ⟨by rfl, ?hy3⟩) (by assumption) ?rest3
  case hy3 => intro w hSw; (try dsimp only at hSw); go_simp; first | done | exact hidx w | (with_reducible rfl) | rfl
  try simp only [Act.put, List.setIfInBounds_toArray, List.set_cons_zero, List.set_cons_succ]
  refine wpAnyH_ready (rs := [4]) (by kernel_rfl) (by simp) ?_
  refine AllReadyH.cons rfl (fun K hK => ?_) AllReadyH.nil
  go_simp
  refine hK.out _ _ ?_ (fun hHeld => ?_)
  · exact (HI1.out _ (((Fr.refl _ _).drew.trans HF.out (fun _ _ e => e)).alloc _)).c0
  clear hK K
  try simp only [Act.put, List.setIfInBounds_toArray, List.set_cons_zero, List.set_cons_succ]
  refine wpAnyH_done (by kernel_rfl) ?_ _
  skip
  go_wp2_with fail
  have hs4 : w2.heap.size < w4.heap.size := by have := HF.out.size; simp at this; omega
  have HFC := hideIt (((Fr.refl (fun _ => False) (w2.alloc (.cells (icells ⟨m, 0, 0, 0, 0, ⟨#[]⟩⟩) 40))).drew.trans HF.out (fun _ _ e => e)).alloc (.stringIter (kindT m) 0))
  have HIW := hideIt (HI1.out _ HFC.out)
  have HRW := hideIt ((HR2.out.fr0 ((Fr.refl _ _).alloc _)).fr0 HFC.out)
  have HFW := hideIt ((HF2.out.alloc _).trans HFC.out (fun _ _ e => e.elim))
  clear HI1 HK hidx HF hHeld HR2 HF2 HFC
  go_loopw [10] (fun _ wr => ∃ (pos : Nat) (i : Ins) (s : Nat × Int × Int), Hid (wr.heap[w4.heap.size]? = some (.stringIter (kindT m) pos)) ∧ Hid (InsAt wr w2.heap.size i) ∧ Hid (ROk wr p t ao1 cap1 cs s) ∧ Hid (Fr (fun k => w.heap.size + 2 ≤ k) ((w.alloc (.cells (icells zeroI) 40)).alloc (.cells #[.int .i64 0, .int .i64 0] 45)) wr) ∧ Hid (FB cs s ∧ rdI cs = tks cs ((ltrs m).drop pos) (i, s))) (fun _ wr => (kindT m).size - wr.iterPos w4.heap.size)
  case atStart => exact ⟨0, ⟨m, 0, 0, 0, 0, ⟨#[]⟩⟩, s1, hideIt (heap_new rfl), HIW, HRW, HFW, hideIt ⟨HFB1.out, HRD.out⟩⟩
  case round =>
    obtain ⟨pos, i, s, HIT, HJ, HRO, HFR, HP⟩ := hrel
    have hne : w2.heap.size ≠ w4.heap.size := by omega
    by_cases hp4 : pos < (kindT m).size
    · obtain ⟨hl, hd0, _⟩ := ltrs_at m pos hm hp4
      have HD := hideIt hd0
      have hnx := fun ty => run_next_ascii_at (P := Tryz.prog) wr w4.heap.size (kindT m) pos ty HIT.out hp4 (by have := hl; omega)
      clear hd0
      generalize ((kindT m)[pos]'hp4).toNat = l at *
      have HFI := hideIt ((Fr.refl (fun k => k = w4.heap.size) wr).iterAt (k := w4.heap.size) (fun _ => rfl) (kindT m) (pos + 1))
      have HJ1 := hideIt (HJ.out.fr HFI.out hne)
      have HR1 := hideIt (show ROk _ p t ao1 cap1 cs s from ⟨HRO.out.1.fr HFI.out (by omega) (fun k hk e => by have := HSL.out k hk; omega), HRO.out.2⟩)
      have HIT1 := hideIt (iterAt_heap wr w4.heap.size (kindT m) pos (pos + 1) HIT.out)
      have HFR1 := hideIt (HFR.out.trans HFI.out (fun i hi e => by omega))
      have hpos0 := hideIt (iterPos_of HIT.out)
      generalize wr.iterAt w4.heap.size (kindT m) (pos + 1) = W1 at *
      go_wp2_with fail
      refine Calls.mono (find_w w2.heap.size l hl _) ?_
      rintro e w5 ⟨rfl, hF5⟩
      have HJ5 := hideIt (HJ1.out.fr hF5 (fun e => e))
      have HR5 := hideIt (HR1.out.fr0 hF5)
      have HIT5 := hideIt ((hF5.block w4.heap.size (Array.getElem?_eq_some_iff.1 HIT1.out).1 (fun e => e)).trans HIT1.out)
      have HFR5 := hideIt (HFR1.out.trans hF5 (fun _ _ e => e.elim))
      clear hF5
      go_wp2_with fail
      refine Calls.mono (take_w w2.heap.size l hl p t i ao1 cap1 cs s w5 HJ5.out HR5.out (by omega) (fun e => by have := HSL.out _ e; omega) (by omega)) ?_
      rintro e w6 ⟨rfl, hI6, hR6, hF6⟩
      have HI6 := hideIt hI6
      have HR6 := hideIt hR6
      have HF6 := hideIt hF6
      clear hI6 hR6 hF6
      have hk5 : w4.heap.size < w5.heap.size := (Array.getElem?_eq_some_iff.1 HIT5.out).1
      have HIT6 := hideIt ((HF6.out.block w4.heap.size hk5 (by omega)).trans HIT5.out)
      go_wp2_with fail
      go_roundw
      case measure =>
        rw [iterPos_of HIT6.out, hpos0.out]
        omega
      case rel =>
        exact ⟨pos + 1, (tk cs l i s).1, (tk cs l i s).2, HIT6, HI6, HR6, hideIt (HFR5.out.trans HF6.out (fun k hk e => by omega)), hideIt ⟨tk_fb HP.out.1, by rw [HP.out.2, HD.out]; rfl⟩⟩
    · have hnx := fun ty => run_next_end_at (P := Tryz.prog) wr w4.heap.size (kindT m) pos ty HIT.out hp4
      have HX := hideIt (show rdI cs = (i, s) by rw [HP.out.2, ltrs_end m pos hp4]; rfl)
      have HFBs := hideIt HP.out.1
      clear HP HRD HFB1
      have hA := (HFR.out.block w.heap.size (by simp; omega) (by omega)).trans (heap_old (heap_new rfl))
      have hF := (HFR.out.block (w.heap.size + 1) (by simp) (by omega)).trans (heap_new (by simp))
      obtain ⟨sp, se, sa⟩ := s
      have hsp : (sp : Int) ≤ 67 := by have := HFBs.out.1; dsimp only at this; omega
      have hsa : 0 ≤ sa ∧ sa ≤ 67 := by have := HFBs.out.2; dsimp only at this; omega
      obtain ⟨hsa0, hsa1⟩ := hsa
      go_wp2_with fail
      refine Calls.mono (rfault_any p t ao1 cap1 cs (sp, se, sa) wr HRO.out) ?_
      rintro e w7 ⟨rfl, hF7⟩
      have hs7 : wr.heap.size ≤ w7.heap.size := hF7.size
      have HF8 := hideIt (hF7.alloc (.cells #[.int .i64 se, .int .i64 sa] 45))
      have HJ8 := hideIt (HJ.out.fr HF8.out (fun e => e))
      have HR8 := hideIt (HRO.out.fr0 HF8.out)
      have HG8 := hideIt (show (w7.alloc (.cells #[.int .i64 se, .int .i64 sa] 45)).drew.cell? ⟨w7.heap.size, 0, none⟩ = some (.int .i64 se) ∧ (w7.alloc (.cells #[.int .i64 se, .int .i64 sa] 45)).drew.cell? ⟨w7.heap.size, 1, none⟩ = some (.int .i64 sa) from ⟨cellOfHeap (heap_new rfl) 0 rfl, cellOfHeap (heap_new rfl) 1 rfl⟩)
      have hA8 := (HF8.out.block w.heap.size (by have := (Array.getElem?_eq_some_iff.1 hA).1; omega) (fun e => e)).trans hA
      have hF8 := (HF8.out.block (w.heap.size + 1) (by have := (Array.getElem?_eq_some_iff.1 hF).1; omega) (fun e => e)).trans hF
      have hQ8 := HJ8.out.lt
      have HA8h := hideIt (show (w7.alloc (.cells #[.int .i64 se, .int .i64 sa] 45)).drew.heap[w.heap.size]? = _ from hA8)
      have HF8h := hideIt (show (w7.alloc (.cells #[.int .i64 se, .int .i64 sa] 45)).drew.heap[w.heap.size + 1]? = _ from hF8)
      have hFlt : w.heap.size + 1 < (w7.alloc (.cells #[.int .i64 se, .int .i64 sa] 45)).drew.heap.size := (Array.getElem?_eq_some_iff.1 hF8).1
      have HG9 := hideIt (fun (w' : World) (h : w'.heap[w7.heap.size]? = some (.cells #[.int .i64 se, .int .i64 sa] 45)) => And.intro (cellOfHeap h 0 rfl) (cellOfHeap h 1 rfl))
      have HFRw := hideIt ((((Fr.refl (fun _ => False) w).alloc (.cells (icells zeroI) 40)).alloc (.cells #[.int .i64 0, .int .i64 0] 45)).trans (HFR.out.trans HF8.out (fun _ _ e => e.elim)) (fun k hk e => by omega) |>.drew)
      have hsz : w.heap.size + 2 ≤ wr.heap.size := by have := HFR.out.size; simp at this; omega
      have hwr1 : IntKind.i64.wrap ((a : Int) + sa) = (a : Int) + sa := i64_in _ (by omega)
      have hwr2 : IntKind.i64.wrap ((a : Int) + (sp : Int)) = (a : Int) + (sp : Int) := i64_in _ (by omega)
      have hGA : w7.heap.size ≠ w.heap.size := by omega
      have hGF : w7.heap.size ≠ w.heap.size + 1 := by omega
      have hQA : w2.heap.size ≠ w.heap.size := by omega
      have hQF : w2.heap.size ≠ w.heap.size + 1 := by omega
      clear hF7 hA hF hA8 hF8
      by_cases hz : se = 0
      · subst hz
        have HE := hideIt (show readR bs a = (i, (a : Int) + sp, 0, 0) by unfold readR; rw [if_neg (by omega), Int.toNat_natCast, HCS.out, HX.out]; exact if_pos rfl)
        go_wp2_with fail
        refine wp_region_held_drew (S := fun w0 => InsAt w0 w2.heap.size i) (by kernel_rfl) ?_ (fun hHeld => ?_)
        · exact HJ8.out.keep rfl
        refine wpAnyH_take (i := 0) (v := ?v201) rfl (by kernel_rfl) (by kernel_rfl) (by kernel_rfl) (fun _ _ _ h => h) (Or.inl ⟨by rfl, ?hy201⟩) (by assumption) ?rest201
        case hy201 => intro w hSw; (try dsimp only at hSw); have c0 := hSw.c0; have c1 := hSw.c1; have c2 := hSw.c2; have c3 := hSw.c3; have c4 := hSw.c4; have c5 := hSw.c5; go_simp; (try with_reducible rfl)
        try simp only [Act.put, List.getElem_toArray, List.getElem_cons_zero, List.getElem_cons_succ, List.setIfInBounds_toArray, List.set_cons_zero, List.set_cons_succ]
        refine wpAnyH_take (i := 1) (v := ?v202) rfl (by kernel_rfl) (by kernel_rfl) (by kernel_rfl) (fun _ _ _ h => h) (Or.inl ⟨by rfl, ?hy202⟩) (by assumption) ?rest202
        case hy202 => intro w hSw; (try dsimp only at hSw); go_simp; (try with_reducible rfl)
        try simp only [Act.put, List.getElem_toArray, List.getElem_cons_zero, List.getElem_cons_succ, List.setIfInBounds_toArray, List.set_cons_zero, List.set_cons_succ]
        refine wpAnyH_take (i := 2) (v := ?v203) rfl (by kernel_rfl) (by kernel_rfl) (by kernel_rfl) (fun _ _ _ h => h) (Or.inl ⟨by rfl, ?hy203⟩) (by assumption) ?rest203
        case hy203 => intro w hSw; (try dsimp only at hSw); go_simp; (try with_reducible rfl)
        try simp only [Act.put, List.getElem_toArray, List.getElem_cons_zero, List.getElem_cons_succ, List.setIfInBounds_toArray, List.set_cons_zero, List.set_cons_succ]
        refine wpAnyH_take (i := 5) (v := ?v204) rfl (by kernel_rfl) (by kernel_rfl) (by kernel_rfl) (fun _ _ _ h => h) (Or.inl ⟨by rfl, ?hy204⟩) (by assumption) ?rest204
        case hy204 => intro w hSw; (try dsimp only at hSw); go_simp; (try with_reducible rfl)
        try simp only [Act.put, List.getElem_toArray, List.getElem_cons_zero, List.getElem_cons_succ, List.setIfInBounds_toArray, List.set_cons_zero, List.set_cons_succ]
        refine wpAnyH_ready (rs := [3]) (by kernel_rfl) (by simp) ?_
        refine AllReadyH.cons rfl (fun K hK => ?_) AllReadyH.nil
        go_simp
        refine Calls.mono (rat_any p t ao1 cap1 cs (sp, 0, sa) _ (HR8.out.fr0 (Fr.refl _ _).drew)) ?_
        rintro e w9 ⟨rfl, rfl⟩
        refine hK.out _ _ ?_ (fun hHeld => ?_)
        · exact HJ8.out.keep rfl
        clear hK K
        try simp only [Act.put, List.getElem_toArray, List.getElem_cons_zero, List.getElem_cons_succ, List.setIfInBounds_toArray, List.set_cons_zero, List.set_cons_succ]
        refine wpAnyH_take (i := 4) (v := ?v205) rfl (by kernel_rfl) (by kernel_rfl) (by kernel_rfl) (fun _ _ _ h => h) (Or.inl ⟨by rfl, ?hy205⟩) (by assumption) ?rest205
        case hy205 => intro w hSw; (try dsimp only at hSw); go_simp; (try with_reducible rfl)
        try simp only [Act.put, List.getElem_toArray, List.getElem_cons_zero, List.getElem_cons_succ, List.setIfInBounds_toArray, List.set_cons_zero, List.set_cons_succ]
        refine wpAnyH_ready (rs := [6]) (by kernel_rfl) (by simp) ?_
        refine AllReadyH.cons rfl (fun K hK => ?_) AllReadyH.nil
        rw [if_pos (by rfl)]
        refine wp_store_mid 40 _ _ rfl w.heap.size 0 (icells i) rfl rfl (there_row HA8h.out _ (Nat.le_refl _)) (by kernel_rfl) (icells_one _) ?_
        obtain ⟨hst, hfr⟩ := store_over (V := (icells i)) HA8h.out (by rfl)
        have HA10 := hideIt hst
        have HFr10 := hideIt hfr
        have HG10 := hideIt ((hfr.block (w.heap.size + 1) hFlt (by omega)).trans HF8h.out)
        clear hst hfr
        generalize hW10 : World.setCells _ w.heap.size 0 _ = W10 at *
        clear hW10
        refine hK.out _ _ ?_ (fun hHeld => ?_)
        · exact HJ8.out.keep (HFr10.out.block w2.heap.size HJ8.out.lt hQA)
        clear hK K
        try simp only [Act.put, List.getElem_toArray, List.getElem_cons_zero, List.getElem_cons_succ, List.setIfInBounds_toArray, List.set_cons_zero, List.set_cons_succ]
        refine wpAnyH_take (i := 7) (v := ?v206) rfl (by kernel_rfl) (by kernel_rfl) (by kernel_rfl) (fun _ _ _ h => h) (Or.inl ⟨by rfl, ?hy206⟩) (by assumption) ?rest206
        case hy206 => intro w hSw; (try dsimp only at hSw); go_simp; (try with_reducible rfl)
        try simp only [Act.put, List.getElem_toArray, List.getElem_cons_zero, List.getElem_cons_succ, List.setIfInBounds_toArray, List.set_cons_zero, List.set_cons_succ]
        refine wpAnyH_ready (rs := [8]) (by kernel_rfl) (by simp) ?_
        refine AllReadyH.cons rfl (fun K hK => ?_) AllReadyH.nil
        rw [if_pos (by rfl)]
        refine wp_store_mid 45 _ _ rfl (w.heap.size + 1) 0 #[.int .i64 0, .int .i64 0] rfl rfl (there_row HG10.out _ (Nat.le_refl _)) (by kernel_rfl) (fault_one _ _) ?_
        obtain ⟨hst, hfr⟩ := store_over (V := #[.int .i64 0, .int .i64 0]) HG10.out (by rfl)
        have HG11 := hideIt hst
        have HFr11 := hideIt ((HFr10.out.mono (S' := fun k => k = w.heap.size ∨ k = w.heap.size + 1) (fun _ e => Or.inl e)).trans hfr (fun _ _ e => Or.inr e))
        have HA11 := hideIt ((hfr.block w.heap.size (Array.getElem?_eq_some_iff.1 HA10.out).1 (by omega)).trans HA10.out)
        clear hst hfr
        generalize hW11 : World.setCells _ (w.heap.size + 1) 0 _ = W11 at *
        clear hW11
        refine hK.out _ _ ?_ (fun hHeld => ?_)
        · exact HJ8.out.keep (HFr11.out.block w2.heap.size HJ8.out.lt (by omega))
        clear hK K
        try simp only [Act.put, List.getElem_toArray, List.getElem_cons_zero, List.getElem_cons_succ, List.setIfInBounds_toArray, List.set_cons_zero, List.set_cons_succ]
        refine wpAnyH_done (by kernel_rfl) ?_ _
        go_wp2_with fail
        have hA0 := cellOfHeap HA11.out 0 rfl
        have hA1 := cellOfHeap HA11.out 1 rfl
        have hA2 := cellOfHeap HA11.out 2 rfl
        have hA3 := cellOfHeap HA11.out 3 rfl
        have hA4 := cellOfHeap HA11.out 4 rfl
        have hA5 := cellOfHeap HA11.out 5 rfl
        have hF0 := cellOfHeap HG11.out 0 rfl
        have hF1 := cellOfHeap HG11.out 1 rfl
        refine bodyPost_ret (v := readV (i, (a : Int) + sp, 0, 0)) (by simp [results, Tryz.results88, go_sem, readV, icells, zeroI, hA0, hA1, hA2, hA3, hA4, hA5, hF0, hF1]) rfl ⟨by rw [HE.out], ?_⟩
        exact HFRw.out.trans HFr11.out (fun k hk e => by omega)
      · have HE := hideIt (show readR bs a = (zeroI, 0, se, (a : Int) + sa) by unfold readR; rw [if_neg (by omega), Int.toNat_natCast, HCS.out, HX.out]; exact if_neg hz)
        go_wp2_with fail
        refine wp_region_held_drew (S := fun w0 => w0.cell? ⟨w7.heap.size, 0, none⟩ = some (.int .i64 se) ∧ w0.cell? ⟨w7.heap.size, 1, none⟩ = some (.int .i64 sa)) (by kernel_rfl) ?_ (fun hHeld => ?_)
        · exact HG8.out
        refine wpAnyH_take (i := 0) (v := ?v207) rfl (by kernel_rfl) (by kernel_rfl) (by kernel_rfl) (fun _ _ _ h => h) (Or.inl ⟨by rfl, ?hy207⟩) (by assumption) ?rest207
        case hy207 => intro w hSw; (try dsimp only at hSw); go_simp; (try with_reducible rfl)
        try simp only [Act.put, List.getElem_toArray, List.getElem_cons_zero, List.getElem_cons_succ, List.setIfInBounds_toArray, List.set_cons_zero, List.set_cons_succ]
        refine wpAnyH_take (i := 1) (v := ?v208) rfl (by kernel_rfl) (by kernel_rfl) (by kernel_rfl) (fun _ _ _ h => h) (Or.inl ⟨by rfl, ?hy208⟩) (by assumption) ?rest208
        case hy208 => intro w hSw; (try dsimp only at hSw); go_simp; (try with_reducible rfl)
        try simp only [Act.put, List.getElem_toArray, List.getElem_cons_zero, List.getElem_cons_succ, List.setIfInBounds_toArray, List.set_cons_zero, List.set_cons_succ]
        refine wpAnyH_take (i := 2) (v := ?v209) rfl (by kernel_rfl) (by kernel_rfl) (by kernel_rfl) (fun _ _ _ h => h) (Or.inl ⟨by rfl, ?hy209⟩) (by assumption) ?rest209
        case hy209 => intro w hSw; (try dsimp only at hSw); go_simp; (try with_reducible rfl)
        try simp only [Act.put, List.getElem_toArray, List.getElem_cons_zero, List.getElem_cons_succ, List.setIfInBounds_toArray, List.set_cons_zero, List.set_cons_succ]
        refine wpAnyH_take (i := 3) (v := ?v210) rfl (by kernel_rfl) (by kernel_rfl) (by kernel_rfl) (fun _ _ _ h => h) (Or.inl ⟨by rfl, ?hy210⟩) (by assumption) ?rest210
        case hy210 => intro w hSw; (try dsimp only at hSw); go_simp; (try with_reducible rfl)
        try simp only [Act.put, List.getElem_toArray, List.getElem_cons_zero, List.getElem_cons_succ, List.setIfInBounds_toArray, List.set_cons_zero, List.set_cons_succ]
        refine wpAnyH_take (i := 4) (v := ?v211) rfl (by kernel_rfl) (by kernel_rfl) (by kernel_rfl) (fun _ _ _ h => h) (Or.inl ⟨by rfl, ?hy211⟩) (by assumption) ?rest211
        case hy211 => intro w hSw; (try dsimp only at hSw); go_simp; (try with_reducible rfl)
        try simp only [Act.put, List.getElem_toArray, List.getElem_cons_zero, List.getElem_cons_succ, List.setIfInBounds_toArray, List.set_cons_zero, List.set_cons_succ]
        refine wpAnyH_take (i := 5) (v := ?v212) rfl (by kernel_rfl) (by kernel_rfl) (by kernel_rfl) (fun _ _ _ h => h) (Or.inl ⟨by rfl, ?hy212⟩) (by assumption) ?rest212
        case hy212 => intro w hSw; (try dsimp only at hSw); go_simp; (try with_reducible rfl)
        try simp only [Act.put, List.getElem_toArray, List.getElem_cons_zero, List.getElem_cons_succ, List.setIfInBounds_toArray, List.set_cons_zero, List.set_cons_succ]
        refine wpAnyH_take (i := 6) (v := ?v213) rfl (by kernel_rfl) (by kernel_rfl) (by kernel_rfl) (fun _ _ _ h => h) (Or.inl ⟨by rfl, ?hy213⟩) (by assumption) ?rest213
        case hy213 => intro w hSw; (try dsimp only at hSw); go_simp; (try with_reducible rfl)
        try simp only [Act.put, List.getElem_toArray, List.getElem_cons_zero, List.getElem_cons_succ, List.setIfInBounds_toArray, List.set_cons_zero, List.set_cons_succ]
        refine wpAnyH_take (i := 7) (v := ?v214) rfl (by kernel_rfl) (by kernel_rfl) (by kernel_rfl) (fun _ _ _ h => h) (Or.inl ⟨by rfl, ?hy214⟩) (by assumption) ?rest214
        case hy214 => intro w hSw; (try dsimp only at hSw); go_simp; (try with_reducible rfl)
        try simp only [Act.put, List.getElem_toArray, List.getElem_cons_zero, List.getElem_cons_succ, List.setIfInBounds_toArray, List.set_cons_zero, List.set_cons_succ]
        refine wpAnyH_ready (rs := [8]) (by kernel_rfl) (by simp) ?_
        refine AllReadyH.cons rfl (fun K hK => ?_) AllReadyH.nil
        rw [if_pos (by rfl)]
        refine wp_store_mid 40 _ _ rfl w.heap.size 0 (icells zeroI) rfl rfl (there_row HA8h.out _ (Nat.le_refl _)) (by kernel_rfl) (icells_one _) ?_
        obtain ⟨hst, hfr⟩ := store_over (V := (icells zeroI)) HA8h.out (by rfl)
        have HA10 := hideIt hst
        have HFr10 := hideIt hfr
        have HG10 := hideIt ((hfr.block (w.heap.size + 1) hFlt (by omega)).trans HF8h.out)
        clear hst hfr
        generalize hW10 : World.setCells _ w.heap.size 0 _ = W10 at *
        clear hW10
        refine hK.out _ _ ?_ (fun hHeld => ?_)
        · exact HG9.out _ ((HFr10.out.block w7.heap.size (by simp) hGA).trans (heap_new rfl))
        clear hK K
        try simp only [Act.put, List.getElem_toArray, List.getElem_cons_zero, List.getElem_cons_succ, List.setIfInBounds_toArray, List.set_cons_zero, List.set_cons_succ]
        refine wpAnyH_take (i := 9) (v := ?v215) rfl (by kernel_rfl) (by kernel_rfl) (by kernel_rfl) (fun _ _ _ h => h) (Or.inl ⟨by rfl, ?hy215⟩) (by assumption) ?rest215
        case hy215 => intro w hSw; (try dsimp only at hSw); go_simp; (try with_reducible rfl)
        try simp only [Act.put, List.getElem_toArray, List.getElem_cons_zero, List.getElem_cons_succ, List.setIfInBounds_toArray, List.set_cons_zero, List.set_cons_succ]
        refine wpAnyH_ready (rs := [10]) (by kernel_rfl) (by simp) ?_
        refine AllReadyH.cons rfl (fun K hK => ?_) AllReadyH.nil
        rw [if_pos (by rfl)]
        refine wp_store_mid 45 _ _ rfl (w.heap.size + 1) 0 #[.int .i64 se, .int .i64 ((a : Int) + sa)] rfl rfl (there_row HG10.out _ (Nat.le_refl _)) (by kernel_rfl) (fault_one _ _) ?_
        obtain ⟨hst, hfr⟩ := store_over (V := #[.int .i64 se, .int .i64 ((a : Int) + sa)]) HG10.out (by rfl)
        have HG11 := hideIt hst
        have HFr11 := hideIt ((HFr10.out.mono (S' := fun k => k = w.heap.size ∨ k = w.heap.size + 1) (fun _ e => Or.inl e)).trans hfr (fun _ _ e => Or.inr e))
        have HA11 := hideIt ((hfr.block w.heap.size (Array.getElem?_eq_some_iff.1 HA10.out).1 (by omega)).trans HA10.out)
        clear hst hfr
        generalize hW11 : World.setCells _ (w.heap.size + 1) 0 _ = W11 at *
        clear hW11
        refine hK.out _ _ ?_ (fun hHeld => ?_)
        · exact HG9.out _ ((HFr11.out.block w7.heap.size (by simp) (by omega)).trans (heap_new rfl))
        clear hK K
        try simp only [Act.put, List.getElem_toArray, List.getElem_cons_zero, List.getElem_cons_succ, List.setIfInBounds_toArray, List.set_cons_zero, List.set_cons_succ]
        refine wpAnyH_done (by kernel_rfl) ?_ _
        go_wp2_with fail
        have hA0 := cellOfHeap HA11.out 0 rfl
        have hA1 := cellOfHeap HA11.out 1 rfl
        have hA2 := cellOfHeap HA11.out 2 rfl
        have hA3 := cellOfHeap HA11.out 3 rfl
        have hA4 := cellOfHeap HA11.out 4 rfl
        have hA5 := cellOfHeap HA11.out 5 rfl
        have hF0 := cellOfHeap HG11.out 0 rfl
        have hF1 := cellOfHeap HG11.out 1 rfl
        refine bodyPost_ret (v := readV (zeroI, 0, se, (a : Int) + sa)) (by simp [results, Tryz.results88, go_sem, readV, icells, zeroI, hA0, hA1, hA2, hA3, hA4, hA5, hF0, hF1]) rfl ⟨by rw [HE.out], ?_⟩
        exact HFRw.out.trans HFr11.out (fun k hk e => by omega)

end Go.Proofs.YtojgikaoiegmpaaGreatDoor

/- Code: the document's Has, Most, reg, Check. -/
namespace Go.Proofs.YtojgikaoiegmpaaGreatDoor
open Go.RowKit Go.IntWalk Go.Lib
set_option linter.unusedSimpArgs false
set_option linter.unusedVariables false
set_option maxRecDepth 100000

/-- What an Op has: registers A, B, C, a number, a text. -/
def hasT (op : Int) : Bool × Bool × Bool × Bool × Bool :=
  if op = 1 then (true, false, false, false, true) else
  if op = 2 ∨ op = 4 then (true, true, false, false, false) else
  if op = 3 ∨ op = 7 ∨ op = 8 ∨ op = 9 ∨ op = 10 ∨ op = 11 then (true, true, true, false, false) else
  if op = 5 ∨ op = 14 then (true, false, false, false, false) else
  if op = 6 then (true, true, true, true, false) else
  if op = 12 then (true, false, false, true, false) else
  if op = 13 then (false, false, false, true, false) else (false, false, false, false, false)
def hasV (t : Bool × Bool × Bool × Bool × Bool) : Value := .tuple #[.bool t.1, .bool t.2.1, .bool t.2.2.1, .bool t.2.2.2.1, .bool t.2.2.2.2]

set_option maxRecDepth 100000 in
theorem vhas_any (op : Int) (w : World) : Calls Tryz.prog 43 #[.int .i64 op] w fun e w' => e = .returned (hasV (hasT op)) ∧ w' = w := by
  by_cases h1 : op = 1
  · subst h1
    rw [show hasT 1 = (true, false, false, false, true) from rfl]
    go_enter Tryz.func43, Tryz.ntmps43
    go_wp2_with fail
    exact bodyPost_ret (v := hasV (true, false, false, false, true)) (by simp [results, Tryz.results43, go_sem, hasV]) rfl ⟨rfl, rfl⟩
  by_cases h2 : op = 2
  · subst h2
    clear h1
    rw [show hasT 2 = (true, true, false, false, false) from rfl]
    go_enter Tryz.func43, Tryz.ntmps43
    go_wp2_with fail
    exact bodyPost_ret (v := hasV (true, true, false, false, false)) (by simp [results, Tryz.results43, go_sem, hasV]) rfl ⟨rfl, rfl⟩
  by_cases h3 : op = 3
  · subst h3
    clear h1 h2
    rw [show hasT 3 = (true, true, true, false, false) from rfl]
    go_enter Tryz.func43, Tryz.ntmps43
    go_wp2_with fail
    exact bodyPost_ret (v := hasV (true, true, true, false, false)) (by simp [results, Tryz.results43, go_sem, hasV]) rfl ⟨rfl, rfl⟩
  by_cases h4 : op = 4
  · subst h4
    clear h1 h2 h3
    rw [show hasT 4 = (true, true, false, false, false) from rfl]
    go_enter Tryz.func43, Tryz.ntmps43
    go_wp2_with fail
    exact bodyPost_ret (v := hasV (true, true, false, false, false)) (by simp [results, Tryz.results43, go_sem, hasV]) rfl ⟨rfl, rfl⟩
  by_cases h5 : op = 5
  · subst h5
    clear h1 h2 h3 h4
    rw [show hasT 5 = (true, false, false, false, false) from rfl]
    go_enter Tryz.func43, Tryz.ntmps43
    go_wp2_with fail
    exact bodyPost_ret (v := hasV (true, false, false, false, false)) (by simp [results, Tryz.results43, go_sem, hasV]) rfl ⟨rfl, rfl⟩
  by_cases h6 : op = 6
  · subst h6
    clear h1 h2 h3 h4 h5
    rw [show hasT 6 = (true, true, true, true, false) from rfl]
    go_enter Tryz.func43, Tryz.ntmps43
    go_wp2_with fail
    exact bodyPost_ret (v := hasV (true, true, true, true, false)) (by simp [results, Tryz.results43, go_sem, hasV]) rfl ⟨rfl, rfl⟩
  by_cases h7 : op = 7
  · subst h7
    clear h1 h2 h3 h4 h5 h6
    rw [show hasT 7 = (true, true, true, false, false) from rfl]
    go_enter Tryz.func43, Tryz.ntmps43
    go_wp2_with fail
    exact bodyPost_ret (v := hasV (true, true, true, false, false)) (by simp [results, Tryz.results43, go_sem, hasV]) rfl ⟨rfl, rfl⟩
  by_cases h8 : op = 8
  · subst h8
    clear h1 h2 h3 h4 h5 h6 h7
    rw [show hasT 8 = (true, true, true, false, false) from rfl]
    go_enter Tryz.func43, Tryz.ntmps43
    go_wp2_with fail
    exact bodyPost_ret (v := hasV (true, true, true, false, false)) (by simp [results, Tryz.results43, go_sem, hasV]) rfl ⟨rfl, rfl⟩
  by_cases h9 : op = 9
  · subst h9
    clear h1 h2 h3 h4 h5 h6 h7 h8
    rw [show hasT 9 = (true, true, true, false, false) from rfl]
    go_enter Tryz.func43, Tryz.ntmps43
    go_wp2_with fail
    exact bodyPost_ret (v := hasV (true, true, true, false, false)) (by simp [results, Tryz.results43, go_sem, hasV]) rfl ⟨rfl, rfl⟩
  by_cases h10 : op = 10
  · subst h10
    clear h1 h2 h3 h4 h5 h6 h7 h8 h9
    rw [show hasT 10 = (true, true, true, false, false) from rfl]
    go_enter Tryz.func43, Tryz.ntmps43
    go_wp2_with fail
    exact bodyPost_ret (v := hasV (true, true, true, false, false)) (by simp [results, Tryz.results43, go_sem, hasV]) rfl ⟨rfl, rfl⟩
  by_cases h11 : op = 11
  · subst h11
    clear h1 h2 h3 h4 h5 h6 h7 h8 h9 h10
    rw [show hasT 11 = (true, true, true, false, false) from rfl]
    go_enter Tryz.func43, Tryz.ntmps43
    go_wp2_with fail
    exact bodyPost_ret (v := hasV (true, true, true, false, false)) (by simp [results, Tryz.results43, go_sem, hasV]) rfl ⟨rfl, rfl⟩
  by_cases h12 : op = 12
  · subst h12
    clear h1 h2 h3 h4 h5 h6 h7 h8 h9 h10 h11
    rw [show hasT 12 = (true, false, false, true, false) from rfl]
    go_enter Tryz.func43, Tryz.ntmps43
    go_wp2_with fail
    exact bodyPost_ret (v := hasV (true, false, false, true, false)) (by simp [results, Tryz.results43, go_sem, hasV]) rfl ⟨rfl, rfl⟩
  by_cases h13 : op = 13
  · subst h13
    clear h1 h2 h3 h4 h5 h6 h7 h8 h9 h10 h11 h12
    rw [show hasT 13 = (false, false, false, true, false) from rfl]
    go_enter Tryz.func43, Tryz.ntmps43
    go_wp2_with fail
    exact bodyPost_ret (v := hasV (false, false, false, true, false)) (by simp [results, Tryz.results43, go_sem, hasV]) rfl ⟨rfl, rfl⟩
  by_cases h14 : op = 14
  · subst h14
    clear h1 h2 h3 h4 h5 h6 h7 h8 h9 h10 h11 h12 h13
    rw [show hasT 14 = (true, false, false, false, false) from rfl]
    go_enter Tryz.func43, Tryz.ntmps43
    go_wp2_with fail
    exact bodyPost_ret (v := hasV (true, false, false, false, false)) (by simp [results, Tryz.results43, go_sem, hasV]) rfl ⟨rfl, rfl⟩
  · rw [show hasT op = (false, false, false, false, false) by simp [hasT, h1, h2, h3, h4, h5, h6, h7, h8, h9, h10, h11, h12, h13, h14]]
    have e1 : (op == 1) = false := by simpa using h1
    have e2 : (op == 2) = false := by simpa using h2
    have e3 : (op == 3) = false := by simpa using h3
    have e4 : (op == 4) = false := by simpa using h4
    have e5 : (op == 5) = false := by simpa using h5
    have e6 : (op == 6) = false := by simpa using h6
    have e7 : (op == 7) = false := by simpa using h7
    have e8 : (op == 8) = false := by simpa using h8
    have e9 : (op == 9) = false := by simpa using h9
    have e10 : (op == 10) = false := by simpa using h10
    have e11 : (op == 11) = false := by simpa using h11
    have e12 : (op == 12) = false := by simpa using h12
    have e13 : (op == 13) = false := by simpa using h13
    have e14 : (op == 14) = false := by simpa using h14
    clear h1 h2 h3 h4 h5 h6 h7 h8 h9 h10 h11 h12 h13 h14
    go_enter Tryz.func43, Tryz.ntmps43
    go_wp2_with fail
    exact bodyPost_ret (v := hasV (false, false, false, false, false)) (by simp [results, Tryz.results43, go_sem, hasV]) rfl ⟨rfl, rfl⟩

def mostZ (op : Int) : Int := if op = 6 then 16 else 60
theorem vmost_any (op : Int) (w : World) : Calls Tryz.prog 44 #[.int .i64 op] w fun e w' => e = .returned (.int .i64 (mostZ op)) ∧ w' = w := by
  by_cases h : op = 6
  · subst h
    go_enter Tryz.func44, Tryz.ntmps44
    go_wp2_with fail
    go_ret
    exact ⟨rfl, rfl⟩
  · rw [show mostZ op = 60 from if_neg h]
    have e : (op == 6) = false := by simpa using h
    clear h
    go_enter Tryz.func44, Tryz.ntmps44
    go_wp2_with fail
    go_ret
    exact ⟨rfl, rfl⟩

def regB (n : Int) : Bool → Bool
  | true => decide (0 ≤ n) && decide (n < 8)
  | false => n == 0
theorem vreg_any (n : Int) (h : Bool) (w : World) : Calls Tryz.prog 45 #[.int .i64 n, .bool h] w fun e w' => e = .returned (.bool (regB n h)) ∧ w' = w := by
  cases h
  · rw [show regB n false = (n == 0) from rfl]
    go_enter Tryz.func45, Tryz.ntmps45
    go_wp2_with fail
    go_ret
    exact ⟨rfl, rfl⟩
  · rw [show regB n true = (decide (0 ≤ n) && decide (n < 8)) from rfl]
    by_cases h0 : 0 ≤ n
    · have e0 : decide (0 ≤ n) = true := by simp [h0]
      rw [e0, Bool.true_and]
      by_cases h8 : n < 8
      · have e8 : decide (n < 8) = true := by simp [h8]
        rw [e8]
        go_enter Tryz.func45, Tryz.ntmps45
        go_wp2_with fail
        go_ret
        exact ⟨rfl, rfl⟩
      · have e8 : decide (n < 8) = false := by simp [h8]
        rw [e8]
        go_enter Tryz.func45, Tryz.ntmps45
        go_wp2_with fail
        go_ret
        exact ⟨rfl, rfl⟩
    · have e0 : decide (0 ≤ n) = false := by simp [h0]
      rw [e0, Bool.false_and]
      go_enter Tryz.func45, Tryz.ntmps45
      go_wp2_with fail
      go_ret
      exact ⟨rfl, rfl⟩

def numB (n mx : Int) : Bool → Bool
  | true => decide (1 ≤ n) && decide (n ≤ mx)
  | false => n == 0
def txtB (s : ByteArray) : Bool → Bool
  | true => decide ((s.size : Int) ≤ 64)
  | false => s.toList == []
def vchkB (i : Ins) : Bool := regB i.a (hasT i.op).1 && (regB i.b (hasT i.op).2.1 && (regB i.c (hasT i.op).2.2.1 && (numB i.n (mostZ i.op) (hasT i.op).2.2.2.1 && txtB i.s (hasT i.op).2.2.2.2)))
def vchk (i : Ins) : Int := if decide (i.op < 1) then 2 else if decide (15 < i.op) then 2 else if vchkB i then 0 else 2

end Go.Proofs.YtojgikaoiegmpaaGreatDoor

/- Code: what the document's Check answers is what Check answers. -/
namespace Go.Proofs.YtojgikaoiegmpaaGreatDoor
open Go.RowKit Go.IntWalk Go.Lib
set_option linter.unusedSimpArgs false
set_option linter.unusedVariables false
set_option maxRecDepth 100000

def clrs (ls : List Nat) (i : Ins) : Ins := ls.foldl (fun i l => clr l i) i
theorem chkL_some (ls : List Nat) : ∀ i : Ins, (ls.map fld).Nodup → (∀ l ∈ ls, Ltr l) → (∀ l ∈ ls, fitsB l i = true) → chkL ls i = some (clrs ls i) := by
  induction ls with
  | nil => intro i _ _ _; rfl
  | cons k ls ih =>
    intro i hn hL hf
    have hn' := List.nodup_cons.1 (show (fld k :: ls.map fld).Nodup from hn)
    rw [chkL, if_pos (hf k (List.mem_cons_self ..))]
    refine ih (clr k i) hn'.2 (fun l hl => hL l (List.mem_cons_of_mem _ hl)) (fun l hl => ?_)
    rw [fits_clr l k (hL l (List.mem_cons_of_mem _ hl)) (hL k (List.mem_cons_self ..)) i (fun e => hn'.1 (by rw [← e]; exact List.mem_map_of_mem hl))]
    exact hf l (List.mem_cons_of_mem _ hl)
theorem chkL_iff (m : Nat) (hm : m ≤ 15) (i : Ins) : (∃ j, chkL (ltrs m) i = some j ∧ blank j) ↔ (∀ l ∈ ltrs m, fitsB l i = true) ∧ blank (clrs (ltrs m) i) := by
  constructor
  · rintro ⟨j, hj, hb⟩
    have hf := chkL_fits _ i j hj (ltrs_nodup m hm).1 (ltrs_ok m hm)
    have := chkL_some _ i (ltrs_nodup m hm).1 (ltrs_ok m hm) hf
    rw [hj] at this
    obtain rfl := Option.some.inj this
    exact ⟨hf, hb⟩
  · rintro ⟨hf, hb⟩
    exact ⟨_, chkL_some _ i (ltrs_nodup m hm).1 (ltrs_ok m hm) hf, hb⟩

theorem fb1 (i : Ins) : fitsB 65 i = true ↔ 0 ≤ i.a ∧ i.a ≤ 7 := by simp [fitsB, fld, lowL, highL, Ins.get]
theorem fb2 (i : Ins) : fitsB 66 i = true ↔ 0 ≤ i.b ∧ i.b ≤ 7 := by simp [fitsB, fld, lowL, highL, Ins.get]
theorem fb3 (i : Ins) : fitsB 67 i = true ↔ 0 ≤ i.c ∧ i.c ≤ 7 := by simp [fitsB, fld, lowL, highL, Ins.get]
theorem fb4 (i : Ins) : fitsB 69 i = true ↔ 1 ≤ i.n ∧ i.n ≤ 16 := by simp [fitsB, fld, lowL, highL, Ins.get]
theorem fb5 (i : Ins) : fitsB 80 i = true ↔ 1 ≤ i.n ∧ i.n ≤ 60 := by simp [fitsB, fld, lowL, highL, Ins.get]
theorem fb6 (i : Ins) : fitsB 83 i = true ↔ (i.s.size : Int) ≤ 64 := by simp [fitsB, fld]
theorem rb_t (n : Int) : regB n true = true ↔ 0 ≤ n ∧ n ≤ 7 := by simp [regB]; omega
theorem rb_f (n : Int) : regB n false = true ↔ n = 0 := by simp [regB]
theorem nb_t (n mx : Int) : numB n mx true = true ↔ 1 ≤ n ∧ n ≤ mx := by simp [numB]
theorem nb_f (n mx : Int) : numB n mx false = true ↔ n = 0 := by simp [numB]
theorem tb_t (s : ByteArray) : txtB s true = true ↔ (s.size : Int) ≤ 64 := by simp [txtB]
theorem tb_f (s : ByteArray) : txtB s false = true ↔ s = ⟨#[]⟩ := by
  simp only [txtB, beq_iff_eq]
  exact ⟨ba_nil, fun e => (toList_nil_iff_emptyBytes s).2 e⟩

theorem lit_iff (m : Nat) (h1 : 1 ≤ m) (hm : m ≤ 15) (a b c n : Int) (s : ByteArray) : vchkB ⟨m, a, b, c, n, s⟩ = true ↔ (∀ l ∈ ltrs m, fitsB l ⟨m, a, b, c, n, s⟩ = true) ∧ blank (clrs (ltrs m) ⟨m, a, b, c, n, s⟩) := by
  unfold vchkB
  simp only [Bool.and_eq_true]
  obtain rfl | rfl | rfl | rfl | rfl | rfl | rfl | rfl | rfl | rfl | rfl | rfl | rfl | rfl | rfl : m = 1 ∨ m = 2 ∨ m = 3 ∨ m = 4 ∨ m = 5 ∨ m = 6 ∨ m = 7 ∨ m = 8 ∨ m = 9 ∨ m = 10 ∨ m = 11 ∨ m = 12 ∨ m = 13 ∨ m = 14 ∨ m = 15 := by omega
  · rw [show ltrs 1 = [65, 83] from by decide]
    rw [show blank (clrs [65, 83] ⟨((1 : Nat) : Int), a, b, c, n, s⟩) = ((0 : Int) = 0 ∧ b = 0 ∧ c = 0 ∧ n = 0 ∧ (⟨#[]⟩ : ByteArray) = ⟨#[]⟩) from rfl]
    rw [show hasT (({ op := ((1 : Nat) : Int), a := a, b := b, c := c, n := n, s := s } : Ins).op) = (true, false, false, false, true) from rfl]
    simp only [nb_f, rb_f, rb_t, tb_t, List.forall_mem_cons, List.forall_mem_nil, fb1, fb6]
    constructor
    · rintro ⟨h0, h1, h2, h3, h4⟩
      exact ⟨⟨h0, h4, fun _ h => by cases h⟩, trivial, h1, h2, h3, trivial⟩
    · rintro ⟨⟨g0, g4, _⟩, h0, h1, h2, h3, h4⟩
      exact ⟨g0, h1, h2, h3, g4⟩
  · rw [show ltrs 2 = [65, 66] from by decide]
    rw [show blank (clrs [65, 66] ⟨((2 : Nat) : Int), a, b, c, n, s⟩) = ((0 : Int) = 0 ∧ (0 : Int) = 0 ∧ c = 0 ∧ n = 0 ∧ s = ⟨#[]⟩) from rfl]
    rw [show hasT (({ op := ((2 : Nat) : Int), a := a, b := b, c := c, n := n, s := s } : Ins).op) = (true, true, false, false, false) from rfl]
    simp only [nb_f, rb_f, rb_t, tb_f, List.forall_mem_cons, List.forall_mem_nil, fb1, fb2]
    constructor
    · rintro ⟨h0, h1, h2, h3, h4⟩
      exact ⟨⟨h0, h1, fun _ h => by cases h⟩, trivial, trivial, h2, h3, h4⟩
    · rintro ⟨⟨g0, g1, _⟩, h0, h1, h2, h3, h4⟩
      exact ⟨g0, g1, h2, h3, h4⟩
  · rw [show ltrs 3 = [65, 66, 67] from by decide]
    rw [show blank (clrs [65, 66, 67] ⟨((3 : Nat) : Int), a, b, c, n, s⟩) = ((0 : Int) = 0 ∧ (0 : Int) = 0 ∧ (0 : Int) = 0 ∧ n = 0 ∧ s = ⟨#[]⟩) from rfl]
    rw [show hasT (({ op := ((3 : Nat) : Int), a := a, b := b, c := c, n := n, s := s } : Ins).op) = (true, true, true, false, false) from rfl]
    simp only [nb_f, rb_t, tb_f, List.forall_mem_cons, List.forall_mem_nil, fb1, fb2, fb3]
    constructor
    · rintro ⟨h0, h1, h2, h3, h4⟩
      exact ⟨⟨h0, h1, h2, fun _ h => by cases h⟩, trivial, trivial, trivial, h3, h4⟩
    · rintro ⟨⟨g0, g1, g2, _⟩, h0, h1, h2, h3, h4⟩
      exact ⟨g0, g1, g2, h3, h4⟩
  · rw [show ltrs 4 = [65, 66] from by decide]
    rw [show blank (clrs [65, 66] ⟨((4 : Nat) : Int), a, b, c, n, s⟩) = ((0 : Int) = 0 ∧ (0 : Int) = 0 ∧ c = 0 ∧ n = 0 ∧ s = ⟨#[]⟩) from rfl]
    rw [show hasT (({ op := ((4 : Nat) : Int), a := a, b := b, c := c, n := n, s := s } : Ins).op) = (true, true, false, false, false) from rfl]
    simp only [nb_f, rb_f, rb_t, tb_f, List.forall_mem_cons, List.forall_mem_nil, fb1, fb2]
    constructor
    · rintro ⟨h0, h1, h2, h3, h4⟩
      exact ⟨⟨h0, h1, fun _ h => by cases h⟩, trivial, trivial, h2, h3, h4⟩
    · rintro ⟨⟨g0, g1, _⟩, h0, h1, h2, h3, h4⟩
      exact ⟨g0, g1, h2, h3, h4⟩
  · rw [show ltrs 5 = [65] from by decide]
    rw [show blank (clrs [65] ⟨((5 : Nat) : Int), a, b, c, n, s⟩) = ((0 : Int) = 0 ∧ b = 0 ∧ c = 0 ∧ n = 0 ∧ s = ⟨#[]⟩) from rfl]
    rw [show hasT (({ op := ((5 : Nat) : Int), a := a, b := b, c := c, n := n, s := s } : Ins).op) = (true, false, false, false, false) from rfl]
    simp only [nb_f, rb_f, rb_t, tb_f, List.forall_mem_cons, List.forall_mem_nil, fb1]
    constructor
    · rintro ⟨h0, h1, h2, h3, h4⟩
      exact ⟨⟨h0, fun _ h => by cases h⟩, trivial, h1, h2, h3, h4⟩
    · rintro ⟨⟨g0, _⟩, h0, h1, h2, h3, h4⟩
      exact ⟨g0, h1, h2, h3, h4⟩
  · rw [show ltrs 6 = [65, 66, 67, 69] from by decide]
    rw [show blank (clrs [65, 66, 67, 69] ⟨((6 : Nat) : Int), a, b, c, n, s⟩) = ((0 : Int) = 0 ∧ (0 : Int) = 0 ∧ (0 : Int) = 0 ∧ (0 : Int) = 0 ∧ s = ⟨#[]⟩) from rfl]
    rw [show hasT (({ op := ((6 : Nat) : Int), a := a, b := b, c := c, n := n, s := s } : Ins).op) = (true, true, true, true, false) from rfl]
    simp only [nb_t, rb_t, tb_f, List.forall_mem_cons, List.forall_mem_nil, fb1, fb2, fb3, fb4]
    rw [show mostZ ((6 : Nat) : Int) = 16 from rfl]
    constructor
    · rintro ⟨h0, h1, h2, h3, h4⟩
      exact ⟨⟨h0, h1, h2, h3, fun _ h => by cases h⟩, trivial, trivial, trivial, trivial, h4⟩
    · rintro ⟨⟨g0, g1, g2, g3, _⟩, h0, h1, h2, h3, h4⟩
      exact ⟨g0, g1, g2, g3, h4⟩
  · rw [show ltrs 7 = [65, 66, 67] from by decide]
    rw [show blank (clrs [65, 66, 67] ⟨((7 : Nat) : Int), a, b, c, n, s⟩) = ((0 : Int) = 0 ∧ (0 : Int) = 0 ∧ (0 : Int) = 0 ∧ n = 0 ∧ s = ⟨#[]⟩) from rfl]
    rw [show hasT (({ op := ((7 : Nat) : Int), a := a, b := b, c := c, n := n, s := s } : Ins).op) = (true, true, true, false, false) from rfl]
    simp only [nb_f, rb_t, tb_f, List.forall_mem_cons, List.forall_mem_nil, fb1, fb2, fb3]
    constructor
    · rintro ⟨h0, h1, h2, h3, h4⟩
      exact ⟨⟨h0, h1, h2, fun _ h => by cases h⟩, trivial, trivial, trivial, h3, h4⟩
    · rintro ⟨⟨g0, g1, g2, _⟩, h0, h1, h2, h3, h4⟩
      exact ⟨g0, g1, g2, h3, h4⟩
  · rw [show ltrs 8 = [65, 66, 67] from by decide]
    rw [show blank (clrs [65, 66, 67] ⟨((8 : Nat) : Int), a, b, c, n, s⟩) = ((0 : Int) = 0 ∧ (0 : Int) = 0 ∧ (0 : Int) = 0 ∧ n = 0 ∧ s = ⟨#[]⟩) from rfl]
    rw [show hasT (({ op := ((8 : Nat) : Int), a := a, b := b, c := c, n := n, s := s } : Ins).op) = (true, true, true, false, false) from rfl]
    simp only [nb_f, rb_t, tb_f, List.forall_mem_cons, List.forall_mem_nil, fb1, fb2, fb3]
    constructor
    · rintro ⟨h0, h1, h2, h3, h4⟩
      exact ⟨⟨h0, h1, h2, fun _ h => by cases h⟩, trivial, trivial, trivial, h3, h4⟩
    · rintro ⟨⟨g0, g1, g2, _⟩, h0, h1, h2, h3, h4⟩
      exact ⟨g0, g1, g2, h3, h4⟩
  · rw [show ltrs 9 = [65, 66, 67] from by decide]
    rw [show blank (clrs [65, 66, 67] ⟨((9 : Nat) : Int), a, b, c, n, s⟩) = ((0 : Int) = 0 ∧ (0 : Int) = 0 ∧ (0 : Int) = 0 ∧ n = 0 ∧ s = ⟨#[]⟩) from rfl]
    rw [show hasT (({ op := ((9 : Nat) : Int), a := a, b := b, c := c, n := n, s := s } : Ins).op) = (true, true, true, false, false) from rfl]
    simp only [nb_f, rb_t, tb_f, List.forall_mem_cons, List.forall_mem_nil, fb1, fb2, fb3]
    constructor
    · rintro ⟨h0, h1, h2, h3, h4⟩
      exact ⟨⟨h0, h1, h2, fun _ h => by cases h⟩, trivial, trivial, trivial, h3, h4⟩
    · rintro ⟨⟨g0, g1, g2, _⟩, h0, h1, h2, h3, h4⟩
      exact ⟨g0, g1, g2, h3, h4⟩
  · rw [show ltrs 10 = [65, 66, 67] from by decide]
    rw [show blank (clrs [65, 66, 67] ⟨((10 : Nat) : Int), a, b, c, n, s⟩) = ((0 : Int) = 0 ∧ (0 : Int) = 0 ∧ (0 : Int) = 0 ∧ n = 0 ∧ s = ⟨#[]⟩) from rfl]
    rw [show hasT (({ op := ((10 : Nat) : Int), a := a, b := b, c := c, n := n, s := s } : Ins).op) = (true, true, true, false, false) from rfl]
    simp only [nb_f, rb_t, tb_f, List.forall_mem_cons, List.forall_mem_nil, fb1, fb2, fb3]
    constructor
    · rintro ⟨h0, h1, h2, h3, h4⟩
      exact ⟨⟨h0, h1, h2, fun _ h => by cases h⟩, trivial, trivial, trivial, h3, h4⟩
    · rintro ⟨⟨g0, g1, g2, _⟩, h0, h1, h2, h3, h4⟩
      exact ⟨g0, g1, g2, h3, h4⟩
  · rw [show ltrs 11 = [65, 66, 67] from by decide]
    rw [show blank (clrs [65, 66, 67] ⟨((11 : Nat) : Int), a, b, c, n, s⟩) = ((0 : Int) = 0 ∧ (0 : Int) = 0 ∧ (0 : Int) = 0 ∧ n = 0 ∧ s = ⟨#[]⟩) from rfl]
    rw [show hasT (({ op := ((11 : Nat) : Int), a := a, b := b, c := c, n := n, s := s } : Ins).op) = (true, true, true, false, false) from rfl]
    simp only [nb_f, rb_t, tb_f, List.forall_mem_cons, List.forall_mem_nil, fb1, fb2, fb3]
    constructor
    · rintro ⟨h0, h1, h2, h3, h4⟩
      exact ⟨⟨h0, h1, h2, fun _ h => by cases h⟩, trivial, trivial, trivial, h3, h4⟩
    · rintro ⟨⟨g0, g1, g2, _⟩, h0, h1, h2, h3, h4⟩
      exact ⟨g0, g1, g2, h3, h4⟩
  · rw [show ltrs 12 = [65, 80] from by decide]
    rw [show blank (clrs [65, 80] ⟨((12 : Nat) : Int), a, b, c, n, s⟩) = ((0 : Int) = 0 ∧ b = 0 ∧ c = 0 ∧ (0 : Int) = 0 ∧ s = ⟨#[]⟩) from rfl]
    rw [show hasT (({ op := ((12 : Nat) : Int), a := a, b := b, c := c, n := n, s := s } : Ins).op) = (true, false, false, true, false) from rfl]
    simp only [nb_t, rb_f, rb_t, tb_f, List.forall_mem_cons, List.forall_mem_nil, fb1, fb5]
    rw [show mostZ ((12 : Nat) : Int) = 60 from rfl]
    constructor
    · rintro ⟨h0, h1, h2, h3, h4⟩
      exact ⟨⟨h0, h3, fun _ h => by cases h⟩, trivial, h1, h2, trivial, h4⟩
    · rintro ⟨⟨g0, g3, _⟩, h0, h1, h2, h3, h4⟩
      exact ⟨g0, h1, h2, g3, h4⟩
  · rw [show ltrs 13 = [80] from by decide]
    rw [show blank (clrs [80] ⟨((13 : Nat) : Int), a, b, c, n, s⟩) = (a = 0 ∧ b = 0 ∧ c = 0 ∧ (0 : Int) = 0 ∧ s = ⟨#[]⟩) from rfl]
    rw [show hasT (({ op := ((13 : Nat) : Int), a := a, b := b, c := c, n := n, s := s } : Ins).op) = (false, false, false, true, false) from rfl]
    simp only [nb_t, rb_f, tb_f, List.forall_mem_cons, List.forall_mem_nil, fb5]
    rw [show mostZ ((13 : Nat) : Int) = 60 from rfl]
    constructor
    · rintro ⟨h0, h1, h2, h3, h4⟩
      exact ⟨⟨h3, fun _ h => by cases h⟩, h0, h1, h2, trivial, h4⟩
    · rintro ⟨⟨g3, _⟩, h0, h1, h2, h3, h4⟩
      exact ⟨h0, h1, h2, g3, h4⟩
  · rw [show ltrs 14 = [65] from by decide]
    rw [show blank (clrs [65] ⟨((14 : Nat) : Int), a, b, c, n, s⟩) = ((0 : Int) = 0 ∧ b = 0 ∧ c = 0 ∧ n = 0 ∧ s = ⟨#[]⟩) from rfl]
    rw [show hasT (({ op := ((14 : Nat) : Int), a := a, b := b, c := c, n := n, s := s } : Ins).op) = (true, false, false, false, false) from rfl]
    simp only [nb_f, rb_f, rb_t, tb_f, List.forall_mem_cons, List.forall_mem_nil, fb1]
    constructor
    · rintro ⟨h0, h1, h2, h3, h4⟩
      exact ⟨⟨h0, fun _ h => by cases h⟩, trivial, h1, h2, h3, h4⟩
    · rintro ⟨⟨g0, _⟩, h0, h1, h2, h3, h4⟩
      exact ⟨g0, h1, h2, h3, h4⟩
  · rw [show ltrs 15 = [] from by decide]
    rw [show blank (clrs [] ⟨((15 : Nat) : Int), a, b, c, n, s⟩) = (a = 0 ∧ b = 0 ∧ c = 0 ∧ n = 0 ∧ s = ⟨#[]⟩) from rfl]
    rw [show hasT (({ op := ((15 : Nat) : Int), a := a, b := b, c := c, n := n, s := s } : Ins).op) = (false, false, false, false, false) from rfl]
    simp only [nb_f, rb_f, tb_f, List.forall_mem_cons, List.forall_mem_nil]
    constructor
    · rintro ⟨h0, h1, h2, h3, h4⟩
      exact ⟨(fun _ h => by cases h), h0, h1, h2, h3, h4⟩
    · rintro ⟨_, h0, h1, h2, h3, h4⟩
      exact ⟨h0, h1, h2, h3, h4⟩

theorem vchk_eq (i : Ins) : vchk i = checkE i := by
  unfold vchk
  by_cases h1 : i.op < 1
  · rw [if_pos (by simp [h1]), checkE_out i (by omega)]
  by_cases h2 : 15 < i.op
  · rw [if_neg (by simp [h1]), if_pos (by simp [h2]), checkE_out i (by omega)]
  rw [if_neg (by simp [h1]), if_neg (by simp [h2])]
  obtain ⟨op, a, b, c, n, s⟩ := i
  simp only at h1 h2
  obtain ⟨m, rfl⟩ : ∃ m : Nat, op = m := ⟨op.toNat, by omega⟩
  have hl := lit_iff m (by omega) (by omega) a b c n s
  rw [← chkL_iff m (by omega)] at hl
  by_cases hv : vchkB ⟨m, a, b, c, n, s⟩ = true
  · obtain ⟨j, hj, hb⟩ := hl.1 hv
    rw [if_pos hv, checkE_ok _ j (by show (1 : Int) ≤ m; omega) (by show (m : Int) ≤ 15; omega) (by show chkL (ltrs (m : Int).toNat) _ = _; rw [Int.toNat_natCast]; exact hj) hb]
  · rw [if_neg hv]
    unfold checkE
    rw [if_neg]
    rintro ⟨_, _, j, hj, hb⟩
    exact hv (hl.2 ⟨j, by rw [← hj]; show _ = chkL (ltrs (m : Int).toNat) _; rw [Int.toNat_natCast], hb⟩)

end Go.Proofs.YtojgikaoiegmpaaGreatDoor

/- Code: the document's Check: the walk. -/
namespace Go.Proofs.YtojgikaoiegmpaaGreatDoor
open Go.RowKit Go.IntWalk Go.Lib
set_option linter.unusedSimpArgs false
set_option linter.unusedVariables false
set_option maxRecDepth 100000

/-- A region's end: which temporaries it leaves, whatever the order. -/
def ViaV (F : (Nat → Value) → Act) (R : (Nat → Value) → World → Prop) : Exit → Act → World → Prop
  | .normal, a', w' => ∃ v, a' = F v ∧ R v w'
  | _, _, _ => False

theorem wp_viaV {P : Program} {c : Code} {Q : Exit → Act → World → Prop} {a : Act} {w : World} (F : Act → (Nat → Value) → Act) (R : (Nat → Value) → World → Prop) (h1 : c.wp P (ViaV (F a) R) a w) (h2 : ∀ v w', R v w' → Q .normal (F a v) w') : c.wp P Q a w :=
  Code.wp_mono (fun e a' w' h => by
    cases e <;> first | exact (h : False).elim | (obtain ⟨v, rfl, hr⟩ := h; exact h2 v w' hr)) h1

theorem viaV_leaf19 {F : (Nat → Value) → Act} {R : (Nat → Value) → World → Prop} {a' : Act} {w' : World} (h : a' = F (fun i => a'.tmps.getD (19 + i) undef)) (hr : R (fun i => a'.tmps.getD (19 + i) undef) w') : ViaV F R .normal a' w' := ⟨_, h, hr⟩

set_option maxRecDepth 100000 in
set_option maxHeartbeats 4000000 in
theorem vcheck_any (i : Ins) (w : World) : Calls Tryz.prog 25 #[.agg (icells i)] w fun e w' => e = .returned (.int .i64 (vchk i)) ∧ Fr (fun _ => False) w w' := by
  have HH := hideIt (fun w => vhas_any i.op w)
  have HM := hideIt (fun w => vmost_any i.op w)
  have HR := hideIt vreg_any
  have HE := hideIt (show vchk i = vchk i from rfl)
  rw [show vchk i = (if decide (i.op < 1) then 2 else if decide (15 < i.op) then 2 else if vchkB i then 0 else 2) from rfl]
  unfold vchkB
  generalize hasT i.op = t at *
  generalize mostZ i.op = mx at *
  obtain ⟨ha, hb, hc, hn, hs⟩ := t
  obtain ⟨op, a, b, c, n, s⟩ := i
  clear HE
  unfold icells hasV at *
  dsimp only at HH HM ⊢
  have hA := HR.out a ha
  have hB := HR.out b hb
  have hC := HR.out c hc
  generalize regB a ha = ra at *
  generalize regB b hb = rb at *
  generalize regB c hc = rc at *
  have HA := hideIt hA
  have HB := hideIt hB
  have HC := hideIt hC
  clear hA hB hC HR
  obtain ⟨q8, hq8⟩ : ∃ q, numB n mx hn = q := ⟨_, rfl⟩
  obtain ⟨q9, hq9⟩ : ∃ q, txtB s hs = q := ⟨_, rfl⟩
  rw [hq8, hq9]
  obtain ⟨res, hres⟩ : ∃ r : Int, (if decide (op < 1) then 2 else if decide (15 < op) then 2 else if (ra && (rb && (rc && (q8 && q9)))) then 0 else 2) = r := ⟨_, rfl⟩
  rw [hres]
  have HQ8 := hideIt hq8
  have HQ9 := hideIt hq9
  have HRES := hideIt hres
  clear hq8 hq9 hres
  go_enter Tryz.func25, Tryz.ntmps25
  go_wp2_with fail
  refine Calls.mono (HH.out _) ?_
  rintro e w1 ⟨rfl, rfl⟩
  go_wp2_with fail
  refine wp_viaV (fun a v => ({ a with tmps := (a.tmps.toList.take 19 ++ [v 0, v 1, v 2, v 3, v 4, v 5, v 6, v 7, v 8, v 9, v 10, v 11, v 12, v 13, v 14, v 15, v 16, v 17, v 18, v 19, v 20, v 21, v 22] ++ a.tmps.toList.drop 42).toArray } : Act).put (some 8) (v 22)) (fun v w' => v 22 = .bool q8 ∧ ∃ k, w' = (w.alloc (.cells #[.int .i64 op, .int .i64 a, .int .i64 b, .int .i64 c, .int .i64 n, .string s] 40)).drewN k) ?_ ?_
  · cases hn
    · obtain rfl : (n == 0) = q8 := HQ8.out
      clear HQ8 HRES
      go_quiet (fail)
      exact viaV_leaf19 (by kernel_rfl) ⟨by kernel_rfl, _, rfl⟩
    · have hq : (decide (1 ≤ n) && decide (n ≤ mx)) = q8 := HQ8.out
      clear HQ8 HRES
      by_cases h1 : 1 ≤ n
      · have e1 : decide (1 ≤ n) = true := by simp [h1]
        rw [e1, Bool.true_and] at hq
        by_cases h2 : n ≤ mx
        · have e2 : decide (n ≤ mx) = true := by simp [h2]
          obtain rfl : _ = q8 := e2.symm.trans hq
          clear hq
          go_quiet ((go_at_call 44; exact Calls.quiet_of_same (HM.out _)))
          exact viaV_leaf19 (by kernel_rfl) ⟨by kernel_rfl, _, rfl⟩
        · have e2 : decide (n ≤ mx) = false := by simp [h2]
          obtain rfl : _ = q8 := e2.symm.trans hq
          clear hq
          go_quiet ((go_at_call 44; exact Calls.quiet_of_same (HM.out _)))
          exact viaV_leaf19 (by kernel_rfl) ⟨by kernel_rfl, _, rfl⟩
      · have e1 : decide (1 ≤ n) = false := by simp [h1]
        obtain rfl : false = q8 := by rw [← hq, e1]; rfl
        clear hq
        go_quiet (fail)
        exact viaV_leaf19 (by kernel_rfl) ⟨by kernel_rfl, _, rfl⟩
  · intro vv w2 hR
    obtain ⟨e22, k2, rfl⟩ := hR
    simp only [List.toList_toArray, List.take_succ_cons, List.take_zero, List.drop_succ_cons, List.drop_zero, List.cons_append, List.nil_append, e22]
    try simp only [Act.put, List.setIfInBounds_toArray, List.set_cons_zero, List.set_cons_succ]
    clear HH HM HQ8
    have hq9 := HQ9.out
    clear HQ9
    have HFR := hideIt (((Fr.refl (fun _ => False) w).alloc (.cells #[.int .i64 op, .int .i64 a, .int .i64 b, .int .i64 c, .int .i64 n, .string s] 40)).drewN k2)
    cases hs
    · obtain rfl : (s.toList == []) = q9 := hq9
      obtain ⟨q9, hq9⟩ : ∃ q, (s.toList == []) = q := ⟨_, rfl⟩
      rw [hq9] at HRES
      by_cases g1 : op < 1
      · have d1 : decide (op < 1) = true := by simp [g1]
        clear g1
        go_wp2_with fail
        go_ret
        exact ⟨by rw [← HRES.out]; simp [d1], HFR.out⟩
      have d1 : decide (op < 1) = false := by simp [g1]
      by_cases g2 : 15 < op
      · have d2 : decide (15 < op) = true := by simp [g2]
        clear g1 g2
        go_wp2_with fail
        go_ret
        exact ⟨by rw [← HRES.out]; simp [d1, d2], HFR.out⟩
      have d2 : decide (15 < op) = false := by simp [g2]
      clear g1 g2
      cases ra
      · skip
        go_wp2_with fail
        refine Calls.mono (HA.out _) ?_
        rintro e wx ⟨rfl, rfl⟩
        go_wp2_with fail
        go_ret
        exact ⟨by rw [← HRES.out]; simp [d1, d2], HFR.out⟩
      cases rb
      · skip
        go_wp2_with fail
        refine Calls.mono (HA.out _) ?_
        rintro e wx ⟨rfl, rfl⟩
        go_wp2_with fail
        refine Calls.mono (HB.out _) ?_
        rintro e wx ⟨rfl, rfl⟩
        go_wp2_with fail
        go_ret
        exact ⟨by rw [← HRES.out]; simp [d1, d2], HFR.out⟩
      cases rc
      · skip
        go_wp2_with fail
        refine Calls.mono (HA.out _) ?_
        rintro e wx ⟨rfl, rfl⟩
        go_wp2_with fail
        refine Calls.mono (HB.out _) ?_
        rintro e wx ⟨rfl, rfl⟩
        go_wp2_with fail
        refine Calls.mono (HC.out _) ?_
        rintro e wx ⟨rfl, rfl⟩
        go_wp2_with fail
        go_ret
        exact ⟨by rw [← HRES.out]; simp [d1, d2], HFR.out⟩
      cases q8
      · skip
        go_wp2_with fail
        refine Calls.mono (HA.out _) ?_
        rintro e wx ⟨rfl, rfl⟩
        go_wp2_with fail
        refine Calls.mono (HB.out _) ?_
        rintro e wx ⟨rfl, rfl⟩
        go_wp2_with fail
        refine Calls.mono (HC.out _) ?_
        rintro e wx ⟨rfl, rfl⟩
        go_wp2_with fail
        go_ret
        exact ⟨by rw [← HRES.out]; simp [d1, d2], HFR.out⟩
      cases q9
      · skip
        go_wp2_with fail
        refine Calls.mono (HA.out _) ?_
        rintro e wx ⟨rfl, rfl⟩
        go_wp2_with fail
        refine Calls.mono (HB.out _) ?_
        rintro e wx ⟨rfl, rfl⟩
        go_wp2_with fail
        refine Calls.mono (HC.out _) ?_
        rintro e wx ⟨rfl, rfl⟩
        go_wp2_with fail
        go_ret
        exact ⟨by rw [← HRES.out]; simp [d1, d2], HFR.out⟩
      · skip
        go_wp2_with fail
        refine Calls.mono (HA.out _) ?_
        rintro e wx ⟨rfl, rfl⟩
        go_wp2_with fail
        refine Calls.mono (HB.out _) ?_
        rintro e wx ⟨rfl, rfl⟩
        go_wp2_with fail
        refine Calls.mono (HC.out _) ?_
        rintro e wx ⟨rfl, rfl⟩
        go_wp2_with fail
        go_ret
        exact ⟨by rw [← HRES.out]; simp [d1, d2], HFR.out⟩
    · by_cases hz : (s.size : Int) ≤ 64
      · have ez : decide ((s.size : Int) ≤ 64) = true := by simp; omega
        obtain rfl : q9 = true := by rw [← hq9]; exact ez
        clear hq9 hz
        by_cases g1 : op < 1
        · have d1 : decide (op < 1) = true := by simp [g1]
          clear g1
          go_wp2_with fail
          go_ret
          exact ⟨by rw [← HRES.out]; simp [d1], HFR.out⟩
        have d1 : decide (op < 1) = false := by simp [g1]
        by_cases g2 : 15 < op
        · have d2 : decide (15 < op) = true := by simp [g2]
          clear g1 g2
          go_wp2_with fail
          go_ret
          exact ⟨by rw [← HRES.out]; simp [d1, d2], HFR.out⟩
        have d2 : decide (15 < op) = false := by simp [g2]
        clear g1 g2
        cases ra
        · skip
          go_wp2_with fail
          refine Calls.mono (HA.out _) ?_
          rintro e wx ⟨rfl, rfl⟩
          go_wp2_with fail
          go_ret
          exact ⟨by rw [← HRES.out]; simp [d1, d2], HFR.out⟩
        cases rb
        · skip
          go_wp2_with fail
          refine Calls.mono (HA.out _) ?_
          rintro e wx ⟨rfl, rfl⟩
          go_wp2_with fail
          refine Calls.mono (HB.out _) ?_
          rintro e wx ⟨rfl, rfl⟩
          go_wp2_with fail
          go_ret
          exact ⟨by rw [← HRES.out]; simp [d1, d2], HFR.out⟩
        cases rc
        · skip
          go_wp2_with fail
          refine Calls.mono (HA.out _) ?_
          rintro e wx ⟨rfl, rfl⟩
          go_wp2_with fail
          refine Calls.mono (HB.out _) ?_
          rintro e wx ⟨rfl, rfl⟩
          go_wp2_with fail
          refine Calls.mono (HC.out _) ?_
          rintro e wx ⟨rfl, rfl⟩
          go_wp2_with fail
          go_ret
          exact ⟨by rw [← HRES.out]; simp [d1, d2], HFR.out⟩
        cases q8
        · skip
          go_wp2_with fail
          refine Calls.mono (HA.out _) ?_
          rintro e wx ⟨rfl, rfl⟩
          go_wp2_with fail
          refine Calls.mono (HB.out _) ?_
          rintro e wx ⟨rfl, rfl⟩
          go_wp2_with fail
          refine Calls.mono (HC.out _) ?_
          rintro e wx ⟨rfl, rfl⟩
          go_wp2_with fail
          go_ret
          exact ⟨by rw [← HRES.out]; simp [d1, d2], HFR.out⟩
        · skip
          go_wp2_with fail
          refine Calls.mono (HA.out _) ?_
          rintro e wx ⟨rfl, rfl⟩
          go_wp2_with fail
          refine Calls.mono (HB.out _) ?_
          rintro e wx ⟨rfl, rfl⟩
          go_wp2_with fail
          refine Calls.mono (HC.out _) ?_
          rintro e wx ⟨rfl, rfl⟩
          go_wp2_with fail
          go_ret
          exact ⟨by rw [← HRES.out]; simp [d1, d2], HFR.out⟩
      · have ez : decide ((s.size : Int) ≤ 64) = false := by simp; omega
        obtain rfl : q9 = false := by rw [← hq9]; exact ez
        clear hq9 hz
        by_cases g1 : op < 1
        · have d1 : decide (op < 1) = true := by simp [g1]
          clear g1
          go_wp2_with fail
          go_ret
          exact ⟨by rw [← HRES.out]; simp [d1], HFR.out⟩
        have d1 : decide (op < 1) = false := by simp [g1]
        by_cases g2 : 15 < op
        · have d2 : decide (15 < op) = true := by simp [g2]
          clear g1 g2
          go_wp2_with fail
          go_ret
          exact ⟨by rw [← HRES.out]; simp [d1, d2], HFR.out⟩
        have d2 : decide (15 < op) = false := by simp [g2]
        clear g1 g2
        cases ra
        · skip
          go_wp2_with fail
          refine Calls.mono (HA.out _) ?_
          rintro e wx ⟨rfl, rfl⟩
          go_wp2_with fail
          go_ret
          exact ⟨by rw [← HRES.out]; simp [d1, d2], HFR.out⟩
        cases rb
        · skip
          go_wp2_with fail
          refine Calls.mono (HA.out _) ?_
          rintro e wx ⟨rfl, rfl⟩
          go_wp2_with fail
          refine Calls.mono (HB.out _) ?_
          rintro e wx ⟨rfl, rfl⟩
          go_wp2_with fail
          go_ret
          exact ⟨by rw [← HRES.out]; simp [d1, d2], HFR.out⟩
        cases rc
        · skip
          go_wp2_with fail
          refine Calls.mono (HA.out _) ?_
          rintro e wx ⟨rfl, rfl⟩
          go_wp2_with fail
          refine Calls.mono (HB.out _) ?_
          rintro e wx ⟨rfl, rfl⟩
          go_wp2_with fail
          refine Calls.mono (HC.out _) ?_
          rintro e wx ⟨rfl, rfl⟩
          go_wp2_with fail
          go_ret
          exact ⟨by rw [← HRES.out]; simp [d1, d2], HFR.out⟩
        cases q8
        · skip
          go_wp2_with fail
          refine Calls.mono (HA.out _) ?_
          rintro e wx ⟨rfl, rfl⟩
          go_wp2_with fail
          refine Calls.mono (HB.out _) ?_
          rintro e wx ⟨rfl, rfl⟩
          go_wp2_with fail
          refine Calls.mono (HC.out _) ?_
          rintro e wx ⟨rfl, rfl⟩
          go_wp2_with fail
          go_ret
          exact ⟨by rw [← HRES.out]; simp [d1, d2], HFR.out⟩
        · skip
          go_wp2_with fail
          refine Calls.mono (HA.out _) ?_
          rintro e wx ⟨rfl, rfl⟩
          go_wp2_with fail
          refine Calls.mono (HB.out _) ?_
          rintro e wx ⟨rfl, rfl⟩
          go_wp2_with fail
          refine Calls.mono (HC.out _) ?_
          rintro e wx ⟨rfl, rfl⟩
          go_wp2_with fail
          go_ret
          exact ⟨by rw [← HRES.out]; simp [d1, d2], HFR.out⟩
end Go.Proofs.YtojgikaoiegmpaaGreatDoor
