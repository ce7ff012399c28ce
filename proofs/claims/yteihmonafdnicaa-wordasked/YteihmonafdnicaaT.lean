/- The reader's methods Int, Count, At, Left, Fault, End. -/
import Derived.Test.YteihmonafdnicaaS
namespace Go.Proofs.Yteihmonafdnicaa
open Go.RowKit Go.IntWalk
set_option linter.unusedSimpArgs false
set_option linter.unusedVariables false

/-- The world in which Int's step is handed to do. -/
def rboxes (w : World) (p : Nat) (low high : Int) : World := (((w.alloc (.cells #[.pointer (some ⟨p, 0, none⟩)] 47)).alloc (.cells #[.int .i64 low] 3)).alloc (.cells #[.int .i64 high] 3)).alloc (.cells #[.int .i64 0] 3)
theorem rboxes_size (w : World) (p : Nat) (low high : Int) : (rboxes w p low high).heap.size = w.heap.size + 4 := by simp [rboxes]
theorem Fr.rboxes (w : World) (p : Nat) (low high : Int) (S : Nat → Prop) : Fr S w (Go.Proofs.Yteihmonafdnicaa.rboxes w p low high) := ((((Fr.refl S w).alloc _).alloc _).alloc _).alloc _

theorem heap_new {w : World} {o : Obj} {k : Nat} (hk : k = w.heap.size) : (w.alloc o).heap[k]? = some o := by subst hk; exact heap_alloc_new w o
theorem heap_old {w : World} {o o' : Obj} {k : Nat} (h : w.heap[k]? = some o') : (w.alloc o).heap[k]? = some o' := (Below.heap_alloc w o k (Array.getElem?_eq_some_iff.1 h).1).trans h

theorem rboxes_get (w : World) (p : Nat) (low high : Int) :
    (rboxes w p low high).heap[w.heap.size]? = some (.cells #[.pointer (some ⟨p, 0, none⟩)] 47 (0, 0)) ∧ (rboxes w p low high).heap[w.heap.size + 1]? = some (.cells #[.int .i64 low] 3 (0, 0)) ∧
    (rboxes w p low high).heap[w.heap.size + 1 + 1]? = some (.cells #[.int .i64 high] 3 (0, 0)) ∧ (rboxes w p low high).heap[w.heap.size + 1 + 1 + 1]? = some (.cells #[.int .i64 0] 3 (0, 0)) :=
  ⟨heap_old (heap_old (heap_old (heap_new rfl))), heap_old (heap_old (heap_new (by simp))), heap_old (heap_new (by simp)), heap_new (by simp)⟩

theorem cellOfHeap {w : World} {g : Nat} {cs : Array Value} {T : TypeId} (h : w.heap[g]? = some (.cells cs T (0, 0))) (i : Nat) {v : Value} (hv : cs[i]? = some v) : w.cell? ⟨g, i, none⟩ = some v := (cell_of_row w g i _ _ _ h).trans hv

theorem rint_via (p t : Nat) (low high v : Int) (w : World) (R : World → Prop) (hc : w.cell? ⟨p, 0, none⟩ = some (.pointer (some ⟨t, 0, none⟩))) (hpl : p < w.heap.size)
    (hdo : Calls Try.prog 52 #[.pointer (some ⟨t, 0, none⟩), .func (.func 53) #[] #[.pointer (some ⟨w.heap.size, 0, none⟩), .pointer (some ⟨w.heap.size + 1, 0, none⟩), .pointer (some ⟨w.heap.size + 1 + 1, 0, none⟩), .pointer (some ⟨w.heap.size + 1 + 1 + 1, 0, none⟩)]] (rboxes w p low high)
      fun e w' => e = .returned (.tuple #[]) ∧ w'.heap[w.heap.size + 1 + 1 + 1]? = some (.cells #[.int .i64 v] 3 (0, 0)) ∧ R w') :
    Calls Try.prog 24 #[.pointer (some ⟨p, 0, none⟩), .int .i64 low, .int .i64 high] w fun e w' => e = .returned (.int .i64 v) ∧ R w' := by
  have hmf : ∀ (fn : Fn) (first cap : Array Value) (w : World), (Instr.makeFunc fn first cap).run Try.prog w = .ok (.func fn first cap) w := fun _ _ _ _ => rfl
  have HD := hideIt hdo
  have hc4 := fun o1 o2 o3 o4 => cellA (cellA (cellA (cellA hc o1) o2) o3) o4
  clear hdo
  go_enter Try.func24, Try.ntmps24
  go_wp2_with (go_at_call 51; refine (rnone_some p t _ (cellA (cellA (cellA hc _) _) _)).mono ?_; rintro e w' ⟨rfl, rfl⟩)
  refine Calls.mono HD.out ?_
  rintro e w' ⟨rfl, hv, hr⟩
  have HR := hideIt hr
  have hcv := cellOfHeap hv 0 rfl
  clear hr hv
  go_wp2_with fail
  go_ret
  exact ⟨rfl, HR.out⟩

/-- What Int tells, and the state behind it: the place, the fault. -/
def rInt (bs : List UInt8) (low high : Int) (s : Nat × Int × Int) : Int × (Nat × Int × Int) :=
  if s.2.1 ≠ 0 then (0, s) else match rdNum bs s.1 low high 5 with
    | .inl (e, a) => (0, (s.1, e, a))
    | .inr (n, m) => (n, (m, 0, s.2.2))

/-- A reader, by its place and its fault. -/
def ROk (w : World) (p t : Nat) (ao : Option Addr) (cap : Nat) (bs : List UInt8) (s : Nat × Int × Int) : Prop := RAt w p t ao cap bs s.1 s.2.1 s.2.2 ∧ s.1 ≤ bs.length

theorem rdNum_le {bs : List UInt8} {at_ n m : Nat} {low high above : Int} (h : rdNum bs at_ low high above = .inr (n, m)) (hat : at_ ≤ bs.length) : m ≤ bs.length := by
  unfold rdNum at h
  split at h
  · cases h
  · cases h
  · cases h
  · rename_i n' k' hx
    have := scan_ok hx hat
    split at h
    · cases h
    · split at h
      · cases h
      · simp at h; omega

theorem rint_any (p t : Nat) (ao : Option Addr) (cap : Nat) (bs : List UInt8) (s : Nat × Int × Int) (low high : Int) (w : World) (h : ROk w p t ao cap bs s) (hb : bs.length ≤ 140737488355328) :
    Calls Try.prog 24 #[.pointer (some ⟨p, 0, none⟩), .int .i64 low, .int .i64 high] w fun e w' => e = .returned (.int .i64 (rInt bs low high s).1) ∧ ROk w' p t ao cap bs (rInt bs low high s).2 ∧ Fr (fun k => k = t) w w' := by
  obtain ⟨at_, er, ea⟩ := s
  obtain ⟨hR, hat⟩ := h
  simp only at hR hat
  obtain ⟨g0, g1, g2, g3⟩ := rboxes_get w p low high
  have hsz := rboxes_size w p low high
  have hB : RAt (rboxes w p low high) p t ao cap bs at_ er ea := hR.fr (Fr.rboxes w p low high (fun _ => False)) (fun e => e) (fun _ _ e => e)
  have hlt := hR.lt
  have hd : w.heap.size + 1 + 1 + 1 < (rboxes w p low high).heap.size := by omega
  have hdt : ¬ wset t ao (w.heap.size + 1 + 1 + 1) := fun e => by have := hR.setlt e; omega
  have hB2 : RAt (boxed (rboxes w p low high) t).drew p t ao cap bs at_ er ea := hB.fr (Fr.boxed _ t (fun _ => False)) (fun e => e) (fun _ _ e => e)
  have hbx : ∀ k, k < (rboxes w p low high).heap.size → (boxed (rboxes w p low high) t).drew.heap[k]? = (rboxes w p low high).heap[k]? := fun k hk => (Fr.boxed _ t (fun _ => False)).block k hk (fun e => e)
  have hfin : ∀ w' : World, Fr (fun k => k = t ∨ k = w.heap.size + 1 + 1 + 1) (rboxes w p low high) w' → Fr (fun k => k = t) w w' := fun w' hF =>
    (Fr.rboxes w p low high _).trans hF (fun i hi e => e.resolve_right (by omega))
  by_cases her : er = 0
  · subst her
    cases hr : rdNum bs at_ low high 5 with
    | inl ea0 =>
      obtain ⟨e0, a0⟩ := ea0
      rw [show rInt bs low high (at_, 0, ea) = (0, (at_, e0, a0)) by simp [rInt, hr]]
      refine rint_via p t low high 0 w (fun w' => ROk w' p t ao cap bs (at_, e0, a0) ∧ Fr (fun k => k = t) w w') hR.c hlt ?_
      refine (rdo_bad (d := w.heap.size + 1 + 1 + 1) 53 _ e0 a0 hB hd hdt (fun _ => by kernel_rfl) (rint1_bad p t _ _ _ _ ao cap bs at_ 0 ea low high e0 a0 _ hB2 hb hat
        (cellOfHeap ((hbx _ (by omega)).trans g0) 0 rfl) (cellOfHeap ((hbx _ (by omega)).trans g1) 0 rfl) (cellOfHeap ((hbx _ (by omega)).trans g2) 0 rfl) hr)).mono ?_
      rintro e w' ⟨rfl, h1, h2, h3⟩
      exact ⟨rfl, h1.trans g3, ⟨h2, hat⟩, hfin w' h3⟩
    | inr nm =>
      obtain ⟨n, m⟩ := nm
      rw [show rInt bs low high (at_, 0, ea) = ((n : Int), (m, 0, ea)) by simp [rInt, hr]]
      refine rint_via p t low high n w (fun w' => ROk w' p t ao cap bs (m, 0, ea) ∧ Fr (fun k => k = t) w w') hR.c hlt ?_
      refine (rdo_ok (d := w.heap.size + 1 + 1 + 1) 53 _ _ m hB hd hdt (by omega) (fun _ => by kernel_rfl) (rint1_ok p t _ _ _ _ ao cap bs at_ 0 ea low high 0 n m _ hB2 hb hat
        (cellOfHeap ((hbx _ (by omega)).trans g0) 0 rfl) (cellOfHeap ((hbx _ (by omega)).trans g1) 0 rfl) (cellOfHeap ((hbx _ (by omega)).trans g2) 0 rfl) ((hbx _ (by omega)).trans g3) hr)).mono ?_
      rintro e w' ⟨rfl, h1, h2, h3⟩
      exact ⟨rfl, h1, ⟨h2, rdNum_le hr hat⟩, hfin w' h3⟩
  · rw [show rInt bs low high (at_, er, ea) = (0, (at_, er, ea)) by simp [rInt, her]]
    refine rint_via p t low high 0 w (fun w' => ROk w' p t ao cap bs (at_, er, ea) ∧ Fr (fun k => k = t) w w') hR.c hlt ?_
    refine (rdo_shut (d := w.heap.size + 1 + 1 + 1) _ hB (by simpa using her) hd).mono ?_
    rintro e w' ⟨rfl, h1, h2, h3⟩
    exact ⟨rfl, h1.trans g3, ⟨h2, hat⟩, hfin w' h3⟩

theorem rat_any (p t : Nat) (ao : Option Addr) (cap : Nat) (bs : List UInt8) (s : Nat × Int × Int) (w : World) (h : ROk w p t ao cap bs s) : Calls Try.prog 32 #[.pointer (some ⟨p, 0, none⟩)] w fun e w' => e = .returned (.int .i64 s.1) ∧ w' = w := by
  have hc := h.1.c
  have h1 := h.1.tp.c1
  go_enter Try.func32, Try.ntmps32
  go_wp2_with (go_at_call 51; refine (rnone_some p t _ hc).mono ?_; rintro e w' ⟨rfl, rfl⟩)
  go_ret
  exact ⟨rfl, rfl⟩

theorem rleft_any (p t : Nat) (ao : Option Addr) (cap : Nat) (bs : List UInt8) (s : Nat × Int × Int) (w : World) (h : ROk w p t ao cap bs s) (hb : bs.length ≤ 140737488355328) : Calls Try.prog 33 #[.pointer (some ⟨p, 0, none⟩)] w fun e w' => e = .returned (.int .i64 ((bs.length : Int) - s.1)) ∧ ∃ k, w' = w.drewN k := by
  obtain ⟨at_, er, ea⟩ := s
  obtain ⟨hR, hat⟩ := h
  have hc := hR.c
  have h0 := hR.tp.c0
  have h1 := hR.tp.c1
  simp only at h1 hat ⊢
  go_enter Try.func33, Try.ntmps33
  go_wp2_with (go_at_call 51; refine (rnone_some p t _ hc).mono ?_; rintro e w' ⟨rfl, rfl⟩)
  go_quiet (fail)
  go_wp2
  go_ret
  exact ⟨rfl, _, rfl⟩

theorem rfault_any (p t : Nat) (ao : Option Addr) (cap : Nat) (bs : List UInt8) (s : Nat × Int × Int) (w : World) (h : ROk w p t ao cap bs s) : Calls Try.prog 35 #[.pointer (some ⟨p, 0, none⟩)] w fun e w' => e = .returned (.agg #[.int .i64 s.2.1, .int .i64 s.2.2]) ∧ Fr (fun _ => False) w w' := by
  obtain ⟨at_, er, ea⟩ := s
  obtain ⟨hR, hat⟩ := h
  have hc := hR.c
  have h2 := hR.tp.c2
  have h3 := hR.tp.c3
  have hpl := hR.lt
  have htl := hR.tp.lt
  simp only at h2 h3 ⊢
  go_enter Try.func35, Try.ntmps35
  go_wp2_with (go_at_call 51; refine (rnone_some p t _ (cellA hc _)).mono ?_; rintro e w' ⟨rfl, rfl⟩)
  exact bodyPost_ret (v := .agg #[.int .i64 er, .int .i64 ea]) (by simp [results, Try.results35, go_sem]) rfl ⟨rfl, (Fr.refl _ _).alloc _⟩

end Go.Proofs.Yteihmonafdnicaa
