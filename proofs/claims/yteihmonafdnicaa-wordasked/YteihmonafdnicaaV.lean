/- The writer's methods, by what they leave of it. -/
import Derived.Test.YteihmonafdnicaaW
namespace Go.Proofs.Yteihmonafdnicaa
open Go.RowKit Go.IntWalk
set_option linter.unusedSimpArgs false
set_option linter.unusedVariables false

theorem stepEnd_of {S : Nat → Prop} {w2 w' : World} {t : Nat} {ao : Option Addr} {cap : Nat} {bs : List UInt8} {at_ er ea : Int} {e : Ending} (hT : TapeAt w' t ao cap bs at_ er ea) (hF : Fr S (boxed w2 t).drew w') (hS : ¬ S w2.heap.size) (hlt : t < w2.heap.size)
    (he : (∃ n, e = .returned (.int .i64 n)) ∨ ∃ er a, e = .panicked (gu er a)) : StepEnd w2.heap.size t e w' := by
  have hsz : (boxed w2 t).drew.heap.size = w2.heap.size + 1 := by simp [boxed]
  have hb : (boxed w2 t).drew.heap[w2.heap.size]? = some (.cells #[.pointer (some ⟨t, 0, none⟩)] 70 (0, 0)) := heap_alloc_new w2 _
  have hb' := (hF.block w2.heap.size (by rw [hsz]; omega) hS).trans hb
  refine ⟨by rw [cell_of_row w' _ 0 _ _ _ hb']; rfl, ⟨_, _, _, hT.c1, hT.c2, hT.c3⟩, hT.fz 1, hT.fz 2, hT.fz 3, ?_, hlt, he⟩
  have := hF.size
  omega

/-- A writer, by what it has written, and whether a number below 0 was among it. -/
def WOk (w : World) (p t : Nat) (ao : Option Addr) (cap : Nat) (s : List UInt8 × Bool) : Prop := ∃ at_ ea, WAt w p t ao cap s.1 at_ (if s.2 then 5 else 0) ea

def wInt (n : Int) (s : List UInt8 × Bool) : List UInt8 × Bool := if s.2 then s else if n < 0 then (s.1, true) else (s.1 ++ sevens n.toNat, false)
def wText (x : List UInt8) (s : List UInt8 × Bool) : List UInt8 × Bool := if s.2 then s else (s.1 ++ (sevens x.length ++ x), false)
def wID (x : List UInt8) (s : List UInt8 × Bool) : List UInt8 × Bool := if s.2 then s else (s.1 ++ x, false)

theorem new_any (w : World) : Calls Try.prog 7 #[] w fun e w' => e = .returned (.pointer (some ⟨w.heap.size + 1, 0, none⟩)) ∧ WOk w' (w.heap.size + 1) w.heap.size none 0 ([], false) ∧ Fr (fun _ => False) w w' ∧ w'.heap.size = w.heap.size + 2 := by
  go_enter Try.func7, Try.ntmps7
  go_wp2
  go_ret
  refine ⟨rfl, ⟨0, 0, ⟨?_, ?_, World.ownsRow_nil _ _ _ _⟩⟩, ((Fr.refl _ _).alloc _).alloc _, by simp⟩
  · exact heap_alloc2_new w _ _
  · exact heap_alloc2_old w _ _

theorem wint1_neg (p t a b : Nat) (ao : Option Addr) (cap : Nat) (bs : List UInt8) (at_ er ea n : Int) (w : World) (h : WAt w p t ao cap bs at_ er ea) (hneg : n < 0)
    (ha : w.cell? ⟨a, 0, none⟩ = some (.pointer (some ⟨p, 0, none⟩))) (hbn : w.cell? ⟨b, 0, none⟩ = some (.int .i64 n)) :
    Calls Try.prog 63 #[.pointer (some ⟨a, 0, none⟩), .pointer (some ⟨b, 0, none⟩)] w fun e w' => e = .panicked (gu 5 at_) ∧ ∃ k, w' = w.drewN k := by
  go_enter Try.func63, Try.ntmps63
  go_wp2_with (go_at_call 64; refine (number_neg p t ao cap bs at_ er ea n w h hneg).mono ?_; rintro e w' ⟨rfl, k, rfl⟩)
  exact ⟨rfl, rfl, k, rfl⟩

theorem wint1_nat (p t a b : Nat) (ao : Option Addr) (cap : Nat) (bs : List UInt8) (at_ er ea : Int) (n : Nat) (w : World) (h : WAt w p t ao cap bs at_ er ea) (hn : n ≤ 9223372036854775807) (hb : bs.length + 20 ≤ 140737488355328)
    (ha : w.cell? ⟨a, 0, none⟩ = some (.pointer (some ⟨p, 0, none⟩))) (hbn : w.cell? ⟨b, 0, none⟩ = some (.int .i64 n)) (hS : ¬ wset t ao a) (hal : a < w.heap.size) :
    Calls Try.prog 63 #[.pointer (some ⟨a, 0, none⟩), .pointer (some ⟨b, 0, none⟩)] w fun e w' =>
      e = .returned (.int .i64 (bs ++ sevens n).length) ∧ ∃ ao' cap', WAt w' p t ao' cap' (bs ++ sevens n) at_ er ea ∧ Fr (wset t ao) w w' ∧ (ao' = ao ∨ ∀ k, blk ao' k → w.heap.size ≤ k) := by
  have HN := number_nat p t ao cap bs at_ er ea n w h hn hb
  generalize bs ++ sevens n = cs at HN ⊢
  go_enter Try.func63, Try.ntmps63
  go_wp2_with fail
  refine HN.mono ?_
  rintro e w' ⟨rfl, ao', cap', hW', hF, hao⟩
  have ha' : w'.cell? ⟨a, 0, none⟩ = _ := (World.cell?_of_block (a := ⟨a, 0, none⟩) (hF.block a hal hS)).trans ha
  have hc := hW'.c
  have h0 := hW'.tp.c0
  clear hbn HN
  go_wp2_with fail
  go_ret
  exact ⟨rfl, ao', cap', hW', hF, hao⟩

/-- A variable that holds a writer, and one that holds what is to be written, and the one of do: the writer stands as it did. -/
theorem WAt.boxes {w : World} {p t : Nat} {ao : Option Addr} {cap : Nat} {bs : List UInt8} {at_ er ea : Int} (h : WAt w p t ao cap bs at_ er ea) (o1 o2 : Obj) : WAt (boxed ((w.alloc o1).alloc o2) t).drew p t ao cap bs at_ er ea :=
  h.fr ((((Fr.refl (fun _ => False) w).alloc o1).alloc o2).alloc _).drew (fun e => e) (fun _ _ e => e)

/-- What a call of a writer leaves of it. -/
def WPost (w : World) (p t : Nat) (ao : Option Addr) (s : List UInt8 × Bool) (w' : World) : Prop :=
  ∃ ao' cap', WOk w' p t ao' cap' s ∧ Fr (wset t ao) w w' ∧ (ao' = ao ∨ ∀ k, blk ao' k → w.heap.size ≤ k)

/-- The world in which a writer's step is handed to do. -/
def wboxes (w : World) (p : Nat) (o : Obj) : World := (w.alloc (.cells #[.pointer (some ⟨p, 0, none⟩)] 23)).alloc o

theorem wint_via (p t : Nat) (n : Int) (w : World) (R : World → Prop) (hc : w.cell? ⟨p, 0, none⟩ = some (.pointer (some ⟨t, 0, none⟩))) (hpl : p < w.heap.size)
    (hdo : Calls Try.prog 52 #[.pointer (some ⟨t, 0, none⟩), .func (.func 63) #[] #[.pointer (some ⟨w.heap.size, 0, none⟩), .pointer (some ⟨w.heap.size + 1, 0, none⟩)]] (wboxes w p (.cells #[.int .i64 n] 3)) fun e w' => e = .returned (.tuple #[]) ∧ R w') :
    Calls Try.prog 44 #[.pointer (some ⟨p, 0, none⟩), .int .i64 n] w fun e w' => e = .returned (.tuple #[]) ∧ R w' := by
  have hmf : ∀ (fn : Fn) (first cap : Array Value) (w : World), (Instr.makeFunc fn first cap).run Try.prog w = .ok (.func fn first cap) w := fun _ _ _ _ => rfl
  have HD := hideIt hdo
  clear hdo
  go_enter Try.func44, Try.ntmps44
  go_wp2_with (go_at_call 49; refine (wnone_some p t _ ?_).mono ?_; go_simp; rintro e w' ⟨rfl, rfl⟩)
  refine Calls.mono HD.out ?_
  rintro e w' ⟨rfl, hr⟩
  have HR := hideIt hr
  clear hr
  go_wp2_with fail
  go_end0
  exact ⟨rfl, HR.out⟩

theorem wtext_via (p t : Nat) (x : ByteArray) (w : World) (R : World → Prop) (hc : w.cell? ⟨p, 0, none⟩ = some (.pointer (some ⟨t, 0, none⟩))) (hpl : p < w.heap.size)
    (hdo : Calls Try.prog 52 #[.pointer (some ⟨t, 0, none⟩), .func (.func 65) #[] #[.pointer (some ⟨w.heap.size, 0, none⟩), .pointer (some ⟨w.heap.size + 1, 0, none⟩)]] (wboxes w p (.cells #[.string x] 9)) fun e w' => e = .returned (.tuple #[]) ∧ R w') :
    Calls Try.prog 45 #[.pointer (some ⟨p, 0, none⟩), .string x] w fun e w' => e = .returned (.tuple #[]) ∧ R w' := by
  have hmf : ∀ (fn : Fn) (first cap : Array Value) (w : World), (Instr.makeFunc fn first cap).run Try.prog w = .ok (.func fn first cap) w := fun _ _ _ _ => rfl
  have HD := hideIt hdo
  clear hdo
  go_enter Try.func45, Try.ntmps45
  go_wp2_with (go_at_call 49; refine (wnone_some p t _ ?_).mono ?_; go_simp; rintro e w' ⟨rfl, rfl⟩)
  refine Calls.mono HD.out ?_
  rintro e w' ⟨rfl, hr⟩
  have HR := hideIt hr
  clear hr
  go_wp2_with fail
  go_end0
  exact ⟨rfl, HR.out⟩

theorem WAt.inBoxes {w : World} {p t : Nat} {ao : Option Addr} {cap : Nat} {bs : List UInt8} {at_ er ea : Int} (h : WAt w p t ao cap bs at_ er ea) (o : Obj) : WAt (wboxes w p o) p t ao cap bs at_ er ea :=
  h.fr (((Fr.refl (fun _ => False) w).alloc _).alloc _) (fun e => e) (fun _ _ e => e)

theorem TapeAt.moved {w : World} {t : Nat} {ao : Option Addr} {cap : Nat} {bs : List UInt8} {at_ er ea : Int} (h : TapeAt w t ao cap bs at_ er ea) (n : Int) : TapeAt (w.setCell ⟨t, 1, none⟩ (.int .i64 n)) t ao cap bs n er ea := by
  refine ⟨?_, h.row.keep fun k _ e => heap_setCell_other _ _ _ _ (fun e' => h.apart (by subst e'; exact e))⟩
  rw [heap_setCell_same _ _ _ _ _ _ h.blk]; rfl

theorem TapeAt.faulted {w : World} {t : Nat} {ao : Option Addr} {cap : Nat} {bs : List UInt8} {at_ er ea : Int} (h : TapeAt w t ao cap bs at_ er ea) (e a : Int) (o : Obj) : TapeAt (((w.setCell ⟨t, 2, none⟩ (.int .i64 e)).setCell ⟨t, 3, none⟩ (.int .i64 a)).alloc o) t ao cap bs at_ e a := by
  have h1 : TapeAt (w.setCell ⟨t, 2, none⟩ (.int .i64 e)) t ao cap bs at_ e ea := by
    refine ⟨?_, h.row.keep fun k _ e => heap_setCell_other _ _ _ _ (fun e' => h.apart (by subst e'; exact e))⟩
    rw [heap_setCell_same _ _ _ _ _ _ h.blk]; rfl
  have h2 : TapeAt ((w.setCell ⟨t, 2, none⟩ (.int .i64 e)).setCell ⟨t, 3, none⟩ (.int .i64 a)) t ao cap bs at_ e a := by
    refine ⟨?_, h1.row.keep fun k _ e => heap_setCell_other _ _ _ _ (fun e' => h.apart (by subst e'; exact e))⟩
    rw [heap_setCell_same _ _ _ _ _ _ h1.blk]; rfl
  exact h2.fr ((Fr.refl (fun _ => False) _).alloc o) (fun _ _ e => e)

theorem Fr.moved (w : World) (t : Nat) (v : Value) : Fr (fun k => k = t) w (w.setCell ⟨t, 1, none⟩ v) := (Fr.refl (fun k => k = t) w).setCell (fun _ => rfl) _
theorem Fr.faulted (w : World) (t : Nat) (u v : Value) (o : Obj) : Fr (fun k => k = t) w (((w.setCell ⟨t, 2, none⟩ u).setCell ⟨t, 3, none⟩ v).alloc o) := (((Fr.refl (fun k => k = t) w).setCell (fun _ => rfl) _).setCell (fun _ => rfl) _).alloc o

theorem WAt.moved {w : World} {p t : Nat} {ao : Option Addr} {cap : Nat} {bs : List UInt8} {at_ er ea : Int} (h : WAt w p t ao cap bs at_ er ea) (n : Int) : WAt (w.setCell ⟨t, 1, none⟩ (.int .i64 n)) p t ao cap bs n er ea :=
  ⟨((Fr.moved w t _).block p h.lt h.ne).trans h.box, h.tp.moved n⟩
theorem WAt.faulted {w : World} {p t : Nat} {ao : Option Addr} {cap : Nat} {bs : List UInt8} {at_ er ea : Int} (h : WAt w p t ao cap bs at_ er ea) (e a : Int) (o : Obj) : WAt (((w.setCell ⟨t, 2, none⟩ (.int .i64 e)).setCell ⟨t, 3, none⟩ (.int .i64 a)).alloc o) p t ao cap bs at_ e a :=
  ⟨((Fr.faulted w t _ _ o).block p h.lt h.ne).trans h.box, h.tp.faulted e a o⟩

theorem wboxes_size (w : World) (p : Nat) (o : Obj) : (wboxes w p o).heap.size = w.heap.size + 2 := by simp [wboxes]
theorem boxed_size (w : World) (t : Nat) : (boxed w t).drew.heap.size = w.heap.size + 1 := by simp [boxed]
theorem Fr.wboxes (w : World) (p : Nat) (o : Obj) (S : Nat → Prop) : Fr S w (Go.Proofs.Yteihmonafdnicaa.wboxes w p o) := ((Fr.refl S w).alloc _).alloc _
theorem Fr.boxed (w : World) (t : Nat) (S : Nat → Prop) : Fr S w (Go.Proofs.Yteihmonafdnicaa.boxed w t).drew := ((Fr.refl S w).alloc _).drew

theorem cell_box1 (w : World) (p : Nat) (o : Obj) (t : Nat) : (boxed (wboxes w p o) t).drew.cell? ⟨w.heap.size, 0, none⟩ = some (.pointer (some ⟨p, 0, none⟩)) := by
  show (((w.alloc _).alloc _).alloc _).cell? _ = _
  rw [World.cell?_alloc_past _ _ _ (by simp; omega), World.cell?_alloc_past _ _ _ (by simp), World.cell?_alloc_at _ _ _ _ rfl]
  rfl

theorem cell_box2 (w : World) (p : Nat) (cs : Array Value) (T : TypeId) (t i : Nat) : (boxed (wboxes w p (.cells cs T)) t).drew.cell? ⟨w.heap.size + 1, i, none⟩ = cs[i]? := by
  show (((w.alloc _).alloc _).alloc _).cell? _ = _
  rw [World.cell?_alloc_past _ _ _ (by simp), World.cell?_alloc_at _ _ _ _ (by simp)]

/-- do over a writer's step that goes well. -/
theorem wdo_ok (f p t : Nat) (o : Obj) (ao : Option Addr) (cap : Nat) (bs cs : List UInt8) (at_ ea : Int) (w : World) (h : WAt w p t ao cap bs at_ 0 ea)
    (hcf : ∀ w' : World, (callFunc f #[.pointer (some ⟨w.heap.size, 0, none⟩), .pointer (some ⟨w.heap.size + 1, 0, none⟩)]).run Try.prog w' = .ok (.enter f #[.pointer (some ⟨w.heap.size, 0, none⟩), .pointer (some ⟨w.heap.size + 1, 0, none⟩)]) w')
    (hstep : Calls Try.prog f #[.pointer (some ⟨w.heap.size, 0, none⟩), .pointer (some ⟨w.heap.size + 1, 0, none⟩)] (boxed (wboxes w p o) t).drew fun e w' =>
      e = .returned (.int .i64 cs.length) ∧ ∃ ao' cap', WAt w' p t ao' cap' cs at_ 0 ea ∧ Fr (wset t ao) (boxed (wboxes w p o) t).drew w' ∧ (ao' = ao ∨ ∀ k, blk ao' k → (boxed (wboxes w p o) t).drew.heap.size ≤ k)) :
    Calls Try.prog 52 #[.pointer (some ⟨t, 0, none⟩), .func (.func f) #[] #[.pointer (some ⟨w.heap.size, 0, none⟩), .pointer (some ⟨w.heap.size + 1, 0, none⟩)]] (wboxes w p o) fun e w' => e = .returned (.tuple #[]) ∧ WPost w p t ao (cs, false) w' := by
  have hb := h.inBoxes o
  have hlt := h.tp.lt
  have hplt := h.lt
  have hrlt : ∀ k, blk ao k → k < w.heap.size := fun k e => h.tp.row.lt e
  refine do_step t f _ (wboxes w p o) _ _ hb.tp.c2 hb.tp.lt hcf hstep ?_ ?_ ?_
  · rintro e w' ⟨rfl, ao', cap', hW, hF, hao⟩
    refine stepEnd_of hW.tp hF ?_ hb.tp.lt (Or.inl ⟨_, rfl⟩)
    rw [wboxes_size]
    rintro (e | e)
    · omega
    · have := hrlt _ e; omega
  · rintro n w2 ⟨he, ao', cap', hW, hF, hao⟩
    obtain rfl : n = cs.length := by simpa using he
    refine ⟨rfl, ao', cap', ⟨_, _, hW.moved _⟩, ?_, ?_⟩
    · refine (((Fr.wboxes w p o _).trans (Fr.boxed _ t (fun _ => False)) (fun _ _ e => e.elim)).trans hF (fun _ _ e => e)).trans (Fr.moved _ t _) (fun i _ e => Or.inl e)
    · rcases hao with e | hao
      · exact Or.inl e
      · exact Or.inr fun k hk => by have := hao k hk; rw [boxed_size, wboxes_size] at this; omega
  · rintro er a w2 ⟨he, _⟩
    cases he

/-- do over a writer's step that gives up. -/
theorem wdo_bad (f p t : Nat) (o : Obj) (ao : Option Addr) (cap : Nat) (bs : List UInt8) (at_ ea : Int) (w : World) (h : WAt w p t ao cap bs at_ 0 ea)
    (hcf : ∀ w' : World, (callFunc f #[.pointer (some ⟨w.heap.size, 0, none⟩), .pointer (some ⟨w.heap.size + 1, 0, none⟩)]).run Try.prog w' = .ok (.enter f #[.pointer (some ⟨w.heap.size, 0, none⟩), .pointer (some ⟨w.heap.size + 1, 0, none⟩)]) w')
    (hstep : Calls Try.prog f #[.pointer (some ⟨w.heap.size, 0, none⟩), .pointer (some ⟨w.heap.size + 1, 0, none⟩)] (boxed (wboxes w p o) t).drew fun e w' => e = .panicked (gu 5 at_) ∧ ∃ k, w' = (boxed (wboxes w p o) t).drew.drewN k) :
    Calls Try.prog 52 #[.pointer (some ⟨t, 0, none⟩), .func (.func f) #[] #[.pointer (some ⟨w.heap.size, 0, none⟩), .pointer (some ⟨w.heap.size + 1, 0, none⟩)]] (wboxes w p o) fun e w' => e = .returned (.tuple #[]) ∧ WPost w p t ao (bs, true) w' := by
  have hb := h.inBoxes o
  have hF0 : ∀ (k : Nat), Fr (fun _ => False) w ((boxed (wboxes w p o) t).drew.drewN k) := fun k => ((Fr.wboxes w p o _).trans (Fr.boxed _ t (fun _ => False)) (fun _ _ e => e.elim)).drewN k
  have hW : ∀ (k : Nat), WAt ((boxed (wboxes w p o) t).drew.drewN k) p t ao cap bs at_ 0 ea := fun k => h.fr (hF0 k) (fun e => e) (fun _ _ e => e)
  refine do_step t f _ (wboxes w p o) _ _ hb.tp.c2 hb.tp.lt hcf hstep ?_ ?_ ?_
  · rintro e w' ⟨rfl, k, rfl⟩
    exact stepEnd_of (hW k).tp ((Fr.refl (fun _ => False) _).drewN k) (fun e => e) hb.tp.lt (Or.inr ⟨_, _, rfl⟩)
  · rintro n w2 ⟨he, _⟩
    cases he
  · rintro er a w2 ⟨he, k, rfl⟩
    obtain ⟨rfl, rfl⟩ : 5 = er ∧ at_ = a := by simpa [gu, eq_comm] using he
    exact ⟨rfl, ao, cap, ⟨_, _, (hW k).faulted _ _ _⟩, ((hF0 k).mono (fun _ e => e.elim)).trans (Fr.faulted _ t _ _ _) (fun i _ e => Or.inl e), Or.inl rfl⟩

/-- do over a writer that has a fault. -/
theorem wdo_shut (p t : Nat) (fv : Value) (o : Obj) (ao : Option Addr) (cap : Nat) (bs : List UInt8) (at_ ea : Int) (w : World) (h : WAt w p t ao cap bs at_ 5 ea) :
    Calls Try.prog 52 #[.pointer (some ⟨t, 0, none⟩), fv] (wboxes w p o) fun e w' => e = .returned (.tuple #[]) ∧ WPost w p t ao (bs, true) w' := by
  have hb := h.inBoxes o
  refine (do_shut t fv (wboxes w p o) 5 hb.tp.c2 (by decide) hb.tp.lt).mono ?_
  rintro e w' ⟨rfl, rfl⟩
  have hF : Fr (fun _ => False) w (boxed (wboxes w p o) t) := (Fr.wboxes w p o _).alloc _
  exact ⟨rfl, ao, cap, ⟨_, _, h.fr hF (fun e => e) (fun _ _ e => e)⟩, hF.mono (fun _ e => e.elim), Or.inl rfl⟩

theorem wint_any (p t : Nat) (ao : Option Addr) (cap : Nat) (s : List UInt8 × Bool) (n : Int) (w : World) (h : WOk w p t ao cap s) (hn : n ≤ 9223372036854775807) (hb : s.1.length + 20 ≤ 140737488355328) :
    Calls Try.prog 44 #[.pointer (some ⟨p, 0, none⟩), .int .i64 n] w fun e w' => e = .returned (.tuple #[]) ∧ WPost w p t ao (wInt n s) w' := by
  obtain ⟨at_, ea, hW⟩ := h
  obtain ⟨bs, bad⟩ := s
  refine wint_via p t n w _ hW.c hW.lt ?_
  have hlt := hW.tp.lt
  have hrlt : ∀ k, blk ao k → k < w.heap.size := fun k e => hW.tp.row.lt e
  cases bad with
  | true => exact wdo_shut p t _ _ ao cap bs at_ ea w hW
  | false =>
    have hB := hW.boxes (.cells #[.pointer (some ⟨p, 0, none⟩)] 23) (.cells #[.int .i64 n] 3)
    by_cases hneg : n < 0
    · rw [show wInt n (bs, false) = (bs, true) by simp [wInt, hneg]]
      exact wdo_bad 63 p t _ ao cap bs at_ ea w hW (fun _ => by kernel_rfl) (wint1_neg p t _ _ ao cap bs at_ 0 ea n _ hB hneg (cell_box1 w p _ t) (cell_box2 w p _ _ t 0))
    · obtain ⟨m, rfl⟩ : ∃ m : Nat, n = m := ⟨n.toNat, by omega⟩
      rw [show wInt m (bs, false) = (bs ++ sevens m, false) by simp [wInt]]
      refine wdo_ok 63 p t _ ao cap bs _ at_ ea w hW (fun _ => by kernel_rfl) (wint1_nat p t _ _ ao cap bs at_ 0 ea m _ hB (by omega) hb (cell_box1 w p _ t) (cell_box2 w p _ _ t 0) ?_ ?_)
      · rintro (e | e)
        · omega
        · have := hrlt _ e; omega
      · rw [boxed_size, wboxes_size]; omega

end Go.Proofs.Yteihmonafdnicaa
