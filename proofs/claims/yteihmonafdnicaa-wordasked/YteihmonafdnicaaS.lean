/- The reader's methods: numbers, the place, the fault. -/
import Derived.Test.YteihmonafdnicaaR
import Derived.Deep.RegionHeld2
namespace Go.Proofs.Yteihmonafdnicaa
open Go.RowKit Go.IntWalk
set_option linter.unusedSimpArgs false
set_option linter.unusedVariables false

section
variable {w : World} {p t d : Nat} {ao : Option Addr} {cap : Nat} {bs : List UInt8} {at_ er ea : Int}

theorem RAt.apart (h : RAt w p t ao cap bs at_ er ea) : ¬ Go.Proofs.Yteihmonafdnicaa.blk ao p := by
  rintro ⟨a, rfl, hb⟩
  rcases h.tp.row.form with ⟨h0, _⟩ | ⟨g, cur, h0, hh, _⟩
  · cases h0
  · obtain rfl := Option.some.inj h0
    simp only at hb
    subst hb
    have := h.box.symm.trans hh
    simp at this
theorem RAt.pset (h : RAt w p t ao cap bs at_ er ea) : ¬ wset t ao p := by
  rintro (e | e)
  · exact h.ne e
  · exact h.apart e
theorem RAt.setlt (h : RAt w p t ao cap bs at_ er ea) {k : Nat} (hk : wset t ao k) : k < w.heap.size := by
  rcases hk with rfl | e
  · exact h.tp.lt
  · exact h.tp.row.lt e

/-- do over a reader's step that goes well: what it told lies in the block d. -/
theorem rdo_ok (f : Nat) (caps : Array Value) (o : Obj) (n : Int) (h : RAt w p t ao cap bs at_ 0 ea) (hd : d < w.heap.size) (hdt : ¬ wset t ao d) (hdp : d ≠ p)
    (hcf : ∀ w' : World, (callFunc f caps).run Try.prog w' = .ok (.enter f caps) w')
    (hstep : Calls Try.prog f caps (boxed w t).drew fun e w' => e = .returned (.int .i64 n) ∧ w'.heap[d]? = some o ∧ Fr (fun k => k = d) (boxed w t).drew w') :
    Calls Try.prog 52 #[.pointer (some ⟨t, 0, none⟩), .func (.func f) #[] caps] w fun e w' => e = .returned (.tuple #[]) ∧ w'.heap[d]? = some o ∧ RAt w' p t ao cap bs n 0 ea ∧ Fr (fun k => k = t ∨ k = d) w w' := by
  have hb : RAt (boxed w t).drew p t ao cap bs at_ 0 ea := h.fr (Fr.boxed w t (fun _ => False)) (fun e => e) (fun _ _ e => e)
  refine do_step t f caps w _ _ h.tp.c2 h.tp.lt hcf hstep ?_ ?_ ?_
  · rintro e w' ⟨rfl, ho, hF⟩
    have hR := hb.fr hF (fun e => hdp e.symm) (fun k hk e => hdt (by subst e; exact hk))
    exact stepEnd_of hR.tp hF (by omega) h.tp.lt (Or.inl ⟨_, rfl⟩)
  · rintro m w2 ⟨he, ho, hF⟩
    obtain rfl : m = n := by simpa using he
    have hR := hb.fr hF (fun e => hdp e.symm) (fun k hk e => hdt (by subst e; exact hk))
    have hne : d ≠ t := fun e => hdt (Or.inl e)
    refine ⟨rfl, (heap_setCell_other _ _ _ _ hne).trans ho, hR.moved m, ?_⟩
    exact ((Fr.boxed w t (fun k => k = t ∨ k = d)).trans hF (fun i _ e => Or.inr e)).trans (Fr.moved w2 t _) (fun i _ e => Or.inl e)
  · rintro er a w2 ⟨he, _⟩
    cases he

/-- do over a reader's step that gives up. -/
theorem rdo_bad (f : Nat) (caps : Array Value) (e0 a0 : Int) (h : RAt w p t ao cap bs at_ 0 ea) (hd : d < w.heap.size) (hdt : ¬ wset t ao d)
    (hcf : ∀ w' : World, (callFunc f caps).run Try.prog w' = .ok (.enter f caps) w')
    (hstep : Calls Try.prog f caps (boxed w t).drew fun e w' => e = .panicked (gu e0 a0) ∧ ∃ k, w' = (boxed w t).drew.drewN k) :
    Calls Try.prog 52 #[.pointer (some ⟨t, 0, none⟩), .func (.func f) #[] caps] w fun e w' => e = .returned (.tuple #[]) ∧ w'.heap[d]? = w.heap[d]? ∧ RAt w' p t ao cap bs at_ e0 a0 ∧ Fr (fun k => k = t ∨ k = d) w w' := by
  have hF0 : ∀ k, Fr (fun _ => False) w ((boxed w t).drew.drewN k) := fun k => (Fr.boxed w t _).drewN k
  have hb : ∀ k, RAt ((boxed w t).drew.drewN k) p t ao cap bs at_ 0 ea := fun k => h.fr (hF0 k) (fun e => e) (fun _ _ e => e)
  refine do_step t f caps w _ _ h.tp.c2 h.tp.lt hcf hstep ?_ ?_ ?_
  · rintro e w' ⟨rfl, k, rfl⟩
    exact stepEnd_of (hb k).tp ((Fr.refl (fun _ => False) _).drewN k) (fun e => e) h.tp.lt (Or.inr ⟨_, _, rfl⟩)
  · rintro m w2 ⟨he, _⟩
    cases he
  · rintro er a w2 ⟨he, k, rfl⟩
    obtain ⟨rfl, rfl⟩ : e0 = er ∧ a0 = a := by simpa [gu, eq_comm] using he
    have hne : d ≠ t := fun e => hdt (Or.inl e)
    have hfr := ((hF0 k).mono (S' := fun k => k = t) (fun _ e => e.elim)).trans (Fr.faulted ((boxed w t).drew.drewN k) t (.int .i64 e0) (.int .i64 a0) (.cells #[.int .i64 e0, .int .i64 a0] 88)) (fun i _ e => e)
    exact ⟨rfl, hfr.block d hd hne, (hb k).faulted _ _ _, hfr.mono (fun k e => Or.inl e)⟩

theorem rdo_shut (fv : Value) (h : RAt w p t ao cap bs at_ er ea) (her : (er != 0) = true) (hd : d < w.heap.size) :
    Calls Try.prog 52 #[.pointer (some ⟨t, 0, none⟩), fv] w fun e w' => e = .returned (.tuple #[]) ∧ w'.heap[d]? = w.heap[d]? ∧ RAt w' p t ao cap bs at_ er ea ∧ Fr (fun k => k = t ∨ k = d) w w' := by
  refine (do_shut t fv w er h.tp.c2 her h.tp.lt).mono ?_
  rintro e w' ⟨rfl, rfl⟩
  have hF : Fr (fun _ => False) w (boxed w t) := (Fr.refl _ w).alloc _
  exact ⟨rfl, hF.block d hd (fun e => e), h.fr hF (fun e => e) (fun _ _ e => e), hF.mono (fun _ e => e.elim)⟩
end

/-- What stands as a number at a place, held against bounds: the fault, or the number and the place behind it. -/
def rdNum (bs : List UInt8) (at_ : Nat) (low high above : Int) : Sum (Int × Int) (Nat × Nat) :=
  match scan (bs.drop at_) 0 0 with
  | .error 0 => .inl (4, bs.length)
  | .error 1 => .inl (5, at_)
  | .error _ => .inl (4, at_)
  | .ok (n, k) => if (n : Int) < low then .inl (5, at_) else if high < (n : Int) then .inl (above, at_) else .inr (n, at_ + k)

theorem scan_bound (bs : List UInt8) : ∀ (i acc : Nat), i ≤ 8 → acc < 128 ^ i → ∀ n k, scan bs i acc = .ok (n, k) → n < 128 ^ 9 ∧ i < k ∧ k ≤ i + bs.length := by
  induction bs with
  | nil => intro i acc _ _ n k h; simp [scan] at h
  | cons b bs ih =>
    intro i acc hi hacc n k h
    by_cases h1 : 128 ≤ b.toNat ∧ i + 1 = 9
    · rw [scan_big h1] at h; cases h
    by_cases h2 : b.toNat = 0 ∧ 0 < i
    · rw [scan_zero h2] at h; cases h
    have hp := pow_acc acc b.toNat i hacc
    by_cases h3 : b.toNat < 128
    · rw [scan_last h2 h3] at h
      obtain ⟨rfl, rfl⟩ : _ = n ∧ _ = k := by simpa using h
      refine ⟨Nat.lt_of_lt_of_le hp (Nat.pow_le_pow_right (by decide) (by omega)), by omega, by simp⟩
    · rw [scan_more h1 h3] at h
      have := ih (i + 1) _ (by omega) hp n k h
      simp only [List.length_cons]
      omega

theorem scan_ok {bs : List UInt8} {at_ n k : Nat} (h : scan (bs.drop at_) 0 0 = .ok (n, k)) (hat : at_ ≤ bs.length) : n ≤ 9223372036854775807 ∧ 0 < k ∧ at_ + k ≤ bs.length := by
  have := scan_bound (bs.drop at_) 0 0 (by omega) (by simp) n k h
  rw [show (128 : Nat) ^ 9 = 9223372036854775808 by decide, List.length_drop] at this
  omega

/-- The number at a place, as number tells it. -/
theorem rnumber_bad (p t : Nat) (ao : Option Addr) (cap : Nat) (bs : List UInt8) (at_ : Nat) (er ea : Int) (w : World) (h : RAt w p t ao cap bs at_ er ea) (hb : bs.length ≤ 140737488355328) (hat : at_ ≤ bs.length) (x : Nat) (hx : scan (bs.drop at_) 0 0 = .error x) :
    Calls Try.prog 54 #[.pointer (some ⟨p, 0, none⟩)] w fun e w' => (∃ e0 a0, e = .panicked (gu e0 a0) ∧ ∀ low high above, rdNum bs at_ low high above = .inl (e0, a0)) ∧ ∃ k, w' = w.drewN k := by
  refine (rnumber_any p t ao cap bs at_ er ea w h hb hat).mono ?_
  rintro e w' ⟨rfl, hk⟩
  refine ⟨?_, hk⟩
  rw [hx]
  match x, hx with
  | 0, hx => exact ⟨_, _, rfl, fun _ _ _ => by simp [rdNum, hx]⟩
  | 1, hx => exact ⟨_, _, rfl, fun _ _ _ => by simp [rdNum, hx]⟩
  | x + 2, hx => exact ⟨_, _, rfl, fun _ _ _ => by simp [rdNum, hx]⟩

theorem rnumber_ok (p t : Nat) (ao : Option Addr) (cap : Nat) (bs : List UInt8) (at_ : Nat) (er ea : Int) (w : World) (h : RAt w p t ao cap bs at_ er ea) (hb : bs.length ≤ 140737488355328) (hat : at_ ≤ bs.length) (n k : Nat) (hx : scan (bs.drop at_) 0 0 = .ok (n, k)) :
    Calls Try.prog 54 #[.pointer (some ⟨p, 0, none⟩)] w fun e w' => e = .returned (.tuple #[.int .i64 n, .int .i64 (at_ + k : Nat)]) ∧ ∃ k, w' = w.drewN k := by
  refine (rnumber_any p t ao cap bs at_ er ea w h hb hat).mono ?_
  rintro e w' ⟨rfl, hk⟩
  refine ⟨?_, hk⟩
  rw [hx]
  simp [scanEnd]

theorem RAt.drewN {w : World} {p t : Nat} {ao : Option Addr} {cap : Nat} {bs : List UInt8} {at_ er ea : Int} (h : RAt w p t ao cap bs at_ er ea) (k : Nat) : RAt (w.drewN k) p t ao cap bs at_ er ea := h.fr ((Fr.refl (fun _ => False) w).drewN k) (fun e => e) (fun _ _ e => e)

set_option maxHeartbeats 1000000 in
theorem rint1_bad (p t a b c d : Nat) (ao : Option Addr) (cap : Nat) (bs : List UInt8) (at_ : Nat) (er ea low high e0 a0 : Int) (w : World) (h : RAt w p t ao cap bs at_ er ea) (hb : bs.length ≤ 140737488355328) (hat : at_ ≤ bs.length)
    (ha : w.cell? ⟨a, 0, none⟩ = some (.pointer (some ⟨p, 0, none⟩))) (hlo : w.cell? ⟨b, 0, none⟩ = some (.int .i64 low)) (hhi : w.cell? ⟨c, 0, none⟩ = some (.int .i64 high)) (hr : rdNum bs at_ low high 5 = .inl (e0, a0)) :
    Calls Try.prog 53 #[.pointer (some ⟨a, 0, none⟩), .pointer (some ⟨b, 0, none⟩), .pointer (some ⟨c, 0, none⟩), .pointer (some ⟨d, 0, none⟩)] w fun e w' => e = .panicked (gu e0 a0) ∧ ∃ k, w' = w.drewN k := by
  cases hx : scan (bs.drop at_) 0 0 with
  | error x =>
    have HN := hideIt (rnumber_bad p t ao cap bs at_ er ea w h hb hat x hx)
    clear hx
    have HR := hideIt hr
    clear hr
    go_enter Try.func53, Try.ntmps53
    go_wp2_with fail
    refine Calls.mono HN.out ?_
    rintro e w' ⟨⟨e1, a1, rfl, hall⟩, k, rfl⟩
    have e2 := HR.out.symm.trans (hall low high 5)
    obtain ⟨rfl, rfl⟩ : e0 = e1 ∧ a0 = a1 := by simpa using e2
    exact ⟨rfl, rfl, k, rfl⟩
  | ok nk =>
    obtain ⟨n, m⟩ := nk
    have hsc := scan_ok hx hat
    have hbad : ((n : Int) < low ∨ high < (n : Int)) ∧ e0 = 5 ∧ a0 = at_ := by
      simp only [rdNum, hx] at hr
      split at hr
      · simp at hr; exact ⟨Or.inl ‹_›, hr.1.symm, hr.2.symm⟩
      · split at hr
        · simp at hr; exact ⟨Or.inr ‹_›, hr.1.symm, hr.2.symm⟩
        · cases hr
    obtain ⟨hcase, rfl, rfl⟩ := hbad
    have HN := hideIt (rnumber_ok p t ao cap bs at_ er ea w h hb hat n m hx)
    clear hx hr
    by_cases hl : (n : Int) < low
    · clear hcase
      go_enter Try.func53, Try.ntmps53
      go_wp2_with fail
      refine Calls.mono HN.out ?_
      rintro e w' ⟨rfl, k, rfl⟩
      have hc := h.c
      have h1 := h.tp.c1
      go_wp2_with fail
      go_region_held2 (fun w' => w'.cell? ⟨a, 0, none⟩ = some (.pointer (some ⟨p, 0, none⟩)) ∧ w'.cell? ⟨p, 0, none⟩ = some (.pointer (some ⟨t, 0, none⟩)) ∧ w'.cell? ⟨t, 1, none⟩ = some (.int .i64 at_)) (go_keep)
        (first | (go_at_call 55; refine (fail_two _ _ _ _).mono ?_; rintro e w' (⟨rfl, rfl⟩ | ⟨rfl, rfl, hF⟩); exact ⟨rfl, rfl, k + 1, rfl⟩; skip))
      all_goals exact hF.out.elim
    · have hh : high < (n : Int) := hcase.resolve_left hl
      clear hcase
      go_enter Try.func53, Try.ntmps53
      go_wp2_with fail
      refine Calls.mono HN.out ?_
      rintro e w' ⟨rfl, k, rfl⟩
      have hc := h.c
      have h1 := h.tp.c1
      go_wp2_with fail
      go_region_held2 (fun w' => w'.cell? ⟨a, 0, none⟩ = some (.pointer (some ⟨p, 0, none⟩)) ∧ w'.cell? ⟨p, 0, none⟩ = some (.pointer (some ⟨t, 0, none⟩)) ∧ w'.cell? ⟨t, 1, none⟩ = some (.int .i64 at_)) (go_keep)
        (first | (go_at_call 55; refine (fail_two _ _ _ _).mono ?_; rintro e w' (⟨rfl, rfl⟩ | ⟨rfl, rfl, hF⟩); exact ⟨rfl, rfl, k + 1, rfl⟩; skip))
      all_goals exact hF.out.elim

theorem rint1_ok (p t a b c d : Nat) (ao : Option Addr) (cap : Nat) (bs : List UInt8) (at_ : Nat) (er ea low high v : Int) (n m : Nat) (w : World) (h : RAt w p t ao cap bs at_ er ea) (hb : bs.length ≤ 140737488355328) (hat : at_ ≤ bs.length)
    (ha : w.cell? ⟨a, 0, none⟩ = some (.pointer (some ⟨p, 0, none⟩))) (hlo : w.cell? ⟨b, 0, none⟩ = some (.int .i64 low)) (hhi : w.cell? ⟨c, 0, none⟩ = some (.int .i64 high)) (hd : w.heap[d]? = some (.cells #[.int .i64 v] 3 (0, 0))) (hr : rdNum bs at_ low high 5 = .inr (n, m)) :
    Calls Try.prog 53 #[.pointer (some ⟨a, 0, none⟩), .pointer (some ⟨b, 0, none⟩), .pointer (some ⟨c, 0, none⟩), .pointer (some ⟨d, 0, none⟩)] w fun e w' => e = .returned (.int .i64 m) ∧ w'.heap[d]? = some (.cells #[.int .i64 n] 3 (0, 0)) ∧ Fr (fun k => k = d) w w' := by
  cases hx : scan (bs.drop at_) 0 0 with
  | error x =>
    match x, hx with
    | 0, hx => simp [rdNum, hx] at hr
    | 1, hx => simp [rdNum, hx] at hr
    | x + 2, hx => simp [rdNum, hx] at hr
  | ok nk =>
    obtain ⟨n', m'⟩ := nk
    have hsc := scan_ok hx hat
    have hgood : ¬ (n' : Int) < low ∧ ¬ high < (n' : Int) ∧ n' = n ∧ at_ + m' = m := by
      simp only [rdNum, hx] at hr
      split at hr
      · cases hr
      · split at hr
        · cases hr
        · simp at hr; exact ⟨‹_›, ‹_›, hr⟩
    obtain ⟨hl, hh, rfl, rfl⟩ := hgood
    have HN := hideIt (rnumber_ok p t ao cap bs at_ er ea w h hb hat n' m' hx)
    have hdc : w.cell? ⟨d, 0, none⟩ = some (.int .i64 v) := by rw [cell_of_row w d 0 _ _ _ hd]; rfl
    have hdz : w.frozen? ⟨d, 0, none⟩ = false := frozen_of_row w d 0 _ _ hd
    clear hx hr
    go_enter Try.func53, Try.ntmps53
    go_wp2_with fail
    refine Calls.mono HN.out ?_
    rintro e w' ⟨rfl, k, rfl⟩
    go_wp2_with fail
    go_ret
    refine ⟨rfl, ?_, ((Fr.refl (fun k => k = d) w).drewN k).setCell (fun _ => rfl) _⟩
    exact heap_setCell_same (w.drewN k) d 0 _ _ _ hd

end Go.Proofs.Yteihmonafdnicaa
