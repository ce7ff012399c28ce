/- The reader's Count and Text. -/
import Derived.Test.YteihmonafdnicaaT
namespace Go.Proofs.Yteihmonafdnicaa
open Go.RowKit Go.IntWalk
set_option linter.unusedSimpArgs false
set_option linter.unusedVariables false

theorem drewN_drewN (w : World) (k k' : Nat) : (w.drewN k).drewN k' = w.drewN (k + k') := by simp [World.drewN, Nat.add_assoc]

theorem rdNum_err {bs : List UInt8} {at_ x : Nat} {low high above : Int} {n m : Nat} (hx : scan (bs.drop at_) 0 0 = .error x) (hr : rdNum bs at_ low high above = .inr (n, m)) : False := by
  match x, hx with
  | 0, hx => simp [rdNum, hx] at hr
  | 1, hx => simp [rdNum, hx] at hr
  | x + 2, hx => simp [rdNum, hx] at hr

set_option maxHeartbeats 1000000 in
theorem count_bad (p t : Nat) (ao : Option Addr) (cap : Nat) (bs : List UInt8) (at_ : Nat) (er ea most e0 a0 : Int) (w : World) (h : RAt w p t ao cap bs at_ er ea) (hb : bs.length ≤ 140737488355328) (hat : at_ ≤ bs.length) (hr : rdNum bs at_ 0 most 3 = .inl (e0, a0)) :
    Calls Try.prog 58 #[.pointer (some ⟨p, 0, none⟩), .int .i64 most] w fun e w' => e = .panicked (gu e0 a0) ∧ ∃ k, w' = w.drewN k := by
  cases hx : scan (bs.drop at_) 0 0 with
  | error x =>
    have HN := hideIt (rnumber_bad p t ao cap bs at_ er ea w h hb hat x hx)
    clear hx
    have HR := hideIt hr
    clear hr
    go_enter Try.func58, Try.ntmps58
    go_wp2_with fail
    refine Calls.mono HN.out ?_
    rintro e w' ⟨⟨e1, a1, rfl, hall⟩, k, rfl⟩
    have e2 := HR.out.symm.trans (hall 0 most 3)
    obtain ⟨rfl, rfl⟩ : e0 = e1 ∧ a0 = a1 := by simpa using e2
    exact ⟨rfl, rfl, k, rfl⟩
  | ok nk =>
    obtain ⟨n, m⟩ := nk
    have hsc := scan_ok hx hat
    have hbad : most < (n : Int) ∧ e0 = 3 ∧ a0 = at_ := by
      simp only [rdNum, hx] at hr
      rw [if_neg (by omega)] at hr
      split at hr
      · simp at hr; exact ⟨‹_›, hr.1.symm, hr.2.symm⟩
      · cases hr
    obtain ⟨hh, rfl, rfl⟩ := hbad
    have HN := hideIt (rnumber_ok p t ao cap bs at_ er ea w h hb hat n m hx)
    clear hx hr
    go_enter Try.func58, Try.ntmps58
    go_wp2_with fail
    refine Calls.mono HN.out ?_
    rintro e w' ⟨rfl, k, rfl⟩
    have hc := h.c
    have h1 := h.tp.c1
    go_wp2_with fail
    go_region_held2 (fun w' => w'.cell? ⟨p, 0, none⟩ = some (.pointer (some ⟨t, 0, none⟩)) ∧ w'.cell? ⟨t, 1, none⟩ = some (.int .i64 at_)) (go_keep)
      (first | (go_at_call 55; refine (fail_two _ _ _ _).mono ?_; rintro e w' (⟨rfl, rfl⟩ | ⟨rfl, rfl, hF⟩); exact ⟨rfl, rfl, k + 1, rfl⟩; skip))
    all_goals exact hF.out.elim

theorem count_ok (p t : Nat) (ao : Option Addr) (cap : Nat) (bs : List UInt8) (at_ : Nat) (er ea most : Int) (n m : Nat) (w : World) (h : RAt w p t ao cap bs at_ er ea) (hb : bs.length ≤ 140737488355328) (hat : at_ ≤ bs.length) (hr : rdNum bs at_ 0 most 3 = .inr (n, m)) :
    Calls Try.prog 58 #[.pointer (some ⟨p, 0, none⟩), .int .i64 most] w fun e w' => e = .returned (.tuple #[.int .i64 n, .int .i64 m]) ∧ ∃ k, w' = w.drewN k := by
  cases hx : scan (bs.drop at_) 0 0 with
  | error x => exact (rdNum_err hx hr).elim
  | ok nk =>
    obtain ⟨n', m'⟩ := nk
    have hsc := scan_ok hx hat
    have hgood : ¬ most < (n' : Int) ∧ n' = n ∧ at_ + m' = m := by
      simp only [rdNum, hx] at hr
      rw [if_neg (by omega)] at hr
      split at hr
      · cases hr
      · simp at hr; exact ⟨‹_›, hr⟩
    obtain ⟨hh, rfl, rfl⟩ := hgood
    have HN := hideIt (rnumber_ok p t ao cap bs at_ er ea w h hb hat n' m' hx)
    clear hx hr
    go_enter Try.func58, Try.ntmps58
    go_wp2_with fail
    refine Calls.mono HN.out ?_
    rintro e w' ⟨rfl, k, rfl⟩
    go_wp2_with fail
    go_ret2
    exact ⟨rfl, k, rfl⟩

theorem rdNum_room {bs : List UInt8} {at_ n m : Nat} {low high above : Int} (h : rdNum bs at_ low high above = .inr (n, m)) (hat : at_ ≤ bs.length) : n ≤ 9223372036854775807 ∧ at_ < m ∧ m ≤ bs.length := by
  unfold rdNum at h
  split at h
  · cases h
  · cases h
  · cases h
  · rename_i n' k' hx
    have := scan_ok hx hat
    split at h
    · cases h
    · split at h
      · cases h
      · simp at h; omega

theorem rcount1_bad (p t a b d : Nat) (ao : Option Addr) (cap : Nat) (bs : List UInt8) (at_ : Nat) (er ea most e0 a0 : Int) (w : World) (h : RAt w p t ao cap bs at_ er ea) (hb : bs.length ≤ 140737488355328) (hat : at_ ≤ bs.length)
    (ha : w.cell? ⟨a, 0, none⟩ = some (.pointer (some ⟨p, 0, none⟩))) (hlo : w.cell? ⟨b, 0, none⟩ = some (.int .i64 most)) (hr : rdNum bs at_ 0 most 3 = .inl (e0, a0)) :
    Calls Try.prog 57 #[.pointer (some ⟨a, 0, none⟩), .pointer (some ⟨b, 0, none⟩), .pointer (some ⟨d, 0, none⟩)] w fun e w' => e = .panicked (gu e0 a0) ∧ ∃ k, w' = w.drewN k := by
  have HC := hideIt (count_bad p t ao cap bs at_ er ea most e0 a0 w h hb hat hr)
  clear hr
  go_enter Try.func57, Try.ntmps57
  go_wp2_with fail
  refine Calls.mono HC.out ?_
  rintro e w' ⟨rfl, k, rfl⟩
  exact ⟨rfl, rfl, k, rfl⟩

theorem rcount1_ok (p t a b d : Nat) (ao : Option Addr) (cap : Nat) (bs : List UInt8) (at_ : Nat) (er ea most v : Int) (n m : Nat) (w : World) (h : RAt w p t ao cap bs at_ er ea) (hb : bs.length ≤ 140737488355328) (hat : at_ ≤ bs.length)
    (ha : w.cell? ⟨a, 0, none⟩ = some (.pointer (some ⟨p, 0, none⟩))) (hlo : w.cell? ⟨b, 0, none⟩ = some (.int .i64 most)) (hd : w.heap[d]? = some (.cells #[.int .i64 v] 3 (0, 0))) (hr : rdNum bs at_ 0 most 3 = .inr (n, m)) :
    Calls Try.prog 57 #[.pointer (some ⟨a, 0, none⟩), .pointer (some ⟨b, 0, none⟩), .pointer (some ⟨d, 0, none⟩)] w fun e w' => e = .returned (.int .i64 m) ∧ w'.heap[d]? = some (.cells #[.int .i64 n] 3 (0, 0)) ∧ Fr (fun k => k = d) w w' := by
  have HC := hideIt (count_ok p t ao cap bs at_ er ea most n m w h hb hat hr)
  have hdc : w.cell? ⟨d, 0, none⟩ = some (.int .i64 v) := by rw [cell_of_row w d 0 _ _ _ hd]; rfl
  have hdz : w.frozen? ⟨d, 0, none⟩ = false := frozen_of_row w d 0 _ _ hd
  clear hr
  go_enter Try.func57, Try.ntmps57
  go_wp2_with fail
  refine Calls.mono HC.out ?_
  rintro e w' ⟨rfl, k, rfl⟩
  go_wp2_with fail
  go_ret
  exact ⟨rfl, heap_setCell_same (w.drewN k) d 0 _ _ _ hd, ((Fr.refl (fun k => k = d) w).drewN k).setCell (fun _ => rfl) _⟩

/-- The world in which Count's or Text's step is handed to do. -/
def rboxes2 (w : World) (p : Nat) (most : Int) (o : Obj) : World := ((w.alloc (.cells #[.pointer (some ⟨p, 0, none⟩)] 47)).alloc (.cells #[.int .i64 most] 3)).alloc o
theorem rboxes2_size (w : World) (p : Nat) (most : Int) (o : Obj) : (rboxes2 w p most o).heap.size = w.heap.size + 3 := by simp [rboxes2]
theorem Fr.rboxes2 (w : World) (p : Nat) (most : Int) (o : Obj) (S : Nat → Prop) : Fr S w (Go.Proofs.Yteihmonafdnicaa.rboxes2 w p most o) := (((Fr.refl S w).alloc _).alloc _).alloc _
theorem rboxes2_get (w : World) (p : Nat) (most : Int) (o : Obj) :
    (rboxes2 w p most o).heap[w.heap.size]? = some (.cells #[.pointer (some ⟨p, 0, none⟩)] 47 (0, 0)) ∧ (rboxes2 w p most o).heap[w.heap.size + 1]? = some (.cells #[.int .i64 most] 3 (0, 0)) ∧ (rboxes2 w p most o).heap[w.heap.size + 1 + 1]? = some o :=
  ⟨heap_old (heap_old (heap_new rfl)), heap_old (heap_new (by simp)), heap_new (by simp)⟩

theorem rcount_via (p t : Nat) (most v : Int) (w : World) (R : World → Prop) (hc : w.cell? ⟨p, 0, none⟩ = some (.pointer (some ⟨t, 0, none⟩))) (hpl : p < w.heap.size)
    (hdo : Calls Try.prog 52 #[.pointer (some ⟨t, 0, none⟩), .func (.func 57) #[] #[.pointer (some ⟨w.heap.size, 0, none⟩), .pointer (some ⟨w.heap.size + 1, 0, none⟩), .pointer (some ⟨w.heap.size + 1 + 1, 0, none⟩)]] (rboxes2 w p most (.cells #[.int .i64 0] 3))
      fun e w' => e = .returned (.tuple #[]) ∧ w'.heap[w.heap.size + 1 + 1]? = some (.cells #[.int .i64 v] 3 (0, 0)) ∧ R w') :
    Calls Try.prog 26 #[.pointer (some ⟨p, 0, none⟩), .int .i64 most] w fun e w' => e = .returned (.int .i64 v) ∧ R w' := by
  have hmf : ∀ (fn : Fn) (first cap : Array Value) (w : World), (Instr.makeFunc fn first cap).run Try.prog w = .ok (.func fn first cap) w := fun _ _ _ _ => rfl
  have HD := hideIt hdo
  have hc3 := fun o1 o2 o3 => cellA (cellA (cellA hc o1) o2) o3
  clear hdo
  go_enter Try.func26, Try.ntmps26
  go_wp2_with (go_at_call 51; refine (rnone_some p t _ (cellA (cellA hc _) _)).mono ?_; rintro e w' ⟨rfl, rfl⟩)
  refine Calls.mono HD.out ?_
  rintro e w' ⟨rfl, hv, hr⟩
  have HR := hideIt hr
  have hcv := cellOfHeap hv 0 rfl
  clear hr hv
  go_wp2_with fail
  go_ret
  exact ⟨rfl, HR.out⟩

theorem rtext_via (p t : Nat) (most : Int) (v : ByteArray) (w : World) (R : World → Prop) (hc : w.cell? ⟨p, 0, none⟩ = some (.pointer (some ⟨t, 0, none⟩))) (hpl : p < w.heap.size)
    (hdo : Calls Try.prog 52 #[.pointer (some ⟨t, 0, none⟩), .func (.func 59) #[] #[.pointer (some ⟨w.heap.size, 0, none⟩), .pointer (some ⟨w.heap.size + 1, 0, none⟩), .pointer (some ⟨w.heap.size + 1 + 1, 0, none⟩)]] (rboxes2 w p most (.cells #[.string ⟨#[]⟩] 9))
      fun e w' => e = .returned (.tuple #[]) ∧ w'.heap[w.heap.size + 1 + 1]? = some (.cells #[.string v] 9 (0, 0)) ∧ R w') :
    Calls Try.prog 28 #[.pointer (some ⟨p, 0, none⟩), .int .i64 most] w fun e w' => e = .returned (.string v) ∧ R w' := by
  have hmf : ∀ (fn : Fn) (first cap : Array Value) (w : World), (Instr.makeFunc fn first cap).run Try.prog w = .ok (.func fn first cap) w := fun _ _ _ _ => rfl
  have HD := hideIt hdo
  have hc3 := fun o1 o2 o3 => cellA (cellA (cellA hc o1) o2) o3
  clear hdo
  go_enter Try.func28, Try.ntmps28
  go_wp2_with (go_at_call 51; refine (rnone_some p t _ (cellA (cellA hc _) _)).mono ?_; rintro e w' ⟨rfl, rfl⟩)
  refine Calls.mono HD.out ?_
  rintro e w' ⟨rfl, hv, hr⟩
  have HR := hideIt hr
  have hcv := cellOfHeap hv 0 rfl
  clear hr hv
  go_wp2_with fail
  go_ret
  exact ⟨rfl, HR.out⟩

/-- What Text's step comes to: the fault, or the text and the place behind it. -/
def rdText (bs : List UInt8) (at_ : Nat) (most : Int) : Sum (Int × Int) (List UInt8 × Nat) :=
  match rdNum bs at_ 0 most 3 with
  | .inl f => .inl f
  | .inr (n, m) => if bs.length < m + n then .inl (4, bs.length) else .inr ((bs.drop m).take n, m + n)

theorem rtext1_bad (p t a b d : Nat) (ao : Option Addr) (cap : Nat) (bs : List UInt8) (at_ : Nat) (er ea most e0 a0 : Int) (w : World) (h : RAt w p t ao cap bs at_ er ea) (hb : bs.length ≤ 140737488355328) (hat : at_ ≤ bs.length)
    (ha : w.cell? ⟨a, 0, none⟩ = some (.pointer (some ⟨p, 0, none⟩))) (hlo : w.cell? ⟨b, 0, none⟩ = some (.int .i64 most)) (hr : rdText bs at_ most = .inl (e0, a0)) :
    Calls Try.prog 59 #[.pointer (some ⟨a, 0, none⟩), .pointer (some ⟨b, 0, none⟩), .pointer (some ⟨d, 0, none⟩)] w fun e w' => e = .panicked (gu e0 a0) ∧ ∃ k, w' = w.drewN k := by
  cases hx : rdNum bs at_ 0 most 3 with
  | inl f =>
    obtain ⟨e1, a1⟩ := f
    obtain ⟨rfl, rfl⟩ : e1 = e0 ∧ a1 = a0 := by simpa [rdText, hx] using hr
    have HC := hideIt (count_bad p t ao cap bs at_ er ea most e1 a1 w h hb hat hx)
    clear hr hx
    go_enter Try.func59, Try.ntmps59
    go_wp2_with fail
    refine Calls.mono HC.out ?_
    rintro e w' ⟨rfl, k, rfl⟩
    exact ⟨rfl, rfl, k, rfl⟩
  | inr nm =>
    obtain ⟨n, m⟩ := nm
    have hroom := rdNum_room hx hat
    have hlt : bs.length < m + n ∧ e0 = 4 ∧ a0 = bs.length := by
      simp only [rdText, hx] at hr
      split at hr
      · simp at hr; exact ⟨‹_›, hr.1.symm, hr.2.symm⟩
      · cases hr
    obtain ⟨hlt, rfl, rfl⟩ := hlt
    have HC := hideIt (count_ok p t ao cap bs at_ er ea most n m w h hb hat hx)
    have HB := hideIt (fun k => behind_bad p t ao cap bs at_ er ea m n (w.drewN k) (h.drewN k) hb (by omega) (by omega) (by omega) (by omega))
    clear hr hx
    go_enter Try.func59, Try.ntmps59
    go_wp2_with fail
    refine Calls.mono HC.out ?_
    rintro e w' ⟨rfl, k, rfl⟩
    go_wp2_with fail
    refine Calls.mono (HB.out k) ?_
    rintro e w' ⟨rfl, k', rfl⟩
    exact ⟨rfl, rfl, k + k', drewN_drewN w k k'⟩

theorem BsAt.sub {w : World} {g : Nat} {bs : List UInt8} {e : TypeId} {cap : Nat} (h : Row w e (some ⟨g, 0, none⟩) cap bs) (m n : Nat) (hmn : m + n ≤ bs.length) : BsAt w (some ⟨g, m, none⟩) ((bs.drop m).take n) := by
  refine Or.inr ⟨g, m, rfl, fun j hj => ?_⟩
  simp at hj
  rw [h.cell (m + j) (by omega)]
  simp

set_option maxRecDepth 100000 in
set_option maxHeartbeats 1000000 in
theorem rtext1_ok (p t a b d : Nat) (ao : Option Addr) (cap : Nat) (bs : List UInt8) (at_ : Nat) (er ea most : Int) (v : ByteArray) (x : List UInt8) (m : Nat) (w : World) (h : RAt w p t ao cap bs at_ er ea) (hb : bs.length ≤ 140737488355328) (hat : at_ ≤ bs.length)
    (ha : w.cell? ⟨a, 0, none⟩ = some (.pointer (some ⟨p, 0, none⟩))) (hlo : w.cell? ⟨b, 0, none⟩ = some (.int .i64 most)) (hd : w.heap[d]? = some (.cells #[.string v] 9 (0, 0))) (hr : rdText bs at_ most = .inr (x, m)) :
    Calls Try.prog 59 #[.pointer (some ⟨a, 0, none⟩), .pointer (some ⟨b, 0, none⟩), .pointer (some ⟨d, 0, none⟩)] w fun e w' => e = .returned (.int .i64 m) ∧ w'.heap[d]? = some (.cells #[.string ⟨x.toArray⟩] 9 (0, 0)) ∧ Fr (fun k => k = d) w w' := by
  cases hx : rdNum bs at_ 0 most 3 with
  | inl f => simp [rdText, hx] at hr
  | inr nm =>
    obtain ⟨n, m'⟩ := nm
    have hroom := rdNum_room hx hat
    have hgood : m' + n ≤ bs.length ∧ (bs.drop m').take n = x ∧ m' + n = m := by
      simp only [rdText, hx] at hr
      split at hr
      · cases hr
      · simp at hr; exact ⟨by omega, hr⟩
    obtain ⟨hle, hxe, rfl⟩ := hgood
    obtain ⟨g, rfl⟩ : ∃ g, ao = some ⟨g, 0, none⟩ := by
      rcases h.tp.row.form with ⟨_, rfl, _⟩ | ⟨g, _, rfl, _⟩
      · simp at hroom; omega
      · exact ⟨g, rfl⟩
    have hcap : bs.length ≤ cap ∧ cap ≤ maxLen := by
      rcases h.tp.row.form with ⟨e, _⟩ | ⟨_, _, _, _, h1, h2, _⟩
      · cases e
      · exact ⟨h1, h2⟩
    have hsub := BsAt.sub h.tp.row m' n hle
    rw [hxe] at hsub
    have hxl : x.length = n := by rw [← hxe]; simp; omega
    have hconv := hsub.conv (cap - m')
    rw [hxl] at hconv
    have hconvk := fun k => (show (convert 28 9 (.slice (some ⟨g, m', none⟩) n (cap - m'))).run Try.prog (w.drewN k) = .ok (.string ⟨x.toArray⟩) (w.drewN k) from by have := (hsub.fr ((Fr.refl (fun _ => False) w).drewN k) (fun _ _ _ e => e)).conv (cap - m'); rw [hxl] at this; exact this)
    have HC := hideIt (count_ok p t _ cap bs at_ er ea most n m' w h hb hat hx)
    have HB := hideIt (fun k => behind_ok p t _ cap bs at_ er ea m' n (w.drewN k) (h.drewN k) hb (by omega) (by omega) (by omega))
    have hc := h.c
    have h0 := h.tp.c0
    have hdc : w.cell? ⟨d, 0, none⟩ = some (.string v) := by rw [cell_of_row w d 0 _ _ _ hd]; rfl
    have hdz : w.frozen? ⟨d, 0, none⟩ = false := frozen_of_row w d 0 _ _ hd
    have hcm := hcap.2
    unfold maxLen at hcm
    clear hr hx hxe hconv
    have fin : ∀ k, ((w.drewN k).setCell ⟨d, 0, none⟩ (.string ⟨x.toArray⟩)).heap[d]? = some (.cells #[.string ⟨x.toArray⟩] 9 (0, 0)) ∧ Fr (fun k => k = d) w ((w.drewN k).setCell ⟨d, 0, none⟩ (.string ⟨x.toArray⟩)) :=
      fun k => ⟨heap_setCell_same (w.drewN k) d 0 _ _ _ hd, ((Fr.refl (fun k => k = d) w).drewN k).setCell (fun _ => rfl) _⟩
    have FIN := hideIt fin
    clear fin
    by_cases hcme : cap = m'
    · obtain rfl : x = [] := List.eq_nil_of_length_eq_zero (by omega)
      obtain rfl : n = 0 := by simpa using hxl.symm
      have hconv0 := fun k => (show (convert 28 9 (.slice (some ⟨g, 0, none⟩) 0 0)).run Try.prog (w.drewN k) = .ok (.string ⟨([] : List UInt8).toArray⟩) (w.drewN k) from BsAt.conv (w := w.drewN k) (ao := some ⟨g, 0, none⟩) (bs := []) (Or.inr ⟨g, 0, rfl, fun j hj => by simp at hj⟩) 0)
      subst hcme
      clear hxl hconvk
      go_enter Try.func59, Try.ntmps59
      go_wp2_with fail
      refine Calls.mono HC.out ?_
      rintro e w' ⟨rfl, k, rfl⟩
      go_wp2_with fail
      refine Calls.mono (HB.out k) ?_
      rintro e w' ⟨rfl, rfl⟩
      go_wp2_with fail
      go_ret
      exact ⟨by simp, (FIN.out k).1, (FIN.out k).2⟩
    · clear hxl
      go_enter Try.func59, Try.ntmps59
      go_wp2_with fail
      refine Calls.mono HC.out ?_
      rintro e w' ⟨rfl, k, rfl⟩
      go_wp2_with fail
      refine Calls.mono (HB.out k) ?_
      rintro e w' ⟨rfl, rfl⟩
      go_wp2_with fail
      go_ret
      exact ⟨by simp, (FIN.out k).1, (FIN.out k).2⟩

end Go.Proofs.Yteihmonafdnicaa
