/- ProgTells, part 4 of the road: what the program's functions do, each by its own walk. -/
import Derived.Test.YtojgikaoiegmpaaGreatDoorQ3
import Derived.Deep.RegionHeld2

/- The reader of package word: numbers. -/
namespace Go.Proofs.YtojgikaoiegmpaaGreatDoor
open Go.RowKit Go.IntWalk
set_option linter.unusedSimpArgs false
set_option linter.unusedVariables false
set_option maxRecDepth 100000

/-- A reader in memory: itself, and its tape. -/
structure RAt (w : World) (p t : Nat) (ao : Option Addr) (cap : Nat) (bs : List UInt8) (at_ er ea : Int) : Prop where
  box : w.heap[p]? = some (.cells #[.pointer (some ⟨t, 0, none⟩)] 122 (0, 0))
  tp : TapeAt w t ao cap bs at_ er ea

section
variable {w w' : World} {p t : Nat} {ao : Option Addr} {cap : Nat} {bs : List UInt8} {at_ er ea : Int}
theorem RAt.lt (h : RAt w p t ao cap bs at_ er ea) : p < w.heap.size := (Array.getElem?_eq_some_iff.1 h.box).1
theorem RAt.c (h : RAt w p t ao cap bs at_ er ea) : w.cell? ⟨p, 0, none⟩ = some (.pointer (some ⟨t, 0, none⟩)) := by rw [cell_of_row w p 0 _ _ _ h.box]; rfl
theorem RAt.ne (h : RAt w p t ao cap bs at_ er ea) : p ≠ t := by
  rintro rfl
  have := h.box.symm.trans h.tp.blk
  simp at this
theorem RAt.fr {S : Nat → Prop} (h : RAt w p t ao cap bs at_ er ea) (hf : Fr S w w') (hp : ¬ S p) (hS : ∀ k, wset t ao k → ¬ S k) : RAt w' p t ao cap bs at_ er ea :=
  ⟨(hf.block p h.lt hp).trans h.box, h.tp.fr hf hS⟩
theorem RAt.moved (h : RAt w p t ao cap bs at_ er ea) (n : Int) : RAt (w.setCell ⟨t, 1, none⟩ (.int .i64 n)) p t ao cap bs n er ea :=
  ⟨((Fr.moved w t _).block p h.lt h.ne).trans h.box, h.tp.moved n⟩
theorem RAt.faulted (h : RAt w p t ao cap bs at_ er ea) (e a : Int) (o : Obj) : RAt (((w.setCell ⟨t, 2, none⟩ (.int .i64 e)).setCell ⟨t, 3, none⟩ (.int .i64 a)).alloc o) p t ao cap bs at_ e a :=
  ⟨((Fr.faulted w t _ _ o).block p h.lt h.ne).trans h.box, h.tp.faulted e a o⟩
end

theorem open_any (ao : Option Addr) (cap : Nat) (bs : List UInt8) (w : World) (h : BsAt w ao bs) (hcap : ao = none → cap = 0) (hb : bs.length ≤ 140737488355328) :
    Calls Tryz.prog 61 #[.slice ao bs.length cap] w fun e w' => ∃ p t ao' cap', e = .returned (.pointer (some ⟨p, 0, none⟩)) ∧ RAt w' p t ao' cap' bs 0 0 0 ∧ Fr (fun _ => False) w w' ∧ w.heap.size ≤ p ∧ w.heap.size ≤ t ∧ ∀ k, blk ao' k → w.heap.size ≤ k := by
  go_enter Tryz.func61, Tryz.ntmps61
  go_wp2_with fail
  refine (clone_any ao cap bs _ h hcap hb).mono ?_
  rintro e w1 ⟨ao', cap', rfl, hrow, hF, hnew⟩
  go_wp2
  go_ret
  have hs := hF.size
  exact ⟨w1.heap.size + 1, w1.heap.size, ao', cap', rfl, ⟨heap_alloc2_new w1 _ _, heap_alloc2_old w1 _ _, (hrow.alloc _).alloc _⟩, (hF.alloc _).alloc _, by omega, hs, hnew⟩

theorem behind_ok (p t : Nat) (ao : Option Addr) (cap : Nat) (bs : List UInt8) (at_ er ea : Int) (a n : Int) (w : World) (h : RAt w p t ao cap bs at_ er ea) (hb : bs.length ≤ 140737488355328) (ha : 0 ≤ a) (hn : 0 ≤ n) (hle : a + n ≤ bs.length) :
    Calls Tryz.prog 107 #[.pointer (some ⟨p, 0, none⟩), .int .i64 a, .int .i64 n] w fun e w' => e = .returned (.int .i64 (a + n)) ∧ w' = w := by
  have hc := h.c
  have h0 := h.tp.c0
  go_enter Tryz.func107, Tryz.ntmps107
  go_wp2
  go_ret
  exact ⟨rfl, rfl⟩

set_option maxHeartbeats 1000000 in
theorem behind_bad (p t : Nat) (ao : Option Addr) (cap : Nat) (bs : List UInt8) (at_ er ea : Int) (a n : Int) (w : World) (h : RAt w p t ao cap bs at_ er ea) (hb : bs.length ≤ 140737488355328) (ha : 0 ≤ a) (ha' : a ≤ bs.length) (hn : 0 ≤ n) (hlt : (bs.length : Int) - a < n) :
    Calls Tryz.prog 107 #[.pointer (some ⟨p, 0, none⟩), .int .i64 a, .int .i64 n] w fun e w' => e = .panicked (gu 4 bs.length) ∧ ∃ k, w' = w.drewN k := by
  have hc := h.c
  have h0 := h.tp.c0
  go_enter Tryz.func107, Tryz.ntmps107
  go_wp2
  go_region_held2 (fun w' => w'.cell? ⟨p, 0, none⟩ = some (.pointer (some ⟨t, 0, none⟩)) ∧ w'.cell? ⟨t, 0, none⟩ = some (.slice ao bs.length cap)) (go_keep) (first | (go_at_call 91; refine (fail_two _ _ _ _).mono ?_; rintro e w' (⟨rfl, rfl⟩ | ⟨rfl, rfl, hF⟩); exact ⟨rfl, rfl, 1, rfl⟩; skip))
  all_goals exact hF.out.elim

/-- The number that stands at the head of bytes: it and how many bytes it has; else 0: a byte is missing; 1: it is too great; 2: it ends by 0. (i: how many bytes stand ahead of it, what these come to.) -/
def scan : List UInt8 → Nat → Nat → Except Nat (Nat × Nat)
  | [], _, _ => .error 0
  | b :: bs, i, acc => if 128 ≤ b.toNat ∧ i + 1 = 9 then .error 1 else if b.toNat = 0 ∧ 0 < i then .error 2 else
      if b.toNat < 128 then .ok (acc + b.toNat % 128 * 128 ^ i, i + 1) else scan bs (i + 1) (acc + b.toNat % 128 * 128 ^ i)

def scanEnd (len at_ : Int) : Except Nat (Nat × Nat) → Ending
  | .error 0 => .panicked (gu 4 len)
  | .error 1 => .panicked (gu 5 at_)
  | .error _ => .panicked (gu 4 at_)
  | .ok (n, k) => .returned (.tuple #[.int .i64 n, .int .i64 (at_ + k)])

theorem pow7 (i : Nat) : 2 ^ (7 * i) = 128 ^ i := by rw [Nat.pow_mul]

theorem or_sevens (acc b i : Nat) (hacc : acc < 128 ^ i) (hi : i ≤ 8) : bits .or .i64 (acc : Int) (wrap64 ((b : Int) % 128 * 2 ^ (7 * i))) = ((acc + b % 128 * 128 ^ i : Nat) : Int) := by
  have h8 : 128 ^ i ≤ 128 ^ 8 := Nat.pow_le_pow_right (by decide) hi
  have h88 : (128 : Nat) ^ 8 = 72057594037927936 := by decide
  have hm : b % 128 < 128 := Nat.mod_lt _ (by decide)
  have hlt : b % 128 * 128 ^ i ≤ 127 * 128 ^ i := Nat.mul_le_mul_right _ (by omega)
  have e : (b : Int) % 128 * 2 ^ (7 * i) = ((b % 128 * 128 ^ i : Nat) : Int) := by
    rw [← pow7]; simp
  rw [e, wrap64_in _ (by omega), (bits_nat .i64 63 (by decide) (fun n h0 h1 => i64_in n (by omega)) acc (b % 128 * 128 ^ i) (by omega) (by omega)).2, Nat.or_comm, ← pow7, Nat.mul_comm, ← Nat.two_pow_add_eq_or_of_lt (by rw [pow7]; exact hacc), Nat.add_comm]

theorem or_nought (acc i : Nat) (hacc : acc < 128 ^ i) (hi : i = 0) : bits .or .i64 (acc : Int) 0 = 0 := by
  subst hi
  obtain rfl : acc = 0 := by simpa using hacc
  decide

theorem pow_acc (acc b i : Nat) (hacc : acc < 128 ^ i) : acc + b % 128 * 128 ^ i < 128 ^ (i + 1) := by
  have hm : b % 128 < 128 := Nat.mod_lt _ (by decide)
  have hlt : b % 128 * 128 ^ i ≤ 127 * 128 ^ i := Nat.mul_le_mul_right _ (by omega)
  rw [Nat.pow_succ]
  omega

theorem scan_end (i acc : Nat) : scan [] i acc = .error 0 := rfl
theorem scan_big {b : UInt8} {bs : List UInt8} {i acc : Nat} (h : 128 ≤ b.toNat ∧ i + 1 = 9) : scan (b :: bs) i acc = .error 1 := by rw [scan, if_pos h]
theorem scan_zero {b : UInt8} {bs : List UInt8} {i acc : Nat} (h : b.toNat = 0 ∧ 0 < i) : scan (b :: bs) i acc = .error 2 := by rw [scan, if_neg (by omega), if_pos h]
theorem scan_last {b : UInt8} {bs : List UInt8} {i acc : Nat} (h : ¬ (b.toNat = 0 ∧ 0 < i)) (h' : b.toNat < 128) : scan (b :: bs) i acc = .ok (acc + b.toNat % 128 * 128 ^ i, i + 1) := by rw [scan, if_neg (by omega), if_neg h, if_pos h']
theorem scan_more {b : UInt8} {bs : List UInt8} {i acc : Nat} (h : ¬ (128 ≤ b.toNat ∧ i + 1 = 9)) (h' : ¬ b.toNat < 128) : scan (b :: bs) i acc = scan bs (i + 1) (acc + b.toNat % 128 * 128 ^ i) := by rw [scan, if_neg h, if_neg (by omega), if_neg h']

set_option maxRecDepth 100000 in
set_option maxHeartbeats 2000000 in
theorem rnumber_any (p t : Nat) (ao : Option Addr) (cap : Nat) (bs : List UInt8) (at_ : Nat) (er ea : Int) (w : World) (h : RAt w p t ao cap bs at_ er ea) (hb : bs.length ≤ 140737488355328) (hat : at_ ≤ bs.length) :
    Calls Tryz.prog 101 #[.pointer (some ⟨p, 0, none⟩)] w fun e w' => e = scanEnd bs.length at_ (scan (bs.drop at_) 0 0) ∧ ∃ k, w' = w.drewN k := by
  have hc := h.c
  have h0 := h.tp.c0
  have h1 := h.tp.c1
  go_enter Tryz.func101, Tryz.ntmps101
  go_wp2
  go_loop [2, 3, 4, 5] (fun x _ y _ => ∃ (i acc : Nat), x = .int .i64 acc ∧ y = .int .i64 i ∧ i ≤ 8 ∧ acc < 128 ^ i ∧ at_ + i ≤ bs.length ∧ scan (bs.drop (at_ + i)) i acc = scan (bs.drop at_) 0 0)
    (fun _ _ y _ => (9 - intOf y).toNat)
  case atStart => exact ⟨0, 0, rfl, rfl, by omega, by simp, by omega, rfl⟩
  case round =>
    obtain ⟨i, acc, rfl, rfl, hi, hacc, hlen, hscan⟩ := hrel
    have HS := hideIt hscan
    clear hscan
    by_cases hend : at_ + i = bs.length
    · have HE := hideIt (show Ending.panicked (gu 4 bs.length) = scanEnd bs.length at_ (scan (bs.drop at_) 0 0) by rw [← HS.out, List.drop_of_length_le (by omega)]; rfl)
      have hge : bs.length ≤ at_ + i := by omega
      clear hend
      go_wp2_with (first | (go_at_call 107; refine (behind_bad p t ao cap bs _ er ea _ _ _ h hb (by omega) (by omega) (by omega) (by omega)).mono ?_; rintro e w' ⟨rfl, k, rfl⟩))
      exact ⟨rfl, HE.out, k, rfl⟩
    have hlt : at_ + i < bs.length := by omega
    obtain ⟨g, rfl⟩ : ∃ g, ao = some ⟨g, 0, none⟩ := by
      rcases h.tp.row.form with ⟨_, rfl, _⟩ | ⟨g, _, rfl, _⟩
      · simp at hlt
      · exact ⟨g, rfl⟩
    have hcell := h.tp.row.cell (at_ + i) hlt
    have hb256 : bs[at_ + i].toNat < 256 := UInt8.toNat_lt _
    have HB := hideIt (List.drop_eq_getElem_cons hlt)
    generalize hbv : bs[at_ + i] = bb at *
    clear hbv hend
    have HT := hideIt (HS.out.symm.trans (by rw [HB.out]))
    have HO := hideIt (or_sevens acc bb.toNat i hacc hi)
    by_cases hlow : bb.toNat < 128
    · have hl1 : ¬ 128 ≤ (bb.toNat : Int) := by omega
      by_cases hz : bb.toNat = 0 ∧ 0 < i
      · have hz1 : ((bb.toNat : Int) == 0) = true := by simp [hz.1]
        have hi0 : 0 < (i : Int) := by omega
        have HE := hideIt (show Ending.panicked (gu 4 at_) = scanEnd bs.length at_ (scan (bs.drop at_) 0 0) by rw [HT.out, scan_zero hz]; rfl)
        clear hz
        go_wp2_with (first | (go_at_call 107; refine (behind_ok p t (some ⟨g, 0, none⟩) cap bs _ er ea _ _ _ h hb (by omega) (by omega) (by omega)).mono ?_; rintro e w' ⟨rfl, rfl⟩))
        go_region_held2 (fun w' => w'.cell? ⟨p, 0, none⟩ = some (.pointer (some ⟨t, 0, none⟩)) ∧ w'.cell? ⟨t, 1, none⟩ = some (.int .i64 at_)) (go_keep) (first | (go_at_call 91; refine (fail_two _ _ _ _).mono ?_; rintro e w' (⟨rfl, rfl⟩ | ⟨rfl, rfl, hF⟩); exact ⟨rfl, HE.out, 1, rfl⟩; skip))
        all_goals exact hF.out.elim
      · have HE := hideIt (show Ending.returned (.tuple #[.int .i64 ((acc + bb.toNat % 128 * 128 ^ i : Nat) : Int), .int .i64 ((at_ : Int) + (i : Int) + 1)]) = scanEnd bs.length at_ (scan (bs.drop at_) 0 0) by
          rw [HT.out, scan_last hz hlow]; simp [scanEnd]; omega)
        by_cases hz0 : bb.toNat = 0
        · have hz1 : ((bb.toNat : Int) == 0) = true := by simp [hz0]
          have hi0 : ¬ 0 < (i : Int) := by omega
          clear hz hz0
          go_wp2_with (first | (go_at_call 107; refine (behind_ok p t (some ⟨g, 0, none⟩) cap bs _ er ea _ _ _ h hb (by omega) (by omega) (by omega)).mono ?_; rintro e w' ⟨rfl, rfl⟩))
          go_ret2
          exact ⟨by rw [← HE.out, ← HO.out]; rfl, 0, rfl⟩
        · have hz1 : ((bb.toNat : Int) == 0) = false := by simp [hz0]
          clear hz hz0
          go_wp2_with (first | (go_at_call 107; refine (behind_ok p t (some ⟨g, 0, none⟩) cap bs _ er ea _ _ _ h hb (by omega) (by omega) (by omega)).mono ?_; rintro e w' ⟨rfl, rfl⟩))
          go_ret2
          exact ⟨by rw [← HE.out, ← HO.out]; rfl, 0, rfl⟩
    · have hl1 : 128 ≤ (bb.toNat : Int) := by omega
      have hz1 : ((bb.toNat : Int) == 0) = false := by simp; omega
      by_cases h9 : i + 1 = 9
      · have HE := hideIt (show Ending.panicked (gu 5 at_) = scanEnd bs.length at_ (scan (bs.drop at_) 0 0) by rw [HT.out, scan_big ⟨by omega, h9⟩]; rfl)
        have h91 : ((i : Int) + 1 == 9) = true := by simp; omega
        clear h9
        go_wp2_with (first | (go_at_call 107; refine (behind_ok p t (some ⟨g, 0, none⟩) cap bs _ er ea _ _ _ h hb (by omega) (by omega) (by omega)).mono ?_; rintro e w' ⟨rfl, rfl⟩))
        go_region_held2 (fun w' => w'.cell? ⟨p, 0, none⟩ = some (.pointer (some ⟨t, 0, none⟩)) ∧ w'.cell? ⟨t, 1, none⟩ = some (.int .i64 at_)) (go_keep) (first | (go_at_call 91; refine (fail_two _ _ _ _).mono ?_; rintro e w' (⟨rfl, rfl⟩ | ⟨rfl, rfl, hF⟩); exact ⟨rfl, HE.out, 1, rfl⟩; skip))
        all_goals exact hF.out.elim
      · have HE := hideIt (HT.out.trans (scan_more (by omega) hlow))
        have h91 : ((i : Int) + 1 == 9) = false := by simp; omega
        have hi7 : i ≤ 7 := by omega
        clear h9
        go_wp2_with (first | (go_at_call 107; refine (behind_ok p t (some ⟨g, 0, none⟩) cap bs _ er ea _ _ _ h hb (by omega) (by omega) (by omega)).mono ?_; rintro e w' ⟨rfl, rfl⟩))
        go_round
        case measure => simp [intOf]; omega
        case rel => exact ⟨i + 1, acc + bb.toNat % 128 * 128 ^ i, by rw [← HO.out], by go_num, by omega, pow_acc _ _ _ hacc, by omega, HE.out.symm⟩

end Go.Proofs.YtojgikaoiegmpaaGreatDoor

/- The reader's methods: numbers, the place, the fault. -/
namespace Go.Proofs.YtojgikaoiegmpaaGreatDoor
open Go.RowKit Go.IntWalk
set_option linter.unusedSimpArgs false
set_option linter.unusedVariables false
set_option maxRecDepth 100000

section
variable {w : World} {p t d : Nat} {ao : Option Addr} {cap : Nat} {bs : List UInt8} {at_ er ea : Int}

theorem RAt.apart (h : RAt w p t ao cap bs at_ er ea) : ¬ Go.Proofs.YtojgikaoiegmpaaGreatDoor.blk ao p := by
  rintro ⟨a, rfl, hb⟩
  rcases h.tp.row.form with ⟨h0, _⟩ | ⟨g, cur, h0, hh, _⟩
  · cases h0
  · obtain rfl := Option.some.inj h0
    simp only at hb
    subst hb
    have := h.box.symm.trans hh
    simp at this
theorem RAt.pset (h : RAt w p t ao cap bs at_ er ea) : ¬ wset t ao p := by
  rintro (e | e)
  · exact h.ne e
  · exact h.apart e
theorem RAt.setlt (h : RAt w p t ao cap bs at_ er ea) {k : Nat} (hk : wset t ao k) : k < w.heap.size := by
  rcases hk with rfl | e
  · exact h.tp.lt
  · exact h.tp.row.lt e

/-- do over a reader's step that goes well: what it told lies in the block d. -/
theorem rdo_ok (f : Nat) (caps : Array Value) (o : Obj) (n : Int) (h : RAt w p t ao cap bs at_ 0 ea) (hd : d < w.heap.size) (hdt : ¬ wset t ao d) (hdp : d ≠ p)
    (hcf : ∀ w' : World, (callFunc f caps).run Tryz.prog w' = .ok (.enter f caps) w')
    (hstep : Calls Tryz.prog f caps (boxed w t).drew fun e w' => e = .returned (.int .i64 n) ∧ w'.heap[d]? = some o ∧ Fr (fun k => k = d) (boxed w t).drew w') :
    Calls Tryz.prog 71 #[.pointer (some ⟨t, 0, none⟩), .func (.func f) #[] caps] w fun e w' => e = .returned (.tuple #[]) ∧ w'.heap[d]? = some o ∧ RAt w' p t ao cap bs n 0 ea ∧ Fr (fun k => k = t ∨ k = d) w w' := by
  have hb : RAt (boxed w t).drew p t ao cap bs at_ 0 ea := h.fr (Fr.boxed w t (fun _ => False)) (fun e => e) (fun _ _ e => e)
  refine do_step t f caps w _ _ h.tp.c2 h.tp.lt hcf hstep ?_ ?_ ?_
  · rintro e w' ⟨rfl, ho, hF⟩
    have hR := hb.fr hF (fun e => hdp e.symm) (fun k hk e => hdt (by subst e; exact hk))
    exact stepEnd_of hR.tp hF (by omega) h.tp.lt (Or.inl ⟨_, rfl⟩)
  · rintro m w2 ⟨he, ho, hF⟩
    obtain rfl : m = n := by simpa using he
    have hR := hb.fr hF (fun e => hdp e.symm) (fun k hk e => hdt (by subst e; exact hk))
    have hne : d ≠ t := fun e => hdt (Or.inl e)
    refine ⟨rfl, (heap_setCell_other _ _ _ _ hne).trans ho, hR.moved m, ?_⟩
    exact ((Fr.boxed w t (fun k => k = t ∨ k = d)).trans hF (fun i _ e => Or.inr e)).trans (Fr.moved w2 t _) (fun i _ e => Or.inl e)
  · rintro er a w2 ⟨he, _⟩
    cases he

/-- do over a reader's step that gives up. -/
theorem rdo_bad (f : Nat) (caps : Array Value) (e0 a0 : Int) (h : RAt w p t ao cap bs at_ 0 ea) (hd : d < w.heap.size) (hdt : ¬ wset t ao d)
    (hcf : ∀ w' : World, (callFunc f caps).run Tryz.prog w' = .ok (.enter f caps) w')
    (hstep : Calls Tryz.prog f caps (boxed w t).drew fun e w' => e = .panicked (gu e0 a0) ∧ ∃ k, w' = (boxed w t).drew.drewN k) :
    Calls Tryz.prog 71 #[.pointer (some ⟨t, 0, none⟩), .func (.func f) #[] caps] w fun e w' => e = .returned (.tuple #[]) ∧ w'.heap[d]? = w.heap[d]? ∧ RAt w' p t ao cap bs at_ e0 a0 ∧ Fr (fun k => k = t ∨ k = d) w w' := by
  have hF0 : ∀ k, Fr (fun _ => False) w ((boxed w t).drew.drewN k) := fun k => (Fr.boxed w t _).drewN k
  have hb : ∀ k, RAt ((boxed w t).drew.drewN k) p t ao cap bs at_ 0 ea := fun k => h.fr (hF0 k) (fun e => e) (fun _ _ e => e)
  refine do_step t f caps w _ _ h.tp.c2 h.tp.lt hcf hstep ?_ ?_ ?_
  · rintro e w' ⟨rfl, k, rfl⟩
    exact stepEnd_of (hb k).tp ((Fr.refl (fun _ => False) _).drewN k) (fun e => e) h.tp.lt (Or.inr ⟨_, _, rfl⟩)
  · rintro m w2 ⟨he, _⟩
    cases he
  · rintro er a w2 ⟨he, k, rfl⟩
    obtain ⟨rfl, rfl⟩ : e0 = er ∧ a0 = a := by simpa [gu, eq_comm] using he
    have hne : d ≠ t := fun e => hdt (Or.inl e)
    have hfr := ((hF0 k).mono (S' := fun k => k = t) (fun _ e => e.elim)).trans (Fr.faulted ((boxed w t).drew.drewN k) t (.int .i64 e0) (.int .i64 a0) (.cells #[.int .i64 e0, .int .i64 a0] 128)) (fun i _ e => e)
    exact ⟨rfl, hfr.block d hd hne, (hb k).faulted _ _ _, hfr.mono (fun k e => Or.inl e)⟩

theorem rdo_shut (fv : Value) (h : RAt w p t ao cap bs at_ er ea) (her : (er != 0) = true) (hd : d < w.heap.size) :
    Calls Tryz.prog 71 #[.pointer (some ⟨t, 0, none⟩), fv] w fun e w' => e = .returned (.tuple #[]) ∧ w'.heap[d]? = w.heap[d]? ∧ RAt w' p t ao cap bs at_ er ea ∧ Fr (fun k => k = t ∨ k = d) w w' := by
  refine (do_shut t fv w er h.tp.c2 her h.tp.lt).mono ?_
  rintro e w' ⟨rfl, rfl⟩
  have hF : Fr (fun _ => False) w (boxed w t) := (Fr.refl _ w).alloc _
  exact ⟨rfl, hF.block d hd (fun e => e), h.fr hF (fun e => e) (fun _ _ e => e), hF.mono (fun _ e => e.elim)⟩
end

/-- What stands as a number at a place, held against bounds: the fault, or the number and the place behind it. -/
def rdNum (bs : List UInt8) (at_ : Nat) (low high above : Int) : Sum (Int × Int) (Nat × Nat) :=
  match scan (bs.drop at_) 0 0 with
  | .error 0 => .inl (4, bs.length)
  | .error 1 => .inl (5, at_)
  | .error _ => .inl (4, at_)
  | .ok (n, k) => if (n : Int) < low then .inl (5, at_) else if high < (n : Int) then .inl (above, at_) else .inr (n, at_ + k)

theorem scan_bound (bs : List UInt8) : ∀ (i acc : Nat), i ≤ 8 → acc < 128 ^ i → ∀ n k, scan bs i acc = .ok (n, k) → n < 128 ^ 9 ∧ i < k ∧ k ≤ i + bs.length := by
  induction bs with
  | nil => intro i acc _ _ n k h; simp [scan] at h
  | cons b bs ih =>
    intro i acc hi hacc n k h
    by_cases h1 : 128 ≤ b.toNat ∧ i + 1 = 9
    · rw [scan_big h1] at h; cases h
    by_cases h2 : b.toNat = 0 ∧ 0 < i
    · rw [scan_zero h2] at h; cases h
    have hp := pow_acc acc b.toNat i hacc
    by_cases h3 : b.toNat < 128
    · rw [scan_last h2 h3] at h
      obtain ⟨rfl, rfl⟩ : _ = n ∧ _ = k := by simpa using h
      refine ⟨Nat.lt_of_lt_of_le hp (Nat.pow_le_pow_right (by decide) (by omega)), by omega, by simp⟩
    · rw [scan_more h1 h3] at h
      have := ih (i + 1) _ (by omega) hp n k h
      simp only [List.length_cons]
      omega

theorem scan_ok {bs : List UInt8} {at_ n k : Nat} (h : scan (bs.drop at_) 0 0 = .ok (n, k)) (hat : at_ ≤ bs.length) : n ≤ 9223372036854775807 ∧ 0 < k ∧ at_ + k ≤ bs.length := by
  have := scan_bound (bs.drop at_) 0 0 (by omega) (by simp) n k h
  rw [show (128 : Nat) ^ 9 = 9223372036854775808 by decide, List.length_drop] at this
  omega

/-- The number at a place, as number tells it. -/
theorem rnumber_bad (p t : Nat) (ao : Option Addr) (cap : Nat) (bs : List UInt8) (at_ : Nat) (er ea : Int) (w : World) (h : RAt w p t ao cap bs at_ er ea) (hb : bs.length ≤ 140737488355328) (hat : at_ ≤ bs.length) (x : Nat) (hx : scan (bs.drop at_) 0 0 = .error x) :
    Calls Tryz.prog 101 #[.pointer (some ⟨p, 0, none⟩)] w fun e w' => (∃ e0 a0, e = .panicked (gu e0 a0) ∧ ∀ low high above, rdNum bs at_ low high above = .inl (e0, a0)) ∧ ∃ k, w' = w.drewN k := by
  refine (rnumber_any p t ao cap bs at_ er ea w h hb hat).mono ?_
  rintro e w' ⟨rfl, hk⟩
  refine ⟨?_, hk⟩
  rw [hx]
  match x, hx with
  | 0, hx => exact ⟨_, _, rfl, fun _ _ _ => by simp [rdNum, hx]⟩
  | 1, hx => exact ⟨_, _, rfl, fun _ _ _ => by simp [rdNum, hx]⟩
  | x + 2, hx => exact ⟨_, _, rfl, fun _ _ _ => by simp [rdNum, hx]⟩

theorem rnumber_ok (p t : Nat) (ao : Option Addr) (cap : Nat) (bs : List UInt8) (at_ : Nat) (er ea : Int) (w : World) (h : RAt w p t ao cap bs at_ er ea) (hb : bs.length ≤ 140737488355328) (hat : at_ ≤ bs.length) (n k : Nat) (hx : scan (bs.drop at_) 0 0 = .ok (n, k)) :
    Calls Tryz.prog 101 #[.pointer (some ⟨p, 0, none⟩)] w fun e w' => e = .returned (.tuple #[.int .i64 n, .int .i64 (at_ + k : Nat)]) ∧ ∃ k, w' = w.drewN k := by
  refine (rnumber_any p t ao cap bs at_ er ea w h hb hat).mono ?_
  rintro e w' ⟨rfl, hk⟩
  refine ⟨?_, hk⟩
  rw [hx]
  simp [scanEnd]

theorem RAt.drewN {w : World} {p t : Nat} {ao : Option Addr} {cap : Nat} {bs : List UInt8} {at_ er ea : Int} (h : RAt w p t ao cap bs at_ er ea) (k : Nat) : RAt (w.drewN k) p t ao cap bs at_ er ea := h.fr ((Fr.refl (fun _ => False) w).drewN k) (fun e => e) (fun _ _ e => e)

set_option maxHeartbeats 1000000 in
theorem rint1_bad (p t a b c d : Nat) (ao : Option Addr) (cap : Nat) (bs : List UInt8) (at_ : Nat) (er ea low high e0 a0 : Int) (w : World) (h : RAt w p t ao cap bs at_ er ea) (hb : bs.length ≤ 140737488355328) (hat : at_ ≤ bs.length)
    (ha : w.cell? ⟨a, 0, none⟩ = some (.pointer (some ⟨p, 0, none⟩))) (hlo : w.cell? ⟨b, 0, none⟩ = some (.int .i64 low)) (hhi : w.cell? ⟨c, 0, none⟩ = some (.int .i64 high)) (hr : rdNum bs at_ low high 5 = .inl (e0, a0)) :
    Calls Tryz.prog 108 #[.pointer (some ⟨a, 0, none⟩), .pointer (some ⟨b, 0, none⟩), .pointer (some ⟨c, 0, none⟩), .pointer (some ⟨d, 0, none⟩)] w fun e w' => e = .panicked (gu e0 a0) ∧ ∃ k, w' = w.drewN k := by
  cases hx : scan (bs.drop at_) 0 0 with
  | error x =>
    have HN := hideIt (rnumber_bad p t ao cap bs at_ er ea w h hb hat x hx)
    clear hx
    have HR := hideIt hr
    clear hr
    go_enter Tryz.func108, Tryz.ntmps108
    go_wp2_with fail
    refine Calls.mono HN.out ?_
    rintro e w' ⟨⟨e1, a1, rfl, hall⟩, k, rfl⟩
    have e2 := HR.out.symm.trans (hall low high 5)
    obtain ⟨rfl, rfl⟩ : e0 = e1 ∧ a0 = a1 := by simpa using e2
    exact ⟨rfl, rfl, k, rfl⟩
  | ok nk =>
    obtain ⟨n, m⟩ := nk
    have hsc := scan_ok hx hat
    have hbad : ((n : Int) < low ∨ high < (n : Int)) ∧ e0 = 5 ∧ a0 = at_ := by
      simp only [rdNum, hx] at hr
      split at hr
      · simp at hr; exact ⟨Or.inl ‹_›, hr.1.symm, hr.2.symm⟩
      · split at hr
        · simp at hr; exact ⟨Or.inr ‹_›, hr.1.symm, hr.2.symm⟩
        · cases hr
    obtain ⟨hcase, rfl, rfl⟩ := hbad
    have HN := hideIt (rnumber_ok p t ao cap bs at_ er ea w h hb hat n m hx)
    clear hx hr
    by_cases hl : (n : Int) < low
    · clear hcase
      go_enter Tryz.func108, Tryz.ntmps108
      go_wp2_with fail
      refine Calls.mono HN.out ?_
      rintro e w' ⟨rfl, k, rfl⟩
      have hc := h.c
      have h1 := h.tp.c1
      go_wp2_with fail
      go_region_held2 (fun w' => w'.cell? ⟨a, 0, none⟩ = some (.pointer (some ⟨p, 0, none⟩)) ∧ w'.cell? ⟨p, 0, none⟩ = some (.pointer (some ⟨t, 0, none⟩)) ∧ w'.cell? ⟨t, 1, none⟩ = some (.int .i64 at_)) (go_keep)
        (first | (go_at_call 91; refine (fail_two _ _ _ _).mono ?_; rintro e w' (⟨rfl, rfl⟩ | ⟨rfl, rfl, hF⟩); exact ⟨rfl, rfl, k + 1, rfl⟩; skip))
      all_goals exact hF.out.elim
    · have hh : high < (n : Int) := hcase.resolve_left hl
      clear hcase
      go_enter Tryz.func108, Tryz.ntmps108
      go_wp2_with fail
      refine Calls.mono HN.out ?_
      rintro e w' ⟨rfl, k, rfl⟩
      have hc := h.c
      have h1 := h.tp.c1
      go_wp2_with fail
      go_region_held2 (fun w' => w'.cell? ⟨a, 0, none⟩ = some (.pointer (some ⟨p, 0, none⟩)) ∧ w'.cell? ⟨p, 0, none⟩ = some (.pointer (some ⟨t, 0, none⟩)) ∧ w'.cell? ⟨t, 1, none⟩ = some (.int .i64 at_)) (go_keep)
        (first | (go_at_call 91; refine (fail_two _ _ _ _).mono ?_; rintro e w' (⟨rfl, rfl⟩ | ⟨rfl, rfl, hF⟩); exact ⟨rfl, rfl, k + 1, rfl⟩; skip))
      all_goals exact hF.out.elim

theorem rint1_ok (p t a b c d : Nat) (ao : Option Addr) (cap : Nat) (bs : List UInt8) (at_ : Nat) (er ea low high v : Int) (n m : Nat) (w : World) (h : RAt w p t ao cap bs at_ er ea) (hb : bs.length ≤ 140737488355328) (hat : at_ ≤ bs.length)
    (ha : w.cell? ⟨a, 0, none⟩ = some (.pointer (some ⟨p, 0, none⟩))) (hlo : w.cell? ⟨b, 0, none⟩ = some (.int .i64 low)) (hhi : w.cell? ⟨c, 0, none⟩ = some (.int .i64 high)) (hd : w.heap[d]? = some (.cells #[.int .i64 v] 3 (0, 0))) (hr : rdNum bs at_ low high 5 = .inr (n, m)) :
    Calls Tryz.prog 108 #[.pointer (some ⟨a, 0, none⟩), .pointer (some ⟨b, 0, none⟩), .pointer (some ⟨c, 0, none⟩), .pointer (some ⟨d, 0, none⟩)] w fun e w' => e = .returned (.int .i64 m) ∧ w'.heap[d]? = some (.cells #[.int .i64 n] 3 (0, 0)) ∧ Fr (fun k => k = d) w w' := by
  cases hx : scan (bs.drop at_) 0 0 with
  | error x =>
    match x, hx with
    | 0, hx => simp [rdNum, hx] at hr
    | 1, hx => simp [rdNum, hx] at hr
    | x + 2, hx => simp [rdNum, hx] at hr
  | ok nk =>
    obtain ⟨n', m'⟩ := nk
    have hsc := scan_ok hx hat
    have hgood : ¬ (n' : Int) < low ∧ ¬ high < (n' : Int) ∧ n' = n ∧ at_ + m' = m := by
      simp only [rdNum, hx] at hr
      split at hr
      · cases hr
      · split at hr
        · cases hr
        · simp at hr; exact ⟨‹_›, ‹_›, hr⟩
    obtain ⟨hl, hh, rfl, rfl⟩ := hgood
    have HN := hideIt (rnumber_ok p t ao cap bs at_ er ea w h hb hat n' m' hx)
    have hdc : w.cell? ⟨d, 0, none⟩ = some (.int .i64 v) := by rw [cell_of_row w d 0 _ _ _ hd]; rfl
    have hdz : w.frozen? ⟨d, 0, none⟩ = false := frozen_of_row w d 0 _ _ hd
    clear hx hr
    go_enter Tryz.func108, Tryz.ntmps108
    go_wp2_with fail
    refine Calls.mono HN.out ?_
    rintro e w' ⟨rfl, k, rfl⟩
    go_wp2_with fail
    go_ret
    refine ⟨rfl, ?_, ((Fr.refl (fun k => k = d) w).drewN k).setCell (fun _ => rfl) _⟩
    exact heap_setCell_same (w.drewN k) d 0 _ _ _ hd

end Go.Proofs.YtojgikaoiegmpaaGreatDoor

/- The reader's methods Int, Count, At, Left, Fault, End. -/
namespace Go.Proofs.YtojgikaoiegmpaaGreatDoor
open Go.RowKit Go.IntWalk
set_option linter.unusedSimpArgs false
set_option linter.unusedVariables false
set_option maxRecDepth 100000

/-- The world in which Int's step is handed to do. -/
def rboxes (w : World) (p : Nat) (low high : Int) : World := (((w.alloc (.cells #[.pointer (some ⟨p, 0, none⟩)] 96)).alloc (.cells #[.int .i64 low] 3)).alloc (.cells #[.int .i64 high] 3)).alloc (.cells #[.int .i64 0] 3)
theorem rboxes_size (w : World) (p : Nat) (low high : Int) : (rboxes w p low high).heap.size = w.heap.size + 4 := by simp [rboxes]
theorem Fr.rboxes (w : World) (p : Nat) (low high : Int) (S : Nat → Prop) : Fr S w (Go.Proofs.YtojgikaoiegmpaaGreatDoor.rboxes w p low high) := ((((Fr.refl S w).alloc _).alloc _).alloc _).alloc _

theorem heap_new {w : World} {o : Obj} {k : Nat} (hk : k = w.heap.size) : (w.alloc o).heap[k]? = some o := by subst hk; exact heap_alloc_new w o
theorem heap_old {w : World} {o o' : Obj} {k : Nat} (h : w.heap[k]? = some o') : (w.alloc o).heap[k]? = some o' := (Below.heap_alloc w o k (Array.getElem?_eq_some_iff.1 h).1).trans h

theorem rboxes_get (w : World) (p : Nat) (low high : Int) :
    (rboxes w p low high).heap[w.heap.size]? = some (.cells #[.pointer (some ⟨p, 0, none⟩)] 96 (0, 0)) ∧ (rboxes w p low high).heap[w.heap.size + 1]? = some (.cells #[.int .i64 low] 3 (0, 0)) ∧
    (rboxes w p low high).heap[w.heap.size + 1 + 1]? = some (.cells #[.int .i64 high] 3 (0, 0)) ∧ (rboxes w p low high).heap[w.heap.size + 1 + 1 + 1]? = some (.cells #[.int .i64 0] 3 (0, 0)) :=
  ⟨heap_old (heap_old (heap_old (heap_new rfl))), heap_old (heap_old (heap_new (by simp))), heap_old (heap_new (by simp)), heap_new (by simp)⟩

theorem cellOfHeap {w : World} {g : Nat} {cs : Array Value} {T : TypeId} (h : w.heap[g]? = some (.cells cs T (0, 0))) (i : Nat) {v : Value} (hv : cs[i]? = some v) : w.cell? ⟨g, i, none⟩ = some v := (cell_of_row w g i _ _ _ h).trans hv

theorem rint_via (p t : Nat) (low high v : Int) (w : World) (R : World → Prop) (hc : w.cell? ⟨p, 0, none⟩ = some (.pointer (some ⟨t, 0, none⟩))) (hpl : p < w.heap.size)
    (hdo : Calls Tryz.prog 71 #[.pointer (some ⟨t, 0, none⟩), .func (.func 108) #[] #[.pointer (some ⟨w.heap.size, 0, none⟩), .pointer (some ⟨w.heap.size + 1, 0, none⟩), .pointer (some ⟨w.heap.size + 1 + 1, 0, none⟩), .pointer (some ⟨w.heap.size + 1 + 1 + 1, 0, none⟩)]] (rboxes w p low high)
      fun e w' => e = .returned (.tuple #[]) ∧ w'.heap[w.heap.size + 1 + 1 + 1]? = some (.cells #[.int .i64 v] 3 (0, 0)) ∧ R w') :
    Calls Tryz.prog 102 #[.pointer (some ⟨p, 0, none⟩), .int .i64 low, .int .i64 high] w fun e w' => e = .returned (.int .i64 v) ∧ R w' := by
  have hmf : ∀ (fn : Fn) (first cap : Array Value) (w : World), (Instr.makeFunc fn first cap).run Tryz.prog w = .ok (.func fn first cap) w := fun _ _ _ _ => rfl
  have HD := hideIt hdo
  have hc4 := fun o1 o2 o3 o4 => cellA (cellA (cellA (cellA hc o1) o2) o3) o4
  clear hdo
  go_enter Tryz.func102, Tryz.ntmps102
  go_wp2_with (go_at_call 85; refine (rnone_some p t _ (cellA (cellA (cellA hc _) _) _)).mono ?_; rintro e w' ⟨rfl, rfl⟩)
  refine Calls.mono HD.out ?_
  rintro e w' ⟨rfl, hv, hr⟩
  have HR := hideIt hr
  have hcv := cellOfHeap hv 0 rfl
  clear hr hv
  go_wp2_with fail
  go_ret
  exact ⟨rfl, HR.out⟩

/-- What Int tells, and the state behind it: the place, the fault. -/
def rInt (bs : List UInt8) (low high : Int) (s : Nat × Int × Int) : Int × (Nat × Int × Int) :=
  if s.2.1 ≠ 0 then (0, s) else match rdNum bs s.1 low high 5 with
    | .inl (e, a) => (0, (s.1, e, a))
    | .inr (n, m) => (n, (m, 0, s.2.2))

/-- A reader, by its place and its fault. -/
def ROk (w : World) (p t : Nat) (ao : Option Addr) (cap : Nat) (bs : List UInt8) (s : Nat × Int × Int) : Prop := RAt w p t ao cap bs s.1 s.2.1 s.2.2 ∧ s.1 ≤ bs.length

theorem rdNum_le {bs : List UInt8} {at_ n m : Nat} {low high above : Int} (h : rdNum bs at_ low high above = .inr (n, m)) (hat : at_ ≤ bs.length) : m ≤ bs.length := by
  unfold rdNum at h
  split at h
  · cases h
  · cases h
  · cases h
  · rename_i n' k' hx
    have := scan_ok hx hat
    split at h
    · cases h
    · split at h
      · cases h
      · simp at h; omega

theorem rint_any (p t : Nat) (ao : Option Addr) (cap : Nat) (bs : List UInt8) (s : Nat × Int × Int) (low high : Int) (w : World) (h : ROk w p t ao cap bs s) (hb : bs.length ≤ 140737488355328) :
    Calls Tryz.prog 102 #[.pointer (some ⟨p, 0, none⟩), .int .i64 low, .int .i64 high] w fun e w' => e = .returned (.int .i64 (rInt bs low high s).1) ∧ ROk w' p t ao cap bs (rInt bs low high s).2 ∧ Fr (fun k => k = t) w w' := by
  obtain ⟨at_, er, ea⟩ := s
  obtain ⟨hR, hat⟩ := h
  simp only at hR hat
  obtain ⟨g0, g1, g2, g3⟩ := rboxes_get w p low high
  have hsz := rboxes_size w p low high
  have hB : RAt (rboxes w p low high) p t ao cap bs at_ er ea := hR.fr (Fr.rboxes w p low high (fun _ => False)) (fun e => e) (fun _ _ e => e)
  have hlt := hR.lt
  have hd : w.heap.size + 1 + 1 + 1 < (rboxes w p low high).heap.size := by omega
  have hdt : ¬ wset t ao (w.heap.size + 1 + 1 + 1) := fun e => by have := hR.setlt e; omega
  have hB2 : RAt (boxed (rboxes w p low high) t).drew p t ao cap bs at_ er ea := hB.fr (Fr.boxed _ t (fun _ => False)) (fun e => e) (fun _ _ e => e)
  have hbx : ∀ k, k < (rboxes w p low high).heap.size → (boxed (rboxes w p low high) t).drew.heap[k]? = (rboxes w p low high).heap[k]? := fun k hk => (Fr.boxed _ t (fun _ => False)).block k hk (fun e => e)
  have hfin : ∀ w' : World, Fr (fun k => k = t ∨ k = w.heap.size + 1 + 1 + 1) (rboxes w p low high) w' → Fr (fun k => k = t) w w' := fun w' hF =>
    (Fr.rboxes w p low high _).trans hF (fun i hi e => e.resolve_right (by omega))
  by_cases her : er = 0
  · subst her
    cases hr : rdNum bs at_ low high 5 with
    | inl ea0 =>
      obtain ⟨e0, a0⟩ := ea0
      rw [show rInt bs low high (at_, 0, ea) = (0, (at_, e0, a0)) by simp [rInt, hr]]
      refine rint_via p t low high 0 w (fun w' => ROk w' p t ao cap bs (at_, e0, a0) ∧ Fr (fun k => k = t) w w') hR.c hlt ?_
      refine (rdo_bad (d := w.heap.size + 1 + 1 + 1) 108 _ e0 a0 hB hd hdt (fun _ => by kernel_rfl) (rint1_bad p t _ _ _ _ ao cap bs at_ 0 ea low high e0 a0 _ hB2 hb hat
        (cellOfHeap ((hbx _ (by omega)).trans g0) 0 rfl) (cellOfHeap ((hbx _ (by omega)).trans g1) 0 rfl) (cellOfHeap ((hbx _ (by omega)).trans g2) 0 rfl) hr)).mono ?_
      rintro e w' ⟨rfl, h1, h2, h3⟩
      exact ⟨rfl, h1.trans g3, ⟨h2, hat⟩, hfin w' h3⟩
    | inr nm =>
      obtain ⟨n, m⟩ := nm
      rw [show rInt bs low high (at_, 0, ea) = ((n : Int), (m, 0, ea)) by simp [rInt, hr]]
      refine rint_via p t low high n w (fun w' => ROk w' p t ao cap bs (m, 0, ea) ∧ Fr (fun k => k = t) w w') hR.c hlt ?_
      refine (rdo_ok (d := w.heap.size + 1 + 1 + 1) 108 _ _ m hB hd hdt (by omega) (fun _ => by kernel_rfl) (rint1_ok p t _ _ _ _ ao cap bs at_ 0 ea low high 0 n m _ hB2 hb hat
        (cellOfHeap ((hbx _ (by omega)).trans g0) 0 rfl) (cellOfHeap ((hbx _ (by omega)).trans g1) 0 rfl) (cellOfHeap ((hbx _ (by omega)).trans g2) 0 rfl) ((hbx _ (by omega)).trans g3) hr)).mono ?_
      rintro e w' ⟨rfl, h1, h2, h3⟩
      exact ⟨rfl, h1, ⟨h2, rdNum_le hr hat⟩, hfin w' h3⟩
  · rw [show rInt bs low high (at_, er, ea) = (0, (at_, er, ea)) by simp [rInt, her]]
    refine rint_via p t low high 0 w (fun w' => ROk w' p t ao cap bs (at_, er, ea) ∧ Fr (fun k => k = t) w w') hR.c hlt ?_
    refine (rdo_shut (d := w.heap.size + 1 + 1 + 1) _ hB (by simpa using her) hd).mono ?_
    rintro e w' ⟨rfl, h1, h2, h3⟩
    exact ⟨rfl, h1.trans g3, ⟨h2, hat⟩, hfin w' h3⟩

theorem rat_any (p t : Nat) (ao : Option Addr) (cap : Nat) (bs : List UInt8) (s : Nat × Int × Int) (w : World) (h : ROk w p t ao cap bs s) : Calls Tryz.prog 65 #[.pointer (some ⟨p, 0, none⟩)] w fun e w' => e = .returned (.int .i64 s.1) ∧ w' = w := by
  have hc := h.1.c
  have h1 := h.1.tp.c1
  go_enter Tryz.func65, Tryz.ntmps65
  go_wp2_with (go_at_call 85; refine (rnone_some p t _ hc).mono ?_; rintro e w' ⟨rfl, rfl⟩)
  go_ret
  exact ⟨rfl, rfl⟩


theorem rfault_any (p t : Nat) (ao : Option Addr) (cap : Nat) (bs : List UInt8) (s : Nat × Int × Int) (w : World) (h : ROk w p t ao cap bs s) : Calls Tryz.prog 63 #[.pointer (some ⟨p, 0, none⟩)] w fun e w' => e = .returned (.agg #[.int .i64 s.2.1, .int .i64 s.2.2]) ∧ Fr (fun _ => False) w w' := by
  obtain ⟨at_, er, ea⟩ := s
  obtain ⟨hR, hat⟩ := h
  have hc := hR.c
  have h2 := hR.tp.c2
  have h3 := hR.tp.c3
  have hpl := hR.lt
  have htl := hR.tp.lt
  simp only at h2 h3 ⊢
  go_enter Tryz.func63, Tryz.ntmps63
  go_wp2_with (go_at_call 85; refine (rnone_some p t _ (cellA hc _)).mono ?_; rintro e w' ⟨rfl, rfl⟩)
  exact bodyPost_ret (v := .agg #[.int .i64 er, .int .i64 ea]) (by simp [results, Tryz.results63, go_sem]) rfl ⟨rfl, (Fr.refl _ _).alloc _⟩

end Go.Proofs.YtojgikaoiegmpaaGreatDoor

/- The reader's Count and Text. -/
namespace Go.Proofs.YtojgikaoiegmpaaGreatDoor
open Go.RowKit Go.IntWalk
set_option linter.unusedSimpArgs false
set_option linter.unusedVariables false
set_option maxRecDepth 100000

theorem drewN_drewN (w : World) (k k' : Nat) : (w.drewN k).drewN k' = w.drewN (k + k') := by simp [World.drewN, Nat.add_assoc]

theorem rdNum_err {bs : List UInt8} {at_ x : Nat} {low high above : Int} {n m : Nat} (hx : scan (bs.drop at_) 0 0 = .error x) (hr : rdNum bs at_ low high above = .inr (n, m)) : False := by
  match x, hx with
  | 0, hx => simp [rdNum, hx] at hr
  | 1, hx => simp [rdNum, hx] at hr
  | x + 2, hx => simp [rdNum, hx] at hr

set_option maxHeartbeats 1000000 in
theorem count_bad (p t : Nat) (ao : Option Addr) (cap : Nat) (bs : List UInt8) (at_ : Nat) (er ea most e0 a0 : Int) (w : World) (h : RAt w p t ao cap bs at_ er ea) (hb : bs.length ≤ 140737488355328) (hat : at_ ≤ bs.length) (hr : rdNum bs at_ 0 most 3 = .inl (e0, a0)) :
    Calls Tryz.prog 87 #[.pointer (some ⟨p, 0, none⟩), .int .i64 most] w fun e w' => e = .panicked (gu e0 a0) ∧ ∃ k, w' = w.drewN k := by
  cases hx : scan (bs.drop at_) 0 0 with
  | error x =>
    have HN := hideIt (rnumber_bad p t ao cap bs at_ er ea w h hb hat x hx)
    clear hx
    have HR := hideIt hr
    clear hr
    go_enter Tryz.func87, Tryz.ntmps87
    go_wp2_with fail
    refine Calls.mono HN.out ?_
    rintro e w' ⟨⟨e1, a1, rfl, hall⟩, k, rfl⟩
    have e2 := HR.out.symm.trans (hall 0 most 3)
    obtain ⟨rfl, rfl⟩ : e0 = e1 ∧ a0 = a1 := by simpa using e2
    exact ⟨rfl, rfl, k, rfl⟩
  | ok nk =>
    obtain ⟨n, m⟩ := nk
    have hsc := scan_ok hx hat
    have hbad : most < (n : Int) ∧ e0 = 3 ∧ a0 = at_ := by
      simp only [rdNum, hx] at hr
      rw [if_neg (by omega)] at hr
      split at hr
      · simp at hr; exact ⟨‹_›, hr.1.symm, hr.2.symm⟩
      · cases hr
    obtain ⟨hh, rfl, rfl⟩ := hbad
    have HN := hideIt (rnumber_ok p t ao cap bs at_ er ea w h hb hat n m hx)
    clear hx hr
    go_enter Tryz.func87, Tryz.ntmps87
    go_wp2_with fail
    refine Calls.mono HN.out ?_
    rintro e w' ⟨rfl, k, rfl⟩
    have hc := h.c
    have h1 := h.tp.c1
    go_wp2_with fail
    go_region_held2 (fun w' => w'.cell? ⟨p, 0, none⟩ = some (.pointer (some ⟨t, 0, none⟩)) ∧ w'.cell? ⟨t, 1, none⟩ = some (.int .i64 at_)) (go_keep)
      (first | (go_at_call 91; refine (fail_two _ _ _ _).mono ?_; rintro e w' (⟨rfl, rfl⟩ | ⟨rfl, rfl, hF⟩); exact ⟨rfl, rfl, k + 1, rfl⟩; skip))
    all_goals exact hF.out.elim

theorem count_ok (p t : Nat) (ao : Option Addr) (cap : Nat) (bs : List UInt8) (at_ : Nat) (er ea most : Int) (n m : Nat) (w : World) (h : RAt w p t ao cap bs at_ er ea) (hb : bs.length ≤ 140737488355328) (hat : at_ ≤ bs.length) (hr : rdNum bs at_ 0 most 3 = .inr (n, m)) :
    Calls Tryz.prog 87 #[.pointer (some ⟨p, 0, none⟩), .int .i64 most] w fun e w' => e = .returned (.tuple #[.int .i64 n, .int .i64 m]) ∧ ∃ k, w' = w.drewN k := by
  cases hx : scan (bs.drop at_) 0 0 with
  | error x => exact (rdNum_err hx hr).elim
  | ok nk =>
    obtain ⟨n', m'⟩ := nk
    have hsc := scan_ok hx hat
    have hgood : ¬ most < (n' : Int) ∧ n' = n ∧ at_ + m' = m := by
      simp only [rdNum, hx] at hr
      rw [if_neg (by omega)] at hr
      split at hr
      · cases hr
      · simp at hr; exact ⟨‹_›, hr⟩
    obtain ⟨hh, rfl, rfl⟩ := hgood
    have HN := hideIt (rnumber_ok p t ao cap bs at_ er ea w h hb hat n' m' hx)
    clear hx hr
    go_enter Tryz.func87, Tryz.ntmps87
    go_wp2_with fail
    refine Calls.mono HN.out ?_
    rintro e w' ⟨rfl, k, rfl⟩
    go_wp2_with fail
    go_ret2
    exact ⟨rfl, k, rfl⟩

theorem rdNum_room {bs : List UInt8} {at_ n m : Nat} {low high above : Int} (h : rdNum bs at_ low high above = .inr (n, m)) (hat : at_ ≤ bs.length) : n ≤ 9223372036854775807 ∧ at_ < m ∧ m ≤ bs.length := by
  unfold rdNum at h
  split at h
  · cases h
  · cases h
  · cases h
  · rename_i n' k' hx
    have := scan_ok hx hat
    split at h
    · cases h
    · split at h
      · cases h
      · simp at h; omega

theorem rcount1_bad (p t a b d : Nat) (ao : Option Addr) (cap : Nat) (bs : List UInt8) (at_ : Nat) (er ea most e0 a0 : Int) (w : World) (h : RAt w p t ao cap bs at_ er ea) (hb : bs.length ≤ 140737488355328) (hat : at_ ≤ bs.length)
    (ha : w.cell? ⟨a, 0, none⟩ = some (.pointer (some ⟨p, 0, none⟩))) (hlo : w.cell? ⟨b, 0, none⟩ = some (.int .i64 most)) (hr : rdNum bs at_ 0 most 3 = .inl (e0, a0)) :
    Calls Tryz.prog 86 #[.pointer (some ⟨a, 0, none⟩), .pointer (some ⟨b, 0, none⟩), .pointer (some ⟨d, 0, none⟩)] w fun e w' => e = .panicked (gu e0 a0) ∧ ∃ k, w' = w.drewN k := by
  have HC := hideIt (count_bad p t ao cap bs at_ er ea most e0 a0 w h hb hat hr)
  clear hr
  go_enter Tryz.func86, Tryz.ntmps86
  go_wp2_with fail
  refine Calls.mono HC.out ?_
  rintro e w' ⟨rfl, k, rfl⟩
  exact ⟨rfl, rfl, k, rfl⟩

theorem rcount1_ok (p t a b d : Nat) (ao : Option Addr) (cap : Nat) (bs : List UInt8) (at_ : Nat) (er ea most v : Int) (n m : Nat) (w : World) (h : RAt w p t ao cap bs at_ er ea) (hb : bs.length ≤ 140737488355328) (hat : at_ ≤ bs.length)
    (ha : w.cell? ⟨a, 0, none⟩ = some (.pointer (some ⟨p, 0, none⟩))) (hlo : w.cell? ⟨b, 0, none⟩ = some (.int .i64 most)) (hd : w.heap[d]? = some (.cells #[.int .i64 v] 3 (0, 0))) (hr : rdNum bs at_ 0 most 3 = .inr (n, m)) :
    Calls Tryz.prog 86 #[.pointer (some ⟨a, 0, none⟩), .pointer (some ⟨b, 0, none⟩), .pointer (some ⟨d, 0, none⟩)] w fun e w' => e = .returned (.int .i64 m) ∧ w'.heap[d]? = some (.cells #[.int .i64 n] 3 (0, 0)) ∧ Fr (fun k => k = d) w w' := by
  have HC := hideIt (count_ok p t ao cap bs at_ er ea most n m w h hb hat hr)
  have hdc : w.cell? ⟨d, 0, none⟩ = some (.int .i64 v) := by rw [cell_of_row w d 0 _ _ _ hd]; rfl
  have hdz : w.frozen? ⟨d, 0, none⟩ = false := frozen_of_row w d 0 _ _ hd
  clear hr
  go_enter Tryz.func86, Tryz.ntmps86
  go_wp2_with fail
  refine Calls.mono HC.out ?_
  rintro e w' ⟨rfl, k, rfl⟩
  go_wp2_with fail
  go_ret
  exact ⟨rfl, heap_setCell_same (w.drewN k) d 0 _ _ _ hd, ((Fr.refl (fun k => k = d) w).drewN k).setCell (fun _ => rfl) _⟩

/-- The world in which Count's or Text's step is handed to do. -/
def rboxes2 (w : World) (p : Nat) (most : Int) (o : Obj) : World := ((w.alloc (.cells #[.pointer (some ⟨p, 0, none⟩)] 96)).alloc (.cells #[.int .i64 most] 3)).alloc o
theorem rboxes2_size (w : World) (p : Nat) (most : Int) (o : Obj) : (rboxes2 w p most o).heap.size = w.heap.size + 3 := by simp [rboxes2]
theorem Fr.rboxes2 (w : World) (p : Nat) (most : Int) (o : Obj) (S : Nat → Prop) : Fr S w (Go.Proofs.YtojgikaoiegmpaaGreatDoor.rboxes2 w p most o) := (((Fr.refl S w).alloc _).alloc _).alloc _
theorem rboxes2_get (w : World) (p : Nat) (most : Int) (o : Obj) :
    (rboxes2 w p most o).heap[w.heap.size]? = some (.cells #[.pointer (some ⟨p, 0, none⟩)] 96 (0, 0)) ∧ (rboxes2 w p most o).heap[w.heap.size + 1]? = some (.cells #[.int .i64 most] 3 (0, 0)) ∧ (rboxes2 w p most o).heap[w.heap.size + 1 + 1]? = some o :=
  ⟨heap_old (heap_old (heap_new rfl)), heap_old (heap_new (by simp)), heap_new (by simp)⟩

theorem rcount_via (p t : Nat) (most v : Int) (w : World) (R : World → Prop) (hc : w.cell? ⟨p, 0, none⟩ = some (.pointer (some ⟨t, 0, none⟩))) (hpl : p < w.heap.size)
    (hdo : Calls Tryz.prog 71 #[.pointer (some ⟨t, 0, none⟩), .func (.func 86) #[] #[.pointer (some ⟨w.heap.size, 0, none⟩), .pointer (some ⟨w.heap.size + 1, 0, none⟩), .pointer (some ⟨w.heap.size + 1 + 1, 0, none⟩)]] (rboxes2 w p most (.cells #[.int .i64 0] 3))
      fun e w' => e = .returned (.tuple #[]) ∧ w'.heap[w.heap.size + 1 + 1]? = some (.cells #[.int .i64 v] 3 (0, 0)) ∧ R w') :
    Calls Tryz.prog 62 #[.pointer (some ⟨p, 0, none⟩), .int .i64 most] w fun e w' => e = .returned (.int .i64 v) ∧ R w' := by
  have hmf : ∀ (fn : Fn) (first cap : Array Value) (w : World), (Instr.makeFunc fn first cap).run Tryz.prog w = .ok (.func fn first cap) w := fun _ _ _ _ => rfl
  have HD := hideIt hdo
  have hc3 := fun o1 o2 o3 => cellA (cellA (cellA hc o1) o2) o3
  clear hdo
  go_enter Tryz.func62, Tryz.ntmps62
  go_wp2_with (go_at_call 85; refine (rnone_some p t _ (cellA (cellA hc _) _)).mono ?_; rintro e w' ⟨rfl, rfl⟩)
  refine Calls.mono HD.out ?_
  rintro e w' ⟨rfl, hv, hr⟩
  have HR := hideIt hr
  have hcv := cellOfHeap hv 0 rfl
  clear hr hv
  go_wp2_with fail
  go_ret
  exact ⟨rfl, HR.out⟩

theorem rtext_via (p t : Nat) (most : Int) (v : ByteArray) (w : World) (R : World → Prop) (hc : w.cell? ⟨p, 0, none⟩ = some (.pointer (some ⟨t, 0, none⟩))) (hpl : p < w.heap.size)
    (hdo : Calls Tryz.prog 71 #[.pointer (some ⟨t, 0, none⟩), .func (.func 111) #[] #[.pointer (some ⟨w.heap.size, 0, none⟩), .pointer (some ⟨w.heap.size + 1, 0, none⟩), .pointer (some ⟨w.heap.size + 1 + 1, 0, none⟩)]] (rboxes2 w p most (.cells #[.string ⟨#[]⟩] 9))
      fun e w' => e = .returned (.tuple #[]) ∧ w'.heap[w.heap.size + 1 + 1]? = some (.cells #[.string v] 9 (0, 0)) ∧ R w') :
    Calls Tryz.prog 109 #[.pointer (some ⟨p, 0, none⟩), .int .i64 most] w fun e w' => e = .returned (.string v) ∧ R w' := by
  have hmf : ∀ (fn : Fn) (first cap : Array Value) (w : World), (Instr.makeFunc fn first cap).run Tryz.prog w = .ok (.func fn first cap) w := fun _ _ _ _ => rfl
  have HD := hideIt hdo
  have hc3 := fun o1 o2 o3 => cellA (cellA (cellA hc o1) o2) o3
  clear hdo
  go_enter Tryz.func109, Tryz.ntmps109
  go_wp2_with (go_at_call 85; refine (rnone_some p t _ (cellA (cellA hc _) _)).mono ?_; rintro e w' ⟨rfl, rfl⟩)
  refine Calls.mono HD.out ?_
  rintro e w' ⟨rfl, hv, hr⟩
  have HR := hideIt hr
  have hcv := cellOfHeap hv 0 rfl
  clear hr hv
  go_wp2_with fail
  go_ret
  exact ⟨rfl, HR.out⟩

/-- What Text's step comes to: the fault, or the text and the place behind it. -/
def rdText (bs : List UInt8) (at_ : Nat) (most : Int) : Sum (Int × Int) (List UInt8 × Nat) :=
  match rdNum bs at_ 0 most 3 with
  | .inl f => .inl f
  | .inr (n, m) => if bs.length < m + n then .inl (4, bs.length) else .inr ((bs.drop m).take n, m + n)

theorem rtext1_bad (p t a b d : Nat) (ao : Option Addr) (cap : Nat) (bs : List UInt8) (at_ : Nat) (er ea most e0 a0 : Int) (w : World) (h : RAt w p t ao cap bs at_ er ea) (hb : bs.length ≤ 140737488355328) (hat : at_ ≤ bs.length)
    (ha : w.cell? ⟨a, 0, none⟩ = some (.pointer (some ⟨p, 0, none⟩))) (hlo : w.cell? ⟨b, 0, none⟩ = some (.int .i64 most)) (hr : rdText bs at_ most = .inl (e0, a0)) :
    Calls Tryz.prog 111 #[.pointer (some ⟨a, 0, none⟩), .pointer (some ⟨b, 0, none⟩), .pointer (some ⟨d, 0, none⟩)] w fun e w' => e = .panicked (gu e0 a0) ∧ ∃ k, w' = w.drewN k := by
  cases hx : rdNum bs at_ 0 most 3 with
  | inl f =>
    obtain ⟨e1, a1⟩ := f
    obtain ⟨rfl, rfl⟩ : e1 = e0 ∧ a1 = a0 := by simpa [rdText, hx] using hr
    have HC := hideIt (count_bad p t ao cap bs at_ er ea most e1 a1 w h hb hat hx)
    clear hr hx
    go_enter Tryz.func111, Tryz.ntmps111
    go_wp2_with fail
    refine Calls.mono HC.out ?_
    rintro e w' ⟨rfl, k, rfl⟩
    exact ⟨rfl, rfl, k, rfl⟩
  | inr nm =>
    obtain ⟨n, m⟩ := nm
    have hroom := rdNum_room hx hat
    have hlt : bs.length < m + n ∧ e0 = 4 ∧ a0 = bs.length := by
      simp only [rdText, hx] at hr
      split at hr
      · simp at hr; exact ⟨‹_›, hr.1.symm, hr.2.symm⟩
      · cases hr
    obtain ⟨hlt, rfl, rfl⟩ := hlt
    have HC := hideIt (count_ok p t ao cap bs at_ er ea most n m w h hb hat hx)
    have HB := hideIt (fun k => behind_bad p t ao cap bs at_ er ea m n (w.drewN k) (h.drewN k) hb (by omega) (by omega) (by omega) (by omega))
    clear hr hx
    go_enter Tryz.func111, Tryz.ntmps111
    go_wp2_with fail
    refine Calls.mono HC.out ?_
    rintro e w' ⟨rfl, k, rfl⟩
    go_wp2_with fail
    refine Calls.mono (HB.out k) ?_
    rintro e w' ⟨rfl, k', rfl⟩
    exact ⟨rfl, rfl, k + k', drewN_drewN w k k'⟩

theorem BsAt.sub {w : World} {g : Nat} {bs : List UInt8} {e : TypeId} {cap : Nat} (h : Row w e (some ⟨g, 0, none⟩) cap bs) (m n : Nat) (hmn : m + n ≤ bs.length) : BsAt w (some ⟨g, m, none⟩) ((bs.drop m).take n) := by
  refine Or.inr ⟨g, m, rfl, fun j hj => ?_⟩
  simp at hj
  rw [h.cell (m + j) (by omega)]
  simp

set_option maxRecDepth 100000 in
set_option maxHeartbeats 1000000 in
theorem rtext1_ok (p t a b d : Nat) (ao : Option Addr) (cap : Nat) (bs : List UInt8) (at_ : Nat) (er ea most : Int) (v : ByteArray) (x : List UInt8) (m : Nat) (w : World) (h : RAt w p t ao cap bs at_ er ea) (hb : bs.length ≤ 140737488355328) (hat : at_ ≤ bs.length)
    (ha : w.cell? ⟨a, 0, none⟩ = some (.pointer (some ⟨p, 0, none⟩))) (hlo : w.cell? ⟨b, 0, none⟩ = some (.int .i64 most)) (hd : w.heap[d]? = some (.cells #[.string v] 9 (0, 0))) (hr : rdText bs at_ most = .inr (x, m)) :
    Calls Tryz.prog 111 #[.pointer (some ⟨a, 0, none⟩), .pointer (some ⟨b, 0, none⟩), .pointer (some ⟨d, 0, none⟩)] w fun e w' => e = .returned (.int .i64 m) ∧ w'.heap[d]? = some (.cells #[.string ⟨x.toArray⟩] 9 (0, 0)) ∧ Fr (fun k => k = d) w w' := by
  cases hx : rdNum bs at_ 0 most 3 with
  | inl f => simp [rdText, hx] at hr
  | inr nm =>
    obtain ⟨n, m'⟩ := nm
    have hroom := rdNum_room hx hat
    have hgood : m' + n ≤ bs.length ∧ (bs.drop m').take n = x ∧ m' + n = m := by
      simp only [rdText, hx] at hr
      split at hr
      · cases hr
      · simp at hr; exact ⟨by omega, hr⟩
    obtain ⟨hle, hxe, rfl⟩ := hgood
    obtain ⟨g, rfl⟩ : ∃ g, ao = some ⟨g, 0, none⟩ := by
      rcases h.tp.row.form with ⟨_, rfl, _⟩ | ⟨g, _, rfl, _⟩
      · simp at hroom; omega
      · exact ⟨g, rfl⟩
    have hcap : bs.length ≤ cap ∧ cap ≤ maxLen := by
      rcases h.tp.row.form with ⟨e, _⟩ | ⟨_, _, _, _, h1, h2, _⟩
      · cases e
      · exact ⟨h1, h2⟩
    have hsub := BsAt.sub h.tp.row m' n hle
    rw [hxe] at hsub
    have hxl : x.length = n := by rw [← hxe]; simp; omega
    have hconv := hsub.conv (cap - m')
    rw [hxl] at hconv
    have hconvk := fun k => (show (convert 29 9 (.slice (some ⟨g, m', none⟩) n (cap - m'))).run Tryz.prog (w.drewN k) = .ok (.string ⟨x.toArray⟩) (w.drewN k) from by have := (hsub.fr ((Fr.refl (fun _ => False) w).drewN k) (fun _ _ _ e => e)).conv (cap - m'); rw [hxl] at this; exact this)
    have HC := hideIt (count_ok p t _ cap bs at_ er ea most n m' w h hb hat hx)
    have HB := hideIt (fun k => behind_ok p t _ cap bs at_ er ea m' n (w.drewN k) (h.drewN k) hb (by omega) (by omega) (by omega))
    have hc := h.c
    have h0 := h.tp.c0
    have hdc : w.cell? ⟨d, 0, none⟩ = some (.string v) := by rw [cell_of_row w d 0 _ _ _ hd]; rfl
    have hdz : w.frozen? ⟨d, 0, none⟩ = false := frozen_of_row w d 0 _ _ hd
    have hcm := hcap.2
    unfold maxLen at hcm
    clear hr hx hxe hconv
    have fin : ∀ k, ((w.drewN k).setCell ⟨d, 0, none⟩ (.string ⟨x.toArray⟩)).heap[d]? = some (.cells #[.string ⟨x.toArray⟩] 9 (0, 0)) ∧ Fr (fun k => k = d) w ((w.drewN k).setCell ⟨d, 0, none⟩ (.string ⟨x.toArray⟩)) :=
      fun k => ⟨heap_setCell_same (w.drewN k) d 0 _ _ _ hd, ((Fr.refl (fun k => k = d) w).drewN k).setCell (fun _ => rfl) _⟩
    have FIN := hideIt fin
    clear fin
    by_cases hcme : cap = m'
    · obtain rfl : x = [] := List.eq_nil_of_length_eq_zero (by omega)
      obtain rfl : n = 0 := by simpa using hxl.symm
      have hconv0 := fun k => (show (convert 29 9 (.slice (some ⟨g, 0, none⟩) 0 0)).run Tryz.prog (w.drewN k) = .ok (.string ⟨([] : List UInt8).toArray⟩) (w.drewN k) from BsAt.conv (w := w.drewN k) (ao := some ⟨g, 0, none⟩) (bs := []) (Or.inr ⟨g, 0, rfl, fun j hj => by simp at hj⟩) 0)
      subst hcme
      clear hxl hconvk
      go_enter Tryz.func111, Tryz.ntmps111
      go_wp2_with fail
      refine Calls.mono HC.out ?_
      rintro e w' ⟨rfl, k, rfl⟩
      go_wp2_with fail
      refine Calls.mono (HB.out k) ?_
      rintro e w' ⟨rfl, rfl⟩
      go_wp2_with fail
      go_ret
      exact ⟨by simp, (FIN.out k).1, (FIN.out k).2⟩
    · clear hxl
      go_enter Tryz.func111, Tryz.ntmps111
      go_wp2_with fail
      refine Calls.mono HC.out ?_
      rintro e w' ⟨rfl, k, rfl⟩
      go_wp2_with fail
      refine Calls.mono (HB.out k) ?_
      rintro e w' ⟨rfl, rfl⟩
      go_wp2_with fail
      go_ret
      exact ⟨by simp, (FIN.out k).1, (FIN.out k).2⟩

end Go.Proofs.YtojgikaoiegmpaaGreatDoor
