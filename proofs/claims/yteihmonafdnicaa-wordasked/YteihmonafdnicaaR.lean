/- The reader of package word: numbers. -/
import Derived.Test.YteihmonafdnicaaK
import Derived.Deep.RegionHeld2
namespace Go.Proofs.Yteihmonafdnicaa
open Go.RowKit Go.IntWalk
set_option linter.unusedSimpArgs false
set_option linter.unusedVariables false

/-- A reader in memory: itself, and its tape. -/
structure RAt (w : World) (p t : Nat) (ao : Option Addr) (cap : Nat) (bs : List UInt8) (at_ er ea : Int) : Prop where
  box : w.heap[p]? = some (.cells #[.pointer (some ⟨t, 0, none⟩)] 78 (0, 0))
  tp : TapeAt w t ao cap bs at_ er ea

section
variable {w w' : World} {p t : Nat} {ao : Option Addr} {cap : Nat} {bs : List UInt8} {at_ er ea : Int}
theorem RAt.lt (h : RAt w p t ao cap bs at_ er ea) : p < w.heap.size := (Array.getElem?_eq_some_iff.1 h.box).1
theorem RAt.c (h : RAt w p t ao cap bs at_ er ea) : w.cell? ⟨p, 0, none⟩ = some (.pointer (some ⟨t, 0, none⟩)) := by rw [cell_of_row w p 0 _ _ _ h.box]; rfl
theorem RAt.ne (h : RAt w p t ao cap bs at_ er ea) : p ≠ t := by
  rintro rfl
  have := h.box.symm.trans h.tp.blk
  simp at this
theorem RAt.fr {S : Nat → Prop} (h : RAt w p t ao cap bs at_ er ea) (hf : Fr S w w') (hp : ¬ S p) (hS : ∀ k, wset t ao k → ¬ S k) : RAt w' p t ao cap bs at_ er ea :=
  ⟨(hf.block p h.lt hp).trans h.box, h.tp.fr hf hS⟩
theorem RAt.moved (h : RAt w p t ao cap bs at_ er ea) (n : Int) : RAt (w.setCell ⟨t, 1, none⟩ (.int .i64 n)) p t ao cap bs n er ea :=
  ⟨((Fr.moved w t _).block p h.lt h.ne).trans h.box, h.tp.moved n⟩
theorem RAt.faulted (h : RAt w p t ao cap bs at_ er ea) (e a : Int) (o : Obj) : RAt (((w.setCell ⟨t, 2, none⟩ (.int .i64 e)).setCell ⟨t, 3, none⟩ (.int .i64 a)).alloc o) p t ao cap bs at_ e a :=
  ⟨((Fr.faulted w t _ _ o).block p h.lt h.ne).trans h.box, h.tp.faulted e a o⟩
end

theorem open_any (ao : Option Addr) (cap : Nat) (bs : List UInt8) (w : World) (h : BsAt w ao bs) (hcap : ao = none → cap = 0) (hb : bs.length ≤ 140737488355328) :
    Calls Try.prog 21 #[.slice ao bs.length cap] w fun e w' => ∃ p t ao' cap', e = .returned (.pointer (some ⟨p, 0, none⟩)) ∧ RAt w' p t ao' cap' bs 0 0 0 ∧ Fr (fun _ => False) w w' ∧ w.heap.size ≤ p ∧ w.heap.size ≤ t ∧ ∀ k, blk ao' k → w.heap.size ≤ k := by
  go_enter Try.func21, Try.ntmps21
  go_wp2_with fail
  refine (clone_any ao cap bs _ h hcap hb).mono ?_
  rintro e w1 ⟨ao', cap', rfl, hrow, hF, hnew⟩
  go_wp2
  go_ret
  have hs := hF.size
  exact ⟨w1.heap.size + 1, w1.heap.size, ao', cap', rfl, ⟨heap_alloc2_new w1 _ _, heap_alloc2_old w1 _ _, (hrow.alloc _).alloc _⟩, (hF.alloc _).alloc _, by omega, hs, hnew⟩

theorem behind_ok (p t : Nat) (ao : Option Addr) (cap : Nat) (bs : List UInt8) (at_ er ea : Int) (a n : Int) (w : World) (h : RAt w p t ao cap bs at_ er ea) (hb : bs.length ≤ 140737488355328) (ha : 0 ≤ a) (hn : 0 ≤ n) (hle : a + n ≤ bs.length) :
    Calls Try.prog 60 #[.pointer (some ⟨p, 0, none⟩), .int .i64 a, .int .i64 n] w fun e w' => e = .returned (.int .i64 (a + n)) ∧ w' = w := by
  have hc := h.c
  have h0 := h.tp.c0
  go_enter Try.func60, Try.ntmps60
  go_wp2
  go_ret
  exact ⟨rfl, rfl⟩

set_option maxHeartbeats 1000000 in
theorem behind_bad (p t : Nat) (ao : Option Addr) (cap : Nat) (bs : List UInt8) (at_ er ea : Int) (a n : Int) (w : World) (h : RAt w p t ao cap bs at_ er ea) (hb : bs.length ≤ 140737488355328) (ha : 0 ≤ a) (ha' : a ≤ bs.length) (hn : 0 ≤ n) (hlt : (bs.length : Int) - a < n) :
    Calls Try.prog 60 #[.pointer (some ⟨p, 0, none⟩), .int .i64 a, .int .i64 n] w fun e w' => e = .panicked (gu 4 bs.length) ∧ ∃ k, w' = w.drewN k := by
  have hc := h.c
  have h0 := h.tp.c0
  go_enter Try.func60, Try.ntmps60
  go_wp2
  go_region_held2 (fun w' => w'.cell? ⟨p, 0, none⟩ = some (.pointer (some ⟨t, 0, none⟩)) ∧ w'.cell? ⟨t, 0, none⟩ = some (.slice ao bs.length cap)) (go_keep) (first | (go_at_call 55; refine (fail_two _ _ _ _).mono ?_; rintro e w' (⟨rfl, rfl⟩ | ⟨rfl, rfl, hF⟩); exact ⟨rfl, rfl, 1, rfl⟩; skip))
  all_goals exact hF.out.elim

/-- The number that stands at the head of bytes: it and how many bytes it has; else 0: a byte is missing; 1: it is too great; 2: it ends by 0. (i: how many bytes stand ahead of it, what these come to.) -/
def scan : List UInt8 → Nat → Nat → Except Nat (Nat × Nat)
  | [], _, _ => .error 0
  | b :: bs, i, acc => if 128 ≤ b.toNat ∧ i + 1 = 9 then .error 1 else if b.toNat = 0 ∧ 0 < i then .error 2 else
      if b.toNat < 128 then .ok (acc + b.toNat % 128 * 128 ^ i, i + 1) else scan bs (i + 1) (acc + b.toNat % 128 * 128 ^ i)

def scanEnd (len at_ : Int) : Except Nat (Nat × Nat) → Ending
  | .error 0 => .panicked (gu 4 len)
  | .error 1 => .panicked (gu 5 at_)
  | .error _ => .panicked (gu 4 at_)
  | .ok (n, k) => .returned (.tuple #[.int .i64 n, .int .i64 (at_ + k)])

theorem pow7 (i : Nat) : 2 ^ (7 * i) = 128 ^ i := by rw [Nat.pow_mul]

theorem or_sevens (acc b i : Nat) (hacc : acc < 128 ^ i) (hi : i ≤ 8) : bits .or .i64 (acc : Int) (wrap64 ((b : Int) % 128 * 2 ^ (7 * i))) = ((acc + b % 128 * 128 ^ i : Nat) : Int) := by
  have h8 : 128 ^ i ≤ 128 ^ 8 := Nat.pow_le_pow_right (by decide) hi
  have h88 : (128 : Nat) ^ 8 = 72057594037927936 := by decide
  have hm : b % 128 < 128 := Nat.mod_lt _ (by decide)
  have hlt : b % 128 * 128 ^ i ≤ 127 * 128 ^ i := Nat.mul_le_mul_right _ (by omega)
  have e : (b : Int) % 128 * 2 ^ (7 * i) = ((b % 128 * 128 ^ i : Nat) : Int) := by
    rw [← pow7]; simp
  rw [e, wrap64_in _ (by omega), (bits_nat .i64 63 (by decide) (fun n h0 h1 => i64_in n (by omega)) acc (b % 128 * 128 ^ i) (by omega) (by omega)).2, Nat.or_comm, ← pow7, Nat.mul_comm, ← Nat.two_pow_add_eq_or_of_lt (by rw [pow7]; exact hacc), Nat.add_comm]

theorem or_nought (acc i : Nat) (hacc : acc < 128 ^ i) (hi : i = 0) : bits .or .i64 (acc : Int) 0 = 0 := by
  subst hi
  obtain rfl : acc = 0 := by simpa using hacc
  decide

theorem pow_acc (acc b i : Nat) (hacc : acc < 128 ^ i) : acc + b % 128 * 128 ^ i < 128 ^ (i + 1) := by
  have hm : b % 128 < 128 := Nat.mod_lt _ (by decide)
  have hlt : b % 128 * 128 ^ i ≤ 127 * 128 ^ i := Nat.mul_le_mul_right _ (by omega)
  rw [Nat.pow_succ]
  omega

theorem scan_end (i acc : Nat) : scan [] i acc = .error 0 := rfl
theorem scan_big {b : UInt8} {bs : List UInt8} {i acc : Nat} (h : 128 ≤ b.toNat ∧ i + 1 = 9) : scan (b :: bs) i acc = .error 1 := by rw [scan, if_pos h]
theorem scan_zero {b : UInt8} {bs : List UInt8} {i acc : Nat} (h : b.toNat = 0 ∧ 0 < i) : scan (b :: bs) i acc = .error 2 := by rw [scan, if_neg (by omega), if_pos h]
theorem scan_last {b : UInt8} {bs : List UInt8} {i acc : Nat} (h : ¬ (b.toNat = 0 ∧ 0 < i)) (h' : b.toNat < 128) : scan (b :: bs) i acc = .ok (acc + b.toNat % 128 * 128 ^ i, i + 1) := by rw [scan, if_neg (by omega), if_neg h, if_pos h']
theorem scan_more {b : UInt8} {bs : List UInt8} {i acc : Nat} (h : ¬ (128 ≤ b.toNat ∧ i + 1 = 9)) (h' : ¬ b.toNat < 128) : scan (b :: bs) i acc = scan bs (i + 1) (acc + b.toNat % 128 * 128 ^ i) := by rw [scan, if_neg h, if_neg (by omega), if_neg h']

set_option maxRecDepth 100000 in
set_option maxHeartbeats 2000000 in
theorem rnumber_any (p t : Nat) (ao : Option Addr) (cap : Nat) (bs : List UInt8) (at_ : Nat) (er ea : Int) (w : World) (h : RAt w p t ao cap bs at_ er ea) (hb : bs.length ≤ 140737488355328) (hat : at_ ≤ bs.length) :
    Calls Try.prog 54 #[.pointer (some ⟨p, 0, none⟩)] w fun e w' => e = scanEnd bs.length at_ (scan (bs.drop at_) 0 0) ∧ ∃ k, w' = w.drewN k := by
  have hc := h.c
  have h0 := h.tp.c0
  have h1 := h.tp.c1
  go_enter Try.func54, Try.ntmps54
  go_wp2
  go_loop [2, 3, 4, 5] (fun x _ y _ => ∃ (i acc : Nat), x = .int .i64 acc ∧ y = .int .i64 i ∧ i ≤ 8 ∧ acc < 128 ^ i ∧ at_ + i ≤ bs.length ∧ scan (bs.drop (at_ + i)) i acc = scan (bs.drop at_) 0 0)
    (fun _ _ y _ => (9 - intOf y).toNat)
  case atStart => exact ⟨0, 0, rfl, rfl, by omega, by simp, by omega, rfl⟩
  case round =>
    obtain ⟨i, acc, rfl, rfl, hi, hacc, hlen, hscan⟩ := hrel
    have HS := hideIt hscan
    clear hscan
    by_cases hend : at_ + i = bs.length
    · have HE := hideIt (show Ending.panicked (gu 4 bs.length) = scanEnd bs.length at_ (scan (bs.drop at_) 0 0) by rw [← HS.out, List.drop_of_length_le (by omega)]; rfl)
      have hge : bs.length ≤ at_ + i := by omega
      clear hend
      go_wp2_with (first | (go_at_call 60; refine (behind_bad p t ao cap bs _ er ea _ _ _ h hb (by omega) (by omega) (by omega) (by omega)).mono ?_; rintro e w' ⟨rfl, k, rfl⟩))
      exact ⟨rfl, HE.out, k, rfl⟩
    have hlt : at_ + i < bs.length := by omega
    obtain ⟨g, rfl⟩ : ∃ g, ao = some ⟨g, 0, none⟩ := by
      rcases h.tp.row.form with ⟨_, rfl, _⟩ | ⟨g, _, rfl, _⟩
      · simp at hlt
      · exact ⟨g, rfl⟩
    have hcell := h.tp.row.cell (at_ + i) hlt
    have hb256 : bs[at_ + i].toNat < 256 := UInt8.toNat_lt _
    have HB := hideIt (List.drop_eq_getElem_cons hlt)
    generalize hbv : bs[at_ + i] = bb at *
    clear hbv hend
    have HT := hideIt (HS.out.symm.trans (by rw [HB.out]))
    have HO := hideIt (or_sevens acc bb.toNat i hacc hi)
    by_cases hlow : bb.toNat < 128
    · have hl1 : ¬ 128 ≤ (bb.toNat : Int) := by omega
      by_cases hz : bb.toNat = 0 ∧ 0 < i
      · have hz1 : ((bb.toNat : Int) == 0) = true := by simp [hz.1]
        have hi0 : 0 < (i : Int) := by omega
        have HE := hideIt (show Ending.panicked (gu 4 at_) = scanEnd bs.length at_ (scan (bs.drop at_) 0 0) by rw [HT.out, scan_zero hz]; rfl)
        clear hz
        go_wp2_with (first | (go_at_call 60; refine (behind_ok p t (some ⟨g, 0, none⟩) cap bs _ er ea _ _ _ h hb (by omega) (by omega) (by omega)).mono ?_; rintro e w' ⟨rfl, rfl⟩))
        go_region_held2 (fun w' => w'.cell? ⟨p, 0, none⟩ = some (.pointer (some ⟨t, 0, none⟩)) ∧ w'.cell? ⟨t, 1, none⟩ = some (.int .i64 at_)) (go_keep) (first | (go_at_call 55; refine (fail_two _ _ _ _).mono ?_; rintro e w' (⟨rfl, rfl⟩ | ⟨rfl, rfl, hF⟩); exact ⟨rfl, HE.out, 1, rfl⟩; skip))
        all_goals exact hF.out.elim
      · have HE := hideIt (show Ending.returned (.tuple #[.int .i64 ((acc + bb.toNat % 128 * 128 ^ i : Nat) : Int), .int .i64 ((at_ : Int) + (i : Int) + 1)]) = scanEnd bs.length at_ (scan (bs.drop at_) 0 0) by
          rw [HT.out, scan_last hz hlow]; simp [scanEnd]; omega)
        by_cases hz0 : bb.toNat = 0
        · have hz1 : ((bb.toNat : Int) == 0) = true := by simp [hz0]
          have hi0 : ¬ 0 < (i : Int) := by omega
          clear hz hz0
          go_wp2_with (first | (go_at_call 60; refine (behind_ok p t (some ⟨g, 0, none⟩) cap bs _ er ea _ _ _ h hb (by omega) (by omega) (by omega)).mono ?_; rintro e w' ⟨rfl, rfl⟩))
          go_ret2
          exact ⟨by rw [← HE.out, ← HO.out]; rfl, 0, rfl⟩
        · have hz1 : ((bb.toNat : Int) == 0) = false := by simp [hz0]
          clear hz hz0
          go_wp2_with (first | (go_at_call 60; refine (behind_ok p t (some ⟨g, 0, none⟩) cap bs _ er ea _ _ _ h hb (by omega) (by omega) (by omega)).mono ?_; rintro e w' ⟨rfl, rfl⟩))
          go_ret2
          exact ⟨by rw [← HE.out, ← HO.out]; rfl, 0, rfl⟩
    · have hl1 : 128 ≤ (bb.toNat : Int) := by omega
      have hz1 : ((bb.toNat : Int) == 0) = false := by simp; omega
      by_cases h9 : i + 1 = 9
      · have HE := hideIt (show Ending.panicked (gu 5 at_) = scanEnd bs.length at_ (scan (bs.drop at_) 0 0) by rw [HT.out, scan_big ⟨by omega, h9⟩]; rfl)
        have h91 : ((i : Int) + 1 == 9) = true := by simp; omega
        clear h9
        go_wp2_with (first | (go_at_call 60; refine (behind_ok p t (some ⟨g, 0, none⟩) cap bs _ er ea _ _ _ h hb (by omega) (by omega) (by omega)).mono ?_; rintro e w' ⟨rfl, rfl⟩))
        go_region_held2 (fun w' => w'.cell? ⟨p, 0, none⟩ = some (.pointer (some ⟨t, 0, none⟩)) ∧ w'.cell? ⟨t, 1, none⟩ = some (.int .i64 at_)) (go_keep) (first | (go_at_call 55; refine (fail_two _ _ _ _).mono ?_; rintro e w' (⟨rfl, rfl⟩ | ⟨rfl, rfl, hF⟩); exact ⟨rfl, HE.out, 1, rfl⟩; skip))
        all_goals exact hF.out.elim
      · have HE := hideIt (HT.out.trans (scan_more (by omega) hlow))
        have h91 : ((i : Int) + 1 == 9) = false := by simp; omega
        have hi7 : i ≤ 7 := by omega
        clear h9
        go_wp2_with (first | (go_at_call 60; refine (behind_ok p t (some ⟨g, 0, none⟩) cap bs _ er ea _ _ _ h hb (by omega) (by omega) (by omega)).mono ?_; rintro e w' ⟨rfl, rfl⟩))
        go_round
        case measure => simp [intOf]; omega
        case rel => exact ⟨i + 1, acc + bb.toNat % 128 * 128 ^ i, by rw [← HO.out], by go_num, by omega, pow_acc _ _ _ hacc, by omega, HE.out.symm⟩

end Go.Proofs.Yteihmonafdnicaa
