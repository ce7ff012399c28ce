/- The document's own reader: the number at its place (peek). -/
import Derived.Test.YteihmonafdnicaaY1
import Derived.Test.YteihmonafdnicaaC2
namespace Go.Proofs.Yteihmonafdnicaa
open Go.RowKit Go.IntWalk
set_option linter.unusedSimpArgs false
set_option linter.unusedVariables false

/-- The number that the bytes from i on say, up to k, the lowest first. -/
def high (bs : List UInt8) : Nat → Nat
  | 0 => 0
  | n + 1 => (bs.headD 0).toNat % 128 + 128 * high bs.tail n
theorem high_step (bs : List UInt8) (n i : Nat) (hi : i < n) (hn : n ≤ bs.length) : high (bs.drop i) (n - i) = (bs[i]'(by omega)).toNat % 128 + 128 * high (bs.drop (i + 1)) (n - (i + 1)) := by
  rw [show n - i = (n - (i + 1)) + 1 by omega, high, List.drop_eq_getElem_cons (by omega)]
  simp [List.getElem?_eq_getElem (show i < bs.length by omega)]
theorem scan_high : ∀ (bs : List UInt8) (i acc n k : Nat), scan bs i acc = .ok (n, k) → i < k ∧ k - i ≤ bs.length ∧ n = acc + high bs (k - i) * 128 ^ i
  | [], i, acc, n, k, h => by simp [scan] at h
  | b :: bs, i, acc, n, k, h => by
    rw [scan] at h
    by_cases c1 : 128 ≤ b.toNat ∧ i + 1 = 9
    · rw [if_pos c1] at h
      cases h
    rw [if_neg c1] at h
    by_cases c2 : b.toNat = 0 ∧ 0 < i
    · rw [if_pos c2] at h
      cases h
    rw [if_neg c2] at h
    by_cases c3 : b.toNat < 128
    · rw [if_pos c3] at h
      injection h with h
      injection h with h1 h2
      subst h1 h2
      refine ⟨by omega, by simp, ?_⟩
      rw [show i + 1 - i = 0 + 1 by omega, high]
      simp [high]
    · rw [if_neg c3] at h
      obtain ⟨h1, h2, h3⟩ := scan_high bs (i + 1) _ n k h
      refine ⟨by omega, by simp; omega, ?_⟩
      rw [h3, show k - i = (k - (i + 1)) + 1 by omega, high]
      simp only [List.headD_cons, List.tail_cons]
      rw [Nat.add_mul, Nat.pow_succ, Nat.add_assoc]
      congr 2
      rw [Nat.mul_comm (128 ^ i) 128, ← Nat.mul_assoc, Nat.mul_comm (high bs _) 128]
theorem high_lt (bs : List UInt8) : ∀ n, high bs n < 128 ^ n := by
  intro n
  induction n generalizing bs with
  | zero => simp [high]
  | succ n ih =>
    have := ih bs.tail
    rw [high, Nat.pow_succ]
    omega

theorem YAt.faulted {w : World} {p : Nat} {ao : Option Addr} {cap : Nat} {bs : List UInt8} {at_ er ea : Int} (h : YAt w p ao cap bs at_ er ea) (hap : ¬ blk ao p) (e a : Int) : YAt ((w.setCell ⟨p, 2, none⟩ (.int .i64 e)).setCell ⟨p, 3, none⟩ (.int .i64 a)) p ao cap bs at_ e a := by
  have hF : Fr (fun k => k = p) w ((w.setCell ⟨p, 2, none⟩ (.int .i64 e)).setCell ⟨p, 3, none⟩ (.int .i64 a)) := ((Fr.refl (fun k => k = p) w).setCell (p := ⟨p, 2, none⟩) (fun _ => rfl) _).setCell (p := ⟨p, 3, none⟩) (fun _ => rfl) _
  refine ⟨?_, h.bytes.fr hF (fun k _ hk e => hap (by subst e; exact hk))⟩
  rw [heap_setCell_same _ p 3 _ _ _ (heap_setCell_same w p 2 _ _ _ h.box)]
  rfl

theorem ypeek_shut (p : Nat) (ao : Option Addr) (cap : Nat) (bs : List UInt8) (at_ : Nat) (er ea low hi above : Int) (w : World) (h : YAt w p ao cap bs at_ er ea) (her : er ≠ 0) :
    Calls Try.prog 56 #[.pointer (some ⟨p, 0, none⟩), .int .i64 low, .int .i64 hi, .int .i64 above] w fun e w' => e = .returned (.tuple #[.int .i64 0, .int .i64 0]) ∧ w' = w := by
  have c2 := h.c2
  have her' : (er != 0) = true := by simpa using her
  clear her
  go_enter Try.func56, Try.ntmps56
  go_wp2
  go_ret2
  exact ⟨rfl, rfl⟩

/-- There is no number: the fault is kept. -/
theorem ypeek_none (p : Nat) (ao : Option Addr) (cap : Nat) (bs : List UInt8) (at_ : Nat) (ea low hi above e0 a0 : Int) (w : World) (h : YAt w p ao cap bs at_ 0 ea) (hap : ¬ blk ao p) (hat : at_ ≤ bs.length) (hb : bs.length ≤ 140737488355328) (hs : sizeV bs.length at_ (scan (bs.drop at_) 0 0) = (0, e0, a0)) :
    Calls Try.prog 56 #[.pointer (some ⟨p, 0, none⟩), .int .i64 low, .int .i64 hi, .int .i64 above] w fun e w' => e = .returned (.tuple #[.int .i64 0, .int .i64 0]) ∧ YAt w' p ao cap bs at_ e0 a0 ∧ Fr (fun k => k = p) w w' := by
  have HSZ := hideIt (by have := ysize_any p ao cap bs at_ 0 ea w h hat hb; rw [hs] at this; exact this)
  have c2 := h.c2
  have HY := hideIt h
  clear h hs
  go_enter Try.func56, Try.ntmps56
  go_wp2_with fail
  refine Calls.mono HSZ.out ?_
  rintro e w1 ⟨rfl, hF1⟩
  have hY1 := HY.out.fr hF1 (fun e => e) (fun _ _ _ e => e)
  have hpl1 := hY1.lt
  have d0 := hY1.c0
  have d1 := hY1.c1
  have d2 := hY1.c2
  have d3 := hY1.c3
  have z2 := frozen_of_row w1 p 2 _ _ hY1.box
  have z3 := frozen_of_row w1 p 3 _ _ hY1.box
  have HFIN := hideIt (fun (e0 a0 : Int) (o : Obj) => (hY1.faulted hap e0 a0).fr ((Fr.refl (fun _ => False) _).alloc o) (fun e => e) (fun _ _ _ e => e))
  have HFR := hideIt (fun (e0 a0 : Int) (o : Obj) => ((hF1.mono (S' := fun k => k = p) (fun _ e => e.elim)).trans (((Fr.refl (fun k => k = p) w1).setCell (p := ⟨p, 2, none⟩) (fun _ => rfl) (.int .i64 e0)).setCell (p := ⟨p, 3, none⟩) (fun _ => rfl) (.int .i64 a0)) (fun _ _ e => e)).alloc o)
  have HY1 := hideIt hY1
  have HF1 := hideIt hF1
  clear hF1 hY1
  go_wp2_with fail
  go_loopw [12, 13] (fun n i wr => n = .int .i64 0 ∧ i = .int .i64 (-1) ∧ wr = w1.alloc (.cells #[.int .i64 e0, .int .i64 a0] 58)) (fun _ _ _ => 0)
  case atStart => exact ⟨rfl, rfl, rfl⟩
  case round =>
    obtain ⟨rfl, rfl, rfl⟩ := hrel
    go_wp2_with fail
    go_ret2
    exact ⟨rfl, HFIN.out e0 a0 _, HFR.out e0 a0 _⟩

/-- There is a number: it is told, or the bounds' fault is kept. -/
def PeekPost (w : World) (p : Nat) (ao : Option Addr) (cap : Nat) (bs : List UInt8) (at_ n k : Nat) (ea low hi above : Int) (e : Ending) (w' : World) : Prop :=
  Fr (fun k => k = p) w w' ∧ if (n : Int) < low then e = .returned (.tuple #[.int .i64 0, .int .i64 0]) ∧ YAt w' p ao cap bs at_ 5 at_
    else if hi < (n : Int) then e = .returned (.tuple #[.int .i64 0, .int .i64 0]) ∧ YAt w' p ao cap bs at_ above at_
    else e = .returned (.tuple #[.int .i64 n, .int .i64 k]) ∧ YAt w' p ao cap bs at_ 0 ea

set_option maxRecDepth 100000 in
set_option maxHeartbeats 2000000 in
theorem ypeek_num (p : Nat) (ao : Option Addr) (cap : Nat) (bs : List UInt8) (at_ : Nat) (ea low hi above : Int) (n k : Nat) (w : World) (h : YAt w p ao cap bs at_ 0 ea) (hap : ¬ blk ao p) (hat : at_ ≤ bs.length) (hb : bs.length ≤ 140737488355328) (hs : scan (bs.drop at_) 0 0 = .ok (n, k)) :
    Calls Try.prog 56 #[.pointer (some ⟨p, 0, none⟩), .int .i64 low, .int .i64 hi, .int .i64 above] w (PeekPost w p ao cap bs at_ n k ea low hi above) := by
  have hso := scan_ok hs hat
  obtain ⟨hk0, hkl, hhi⟩ := scan_high _ 0 0 n k hs
  rw [Nat.sub_zero, Nat.pow_zero, Nat.mul_one, Nat.zero_add] at hhi
  rw [Nat.sub_zero, List.length_drop] at hkl
  have HSZ := hideIt (by have := ysize_any p ao cap bs at_ 0 ea w h hat hb; rw [hs] at this; simp only [sizeV] at this; exact this)
  have c2 := h.c2
  have HY := hideIt h
  have HHI := hideIt hhi
  have hk9 : k ≤ 9 := by
    have := rdNum_back (bs := bs) (at_ := at_) (n := n) (m := at_ + k) (low := 0) (high := (n : Int)) (above := 0) (by unfold rdNum; rw [hs]; simp)
    have h9 := sevens_nine (n := n) (by omega)
    omega
  clear h hs hhi
  go_enter Try.func56, Try.ntmps56
  go_wp2_with fail
  refine Calls.mono HSZ.out ?_
  rintro e w1 ⟨rfl, hF1⟩
  have hY1 := HY.out.fr hF1 (fun e => e) (fun _ _ _ e => e)
  have hpl1 := hY1.lt
  have d0 := hY1.c0
  have d1 := hY1.c1
  have d2 := hY1.c2
  have d3 := hY1.c3
  have z2 := frozen_of_row w1 p 2 _ _ hY1.box
  have z3 := frozen_of_row w1 p 3 _ _ hY1.box
  have HFIN := hideIt (fun (e0 a0 : Int) (o : Obj) => (hY1.faulted hap e0 a0).fr ((Fr.refl (fun _ => False) _).alloc o) (fun e => e) (fun _ _ _ e => e))
  have HFR := hideIt (fun (e0 a0 : Int) (o : Obj) => ((hF1.mono (S' := fun k => k = p) (fun _ e => e.elim)).trans (((Fr.refl (fun k => k = p) w1).setCell (p := ⟨p, 2, none⟩) (fun _ => rfl) (.int .i64 e0)).setCell (p := ⟨p, 3, none⟩) (fun _ => rfl) (.int .i64 a0)) (fun _ _ e => e)).alloc o)
  have HY1 := hideIt hY1
  have HF1 := hideIt hF1
  clear hF1 hY1
  have hk0' : ((k : Int) == 0) = false := by
    have : ¬ k = 0 := by omega
    simpa using this
  go_wp2_with fail
  go_loopw [12, 13] (fun v i wr => ∃ m d : Nat, m ≤ k ∧ i = .int .i64 ((m : Int) - 1) ∧ v = .int .i64 (high (bs.drop (at_ + m)) (k - m) : Nat) ∧ wr = (w1.alloc (.cells #[.int .i64 0, .int .i64 0] 58)).drewN d) (fun _ i _ => (intOf i + 1).toNat)
  case atStart => exact ⟨k, 0, Nat.le_refl _, rfl, by rw [Nat.sub_self]; rfl, rfl⟩
  case round =>
    obtain ⟨m, d, hm, rfl, rfl, rfl⟩ := hrel
    by_cases h0 : 0 < m
    · have hlt : at_ + (m - 1) < bs.length := by omega
      obtain ⟨b, off, rfl, hcell⟩ : ∃ b off, ao = some ⟨b, off, none⟩ ∧ w1.cell? ⟨b, off + (at_ + (m - 1)), none⟩ = some (.int .u8 (bs[at_ + (m - 1)].toNat : Int)) := by
        rcases HY1.out.bytes with ⟨_, h0⟩ | ⟨b, off, e, hc⟩
        · rw [h0] at hlt
          exact absurd hlt (by simp)
        · exact ⟨b, off, e, hc _ hlt⟩
      have hbl := block_lt_of_cell hcell
      have hst := high_step (bs.drop at_) k (m - 1) (by omega) (by rw [List.length_drop]; omega)
      rw [List.drop_drop, List.drop_drop, List.getElem_drop, show m - 1 + 1 = m by omega] at hst
      have hlo := high_lt (bs.drop (at_ + m)) (k - m)
      have hpw : 128 ^ (k - m) ≤ 128 ^ 8 := Nat.pow_le_pow_right (by decide) (by omega)
      have h88 : (128 : Nat) ^ 8 = 72057594037927936 := by decide
      have hx := UInt8.toNat_lt bs[at_ + (m - 1)]
      have HST := hideIt hst
      clear hst
      generalize high (bs.drop (at_ + m)) (k - m) = q at *
      generalize bs[at_ + (m - 1)] = x at *
      have hq : q < 72057594037927936 := by omega
      have hm1 : (0 : Int) ≤ (m : Int) - 1 := by omega
      have hm2 : (1 : Int) ≤ (m : Int) := by omega
      have hidx : (at_ : Int) + ((m : Int) - 1) = ((at_ + (m - 1) : Nat) : Int) := by omega
      generalize hQ : at_ + (m - 1) = Q at *
      clear hlo hpw h88
      go_wp2_with fail
      go_quiet (fail)
      go_wp2_with fail
      exact ⟨⟨m - 1, d + nq, by omega, by congr 1; omega, by rw [hQ, HST.out]; congr 1; omega, rfl⟩, by simp [intOf]; omega⟩
    · have hm0 : m = 0 := by omega
      have HV := hideIt (show high (bs.drop (at_ + m)) (k - m) = n by rw [hm0, Nat.add_zero, Nat.sub_zero]; exact HHI.out.symm)
      rw [HV.out]
      have hneg : ¬ ((0 : Int) ≤ (m : Int) - 1) := by omega
      have hneg2 : ¬ ((1 : Int) ≤ (m : Int)) := by omega
      have HYD := hideIt (HY1.out.fr (((Fr.refl (fun _ => False) w1).alloc (.cells #[.int .i64 0, .int .i64 0] 58)).drewN d) (fun e => e) (fun _ _ _ e => e))
      have HZD := hideIt (((HF1.out.alloc (.cells #[.int .i64 0, .int .i64 0] 58)).drewN d).mono (S' := fun k => k = p) (fun _ e => e.elim))
      have HFD := hideIt (fun (e0 a0 : Int) => HYD.out.faulted hap e0 a0)
      have HRD := hideIt (fun (e0 a0 : Int) => (HZD.out.setCell (p := ⟨p, 2, none⟩) (fun _ => rfl) (.int .i64 e0)).setCell (p := ⟨p, 3, none⟩) (fun _ => rfl) (.int .i64 a0))
      clear hm0 HV HFIN HFR HY1 HF1 HHI HY HSZ
      by_cases hlow : (n : Int) < low
      · have HP := hideIt (show ∀ e w', Fr (fun k => k = p) w w' → e = .returned (.tuple #[.int .i64 0, .int .i64 0]) → YAt w' p ao cap bs at_ 5 at_ → PeekPost w p ao cap bs at_ n k ea low hi above e w' from fun e w' h1 h2 h3 => ⟨h1, by rw [if_pos hlow]; exact ⟨h2, h3⟩⟩)
        go_wp2_with fail
        go_ret2
        exact HP.out _ _ (HRD.out 5 at_) rfl (HFD.out 5 at_)
      · by_cases hhigh : hi < (n : Int)
        · have HP := hideIt (show ∀ e w', Fr (fun k => k = p) w w' → e = .returned (.tuple #[.int .i64 0, .int .i64 0]) → YAt w' p ao cap bs at_ above at_ → PeekPost w p ao cap bs at_ n k ea low hi above e w' from fun e w' h1 h2 h3 => ⟨h1, by rw [if_neg hlow, if_pos hhigh]; exact ⟨h2, h3⟩⟩)
          go_wp2_with fail
          go_ret2
          exact HP.out _ _ (HRD.out above at_) rfl (HFD.out above at_)
        · have HP := hideIt (show ∀ e w', Fr (fun k => k = p) w w' → e = .returned (.tuple #[.int .i64 n, .int .i64 k]) → YAt w' p ao cap bs at_ 0 ea → PeekPost w p ao cap bs at_ n k ea low hi above e w' from fun e w' h1 h2 h3 => ⟨h1, by rw [if_neg hlow, if_neg hhigh]; exact ⟨h2, h3⟩⟩)
          go_wp2_with fail
          go_ret2
          exact HP.out _ _ HZD.out rfl HYD.out

end Go.Proofs.Yteihmonafdnicaa
