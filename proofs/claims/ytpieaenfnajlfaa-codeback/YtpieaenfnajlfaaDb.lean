/- Code: bytes are read xs their instruction: the walk. -/
import Derived.Test.YtpieaenfnajlfaaDa
import Derived.Test.YtpieaenfnajlfaaDc
import Derived.Test.YtpieaenfnajlfaaCl
namespace Go.Proofs.Ytpieaenfnajlfaa
open Go.RowKit Go.IntWalk Go.Lib
set_option linter.unusedSimpArgs false
set_option linter.unusedVariables false

theorem BsAt.take {w : World} {ao : Option Addr} {bs : List UInt8} (h : BsAt w ao bs) (n : Nat) : BsAt w ao (bs.take n) := by
  rcases h with ⟨rfl, rfl⟩ | ⟨b, off, rfl, hc⟩
  · exact Or.inl ⟨rfl, by simp⟩
  · refine Or.inr ⟨b, off, rfl, fun j hj => ?_⟩
    rw [List.length_take] at hj
    rw [List.getElem_take]
    exact hc j (by omega)

set_option maxRecDepth 100000 in
set_option maxHeartbeats 4000000 in
theorem cback_long1 (i : Ins) (ao : Option Addr) (ca : Nat) (xs : List UInt8) (bo : Option Addr) (cb : Nat) (bs : List UInt8) (cut : Int) (w : World) (h1 : 300 < i.s.size) : Calls Try.prog 6 #[.agg (icells i), .slice ao xs.length ca, .slice bo bs.length cb, .int .i64 cut] w fun e w' => e = .returned (.bool true) ∧ Fr (fun _ => False) w w' := by
  have hd1 : decide (300 < (i.s.size : Int)) = true := by simp; omega
  clear h1
  have HK := hideIt cknown_any
  have HI := hideIt (show ∀ w1, Fr (fun _ => False) (w.alloc (.cells (icells i) 23)) w1 → InsAt w1 w.heap.size i from fun w1 hF => (hF.block w.heap.size (by simp) (fun e => e)).trans (heap_new rfl))
  obtain ⟨op, a, b, c, n, s⟩ := i
  unfold icells at *
  go_enter Try.func6, Try.ntmps6
  go_wp2_with fail
  refine Calls.mono (HK.out _) ?_
  rintro e w1 ⟨rfl, hF1⟩
  have HF1 := hideIt hF1
  clear hF1 HK
  have hI := HI.out _ HF1.out
  have c0 := hI.c0
  have c1 := hI.c1
  have c2 := hI.c2
  have c3 := hI.c3
  have c4 := hI.c4
  have c5 := hI.c5
  dsimp only at c0 c1 c2 c3 c4 c5
  clear hI
  go_wp2_with fail
  go_ret
  exact ⟨rfl, ((Fr.refl _ _).alloc _).trans HF1.out (fun _ _ e => e)⟩

set_option maxRecDepth 100000 in
set_option maxHeartbeats 4000000 in
theorem cback_long2 (i : Ins) (ao : Option Addr) (ca : Nat) (xs : List UInt8) (bo : Option Addr) (cb : Nat) (bs : List UInt8) (cut : Int) (w : World) (h1 : i.s.size ≤ 300) (h2 : 100 < xs.length) : Calls Try.prog 6 #[.agg (icells i), .slice ao xs.length ca, .slice bo bs.length cb, .int .i64 cut] w fun e w' => e = .returned (.bool true) ∧ Fr (fun _ => False) w w' := by
  have hd1 : decide (300 < (i.s.size : Int)) = false := by simp; omega
  have hd2 : decide (100 < (xs.length : Int)) = true := by simp; omega
  clear h1 h2
  have HK := hideIt cknown_any
  have HI := hideIt (show ∀ w1, Fr (fun _ => False) (w.alloc (.cells (icells i) 23)) w1 → InsAt w1 w.heap.size i from fun w1 hF => (hF.block w.heap.size (by simp) (fun e => e)).trans (heap_new rfl))
  obtain ⟨op, a, b, c, n, s⟩ := i
  unfold icells at *
  go_enter Try.func6, Try.ntmps6
  go_wp2_with fail
  refine Calls.mono (HK.out _) ?_
  rintro e w1 ⟨rfl, hF1⟩
  have HF1 := hideIt hF1
  clear hF1 HK
  have hI := HI.out _ HF1.out
  have c0 := hI.c0
  have c1 := hI.c1
  have c2 := hI.c2
  have c3 := hI.c3
  have c4 := hI.c4
  have c5 := hI.c5
  dsimp only at c0 c1 c2 c3 c4 c5
  clear hI
  go_wp2_with fail
  go_ret
  exact ⟨rfl, ((Fr.refl _ _).alloc _).trans HF1.out (fun _ _ e => e)⟩

set_option maxRecDepth 100000 in
set_option maxHeartbeats 4000000 in
theorem cback_long3 (i : Ins) (ao : Option Addr) (ca : Nat) (xs : List UInt8) (bo : Option Addr) (cb : Nat) (bs : List UInt8) (cut : Int) (w : World) (h1 : i.s.size ≤ 300) (h2 : xs.length ≤ 100) (h3 : 100 < bs.length) : Calls Try.prog 6 #[.agg (icells i), .slice ao xs.length ca, .slice bo bs.length cb, .int .i64 cut] w fun e w' => e = .returned (.bool true) ∧ Fr (fun _ => False) w w' := by
  have hd1 : decide (300 < (i.s.size : Int)) = false := by simp; omega
  have hd2 : decide (100 < (xs.length : Int)) = false := by simp; omega
  have hd3 : decide (100 < (bs.length : Int)) = true := by simp; omega
  clear h1 h2 h3
  have HK := hideIt cknown_any
  have HI := hideIt (show ∀ w1, Fr (fun _ => False) (w.alloc (.cells (icells i) 23)) w1 → InsAt w1 w.heap.size i from fun w1 hF => (hF.block w.heap.size (by simp) (fun e => e)).trans (heap_new rfl))
  obtain ⟨op, a, b, c, n, s⟩ := i
  unfold icells at *
  go_enter Try.func6, Try.ntmps6
  go_wp2_with fail
  refine Calls.mono (HK.out _) ?_
  rintro e w1 ⟨rfl, hF1⟩
  have HF1 := hideIt hF1
  clear hF1 HK
  have hI := HI.out _ HF1.out
  have c0 := hI.c0
  have c1 := hI.c1
  have c2 := hI.c2
  have c3 := hI.c3
  have c4 := hI.c4
  have c5 := hI.c5
  dsimp only at c0 c1 c2 c3 c4 c5
  clear hI
  go_wp2_with fail
  go_ret
  exact ⟨rfl, ((Fr.refl _ _).alloc _).trans HF1.out (fun _ _ e => e)⟩

set_option maxRecDepth 100000 in
set_option maxHeartbeats 4000000 in
theorem cback_none_bad (i : Ins) (ao : Option Addr) (ca : Nat) (xs : List UInt8) (bo : Option Addr) (cb : Nat) (bs : List UInt8) (cut : Int) (w : World) (h1 : i.s.size ≤ 300) (h2 : xs.length ≤ 100) (h3 : bs.length ≤ 100) (hA : BsAt w ao xs) (hB : BsAt w bo bs) (hcb0 : bo = none → cb = 0) (hcb : bs.length ≤ cb) (e2 : checkE i = 2) (hr : (readR bs 0).2.2.1 ≠ 0) : Calls Try.prog 6 #[.agg (icells i), .slice ao xs.length ca, .slice bo bs.length cb, .int .i64 cut] w fun e w' => e = .returned (.bool true) ∧ Fr (fun _ => False) w w' := by
  have hd1 : decide (300 < (i.s.size : Int)) = false := by simp; omega
  have hd2 : decide (100 < (xs.length : Int)) = false := by simp; omega
  have hd3 : decide (100 < (bs.length : Int)) = false := by simp; omega
  have HA := hideIt hA
  have HB := hideIt hB
  have HBY := hideIt (bytes_any i)
  unfold BytesP at HBY
  rw [e2] at HBY
  generalize codeI i = cI at *
  have HRD := hideIt (fun w' (hF : Fr (fun _ => False) w w') => by have := read_any bo cb bs 0 w' (HB.out.fr hF (fun _ _ _ e => e)) hcb0 hcb (by omega); exact this)
  have HCK := hideIt (fun w => check_any i w)
  have her : (((readR bs 0).2.2.1 != 0) : Bool) = true := by simpa using hr
  generalize readR bs 0 = rb at *
  obtain ⟨⟨jop, ja, jb, jc, jn, js⟩, m, er, ea⟩ := rb
  unfold readV icells at HRD
  dsimp only at HRD her
  clear hr
  rw [e2] at HCK
  clear h1 h2 hA hB e2
  have HK := hideIt cknown_any
  have HI := hideIt (show ∀ w1, Fr (fun _ => False) (w.alloc (.cells (icells i) 23)) w1 → InsAt w1 w.heap.size i from fun w1 hF => (hF.block w.heap.size (by simp) (fun e => e)).trans (heap_new rfl))
  obtain ⟨op, a, b, c, n, s⟩ := i
  unfold icells at *
  go_enter Try.func6, Try.ntmps6
  go_wp2_with fail
  refine Calls.mono (HK.out _) ?_
  rintro e w1 ⟨rfl, hF1⟩
  have HF1 := hideIt hF1
  clear hF1 HK
  have hI := HI.out _ HF1.out
  have c0 := hI.c0
  have c1 := hI.c1
  have c2 := hI.c2
  have c3 := hI.c3
  have c4 := hI.c4
  have c5 := hI.c5
  dsimp only at c0 c1 c2 c3 c4 c5
  clear hI
  go_wp2_with fail
  refine Calls.mono (HBY.out _) ?_
  rintro e w2 ⟨io, ci, rfl, hfull, hF2, hnew⟩
  have HF2 := hideIt (HF1.out.trans hF2 (fun _ _ e => e))
  clear hF2 hfull hnew
  clear c0 c1 c2 c3 c4 c5
  go_wp2_with fail
  refine Calls.mono (HRD.out _ (((Fr.refl _ _).alloc _).trans HF2.out (fun _ _ e => e))) ?_
  rintro e w20 ⟨rfl, hF20⟩
  have HFX := hideIt hF20
  have HF20 := hideIt (HF2.out.trans hF20 (fun _ _ e => e))
  clear hF20
  have hI := HI.out _ HF20.out
  have c0 := hI.c0
  have c1 := hI.c1
  have c2 := hI.c2
  have c3 := hI.c3
  have c4 := hI.c4
  have c5 := hI.c5
  dsimp only at c0 c1 c2 c3 c4 c5
  have hlt20 := hI.lt
  have hne20 : w.heap.size ≠ w20.heap.size := by omega
  have hne21 : w.heap.size ≠ w20.heap.size + 1 := by omega
  clear hI
  go_wp2_with fail
  have HF21 := hideIt ((HF20.out.alloc (.cells #[.int .i64 jop, .int .i64 ja, .int .i64 jb, .int .i64 jc, .int .i64 jn, .string js] 23)).alloc (.cells #[.int .i64 er, .int .i64 ea] 36))
  clear c0 c1 c2 c3 c4 c5
  have hI := HI.out _ HF21.out
  have c0 := hI.c0
  have c1 := hI.c1
  have c2 := hI.c2
  have c3 := hI.c3
  have c4 := hI.c4
  have c5 := hI.c5
  dsimp only at c0 c1 c2 c3 c4 c5
  clear hI
  refine Calls.mono (HCK.out _) ?_
  rintro e w22 ⟨rfl, hF22⟩
  have HF22 := hideIt (HF21.out.trans hF22 (fun _ _ e => e))
  clear hF22
  go_wp2_with fail
  go_ret
  exact ⟨rfl, ((Fr.refl _ _).alloc _).trans HF22.out (fun _ _ e => e)⟩

set_option maxRecDepth 100000 in
set_option maxHeartbeats 4000000 in
theorem cback_none_ok (i : Ins) (ao : Option Addr) (ca : Nat) (xs : List UInt8) (bo : Option Addr) (cb : Nat) (bs : List UInt8) (cut : Int) (w : World) (h1 : i.s.size ≤ 300) (h2 : xs.length ≤ 100) (h3 : bs.length ≤ 100) (hA : BsAt w ao xs) (hB : BsAt w bo bs) (hcb0 : bo = none → cb = 0) (hcb : bs.length ≤ cb) (e2 : checkE i = 2) (hr : (readR bs 0).2.2.1 = 0) : Calls Try.prog 6 #[.agg (icells i), .slice ao xs.length ca, .slice bo bs.length cb, .int .i64 cut] w fun e w' => e = .returned (.bool true) ∧ Fr (fun _ => False) w w' := by
  have hd1 : decide (300 < (i.s.size : Int)) = false := by simp; omega
  have hd2 : decide (100 < (xs.length : Int)) = false := by simp; omega
  have hd3 : decide (100 < (bs.length : Int)) = false := by simp; omega
  have HA := hideIt hA
  have HB := hideIt hB
  have HBY := hideIt (bytes_any i)
  unfold BytesP at HBY
  rw [e2] at HBY
  generalize codeI i = cI at *
  have HRD := hideIt (fun w' (hF : Fr (fun _ => False) w w') => by have := read_any bo cb bs 0 w' (HB.out.fr hF (fun _ _ _ e => e)) hcb0 hcb (by omega); exact this)
  obtain ⟨mm, kk, hG, hcj, hm, hk1, hkl, hea⟩ := readR_back bs hr
  have HBJ := hideIt (bytes_any (readR bs 0).1)
  unfold BytesP at HBJ
  rw [hG.check] at HBJ
  generalize readR bs 0 = rb at *
  obtain ⟨⟨jop, ja, jb, jc, jn, js⟩, m, er, ea⟩ := rb
  unfold readV icells at HRD
  dsimp only at HRD hr hcj hm hea HBJ
  unfold icells at HBJ
  subst hr hm hea
  generalize codeI ⟨jop, ja, jb, jc, jn, js⟩ = cJ at *
  have HCJ := hideIt hcj
  have HCL := hideIt (show (bs.take kk).length = kk by rw [List.length_take]; omega)
  have hq1 : decide ((1 : Int) ≤ kk) = true := by simp; omega
  have hq2 : decide ((kk : Int) ≤ bs.length) = true := by simp; omega
  have hq3 : (0 : Int) ≤ kk := by omega
  have hq4 : kk ≤ cb := by omega
  have HLJ := hideIt (show cJ.length = kk by rw [hcj, List.length_take]; omega)
  clear hcj hG
  clear h1 h2 hA hB e2
  have HK := hideIt cknown_any
  have HI := hideIt (show ∀ w1, Fr (fun _ => False) (w.alloc (.cells (icells i) 23)) w1 → InsAt w1 w.heap.size i from fun w1 hF => (hF.block w.heap.size (by simp) (fun e => e)).trans (heap_new rfl))
  obtain ⟨op, a, b, c, n, s⟩ := i
  unfold icells at *
  go_enter Try.func6, Try.ntmps6
  go_wp2_with fail
  refine Calls.mono (HK.out _) ?_
  rintro e w1 ⟨rfl, hF1⟩
  have HF1 := hideIt hF1
  clear hF1 HK
  have hI := HI.out _ HF1.out
  have c0 := hI.c0
  have c1 := hI.c1
  have c2 := hI.c2
  have c3 := hI.c3
  have c4 := hI.c4
  have c5 := hI.c5
  dsimp only at c0 c1 c2 c3 c4 c5
  clear hI
  go_wp2_with fail
  refine Calls.mono (HBY.out _) ?_
  rintro e w2 ⟨io, ci, rfl, hfull, hF2, hnew⟩
  have HF2 := hideIt (HF1.out.trans hF2 (fun _ _ e => e))
  clear hF2 hfull hnew
  clear c0 c1 c2 c3 c4 c5
  go_wp2_with fail
  refine Calls.mono (HRD.out _ (((Fr.refl _ _).alloc _).trans HF2.out (fun _ _ e => e))) ?_
  rintro e w20 ⟨rfl, hF20⟩
  have HFX := hideIt hF20
  have HF20 := hideIt (HF2.out.trans hF20 (fun _ _ e => e))
  clear hF20
  have hI := HI.out _ HF20.out
  have c0 := hI.c0
  have c1 := hI.c1
  have c2 := hI.c2
  have c3 := hI.c3
  have c4 := hI.c4
  have c5 := hI.c5
  dsimp only at c0 c1 c2 c3 c4 c5
  have hlt20 := hI.lt
  have hne20 : w.heap.size ≠ w20.heap.size := by omega
  have hne21 : w.heap.size ≠ w20.heap.size + 1 := by omega
  clear hI
  go_wp2_with fail
  clear c0 c1 c2 c3 c4 c5
  refine Calls.mono (HBJ.out _) ?_
  rintro e w22 ⟨jo, cj, rfl, hfull, hF22, _⟩
  have HF22 := hideIt (((HF20.out.alloc (.cells #[.int .i64 jop, .int .i64 ja, .int .i64 jb, .int .i64 jc, .int .i64 jn, .string js] 23)).alloc (.cells #[.int .i64 0, .int .i64 0] 36)).trans hF22 (fun _ _ e => e))
  have HSM := hideIt (by
    have := same_any jo bo cj cb cJ (bs.take kk) w22 hfull.bs ((HB.out.fr (((Fr.refl (fun _ => False) w).alloc _).trans HF22.out (fun _ _ e => e)) (fun _ _ _ e => e)).take kk)
    rw [HCL.out, ← HCJ.out, beq_self_eq_true] at this
    exact this)
  clear hfull hF22
  go_wp2_with fail
  refine Calls.mono HSM.out ?_
  rintro e w23 ⟨rfl, rfl⟩
  go_wp2_with fail
  go_ret
  exact ⟨rfl, ((Fr.refl _ _).alloc _).trans HF22.out (fun _ _ e => e)⟩

set_option maxRecDepth 100000 in
set_option maxHeartbeats 4000000 in
theorem cback_good_bad (i : Ins) (ao : Option Addr) (ca : Nat) (xs : List UInt8) (bo : Option Addr) (cb : Nat) (bs : List UInt8) (cut : Int) (w : World) (h1 : i.s.size ≤ 300) (h2 : xs.length ≤ 100) (h3 : bs.length ≤ 100) (hA : BsAt w ao xs) (hB : BsAt w bo bs) (hcb0 : bo = none → cb = 0) (hcb : bs.length ≤ cb) (e0 : checkE i = 0) (hr : (readR bs 0).2.2.1 ≠ 0) : Calls Try.prog 6 #[.agg (icells i), .slice ao xs.length ca, .slice bo bs.length cb, .int .i64 cut] w fun e w' => e = .returned (.bool true) ∧ Fr (fun _ => False) w w' := by
  have hd1 : decide (300 < (i.s.size : Int)) = false := by simp; omega
  have hd2 : decide (100 < (xs.length : Int)) = false := by simp; omega
  have hd3 : decide (100 < (bs.length : Int)) = false := by simp; omega
  have HA := hideIt hA
  have HB := hideIt hB
  have HBY := hideIt (bytes_any i)
  unfold BytesP at HBY
  obtain ⟨m0, hG0⟩ := good_of i e0
  have hlen := codeI_len m0 i hG0
  have HR1 := hideIt (readR_code m0 i hG0 xs bs)
  have HR2 := hideIt (readR_cut m0 i hG0 xs)
  have HZ := hideIt (fun w => size_any i w)
  clear hG0
  rw [e0] at HBY
  generalize codeI i = cI at *
  have HRD := hideIt (fun w' (hF : Fr (fun _ => False) w w') => by have := read_any bo cb bs 0 w' (HB.out.fr hF (fun _ _ _ e => e)) hcb0 hcb (by omega); exact this)
  have HCK := hideIt (fun w => check_any i w)
  have her : (((readR bs 0).2.2.1 != 0) : Bool) = true := by simpa using hr
  generalize readR bs 0 = rb at *
  obtain ⟨⟨jop, ja, jb, jc, jn, js⟩, m, er, ea⟩ := rb
  unfold readV icells at HRD
  dsimp only at HRD her
  clear hr
  rw [e0] at HCK
  have hl0 : ((cI.length : Int) == 0) = false := by
    have := hlen.1
    exact beq_eq_false_iff_ne.2 (by omega)
  have hwr : IntKind.i64.wrap ((xs.length : Int) + (cI.length : Int)) = (xs.length : Int) + (cI.length : Int) := by
    have := hlen.2
    exact i64_in _ (by omega)
  clear h1 hA hB e0
  have HK := hideIt cknown_any
  have HI := hideIt (show ∀ w1, Fr (fun _ => False) (w.alloc (.cells (icells i) 23)) w1 → InsAt w1 w.heap.size i from fun w1 hF => (hF.block w.heap.size (by simp) (fun e => e)).trans (heap_new rfl))
  obtain ⟨op, a, b, c, n, s⟩ := i
  unfold icells at *
  go_enter Try.func6, Try.ntmps6
  go_wp2_with fail
  refine Calls.mono (HK.out _) ?_
  rintro e w1 ⟨rfl, hF1⟩
  have HF1 := hideIt hF1
  clear hF1 HK
  have hI := HI.out _ HF1.out
  have c0 := hI.c0
  have c1 := hI.c1
  have c2 := hI.c2
  have c3 := hI.c3
  have c4 := hI.c4
  have c5 := hI.c5
  dsimp only at c0 c1 c2 c3 c4 c5
  clear hI
  go_wp2_with fail
  refine Calls.mono (HBY.out _) ?_
  rintro e w2 ⟨io, ci, rfl, hfull, hF2, hnew⟩
  have HF2 := hideIt (HF1.out.trans hF2 (fun _ _ e => e))
  have HQ2 := hideIt hfull
  clear hF2 hfull hnew
  clear c0 c1 c2 c3 c4 c5
  go_wp2_with fail
  refine Calls.mono (copyb_any ao ca xs _ (HA.out.fr (((Fr.refl (fun _ => False) w).alloc _).trans HF2.out (fun _ _ e => e)) (fun _ _ _ e => e)) (by omega)) ?_
  rintro e w3 ⟨ao3, cap3, rfl, hrow3, hF3, hn3⟩
  obtain ⟨ao4, cap4, w4, hrun4, hrow4, hF4, hor4⟩ := app_row w3 25 ao3 cap3 xs cI hrow3 _ ((HQ2.out.bs.fr hF3 (fun _ _ _ e => e)).src ci) (by omega)
  have hF34 : Fr (fun _ => False) w2 w4 := hF3.trans hF4 (fun k hk e => by have := hn3 k e; omega)
  have hn4 : ∀ k, blk ao4 k → w2.heap.size ≤ k := by
    rcases hor4 with e | e
    · subst e; exact hn3
    · subst e
      rintro k ⟨x, e1, e2⟩
      obtain rfl := Option.some.inj e1
      have := hF3.size
      simp only at e2
      omega
  obtain ⟨ao5, cap5, w5, hrun5, hrow5, hF5, hor5⟩ := app_row w4 25 ao4 cap4 (xs ++ cI) bs hrow4 _ ((HB.out.fr (((Fr.refl (fun _ => False) w).alloc _).trans (HF2.out.trans hF34 (fun _ _ e => e)) (fun _ _ e => e)) (fun _ _ _ e => e)).src cb) (by simp only [List.length_append]; omega)
  have HF5 := hideIt (HF2.out.trans (hF34.trans hF5 (fun k hk e => by have := hn4 k e; omega)) (fun _ _ e => e))
  rw [List.length_append] at hrun5
  have HX4 := hideIt hrun4
  have HX5 := hideIt hrun5
  have HW5 := hideIt hrow5
  clear hrow3 hF3 hn3 hrun4 hrow4 hF4 hor4 hF34 hn4 hrun5 hrow5 hF5 hor5
  go_wp2_with (first | (at_builtin; refine wpList_append_run _ rfl (.tmp 46) (.tmp 47) 25 25 rfl _ _ _ _ rfl rfl HX4.out ?_) | (at_builtin; refine wpList_append_run _ rfl (.tmp 48) (.tmp 49) 25 25 rfl _ _ _ _ rfl rfl HX5.out ?_))
  obtain ⟨g5, cur5, rfl, hcap5⟩ : ∃ g5 cur5, ao5 = some ⟨g5, 0, none⟩ ∧ (xs.length + cI.length + bs.length ≤ cap5 ∧ cur5 = 0) := by
    have h := HW5.out.form
    rcases h with ⟨_, h, _⟩ | ⟨g, cur, e, _, hcp, _⟩
    · have h := congrArg List.length h
      have := hlen.1
      simp only [List.length_append, List.length_nil] at h
      omega
    · exact ⟨g, 0, e, by simp only [List.length_append] at hcp; exact hcp, rfl⟩
  have hc5 := hcap5.1
  clear hcap5
  have HRA := hideIt (by
    have := read_any (some ⟨g5, 0, none⟩) cap5 (xs ++ cI ++ bs) (xs.length : Int) w5 HW5.out.bs (fun e => by cases e) (by simp only [List.length_append]; omega) (by have := hlen.2; simp only [List.length_append]; omega)
    rw [HR1.out] at this
    simp only [List.length_append] at this
    unfold readV icells at this
    exact this)
  refine Calls.mono HRA.out ?_
  rintro e w6 ⟨rfl, hF6⟩
  have HW6 := hideIt (HW5.out.bs.fr hF6 (fun _ _ _ e => e))
  have HF6 := hideIt (HF5.out.trans hF6 (fun _ _ e => e))
  clear hF6 HRA HR1 HW5
  have hI := HI.out _ HF6.out
  have c0 := hI.c0
  have c1 := hI.c1
  have c2 := hI.c2
  have c3 := hI.c3
  have c4 := hI.c4
  have c5 := hI.c5
  dsimp only at c0 c1 c2 c3 c4 c5
  have hlt6 := hI.lt
  have hne6 : w.heap.size ≠ w6.heap.size := by omega
  have hne7 : w.heap.size ≠ w6.heap.size + 1 := by omega
  clear hI
  go_wp2_with fail
  refine Calls.mono (HZ.out _) ?_
  rintro e w7 ⟨rfl, hF7⟩
  have hF67 : Fr (fun _ => False) w6 w7 := (((Fr.refl (fun _ => False) w6).alloc _).alloc _).trans hF7 (fun _ _ e => e)
  have HW7 := hideIt (HW6.out.fr hF67 (fun _ _ _ e => e))
  have HF7 := hideIt (HF6.out.trans hF67 (fun _ _ e => e))
  clear hF7 hF67
  clear c0 c1 c2 c3 c4 c5
  go_wp2_with fail
  refine Calls.mono (pick_any cut cI.length hlen.1 (by have := hlen.2; omega) _) ?_
  rintro e w7' ⟨⟨k, rfl, hk⟩, rfl⟩
  have hwr2 : IntKind.i64.wrap ((xs.length : Int) + (k : Int)) = (xs.length : Int) + (k : Int) := by
    have := hlen.2
    exact i64_in _ (by omega)
  have s1 : (0 : Int) ≤ (xs.length : Int) + (k : Int) := by omega
  have s2 : (xs.length : Int) + (k : Int) ≤ cap5 := by omega
  have s3 : ((xs.length : Int) + (k : Int)).toNat = xs.length + k := by omega
  have hle : (xs ++ cI.take k).length = xs.length + k := by rw [List.length_append, List.length_take]; omega
  have HFL := hideIt (by
    have := fails_true (some ⟨g5, 0, none⟩) cap5 (xs ++ cI.take k) (xs.length : Int) 4 ((xs ++ cI.take k).length : Int) w7' (by
      have := HW7.out.take (xs.length + k)
      rw [show (xs ++ cI ++ bs).take (xs.length + k) = xs ++ cI.take k by rw [List.append_assoc, List.take_append, List.take_of_length_le (by omega), show xs.length + k - xs.length = k by omega, List.take_append_of_le_length (by omega)]] at this
      exact this) (fun e => by cases e) (by omega) (by omega) (HR2.out k hk)
    rw [hle, Int.natCast_add] at this
    exact this)
  clear hle
  go_wp2_with fail
  refine Calls.mono HFL.out ?_
  rintro e w8 ⟨rfl, hF8⟩
  have HF8 := hideIt (HF7.out.trans hF8 (fun _ _ e => e))
  clear hF8 HFL HW7 HW6 HF6 HF7 hne6 hne7 hlt6
  go_wp2_with fail
  refine Calls.mono (HRD.out _ (((Fr.refl _ _).alloc _).trans HF8.out (fun _ _ e => e))) ?_
  rintro e w20 ⟨rfl, hF20⟩
  have HFX := hideIt hF20
  have HF20 := hideIt (HF8.out.trans hF20 (fun _ _ e => e))
  clear hF20
  have hI := HI.out _ HF20.out
  have c0 := hI.c0
  have c1 := hI.c1
  have c2 := hI.c2
  have c3 := hI.c3
  have c4 := hI.c4
  have c5 := hI.c5
  dsimp only at c0 c1 c2 c3 c4 c5
  have hlt20 := hI.lt
  have hne20 : w.heap.size ≠ w20.heap.size := by omega
  have hne21 : w.heap.size ≠ w20.heap.size + 1 := by omega
  clear hI
  go_wp2_with fail
  have HF21 := hideIt ((HF20.out.alloc (.cells #[.int .i64 jop, .int .i64 ja, .int .i64 jb, .int .i64 jc, .int .i64 jn, .string js] 23)).alloc (.cells #[.int .i64 er, .int .i64 ea] 36))
  clear c0 c1 c2 c3 c4 c5
  have hI := HI.out _ HF21.out
  have c0 := hI.c0
  have c1 := hI.c1
  have c2 := hI.c2
  have c3 := hI.c3
  have c4 := hI.c4
  have c5 := hI.c5
  dsimp only at c0 c1 c2 c3 c4 c5
  clear hI
  refine Calls.mono (HCK.out _) ?_
  rintro e w22 ⟨rfl, hF22⟩
  have HF22 := hideIt (HF21.out.trans hF22 (fun _ _ e => e))
  clear hF22
  go_wp2_with fail
  go_ret
  exact ⟨rfl, ((Fr.refl _ _).alloc _).trans HF22.out (fun _ _ e => e)⟩

set_option maxRecDepth 100000 in
set_option maxHeartbeats 4000000 in
theorem cback_good_ok (i : Ins) (ao : Option Addr) (ca : Nat) (xs : List UInt8) (bo : Option Addr) (cb : Nat) (bs : List UInt8) (cut : Int) (w : World) (h1 : i.s.size ≤ 300) (h2 : xs.length ≤ 100) (h3 : bs.length ≤ 100) (hA : BsAt w ao xs) (hB : BsAt w bo bs) (hcb0 : bo = none → cb = 0) (hcb : bs.length ≤ cb) (e0 : checkE i = 0) (hr : (readR bs 0).2.2.1 = 0) : Calls Try.prog 6 #[.agg (icells i), .slice ao xs.length ca, .slice bo bs.length cb, .int .i64 cut] w fun e w' => e = .returned (.bool true) ∧ Fr (fun _ => False) w w' := by
  have hd1 : decide (300 < (i.s.size : Int)) = false := by simp; omega
  have hd2 : decide (100 < (xs.length : Int)) = false := by simp; omega
  have hd3 : decide (100 < (bs.length : Int)) = false := by simp; omega
  have HA := hideIt hA
  have HB := hideIt hB
  have HBY := hideIt (bytes_any i)
  unfold BytesP at HBY
  obtain ⟨m0, hG0⟩ := good_of i e0
  have hlen := codeI_len m0 i hG0
  have HR1 := hideIt (readR_code m0 i hG0 xs bs)
  have HR2 := hideIt (readR_cut m0 i hG0 xs)
  have HZ := hideIt (fun w => size_any i w)
  clear hG0
  rw [e0] at HBY
  generalize codeI i = cI at *
  have HRD := hideIt (fun w' (hF : Fr (fun _ => False) w w') => by have := read_any bo cb bs 0 w' (HB.out.fr hF (fun _ _ _ e => e)) hcb0 hcb (by omega); exact this)
  obtain ⟨mm, kk, hG, hcj, hm, hk1, hkl, hea⟩ := readR_back bs hr
  have HBJ := hideIt (bytes_any (readR bs 0).1)
  unfold BytesP at HBJ
  rw [hG.check] at HBJ
  generalize readR bs 0 = rb at *
  obtain ⟨⟨jop, ja, jb, jc, jn, js⟩, m, er, ea⟩ := rb
  unfold readV icells at HRD
  dsimp only at HRD hr hcj hm hea HBJ
  unfold icells at HBJ
  subst hr hm hea
  generalize codeI ⟨jop, ja, jb, jc, jn, js⟩ = cJ at *
  have HCJ := hideIt hcj
  have HCL := hideIt (show (bs.take kk).length = kk by rw [List.length_take]; omega)
  have hq1 : decide ((1 : Int) ≤ kk) = true := by simp; omega
  have hq2 : decide ((kk : Int) ≤ bs.length) = true := by simp; omega
  have hq3 : (0 : Int) ≤ kk := by omega
  have hq4 : kk ≤ cb := by omega
  have HLJ := hideIt (show cJ.length = kk by rw [hcj, List.length_take]; omega)
  clear hcj hG
  have hl0 : ((cI.length : Int) == 0) = false := by
    have := hlen.1
    exact beq_eq_false_iff_ne.2 (by omega)
  have hwr : IntKind.i64.wrap ((xs.length : Int) + (cI.length : Int)) = (xs.length : Int) + (cI.length : Int) := by
    have := hlen.2
    exact i64_in _ (by omega)
  clear h1 hA hB e0
  have HK := hideIt cknown_any
  have HI := hideIt (show ∀ w1, Fr (fun _ => False) (w.alloc (.cells (icells i) 23)) w1 → InsAt w1 w.heap.size i from fun w1 hF => (hF.block w.heap.size (by simp) (fun e => e)).trans (heap_new rfl))
  obtain ⟨op, a, b, c, n, s⟩ := i
  unfold icells at *
  go_enter Try.func6, Try.ntmps6
  go_wp2_with fail
  refine Calls.mono (HK.out _) ?_
  rintro e w1 ⟨rfl, hF1⟩
  have HF1 := hideIt hF1
  clear hF1 HK
  have hI := HI.out _ HF1.out
  have c0 := hI.c0
  have c1 := hI.c1
  have c2 := hI.c2
  have c3 := hI.c3
  have c4 := hI.c4
  have c5 := hI.c5
  dsimp only at c0 c1 c2 c3 c4 c5
  clear hI
  go_wp2_with fail
  refine Calls.mono (HBY.out _) ?_
  rintro e w2 ⟨io, ci, rfl, hfull, hF2, hnew⟩
  have HF2 := hideIt (HF1.out.trans hF2 (fun _ _ e => e))
  have HQ2 := hideIt hfull
  clear hF2 hfull hnew
  clear c0 c1 c2 c3 c4 c5
  go_wp2_with fail
  refine Calls.mono (copyb_any ao ca xs _ (HA.out.fr (((Fr.refl (fun _ => False) w).alloc _).trans HF2.out (fun _ _ e => e)) (fun _ _ _ e => e)) (by omega)) ?_
  rintro e w3 ⟨ao3, cap3, rfl, hrow3, hF3, hn3⟩
  obtain ⟨ao4, cap4, w4, hrun4, hrow4, hF4, hor4⟩ := app_row w3 25 ao3 cap3 xs cI hrow3 _ ((HQ2.out.bs.fr hF3 (fun _ _ _ e => e)).src ci) (by omega)
  have hF34 : Fr (fun _ => False) w2 w4 := hF3.trans hF4 (fun k hk e => by have := hn3 k e; omega)
  have hn4 : ∀ k, blk ao4 k → w2.heap.size ≤ k := by
    rcases hor4 with e | e
    · subst e; exact hn3
    · subst e
      rintro k ⟨x, e1, e2⟩
      obtain rfl := Option.some.inj e1
      have := hF3.size
      simp only at e2
      omega
  obtain ⟨ao5, cap5, w5, hrun5, hrow5, hF5, hor5⟩ := app_row w4 25 ao4 cap4 (xs ++ cI) bs hrow4 _ ((HB.out.fr (((Fr.refl (fun _ => False) w).alloc _).trans (HF2.out.trans hF34 (fun _ _ e => e)) (fun _ _ e => e)) (fun _ _ _ e => e)).src cb) (by simp only [List.length_append]; omega)
  have HF5 := hideIt (HF2.out.trans (hF34.trans hF5 (fun k hk e => by have := hn4 k e; omega)) (fun _ _ e => e))
  rw [List.length_append] at hrun5
  have HX4 := hideIt hrun4
  have HX5 := hideIt hrun5
  have HW5 := hideIt hrow5
  clear hrow3 hF3 hn3 hrun4 hrow4 hF4 hor4 hF34 hn4 hrun5 hrow5 hF5 hor5
  go_wp2_with (first | (at_builtin; refine wpList_append_run _ rfl (.tmp 46) (.tmp 47) 25 25 rfl _ _ _ _ rfl rfl HX4.out ?_) | (at_builtin; refine wpList_append_run _ rfl (.tmp 48) (.tmp 49) 25 25 rfl _ _ _ _ rfl rfl HX5.out ?_))
  obtain ⟨g5, cur5, rfl, hcap5⟩ : ∃ g5 cur5, ao5 = some ⟨g5, 0, none⟩ ∧ (xs.length + cI.length + bs.length ≤ cap5 ∧ cur5 = 0) := by
    have h := HW5.out.form
    rcases h with ⟨_, h, _⟩ | ⟨g, cur, e, _, hcp, _⟩
    · have h := congrArg List.length h
      have := hlen.1
      simp only [List.length_append, List.length_nil] at h
      omega
    · exact ⟨g, 0, e, by simp only [List.length_append] at hcp; exact hcp, rfl⟩
  have hc5 := hcap5.1
  clear hcap5
  have HRA := hideIt (by
    have := read_any (some ⟨g5, 0, none⟩) cap5 (xs ++ cI ++ bs) (xs.length : Int) w5 HW5.out.bs (fun e => by cases e) (by simp only [List.length_append]; omega) (by have := hlen.2; simp only [List.length_append]; omega)
    rw [HR1.out] at this
    simp only [List.length_append] at this
    unfold readV icells at this
    exact this)
  refine Calls.mono HRA.out ?_
  rintro e w6 ⟨rfl, hF6⟩
  have HW6 := hideIt (HW5.out.bs.fr hF6 (fun _ _ _ e => e))
  have HF6 := hideIt (HF5.out.trans hF6 (fun _ _ e => e))
  clear hF6 HRA HR1 HW5
  have hI := HI.out _ HF6.out
  have c0 := hI.c0
  have c1 := hI.c1
  have c2 := hI.c2
  have c3 := hI.c3
  have c4 := hI.c4
  have c5 := hI.c5
  dsimp only at c0 c1 c2 c3 c4 c5
  have hlt6 := hI.lt
  have hne6 : w.heap.size ≠ w6.heap.size := by omega
  have hne7 : w.heap.size ≠ w6.heap.size + 1 := by omega
  clear hI
  go_wp2_with fail
  refine Calls.mono (HZ.out _) ?_
  rintro e w7 ⟨rfl, hF7⟩
  have hF67 : Fr (fun _ => False) w6 w7 := (((Fr.refl (fun _ => False) w6).alloc _).alloc _).trans hF7 (fun _ _ e => e)
  have HW7 := hideIt (HW6.out.fr hF67 (fun _ _ _ e => e))
  have HF7 := hideIt (HF6.out.trans hF67 (fun _ _ e => e))
  clear hF7 hF67
  clear c0 c1 c2 c3 c4 c5
  go_wp2_with fail
  refine Calls.mono (pick_any cut cI.length hlen.1 (by have := hlen.2; omega) _) ?_
  rintro e w7' ⟨⟨k, rfl, hk⟩, rfl⟩
  have hwr2 : IntKind.i64.wrap ((xs.length : Int) + (k : Int)) = (xs.length : Int) + (k : Int) := by
    have := hlen.2
    exact i64_in _ (by omega)
  have s1 : (0 : Int) ≤ (xs.length : Int) + (k : Int) := by omega
  have s2 : (xs.length : Int) + (k : Int) ≤ cap5 := by omega
  have s3 : ((xs.length : Int) + (k : Int)).toNat = xs.length + k := by omega
  have hle : (xs ++ cI.take k).length = xs.length + k := by rw [List.length_append, List.length_take]; omega
  have HFL := hideIt (by
    have := fails_true (some ⟨g5, 0, none⟩) cap5 (xs ++ cI.take k) (xs.length : Int) 4 ((xs ++ cI.take k).length : Int) w7' (by
      have := HW7.out.take (xs.length + k)
      rw [show (xs ++ cI ++ bs).take (xs.length + k) = xs ++ cI.take k by rw [List.append_assoc, List.take_append, List.take_of_length_le (by omega), show xs.length + k - xs.length = k by omega, List.take_append_of_le_length (by omega)]] at this
      exact this) (fun e => by cases e) (by omega) (by omega) (HR2.out k hk)
    rw [hle, Int.natCast_add] at this
    exact this)
  clear hle
  go_wp2_with fail
  refine Calls.mono HFL.out ?_
  rintro e w8 ⟨rfl, hF8⟩
  have HF8 := hideIt (HF7.out.trans hF8 (fun _ _ e => e))
  clear hF8 HFL HW7 HW6 HF6 HF7 hne6 hne7 hlt6
  go_wp2_with fail
  refine Calls.mono (HRD.out _ (((Fr.refl _ _).alloc _).trans HF8.out (fun _ _ e => e))) ?_
  rintro e w20 ⟨rfl, hF20⟩
  have HFX := hideIt hF20
  have HF20 := hideIt (HF8.out.trans hF20 (fun _ _ e => e))
  clear hF20
  have hI := HI.out _ HF20.out
  have c0 := hI.c0
  have c1 := hI.c1
  have c2 := hI.c2
  have c3 := hI.c3
  have c4 := hI.c4
  have c5 := hI.c5
  dsimp only at c0 c1 c2 c3 c4 c5
  have hlt20 := hI.lt
  have hne20 : w.heap.size ≠ w20.heap.size := by omega
  have hne21 : w.heap.size ≠ w20.heap.size + 1 := by omega
  clear hI
  go_wp2_with fail
  clear c0 c1 c2 c3 c4 c5
  refine Calls.mono (HBJ.out _) ?_
  rintro e w22 ⟨jo, cj, rfl, hfull, hF22, _⟩
  have HF22 := hideIt (((HF20.out.alloc (.cells #[.int .i64 jop, .int .i64 ja, .int .i64 jb, .int .i64 jc, .int .i64 jn, .string js] 23)).alloc (.cells #[.int .i64 0, .int .i64 0] 36)).trans hF22 (fun _ _ e => e))
  have HSM := hideIt (by
    have := same_any jo bo cj cb cJ (bs.take kk) w22 hfull.bs ((HB.out.fr (((Fr.refl (fun _ => False) w).alloc _).trans HF22.out (fun _ _ e => e)) (fun _ _ _ e => e)).take kk)
    rw [HCL.out, ← HCJ.out, beq_self_eq_true] at this
    exact this)
  clear hfull hF22
  go_wp2_with fail
  refine Calls.mono HSM.out ?_
  rintro e w23 ⟨rfl, rfl⟩
  go_wp2_with fail
  go_ret
  exact ⟨rfl, ((Fr.refl _ _).alloc _).trans HF22.out (fun _ _ e => e)⟩

theorem cback_any (i : Ins) (ao : Option Addr) (ca : Nat) (xs : List UInt8) (bo : Option Addr) (cb : Nat) (bs : List UInt8) (cut : Int) (w : World) (hA : BsAt w ao xs) (hB : BsAt w bo bs) (hcb0 : bo = none → cb = 0) (hcb : bs.length ≤ cb) : Calls Try.prog 6 #[.agg (icells i), .slice ao xs.length ca, .slice bo bs.length cb, .int .i64 cut] w fun e w' => e = .returned (.bool true) ∧ Fr (fun _ => False) w w' := by
  by_cases h1 : 300 < i.s.size
  · exact cback_long1 i ao ca xs bo cb bs cut w h1
  by_cases h2 : 100 < xs.length
  · exact cback_long2 i ao ca xs bo cb bs cut w (by omega) h2
  by_cases h3 : 100 < bs.length
  · exact cback_long3 i ao ca xs bo cb bs cut w (by omega) (by omega) h3
  have h1 : i.s.size ≤ 300 := by omega
  have h2 : xs.length ≤ 100 := by omega
  have h3 : bs.length ≤ 100 := by omega
  by_cases hr : (readR bs 0).2.2.1 = 0
  · rcases checkE_or i with e | e
    · exact cback_good_ok i ao ca xs bo cb bs cut w h1 h2 h3 hA hB hcb0 hcb e hr
    · exact cback_none_ok i ao ca xs bo cb bs cut w h1 h2 h3 hA hB hcb0 hcb e hr
  · rcases checkE_or i with e | e
    · exact cback_good_bad i ao ca xs bo cb bs cut w h1 h2 h3 hA hB hcb0 hcb e hr
    · exact cback_none_bad i ao ca xs bo cb bs cut w h1 h2 h3 hA hB hcb0 hcb e hr

end Go.Proofs.Ytpieaenfnajlfaa
