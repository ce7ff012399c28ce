/- Code: no instruction's bytes begin another one's. -/
import Derived.Test.YtpieaenfnajlfaaCl
import Derived.Test.YtpieaenfnajlfaaCm
import Derived.Lib.Strings
namespace Go.Proofs.Ytpieaenfnajlfaa
open Go.RowKit Go.IntWalk Go.Lib
set_option linter.unusedSimpArgs false
set_option linter.unusedVariables false

theorem toList_inj {a b : ByteArray} (h : a.toList = b.toList) : a = b := by
  rw [Lib.toList_data, Lib.toList_data] at h
  cases a; cases b
  simp only [ByteArray.mk.injEq]
  exact Array.ext' h

theorem BsAt.take {w : World} {ao : Option Addr} {bs : List UInt8} (h : BsAt w ao bs) (n : Nat) : BsAt w ao (bs.take n) := by
  rcases h with ⟨rfl, rfl⟩ | ⟨b, off, rfl, hc⟩
  · exact Or.inl ⟨rfl, by simp⟩
  · refine Or.inr ⟨b, off, rfl, fun j hj => ?_⟩
    rw [List.length_take] at hj
    rw [List.getElem_take]
    exact hc j (by omega)

def insB (i k : Ins) : Bool := i.op == k.op && (i.a == k.a && (i.b == k.b && (i.c == k.c && (i.n == k.n && i.s.toList == k.s.toList))))
theorem insB_self (i : Ins) : insB i i = true := by simp [insB]
theorem insB_ext {i k : Ins} (h : insB i k = true) : i = k := by
  simp only [insB, Bool.and_eq_true, beq_iff_eq] at h
  obtain ⟨e0, e1, e2, e3, e4, e5⟩ := h
  have e6 := toList_inj e5
  clear e5
  cases i; cases k
  simp only at e0 e1 e2 e3 e4 e6
  subst e0 e1 e2 e3 e4 e6
  rfl
theorem insB_ne {i k : Ins} (h : i ≠ k) : insB i k = false := by
  cases e : insB i k
  · rfl
  · exact absurd (insB_ext e) h

theorem eqIn_ins (i k : Ins) (w : World) : (Op.equalIn 10000 23 (.agg (icells i)) (.agg (icells k))).run Try.prog w = .ok (insB i k) w := by
  obtain ⟨op, a, b, c, n, s⟩ := i
  obtain ⟨op', a', b', c', n', s'⟩ := k
  have u3 := Try.underlying9
  have a3 := Try.isAgg9
  have z3 := Try.sizeOf9
  have u4 := Try.underlying3
  have a4 := Try.isAgg3
  have z4 := Try.sizeOf3
  rw [show (10000 : Nat) = 9999 + 1 from rfl, run_equalIn_agg w 9999 23 _ _ (by kernel_rfl) (by kernel_rfl)]
  unfold icells insB
  simp only [Program.fieldsOf, Try.underlying23]
  go_simp
  by_cases h0 : op = op' <;> by_cases h1 : a = a' <;> by_cases h2 : b = b' <;> by_cases h3 : c = c' <;> by_cases h4 : n = n' <;> by_cases h5 : s.toList = s'.toList <;> simp [h0, h1, h2, h3, h4, h5]

theorem eql_ins (i k : Ins) (w : World) : (binOp .eql 23 (.agg (icells i)) (.agg (icells k))).run Try.prog w = .ok (.bool (insB i k)) w := by
  rw [run_eql_struct, eqIn_ins]
  rfl

set_option maxRecDepth 100000 in
set_option maxHeartbeats 2000000 in
theorem cfree_long1 (i k : Ins) (w : World) (h1 : 300 < i.s.size) : Calls Try.prog 7 #[.agg (icells i), .agg (icells k)] w fun e w' => e = .returned (.bool true) ∧ Fr (fun _ => False) w w' := by
  have hd1 : decide (300 < (i.s.size : Int)) = true := by simp; omega
  clear h1
  have HA := hideIt cawake_any
  have HI := hideIt (show ∀ w1, Fr (fun _ => False) ((w.alloc (.cells (icells i) 23)).alloc (.cells (icells k) 23)) w1 → InsAt w1 w.heap.size i from fun w1 hF => (hF.block w.heap.size (by simp; omega) (fun e => e)).trans (heap_old (heap_new rfl)))
  have HK := hideIt (show ∀ w1, Fr (fun _ => False) ((w.alloc (.cells (icells i) 23)).alloc (.cells (icells k) 23)) w1 → InsAt w1 (w.heap.size + 1) k from fun w1 hF => (hF.block (w.heap.size + 1) (by simp) (fun e => e)).trans (heap_new (by simp)))
  obtain ⟨iop, ia, ib, ic, in_, is_⟩ := i
  obtain ⟨kop, ka, kb, kc, kn, ks⟩ := k
  unfold icells at *
  go_enter Try.func7, Try.ntmps7
  go_wp2_with fail
  refine Calls.mono (HA.out _) ?_
  rintro e w1 ⟨rfl, hF1⟩
  have HF1 := hideIt hF1
  clear hF1 HA
  have hi := HI.out _ HF1.out
  have i0 := hi.c0
  have i1 := hi.c1
  have i2 := hi.c2
  have i3 := hi.c3
  have i4 := hi.c4
  have i5 := hi.c5
  dsimp only at i0 i1 i2 i3 i4 i5
  clear hi
  have hk := HK.out _ HF1.out
  have k0 := hk.c0
  have k1 := hk.c1
  have k2 := hk.c2
  have k3 := hk.c3
  have k4 := hk.c4
  have k5 := hk.c5
  dsimp only at k0 k1 k2 k3 k4 k5
  clear hk
  go_wp2_with fail
  go_ret
  exact ⟨rfl, (((Fr.refl _ _).alloc _).alloc _).trans HF1.out (fun _ _ e => e)⟩

set_option maxRecDepth 100000 in
set_option maxHeartbeats 2000000 in
theorem cfree_long2 (i k : Ins) (w : World) (h1 : i.s.size ≤ 300) (h2 : 300 < k.s.size) : Calls Try.prog 7 #[.agg (icells i), .agg (icells k)] w fun e w' => e = .returned (.bool true) ∧ Fr (fun _ => False) w w' := by
  have hd1 : decide (300 < (i.s.size : Int)) = false := by simp; omega
  have hd2 : decide (300 < (k.s.size : Int)) = true := by simp; omega
  clear h1 h2
  have HA := hideIt cawake_any
  have HI := hideIt (show ∀ w1, Fr (fun _ => False) ((w.alloc (.cells (icells i) 23)).alloc (.cells (icells k) 23)) w1 → InsAt w1 w.heap.size i from fun w1 hF => (hF.block w.heap.size (by simp; omega) (fun e => e)).trans (heap_old (heap_new rfl)))
  have HK := hideIt (show ∀ w1, Fr (fun _ => False) ((w.alloc (.cells (icells i) 23)).alloc (.cells (icells k) 23)) w1 → InsAt w1 (w.heap.size + 1) k from fun w1 hF => (hF.block (w.heap.size + 1) (by simp) (fun e => e)).trans (heap_new (by simp)))
  obtain ⟨iop, ia, ib, ic, in_, is_⟩ := i
  obtain ⟨kop, ka, kb, kc, kn, ks⟩ := k
  unfold icells at *
  go_enter Try.func7, Try.ntmps7
  go_wp2_with fail
  refine Calls.mono (HA.out _) ?_
  rintro e w1 ⟨rfl, hF1⟩
  have HF1 := hideIt hF1
  clear hF1 HA
  have hi := HI.out _ HF1.out
  have i0 := hi.c0
  have i1 := hi.c1
  have i2 := hi.c2
  have i3 := hi.c3
  have i4 := hi.c4
  have i5 := hi.c5
  dsimp only at i0 i1 i2 i3 i4 i5
  clear hi
  have hk := HK.out _ HF1.out
  have k0 := hk.c0
  have k1 := hk.c1
  have k2 := hk.c2
  have k3 := hk.c3
  have k4 := hk.c4
  have k5 := hk.c5
  dsimp only at k0 k1 k2 k3 k4 k5
  clear hk
  go_wp2_with fail
  go_ret
  exact ⟨rfl, (((Fr.refl _ _).alloc _).alloc _).trans HF1.out (fun _ _ e => e)⟩

set_option maxRecDepth 100000 in
set_option maxHeartbeats 2000000 in
theorem cfree_bad1 (i k : Ins) (w : World) (h1 : i.s.size ≤ 300) (h2 : k.s.size ≤ 300) (e1 : checkE i = 2) : Calls Try.prog 7 #[.agg (icells i), .agg (icells k)] w fun e w' => e = .returned (.bool true) ∧ Fr (fun _ => False) w w' := by
  have hd1 : decide (300 < (i.s.size : Int)) = false := by simp; omega
  have hd2 : decide (300 < (k.s.size : Int)) = false := by simp; omega
  clear h1 h2
  have HBI := hideIt (fun w => by have := bytes_any i w; unfold BytesP at this; rw [e1] at this; exact this)
  have HSI := hideIt (fun w => size_any i w)
  generalize hcI : codeI i = cI at *
  have HBK := hideIt (fun w => by have := bytes_any k w; unfold BytesP at this; rw [show checkE k = checkE k from rfl] at this; exact this)
  have HSK := hideIt (fun w => size_any k w)
  generalize hcK : codeI k = cK at *
  generalize hek : checkE k = ek at *
  clear hcI hcK e1 hek
  have HA := hideIt cawake_any
  have HI := hideIt (show ∀ w1, Fr (fun _ => False) ((w.alloc (.cells (icells i) 23)).alloc (.cells (icells k) 23)) w1 → InsAt w1 w.heap.size i from fun w1 hF => (hF.block w.heap.size (by simp; omega) (fun e => e)).trans (heap_old (heap_new rfl)))
  have HK := hideIt (show ∀ w1, Fr (fun _ => False) ((w.alloc (.cells (icells i) 23)).alloc (.cells (icells k) 23)) w1 → InsAt w1 (w.heap.size + 1) k from fun w1 hF => (hF.block (w.heap.size + 1) (by simp) (fun e => e)).trans (heap_new (by simp)))
  obtain ⟨iop, ia, ib, ic, in_, is_⟩ := i
  obtain ⟨kop, ka, kb, kc, kn, ks⟩ := k
  unfold icells at *
  go_enter Try.func7, Try.ntmps7
  go_wp2_with fail
  refine Calls.mono (HA.out _) ?_
  rintro e w1 ⟨rfl, hF1⟩
  have HF1 := hideIt hF1
  clear hF1 HA
  have hi := HI.out _ HF1.out
  have i0 := hi.c0
  have i1 := hi.c1
  have i2 := hi.c2
  have i3 := hi.c3
  have i4 := hi.c4
  have i5 := hi.c5
  dsimp only at i0 i1 i2 i3 i4 i5
  clear hi
  have hk := HK.out _ HF1.out
  have k0 := hk.c0
  have k1 := hk.c1
  have k2 := hk.c2
  have k3 := hk.c3
  have k4 := hk.c4
  have k5 := hk.c5
  dsimp only at k0 k1 k2 k3 k4 k5
  clear hk
  go_wp2_with fail
  refine Calls.mono (HBI.out _) ?_
  rintro e w2 ⟨ao, cap, rfl, hfull, hF2, hnew⟩
  have HF2 := hideIt (HF1.out.trans hF2 (fun _ _ e => e))
  have HQ2 := hideIt hfull
  clear hF2 hfull hnew
  clear i0 k0 i1 k1 i2 k2 i3 k3 i4 k4 i5 k5
  have hi := HI.out _ HF2.out
  have i0 := hi.c0
  have i1 := hi.c1
  have i2 := hi.c2
  have i3 := hi.c3
  have i4 := hi.c4
  have i5 := hi.c5
  dsimp only at i0 i1 i2 i3 i4 i5
  clear hi
  have hk := HK.out _ HF2.out
  have k0 := hk.c0
  have k1 := hk.c1
  have k2 := hk.c2
  have k3 := hk.c3
  have k4 := hk.c4
  have k5 := hk.c5
  dsimp only at k0 k1 k2 k3 k4 k5
  clear hk
  go_wp2_with fail
  refine Calls.mono (HBK.out _) ?_
  rintro e w3 ⟨bo, cbp, rfl, hfull, hF3, hnew⟩
  have HF23 := hideIt hF3
  have HF3 := hideIt (HF2.out.trans hF3 (fun _ _ e => e))
  have HQ3 := hideIt hfull
  clear hF3 hfull hnew
  clear i0 k0 i1 k1 i2 k2 i3 k3 i4 k4 i5 k5
  have hi := HI.out _ HF3.out
  have i0 := hi.c0
  have i1 := hi.c1
  have i2 := hi.c2
  have i3 := hi.c3
  have i4 := hi.c4
  have i5 := hi.c5
  dsimp only at i0 i1 i2 i3 i4 i5
  clear hi
  have hk := HK.out _ HF3.out
  have k0 := hk.c0
  have k1 := hk.c1
  have k2 := hk.c2
  have k3 := hk.c3
  have k4 := hk.c4
  have k5 := hk.c5
  dsimp only at k0 k1 k2 k3 k4 k5
  clear hk
  go_wp2_with fail
  refine Calls.mono (HSI.out _) ?_
  rintro e w4 ⟨rfl, hF4⟩
  have HF4 := hideIt (HF3.out.trans hF4 (fun _ _ e => e))
  clear hF4
  clear i0 k0 i1 k1 i2 k2 i3 k3 i4 k4 i5 k5
  have hi := HI.out _ HF4.out
  have i0 := hi.c0
  have i1 := hi.c1
  have i2 := hi.c2
  have i3 := hi.c3
  have i4 := hi.c4
  have i5 := hi.c5
  dsimp only at i0 i1 i2 i3 i4 i5
  clear hi
  have hk := HK.out _ HF4.out
  have k0 := hk.c0
  have k1 := hk.c1
  have k2 := hk.c2
  have k3 := hk.c3
  have k4 := hk.c4
  have k5 := hk.c5
  dsimp only at k0 k1 k2 k3 k4 k5
  clear hk
  go_wp2_with fail
  refine Calls.mono (HSK.out _) ?_
  rintro e w5 ⟨rfl, hF5⟩
  have HF5 := hideIt (HF4.out.trans hF5 (fun _ _ e => e))
  clear hF5
  clear i0 k0 i1 k1 i2 k2 i3 k3 i4 k4 i5 k5
  have hi := HI.out _ HF5.out
  have i0 := hi.c0
  have i1 := hi.c1
  have i2 := hi.c2
  have i3 := hi.c3
  have i4 := hi.c4
  have i5 := hi.c5
  dsimp only at i0 i1 i2 i3 i4 i5
  clear hi
  have hk := HK.out _ HF5.out
  have k0 := hk.c0
  have k1 := hk.c1
  have k2 := hk.c2
  have k3 := hk.c3
  have k4 := hk.c4
  have k5 := hk.c5
  dsimp only at k0 k1 k2 k3 k4 k5
  clear hk
  go_wp2_with fail
  go_ret
  exact ⟨rfl, (((Fr.refl _ _).alloc _).alloc _).trans HF5.out (fun _ _ e => e)⟩

set_option maxRecDepth 100000 in
set_option maxHeartbeats 2000000 in
theorem cfree_bad2 (i k : Ins) (w : World) (h1 : i.s.size ≤ 300) (h2 : k.s.size ≤ 300) (e1 : checkE i = 0) (e2 : checkE k = 2) : Calls Try.prog 7 #[.agg (icells i), .agg (icells k)] w fun e w' => e = .returned (.bool true) ∧ Fr (fun _ => False) w w' := by
  have hd1 : decide (300 < (i.s.size : Int)) = false := by simp; omega
  have hd2 : decide (300 < (k.s.size : Int)) = false := by simp; omega
  clear h1 h2
  have HBI := hideIt (fun w => by have := bytes_any i w; unfold BytesP at this; rw [e1] at this; exact this)
  have HSI := hideIt (fun w => size_any i w)
  generalize hcI : codeI i = cI at *
  have HBK := hideIt (fun w => by have := bytes_any k w; unfold BytesP at this; rw [e2] at this; exact this)
  have HSK := hideIt (fun w => size_any k w)
  generalize hcK : codeI k = cK at *
  clear hcI hcK e1 e2
  have HA := hideIt cawake_any
  have HI := hideIt (show ∀ w1, Fr (fun _ => False) ((w.alloc (.cells (icells i) 23)).alloc (.cells (icells k) 23)) w1 → InsAt w1 w.heap.size i from fun w1 hF => (hF.block w.heap.size (by simp; omega) (fun e => e)).trans (heap_old (heap_new rfl)))
  have HK := hideIt (show ∀ w1, Fr (fun _ => False) ((w.alloc (.cells (icells i) 23)).alloc (.cells (icells k) 23)) w1 → InsAt w1 (w.heap.size + 1) k from fun w1 hF => (hF.block (w.heap.size + 1) (by simp) (fun e => e)).trans (heap_new (by simp)))
  obtain ⟨iop, ia, ib, ic, in_, is_⟩ := i
  obtain ⟨kop, ka, kb, kc, kn, ks⟩ := k
  unfold icells at *
  go_enter Try.func7, Try.ntmps7
  go_wp2_with fail
  refine Calls.mono (HA.out _) ?_
  rintro e w1 ⟨rfl, hF1⟩
  have HF1 := hideIt hF1
  clear hF1 HA
  have hi := HI.out _ HF1.out
  have i0 := hi.c0
  have i1 := hi.c1
  have i2 := hi.c2
  have i3 := hi.c3
  have i4 := hi.c4
  have i5 := hi.c5
  dsimp only at i0 i1 i2 i3 i4 i5
  clear hi
  have hk := HK.out _ HF1.out
  have k0 := hk.c0
  have k1 := hk.c1
  have k2 := hk.c2
  have k3 := hk.c3
  have k4 := hk.c4
  have k5 := hk.c5
  dsimp only at k0 k1 k2 k3 k4 k5
  clear hk
  go_wp2_with fail
  refine Calls.mono (HBI.out _) ?_
  rintro e w2 ⟨ao, cap, rfl, hfull, hF2, hnew⟩
  have HF2 := hideIt (HF1.out.trans hF2 (fun _ _ e => e))
  have HQ2 := hideIt hfull
  clear hF2 hfull hnew
  clear i0 k0 i1 k1 i2 k2 i3 k3 i4 k4 i5 k5
  have hi := HI.out _ HF2.out
  have i0 := hi.c0
  have i1 := hi.c1
  have i2 := hi.c2
  have i3 := hi.c3
  have i4 := hi.c4
  have i5 := hi.c5
  dsimp only at i0 i1 i2 i3 i4 i5
  clear hi
  have hk := HK.out _ HF2.out
  have k0 := hk.c0
  have k1 := hk.c1
  have k2 := hk.c2
  have k3 := hk.c3
  have k4 := hk.c4
  have k5 := hk.c5
  dsimp only at k0 k1 k2 k3 k4 k5
  clear hk
  go_wp2_with fail
  refine Calls.mono (HBK.out _) ?_
  rintro e w3 ⟨bo, cbp, rfl, hfull, hF3, hnew⟩
  have HF23 := hideIt hF3
  have HF3 := hideIt (HF2.out.trans hF3 (fun _ _ e => e))
  have HQ3 := hideIt hfull
  clear hF3 hfull hnew
  clear i0 k0 i1 k1 i2 k2 i3 k3 i4 k4 i5 k5
  have hi := HI.out _ HF3.out
  have i0 := hi.c0
  have i1 := hi.c1
  have i2 := hi.c2
  have i3 := hi.c3
  have i4 := hi.c4
  have i5 := hi.c5
  dsimp only at i0 i1 i2 i3 i4 i5
  clear hi
  have hk := HK.out _ HF3.out
  have k0 := hk.c0
  have k1 := hk.c1
  have k2 := hk.c2
  have k3 := hk.c3
  have k4 := hk.c4
  have k5 := hk.c5
  dsimp only at k0 k1 k2 k3 k4 k5
  clear hk
  go_wp2_with fail
  refine Calls.mono (HSI.out _) ?_
  rintro e w4 ⟨rfl, hF4⟩
  have HF4 := hideIt (HF3.out.trans hF4 (fun _ _ e => e))
  clear hF4
  clear i0 k0 i1 k1 i2 k2 i3 k3 i4 k4 i5 k5
  have hi := HI.out _ HF4.out
  have i0 := hi.c0
  have i1 := hi.c1
  have i2 := hi.c2
  have i3 := hi.c3
  have i4 := hi.c4
  have i5 := hi.c5
  dsimp only at i0 i1 i2 i3 i4 i5
  clear hi
  have hk := HK.out _ HF4.out
  have k0 := hk.c0
  have k1 := hk.c1
  have k2 := hk.c2
  have k3 := hk.c3
  have k4 := hk.c4
  have k5 := hk.c5
  dsimp only at k0 k1 k2 k3 k4 k5
  clear hk
  go_wp2_with fail
  refine Calls.mono (HSK.out _) ?_
  rintro e w5 ⟨rfl, hF5⟩
  have HF5 := hideIt (HF4.out.trans hF5 (fun _ _ e => e))
  clear hF5
  clear i0 k0 i1 k1 i2 k2 i3 k3 i4 k4 i5 k5
  have hi := HI.out _ HF5.out
  have i0 := hi.c0
  have i1 := hi.c1
  have i2 := hi.c2
  have i3 := hi.c3
  have i4 := hi.c4
  have i5 := hi.c5
  dsimp only at i0 i1 i2 i3 i4 i5
  clear hi
  have hk := HK.out _ HF5.out
  have k0 := hk.c0
  have k1 := hk.c1
  have k2 := hk.c2
  have k3 := hk.c3
  have k4 := hk.c4
  have k5 := hk.c5
  dsimp only at k0 k1 k2 k3 k4 k5
  clear hk
  go_wp2_with fail
  go_ret
  exact ⟨rfl, (((Fr.refl _ _).alloc _).alloc _).trans HF5.out (fun _ _ e => e)⟩

set_option maxRecDepth 100000 in
set_option maxHeartbeats 2000000 in
theorem cfree_short (i k : Ins) (w : World) (h1 : i.s.size ≤ 300) (h2 : k.s.size ≤ 300) (e1 : checkE i = 0) (e2 : checkE k = 0) (hl : (codeI k).length < (codeI i).length) : Calls Try.prog 7 #[.agg (icells i), .agg (icells k)] w fun e w' => e = .returned (.bool true) ∧ Fr (fun _ => False) w w' := by
  have hne : insB i k = false := insB_ne (fun e => by subst e; omega)
  have hd1 : decide (300 < (i.s.size : Int)) = false := by simp; omega
  have hd2 : decide (300 < (k.s.size : Int)) = false := by simp; omega
  clear h1 h2
  have HBI := hideIt (fun w => by have := bytes_any i w; unfold BytesP at this; rw [e1] at this; exact this)
  generalize hcI : codeI i = cI at *
  have HBK := hideIt (fun w => by have := bytes_any k w; unfold BytesP at this; rw [e2] at this; exact this)
  generalize hcK : codeI k = cK at *
  have HNE := hideIt hne
  have hdl : decide ((cI.length : Int) ≤ cK.length) = false := by simp; omega
  have hdn : decide (cI.length ≤ cK.length) = false := by simp; omega
  have hdm : ¬ cI.length ≤ cK.length := by omega
  clear hcI hcK e1 e2 hl hne
  have HA := hideIt cawake_any
  have HI := hideIt (show ∀ w1, Fr (fun _ => False) ((w.alloc (.cells (icells i) 23)).alloc (.cells (icells k) 23)) w1 → InsAt w1 w.heap.size i from fun w1 hF => (hF.block w.heap.size (by simp; omega) (fun e => e)).trans (heap_old (heap_new rfl)))
  have HK := hideIt (show ∀ w1, Fr (fun _ => False) ((w.alloc (.cells (icells i) 23)).alloc (.cells (icells k) 23)) w1 → InsAt w1 (w.heap.size + 1) k from fun w1 hF => (hF.block (w.heap.size + 1) (by simp) (fun e => e)).trans (heap_new (by simp)))
  obtain ⟨iop, ia, ib, ic, in_, is_⟩ := i
  obtain ⟨kop, ka, kb, kc, kn, ks⟩ := k
  unfold icells at *
  go_enter Try.func7, Try.ntmps7
  go_wp2_with fail
  refine Calls.mono (HA.out _) ?_
  rintro e w1 ⟨rfl, hF1⟩
  have HF1 := hideIt hF1
  clear hF1 HA
  have hi := HI.out _ HF1.out
  have i0 := hi.c0
  have i1 := hi.c1
  have i2 := hi.c2
  have i3 := hi.c3
  have i4 := hi.c4
  have i5 := hi.c5
  dsimp only at i0 i1 i2 i3 i4 i5
  clear hi
  have hk := HK.out _ HF1.out
  have k0 := hk.c0
  have k1 := hk.c1
  have k2 := hk.c2
  have k3 := hk.c3
  have k4 := hk.c4
  have k5 := hk.c5
  dsimp only at k0 k1 k2 k3 k4 k5
  clear hk
  go_wp2_with fail
  refine Calls.mono (HBI.out _) ?_
  rintro e w2 ⟨ao, cap, rfl, hfull, hF2, hnew⟩
  have HF2 := hideIt (HF1.out.trans hF2 (fun _ _ e => e))
  have HQ2 := hideIt hfull
  clear hF2 hfull hnew
  clear i0 k0 i1 k1 i2 k2 i3 k3 i4 k4 i5 k5
  have hi := HI.out _ HF2.out
  have i0 := hi.c0
  have i1 := hi.c1
  have i2 := hi.c2
  have i3 := hi.c3
  have i4 := hi.c4
  have i5 := hi.c5
  dsimp only at i0 i1 i2 i3 i4 i5
  clear hi
  have hk := HK.out _ HF2.out
  have k0 := hk.c0
  have k1 := hk.c1
  have k2 := hk.c2
  have k3 := hk.c3
  have k4 := hk.c4
  have k5 := hk.c5
  dsimp only at k0 k1 k2 k3 k4 k5
  clear hk
  go_wp2_with fail
  refine Calls.mono (HBK.out _) ?_
  rintro e w3 ⟨bo, cbp, rfl, hfull, hF3, hnew⟩
  have HF23 := hideIt hF3
  have HF3 := hideIt (HF2.out.trans hF3 (fun _ _ e => e))
  have HQ3 := hideIt hfull
  clear hF3 hfull hnew
  clear i0 k0 i1 k1 i2 k2 i3 k3 i4 k4 i5 k5
  have hi := HI.out _ HF3.out
  have i0 := hi.c0
  have i1 := hi.c1
  have i2 := hi.c2
  have i3 := hi.c3
  have i4 := hi.c4
  have i5 := hi.c5
  dsimp only at i0 i1 i2 i3 i4 i5
  clear hi
  have hk := HK.out _ HF3.out
  have k0 := hk.c0
  have k1 := hk.c1
  have k2 := hk.c2
  have k3 := hk.c3
  have k4 := hk.c4
  have k5 := hk.c5
  dsimp only at k0 k1 k2 k3 k4 k5
  clear hk
  go_wp2_with fail
  all_goals first
    | (go_ret; exact ⟨rfl, (((Fr.refl _ _).alloc _).alloc _).trans HF3.out (fun _ _ e => e)⟩)
    | (exfalso; have hq := HNE.out; simp_all [insB])

set_option maxRecDepth 100000 in
set_option maxHeartbeats 2000000 in
theorem cfree_long (i k : Ins) (w : World) (h1 : i.s.size ≤ 300) (h2 : k.s.size ≤ 300) (e1 : checkE i = 0) (e2 : checkE k = 0) (hl : (codeI i).length ≤ (codeI k).length) (hik : i ≠ k) : Calls Try.prog 7 #[.agg (icells i), .agg (icells k)] w fun e w' => e = .returned (.bool true) ∧ Fr (fun _ => False) w w' := by
  have hne : (codeI i == (codeI k).take (codeI i).length) = false := by
    have hn : ¬ codeI i = (codeI k).take (codeI i).length := fun h => by
      obtain ⟨m, hm⟩ := good_of i e1
      obtain ⟨p, hp⟩ := good_of k e2
      exact hik (free hm hp (h ▸ List.take_prefix _ _))
    simpa using hn
  have HNE := hideIt (insB_ne hik)
  have hpos : 0 < (codeI i).length := by
    obtain ⟨m, hm⟩ := good_of i e1
    rw [hm.code]
    simp
  have hd1 : decide (300 < (i.s.size : Int)) = false := by simp; omega
  have hd2 : decide (300 < (k.s.size : Int)) = false := by simp; omega
  clear h1 h2
  have HBI := hideIt (fun w => by have := bytes_any i w; unfold BytesP at this; rw [e1] at this; exact this)
  generalize hcI : codeI i = cI at *
  have HBK := hideIt (fun w => by have := bytes_any k w; unfold BytesP at this; rw [e2] at this; exact this)
  generalize hcK : codeI k = cK at *
  have HSN := hideIt hne
  have hdl : decide ((cI.length : Int) ≤ cK.length) = true := by simp; omega
  clear hcI hcK e1 e2 hne hik
  have HA := hideIt cawake_any
  have HI := hideIt (show ∀ w1, Fr (fun _ => False) ((w.alloc (.cells (icells i) 23)).alloc (.cells (icells k) 23)) w1 → InsAt w1 w.heap.size i from fun w1 hF => (hF.block w.heap.size (by simp; omega) (fun e => e)).trans (heap_old (heap_new rfl)))
  have HK := hideIt (show ∀ w1, Fr (fun _ => False) ((w.alloc (.cells (icells i) 23)).alloc (.cells (icells k) 23)) w1 → InsAt w1 (w.heap.size + 1) k from fun w1 hF => (hF.block (w.heap.size + 1) (by simp) (fun e => e)).trans (heap_new (by simp)))
  obtain ⟨iop, ia, ib, ic, in_, is_⟩ := i
  obtain ⟨kop, ka, kb, kc, kn, ks⟩ := k
  unfold icells at *
  go_enter Try.func7, Try.ntmps7
  go_wp2_with fail
  refine Calls.mono (HA.out _) ?_
  rintro e w1 ⟨rfl, hF1⟩
  have HF1 := hideIt hF1
  clear hF1 HA
  have hi := HI.out _ HF1.out
  have i0 := hi.c0
  have i1 := hi.c1
  have i2 := hi.c2
  have i3 := hi.c3
  have i4 := hi.c4
  have i5 := hi.c5
  dsimp only at i0 i1 i2 i3 i4 i5
  clear hi
  have hk := HK.out _ HF1.out
  have k0 := hk.c0
  have k1 := hk.c1
  have k2 := hk.c2
  have k3 := hk.c3
  have k4 := hk.c4
  have k5 := hk.c5
  dsimp only at k0 k1 k2 k3 k4 k5
  clear hk
  go_wp2_with fail
  refine Calls.mono (HBI.out _) ?_
  rintro e w2 ⟨ao, cap, rfl, hfull, hF2, hnew⟩
  have HF2 := hideIt (HF1.out.trans hF2 (fun _ _ e => e))
  have HQ2 := hideIt hfull
  clear hF2 hfull hnew
  clear i0 k0 i1 k1 i2 k2 i3 k3 i4 k4 i5 k5
  have hi := HI.out _ HF2.out
  have i0 := hi.c0
  have i1 := hi.c1
  have i2 := hi.c2
  have i3 := hi.c3
  have i4 := hi.c4
  have i5 := hi.c5
  dsimp only at i0 i1 i2 i3 i4 i5
  clear hi
  have hk := HK.out _ HF2.out
  have k0 := hk.c0
  have k1 := hk.c1
  have k2 := hk.c2
  have k3 := hk.c3
  have k4 := hk.c4
  have k5 := hk.c5
  dsimp only at k0 k1 k2 k3 k4 k5
  clear hk
  go_wp2_with fail
  refine Calls.mono (HBK.out _) ?_
  rintro e w3 ⟨bo, cbp, rfl, hfull, hF3, hnew⟩
  have HF23 := hideIt hF3
  have HF3 := hideIt (HF2.out.trans hF3 (fun _ _ e => e))
  have HQ3 := hideIt hfull
  clear hF3 hfull hnew
  clear i0 k0 i1 k1 i2 k2 i3 k3 i4 k4 i5 k5
  have hi := HI.out _ HF3.out
  have i0 := hi.c0
  have i1 := hi.c1
  have i2 := hi.c2
  have i3 := hi.c3
  have i4 := hi.c4
  have i5 := hi.c5
  dsimp only at i0 i1 i2 i3 i4 i5
  clear hi
  have hk := HK.out _ HF3.out
  have k0 := hk.c0
  have k1 := hk.c1
  have k2 := hk.c2
  have k3 := hk.c3
  have k4 := hk.c4
  have k5 := hk.c5
  dsimp only at k0 k1 k2 k3 k4 k5
  clear hk
  obtain ⟨g, zs, rfl, hh3, hcb, hm3⟩ : ∃ g zs, bo = some ⟨g, 0, none⟩ ∧ w3.heap[g]? = some (.cells (bv (cK ++ zs)).toArray 5 (0, 0)) ∧ cbp = (cK ++ zs).length ∧ cbp ≤ maxLen := by
    rcases HQ3.out with ⟨_, e, _⟩ | h
    · rw [e] at hl; simp at hl; rw [hl] at hpos; simp at hpos
    · exact h
  have HS := hideIt (by
    have := same_any ao (some ⟨g, 0, none⟩) cap cbp cI (cK.take cI.length) w3 (HQ2.out.bs.fr HF23.out (fun _ _ _ e => e)) ((HQ3.out.bs).take cI.length)
    rw [HSN.out, List.length_take, Nat.min_eq_left hl] at this
    exact this)
  have hle1 : (0 : Int) ≤ cI.length := by omega
  have hle2 : cI.length ≤ cbp := by rw [hcb]; simp; omega
  clear hcb hm3 hh3
  go_wp2_with fail
  refine Calls.mono HS.out ?_
  rintro e w4 ⟨rfl, rfl⟩
  go_wp2_with fail
  all_goals first
    | (go_ret; exact ⟨rfl, (((Fr.refl _ _).alloc _).alloc _).trans HF3.out (fun _ _ e => e)⟩)
    | (exfalso; have hq := HNE.out; simp_all [insB])

set_option maxRecDepth 100000 in
set_option maxHeartbeats 2000000 in
theorem cfree_self (i : Ins) (w : World) (h1 : i.s.size ≤ 300) (e1 : checkE i = 0) : Calls Try.prog 7 #[.agg (icells i), .agg (icells i)] w fun e w' => e = .returned (.bool true) ∧ Fr (fun _ => False) w w' := by
  have hd1 : decide (300 < (i.s.size : Int)) = false := by simp; omega
  clear h1
  have hpos : 0 < (codeI i).length := by
    obtain ⟨m, hm⟩ := good_of i e1
    rw [hm.code]
    simp
  have HBI := hideIt (fun w => by have := bytes_any i w; unfold BytesP at this; rw [e1] at this; exact this)
  have HBK := HBI
  generalize codeI i = cI at *
  have hdl : decide ((cI.length : Int) ≤ cI.length) = true := by simp
  clear e1
  have HA := hideIt cawake_any
  have HI := hideIt (show ∀ w1, Fr (fun _ => False) ((w.alloc (.cells (icells i) 23)).alloc (.cells (icells i) 23)) w1 → InsAt w1 w.heap.size i from fun w1 hF => (hF.block w.heap.size (by simp; omega) (fun e => e)).trans (heap_old (heap_new rfl)))
  have HK := hideIt (show ∀ w1, Fr (fun _ => False) ((w.alloc (.cells (icells i) 23)).alloc (.cells (icells i) 23)) w1 → InsAt w1 (w.heap.size + 1) i from fun w1 hF => (hF.block (w.heap.size + 1) (by simp) (fun e => e)).trans (heap_new (by simp)))
  obtain ⟨iop, ia, ib, ic, in_, is_⟩ := i
  unfold icells at *
  go_enter Try.func7, Try.ntmps7
  go_wp2_with fail
  refine Calls.mono (HA.out _) ?_
  rintro e w1 ⟨rfl, hF1⟩
  have HF1 := hideIt hF1
  clear hF1 HA
  have hi := HI.out _ HF1.out
  have i0 := hi.c0
  have i1 := hi.c1
  have i2 := hi.c2
  have i3 := hi.c3
  have i4 := hi.c4
  have i5 := hi.c5
  dsimp only at i0 i1 i2 i3 i4 i5
  clear hi
  have hk := HK.out _ HF1.out
  have k0 := hk.c0
  have k1 := hk.c1
  have k2 := hk.c2
  have k3 := hk.c3
  have k4 := hk.c4
  have k5 := hk.c5
  dsimp only at k0 k1 k2 k3 k4 k5
  clear hk
  go_wp2_with fail
  refine Calls.mono (HBI.out _) ?_
  rintro e w2 ⟨ao, cap, rfl, hfull, hF2, hnew⟩
  have HF2 := hideIt (HF1.out.trans hF2 (fun _ _ e => e))
  have HQ2 := hideIt hfull
  clear hF2 hfull hnew
  clear i0 k0 i1 k1 i2 k2 i3 k3 i4 k4 i5 k5
  have hi := HI.out _ HF2.out
  have i0 := hi.c0
  have i1 := hi.c1
  have i2 := hi.c2
  have i3 := hi.c3
  have i4 := hi.c4
  have i5 := hi.c5
  dsimp only at i0 i1 i2 i3 i4 i5
  clear hi
  have hk := HK.out _ HF2.out
  have k0 := hk.c0
  have k1 := hk.c1
  have k2 := hk.c2
  have k3 := hk.c3
  have k4 := hk.c4
  have k5 := hk.c5
  dsimp only at k0 k1 k2 k3 k4 k5
  clear hk
  go_wp2_with fail
  refine Calls.mono (HBK.out _) ?_
  rintro e w3 ⟨bo, cbp, rfl, hfull, hF3, hnew⟩
  have HF23 := hideIt hF3
  have HF3 := hideIt (HF2.out.trans hF3 (fun _ _ e => e))
  have HQ3 := hideIt hfull
  clear hF3 hfull hnew
  clear i0 k0 i1 k1 i2 k2 i3 k3 i4 k4 i5 k5
  have hi := HI.out _ HF3.out
  have i0 := hi.c0
  have i1 := hi.c1
  have i2 := hi.c2
  have i3 := hi.c3
  have i4 := hi.c4
  have i5 := hi.c5
  dsimp only at i0 i1 i2 i3 i4 i5
  clear hi
  have hk := HK.out _ HF3.out
  have k0 := hk.c0
  have k1 := hk.c1
  have k2 := hk.c2
  have k3 := hk.c3
  have k4 := hk.c4
  have k5 := hk.c5
  dsimp only at k0 k1 k2 k3 k4 k5
  clear hk
  obtain ⟨g, zs, rfl, hh3, hcb, hm3⟩ : ∃ g zs, bo = some ⟨g, 0, none⟩ ∧ w3.heap[g]? = some (.cells (bv (cI ++ zs)).toArray 5 (0, 0)) ∧ cbp = (cI ++ zs).length ∧ cbp ≤ maxLen := by
    rcases HQ3.out with ⟨_, e, _⟩ | h
    · rw [e] at hpos; simp at hpos
    · exact h
  have HS := hideIt (by
    have := same_any ao (some ⟨g, 0, none⟩) cap cbp cI cI w3 (HQ2.out.bs.fr HF23.out (fun _ _ _ e => e)) HQ3.out.bs
    rw [beq_self_eq_true] at this
    exact this)
  have hle1 : (0 : Int) ≤ cI.length := by omega
  have hle2 : cI.length ≤ cbp := by rw [hcb]; simp
  clear hcb hm3 hh3
  go_wp2_with fail
  refine Calls.mono HS.out ?_
  rintro e w4 ⟨rfl, rfl⟩
  go_wp2_with fail
  go_ret
  exact ⟨rfl, (((Fr.refl _ _).alloc _).alloc _).trans HF3.out (fun _ _ e => e)⟩

theorem cfree_any (i k : Ins) (w : World) : Calls Try.prog 7 #[.agg (icells i), .agg (icells k)] w fun e w' => e = .returned (.bool true) ∧ Fr (fun _ => False) w w' := by
  by_cases h1 : 300 < i.s.size
  · exact cfree_long1 i k w h1
  by_cases h2 : 300 < k.s.size
  · exact cfree_long2 i k w (by omega) h2
  have h1 : i.s.size ≤ 300 := by omega
  have h2 : k.s.size ≤ 300 := by omega
  rcases checkE_or i with e1 | e1
  · rcases checkE_or k with e2 | e2
    · by_cases hl : (codeI k).length < (codeI i).length
      · exact cfree_short i k w h1 h2 e1 e2 hl
      · by_cases hik : i = k
        · subst hik
          exact cfree_self i w h1 e1
        · exact cfree_long i k w h1 h2 e1 e2 (by omega) hik
    · exact cfree_bad2 i k w h1 h2 e1 e2
  · exact cfree_bad1 i k w h1 h2 e1

end Go.Proofs.Ytpieaenfnajlfaa
