/- Package hash: a state behind one block more (changed). -/
import Derived.Test.YtgnpdnkmhjocjaaDoorSc
import Derived.Deep.QuietTactic
namespace Go.Proofs.YtgnpdnkmhjocjaaDoor
open Go.RowKit Go.IntWalk
set_option linter.unusedSimpArgs false
set_option linter.unusedVariables false

/-- A state's words are words. -/
structure St32 (s : Sha.St) : Prop where
  a : s.a < 4294967296
  b : s.b < 4294967296
  c : s.c < 4294967296
  d : s.d < 4294967296
  e : s.e < 4294967296
  f : s.f < 4294967296
  g : s.g < 4294967296
  h : s.h < 4294967296
theorem St32.first : St32 Sha.first := ⟨by decide, by decide, by decide, by decide, by decide, by decide, by decide, by decide⟩
theorem St32.round {s : Sha.St} (h : St32 s) (k w : Nat) : St32 (Sha.round s k w) := ⟨add_lt _ _, h.a, h.b, h.c, add_lt _ _, h.e, h.f, h.g⟩
theorem St32.fold (ks ws : List Nat) {s : Sha.St} (h : St32 s) : St32 (Sha.foldW Sha.round ks ws s) := Sha.foldW_all Sha.round St32 (fun s k w h => h.round k w) ks ws s h
theorem St32.addSt (s v : Sha.St) : St32 (Sha.addSt s v) := ⟨add_lt _ _, add_lt _ _, add_lt _ _, add_lt _ _, add_lt _ _, add_lt _ _, add_lt _ _, add_lt _ _⟩
theorem St32.block (s : Sha.St) (b : List UInt8) : St32 (Sha.block s b) := St32.addSt _ _

def stA (s : Sha.St) : Array Value := #[.int .u32 (s.a : Int), .int .u32 (s.b : Int), .int .u32 (s.c : Int), .int .u32 (s.d : Int), .int .u32 (s.e : Int), .int .u32 (s.f : Int), .int .u32 (s.g : Int), .int .u32 (s.h : Int)]

/-- The package's variables read as its text lays them. -/
structure Glob (w : World) : Prop where
  first : ∀ j v, (stA Sha.first)[j]? = some v → w.cell? ⟨0, j, none⟩ = some v
  roots : ∀ j (h : j < 64), w.cell? ⟨1, j, none⟩ = some (.int .u32 (Sha.K.getD j 0 : Nat))
theorem Glob.fr {S : Nat → Prop} {w w' : World} (h : Glob w) (hF : Fr S w w') (h0 : ¬ S 0) (h1 : ¬ S 1) : Glob w' := by
  have l0 : 0 < w.heap.size := block_lt_of_cell (h.first 0 _ rfl)
  have l1 : 1 < w.heap.size := block_lt_of_cell (h.roots 0 (by omega))
  exact ⟨fun j v hv => (World.cell?_of_block (a := ⟨0, j, none⟩) (hF.block 0 l0 h0)).trans (h.first j v hv), fun j hj => (World.cell?_of_block (a := ⟨1, j, none⟩) (hF.block 1 l1 h1)).trans (h.roots j hj)⟩
theorem Glob.fr0 {w w' : World} (h : Glob w) (hF : Fr (fun _ => False) w w') : Glob w' := h.fr hF (fun e => e) (fun e => e)
theorem add_mod (a b : Nat) : Sha.add a b = (a + b) % 4294967296 := rfl
theorem K_len : Sha.K.length = 64 := by decide
theorem K_lt : ∀ x ∈ Sha.K, x < 4294967296 := by decide

theorem store_over {b : Nat} {t : TypeId} {C V : Array Value} {w : World} (h : w.heap[b]? = some (.cells C t (0, 0))) (hs : V.size = C.size) :
    (w.setCells b 0 V.toList).heap[b]? = some (.cells V t (0, 0)) ∧ Fr (fun k => k = b) w (w.setCells b 0 V.toList) := by
  have := setCells_full b t V.toList w C h (by simpa using hs)
  exact ⟨by simpa using this, Fr.setCells w b 0 V.toList⟩

set_option maxRecDepth 100000 in
set_option maxHeartbeats 4000000 in
theorem changed_any (s : Sha.St) (hs : St32 s) (blk : List UInt8) (hl : blk.length = 64) (w : World) (hG : Glob w) :
    Calls Tryd.prog 28 #[.agg (stA s), .agg (bv blk).toArray] w fun e w' => e = .returned (.agg (stA (Sha.block s blk))) ∧ Fr (fun _ => False) w w' := by
  obtain ⟨ws, hws⟩ : ∃ ws, Sha.sched blk = ws := ⟨_, rfl⟩
  have hlw : ws.length = 64 := by rw [← hws, ← Sha.upto_last]; exact Sha.upto_len blk 64 (by omega) (by omega)
  have HBK := hideIt (show Sha.block s blk = Sha.addSt s (Sha.foldW Sha.round Sha.K ws s) by unfold Sha.block Sha.rounds; rw [hws])
  have HST := hideIt (stretched_any blk hl ws ⟨hws⟩)
  have HI := hideIt (show (Tryd.prog.info? 48).map (·.size) = some (bv blk).length by rw [bv_length, hl]; exact Tryd.infoBlk)
  have hw0 : Fr (fun _ => False) w (((w.alloc (.cells (stA s) 46)).alloc (.cells (bv blk).toArray 48)).alloc (.cells #[.int .u32 0, .int .u32 0, .int .u32 0, .int .u32 0, .int .u32 0, .int .u32 0, .int .u32 0, .int .u32 0] 46)) := (((Fr.refl _ w).alloc _).alloc _).alloc _
  have HR0 := hideIt (show (((w.alloc (.cells (stA s) 46)).alloc (.cells (bv blk).toArray 48)).alloc (.cells #[.int .u32 0, .int .u32 0, .int .u32 0, .int .u32 0, .int .u32 0, .int .u32 0, .int .u32 0, .int .u32 0] 46)).rangeAt (w.heap.size + 1) 0 (bv blk) from rangeOf (heap_old (heap_new (by simp))))
  have HIA := hideIt (show (Tryd.prog.info? 68).map (·.size) = some (uv ws).toArray.size by rw [List.size_toArray, uv_length, hlw]; exact Tryd.infoW64)
  have H1 := hideIt (uv_all ws)
  have HGL := hideIt hG
  have HSS := hideIt hs
  have HF0 := hideIt hw0
  have HA0 := hideIt (show (((w.alloc (.cells (stA s) 46)).alloc (.cells (bv blk).toArray 48)).alloc (.cells #[.int .u32 0, .int .u32 0, .int .u32 0, .int .u32 0, .int .u32 0, .int .u32 0, .int .u32 0, .int .u32 0] 46)).heap[w.heap.size]? = some (.cells (stA s) 46 (0, 0)) from heap_old (heap_old (heap_new rfl)))
  have HZ0 := hideIt (show (((w.alloc (.cells (stA s) 46)).alloc (.cells (bv blk).toArray 48)).alloc (.cells #[.int .u32 0, .int .u32 0, .int .u32 0, .int .u32 0, .int .u32 0, .int .u32 0, .int .u32 0, .int .u32 0] 46)).heap[w.heap.size + 1 + 1]? = some (.cells #[.int .u32 0, .int .u32 0, .int .u32 0, .int .u32 0, .int .u32 0, .int .u32 0, .int .u32 0, .int .u32 0] 46 (0, 0)) from heap_new (by simp))
  clear hw0 hws hG hs
  go_enter Tryd.func28, Tryd.ntmps28
  go_wp2_with (first | (refine wpList_load_mid rfl 48 (.tmp 3) rfl (w.heap.size + 1) 0 rfl (bv blk) _ HR0.out Tryd.underlying48 rfl HI.out ?_))
  refine Calls.mono (HST.out _) ?_
  rintro e w1 ⟨rfl, hF1⟩
  have HF1 := hideIt (HF0.out.trans hF1 (fun _ _ e => e))
  have hA1 := (hF1.block w.heap.size (Array.getElem?_eq_some_iff.1 HA0.out).1 (fun e => e)).trans HA0.out
  have hZ1 := (hF1.block (w.heap.size + 1 + 1) (Array.getElem?_eq_some_iff.1 HZ0.out).1 (fun e => e)).trans HZ0.out
  have hz1 := (Array.getElem?_eq_some_iff.1 hZ1).1
  have HA1 := hideIt hA1
  have HZ1 := hideIt hZ1
  have HT := hideIt (thereNew (w1.alloc (.cells z64w 68)) w1.heap.size z64w 68 (heap_new rfl) (uv ws).toArray.size (by rw [List.size_toArray, uv_length, hlw]; rfl))
  have HFULL := hideIt (store_words (w1.alloc (.cells z64w 68)) w1.heap.size 68 ws z64w (heap_new rfl) (by rw [hlw]; rfl))
  clear hF1 hA1 hZ1 HST HI HR0 HF0 HA0 HZ0
  go_wp2_with (first | (refine wpList_store_abs rfl 68 (.tmp 5) (.tmp 18) rfl w1.heap.size 0 (uv ws).toArray rfl rfl HT.out HIA.out H1.out ?_; intro W5 hW5; have HW5 := hideIt hW5; clear hW5))
  have hF5 : Fr (fun _ => False) w1 W5 := by
    rw [HW5.out]
    exact ((Fr.refl (fun _ => False) w1).alloc (.cells z64w 68)).trans (Fr.setCells _ _ _ _) (fun i hi e => by omega)
  have HW := hideIt (show Words W5 w1.heap.size 68 ws from by unfold Words; rw [HW5.out]; exact HFULL.out)
  have hA5 := (hF5.block w.heap.size (Array.getElem?_eq_some_iff.1 HA1.out).1 (fun e => e)).trans HA1.out
  have HZ5 := hideIt ((hF5.block (w.heap.size + 1 + 1) (Array.getElem?_eq_some_iff.1 HZ1.out).1 (fun e => e)).trans HZ1.out)
  have HF5 := hideIt (HF1.out.trans hF5 (fun _ _ e => e))
  have HG5 := hideIt (HGL.out.fr0 (HF1.out.trans hF5 (fun _ _ e => e)))
  have c0 : W5.cell? ⟨w.heap.size, 0, none⟩ = some (.int .u32 (s.a : Int)) := cellOfHeap hA5 0 rfl
  have c1 : W5.cell? ⟨w.heap.size, 1, none⟩ = some (.int .u32 (s.b : Int)) := cellOfHeap hA5 1 rfl
  have c2 : W5.cell? ⟨w.heap.size, 2, none⟩ = some (.int .u32 (s.c : Int)) := cellOfHeap hA5 2 rfl
  have c3 : W5.cell? ⟨w.heap.size, 3, none⟩ = some (.int .u32 (s.d : Int)) := cellOfHeap hA5 3 rfl
  have c4 : W5.cell? ⟨w.heap.size, 4, none⟩ = some (.int .u32 (s.e : Int)) := cellOfHeap hA5 4 rfl
  have c5 : W5.cell? ⟨w.heap.size, 5, none⟩ = some (.int .u32 (s.f : Int)) := cellOfHeap hA5 5 rfl
  have c6 : W5.cell? ⟨w.heap.size, 6, none⟩ = some (.int .u32 (s.g : Int)) := cellOfHeap hA5 6 rfl
  have c7 : W5.cell? ⟨w.heap.size, 7, none⟩ = some (.int .u32 (s.h : Int)) := cellOfHeap hA5 7 rfl
  have HA5 := hideIt hA5
  clear hA5 hF5 HW5 HFULL HT HA1 HZ1 HF1 HGL
  generalize w1.heap.size = B at *
  go_quiet (fail)
  clear c0 c1 c2 c3 c4 c5 c6 c7
  have HWq := hideIt (show Words (W5.drewN nq) B 68 ws from HW.out)
  have HAq := hideIt (show (W5.drewN nq).heap[w.heap.size]? = _ from HA5.out)
  have HZq := hideIt (show (W5.drewN nq).heap[w.heap.size + 1 + 1]? = _ from HZ5.out)
  have HFq := hideIt (HF5.out.drewN nq)
  have HGq := hideIt (HG5.out.fr0 ((Fr.refl _ _).drewN nq))
  clear HW HA5 HZ5 HF5 HG5
  generalize W5.drewN nq = WQ at *
  go_wp2_with fail
  go_loopw [35, 6, 7, 8, 9, 10, 11, 12, 13] (fun i va vb vc vd ve vf vg vh wr => ∃ (k : Nat) (v : Sha.St), i = .int .i64 k ∧ k ≤ 64 ∧ Hid (v = Sha.foldW Sha.round (Sha.K.take k) (ws.take k) s) ∧ va = .int .u32 (v.a : Int) ∧ vb = .int .u32 (v.b : Int) ∧ vc = .int .u32 (v.c : Int) ∧ vd = .int .u32 (v.d : Int) ∧ ve = .int .u32 (v.e : Int) ∧ vf = .int .u32 (v.f : Int) ∧ vg = .int .u32 (v.g : Int) ∧ vh = .int .u32 (v.h : Int) ∧ Hid (Fr (fun _ => False) WQ wr))
    (fun i _ _ _ _ _ _ _ _ _ => 64 - (intOf i).toNat)
  case atStart => exact ⟨0, s, rfl, by omega, hideIt (Sha.foldW_none _ _ _ _ (Or.inl rfl)).symm, rfl, rfl, rfl, rfl, rfl, rfl, rfl, rfl, hideIt (Fr.refl _ _)⟩
  case round =>
    obtain ⟨k, v, rfl, hk, HV, rfl, rfl, rfl, rfl, rfl, rfl, rfl, rfl, HF⟩ := hrel
    by_cases hlt : k < 64
    · have hck : wr.cell? ⟨1, k, none⟩ = some (.int .u32 (Sha.K.getD k 0 : Nat)) := (HGq.out.fr0 HF.out).roots k hlt
      have hcw : wr.cell? ⟨B, k, none⟩ = some (.int .u32 (ws.getD k 0 : Nat)) := (HWq.out.fr HF.out (fun e => e)).cell k (by omega)
      have k64' : (k : Int) < 64 := by omega
      have HN := hideIt (show Sha.round v (Sha.K.getD k 0) (ws.getD k 0) = Sha.foldW Sha.round (Sha.K.take (k + 1)) (ws.take (k + 1)) s by rw [Sha.foldW_snoc Sha.round Sha.K ws s k (by rw [K_len]; exact hlt) (by omega), HV.out])
      have h32 : St32 v := by rw [HV.out]; exact St32.fold _ _ HSS.out
      generalize Sha.K.getD k 0 = kk at *
      generalize ws.getD k 0 = wk at *
      obtain ⟨a, b, c, d, e, f, g, h⟩ := v
      obtain ⟨la, lb, lc, ld, le, lf, lg, lh⟩ := h32
      dsimp only at la lb lc ld le lf lg lh ⊢
      obtain ⟨qe, hqe⟩ : ∃ q, q = Sha.upE e := ⟨_, rfl⟩
      obtain ⟨qc, hqc⟩ : ∃ q, q = Sha.ch e f g := ⟨_, rfl⟩
      obtain ⟨qa, hqa⟩ : ∃ q, q = Sha.upA a := ⟨_, rfl⟩
      obtain ⟨qm, hqm⟩ : ∃ q, q = Sha.maj a b c := ⟨_, rfl⟩
      have HTE := hideIt (fun w => by have := turnE_any e le w; rw [← hqe] at this; exact this)
      have HCH := hideIt (fun w => by have := ch_any e f g le lf lg w; rw [← hqc] at this; exact this)
      have HTA := hideIt (fun w => by have := turnA_any a la w; rw [← hqa] at this; exact this)
      have HMJ := hideIt (fun w => by have := maj_any a b c la lb lc w; rw [← hqm] at this; exact this)
      have HNV := hideIt (show Sha.round ⟨a, b, c, d, e, f, g, h⟩ kk wk = ⟨Sha.add (Sha.add (Sha.add (Sha.add (Sha.add h qe) qc) kk) wk) (Sha.add qa qm), a, b, c, Sha.add d (Sha.add (Sha.add (Sha.add (Sha.add h qe) qc) kk) wk), e, f, g⟩ by rw [hqe, hqc, hqa, hqm]; unfold Sha.round Sha.tT Sha.tU; rfl)
      clear hqe hqc hqa hqm HV
      have hsum : (((h : Int) + (qe : Int) + (qc : Int) + (kk : Int)) % 4294967296 + (wk : Int)) % 4294967296 = ((Sha.add (Sha.add (Sha.add (Sha.add h qe) qc) kk) wk : Nat) : Int) := by
        simp only [add_mod]
        omega
      have hsum2 : ((qa : Int) + (qm : Int)) % 4294967296 = ((Sha.add qa qm : Nat) : Int) := add_int _ _
      generalize Sha.add (Sha.add (Sha.add (Sha.add h qe) qc) kk) wk = tt at *
      generalize Sha.add qa qm = uu at *
      have hs3 : ((d : Int) + (tt : Int)) % 4294967296 = ((Sha.add d tt : Nat) : Int) := add_int _ _
      have hs4 : ((tt : Int) + (uu : Int)) % 4294967296 = ((Sha.add tt uu : Nat) : Int) := add_int _ _
      generalize Sha.add d tt = dd at *
      generalize Sha.add tt uu = aa at *
      have HS1 := hideIt hsum
      have HS2 := hideIt hsum2
      have HS3 := hideIt hs3
      have HS4 := hideIt hs4
      clear hsum hsum2 hs3 hs4
      go_wp2_with fail
      go_quiet ((first | (go_at_call 38; exact Calls.quiet_of_same (HTE.out _)) | (go_at_call 39; exact Calls.quiet_of_same (HCH.out _))))
      rw [HS1.out]
      have HFR := hideIt (HF.out.drewN nq)
      clear HF hck hcw
      generalize wr.drewN nq = WR at *
      go_wp2_with fail
      refine Calls.mono (HTA.out _) ?_
      rintro e1 w6 ⟨rfl, rfl⟩
      go_wp2_with fail
      refine Calls.mono (HMJ.out _) ?_
      rintro e1 w7 ⟨rfl, rfl⟩
      go_wp2_with fail
      go_roundw
      case measure => simp [intOf]; omega
      case rel =>
        refine ⟨k + 1, ⟨aa, a, b, c, dd, e, f, g⟩, by go_num, by omega, hideIt (HNV.out.symm.trans HN.out), ?_, rfl, rfl, rfl, ?_, rfl, rfl, rfl, HFR⟩
        · exact congrArg (Value.int IntKind.u32) (by have h2 := HS2.out; have h4 := HS4.out; show _ = (aa : Int); omega)
        · exact congrArg (Value.int IntKind.u32) (by have h3 := HS3.out; show _ = (dd : Int); omega)
    · have hk64 : k = 64 := by omega
      have HVV := hideIt (show v = Sha.foldW Sha.round Sha.K ws s by rw [HV.out, hk64, List.take_of_length_le (by rw [K_len]; omega), List.take_of_length_le (by omega)])
      clear HV
      obtain ⟨a, b, c, d, e, f, g, hh⟩ := v
      dsimp only
      have hAr := (HF.out.block w.heap.size (Array.getElem?_eq_some_iff.1 HAq.out).1 (fun e => e)).trans HAq.out
      have c0 : wr.cell? ⟨w.heap.size, 0, none⟩ = some (.int .u32 (s.a : Int)) := cellOfHeap hAr 0 rfl
      have c1 : wr.cell? ⟨w.heap.size, 1, none⟩ = some (.int .u32 (s.b : Int)) := cellOfHeap hAr 1 rfl
      have c2 : wr.cell? ⟨w.heap.size, 2, none⟩ = some (.int .u32 (s.c : Int)) := cellOfHeap hAr 2 rfl
      have c3 : wr.cell? ⟨w.heap.size, 3, none⟩ = some (.int .u32 (s.d : Int)) := cellOfHeap hAr 3 rfl
      have c4 : wr.cell? ⟨w.heap.size, 4, none⟩ = some (.int .u32 (s.e : Int)) := cellOfHeap hAr 4 rfl
      have c5 : wr.cell? ⟨w.heap.size, 5, none⟩ = some (.int .u32 (s.f : Int)) := cellOfHeap hAr 5 rfl
      have c6 : wr.cell? ⟨w.heap.size, 6, none⟩ = some (.int .u32 (s.g : Int)) := cellOfHeap hAr 6 rfl
      have c7 : wr.cell? ⟨w.heap.size, 7, none⟩ = some (.int .u32 (s.h : Int)) := cellOfHeap hAr 7 rfl
      have hZr := (HF.out.block (w.heap.size + 1 + 1) (Array.getElem?_eq_some_iff.1 HZq.out).1 (fun e => e)).trans HZq.out
      have HZr := hideIt hZr
      have HSF := hideIt (store_over (V := #[.int .u32 (((s.a : Int) + (a : Int)) % 4294967296), .int .u32 (((s.b : Int) + (b : Int)) % 4294967296), .int .u32 (((s.c : Int) + (c : Int)) % 4294967296), .int .u32 (((s.d : Int) + (d : Int)) % 4294967296), .int .u32 (((s.e : Int) + (e : Int)) % 4294967296), .int .u32 (((s.f : Int) + (f : Int)) % 4294967296), .int .u32 (((s.g : Int) + (g : Int)) % 4294967296), .int .u32 (((s.h : Int) + (hh : Int)) % 4294967296)]) hZr rfl)
      have HTH := hideIt (thereNew wr (w.heap.size + 1 + 1) _ 46 hZr (#[.int .u32 (((s.a : Int) + (a : Int)) % 4294967296), .int .u32 (((s.b : Int) + (b : Int)) % 4294967296), .int .u32 (((s.c : Int) + (c : Int)) % 4294967296), .int .u32 (((s.d : Int) + (d : Int)) % 4294967296), .int .u32 (((s.e : Int) + (e : Int)) % 4294967296), .int .u32 (((s.f : Int) + (f : Int)) % 4294967296), .int .u32 (((s.g : Int) + (g : Int)) % 4294967296), .int .u32 (((s.h : Int) + (hh : Int)) % 4294967296)] : Array Value).size rfl)
      have HIS := hideIt (show (Tryd.prog.info? 46).map (·.size) = some (#[.int .u32 (((s.a : Int) + (a : Int)) % 4294967296), .int .u32 (((s.b : Int) + (b : Int)) % 4294967296), .int .u32 (((s.c : Int) + (c : Int)) % 4294967296), .int .u32 (((s.d : Int) + (d : Int)) % 4294967296), .int .u32 (((s.e : Int) + (e : Int)) % 4294967296), .int .u32 (((s.f : Int) + (f : Int)) % 4294967296), .int .u32 (((s.g : Int) + (g : Int)) % 4294967296), .int .u32 (((s.h : Int) + (hh : Int)) % 4294967296)] : Array Value).size by kernel_rfl)
      have HON := hideIt (show (#[.int .u32 (((s.a : Int) + (a : Int)) % 4294967296), .int .u32 (((s.b : Int) + (b : Int)) % 4294967296), .int .u32 (((s.c : Int) + (c : Int)) % 4294967296), .int .u32 (((s.d : Int) + (d : Int)) % 4294967296), .int .u32 (((s.e : Int) + (e : Int)) % 4294967296), .int .u32 (((s.f : Int) + (f : Int)) % 4294967296), .int .u32 (((s.g : Int) + (g : Int)) % 4294967296), .int .u32 (((s.h : Int) + (hh : Int)) % 4294967296)] : Array Value).all (·.oneCell') = true by simp [Value.oneCell'])
      have HEQ := hideIt (show (#[.int .u32 (((s.a : Int) + (a : Int)) % 4294967296), .int .u32 (((s.b : Int) + (b : Int)) % 4294967296), .int .u32 (((s.c : Int) + (c : Int)) % 4294967296), .int .u32 (((s.d : Int) + (d : Int)) % 4294967296), .int .u32 (((s.e : Int) + (e : Int)) % 4294967296), .int .u32 (((s.f : Int) + (f : Int)) % 4294967296), .int .u32 (((s.g : Int) + (g : Int)) % 4294967296), .int .u32 (((s.h : Int) + (hh : Int)) % 4294967296)] : Array Value) = stA (Sha.block s blk) by
        rw [HBK.out, ← HVV.out]
        unfold stA Sha.addSt
        rw [add_int, add_int, add_int, add_int, add_int, add_int, add_int, add_int])
      have HFr := hideIt (HFq.out.trans HF.out (fun _ _ e => e))
      clear hAr hZr
      go_wp2_with (first | (refine wpList_store_abs rfl 46 (.tmp 4) (.tmp 107) rfl (w.heap.size + 1 + 1) 0 #[.int .u32 (((s.a : Int) + (a : Int)) % 4294967296), .int .u32 (((s.b : Int) + (b : Int)) % 4294967296), .int .u32 (((s.c : Int) + (c : Int)) % 4294967296), .int .u32 (((s.d : Int) + (d : Int)) % 4294967296), .int .u32 (((s.e : Int) + (e : Int)) % 4294967296), .int .u32 (((s.f : Int) + (f : Int)) % 4294967296), .int .u32 (((s.g : Int) + (g : Int)) % 4294967296), .int .u32 (((s.h : Int) + (hh : Int)) % 4294967296)] rfl rfl HTH.out HIS.out HON.out ?_; intro W6 hW6; have HW6 := hideIt hW6; clear hW6))
      refine bodyPost_ret (results_cell_row Tryd.results28 _ _ (w.heap.size + 1 + 1) 46 #[.int .u32 (((s.a : Int) + (a : Int)) % 4294967296), .int .u32 (((s.b : Int) + (b : Int)) % 4294967296), .int .u32 (((s.c : Int) + (c : Int)) % 4294967296), .int .u32 (((s.d : Int) + (d : Int)) % 4294967296), .int .u32 (((s.e : Int) + (e : Int)) % 4294967296), .int .u32 (((s.f : Int) + (f : Int)) % 4294967296), .int .u32 (((s.g : Int) + (g : Int)) % 4294967296), .int .u32 (((s.h : Int) + (hh : Int)) % 4294967296)] (0, 0) _ rfl ?_ Tryd.underlying46 rfl HIS.out) rfl ⟨by rw [HEQ.out], ?_⟩
      · rw [HW6.out]
        exact HSF.out.1
      · rw [HW6.out]
        exact HFr.out.trans HSF.out.2 (fun i hi e => by omega)

end Go.Proofs.YtgnpdnkmhjocjaaDoor
