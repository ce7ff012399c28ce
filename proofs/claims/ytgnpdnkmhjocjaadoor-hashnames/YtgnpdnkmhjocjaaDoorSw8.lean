/- Package hash, the document's: a state behind a block, walked. -/
import Derived.Test.YtgnpdnkmhjocjaaDoorSw7
namespace Go.Proofs.YtgnpdnkmhjocjaaDoor
open Go.RowKit Go.IntWalk
set_option linter.unusedSimpArgs false
set_option linter.unusedVariables false

def z8 : Array Value := #[.int .u32 0, .int .u32 0, .int .u32 0, .int .u32 0, .int .u32 0, .int .u32 0, .int .u32 0, .int .u32 0]
set_option maxRecDepth 100000 in
set_option maxHeartbeats 8000000 in
theorem xblock_any (s : Sha.St) (hs : St32 s) (ao : Option Addr) (cap : Nat) (bl : List UInt8) (hbl : bl.length = 64) (kg : Nat) (w : World) (hB : BsAt w ao bl) (hK : Words w kg 44 Sha.K) : Calls Tryd.prog 31 #[.agg (stA s), .slice ao 64 cap, .slice (some ⟨kg, 0, none⟩) 64 64] w fun e w' => e = .returned (.agg (stA (Sha.block s bl))) ∧ Fr (fun _ => False) w w' := by
  obtain ⟨n, hn⟩ : ∃ n, w.heap.size = n := ⟨_, rfl⟩
  have hf0 : Fr (fun _ => False) w ((w.alloc (.cells (stA s) 59)).alloc (.cells #[.int .u32 0, .int .u32 0, .int .u32 0, .int .u32 0, .int .u32 0, .int .u32 0, .int .u32 0, .int .u32 0] 59)) := ((Fr.refl _ w).alloc _).alloc _
  have HF0 := hideIt hf0
  have HA0 := hideIt (show ((w.alloc (.cells (stA s) 59)).alloc (.cells #[.int .u32 0, .int .u32 0, .int .u32 0, .int .u32 0, .int .u32 0, .int .u32 0, .int .u32 0, .int .u32 0] 59)).heap[n]? = some (.cells (stA s) 59 (0, 0)) from heap_old (heap_new hn.symm))
  have HZ0 := hideIt (show ((w.alloc (.cells (stA s) 59)).alloc (.cells #[.int .u32 0, .int .u32 0, .int .u32 0, .int .u32 0, .int .u32 0, .int .u32 0, .int .u32 0, .int .u32 0] 59)).heap[n + 1]? = some (.cells z8 59 (0, 0)) from heap_new (by simp [hn]))
  have HSC := hideIt (xsched_any ao cap bl hbl ((w.alloc (.cells (stA s) 59)).alloc (.cells #[.int .u32 0, .int .u32 0, .int .u32 0, .int .u32 0, .int .u32 0, .int .u32 0, .int .u32 0, .int .u32 0] 59)) (hB.fr hf0 (fun _ _ _ e => e)))
  have HK := hideIt hK
  obtain ⟨ws, hws⟩ : ∃ ws, Sha.sched bl = ws := ⟨_, rfl⟩
  have hlw : ws.length = 64 := by rw [← hws, ← Sha.so_all]; exact Sha.so_len bl 64 (by omega)
  have HBK := hideIt (show Sha.block s bl = Sha.addSt s (Sha.foldW Sha.round Sha.K ws s) by unfold Sha.block Sha.rounds; rw [hws])
  rw [hws] at HSC
  have HIS := hideIt (show (Tryd.prog.info? 59).map (·.size) = some (stA s).toList.length by kernel_rfl)
  have HIA := hideIt (show (Tryd.prog.info? 59).map (·.size) = some (stA s).size by kernel_rfl)
  have HOS := hideIt (stA_one s)
  have HSS := hideIt hs
  have HLW := hideIt hlw
  have HN := hideIt hn
  clear hf0 hB hK hws hs hlw hbl
  go_enter Tryd.func31, Tryd.ntmps31
  go_wp2_with fail
  refine Calls.mono HSC.out ?_
  rintro e w1 ⟨ar, cr, rfl, hrow, hF1⟩
  have HA1 := hideIt ((hF1.block n (Array.getElem?_eq_some_iff.1 HA0.out).1 (fun e => e)).trans HA0.out)
  have HZ1 := hideIt ((hF1.block (n + 1) (Array.getElem?_eq_some_iff.1 HZ0.out).1 (fun e => e)).trans HZ0.out)
  have HK1 := hideIt (HK.out.fr (HF0.out.trans hF1 (fun _ _ e => e)) (fun e => e))
  have HF1 := hideIt (HF0.out.trans hF1 (fun _ _ e => e))
  have HRA := hideIt (rangeOf HA1.out)
  obtain ⟨rg, rfl, hrc⟩ : ∃ g, ar = some ⟨g, 0, none⟩ ∧ ∀ j, j < 64 → w1.cell? ⟨g, j, none⟩ = some (.int .u32 (ws.getD j 0 : Nat)) := by
    rcases hrow.form with ⟨_, e, _⟩ | ⟨g, cur, e, _⟩
    · have := HLW.out; rw [e] at this; simp at this
    · subst e
      exact ⟨g, rfl, fun j hj => hrow.cell j (by rw [HLW.out]; exact hj)⟩
  have HRC := hideIt hrc
  obtain ⟨q, hq⟩ : ∃ q, w1.heap.size = q := ⟨_, rfl⟩
  have hA2 : (w1.alloc (.cells #[.int .u32 0, .int .u32 0, .int .u32 0, .int .u32 0, .int .u32 0, .int .u32 0, .int .u32 0, .int .u32 0] 59)).heap[q]? = some (.cells z8 59 (0, 0)) := heap_new hq.symm
  have HT2 := hideIt (thereNew (w1.alloc (.cells #[.int .u32 0, .int .u32 0, .int .u32 0, .int .u32 0, .int .u32 0, .int .u32 0, .int .u32 0, .int .u32 0] 59)) q z8 59 hA2 (stA s).size rfl)
  have HW2 := hideIt (fun W (h : W = (w1.alloc (.cells #[.int .u32 0, .int .u32 0, .int .u32 0, .int .u32 0, .int .u32 0, .int .u32 0, .int .u32 0, .int .u32 0] 59)).setCells q 0 (stA s).toList) => show W.heap[q]? = some (.cells (stA s) 59 (0, 0)) ∧ Fr (fun _ => False) w1 W by
    subst h
    have hS := store_over (V := stA s) hA2 rfl
    exact ⟨hS.1, ((Fr.refl (fun _ => False) w1).alloc _).trans hS.2 (fun i hi e => by omega)⟩)
  have hnq : n + 1 < q := by rw [← hq]; exact (Array.getElem?_eq_some_iff.1 HZ1.out).1
  have HNQ := hideIt hnq
  have HQ := hideIt hq
  have HKQ := hideIt (show kg < n by rw [← HN.out]; exact (Array.getElem?_eq_some_iff.1 HK.out).1)
  clear hrow hF1 hrc HSC HF0 HA0 HZ0 hA2 HK hnq hn
  generalize hSTA : stA s = sA at HT2 HIA HOS HW2 HRA HIS ⊢
  have HSTA := hideIt hSTA
  clear hSTA
  go_wp2_with (first | (refine wpList_load_mid rfl 59 (.tmp 3) rfl n 0 rfl sA.toList _ HRA.out Tryd.underlying59 rfl HIS.out ?_) | (refine wpList_store_abs rfl 59 (.tmp 8) (.tmp 14) rfl q 0 sA rfl rfl HT2.out HIA.out HOS.out ?_; intro W2 hW2; obtain ⟨hA3, hF3⟩ := HW2.out W2 hW2; have HV3 := hideIt hA3; have HFX := hideIt hF3; clear hW2 HW2 HT2 hA3 hF3))
  have HA2 := hideIt ((HFX.out.block n (Array.getElem?_eq_some_iff.1 HA1.out).1 (fun e => e)).trans HA1.out)
  have HZ2 := hideIt ((HFX.out.block (n + 1) (Array.getElem?_eq_some_iff.1 HZ1.out).1 (fun e => e)).trans HZ1.out)
  have HK2 := hideIt (HK1.out.fr HFX.out (fun e => e))
  have HR2 := hideIt (fun j hj => cellFr HFX.out (HRC.out j hj))
  have HF2 := hideIt (HF1.out.trans HFX.out (fun _ _ e => e))
  have HRG := hideIt (show rg ≠ q by
    have h := block_lt_of_cell (HRC.out 0 (by omega))
    have h2 : rg < w1.heap.size := h
    omega)
  rw [← HSTA.out] at HV3
  clear HFX HA1 HZ1 HK1 HRC HRA HF1 hq
  generalize sA = sB at *
  go_wp2_with fail
  go_loopw [9] (fun s9 wr => ∃ (t : Nat) (v : Sha.St), s9 = .int .i64 t ∧ t ≤ 64 ∧ Hid (v = Sha.foldW Sha.round (Sha.K.take t) (ws.take t) s) ∧ Hid (wr.heap[q]? = some (.cells (stA v) 59 (0, 0))) ∧ Hid (Fr (fun k => k = q) W2 wr)) (fun s9 _ => 64 - (intOf s9).toNat)
  case atStart => exact ⟨0, s, rfl, by omega, hideIt (Sha.foldW_none _ _ _ _ (Or.inl rfl)).symm, HV3, hideIt (Fr.refl _ _)⟩
  case round =>
    clear HV3
    obtain ⟨t, v, rfl, ht, HV, HQV, HF⟩ := hrel
    by_cases hlt : t < 64
    · have h1 : (t : Int) < 64 := by omega
      have hck : wr.cell? ⟨kg, t, none⟩ = some (.int .u32 (Sha.K.getD t 0 : Nat)) := (HK2.out.fr HF.out (by have := HKQ.out; have := HNQ.out; omega)).cell t (by rw [K_len]; exact hlt)
      have hcw : wr.cell? ⟨rg, t, none⟩ = some (.int .u32 (ws.getD t 0 : Nat)) := by
        have h := HR2.out t hlt
        exact (World.cell?_of_block (a := ⟨rg, t, none⟩) (HF.out.block rg (block_lt_of_cell h) HRG.out)).trans h
      have HNV0 := hideIt (show Sha.round v (Sha.K.getD t 0) (ws.getD t 0) = Sha.foldW Sha.round (Sha.K.take (t + 1)) (ws.take (t + 1)) s by rw [Sha.foldW_snoc Sha.round Sha.K ws s t (by rw [K_len]; exact hlt) (by rw [HLW.out]; exact hlt), HV.out])
      have h32 : St32 v := by rw [HV.out]; exact St32.fold _ _ HSS.out
      generalize Sha.K.getD t 0 = kk at *
      generalize ws.getD t 0 = wk at *
      clear HV
      obtain ⟨a, b, c, d, e, f, g, h⟩ := v
      obtain ⟨la, lb, lc, ld, le, lf, lg, lh⟩ := h32
      dsimp only at la lb lc ld le lf lg lh ⊢
      have c0 : wr.cell? ⟨q, 0, none⟩ = some (.int .u32 (a : Int)) := cellOfHeap HQV.out 0 rfl
      have c1 : wr.cell? ⟨q, 1, none⟩ = some (.int .u32 (b : Int)) := cellOfHeap HQV.out 1 rfl
      have c2 : wr.cell? ⟨q, 2, none⟩ = some (.int .u32 (c : Int)) := cellOfHeap HQV.out 2 rfl
      have c3 : wr.cell? ⟨q, 3, none⟩ = some (.int .u32 (d : Int)) := cellOfHeap HQV.out 3 rfl
      have c4 : wr.cell? ⟨q, 4, none⟩ = some (.int .u32 (e : Int)) := cellOfHeap HQV.out 4 rfl
      have c5 : wr.cell? ⟨q, 5, none⟩ = some (.int .u32 (f : Int)) := cellOfHeap HQV.out 5 rfl
      have c6 : wr.cell? ⟨q, 6, none⟩ = some (.int .u32 (g : Int)) := cellOfHeap HQV.out 6 rfl
      have c7 : wr.cell? ⟨q, 7, none⟩ = some (.int .u32 (h : Int)) := cellOfHeap HQV.out 7 rfl
      obtain ⟨qe, hqe⟩ : ∃ q, q = Sha.upE e := ⟨_, rfl⟩
      obtain ⟨qc, hqc⟩ : ∃ q, q = Sha.ch e f g := ⟨_, rfl⟩
      obtain ⟨qa, hqa⟩ : ∃ q, q = Sha.upA a := ⟨_, rfl⟩
      obtain ⟨qm, hqm⟩ : ∃ q, q = Sha.maj a b c := ⟨_, rfl⟩
      have HTE := hideIt (fun w => by have := upE_any e le w; rw [← hqe] at this; exact this)
      have HCH := hideIt (fun w => by have := xch_any e f g le lf lg w; rw [← hqc] at this; exact this)
      have HTA := hideIt (fun w => by have := upA_any a la w; rw [← hqa] at this; exact this)
      have HMJ := hideIt (fun w => by have := xmaj_any a b c la lb lc w; rw [← hqm] at this; exact this)
      have HNV := hideIt (show Sha.round ⟨a, b, c, d, e, f, g, h⟩ kk wk = ⟨Sha.add (Sha.add (Sha.add (Sha.add (Sha.add h qe) qc) kk) wk) (Sha.add qa qm), a, b, c, Sha.add d (Sha.add (Sha.add (Sha.add (Sha.add h qe) qc) kk) wk), e, f, g⟩ by rw [hqe, hqc, hqa, hqm]; unfold Sha.round Sha.tT Sha.tU; rfl)
      clear hqe hqc hqa hqm
      have hsum : (((h : Int) + (qe : Int) + (qc : Int) + (kk : Int)) % 4294967296 + (wk : Int)) % 4294967296 = ((Sha.add (Sha.add (Sha.add (Sha.add h qe) qc) kk) wk : Nat) : Int) := by
        simp only [add_mod]
        omega
      have hsumb : ((h : Int) + (qe : Int) + (qc : Int) + (kk : Int) + (wk : Int)) % 4294967296 = ((Sha.add (Sha.add (Sha.add (Sha.add h qe) qc) kk) wk : Nat) : Int) := by
        simp only [add_mod]
        omega
      have hsum2 : ((qa : Int) + (qm : Int)) % 4294967296 = ((Sha.add qa qm : Nat) : Int) := add_int _ _
      generalize Sha.add (Sha.add (Sha.add (Sha.add h qe) qc) kk) wk = tt at *
      generalize Sha.add qa qm = uu at *
      have hs3 : ((d : Int) + (tt : Int)) % 4294967296 = ((Sha.add d tt : Nat) : Int) := add_int _ _
      have hs4 : ((tt : Int) + (uu : Int)) % 4294967296 = ((Sha.add tt uu : Nat) : Int) := add_int _ _
      obtain ⟨nt, hnt⟩ : ∃ q, Sha.add d tt = q := ⟨_, rfl⟩
      obtain ⟨na, hna⟩ : ∃ q, Sha.add tt uu = q := ⟨_, rfl⟩
      rw [hnt] at hs3 HNV
      rw [hna] at hs4 HNV
      clear hnt hna
      go_wp2_with fail
      go_quiet ((first | (go_at_call 43; exact Calls.quiet_of (HTE.out _)) | (go_at_call 44; exact Calls.quiet_of_same (HCH.out _))))
      rw [hsum]
      clear c4 c5 c6 c7 hck hcw hsum hsumb HTE HCH
      have HQ6 := hideIt (show (wr.drewN nq).heap[q]? = some (.cells (stA ⟨a, b, c, d, e, f, g, h⟩) 59 (0, 0)) from HQV.out)
      have HF6 := hideIt (HF.out.drewN nq)
      have c0 : (wr.drewN nq).cell? ⟨q, 0, none⟩ = some (.int .u32 (a : Int)) := c0
      have c1 : (wr.drewN nq).cell? ⟨q, 1, none⟩ = some (.int .u32 (b : Int)) := c1
      have c2 : (wr.drewN nq).cell? ⟨q, 2, none⟩ = some (.int .u32 (c : Int)) := c2
      clear c3 HQV HF
      generalize wr.drewN nq = W6 at *
      go_wp2_with fail
      go_quiet ((first | (go_at_call 45; exact Calls.quiet_of (HTA.out _)) | (go_at_call 46; exact Calls.quiet_of_same (HMJ.out _))))
      rw [hsum2]
      clear c0 c1 c2 hsum2 HTA HMJ
      have HQ7 := hideIt (show (W6.drewN nq).heap[q]? = some (.cells (stA ⟨a, b, c, d, e, f, g, h⟩) 59 (0, 0)) from HQ6.out)
      have HF7 := hideIt (HF6.out.drewN nq)
      clear HQ6 HF6
      generalize W6.drewN nq = W7 at *
      have c0 : W7.cell? ⟨q, 0, none⟩ = some (.int .u32 (a : Int)) := cellOfHeap HQ7.out 0 rfl
      have c1 : W7.cell? ⟨q, 1, none⟩ = some (.int .u32 (b : Int)) := cellOfHeap HQ7.out 1 rfl
      have c2 : W7.cell? ⟨q, 2, none⟩ = some (.int .u32 (c : Int)) := cellOfHeap HQ7.out 2 rfl
      have c3 : W7.cell? ⟨q, 3, none⟩ = some (.int .u32 (d : Int)) := cellOfHeap HQ7.out 3 rfl
      have c4 : W7.cell? ⟨q, 4, none⟩ = some (.int .u32 (e : Int)) := cellOfHeap HQ7.out 4 rfl
      have c5 : W7.cell? ⟨q, 5, none⟩ = some (.int .u32 (f : Int)) := cellOfHeap HQ7.out 5 rfl
      have c6 : W7.cell? ⟨q, 6, none⟩ = some (.int .u32 (g : Int)) := cellOfHeap HQ7.out 6 rfl
      have HT7 := hideIt (thereNew W7 q _ 59 HQ7.out (#[.int .u32 (na : Int), .int .u32 (a : Int), .int .u32 (b : Int), .int .u32 (c : Int), .int .u32 (nt : Int), .int .u32 (e : Int), .int .u32 (f : Int), .int .u32 (g : Int)] : Array Value).size rfl)
      have HI7 := hideIt (show (Tryd.prog.info? 59).map (·.size) = some (#[.int .u32 (na : Int), .int .u32 (a : Int), .int .u32 (b : Int), .int .u32 (c : Int), .int .u32 (nt : Int), .int .u32 (e : Int), .int .u32 (f : Int), .int .u32 (g : Int)] : Array Value).size by kernel_rfl)
      have HO7 := hideIt (show (#[.int .u32 (na : Int), .int .u32 (a : Int), .int .u32 (b : Int), .int .u32 (c : Int), .int .u32 (nt : Int), .int .u32 (e : Int), .int .u32 (f : Int), .int .u32 (g : Int)] : Array Value).all (·.oneCell') = true by simp [Value.oneCell'])
      have HW7 := hideIt (fun W (h : W = W7.setCells q 0 (#[.int .u32 (na : Int), .int .u32 (a : Int), .int .u32 (b : Int), .int .u32 (c : Int), .int .u32 (nt : Int), .int .u32 (e : Int), .int .u32 (f : Int), .int .u32 (g : Int)] : Array Value).toList) => show W.heap[q]? = some (.cells (stA ⟨na, a, b, c, nt, e, f, g⟩) 59 (0, 0)) ∧ Fr (fun k => k = q) W2 W by
        subst h
        have hS := store_over (V := (#[.int .u32 (na : Int), .int .u32 (a : Int), .int .u32 (b : Int), .int .u32 (c : Int), .int .u32 (nt : Int), .int .u32 (e : Int), .int .u32 (f : Int), .int .u32 (g : Int)] : Array Value)) HQ7.out rfl
        exact ⟨hS.1, HF7.out.trans hS.2 (fun _ _ e => e)⟩)
      go_wp2_with (first | (refine wpList_store_abs rfl 59 (.tmp 8) (.tmp 73) rfl q 0 (#[.int .u32 (na : Int), .int .u32 (a : Int), .int .u32 (b : Int), .int .u32 (c : Int), .int .u32 (nt : Int), .int .u32 (e : Int), .int .u32 (f : Int), .int .u32 (g : Int)]) rfl rfl HT7.out HI7.out HO7.out ?_; intro W8 hW8; obtain ⟨hA8, hF8⟩ := HW7.out W8 hW8; have HV8 := hideIt hA8; have HF8 := hideIt hF8; clear hW8 HW7 HT7 hA8 hF8))
      clear c0 c1 c2 c3 c4 c5 c6
      go_roundw
      case measure => simp [intOf]; omega
      case rel => exact ⟨t + 1, ⟨na, a, b, c, nt, e, f, g⟩, by go_num, by omega, hideIt (by rw [← HNV0.out, HNV.out]), HV8, HF8⟩
    · have ht9 : t = 64 := by omega
      have hn9 : ¬ (t : Int) < 64 := by omega
      have HVF := hideIt (show v = Sha.foldW Sha.round Sha.K ws s by
        have h := HV.out
        rw [ht9, List.take_of_length_le (by rw [K_len]; exact Nat.le_refl _), List.take_of_length_le (by rw [HLW.out]; exact Nat.le_refl _)] at h
        exact h)
      rw [← HVF.out] at HBK
      have hA9 := (HF.out.block n (Array.getElem?_eq_some_iff.1 HA2.out).1 (by have := HNQ.out; omega)).trans HA2.out
      have hZ9 := (HF.out.block (n + 1) (Array.getElem?_eq_some_iff.1 HZ2.out).1 (by have := HNQ.out; omega)).trans HZ2.out
      have HQX := HQV.out
      have HF9 := hideIt (HF2.out.trans HF.out (fun k hk e => by have := HNQ.out; have := HN.out; omega))
      clear HV HVF ht9
      obtain ⟨a, b, c, d, e, f, g, h⟩ := v
      obtain ⟨sa, sb, sc, sd, se, sf, sg, sh⟩ := s
      have p0 : wr.cell? ⟨n, 0, none⟩ = some (.int .u32 (sa : Int)) := cellOfHeap hA9 0 rfl
      have o0 : wr.cell? ⟨q, 0, none⟩ = some (.int .u32 (a : Int)) := cellOfHeap HQX 0 rfl
      have m0 : ((sa : Int) + (a : Int)) % 4294967296 = ((Sha.add sa a : Nat) : Int) := add_int _ _
      obtain ⟨xa, hxa⟩ : ∃ q, Sha.add sa a = q := ⟨_, rfl⟩
      rw [hxa] at m0
      have HXa := hideIt hxa
      clear hxa
      have p1 : wr.cell? ⟨n, 1, none⟩ = some (.int .u32 (sb : Int)) := cellOfHeap hA9 1 rfl
      have o1 : wr.cell? ⟨q, 1, none⟩ = some (.int .u32 (b : Int)) := cellOfHeap HQX 1 rfl
      have m1 : ((sb : Int) + (b : Int)) % 4294967296 = ((Sha.add sb b : Nat) : Int) := add_int _ _
      obtain ⟨xb, hxb⟩ : ∃ q, Sha.add sb b = q := ⟨_, rfl⟩
      rw [hxb] at m1
      have HXb := hideIt hxb
      clear hxb
      have p2 : wr.cell? ⟨n, 2, none⟩ = some (.int .u32 (sc : Int)) := cellOfHeap hA9 2 rfl
      have o2 : wr.cell? ⟨q, 2, none⟩ = some (.int .u32 (c : Int)) := cellOfHeap HQX 2 rfl
      have m2 : ((sc : Int) + (c : Int)) % 4294967296 = ((Sha.add sc c : Nat) : Int) := add_int _ _
      obtain ⟨xc, hxc⟩ : ∃ q, Sha.add sc c = q := ⟨_, rfl⟩
      rw [hxc] at m2
      have HXc := hideIt hxc
      clear hxc
      have p3 : wr.cell? ⟨n, 3, none⟩ = some (.int .u32 (sd : Int)) := cellOfHeap hA9 3 rfl
      have o3 : wr.cell? ⟨q, 3, none⟩ = some (.int .u32 (d : Int)) := cellOfHeap HQX 3 rfl
      have m3 : ((sd : Int) + (d : Int)) % 4294967296 = ((Sha.add sd d : Nat) : Int) := add_int _ _
      obtain ⟨xd, hxd⟩ : ∃ q, Sha.add sd d = q := ⟨_, rfl⟩
      rw [hxd] at m3
      have HXd := hideIt hxd
      clear hxd
      have p4 : wr.cell? ⟨n, 4, none⟩ = some (.int .u32 (se : Int)) := cellOfHeap hA9 4 rfl
      have o4 : wr.cell? ⟨q, 4, none⟩ = some (.int .u32 (e : Int)) := cellOfHeap HQX 4 rfl
      have m4 : ((se : Int) + (e : Int)) % 4294967296 = ((Sha.add se e : Nat) : Int) := add_int _ _
      obtain ⟨xe, hxe⟩ : ∃ q, Sha.add se e = q := ⟨_, rfl⟩
      rw [hxe] at m4
      have HXe := hideIt hxe
      clear hxe
      have p5 : wr.cell? ⟨n, 5, none⟩ = some (.int .u32 (sf : Int)) := cellOfHeap hA9 5 rfl
      have o5 : wr.cell? ⟨q, 5, none⟩ = some (.int .u32 (f : Int)) := cellOfHeap HQX 5 rfl
      have m5 : ((sf : Int) + (f : Int)) % 4294967296 = ((Sha.add sf f : Nat) : Int) := add_int _ _
      obtain ⟨xf, hxf⟩ : ∃ q, Sha.add sf f = q := ⟨_, rfl⟩
      rw [hxf] at m5
      have HXf := hideIt hxf
      clear hxf
      have p6 : wr.cell? ⟨n, 6, none⟩ = some (.int .u32 (sg : Int)) := cellOfHeap hA9 6 rfl
      have o6 : wr.cell? ⟨q, 6, none⟩ = some (.int .u32 (g : Int)) := cellOfHeap HQX 6 rfl
      have m6 : ((sg : Int) + (g : Int)) % 4294967296 = ((Sha.add sg g : Nat) : Int) := add_int _ _
      obtain ⟨xg, hxg⟩ : ∃ q, Sha.add sg g = q := ⟨_, rfl⟩
      rw [hxg] at m6
      have HXg := hideIt hxg
      clear hxg
      have p7 : wr.cell? ⟨n, 7, none⟩ = some (.int .u32 (sh : Int)) := cellOfHeap hA9 7 rfl
      have o7 : wr.cell? ⟨q, 7, none⟩ = some (.int .u32 (h : Int)) := cellOfHeap HQX 7 rfl
      have m7 : ((sh : Int) + (h : Int)) % 4294967296 = ((Sha.add sh h : Nat) : Int) := add_int _ _
      obtain ⟨xh, hxh⟩ : ∃ q, Sha.add sh h = q := ⟨_, rfl⟩
      rw [hxh] at m7
      have HXh := hideIt hxh
      clear hxh
      have HADD := hideIt (show Sha.addSt ⟨sa, sb, sc, sd, se, sf, sg, sh⟩ ⟨a, b, c, d, e, f, g, h⟩ = ⟨xa, xb, xc, xd, xe, xf, xg, xh⟩ by unfold Sha.addSt; rw [HXa.out, HXb.out, HXc.out, HXd.out, HXe.out, HXf.out, HXg.out, HXh.out])
      have HZ9 := hideIt hZ9
      have HTZ := hideIt (thereNew wr (n + 1) _ 59 hZ9 (#[.int .u32 (xa : Int), .int .u32 (xb : Int), .int .u32 (xc : Int), .int .u32 (xd : Int), .int .u32 (xe : Int), .int .u32 (xf : Int), .int .u32 (xg : Int), .int .u32 (xh : Int)] : Array Value).size rfl)
      have HIZ := hideIt (show (Tryd.prog.info? 59).map (·.size) = some (#[.int .u32 (xa : Int), .int .u32 (xb : Int), .int .u32 (xc : Int), .int .u32 (xd : Int), .int .u32 (xe : Int), .int .u32 (xf : Int), .int .u32 (xg : Int), .int .u32 (xh : Int)] : Array Value).size by kernel_rfl)
      have HOZ := hideIt (show (#[.int .u32 (xa : Int), .int .u32 (xb : Int), .int .u32 (xc : Int), .int .u32 (xd : Int), .int .u32 (xe : Int), .int .u32 (xf : Int), .int .u32 (xg : Int), .int .u32 (xh : Int)] : Array Value).all (·.oneCell') = true by simp [Value.oneCell'])
      have HSZ := hideIt (store_over (V := (#[.int .u32 (xa : Int), .int .u32 (xb : Int), .int .u32 (xc : Int), .int .u32 (xd : Int), .int .u32 (xe : Int), .int .u32 (xf : Int), .int .u32 (xg : Int), .int .u32 (xh : Int)] : Array Value)) hZ9 rfl)
      clear hA9 hZ9 HQX
      go_wp2_with (first | (refine wpList_store_abs rfl 59 (.tmp 6) (.tmp 114) rfl (n + 1) 0 (#[.int .u32 (xa : Int), .int .u32 (xb : Int), .int .u32 (xc : Int), .int .u32 (xd : Int), .int .u32 (xe : Int), .int .u32 (xf : Int), .int .u32 (xg : Int), .int .u32 (xh : Int)]) rfl rfl HTZ.out HIZ.out HOZ.out ?_; intro W9 hW9; have HW9 := hideIt hW9; clear hW9))
      refine bodyPost_ret (results_cell_row Tryd.results31 _ _ (n + 1) 59 (#[.int .u32 (xa : Int), .int .u32 (xb : Int), .int .u32 (xc : Int), .int .u32 (xd : Int), .int .u32 (xe : Int), .int .u32 (xf : Int), .int .u32 (xg : Int), .int .u32 (xh : Int)]) (0, 0) _ rfl ?_ Tryd.underlying59 rfl HIZ.out) rfl ⟨?_, ?_⟩
      · rw [HW9.out]
        exact HSZ.out.1
      · rw [HBK.out]
        rw [HADD.out]
        rfl
      · rw [HW9.out]
        exact HF9.out.trans HSZ.out.2 (fun i hi e => by have := HN.out; omega)

end Go.Proofs.YtgnpdnkmhjocjaaDoor
