/- Code: Read, from a place within the bytes. -/
import Derived.Test.YtpieaenfnajlfaaCi
namespace Go.Proofs.Ytpieaenfnajlfaa
open Go.RowKit Go.IntWalk Go.Lib
set_option linter.unusedSimpArgs false
set_option linter.unusedVariables false

set_option maxRecDepth 100000 in
set_option maxHeartbeats 2000000 in
theorem read_in1 (ao : Option Addr) (cap : Nat) (bs : List UInt8) (a : Nat) (w : World) (h : BsAt w ao bs) (hcap0 : ao = none → cap = 0) (hcl : bs.length ≤ cap) (hb : bs.length ≤ 140737488355328) (hale : a ≤ bs.length) (hca : cap = a) :
    Calls Try.prog 18 #[.slice ao bs.length cap, .int .i64 (a : Int)] w fun e w' => e = .returned (readV (readR bs a)) ∧ Fr (fun _ => False) w w' := by
  have hd1 : decide ((a : Int) < 0) = false := decide_eq_false (by omega)
  have hd2 : decide ((bs.length : Int) < (a : Int)) = false := decide_eq_false (by omega)
  have HOP := hideIt (open_end ao bs a w ((w.alloc (.cells (icells zeroI) 23)).alloc (.cells #[.int .i64 0, .int .i64 0] 36)) h (((Fr.refl _ w).alloc _).alloc _) (by omega))
  have hcs : (win bs a).length ≤ 67 := by rw [win_len]; omega
  generalize hcsE : win bs a = cs at *
  have HCS := hideIt hcsE
  clear hcsE
  obtain ⟨m, hm0⟩ : ∃ m : Nat, (rInt cs 1 15 (0, 0, 0)).1 = m := ⟨_, (Int.toNat_of_nonneg (rInt_rng cs 1 15 (0, 0, 0) (by decide)).1).symm⟩
  have hm : m ≤ 15 := by have := (rInt_rng cs 1 15 (0, 0, 0) (by decide)).2; omega
  have HFB1 := hideIt (rInt_fb (bs := cs) (lo := 1) (hi := 15) (s := (0, 0, 0)) ⟨Nat.zero_le _, Int.le_refl _, by show (0 : Int) ≤ cs.length; omega⟩)
  have HRI := hideIt (fun p t ao cap w h hb => by have := rint_any p t ao cap cs (0, 0, 0) 1 15 w h hb; rw [hm0] at this; exact this)
  have HRD := hideIt (show rdI cs = tks cs (ltrs m) (⟨m, 0, 0, 0, 0, ⟨#[]⟩⟩, (rInt cs 1 15 (0, 0, 0)).2) by unfold rdI; rw [hm0, Int.toNat_natCast])
  generalize (rInt cs 1 15 (0, 0, 0)).2 = s1 at *
  clear hm0
  have HK := hideIt kinds_any
  have hidx := idx_run m hm
  go_enter Try.func18, Try.ntmps18
  go_wp2_with fail
  refine Calls.mono HOP.out ?_
  rintro e w1 ⟨p, t, ao1, cap1, rfl, hR, hF1, hp, ht, hn⟩
  simp at hp ht hn
  clear HOP
  have HR := hideIt hR
  have HF1 := hideIt hF1
  have HN := hideIt hn
  have hs1 : w.heap.size + 2 ≤ w1.heap.size := by have := hF1.size; simp at this; omega
  have hpl : p < w1.heap.size := hR.lt
  have htl : t < w1.heap.size := hR.tp.lt
  have HSL := hideIt (fun k (hk : wset t ao1 k) => hR.setlt hk)
  clear hR hF1 hn
  go_wp2_with fail
  refine Calls.mono (HRI.out p t ao1 cap1 w1 ⟨HR.out, Nat.zero_le _⟩ (by omega)) ?_
  rintro e w2 ⟨rfl, hR2, hF2⟩
  have HR2 := hideIt hR2
  have HF2 := hideIt (HF1.out.mono (S' := fun k => w.heap.size + 2 ≤ k) (fun _ e => e.elim) |>.trans hF2 (fun k _ e => by omega))
  have hs2 : w1.heap.size ≤ w2.heap.size := hF2.size
  clear hR2 hF2 HRI HR HF1
  go_wp2_with fail
  have HI1 := hideIt (fun w' (hF : Fr (fun _ => False) (w2.alloc (.cells (icells ⟨m, 0, 0, 0, 0, ⟨#[]⟩⟩) 23)) w') => show InsAt w' w2.heap.size ⟨m, 0, 0, 0, 0, ⟨#[]⟩⟩ from (hF.block w2.heap.size (by simp) (fun e => e)).trans (heap_new rfl))
  refine wp_region_held_drew (S := fun w0 => w0.cell? ⟨w2.heap.size, 0, none⟩ = some (.int .i64 (m : Int))) (by kernel_rfl) ?_ (fun hHeld => ?_)
  · exact (HI1.out _ (Fr.refl _ _).drew).c0
  refine wpAnyH_take (i := 1) (v := ?v1) rfl (by kernel_rfl) (by kernel_rfl) (by kernel_rfl) (fun _ _ _ h => h) (Or.inl ⟨by rfl, ?hy1⟩) (by assumption) ?rest1
  case hy1 => intro w hSw; (try dsimp only at hSw); go_simp; (try with_reducible rfl)
  try simp only [Act.put, List.setIfInBounds_toArray, List.set_cons_zero, List.set_cons_succ]
  refine wpAnyH_take (i := 2) (v := ?v2) rfl (by kernel_rfl) (by kernel_rfl) (by kernel_rfl) (fun _ _ _ h => h) (Or.inl ⟨by rfl, ?hy2⟩) (by assumption) ?rest2
  case hy2 => intro w hSw; (try dsimp only at hSw); go_simp; (try with_reducible rfl)
  try simp only [Act.put, List.setIfInBounds_toArray, List.set_cons_zero, List.set_cons_succ]
  refine wpAnyH_ready (rs := [0]) (by kernel_rfl) (by simp) ?_
  refine AllReadyH.cons rfl (fun K hK => ?_) AllReadyH.nil
  go_simp
  refine Calls.mono (HK.out _) ?_
  rintro e w4 ⟨rfl, hF⟩
  have HF := hideIt hF
  clear hF
  refine hK.out _ _ ?_ (fun hHeld => ?_)
  · exact (HI1.out _ ((Fr.refl _ _).drew.trans HF.out (fun _ _ e => e))).c0
  clear hK K
  try simp only [Act.put, List.setIfInBounds_toArray, List.set_cons_zero, List.set_cons_succ]
  refine wpAnyH_take (i := 3) (v := ?v3) rfl (by kernel_rfl) (by kernel_rfl) (by kernel_rfl) (fun _ _ _ h => h) (Or.inl ⟨by rfl, ?hy3⟩) (by assumption) ?rest3
  case hy3 => intro w hSw; (try dsimp only at hSw); go_simp; first | done | exact hidx w | (with_reducible rfl) | rfl
  try simp only [Act.put, List.setIfInBounds_toArray, List.set_cons_zero, List.set_cons_succ]
  refine wpAnyH_ready (rs := [4]) (by kernel_rfl) (by simp) ?_
  refine AllReadyH.cons rfl (fun K hK => ?_) AllReadyH.nil
  go_simp
  refine hK.out _ _ ?_ (fun hHeld => ?_)
  · exact (HI1.out _ (((Fr.refl _ _).drew.trans HF.out (fun _ _ e => e)).alloc _)).c0
  clear hK K
  try simp only [Act.put, List.setIfInBounds_toArray, List.set_cons_zero, List.set_cons_succ]
  refine wpAnyH_done (by kernel_rfl) ?_ _
  skip
  go_wp2_with fail
  have hs4 : w2.heap.size < w4.heap.size := by have := HF.out.size; simp at this; omega
  have HFC := hideIt (((Fr.refl (fun _ => False) (w2.alloc (.cells (icells ⟨m, 0, 0, 0, 0, ⟨#[]⟩⟩) 23))).drew.trans HF.out (fun _ _ e => e)).alloc (.stringIter (kindT m) 0))
  have HIW := hideIt (HI1.out _ HFC.out)
  have HRW := hideIt ((HR2.out.fr0 ((Fr.refl _ _).alloc _)).fr0 HFC.out)
  have HFW := hideIt ((HF2.out.alloc _).trans HFC.out (fun _ _ e => e.elim))
  clear HI1 HK hidx HF hHeld HR2 HF2 HFC
  go_loopw [10] (fun _ wr => ∃ (pos : Nat) (i : Ins) (s : Nat × Int × Int), Hid (wr.heap[w4.heap.size]? = some (.stringIter (kindT m) pos)) ∧ Hid (InsAt wr w2.heap.size i) ∧ Hid (ROk wr p t ao1 cap1 cs s) ∧ Hid (Fr (fun k => w.heap.size + 2 ≤ k) ((w.alloc (.cells (icells zeroI) 23)).alloc (.cells #[.int .i64 0, .int .i64 0] 36)) wr) ∧ Hid (FB cs s ∧ rdI cs = tks cs ((ltrs m).drop pos) (i, s))) (fun _ wr => (kindT m).size - wr.iterPos w4.heap.size)
  case atStart => exact ⟨0, ⟨m, 0, 0, 0, 0, ⟨#[]⟩⟩, s1, hideIt (heap_new rfl), HIW, HRW, HFW, hideIt ⟨HFB1.out, HRD.out⟩⟩
  case round =>
    obtain ⟨pos, i, s, HIT, HJ, HRO, HFR, HP⟩ := hrel
    have hne : w2.heap.size ≠ w4.heap.size := by omega
    by_cases hp4 : pos < (kindT m).size
    · obtain ⟨hl, hd0, _⟩ := ltrs_at m pos hm hp4
      have HD := hideIt hd0
      have hnx := fun ty => run_next_ascii_at (P := Try.prog) wr w4.heap.size (kindT m) pos ty HIT.out hp4 (by have := hl; omega)
      clear hd0
      generalize ((kindT m)[pos]'hp4).toNat = l at *
      have HFI := hideIt ((Fr.refl (fun k => k = w4.heap.size) wr).iterAt (k := w4.heap.size) (fun _ => rfl) (kindT m) (pos + 1))
      have HJ1 := hideIt (HJ.out.fr HFI.out hne)
      have HR1 := hideIt (show ROk _ p t ao1 cap1 cs s from ⟨HRO.out.1.fr HFI.out (by omega) (fun k hk e => by have := HSL.out k hk; omega), HRO.out.2⟩)
      have HIT1 := hideIt (iterAt_heap wr w4.heap.size (kindT m) pos (pos + 1) HIT.out)
      have HFR1 := hideIt (HFR.out.trans HFI.out (fun i hi e => by omega))
      have hpos0 := hideIt (iterPos_of HIT.out)
      generalize wr.iterAt w4.heap.size (kindT m) (pos + 1) = W1 at *
      go_wp2_with fail
      refine Calls.mono (find_w w2.heap.size l hl _) ?_
      rintro e w5 ⟨rfl, hF5⟩
      have HJ5 := hideIt (HJ1.out.fr hF5 (fun e => e))
      have HR5 := hideIt (HR1.out.fr0 hF5)
      have HIT5 := hideIt ((hF5.block w4.heap.size (Array.getElem?_eq_some_iff.1 HIT1.out).1 (fun e => e)).trans HIT1.out)
      have HFR5 := hideIt (HFR1.out.trans hF5 (fun _ _ e => e.elim))
      clear hF5
      go_wp2_with fail
      refine Calls.mono (take_w w2.heap.size l hl p t i ao1 cap1 cs s w5 HJ5.out HR5.out (by omega) (fun e => by have := HSL.out _ e; omega) (by omega)) ?_
      rintro e w6 ⟨rfl, hI6, hR6, hF6⟩
      have HI6 := hideIt hI6
      have HR6 := hideIt hR6
      have HF6 := hideIt hF6
      clear hI6 hR6 hF6
      have hk5 : w4.heap.size < w5.heap.size := (Array.getElem?_eq_some_iff.1 HIT5.out).1
      have HIT6 := hideIt ((HF6.out.block w4.heap.size hk5 (by omega)).trans HIT5.out)
      go_wp2_with fail
      go_roundw
      case measure =>
        rw [iterPos_of HIT6.out, hpos0.out]
        omega
      case rel =>
        exact ⟨pos + 1, (tk cs l i s).1, (tk cs l i s).2, HIT6, HI6, HR6, hideIt (HFR5.out.trans HF6.out (fun k hk e => by omega)), hideIt ⟨tk_fb HP.out.1, by rw [HP.out.2, HD.out]; rfl⟩⟩
    · have hnx := fun ty => run_next_end_at (P := Try.prog) wr w4.heap.size (kindT m) pos ty HIT.out hp4
      have HX := hideIt (show rdI cs = (i, s) by rw [HP.out.2, ltrs_end m pos hp4]; rfl)
      have HFBs := hideIt HP.out.1
      clear HP HRD HFB1
      have hA := (HFR.out.block w.heap.size (by simp; omega) (by omega)).trans (heap_old (heap_new rfl))
      have hF := (HFR.out.block (w.heap.size + 1) (by simp) (by omega)).trans (heap_new (by simp))
      obtain ⟨sp, se, sa⟩ := s
      have hsp : (sp : Int) ≤ 67 := by have := HFBs.out.1; dsimp only at this; omega
      have hsa : 0 ≤ sa ∧ sa ≤ 67 := by have := HFBs.out.2; dsimp only at this; omega
      obtain ⟨hsa0, hsa1⟩ := hsa
      go_wp2_with fail
      refine Calls.mono (rfault_any p t ao1 cap1 cs (sp, se, sa) wr HRO.out) ?_
      rintro e w7 ⟨rfl, hF7⟩
      have hs7 : wr.heap.size ≤ w7.heap.size := hF7.size
      have HF8 := hideIt (hF7.alloc (.cells #[.int .i64 se, .int .i64 sa] 36))
      have HJ8 := hideIt (HJ.out.fr HF8.out (fun e => e))
      have HR8 := hideIt (HRO.out.fr0 HF8.out)
      have HG8 := hideIt (show (w7.alloc (.cells #[.int .i64 se, .int .i64 sa] 36)).drew.cell? ⟨w7.heap.size, 0, none⟩ = some (.int .i64 se) ∧ (w7.alloc (.cells #[.int .i64 se, .int .i64 sa] 36)).drew.cell? ⟨w7.heap.size, 1, none⟩ = some (.int .i64 sa) from ⟨cellOfHeap (heap_new rfl) 0 rfl, cellOfHeap (heap_new rfl) 1 rfl⟩)
      have hA8 := (HF8.out.block w.heap.size (by have := (Array.getElem?_eq_some_iff.1 hA).1; omega) (fun e => e)).trans hA
      have hF8 := (HF8.out.block (w.heap.size + 1) (by have := (Array.getElem?_eq_some_iff.1 hF).1; omega) (fun e => e)).trans hF
      have hQ8 := HJ8.out.lt
      have HA8h := hideIt (show (w7.alloc (.cells #[.int .i64 se, .int .i64 sa] 36)).drew.heap[w.heap.size]? = _ from hA8)
      have HF8h := hideIt (show (w7.alloc (.cells #[.int .i64 se, .int .i64 sa] 36)).drew.heap[w.heap.size + 1]? = _ from hF8)
      have hFlt : w.heap.size + 1 < (w7.alloc (.cells #[.int .i64 se, .int .i64 sa] 36)).drew.heap.size := (Array.getElem?_eq_some_iff.1 hF8).1
      have HG9 := hideIt (fun (w' : World) (h : w'.heap[w7.heap.size]? = some (.cells #[.int .i64 se, .int .i64 sa] 36)) => And.intro (cellOfHeap h 0 rfl) (cellOfHeap h 1 rfl))
      have HFRw := hideIt ((((Fr.refl (fun _ => False) w).alloc (.cells (icells zeroI) 23)).alloc (.cells #[.int .i64 0, .int .i64 0] 36)).trans (HFR.out.trans HF8.out (fun _ _ e => e.elim)) (fun k hk e => by omega) |>.drew)
      have hsz : w.heap.size + 2 ≤ wr.heap.size := by have := HFR.out.size; simp at this; omega
      have hwr1 : IntKind.i64.wrap ((a : Int) + sa) = (a : Int) + sa := i64_in _ (by omega)
      have hwr2 : IntKind.i64.wrap ((a : Int) + (sp : Int)) = (a : Int) + (sp : Int) := i64_in _ (by omega)
      have hGA : w7.heap.size ≠ w.heap.size := by omega
      have hGF : w7.heap.size ≠ w.heap.size + 1 := by omega
      have hQA : w2.heap.size ≠ w.heap.size := by omega
      have hQF : w2.heap.size ≠ w.heap.size + 1 := by omega
      clear hF7 hA hF hA8 hF8
      by_cases hz : se = 0
      · subst hz
        have HE := hideIt (show readR bs a = (i, (a : Int) + sp, 0, 0) by unfold readR; rw [if_neg (by omega), Int.toNat_natCast, HCS.out, HX.out]; exact if_pos rfl)
        go_wp2_with fail
        refine wp_region_held_drew (S := fun w0 => InsAt w0 w2.heap.size i) (by kernel_rfl) ?_ (fun hHeld => ?_)
        · exact HJ8.out.keep rfl
        refine wpAnyH_take (i := 0) (v := ?v201) rfl (by kernel_rfl) (by kernel_rfl) (by kernel_rfl) (fun _ _ _ h => h) (Or.inl ⟨by rfl, ?hy201⟩) (by assumption) ?rest201
        case hy201 => intro w hSw; (try dsimp only at hSw); have c0 := hSw.c0; have c1 := hSw.c1; have c2 := hSw.c2; have c3 := hSw.c3; have c4 := hSw.c4; have c5 := hSw.c5; go_simp; (try with_reducible rfl)
        try simp only [Act.put, List.getElem_toArray, List.getElem_cons_zero, List.getElem_cons_succ, List.setIfInBounds_toArray, List.set_cons_zero, List.set_cons_succ]
        refine wpAnyH_take (i := 1) (v := ?v202) rfl (by kernel_rfl) (by kernel_rfl) (by kernel_rfl) (fun _ _ _ h => h) (Or.inl ⟨by rfl, ?hy202⟩) (by assumption) ?rest202
        case hy202 => intro w hSw; (try dsimp only at hSw); go_simp; (try with_reducible rfl)
        try simp only [Act.put, List.getElem_toArray, List.getElem_cons_zero, List.getElem_cons_succ, List.setIfInBounds_toArray, List.set_cons_zero, List.set_cons_succ]
        refine wpAnyH_take (i := 2) (v := ?v203) rfl (by kernel_rfl) (by kernel_rfl) (by kernel_rfl) (fun _ _ _ h => h) (Or.inl ⟨by rfl, ?hy203⟩) (by assumption) ?rest203
        case hy203 => intro w hSw; (try dsimp only at hSw); go_simp; (try with_reducible rfl)
        try simp only [Act.put, List.getElem_toArray, List.getElem_cons_zero, List.getElem_cons_succ, List.setIfInBounds_toArray, List.set_cons_zero, List.set_cons_succ]
        refine wpAnyH_take (i := 5) (v := ?v204) rfl (by kernel_rfl) (by kernel_rfl) (by kernel_rfl) (fun _ _ _ h => h) (Or.inl ⟨by rfl, ?hy204⟩) (by assumption) ?rest204
        case hy204 => intro w hSw; (try dsimp only at hSw); go_simp; (try with_reducible rfl)
        try simp only [Act.put, List.getElem_toArray, List.getElem_cons_zero, List.getElem_cons_succ, List.setIfInBounds_toArray, List.set_cons_zero, List.set_cons_succ]
        refine wpAnyH_ready (rs := [3]) (by kernel_rfl) (by simp) ?_
        refine AllReadyH.cons rfl (fun K hK => ?_) AllReadyH.nil
        go_simp
        refine Calls.mono (rat_any p t ao1 cap1 cs (sp, 0, sa) _ (HR8.out.fr0 (Fr.refl _ _).drew)) ?_
        rintro e w9 ⟨rfl, rfl⟩
        refine hK.out _ _ ?_ (fun hHeld => ?_)
        · exact HJ8.out.keep rfl
        clear hK K
        try simp only [Act.put, List.getElem_toArray, List.getElem_cons_zero, List.getElem_cons_succ, List.setIfInBounds_toArray, List.set_cons_zero, List.set_cons_succ]
        refine wpAnyH_take (i := 4) (v := ?v205) rfl (by kernel_rfl) (by kernel_rfl) (by kernel_rfl) (fun _ _ _ h => h) (Or.inl ⟨by rfl, ?hy205⟩) (by assumption) ?rest205
        case hy205 => intro w hSw; (try dsimp only at hSw); go_simp; (try with_reducible rfl)
        try simp only [Act.put, List.getElem_toArray, List.getElem_cons_zero, List.getElem_cons_succ, List.setIfInBounds_toArray, List.set_cons_zero, List.set_cons_succ]
        refine wpAnyH_ready (rs := [6]) (by kernel_rfl) (by simp) ?_
        refine AllReadyH.cons rfl (fun K hK => ?_) AllReadyH.nil
        rw [if_pos (by rfl)]
        refine wp_store_mid 23 _ _ rfl w.heap.size 0 (icells i) rfl rfl (there_row HA8h.out _ (Nat.le_refl _)) (by kernel_rfl) (icells_one _) ?_
        obtain ⟨hst, hfr⟩ := store_over (V := (icells i)) HA8h.out (by rfl)
        have HA10 := hideIt hst
        have HFr10 := hideIt hfr
        have HG10 := hideIt ((hfr.block (w.heap.size + 1) hFlt (by omega)).trans HF8h.out)
        clear hst hfr
        generalize hW10 : World.setCells _ w.heap.size 0 _ = W10 at *
        clear hW10
        refine hK.out _ _ ?_ (fun hHeld => ?_)
        · exact HJ8.out.keep (HFr10.out.block w2.heap.size HJ8.out.lt hQA)
        clear hK K
        try simp only [Act.put, List.getElem_toArray, List.getElem_cons_zero, List.getElem_cons_succ, List.setIfInBounds_toArray, List.set_cons_zero, List.set_cons_succ]
        refine wpAnyH_take (i := 7) (v := ?v206) rfl (by kernel_rfl) (by kernel_rfl) (by kernel_rfl) (fun _ _ _ h => h) (Or.inl ⟨by rfl, ?hy206⟩) (by assumption) ?rest206
        case hy206 => intro w hSw; (try dsimp only at hSw); go_simp; (try with_reducible rfl)
        try simp only [Act.put, List.getElem_toArray, List.getElem_cons_zero, List.getElem_cons_succ, List.setIfInBounds_toArray, List.set_cons_zero, List.set_cons_succ]
        refine wpAnyH_ready (rs := [8]) (by kernel_rfl) (by simp) ?_
        refine AllReadyH.cons rfl (fun K hK => ?_) AllReadyH.nil
        rw [if_pos (by rfl)]
        refine wp_store_mid 36 _ _ rfl (w.heap.size + 1) 0 #[.int .i64 0, .int .i64 0] rfl rfl (there_row HG10.out _ (Nat.le_refl _)) (by kernel_rfl) (fault_one _ _) ?_
        obtain ⟨hst, hfr⟩ := store_over (V := #[.int .i64 0, .int .i64 0]) HG10.out (by rfl)
        have HG11 := hideIt hst
        have HFr11 := hideIt ((HFr10.out.mono (S' := fun k => k = w.heap.size ∨ k = w.heap.size + 1) (fun _ e => Or.inl e)).trans hfr (fun _ _ e => Or.inr e))
        have HA11 := hideIt ((hfr.block w.heap.size (Array.getElem?_eq_some_iff.1 HA10.out).1 (by omega)).trans HA10.out)
        clear hst hfr
        generalize hW11 : World.setCells _ (w.heap.size + 1) 0 _ = W11 at *
        clear hW11
        refine hK.out _ _ ?_ (fun hHeld => ?_)
        · exact HJ8.out.keep (HFr11.out.block w2.heap.size HJ8.out.lt (by omega))
        clear hK K
        try simp only [Act.put, List.getElem_toArray, List.getElem_cons_zero, List.getElem_cons_succ, List.setIfInBounds_toArray, List.set_cons_zero, List.set_cons_succ]
        refine wpAnyH_done (by kernel_rfl) ?_ _
        go_wp2_with fail
        have hA0 := cellOfHeap HA11.out 0 rfl
        have hA1 := cellOfHeap HA11.out 1 rfl
        have hA2 := cellOfHeap HA11.out 2 rfl
        have hA3 := cellOfHeap HA11.out 3 rfl
        have hA4 := cellOfHeap HA11.out 4 rfl
        have hA5 := cellOfHeap HA11.out 5 rfl
        have hF0 := cellOfHeap HG11.out 0 rfl
        have hF1 := cellOfHeap HG11.out 1 rfl
        refine bodyPost_ret (v := readV (i, (a : Int) + sp, 0, 0)) (by simp [results, Try.results18, go_sem, readV, icells, zeroI, hA0, hA1, hA2, hA3, hA4, hA5, hF0, hF1]) rfl ⟨by rw [HE.out], ?_⟩
        exact HFRw.out.trans HFr11.out (fun k hk e => by omega)
      · have HE := hideIt (show readR bs a = (zeroI, 0, se, (a : Int) + sa) by unfold readR; rw [if_neg (by omega), Int.toNat_natCast, HCS.out, HX.out]; exact if_neg hz)
        go_wp2_with fail
        refine wp_region_held_drew (S := fun w0 => w0.cell? ⟨w7.heap.size, 0, none⟩ = some (.int .i64 se) ∧ w0.cell? ⟨w7.heap.size, 1, none⟩ = some (.int .i64 sa)) (by kernel_rfl) ?_ (fun hHeld => ?_)
        · exact HG8.out
        refine wpAnyH_take (i := 0) (v := ?v207) rfl (by kernel_rfl) (by kernel_rfl) (by kernel_rfl) (fun _ _ _ h => h) (Or.inl ⟨by rfl, ?hy207⟩) (by assumption) ?rest207
        case hy207 => intro w hSw; (try dsimp only at hSw); go_simp; (try with_reducible rfl)
        try simp only [Act.put, List.getElem_toArray, List.getElem_cons_zero, List.getElem_cons_succ, List.setIfInBounds_toArray, List.set_cons_zero, List.set_cons_succ]
        refine wpAnyH_take (i := 1) (v := ?v208) rfl (by kernel_rfl) (by kernel_rfl) (by kernel_rfl) (fun _ _ _ h => h) (Or.inl ⟨by rfl, ?hy208⟩) (by assumption) ?rest208
        case hy208 => intro w hSw; (try dsimp only at hSw); go_simp; (try with_reducible rfl)
        try simp only [Act.put, List.getElem_toArray, List.getElem_cons_zero, List.getElem_cons_succ, List.setIfInBounds_toArray, List.set_cons_zero, List.set_cons_succ]
        refine wpAnyH_take (i := 2) (v := ?v209) rfl (by kernel_rfl) (by kernel_rfl) (by kernel_rfl) (fun _ _ _ h => h) (Or.inl ⟨by rfl, ?hy209⟩) (by assumption) ?rest209
        case hy209 => intro w hSw; (try dsimp only at hSw); go_simp; (try with_reducible rfl)
        try simp only [Act.put, List.getElem_toArray, List.getElem_cons_zero, List.getElem_cons_succ, List.setIfInBounds_toArray, List.set_cons_zero, List.set_cons_succ]
        refine wpAnyH_take (i := 3) (v := ?v210) rfl (by kernel_rfl) (by kernel_rfl) (by kernel_rfl) (fun _ _ _ h => h) (Or.inl ⟨by rfl, ?hy210⟩) (by assumption) ?rest210
        case hy210 => intro w hSw; (try dsimp only at hSw); go_simp; (try with_reducible rfl)
        try simp only [Act.put, List.getElem_toArray, List.getElem_cons_zero, List.getElem_cons_succ, List.setIfInBounds_toArray, List.set_cons_zero, List.set_cons_succ]
        refine wpAnyH_take (i := 4) (v := ?v211) rfl (by kernel_rfl) (by kernel_rfl) (by kernel_rfl) (fun _ _ _ h => h) (Or.inl ⟨by rfl, ?hy211⟩) (by assumption) ?rest211
        case hy211 => intro w hSw; (try dsimp only at hSw); go_simp; (try with_reducible rfl)
        try simp only [Act.put, List.getElem_toArray, List.getElem_cons_zero, List.getElem_cons_succ, List.setIfInBounds_toArray, List.set_cons_zero, List.set_cons_succ]
        refine wpAnyH_take (i := 5) (v := ?v212) rfl (by kernel_rfl) (by kernel_rfl) (by kernel_rfl) (fun _ _ _ h => h) (Or.inl ⟨by rfl, ?hy212⟩) (by assumption) ?rest212
        case hy212 => intro w hSw; (try dsimp only at hSw); go_simp; (try with_reducible rfl)
        try simp only [Act.put, List.getElem_toArray, List.getElem_cons_zero, List.getElem_cons_succ, List.setIfInBounds_toArray, List.set_cons_zero, List.set_cons_succ]
        refine wpAnyH_take (i := 6) (v := ?v213) rfl (by kernel_rfl) (by kernel_rfl) (by kernel_rfl) (fun _ _ _ h => h) (Or.inl ⟨by rfl, ?hy213⟩) (by assumption) ?rest213
        case hy213 => intro w hSw; (try dsimp only at hSw); go_simp; (try with_reducible rfl)
        try simp only [Act.put, List.getElem_toArray, List.getElem_cons_zero, List.getElem_cons_succ, List.setIfInBounds_toArray, List.set_cons_zero, List.set_cons_succ]
        refine wpAnyH_take (i := 7) (v := ?v214) rfl (by kernel_rfl) (by kernel_rfl) (by kernel_rfl) (fun _ _ _ h => h) (Or.inl ⟨by rfl, ?hy214⟩) (by assumption) ?rest214
        case hy214 => intro w hSw; (try dsimp only at hSw); go_simp; (try with_reducible rfl)
        try simp only [Act.put, List.getElem_toArray, List.getElem_cons_zero, List.getElem_cons_succ, List.setIfInBounds_toArray, List.set_cons_zero, List.set_cons_succ]
        refine wpAnyH_ready (rs := [8]) (by kernel_rfl) (by simp) ?_
        refine AllReadyH.cons rfl (fun K hK => ?_) AllReadyH.nil
        rw [if_pos (by rfl)]
        refine wp_store_mid 23 _ _ rfl w.heap.size 0 (icells zeroI) rfl rfl (there_row HA8h.out _ (Nat.le_refl _)) (by kernel_rfl) (icells_one _) ?_
        obtain ⟨hst, hfr⟩ := store_over (V := (icells zeroI)) HA8h.out (by rfl)
        have HA10 := hideIt hst
        have HFr10 := hideIt hfr
        have HG10 := hideIt ((hfr.block (w.heap.size + 1) hFlt (by omega)).trans HF8h.out)
        clear hst hfr
        generalize hW10 : World.setCells _ w.heap.size 0 _ = W10 at *
        clear hW10
        refine hK.out _ _ ?_ (fun hHeld => ?_)
        · exact HG9.out _ ((HFr10.out.block w7.heap.size (by simp) hGA).trans (heap_new rfl))
        clear hK K
        try simp only [Act.put, List.getElem_toArray, List.getElem_cons_zero, List.getElem_cons_succ, List.setIfInBounds_toArray, List.set_cons_zero, List.set_cons_succ]
        refine wpAnyH_take (i := 9) (v := ?v215) rfl (by kernel_rfl) (by kernel_rfl) (by kernel_rfl) (fun _ _ _ h => h) (Or.inl ⟨by rfl, ?hy215⟩) (by assumption) ?rest215
        case hy215 => intro w hSw; (try dsimp only at hSw); go_simp; (try with_reducible rfl)
        try simp only [Act.put, List.getElem_toArray, List.getElem_cons_zero, List.getElem_cons_succ, List.setIfInBounds_toArray, List.set_cons_zero, List.set_cons_succ]
        refine wpAnyH_ready (rs := [10]) (by kernel_rfl) (by simp) ?_
        refine AllReadyH.cons rfl (fun K hK => ?_) AllReadyH.nil
        rw [if_pos (by rfl)]
        refine wp_store_mid 36 _ _ rfl (w.heap.size + 1) 0 #[.int .i64 se, .int .i64 ((a : Int) + sa)] rfl rfl (there_row HG10.out _ (Nat.le_refl _)) (by kernel_rfl) (fault_one _ _) ?_
        obtain ⟨hst, hfr⟩ := store_over (V := #[.int .i64 se, .int .i64 ((a : Int) + sa)]) HG10.out (by rfl)
        have HG11 := hideIt hst
        have HFr11 := hideIt ((HFr10.out.mono (S' := fun k => k = w.heap.size ∨ k = w.heap.size + 1) (fun _ e => Or.inl e)).trans hfr (fun _ _ e => Or.inr e))
        have HA11 := hideIt ((hfr.block w.heap.size (Array.getElem?_eq_some_iff.1 HA10.out).1 (by omega)).trans HA10.out)
        clear hst hfr
        generalize hW11 : World.setCells _ (w.heap.size + 1) 0 _ = W11 at *
        clear hW11
        refine hK.out _ _ ?_ (fun hHeld => ?_)
        · exact HG9.out _ ((HFr11.out.block w7.heap.size (by simp) (by omega)).trans (heap_new rfl))
        clear hK K
        try simp only [Act.put, List.getElem_toArray, List.getElem_cons_zero, List.getElem_cons_succ, List.setIfInBounds_toArray, List.set_cons_zero, List.set_cons_succ]
        refine wpAnyH_done (by kernel_rfl) ?_ _
        go_wp2_with fail
        have hA0 := cellOfHeap HA11.out 0 rfl
        have hA1 := cellOfHeap HA11.out 1 rfl
        have hA2 := cellOfHeap HA11.out 2 rfl
        have hA3 := cellOfHeap HA11.out 3 rfl
        have hA4 := cellOfHeap HA11.out 4 rfl
        have hA5 := cellOfHeap HA11.out 5 rfl
        have hF0 := cellOfHeap HG11.out 0 rfl
        have hF1 := cellOfHeap HG11.out 1 rfl
        refine bodyPost_ret (v := readV (zeroI, 0, se, (a : Int) + sa)) (by simp [results, Try.results18, go_sem, readV, icells, zeroI, hA0, hA1, hA2, hA3, hA4, hA5, hF0, hF1]) rfl ⟨by rw [HE.out], ?_⟩
        exact HFRw.out.trans HFr11.out (fun k hk e => by omega)

end Go.Proofs.Ytpieaenfnajlfaa
