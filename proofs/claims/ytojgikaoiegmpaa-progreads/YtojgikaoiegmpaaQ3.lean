/- ProgReads, part 3 of the road: what the program's functions do, each by its own walk. -/
import Derived.Test.YtojgikaoiegmpaaQ2
import Derived.Laws.MakeOwn
import Derived.Test.YtojgikaoiegmpaaQ1
import Derived.Deep.QuietTactic
import Derived.Deep.RegionHeld3

/- Code: Read, from a place within the bytes. -/
namespace Go.Proofs.Ytojgikaoiegmpaa
open Go.RowKit Go.IntWalk Go.Lib
set_option linter.unusedSimpArgs false
set_option linter.unusedVariables false
set_option maxRecDepth 100000

set_option maxRecDepth 100000 in
set_option maxHeartbeats 2000000 in
theorem read_in3 (ao : Option Addr) (cap : Nat) (bs : List UInt8) (a : Nat) (w : World) (h : BsAt w ao bs) (hcap0 : ao = none → cap = 0) (hcl : bs.length ≤ cap) (hb : bs.length ≤ 140737488355328) (hale : a ≤ bs.length) (hca : ¬ cap = a) (hq : (a : Int) + 67 < (bs.length : Int)) :
    Calls Try.prog 52 #[.slice ao bs.length cap, .int .i64 (a : Int)] w fun e w' => e = .returned (readV (readR bs a)) ∧ Fr (fun _ => False) w w' := by
  have hd1 : decide ((a : Int) < 0) = false := decide_eq_false (by omega)
  have hd2 : decide ((bs.length : Int) < (a : Int)) = false := decide_eq_false (by omega)
  have HOP := hideIt (open_mid ao cap bs a 67 w ((w.alloc (.cells (icells zeroI) 40)).alloc (.cells #[.int .i64 0, .int .i64 0] 28)) h hcap0 hcl hale (((Fr.refl _ w).alloc _).alloc _) hca (by omega))
  have hq2 : ¬ ((bs.length : Int) ≤ (a : Int) + 67) := by omega
  have hcs : (win bs a).length ≤ 67 := by rw [win_len]; omega
  generalize hcsE : win bs a = cs at *
  have HCS := hideIt hcsE
  clear hcsE
  obtain ⟨m, hm0⟩ : ∃ m : Nat, (rInt cs 1 15 (0, 0, 0)).1 = m := ⟨_, (Int.toNat_of_nonneg (rInt_rng cs 1 15 (0, 0, 0) (by decide)).1).symm⟩
  have hm : m ≤ 15 := by have := (rInt_rng cs 1 15 (0, 0, 0) (by decide)).2; omega
  have HFB1 := hideIt (rInt_fb (bs := cs) (lo := 1) (hi := 15) (s := (0, 0, 0)) ⟨Nat.zero_le _, Int.le_refl _, by show (0 : Int) ≤ cs.length; omega⟩)
  have HRI := hideIt (fun p t ao cap w h hb => by have := rint_any p t ao cap cs (0, 0, 0) 1 15 w h hb; rw [hm0] at this; exact this)
  have HRD := hideIt (show rdI cs = tks cs (ltrs m) (⟨m, 0, 0, 0, 0, ⟨#[]⟩⟩, (rInt cs 1 15 (0, 0, 0)).2) by unfold rdI; rw [hm0, Int.toNat_natCast])
  generalize (rInt cs 1 15 (0, 0, 0)).2 = s1 at *
  clear hm0
  have HK := hideIt kinds_any
  have hidx := idx_run m hm
  go_enter Try.func52, Try.ntmps52
  go_wp2_with fail
  refine Calls.mono HOP.out ?_
  rintro e w1 ⟨p, t, ao1, cap1, rfl, hR, hF1, hp, ht, hn⟩
  simp at hp ht hn
  clear HOP
  have HR := hideIt hR
  have HF1 := hideIt hF1
  have HN := hideIt hn
  have hs1 : w.heap.size + 2 ≤ w1.heap.size := by have := hF1.size; simp at this; omega
  have hpl : p < w1.heap.size := hR.lt
  have htl : t < w1.heap.size := hR.tp.lt
  have HSL := hideIt (fun k (hk : wset t ao1 k) => hR.setlt hk)
  clear hR hF1 hn
  go_wp2_with fail
  refine Calls.mono (HRI.out p t ao1 cap1 w1 ⟨HR.out, Nat.zero_le _⟩ (by omega)) ?_
  rintro e w2 ⟨rfl, hR2, hF2⟩
  have HR2 := hideIt hR2
  have HF2 := hideIt (HF1.out.mono (S' := fun k => w.heap.size + 2 ≤ k) (fun _ e => e.elim) |>.trans hF2 (fun k _ e => by omega))
  have hs2 : w1.heap.size ≤ w2.heap.size := hF2.size
  clear hR2 hF2 HRI HR HF1
  go_wp2_with fail
  have HI1 := hideIt (fun w' (hF : Fr (fun _ => False) (w2.alloc (.cells (icells ⟨m, 0, 0, 0, 0, ⟨#[]⟩⟩) 40)) w') => show InsAt w' w2.heap.size ⟨m, 0, 0, 0, 0, ⟨#[]⟩⟩ from (hF.block w2.heap.size (by simp) (fun e => e)).trans (heap_new rfl))
  refine wp_region_held_drew (S := fun w0 => w0.cell? ⟨w2.heap.size, 0, none⟩ = some (.int .i64 (m : Int))) (by kernel_rfl) ?_ (fun hHeld => ?_)
  · exact (HI1.out _ (Fr.refl _ _).drew).c0
  refine wpAnyH_take (i := 1) (v := ?v1) rfl (by kernel_rfl) (by kernel_rfl) (by kernel_rfl) (fun _ _ _ h => h) (Or.inl ⟨by rfl, ?hy1⟩) (by assumption) ?rest1
  case hy1 => intro w hSw; (try dsimp only at hSw); go_simp; (try with_reducible rfl)
  try simp only [Act.put, List.setIfInBounds_toArray, List.set_cons_zero, List.set_cons_succ]
  refine wpAnyH_take (i := 2) (v := ?v2) rfl (by kernel_rfl) (by kernel_rfl) (by kernel_rfl) (fun _ _ _ h => h) (Or.inl ⟨by rfl, ?hy2⟩) (by assumption) ?rest2
  case hy2 => intro w hSw; (try dsimp only at hSw); go_simp; (try with_reducible rfl)
  try simp only [Act.put, List.setIfInBounds_toArray, List.set_cons_zero, List.set_cons_succ]
  refine wpAnyH_ready (rs := [0]) (by kernel_rfl) (by simp) ?_
  refine AllReadyH.cons rfl (fun K hK => ?_) AllReadyH.nil
  go_simp
  refine Calls.mono (HK.out _) ?_
  rintro e w4 ⟨rfl, hF⟩
  have HF := hideIt hF
  clear hF
  refine hK.out _ _ ?_ (fun hHeld => ?_)
  · exact (HI1.out _ ((Fr.refl _ _).drew.trans HF.out (fun _ _ e => e))).c0
  clear hK K
  try simp only [Act.put, List.setIfInBounds_toArray, List.set_cons_zero, List.set_cons_succ]
  refine wpAnyH_take (i := 3) (v := ?v3) rfl (by kernel_rfl) (by kernel_rfl) (by kernel_rfl) (fun _ _ _ h => h) (Or.inl ⟨by rfl, ?hy3⟩) (by assumption) ?rest3
  case hy3 => intro w hSw; (try dsimp only at hSw); go_simp; first | done | exact hidx w | (with_reducible rfl) | rfl
  try simp only [Act.put, List.setIfInBounds_toArray, List.set_cons_zero, List.set_cons_succ]
  refine wpAnyH_ready (rs := [4]) (by kernel_rfl) (by simp) ?_
  refine AllReadyH.cons rfl (fun K hK => ?_) AllReadyH.nil
  go_simp
  refine hK.out _ _ ?_ (fun hHeld => ?_)
  · exact (HI1.out _ (((Fr.refl _ _).drew.trans HF.out (fun _ _ e => e)).alloc _)).c0
  clear hK K
  try simp only [Act.put, List.setIfInBounds_toArray, List.set_cons_zero, List.set_cons_succ]
  refine wpAnyH_done (by kernel_rfl) ?_ _
  skip
  go_wp2_with fail
  have hs4 : w2.heap.size < w4.heap.size := by have := HF.out.size; simp at this; omega
  have HFC := hideIt (((Fr.refl (fun _ => False) (w2.alloc (.cells (icells ⟨m, 0, 0, 0, 0, ⟨#[]⟩⟩) 40))).drew.trans HF.out (fun _ _ e => e)).alloc (.stringIter (kindT m) 0))
  have HIW := hideIt (HI1.out _ HFC.out)
  have HRW := hideIt ((HR2.out.fr0 ((Fr.refl _ _).alloc _)).fr0 HFC.out)
  have HFW := hideIt ((HF2.out.alloc _).trans HFC.out (fun _ _ e => e.elim))
  clear HI1 HK hidx HF hHeld HR2 HF2 HFC
  go_loopw [10] (fun _ wr => ∃ (pos : Nat) (i : Ins) (s : Nat × Int × Int), Hid (wr.heap[w4.heap.size]? = some (.stringIter (kindT m) pos)) ∧ Hid (InsAt wr w2.heap.size i) ∧ Hid (ROk wr p t ao1 cap1 cs s) ∧ Hid (Fr (fun k => w.heap.size + 2 ≤ k) ((w.alloc (.cells (icells zeroI) 40)).alloc (.cells #[.int .i64 0, .int .i64 0] 28)) wr) ∧ Hid (FB cs s ∧ rdI cs = tks cs ((ltrs m).drop pos) (i, s))) (fun _ wr => (kindT m).size - wr.iterPos w4.heap.size)
  case atStart => exact ⟨0, ⟨m, 0, 0, 0, 0, ⟨#[]⟩⟩, s1, hideIt (heap_new rfl), HIW, HRW, HFW, hideIt ⟨HFB1.out, HRD.out⟩⟩
  case round =>
    obtain ⟨pos, i, s, HIT, HJ, HRO, HFR, HP⟩ := hrel
    have hne : w2.heap.size ≠ w4.heap.size := by omega
    by_cases hp4 : pos < (kindT m).size
    · obtain ⟨hl, hd0, _⟩ := ltrs_at m pos hm hp4
      have HD := hideIt hd0
      have hnx := fun ty => run_next_ascii_at (P := Try.prog) wr w4.heap.size (kindT m) pos ty HIT.out hp4 (by have := hl; omega)
      clear hd0
      generalize ((kindT m)[pos]'hp4).toNat = l at *
      have HFI := hideIt ((Fr.refl (fun k => k = w4.heap.size) wr).iterAt (k := w4.heap.size) (fun _ => rfl) (kindT m) (pos + 1))
      have HJ1 := hideIt (HJ.out.fr HFI.out hne)
      have HR1 := hideIt (show ROk _ p t ao1 cap1 cs s from ⟨HRO.out.1.fr HFI.out (by omega) (fun k hk e => by have := HSL.out k hk; omega), HRO.out.2⟩)
      have HIT1 := hideIt (iterAt_heap wr w4.heap.size (kindT m) pos (pos + 1) HIT.out)
      have HFR1 := hideIt (HFR.out.trans HFI.out (fun i hi e => by omega))
      have hpos0 := hideIt (iterPos_of HIT.out)
      generalize wr.iterAt w4.heap.size (kindT m) (pos + 1) = W1 at *
      go_wp2_with fail
      refine Calls.mono (find_w w2.heap.size l hl _) ?_
      rintro e w5 ⟨rfl, hF5⟩
      have HJ5 := hideIt (HJ1.out.fr hF5 (fun e => e))
      have HR5 := hideIt (HR1.out.fr0 hF5)
      have HIT5 := hideIt ((hF5.block w4.heap.size (Array.getElem?_eq_some_iff.1 HIT1.out).1 (fun e => e)).trans HIT1.out)
      have HFR5 := hideIt (HFR1.out.trans hF5 (fun _ _ e => e.elim))
      clear hF5
      go_wp2_with fail
      refine Calls.mono (take_w w2.heap.size l hl p t i ao1 cap1 cs s w5 HJ5.out HR5.out (by omega) (fun e => by have := HSL.out _ e; omega) (by omega)) ?_
      rintro e w6 ⟨rfl, hI6, hR6, hF6⟩
      have HI6 := hideIt hI6
      have HR6 := hideIt hR6
      have HF6 := hideIt hF6
      clear hI6 hR6 hF6
      have hk5 : w4.heap.size < w5.heap.size := (Array.getElem?_eq_some_iff.1 HIT5.out).1
      have HIT6 := hideIt ((HF6.out.block w4.heap.size hk5 (by omega)).trans HIT5.out)
      go_wp2_with fail
      go_roundw
      case measure =>
        rw [iterPos_of HIT6.out, hpos0.out]
        omega
      case rel =>
        exact ⟨pos + 1, (tk cs l i s).1, (tk cs l i s).2, HIT6, HI6, HR6, hideIt (HFR5.out.trans HF6.out (fun k hk e => by omega)), hideIt ⟨tk_fb HP.out.1, by rw [HP.out.2, HD.out]; rfl⟩⟩
    · have hnx := fun ty => run_next_end_at (P := Try.prog) wr w4.heap.size (kindT m) pos ty HIT.out hp4
      have HX := hideIt (show rdI cs = (i, s) by rw [HP.out.2, ltrs_end m pos hp4]; rfl)
      have HFBs := hideIt HP.out.1
      clear HP HRD HFB1
      have hA := (HFR.out.block w.heap.size (by simp; omega) (by omega)).trans (heap_old (heap_new rfl))
      have hF := (HFR.out.block (w.heap.size + 1) (by simp) (by omega)).trans (heap_new (by simp))
      obtain ⟨sp, se, sa⟩ := s
      have hsp : (sp : Int) ≤ 67 := by have := HFBs.out.1; dsimp only at this; omega
      have hsa : 0 ≤ sa ∧ sa ≤ 67 := by have := HFBs.out.2; dsimp only at this; omega
      obtain ⟨hsa0, hsa1⟩ := hsa
      go_wp2_with fail
      refine Calls.mono (rfault_any p t ao1 cap1 cs (sp, se, sa) wr HRO.out) ?_
      rintro e w7 ⟨rfl, hF7⟩
      have hs7 : wr.heap.size ≤ w7.heap.size := hF7.size
      have HF8 := hideIt (hF7.alloc (.cells #[.int .i64 se, .int .i64 sa] 28))
      have HJ8 := hideIt (HJ.out.fr HF8.out (fun e => e))
      have HR8 := hideIt (HRO.out.fr0 HF8.out)
      have HG8 := hideIt (show (w7.alloc (.cells #[.int .i64 se, .int .i64 sa] 28)).drew.cell? ⟨w7.heap.size, 0, none⟩ = some (.int .i64 se) ∧ (w7.alloc (.cells #[.int .i64 se, .int .i64 sa] 28)).drew.cell? ⟨w7.heap.size, 1, none⟩ = some (.int .i64 sa) from ⟨cellOfHeap (heap_new rfl) 0 rfl, cellOfHeap (heap_new rfl) 1 rfl⟩)
      have hA8 := (HF8.out.block w.heap.size (by have := (Array.getElem?_eq_some_iff.1 hA).1; omega) (fun e => e)).trans hA
      have hF8 := (HF8.out.block (w.heap.size + 1) (by have := (Array.getElem?_eq_some_iff.1 hF).1; omega) (fun e => e)).trans hF
      have hQ8 := HJ8.out.lt
      have HA8h := hideIt (show (w7.alloc (.cells #[.int .i64 se, .int .i64 sa] 28)).drew.heap[w.heap.size]? = _ from hA8)
      have HF8h := hideIt (show (w7.alloc (.cells #[.int .i64 se, .int .i64 sa] 28)).drew.heap[w.heap.size + 1]? = _ from hF8)
      have hFlt : w.heap.size + 1 < (w7.alloc (.cells #[.int .i64 se, .int .i64 sa] 28)).drew.heap.size := (Array.getElem?_eq_some_iff.1 hF8).1
      have HG9 := hideIt (fun (w' : World) (h : w'.heap[w7.heap.size]? = some (.cells #[.int .i64 se, .int .i64 sa] 28)) => And.intro (cellOfHeap h 0 rfl) (cellOfHeap h 1 rfl))
      have HFRw := hideIt ((((Fr.refl (fun _ => False) w).alloc (.cells (icells zeroI) 40)).alloc (.cells #[.int .i64 0, .int .i64 0] 28)).trans (HFR.out.trans HF8.out (fun _ _ e => e.elim)) (fun k hk e => by omega) |>.drew)
      have hsz : w.heap.size + 2 ≤ wr.heap.size := by have := HFR.out.size; simp at this; omega
      have hwr1 : IntKind.i64.wrap ((a : Int) + sa) = (a : Int) + sa := i64_in _ (by omega)
      have hwr2 : IntKind.i64.wrap ((a : Int) + (sp : Int)) = (a : Int) + (sp : Int) := i64_in _ (by omega)
      have hGA : w7.heap.size ≠ w.heap.size := by omega
      have hGF : w7.heap.size ≠ w.heap.size + 1 := by omega
      have hQA : w2.heap.size ≠ w.heap.size := by omega
      have hQF : w2.heap.size ≠ w.heap.size + 1 := by omega
      clear hF7 hA hF hA8 hF8
      by_cases hz : se = 0
      · subst hz
        have HE := hideIt (show readR bs a = (i, (a : Int) + sp, 0, 0) by unfold readR; rw [if_neg (by omega), Int.toNat_natCast, HCS.out, HX.out]; exact if_pos rfl)
        go_wp2_with fail
        refine wp_region_held_drew (S := fun w0 => InsAt w0 w2.heap.size i) (by kernel_rfl) ?_ (fun hHeld => ?_)
        · exact HJ8.out.keep rfl
        refine wpAnyH_take (i := 0) (v := ?v201) rfl (by kernel_rfl) (by kernel_rfl) (by kernel_rfl) (fun _ _ _ h => h) (Or.inl ⟨by rfl, ?hy201⟩) (by assumption) ?rest201
        case hy201 => intro w hSw; (try dsimp only at hSw); have c0 := hSw.c0; have c1 := hSw.c1; have c2 := hSw.c2; have c3 := hSw.c3; have c4 := hSw.c4; have c5 := hSw.c5; go_simp; (try with_reducible rfl)
        try simp only [Act.put, List.getElem_toArray, List.getElem_cons_zero, List.getElem_cons_succ, List.setIfInBounds_toArray, List.set_cons_zero, List.set_cons_succ]
        refine wpAnyH_take (i := 1) (v := ?v202) rfl (by kernel_rfl) (by kernel_rfl) (by kernel_rfl) (fun _ _ _ h => h) (Or.inl ⟨by rfl, ?hy202⟩) (by assumption) ?rest202
        case hy202 => intro w hSw; (try dsimp only at hSw); go_simp; (try with_reducible rfl)
        try simp only [Act.put, List.getElem_toArray, List.getElem_cons_zero, List.getElem_cons_succ, List.setIfInBounds_toArray, List.set_cons_zero, List.set_cons_succ]
        refine wpAnyH_take (i := 2) (v := ?v203) rfl (by kernel_rfl) (by kernel_rfl) (by kernel_rfl) (fun _ _ _ h => h) (Or.inl ⟨by rfl, ?hy203⟩) (by assumption) ?rest203
        case hy203 => intro w hSw; (try dsimp only at hSw); go_simp; (try with_reducible rfl)
        try simp only [Act.put, List.getElem_toArray, List.getElem_cons_zero, List.getElem_cons_succ, List.setIfInBounds_toArray, List.set_cons_zero, List.set_cons_succ]
        refine wpAnyH_take (i := 5) (v := ?v204) rfl (by kernel_rfl) (by kernel_rfl) (by kernel_rfl) (fun _ _ _ h => h) (Or.inl ⟨by rfl, ?hy204⟩) (by assumption) ?rest204
        case hy204 => intro w hSw; (try dsimp only at hSw); go_simp; (try with_reducible rfl)
        try simp only [Act.put, List.getElem_toArray, List.getElem_cons_zero, List.getElem_cons_succ, List.setIfInBounds_toArray, List.set_cons_zero, List.set_cons_succ]
        refine wpAnyH_ready (rs := [3]) (by kernel_rfl) (by simp) ?_
        refine AllReadyH.cons rfl (fun K hK => ?_) AllReadyH.nil
        go_simp
        refine Calls.mono (rat_any p t ao1 cap1 cs (sp, 0, sa) _ (HR8.out.fr0 (Fr.refl _ _).drew)) ?_
        rintro e w9 ⟨rfl, rfl⟩
        refine hK.out _ _ ?_ (fun hHeld => ?_)
        · exact HJ8.out.keep rfl
        clear hK K
        try simp only [Act.put, List.getElem_toArray, List.getElem_cons_zero, List.getElem_cons_succ, List.setIfInBounds_toArray, List.set_cons_zero, List.set_cons_succ]
        refine wpAnyH_take (i := 4) (v := ?v205) rfl (by kernel_rfl) (by kernel_rfl) (by kernel_rfl) (fun _ _ _ h => h) (Or.inl ⟨by rfl, ?hy205⟩) (by assumption) ?rest205
        case hy205 => intro w hSw; (try dsimp only at hSw); go_simp; (try with_reducible rfl)
        try simp only [Act.put, List.getElem_toArray, List.getElem_cons_zero, List.getElem_cons_succ, List.setIfInBounds_toArray, List.set_cons_zero, List.set_cons_succ]
        refine wpAnyH_ready (rs := [6]) (by kernel_rfl) (by simp) ?_
        refine AllReadyH.cons rfl (fun K hK => ?_) AllReadyH.nil
        rw [if_pos (by rfl)]
        refine wp_store_mid 40 _ _ rfl w.heap.size 0 (icells i) rfl rfl (there_row HA8h.out _ (Nat.le_refl _)) (by kernel_rfl) (icells_one _) ?_
        obtain ⟨hst, hfr⟩ := store_over (V := (icells i)) HA8h.out (by rfl)
        have HA10 := hideIt hst
        have HFr10 := hideIt hfr
        have HG10 := hideIt ((hfr.block (w.heap.size + 1) hFlt (by omega)).trans HF8h.out)
        clear hst hfr
        generalize hW10 : World.setCells _ w.heap.size 0 _ = W10 at *
        clear hW10
        refine hK.out _ _ ?_ (fun hHeld => ?_)
        · exact HJ8.out.keep (HFr10.out.block w2.heap.size HJ8.out.lt hQA)
        clear hK K
        try simp only [Act.put, List.getElem_toArray, List.getElem_cons_zero, List.getElem_cons_succ, List.setIfInBounds_toArray, List.set_cons_zero, List.set_cons_succ]
        refine wpAnyH_take (i := 7) (v := ?v206) rfl (by kernel_rfl) (by kernel_rfl) (by kernel_rfl) (fun _ _ _ h => h) (Or.inl ⟨by rfl, ?hy206⟩) (by assumption) ?rest206
        case hy206 => intro w hSw; (try dsimp only at hSw); go_simp; (try with_reducible rfl)
        try simp only [Act.put, List.getElem_toArray, List.getElem_cons_zero, List.getElem_cons_succ, List.setIfInBounds_toArray, List.set_cons_zero, List.set_cons_succ]
        refine wpAnyH_ready (rs := [8]) (by kernel_rfl) (by simp) ?_
        refine AllReadyH.cons rfl (fun K hK => ?_) AllReadyH.nil
        rw [if_pos (by rfl)]
        refine wp_store_mid 28 _ _ rfl (w.heap.size + 1) 0 #[.int .i64 0, .int .i64 0] rfl rfl (there_row HG10.out _ (Nat.le_refl _)) (by kernel_rfl) (fault_one _ _) ?_
        obtain ⟨hst, hfr⟩ := store_over (V := #[.int .i64 0, .int .i64 0]) HG10.out (by rfl)
        have HG11 := hideIt hst
        have HFr11 := hideIt ((HFr10.out.mono (S' := fun k => k = w.heap.size ∨ k = w.heap.size + 1) (fun _ e => Or.inl e)).trans hfr (fun _ _ e => Or.inr e))
        have HA11 := hideIt ((hfr.block w.heap.size (Array.getElem?_eq_some_iff.1 HA10.out).1 (by omega)).trans HA10.out)
        clear hst hfr
        generalize hW11 : World.setCells _ (w.heap.size + 1) 0 _ = W11 at *
        clear hW11
        refine hK.out _ _ ?_ (fun hHeld => ?_)
        · exact HJ8.out.keep (HFr11.out.block w2.heap.size HJ8.out.lt (by omega))
        clear hK K
        try simp only [Act.put, List.getElem_toArray, List.getElem_cons_zero, List.getElem_cons_succ, List.setIfInBounds_toArray, List.set_cons_zero, List.set_cons_succ]
        refine wpAnyH_done (by kernel_rfl) ?_ _
        go_wp2_with fail
        have hA0 := cellOfHeap HA11.out 0 rfl
        have hA1 := cellOfHeap HA11.out 1 rfl
        have hA2 := cellOfHeap HA11.out 2 rfl
        have hA3 := cellOfHeap HA11.out 3 rfl
        have hA4 := cellOfHeap HA11.out 4 rfl
        have hA5 := cellOfHeap HA11.out 5 rfl
        have hF0 := cellOfHeap HG11.out 0 rfl
        have hF1 := cellOfHeap HG11.out 1 rfl
        refine bodyPost_ret (v := readV (i, (a : Int) + sp, 0, 0)) (by simp [results, Try.results52, go_sem, readV, icells, zeroI, hA0, hA1, hA2, hA3, hA4, hA5, hF0, hF1]) rfl ⟨by rw [HE.out], ?_⟩
        exact HFRw.out.trans HFr11.out (fun k hk e => by omega)
      · have HE := hideIt (show readR bs a = (zeroI, 0, se, (a : Int) + sa) by unfold readR; rw [if_neg (by omega), Int.toNat_natCast, HCS.out, HX.out]; exact if_neg hz)
        go_wp2_with fail
        refine wp_region_held_drew (S := fun w0 => w0.cell? ⟨w7.heap.size, 0, none⟩ = some (.int .i64 se) ∧ w0.cell? ⟨w7.heap.size, 1, none⟩ = some (.int .i64 sa)) (by kernel_rfl) ?_ (fun hHeld => ?_)
        · exact HG8.out
        refine wpAnyH_take (i := 0) (v := ?v207) rfl (by kernel_rfl) (by kernel_rfl) (by kernel_rfl) (fun _ _ _ h => h) (Or.inl ⟨by rfl, ?hy207⟩) (by assumption) ?rest207
        case hy207 => intro w hSw; (try dsimp only at hSw); go_simp; (try with_reducible rfl)
        try simp only [Act.put, List.getElem_toArray, List.getElem_cons_zero, List.getElem_cons_succ, List.setIfInBounds_toArray, List.set_cons_zero, List.set_cons_succ]
        refine wpAnyH_take (i := 1) (v := ?v208) rfl (by kernel_rfl) (by kernel_rfl) (by kernel_rfl) (fun _ _ _ h => h) (Or.inl ⟨by rfl, ?hy208⟩) (by assumption) ?rest208
        case hy208 => intro w hSw; (try dsimp only at hSw); go_simp; (try with_reducible rfl)
        try simp only [Act.put, List.getElem_toArray, List.getElem_cons_zero, List.getElem_cons_succ, List.setIfInBounds_toArray, List.set_cons_zero, List.set_cons_succ]
        refine wpAnyH_take (i := 2) (v := ?v209) rfl (by kernel_rfl) (by kernel_rfl) (by kernel_rfl) (fun _ _ _ h => h) (Or.inl ⟨by rfl, ?hy209⟩) (by assumption) ?rest209
        case hy209 => intro w hSw; (try dsimp only at hSw); go_simp; (try with_reducible rfl)
        try simp only [Act.put, List.getElem_toArray, List.getElem_cons_zero, List.getElem_cons_succ, List.setIfInBounds_toArray, List.set_cons_zero, List.set_cons_succ]
        refine wpAnyH_take (i := 3) (v := ?v210) rfl (by kernel_rfl) (by kernel_rfl) (by kernel_rfl) (fun _ _ _ h => h) (Or.inl ⟨by rfl, ?hy210⟩) (by assumption) ?rest210
        case hy210 => intro w hSw; (try dsimp only at hSw); go_simp; (try with_reducible rfl)
        try simp only [Act.put, List.getElem_toArray, List.getElem_cons_zero, List.getElem_cons_succ, List.setIfInBounds_toArray, List.set_cons_zero, List.set_cons_succ]
        refine wpAnyH_take (i := 4) (v := ?v211) rfl (by kernel_rfl) (by kernel_rfl) (by kernel_rfl) (fun _ _ _ h => h) (Or.inl ⟨by rfl, ?hy211⟩) (by assumption) ?rest211
        case hy211 => intro w hSw; (try dsimp only at hSw); go_simp; (try with_reducible rfl)
        try simp only [Act.put, List.getElem_toArray, List.getElem_cons_zero, List.getElem_cons_succ, List.setIfInBounds_toArray, List.set_cons_zero, List.set_cons_succ]
        refine wpAnyH_take (i := 5) (v := ?v212) rfl (by kernel_rfl) (by kernel_rfl) (by kernel_rfl) (fun _ _ _ h => h) (Or.inl ⟨by rfl, ?hy212⟩) (by assumption) ?rest212
        case hy212 => intro w hSw; (try dsimp only at hSw); go_simp; (try with_reducible rfl)
        try simp only [Act.put, List.getElem_toArray, List.getElem_cons_zero, List.getElem_cons_succ, List.setIfInBounds_toArray, List.set_cons_zero, List.set_cons_succ]
        refine wpAnyH_take (i := 6) (v := ?v213) rfl (by kernel_rfl) (by kernel_rfl) (by kernel_rfl) (fun _ _ _ h => h) (Or.inl ⟨by rfl, ?hy213⟩) (by assumption) ?rest213
        case hy213 => intro w hSw; (try dsimp only at hSw); go_simp; (try with_reducible rfl)
        try simp only [Act.put, List.getElem_toArray, List.getElem_cons_zero, List.getElem_cons_succ, List.setIfInBounds_toArray, List.set_cons_zero, List.set_cons_succ]
        refine wpAnyH_take (i := 7) (v := ?v214) rfl (by kernel_rfl) (by kernel_rfl) (by kernel_rfl) (fun _ _ _ h => h) (Or.inl ⟨by rfl, ?hy214⟩) (by assumption) ?rest214
        case hy214 => intro w hSw; (try dsimp only at hSw); go_simp; (try with_reducible rfl)
        try simp only [Act.put, List.getElem_toArray, List.getElem_cons_zero, List.getElem_cons_succ, List.setIfInBounds_toArray, List.set_cons_zero, List.set_cons_succ]
        refine wpAnyH_ready (rs := [8]) (by kernel_rfl) (by simp) ?_
        refine AllReadyH.cons rfl (fun K hK => ?_) AllReadyH.nil
        rw [if_pos (by rfl)]
        refine wp_store_mid 40 _ _ rfl w.heap.size 0 (icells zeroI) rfl rfl (there_row HA8h.out _ (Nat.le_refl _)) (by kernel_rfl) (icells_one _) ?_
        obtain ⟨hst, hfr⟩ := store_over (V := (icells zeroI)) HA8h.out (by rfl)
        have HA10 := hideIt hst
        have HFr10 := hideIt hfr
        have HG10 := hideIt ((hfr.block (w.heap.size + 1) hFlt (by omega)).trans HF8h.out)
        clear hst hfr
        generalize hW10 : World.setCells _ w.heap.size 0 _ = W10 at *
        clear hW10
        refine hK.out _ _ ?_ (fun hHeld => ?_)
        · exact HG9.out _ ((HFr10.out.block w7.heap.size (by simp) hGA).trans (heap_new rfl))
        clear hK K
        try simp only [Act.put, List.getElem_toArray, List.getElem_cons_zero, List.getElem_cons_succ, List.setIfInBounds_toArray, List.set_cons_zero, List.set_cons_succ]
        refine wpAnyH_take (i := 9) (v := ?v215) rfl (by kernel_rfl) (by kernel_rfl) (by kernel_rfl) (fun _ _ _ h => h) (Or.inl ⟨by rfl, ?hy215⟩) (by assumption) ?rest215
        case hy215 => intro w hSw; (try dsimp only at hSw); go_simp; (try with_reducible rfl)
        try simp only [Act.put, List.getElem_toArray, List.getElem_cons_zero, List.getElem_cons_succ, List.setIfInBounds_toArray, List.set_cons_zero, List.set_cons_succ]
        refine wpAnyH_ready (rs := [10]) (by kernel_rfl) (by simp) ?_
        refine AllReadyH.cons rfl (fun K hK => ?_) AllReadyH.nil
        rw [if_pos (by rfl)]
        refine wp_store_mid 28 _ _ rfl (w.heap.size + 1) 0 #[.int .i64 se, .int .i64 ((a : Int) + sa)] rfl rfl (there_row HG10.out _ (Nat.le_refl _)) (by kernel_rfl) (fault_one _ _) ?_
        obtain ⟨hst, hfr⟩ := store_over (V := #[.int .i64 se, .int .i64 ((a : Int) + sa)]) HG10.out (by rfl)
        have HG11 := hideIt hst
        have HFr11 := hideIt ((HFr10.out.mono (S' := fun k => k = w.heap.size ∨ k = w.heap.size + 1) (fun _ e => Or.inl e)).trans hfr (fun _ _ e => Or.inr e))
        have HA11 := hideIt ((hfr.block w.heap.size (Array.getElem?_eq_some_iff.1 HA10.out).1 (by omega)).trans HA10.out)
        clear hst hfr
        generalize hW11 : World.setCells _ (w.heap.size + 1) 0 _ = W11 at *
        clear hW11
        refine hK.out _ _ ?_ (fun hHeld => ?_)
        · exact HG9.out _ ((HFr11.out.block w7.heap.size (by simp) (by omega)).trans (heap_new rfl))
        clear hK K
        try simp only [Act.put, List.getElem_toArray, List.getElem_cons_zero, List.getElem_cons_succ, List.setIfInBounds_toArray, List.set_cons_zero, List.set_cons_succ]
        refine wpAnyH_done (by kernel_rfl) ?_ _
        go_wp2_with fail
        have hA0 := cellOfHeap HA11.out 0 rfl
        have hA1 := cellOfHeap HA11.out 1 rfl
        have hA2 := cellOfHeap HA11.out 2 rfl
        have hA3 := cellOfHeap HA11.out 3 rfl
        have hA4 := cellOfHeap HA11.out 4 rfl
        have hA5 := cellOfHeap HA11.out 5 rfl
        have hF0 := cellOfHeap HG11.out 0 rfl
        have hF1 := cellOfHeap HG11.out 1 rfl
        refine bodyPost_ret (v := readV (zeroI, 0, se, (a : Int) + sa)) (by simp [results, Try.results52, go_sem, readV, icells, zeroI, hA0, hA1, hA2, hA3, hA4, hA5, hF0, hF1]) rfl ⟨by rw [HE.out], ?_⟩
        exact HFRw.out.trans HFr11.out (fun k hk e => by omega)

end Go.Proofs.Ytojgikaoiegmpaa

/- Code: Read; what the chapter's examples say (is, fails). -/
namespace Go.Proofs.Ytojgikaoiegmpaa
open Go.RowKit Go.IntWalk Go.Lib
set_option linter.unusedSimpArgs false
set_option linter.unusedVariables false
set_option maxRecDepth 100000

theorem read_any (ao : Option Addr) (cap : Nat) (bs : List UInt8) (at_ : Int) (w : World) (h : BsAt w ao bs) (hcap0 : ao = none → cap = 0) (hcl : bs.length ≤ cap) (hb : bs.length ≤ 140737488355328) :
    Calls Try.prog 52 #[.slice ao bs.length cap, .int .i64 at_] w fun e w' => e = .returned (readV (readR bs at_)) ∧ Fr (fun _ => False) w w' := by
  by_cases hx : at_ < 0 ∨ (bs.length : Int) < at_
  · exact read_out ao cap bs at_ w hx
  · obtain ⟨a, rfl⟩ : ∃ a : Nat, at_ = a := ⟨at_.toNat, by omega⟩
    have hale : a ≤ bs.length := by omega
    by_cases h1 : cap = a
    · exact read_in1 ao cap bs a w h hcap0 hcl hb hale h1
    by_cases h2 : (bs.length : Int) ≤ (a : Int) + 67
    · exact read_in2 ao cap bs a w h hcap0 hcl hb hale h1 h2
    · exact read_in3 ao cap bs a w h hcap0 hcl hb hale h1 (by omega)

theorem bs_new (u : World) (bs : List UInt8) (C : Array Value) (hC : (bv bs).toArray = C) (hl : bs.length ≤ 100) : BsAt (u.alloc (.cells C 5)) (some ⟨u.heap.size, 0, none⟩) bs := by
  subst hC
  refine Full.bs (cap := bs.length) (Or.inr ⟨u.heap.size, [], rfl, by rw [List.append_nil]; exact heap_new rfl, by simp, ?_⟩)
  unfold maxLen
  omega

theorem zI : icells zeroI = #[.int .i64 0, .int .i64 0, .int .i64 0, .int .i64 0, .int .i64 0, .string ⟨#[]⟩] := rfl

theorem read_new (bs : List UInt8) (C : Array Value) (n : Nat) (at_ : Int) (v : Value) (hC : (bv bs).toArray = C) (hn : bs.length = n) (hr : readV (readR bs at_) = v) (hl : n ≤ 100) (u : World) (k : Nat) (hk : k = u.heap.size) :
    Calls Try.prog 52 #[.slice (some ⟨k, 0, none⟩) n n, .int .i64 at_] (u.alloc (.cells C 5)) fun e w' => e = .returned v ∧ Fr (fun _ => False) (u.alloc (.cells C 5)) w' := by
  subst hn hr hk
  exact read_any (some ⟨u.heap.size, 0, none⟩) bs.length bs at_ _ (bs_new u bs C hC hl) (fun e => by cases e) (Nat.le_refl _) (by omega)

end Go.Proofs.Ytojgikaoiegmpaa

/- Package prog: places.read, walked. -/
namespace Go.Proofs.Ytojgikaoiegmpaa
open Go.RowKit Go.IntWalk
set_option linter.unusedSimpArgs false
set_option linter.unusedVariables false
set_option maxRecDepth 100000

/-- Where instruction k begins, and what is read there: one behind the other, from a place on. -/
def rdAt (bs : List UInt8) (a : Int) : Nat → Int
  | 0 => a
  | k + 1 => (readR bs (rdAt bs a k)).2.1
def rdR (bs : List UInt8) (a : Int) (k : Nat) : Ins × Int × Int × Int := readR bs (rdAt bs a k)

/-- So many places are laid. -/
def PlcF (w : World) (p : Nat) (f : Nat → Int) (k : Nat) : Prop := ∃ A : Array Value, w.heap[p]? = some (.cells A 54 (0, 0)) ∧ A.size = 61 ∧ ∀ t, t ≤ k → A[t]? = some (.int .i64 (f t))
theorem PlcF.cell {w : World} {p : Nat} {f : Nat → Int} {k : Nat} (h : PlcF w p f k) (t : Nat) (ht : t ≤ k) : w.cell? ⟨p, t, none⟩ = some (.int .i64 (f t)) := by
  obtain ⟨A, h1, _, h3⟩ := h
  rw [cell_of_row w p t _ _ _ h1]
  exact h3 t ht
theorem PlcF.there {w : World} {p : Nat} {f : Nat → Int} {k : Nat} (h : PlcF w p f k) (t : Nat) (ht : t < 61) : (∃ v, w.cell? ⟨p, t, none⟩ = some v) ∧ w.frozen? ⟨p, t, none⟩ = false := by
  obtain ⟨A, h1, h2, h3⟩ := h
  refine ⟨⟨A[t]'(by omega), ?_⟩, frozen_of_row w p t _ _ h1⟩
  rw [cell_of_row w p t _ _ _ h1, Array.getElem?_eq_getElem]
theorem PlcF.step {w : World} {p : Nat} {f : Nat → Int} {k : Nat} (h : PlcF w p f k) (hk : k < 60) (v : Int) (hv : f (k + 1) = v) : PlcF (w.setCell ⟨p, k + 1, none⟩ (.int .i64 v)) p f (k + 1) := by
  subst hv
  obtain ⟨A, h1, h2, h3⟩ := h
  refine ⟨_, heap_setCell_same w p (k + 1) _ _ _ h1, by simpa using h2, fun t ht => ?_⟩
  by_cases e : t = k + 1
  · subst e
    rw [Array.getElem?_setIfInBounds]
    simp [h2]
    omega
  · rw [Array.getElem?_setIfInBounds, if_neg (Ne.symm e)]
    exact h3 t (by omega)
theorem PlcF.fr {S : Nat → Prop} {w w' : World} {p : Nat} {f : Nat → Int} {k : Nat} (h : PlcF w p f k) (hF : Fr S w w') (hS : ¬ S p) : PlcF w' p f k := by
  obtain ⟨A, h1, h2, h3⟩ := h
  exact ⟨A, (hF.block p (Array.getElem?_eq_some_iff.1 h1).1 hS).trans h1, h2, h3⟩

/-- The first instructions of a new row are laid. -/
def InsPre (w : World) (q n : Nat) (f : Nat → Ins) (k : Nat) : Prop := ∃ A : Array Value, w.heap[q]? = some (.cells A 40 (0, 0)) ∧ A.size = n * 6 ∧ ∀ t, t < k → ∀ (j : Nat) (v : Value), (icells (f t)).toList[j]? = some v → A[t * 6 + j]? = some v
theorem InsPre.fr {S : Nat → Prop} {w w' : World} {q n : Nat} {f : Nat → Ins} {k : Nat} (h : InsPre w q n f k) (hF : Fr S w w') (hS : ¬ S q) : InsPre w' q n f k := by
  obtain ⟨A, h1, h2, h3⟩ := h
  exact ⟨A, (hF.block q (Array.getElem?_eq_some_iff.1 h1).1 hS).trans h1, h2, h3⟩
theorem InsPre.there {w : World} {q n : Nat} {f : Nat → Ins} {k : Nat} (h : InsPre w q n f k) (t : Nat) (ht : t < n) : w.there q (t * 6) 6 := by
  obtain ⟨A, h1, h2, h3⟩ := h
  intro j hj
  rw [cell_of_row w q (t * 6 + j) _ _ _ h1]
  exact ⟨by simp; omega, frozen_of_row w q _ _ _ h1⟩
theorem ic6 (i : Ins) : (icells i).toList.length = 6 := rfl
theorem InsPre.step {w : World} {q n : Nat} {f : Nat → Ins} {k : Nat} (h : InsPre w q n f k) (hk : k < n) (V : List Value) (hV : (icells (f k)).toList = V) : InsPre (w.setCells q (k * 6) V) q n f (k + 1) := by
  obtain ⟨A, h1, h2, h3⟩ := h
  have h6 : V.length = 6 := by rw [← hV]; exact ic6 _
  obtain ⟨A', e1, e2⟩ := setCells_heap q 40 V (k * 6) w A h1 (by omega)
  have hl : (A.toList.take (k * 6)).length = k * 6 := by simp; omega
  refine ⟨A', e1, ?_, fun t ht j v hv => ?_⟩
  · have := congrArg List.length e2
    simp at this
    omega
  · have hj : j < 6 := by have := (List.getElem?_eq_some_iff.1 hv).1; rw [ic6] at this; exact this
    rw [← Array.getElem?_toList, e2, List.append_assoc]
    by_cases e : t = k
    · subst e
      rw [hV] at hv
      rw [List.getElem?_append_right (by omega), hl, List.getElem?_append_left (by omega), show t * 6 + j - t * 6 = j by omega]
      exact hv
    · have hlt : t < k := by omega
      have hlt6 : t * 6 + j < k * 6 := by omega
      rw [List.getElem?_append_left (by omega), List.getElem?_take_of_lt hlt6, Array.getElem?_toList]
      exact h3 t hlt j v hv
theorem InsPre.row {w : World} {q n : Nat} {f : Nat → Ins} (h : InsPre w q n f n) : InsRow w (some ⟨q, 0, none⟩) ((List.range n).map f) := by
  obtain ⟨A, h1, h2, h3⟩ := h
  refine Or.inr ⟨q, 0, rfl, (Array.getElem?_eq_some_iff.1 h1).1, fun j hj t v hv => ?_⟩
  have hj' : j < n := by simpa using hj
  rw [Nat.zero_add, cell_of_row w q (j * 6 + t) _ _ _ h1]
  rw [List.getElem_map, List.getElem_range] at hv
  exact h3 j hj' t v hv

/-- What read answers. -/
def GReadP (p q n : Nat) (bs : List UInt8) (a : Int) (w : World) (e : Ending) (w' : World) : Prop :=
  Fr (fun i => i = p ∨ i = q) w w' ∧ ((∃ k : Nat, k < n ∧ (∀ t, t < k → (rdR bs a t).2.2.1 = 0) ∧ (rdR bs a k).2.2.1 ≠ 0 ∧ e = .returned (.tuple #[.slice none 0 0, .agg #[.int .i64 (rdR bs a k).2.2.1, .int .i64 (rdR bs a k).2.2.2]])) ∨
    ((∀ t, t < n → (rdR bs a t).2.2.1 = 0) ∧ e = .returned (.tuple #[.slice (some ⟨p, 0, none⟩) (n + 1) 61, .agg #[.int .i64 0, .int .i64 0]]) ∧ PlcF w' p (rdAt bs a) n ∧ InsPre w' q n (fun t => (rdR bs a t).1) n))

set_option maxRecDepth 100000 in
set_option maxHeartbeats 4000000 in
theorem gread_any (p q n : Nat) (hn : n ≤ 60) (hpq : p ≠ q) (bo : Option Addr) (cb : Nat) (bs : List UInt8) (a : Int) (w : World) (A Z : Array Value) (hA : w.heap[p]? = some (.cells A 54 (0, 0))) (hA2 : A.size = 61) (hZ : w.heap[q]? = some (.cells Z 40 (0, 0))) (hZ2 : Z.size = n * 6)
    (hB : BsAt w bo bs) (hb1 : ∀ k, blk bo k → ¬ (k = p ∨ k = q)) (hcap0 : bo = none → cb = 0) (hcl : bs.length ≤ cb) (hbl : bs.length ≤ 140737488355328) :
    Calls Try.prog 27 #[.pointer (some ⟨p, 0, none⟩), .slice (some ⟨q, 0, none⟩) n n, .slice bo bs.length cb, .int .i64 a] w (GReadP p q n bs a w) := by
  have HRD := hideIt (fun (W : World) (at_ : Int) (hF : Fr (fun i => i = p ∨ i = q) w W) => read_any bo cb bs at_ W (hB.fr hF (fun k _ hk => hb1 k hk)) hcap0 hcl hbl)
  have hpl := (Array.getElem?_eq_some_iff.1 hA).1
  have hql := (Array.getElem?_eq_some_iff.1 hZ).1
  obtain ⟨r, hr⟩ : ∃ r, w.heap.size = r := ⟨_, rfl⟩
  have hW0 : (w.alloc (.cells #[.int .i64 0, .int .i64 0] 28)).heap[r]? = some (.cells #[.int .i64 0, .int .i64 0] 28 (0, 0)) := by rw [← hr]; exact heap_alloc_new w _
  obtain ⟨w0, hw0⟩ : ∃ w0, w.alloc (.cells #[.int .i64 0, .int .i64 0] 28) = w0 := ⟨_, rfl⟩
  rw [hw0] at hW0
  have hF0 : Fr (fun i => i = p ∨ i = q) w w0 := by rw [← hw0]; exact (Fr.refl _ w).alloc _
  have HF0a := hideIt (hF0.setCell (p := ⟨p, 0, none⟩) (fun _ => Or.inl rfl) (.int .i64 a))
  have hA0 : w0.heap[p]? = some (.cells A 54 (0, 0)) := by rw [← hw0]; exact heap_old hA
  have hZ0 : w0.heap[q]? = some (.cells Z 40 (0, 0)) := by rw [← hw0]; exact heap_old hZ
  have HP0 := hideIt (show PlcF (w0.setCell ⟨p, 0, none⟩ (.int .i64 a)) p (rdAt bs a) 0 from ⟨_, heap_setCell_same w0 p 0 _ _ _ hA0, by simpa using hA2, fun t ht => by
    obtain rfl : t = 0 := by omega
    rw [Array.getElem?_setIfInBounds]
    simp [hA2, rdAt]⟩)
  have HI0 := hideIt (show InsPre (w0.setCell ⟨p, 0, none⟩ (.int .i64 a)) q n (fun t => (rdR bs a t).1) 0 from ⟨Z, (heap_setCell_other w0 _ _ _ (fun e => hpq e.symm)).trans hZ0, hZ2, fun t ht => absurd ht (by omega)⟩)
  have HX0 := hideIt (show (w0.setCell ⟨p, 0, none⟩ (.int .i64 a)).heap[r]? = some (.cells #[.int .i64 0, .int .i64 0] 28 (0, 0)) from (heap_setCell_other w0 _ _ _ (fun e => by simp only at e; omega)).trans hW0)
  have c0 : ∃ v, w0.cell? ⟨p, 0, none⟩ = some v := ⟨A[0]'(by omega), by rw [cell_of_row w0 p 0 _ _ _ hA0, Array.getElem?_eq_getElem]⟩
  obtain ⟨v0, c0⟩ := c0
  have f0 := frozen_of_row w0 p 0 _ _ hA0
  have HN := hideIt hn
  have HPQ := hideIt (show p ≠ q ∧ p < r ∧ q < r by omega)
  have hw1 : IntKind.i64.wrap ((n : Int) + 1) = (n : Int) + 1 := by rw [IntKind.wrap_i64]; omega
  have hb2 : (0 : Int) ≤ (n : Int) + 1 := by omega
  have hb3 : (n : Int) + 1 ≤ 61 := by omega
  have hb4 : ((n : Int) + 1).toNat = n + 1 := by omega
  clear hB hb1 hA hZ hA2 hZ2 hpl hql hF0 hA0 hZ0 hW0 hcap0 hcl hbl
  subst hw0 hr
  go_enter Try.func27, Try.ntmps27
  go_wp2_with fail
  clear c0 f0 hw1 hb2 hb3 hb4
  go_loopw [26] (fun s26 wr => ∃ k : Nat, s26 = .int .i64 k ∧ k ≤ n ∧ Hid (PlcF wr p (rdAt bs a) k) ∧ Hid (InsPre wr q n (fun t => (rdR bs a t).1) k) ∧ Hid (wr.heap[w.heap.size]? = some (.cells #[.int .i64 0, .int .i64 0] 28 (0, 0))) ∧ Hid (∀ t, t < k → (rdR bs a t).2.2.1 = 0) ∧ Hid (Fr (fun i => i = p ∨ i = q) w wr)) (fun s26 _ => n - (intOf s26).toNat)
  case atStart => exact ⟨0, rfl, by omega, HP0, HI0, HX0, hideIt (fun t ht => absurd ht (by omega)), HF0a⟩
  case round =>
    clear HP0 HI0 HX0 HF0a
    obtain ⟨k, rfl, hk, HP, HI, HX, HE, HF⟩ := hrel
    by_cases hlt : k < n
    · have h1 : (k : Int) < (n : Int) := by omega
      have hck := HP.out.cell k (Nat.le_refl _)
      have HR := hideIt (HRD.out wr (rdAt bs a k) HF.out)
      obtain ⟨y, hy⟩ : ∃ y, readR bs (rdAt bs a k) = y := ⟨_, rfl⟩
      have HY := hideIt (show rdR bs a k = y from hy)
      have HYA := hideIt (show rdAt bs a (k + 1) = y.2.1 from congrArg (·.2.1) hy)
      rw [hy] at HR
      clear hy
      obtain ⟨⟨op, x1, x2, x3, x4, sx⟩, m, er, ea⟩ := y
      unfold readV icells at HR
      dsimp only at HR HYA
      have hrl := (Array.getElem?_eq_some_iff.1 HX.out).1
      have hw1 : IntKind.i64.wrap ((k : Int) + 1) = (k : Int) + 1 := by rw [IntKind.wrap_i64]; omega
      have n1 : (0 : Int) ≤ (k : Int) + 1 := by omega
      have n2 : (k : Int) + 1 < (n : Int) + 1 := by omega
      have n2b : (k : Int) < (n : Int) + 1 := by omega
      have n3 : ((k : Int) + 1).toNat = k + 1 := by omega
      generalize rdAt bs a k = ak at *
      go_wp2_with fail
      refine Calls.mono HR.out ?_
      rintro e w2 ⟨rfl, hF2⟩
      have HF2 := hideIt hF2
      clear hF2 HR hck
      by_cases her : er = 0
      · subst her
        have HFX := hideIt ((HF.out.trans HF2.out (fun _ _ e => e.elim)).alloc (.cells #[.int .i64 op, .int .i64 x1, .int .i64 x2, .int .i64 x3, .int .i64 x4, .string sx] 40) |>.alloc (.cells #[.int .i64 0, .int .i64 ea] 28))
        have HD := hideIt (show Fr (fun _ => False) wr ((w2.alloc (.cells #[.int .i64 op, .int .i64 x1, .int .i64 x2, .int .i64 x3, .int .i64 x4, .string sx] 40)).alloc (.cells #[.int .i64 0, .int .i64 ea] 28)) from (HF2.out.alloc _).alloc _)
        have HI2 := hideIt (HI.out.fr HD.out (fun e => e))
        have HP2 := hideIt (HP.out.fr HD.out (fun e => e))
        have HX2 := hideIt ((HD.out.block w.heap.size hrl (fun e => e)).trans HX.out)
        have HT := hideIt (HI2.out.there k hlt)
        have HV := hideIt (congrArg (fun y => (icells y.1).toList) HY.out)
        have HEE := hideIt (congrArg (fun y => y.2.2.1) HY.out)
        unfold icells at HV
        dsimp only at HV HEE
        have HST := hideIt (fun W (e : W = ((w2.alloc (.cells #[.int .i64 op, .int .i64 x1, .int .i64 x2, .int .i64 x3, .int .i64 x4, .string sx] 40)).alloc (.cells #[.int .i64 0, .int .i64 ea] 28)).setCells q (k * 6) (#[Value.int .i64 op, .int .i64 x1, .int .i64 x2, .int .i64 x3, .int .i64 x4, .string sx]).toList) => show InsPre W q n (fun t => (rdR bs a t).1) (k + 1) ∧ Fr (fun i => i = q) ((w2.alloc (.cells #[.int .i64 op, .int .i64 x1, .int .i64 x2, .int .i64 x3, .int .i64 x4, .string sx] 40)).alloc (.cells #[.int .i64 0, .int .i64 ea] 28)) W by
          subst e
          exact ⟨HI2.out.step hlt _ HV.out, Fr.setCells _ _ _ _⟩)
        clear HD hrl
        go_wp2_with (first | (refine store_absG rfl 40 (.tmp 50) (.tmp 48) rfl q (k * 6) #[.int .i64 op, .int .i64 x1, .int .i64 x2, .int .i64 x3, .int .i64 x4, .string sx] rfl rfl HT.out (by kernel_rfl) (by simp [Value.oneCell']) ?_; intro W hW; obtain ⟨hI3, hF3⟩ := HST.out W hW; have HI3 := hideIt hI3; have HF3 := hideIt hF3; have HP3 := hideIt (HP2.out.fr hF3 HPQ.out.1); obtain ⟨⟨u, hu⟩, hfz⟩ := HP3.out.there (k + 1) (by have := HN.out; omega); clear hI3 hF3 hW HST))
        have HP4 := hideIt (HP3.out.step (by have := HN.out; omega) m HYA.out)
        have HF4 := hideIt ((HFX.out.trans HF3.out (fun _ _ e => Or.inr e)).setCell (p := ⟨p, k + 1, none⟩) (fun _ => Or.inl rfl) (.int .i64 m))
        have HI4 := hideIt (HI3.out.fr ((Fr.refl (fun i => i = p) W).setCell (p := ⟨p, k + 1, none⟩) (fun _ => rfl) (.int .i64 m)) (fun e => HPQ.out.1 e.symm))
        have HX4 := hideIt ((show (W.setCell ⟨p, k + 1, none⟩ (.int .i64 m)).heap[w.heap.size]? = W.heap[w.heap.size]? from heap_setCell_other W _ _ _ (by have := HPQ.out; show w.heap.size ≠ p; omega)).trans ((HF3.out.block w.heap.size (Array.getElem?_eq_some_iff.1 HX2.out).1 (by have := HPQ.out; omega)).trans HX2.out))
        clear hu hfz
        go_wp2_with fail
        go_roundw
        case measure => simp [intOf]; omega
        case rel => exact ⟨k + 1, by go_num, by omega, HP4, HI4, HX4, hideIt (fun t ht => by
          by_cases e : t = k
          · subst e; exact HEE.out
          · exact HE.out t (by omega)), HF4⟩
      · have hne : (er == 0) = false := by simpa using her
        have hX2 := (HF2.out.block w.heap.size hrl (fun e => e)).trans HX.out
        have hq0 := cellOfHeap hX2 0 rfl
        have hq1 := cellOfHeap hX2 1 rfl
        have g0 := frozen_of_row w2 w.heap.size 0 _ _ hX2
        have g1 := frozen_of_row w2 w.heap.size 1 _ _ hX2
        have hlt2 := (Array.getElem?_eq_some_iff.1 hX2).1
        have HX2 := hideIt hX2
        clear hX2
        go_wp2_with fail
        have c0 : ((w2.alloc (.cells #[.int .i64 op, .int .i64 x1, .int .i64 x2, .int .i64 x3, .int .i64 x4, .string sx] 40)).alloc (.cells #[.int .i64 er, .int .i64 ea] 28)).cell? ⟨w2.heap.size + 1, 0, none⟩ = some (.int .i64 er) := cellOfHeap (heap_new (by simp)) 0 rfl
        go_region
        go_wp2_with fail
        have HB2 := hideIt hlt2
        have HFZ := hideIt (((((HF.out.trans HF2.out (fun _ _ e => e.elim)).trans (((Fr.refl (fun i => i = w.heap.size) _).setCell (p := ⟨w.heap.size, 0, none⟩) (fun _ => rfl) (.int .i64 er)).setCell (p := ⟨w.heap.size, 1, none⟩) (fun _ => rfl) (.int .i64 ea)) (fun i hi e => absurd hi (by omega))).alloc (.cells #[.int .i64 op, .int .i64 x1, .int .i64 x2, .int .i64 x3, .int .i64 x4, .string sx] 40)).alloc (.cells #[.int .i64 er, .int .i64 ea] 28)).drew)
        have hb1 := heap_setCell_same w2 w.heap.size 0 _ _ (.int .i64 er) HX2.out
        have hb2 := heap_setCell_same _ w.heap.size 1 _ _ (.int .i64 ea) hb1
        have hb3 : ((((w2.setCell ⟨w.heap.size, 0, none⟩ (.int .i64 er)).setCell ⟨w.heap.size, 1, none⟩ (.int .i64 ea)).alloc (.cells #[.int .i64 op, .int .i64 x1, .int .i64 x2, .int .i64 x3, .int .i64 x4, .string sx] 40)).alloc (.cells #[.int .i64 er, .int .i64 ea] 28)).heap[w.heap.size]? = _ := heap_old (heap_old hb2)
        have p0 := cellOfHeap hb3 0 rfl
        have p1 := cellOfHeap hb3 1 rfl
        clear hb1 hb2 hb3 hq0 hq1 g0 g1
        refine bodyPost_ret (v := .tuple #[.slice none 0 0, .agg #[.int .i64 er, .int .i64 ea]]) (by simp [results, Try.results27, go_sem, p0, p1]) rfl ?_
        refine ⟨HFZ.out, Or.inl ⟨k, hlt, HE.out, ?_, ?_⟩⟩
        · rw [HY.out]; exact her
        · rw [HY.out]
    · have hje : k = n := by omega
      have hjn : ¬ (k : Int) < (n : Int) := by omega
      subst hje
      have hq0 := cellOfHeap HX.out 0 rfl
      have hq1 := cellOfHeap HX.out 1 rfl
      have g0 := frozen_of_row wr w.heap.size 0 _ _ HX.out
      have g1 := frozen_of_row wr w.heap.size 1 _ _ HX.out
      have HXr := hideIt HX.out
      go_wp2_with fail
      refine bodyPost_ret (v := .tuple #[.slice (some ⟨p, 0, none⟩) (k + 1) 61, .agg #[.int .i64 0, .int .i64 0]]) (by simp [results, Try.results27, go_sem, hq0, hq1]) rfl ?_
      have HFW := hideIt (((Fr.refl (fun i => i = w.heap.size) wr).setCell (p := ⟨w.heap.size, 0, none⟩) (fun _ => rfl) (.int .i64 0)).setCell (p := ⟨w.heap.size, 1, none⟩) (fun _ => rfl) (.int .i64 0))
      exact ⟨HF.out.trans HFW.out (fun i hi e => absurd hi (by omega)), Or.inr ⟨HE.out, rfl, HP.out.fr HFW.out (fun e => by have := HPQ.out; omega), HI.out.fr HFW.out (fun e => by have := HPQ.out; omega)⟩⟩

end Go.Proofs.Ytojgikaoiegmpaa

/- Package prog: Read, walked. -/
namespace Go.Proofs.Ytojgikaoiegmpaa
open Go.RowKit Go.IntWalk
set_option linter.unusedSimpArgs false
set_option linter.unusedVariables false
set_option maxRecDepth 100000

/-- It passes over more than stand behind it, as a bool. -/
def beyb (l : List Ins) (j : Nat) : Bool := match l[j]? with | some i => decide ((l.length : Int) - 1 - j < passI i) | none => false
theorem beyb_iff (l : List Ins) (j : Nat) : beyb l j = true ↔ beyB l j := by
  unfold beyb beyB
  cases h : l[j]? with
  | none =>
    have := List.getElem?_eq_none_iff.1 h
    simp
    omega
  | some i =>
    obtain ⟨hj, e⟩ := List.getElem?_eq_some_iff.1 h
    simp [hj, e]
/-- The instructions that are read. -/
def rdL (bs : List UInt8) (a : Int) (n : Nat) : List Ins := (List.range n).map fun t => (rdR bs a t).1
theorem rdL_len (bs : List UInt8) (a : Int) (n : Nat) : (rdL bs a n).length = n := by simp [rdL]
theorem rdL_get (bs : List UInt8) (a : Int) (n t : Nat) (h : t < (rdL bs a n).length) : (rdL bs a n)[t] = (rdR bs a t).1 := by simp [rdL]
/-- What Read tells: the transaction, the fault. -/
def readN (bs : List UInt8) (n : Nat) (a : Int) : List Ins × Int × Int :=
  match (List.range n).find? (fun k => (rdR bs a k).2.2.1 != 0) with
  | some k => ([], (rdR bs a k).2.2.1, (rdR bs a k).2.2.2)
  | none => if rdAt bs a n < (bs.length : Int) then ([], 4, rdAt bs a n)
    else match (List.range n).find? (fun k => beyb (rdL bs a n) k) with
      | some k => ([], 5, rdAt bs a k)
      | none => (rdL bs a n, 0, 0)
def readP (bs : List UInt8) : List Ins × Int × Int :=
  if 512 < bs.length then ([], 3, 512)
  else if (rCount bs 60 (0, 0, 0)).2.2.1 = 0 then readN bs (rCount bs 60 (0, 0, 0)).1.toNat (rCount bs 60 (0, 0, 0)).2.1
  else ([], (rCount bs 60 (0, 0, 0)).2.2.1, (rCount bs 60 (0, 0, 0)).2.2.2)

theorem find_first (p : Nat → Bool) (n j : Nat) (hj : j < n) (hp : p j = true) (h : ∀ t, t < j → p t = false) : (List.range n).find? p = some j := by
  rw [List.find?_range_eq_some]
  exact ⟨hp, by simpa using hj, fun t ht => by simp [h t ht]⟩
theorem find_none (p : Nat → Bool) (n : Nat) (h : ∀ t, t < n → p t = false) : (List.range n).find? p = none := by
  rw [List.find?_eq_none]
  intro x hx
  simp [h x (List.mem_range.1 hx)]
theorem rCount_rng (bs : List UInt8) (s : Nat × Int × Int) : ∃ n : Nat, (rCount bs 60 s).1 = n ∧ n ≤ 60 := by
  unfold rCount
  split
  · exact ⟨0, rfl, by omega⟩
  · split
    · exact ⟨0, rfl, by omega⟩
    · rename_i n m hx
      refine ⟨n, rfl, ?_⟩
      unfold rdNum at hx
      split at hx
      · cases hx
      · cases hx
      · cases hx
      · split at hx
        · cases hx
        · split at hx
          · cases hx
          · simp at hx
            omega

/-- A row of instructions that fills its room, or none. -/
def InsFull (w : World) (ao : Option Addr) (cap : Nat) (l : List Ins) : Prop := (ao = none ∧ l = [] ∧ cap = 0) ∨ ∃ (q : Nat) (A : Array Value), ao = some ⟨q, 0, none⟩ ∧ cap = l.length ∧ w.heap[q]? = some (.cells A 40 (0, 0)) ∧ A.size = l.length * 6 ∧ ∀ t (h : t < l.length) (j : Nat) (v : Value), (icells l[t]).toList[j]? = some v → A[t * 6 + j]? = some v
theorem InsFull.row {w : World} {ao : Option Addr} {cap : Nat} {l : List Ins} (h : InsFull w ao cap l) : InsRow w ao l := by
  rcases h with ⟨_, rfl, _⟩ | ⟨q, A, rfl, _, h1, _, h3⟩
  · exact Or.inl rfl
  · refine Or.inr ⟨q, 0, rfl, (Array.getElem?_eq_some_iff.1 h1).1, fun j hj t v hv => ?_⟩
    rw [Nat.zero_add, cell_of_row w q (j * 6 + t) _ _ _ h1]
    exact h3 j hj t v hv
theorem InsFull.fr {S : Nat → Prop} {w w' : World} {ao : Option Addr} {cap : Nat} {l : List Ins} (h : InsFull w ao cap l) (hF : Fr S w w') (hS : ∀ k, blk ao k → ¬ S k) : InsFull w' ao cap l := by
  rcases h with ⟨rfl, rfl, rfl⟩ | ⟨q, A, rfl, h0, h1, h2, h3⟩
  · exact Or.inl ⟨rfl, rfl, rfl⟩
  · exact Or.inr ⟨q, A, rfl, h0, (hF.block q (Array.getElem?_eq_some_iff.1 h1).1 (hS q ⟨_, rfl, rfl⟩)).trans h1, h2, h3⟩
theorem InsPre.full {w : World} {q n : Nat} {bs : List UInt8} {a : Int} (h : InsPre w q n (fun t => (rdR bs a t).1) n) : InsFull w (some ⟨q, 0, none⟩) n (rdL bs a n) := by
  obtain ⟨A, h1, h2, h3⟩ := h
  refine Or.inr ⟨q, A, rfl, (rdL_len bs a n).symm, h1, by rw [rdL_len]; exact h2, fun t ht j v hv => ?_⟩
  rw [rdL_len] at ht
  rw [rdL_get] at hv
  exact h3 t ht j v hv

/-- What Read answers. -/
def PReadP (r : List Ins × Int × Int) (w : World) (e : Ending) (w' : World) : Prop :=
  ∃ ao cap, e = .returned (.tuple #[.slice ao r.1.length cap, .agg #[.int .i64 r.2.1, .int .i64 r.2.2]]) ∧ InsFull w' ao cap r.1 ∧ Fr (fun _ => False) w w' ∧ ∀ k, blk ao k → w.heap.size ≤ k

theorem Try.infoIns : (Try.prog.info? 40).map (fun i => (i.zero, i.size, i.bytes)) = some (some (.agg #[.int .i64 0, .int .i64 0, .int .i64 0, .int .i64 0, .int .i64 0, .string ⟨#[]⟩]), 6, 56) := by kernel_rfl
theorem make_ins (n : Nat) (hn : n ≤ 60) (w : World) : (Instr.makeSlice 25 (.int .i64 (n : Int)) (.int .i64 (n : Int))).run Try.prog w = .ok (.slice (some ⟨w.heap.size, 0, none⟩) n n) (w.alloc (.cells (madeCells #[.int .i64 0, .int .i64 0, .int .i64 0, .int .i64 0, .int .i64 0, .string ⟨#[]⟩] (n * 6)) 40)) := by
  obtain ⟨i0, hi, hz0, hz1, hz2⟩ := info_parts Try.infoIns
  have := run_makeSlice (P := Try.prog) (w := w) 25 40 i0 _ Try.underlying25 hi hz0 .i64 .i64 (n : Int) (n : Int) (by omega) (Int.le_refl _) (by rw [hz1]; simp; omega) (by rw [hz2]; omega) (by omega)
  rw [hz1] at this
  simpa [Value.cells] using this

theorem set_two (w : World) (r : Nat) (x y : Int) (h : w.heap[r]? = some (.cells #[.int .i64 0, .int .i64 0] 28 (0, 0))) : ((w.setCell ⟨r, 0, none⟩ (.int .i64 x)).setCell ⟨r, 1, none⟩ (.int .i64 y)).heap[r]? = some (.cells #[.int .i64 x, .int .i64 y] 28 (0, 0)) ∧ Fr (fun i => i = r) w ((w.setCell ⟨r, 0, none⟩ (.int .i64 x)).setCell ⟨r, 1, none⟩ (.int .i64 y)) :=
  ⟨heap_setCell_same _ r 1 _ _ (.int .i64 y) (heap_setCell_same w r 0 _ _ (.int .i64 x) h), ((Fr.refl (fun i => i = r) _).setCell (p := ⟨r, 0, none⟩) (fun _ => rfl) (.int .i64 x)).setCell (p := ⟨r, 1, none⟩) (fun _ => rfl) (.int .i64 y)⟩

set_option maxRecDepth 100000 in
set_option maxHeartbeats 4000000 in
theorem gRead_any (ao : Option Addr) (cap : Nat) (bs : List UInt8) (w : World) (hB : BsAt w ao bs) (hcap0 : ao = none → cap = 0) (hcl : bs.length ≤ cap) (hnb : ∀ k, blk ao k → k < w.heap.size) :
    Calls Try.prog 8 #[.slice ao bs.length cap] w (PReadP (readP bs) w) := by
  by_cases h512 : 512 < bs.length
  · have hd : decide ((512 : Int) < (bs.length : Int)) = true := by simp; omega
    have hr : readP bs = ([], 3, 512) := by unfold readP; rw [if_pos h512]
    rw [hr]
    clear hr h512
    go_enter Try.func8, Try.ntmps8
    go_wp2_with fail
    refine bodyPost_ret (v := .tuple #[.slice none 0 0, .agg #[.int .i64 3, .int .i64 512]]) (by simp [results, Try.results8, go_sem]) rfl ?_
    exact ⟨none, 0, rfl, Or.inl ⟨rfl, rfl, rfl⟩, (Fr.refl _ _).alloc _, fun k hk => by obtain ⟨_, e, _⟩ := hk; cases e⟩
  · have hd : decide ((512 : Int) < (bs.length : Int)) = false := by simp; omega
    have hr : readP bs = if (rCount bs 60 (0, 0, 0)).2.2.1 = 0 then readN bs (rCount bs 60 (0, 0, 0)).1.toNat (rCount bs 60 (0, 0, 0)).2.1 else ([], (rCount bs 60 (0, 0, 0)).2.2.1, (rCount bs 60 (0, 0, 0)).2.2.2) := by unfold readP; rw [if_neg h512]
    rw [hr]
    clear hr
    have hl : bs.length ≤ 512 := by omega
    have HO := hideIt (fun W (hF : Fr (fun _ => False) w W) => open_any ao cap bs W (hB.fr hF (fun _ _ _ e => e)) hcap0 (by omega))
    have HGR := hideIt (fun (p q n : Nat) (hn : n ≤ 60) (hpq : p ≠ q) (a : Int) (W : World) (A Z : Array Value) (hA : W.heap[p]? = some (.cells A 54 (0, 0))) (hA2 : A.size = 61) (hZ : W.heap[q]? = some (.cells Z 40 (0, 0))) (hZ2 : Z.size = n * 6) (hF : Fr (fun _ => False) w W) (hp : w.heap.size ≤ p ∧ w.heap.size ≤ q) =>
      gread_any p q n hn hpq ao cap bs a W A Z hA hA2 hZ hZ2 (hB.fr hF (fun _ _ _ e => e)) (fun k hk e => by have := hnb k hk; omega) hcap0 hcl (by omega))
    have hzv := zeroPl
    obtain ⟨ZP, hZP⟩ : ∃ Z, (List.replicate 61 (Value.int .i64 0)).toArray = Z := ⟨_, rfl⟩
    have HZPs := hideIt (show ZP.size = 61 by rw [← hZP]; simp)
    rw [hZP] at hzv
    clear hZP
    have HF0 := hideIt (show Fr (fun _ => False) w (w.alloc (.cells #[.int .i64 0, .int .i64 0] 28)) from (Fr.refl _ _).alloc _)
    obtain ⟨n, hn1, hn2⟩ := rCount_rng bs (0, 0, 0)
    have HN := hideIt hn2
    have HC := hideIt (fun p t ao cap W (h : ROk W p t ao cap bs (0, 0, 0)) => rcount_any p t ao cap bs (0, 0, 0) 60 W h (by omega))
    generalize rCount bs 60 (0, 0, 0) = c at *
    obtain ⟨c1, at_, er, ea⟩ := c
    dsimp only at hn1 HC ⊢
    subst hn1
    rw [Int.toNat_natCast]
    obtain ⟨R, hR⟩ : ∃ R, (if er = 0 then readN bs n (at_ : Int) else ([], er, ea)) = R := ⟨_, rfl⟩
    rw [hR]
    have HR := hideIt hR
    clear hR
    have HL := hideIt hl
    have hmk := make_ins n HN.out
    obtain ⟨Z, hZ⟩ : ∃ Z, madeCells #[.int .i64 0, .int .i64 0, .int .i64 0, .int .i64 0, .int .i64 0, .string ⟨#[]⟩] (n * 6) = Z := ⟨_, rfl⟩
    have HZs := hideIt (show Z.size = n * 6 by rw [← hZ]; exact size_madeCells _ _)
    rw [hZ] at hmk
    clear hZ
    clear hB hcap0 hcl hnb h512 hl hn2
    go_enter Try.func8, Try.ntmps8
    go_wp2_with fail
    refine Calls.mono (HO.out _ HF0.out) ?_
    rintro e w1 ⟨p1, t1, ao1, cap1, rfl, hR1, hF1, hp1, ht1, hb1⟩
    have HF1 := hideIt (HF0.out.trans hF1 (fun _ _ e => e))
    have HF1r := hideIt hF1
    have HR1 := hideIt (show ROk w1 p1 t1 ao1 cap1 bs (0, 0, 0) from ⟨hR1, by simp⟩)
    have HT1 := hideIt ht1
    clear hR1 hF1 hp1 ht1 hb1 HO HF0
    go_wp2_with fail
    refine Calls.mono (HC.out p1 t1 ao1 cap1 w1 HR1.out) ?_
    rintro e w2 ⟨rfl, hR2, hF2⟩
    have HR2 := hideIt hR2
    have HF2 := hideIt (HF1.out.trans hF2 (fun i hi e => by have := HT1.out; simp at this; omega))
    have hX2 : w2.heap[w.heap.size]? = some (.cells #[.int .i64 0, .int .i64 0] 28 (0, 0)) := (hF2.block _ (by have := HF1r.out.size; simp at this; omega) (by have := HT1.out; simp at this; omega)).trans ((HF1r.out.block _ (by simp) (fun e => e)).trans (heap_new rfl))
    have HX2 := hideIt hX2
    clear hR2 hF2 hX2 HR1 HC HF1 HF1r
    have HF3 := hideIt (HF2.out.alloc (.cells Z 40))
    have HRF := hideIt (rfault_any p1 t1 ao1 cap1 bs (at_, er, ea) (w2.alloc (.cells Z 40)) ⟨HR2.out.1.fr ((Fr.refl (fun _ => False) w2).alloc _) (fun e => e) (fun _ _ e => e), HR2.out.2⟩)
    go_wp2_with fail
    refine Calls.mono HRF.out ?_
    rintro e w3 ⟨rfl, hF3⟩
    have HF3r := hideIt hF3
    have HF3 := hideIt (HF3.out.trans hF3 (fun _ _ e => e))
    have hX3 := (hF3.block w.heap.size (by have := (Array.getElem?_eq_some_iff.1 HX2.out).1; simp; omega) (fun e => e)).trans (heap_old HX2.out)
    have HX3 := hideIt hX3
    have hq0 := cellOfHeap hX3 0 rfl
    have hq1 := cellOfHeap hX3 1 rfl
    have g0 := frozen_of_row w3 w.heap.size 0 _ _ hX3
    have g1 := frozen_of_row w3 w.heap.size 1 _ _ hX3
    have hlt3 := (Array.getElem?_eq_some_iff.1 hX3).1
    have HS2 := hideIt (show w.heap.size < w2.heap.size from (Array.getElem?_eq_some_iff.1 HX2.out).1)
    clear hF3 hX3 HRF HX2
    by_cases her : er = 0
    · subst her
      have HRN := hideIt (show readN bs n (at_ : Int) = R from by rw [← HR.out]; rfl)
      clear HR
      have HZ3 := hideIt ((HF3r.out.block w2.heap.size (by simp) (fun e => e)).trans (heap_new rfl))
      have hlt32 := (Array.getElem?_eq_some_iff.1 HZ3.out).1
      have HF4r := hideIt (show Fr (fun _ => False) w3 ((w3.alloc (.cells #[.int .i64 0, .int .i64 ea] 28)).alloc (.cells ZP 54)) from ((Fr.refl _ w3).alloc _).alloc _)
      have HF4 := hideIt (HF3.out.trans HF4r.out (fun _ _ e => e))
      have HZ4 := hideIt ((HF4r.out.block w2.heap.size hlt32 (fun e => e)).trans HZ3.out)
      have HX4 := hideIt ((HF4r.out.block w.heap.size hlt3 (fun e => e)).trans HX3.out)
      have HA4 := hideIt (show ((w3.alloc (.cells #[.int .i64 0, .int .i64 ea] 28)).alloc (.cells ZP 54)).heap[w3.heap.size + 1]? = some (.cells ZP 54 (0, 0)) from heap_new (by simp))
      have HAT := hideIt (rat_any p1 t1 ao1 cap1 bs (at_, 0, ea) ((w3.alloc (.cells #[.int .i64 0, .int .i64 ea] 28)).alloc (.cells ZP 54)) ⟨HR2.out.1.fr (((Fr.refl (fun _ => False) w2).alloc (.cells Z 40)).trans (HF3r.out.trans HF4r.out (fun _ _ e => e)) (fun _ _ e => e)) (fun e => e) (fun _ _ e => e), HR2.out.2⟩)
      have HG := hideIt (HGR.out (w3.heap.size + 1) w2.heap.size n HN.out (by omega) (at_ : Int) _ ZP Z HA4.out HZPs.out HZ4.out HZs.out HF4.out ⟨by omega, Nat.le_of_lt HS2.out⟩)
      clear HGR HR2 HF3r HF4r HZ3 HZ4 HA4 hq0 hq1 g0 g1 HX3 HF3
      go_wp2_with fail
      refine Calls.mono HAT.out ?_
      rintro e w4 ⟨rfl, rfl⟩
      go_wp2_with fail
      refine Calls.mono HG.out ?_
      rintro e w5 ⟨hF5, hG⟩
      have hX5 := (hF5.block w.heap.size (Array.getElem?_eq_some_iff.1 HX4.out).1 (by have := HS2.out; omega)).trans HX4.out
      have HF5 := hideIt (HF4.out.trans hF5 (fun i hi e => by have := HS2.out; omega))
      have HX5 := hideIt hX5
      have hq0 := cellOfHeap hX5 0 rfl
      have hq1 := cellOfHeap hX5 1 rfl
      have g0 := frozen_of_row w5 w.heap.size 0 _ _ hX5
      have g1 := frozen_of_row w5 w.heap.size 1 _ _ hX5
      have hlt5 := (Array.getElem?_eq_some_iff.1 hX5).1
      clear hX5 hF5 HG HAT HX4 HF4 hmk hzv
      rcases hG with ⟨k, hk, hbefore, hbad, rfl⟩ | ⟨hall, rfl, hP, hI⟩
      · have hRk : R = ([], (rdR bs (at_ : Int) k).2.2.1, (rdR bs (at_ : Int) k).2.2.2) := by
          rw [← HRN.out]
          unfold readN
          rw [find_first _ n k hk (by simpa using hbad) (fun t ht => by simpa using hbefore t ht)]
        generalize (rdR bs (at_ : Int) k).2.2.1 = er at *
        generalize (rdR bs (at_ : Int) k).2.2.2 = fa at *
        have HRk := hideIt hRk
        clear hbefore hRk HRN
        have hne : (er == 0) = false := by simpa using hbad
        have c0 : (w5.alloc (.cells #[.int .i64 er, .int .i64 fa] 28)).cell? ⟨w5.heap.size, 0, none⟩ = some (.int .i64 er) := cellOfHeap (heap_new rfl) 0 rfl
        go_wp2_with fail
        go_region
        go_wp2_with fail
        have hb1 := heap_setCell_same w5 w.heap.size 0 _ _ (.int .i64 er) HX5.out
        have hb2 := heap_setCell_same _ w.heap.size 1 _ _ (.int .i64 fa) hb1
        have hb3 : (((w5.setCell ⟨w.heap.size, 0, none⟩ (.int .i64 er)).setCell ⟨w.heap.size, 1, none⟩ (.int .i64 fa)).alloc (.cells #[.int .i64 er, .int .i64 fa] 28)).heap[w.heap.size]? = _ := heap_old hb2
        have pp0 := cellOfHeap hb3 0 rfl
        have pp1 := cellOfHeap hb3 1 rfl
        clear hb1 hb2 hb3 hq0 hq1 g0 g1
        have HFZ := hideIt (((HF5.out.trans (((Fr.refl (fun i => i = w.heap.size) _).setCell (p := ⟨w.heap.size, 0, none⟩) (fun _ => rfl) (.int .i64 er)).setCell (p := ⟨w.heap.size, 1, none⟩) (fun _ => rfl) (.int .i64 fa)) (fun i hi e => absurd hi (by omega))).alloc (.cells #[.int .i64 er, .int .i64 fa] 28)).drew)
        refine bodyPost_ret (v := .tuple #[.slice none 0 0, .agg #[.int .i64 er, .int .i64 fa]]) (by simp [results, Try.results8, go_sem, pp0, pp1]) rfl ?_
        rw [HRk.out]
        exact ⟨none, 0, rfl, Or.inl ⟨rfl, rfl, rfl⟩, HFZ.out, fun k hk => by obtain ⟨_, e, _⟩ := hk; cases e⟩
      · have hnone : (List.range n).find? (fun k => (rdR bs (at_ : Int) k).2.2.1 != 0) = none := find_none _ n (fun t ht => by simpa using hall t ht)
        have HR2 := hideIt (show (if rdAt bs (at_ : Int) n < (bs.length : Int) then (([] : List Ins), (4 : Int), rdAt bs (at_ : Int) n) else match (List.range n).find? (fun k => beyb (rdL bs (at_ : Int) n) k) with | some k => ([], 5, rdAt bs (at_ : Int) k) | none => (rdL bs (at_ : Int) n, 0, 0)) = R by
          rw [← HRN.out]; unfold readN; rw [hnone])
        have HP := hideIt hP
        have hcn := hP.cell n (Nat.le_refl _)
        have hltp : w3.heap.size + 1 < w5.heap.size := by obtain ⟨A, h, _⟩ := hP; exact (Array.getElem?_eq_some_iff.1 h).1
        have HI := hideIt hI.full
        have HPP := hideIt hP
        clear hall hnone HRN hP hI
        have n1 : (n : Int) < (n : Int) + 1 := by omega
        obtain ⟨en, hen⟩ : ∃ en, rdAt bs (at_ : Int) n = en := ⟨_, rfl⟩
        rw [hen] at hcn HR2
        clear hen
        by_cases hend : en < (bs.length : Int)
        · have hRk : R = ([], 4, en) := by rw [← HR2.out, if_pos hend]
          have HRk := hideIt hRk
          clear hRk HR2
          go_wp2_with fail
          obtain ⟨hb3, hfz⟩ := set_two w5 w.heap.size 4 en HX5.out
          have hb4 : (((w5.setCell ⟨w.heap.size, 0, none⟩ (.int .i64 4)).setCell ⟨w.heap.size, 1, none⟩ (.int .i64 en)).alloc (.cells #[.int .i64 0, .int .i64 0] 28)).heap[w.heap.size]? = _ := heap_old hb3
          have pp0 := cellOfHeap hb4 0 rfl
          have pp1 := cellOfHeap hb4 1 rfl
          have HFZ := hideIt ((HF5.out.trans hfz (fun i hi e => absurd hi (by omega))).alloc (.cells #[.int .i64 0, .int .i64 0] 28))
          clear hb3 hb4 hfz hq0 hq1 g0 g1
          refine bodyPost_ret (v := .tuple #[.slice none 0 0, .agg #[.int .i64 4, .int .i64 en]]) (by simp [results, Try.results8, go_sem, pp0, pp1]) rfl ?_
          rw [HRk.out]
          exact ⟨none, 0, rfl, Or.inl ⟨rfl, rfl, rfl⟩, HFZ.out, fun k hk => by obtain ⟨_, e, _⟩ := hk; cases e⟩
        · have hd2 : decide (en < (bs.length : Int)) = false := by simpa using hend
          have HR3 := hideIt (show (match (List.range n).find? (fun k => beyb (rdL bs (at_ : Int) n) k) with | some k => (([] : List Ins), (5 : Int), rdAt bs (at_ : Int) k) | none => (rdL bs (at_ : Int) n, 0, 0)) = R by rw [← HR2.out, if_neg hend])
          clear HR2 hend
          have HI6 := hideIt (HI.out.fr ((Fr.refl (fun _ => False) w5).alloc (.cells #[.int .i64 0, .int .i64 0] 28)) (fun _ _ e => e))
          have HBY := hideIt (gbeyond_any (some ⟨w2.heap.size, 0, none⟩) n (rdL bs (at_ : Int) n) (by rw [rdL_len]; have := HN.out; omega) (w5.alloc (.cells #[.int .i64 0, .int .i64 0] 28)) HI6.out.row)
          rw [rdL_len] at HBY
          go_wp2_with fail
          refine Calls.mono HBY.out ?_
          rintro e w6 ⟨hF6, hfirst⟩
          have hX6 := (hF6.block w.heap.size (by simp; omega) (fun e => e)).trans (heap_old HX5.out)
          have HX6 := hideIt hX6
          have HP6 := hideIt (HPP.out.fr (((Fr.refl (fun _ => False) w5).alloc (.cells #[.int .i64 0, .int .i64 0] 28)).trans hF6 (fun _ _ e => e)) (fun e => e))
          have HI7 := hideIt (HI6.out.fr hF6 (fun _ _ e => e))
          have HF6 := hideIt ((HF5.out.alloc (.cells #[.int .i64 0, .int .i64 0] 28)).trans hF6 (fun _ _ e => e))
          clear hq0 hq1 g0 g1
          have hq0 := cellOfHeap hX6 0 rfl
          have hq1 := cellOfHeap hX6 1 rfl
          have g0 := frozen_of_row w6 w.heap.size 0 _ _ hX6
          have g1 := frozen_of_row w6 w.heap.size 1 _ _ hX6
          have hlt6 := (Array.getElem?_eq_some_iff.1 hX6).1
          clear hX6 hF6 HBY HI6 HPP HF5 HX5 hlt5 hcn hltp
          rcases hfirst with ⟨j, hj, rfl, hbj, hbt⟩ | ⟨rfl, hbt⟩
          · have hRk : R = ([], 5, rdAt bs (at_ : Int) j) := by
              rw [← HR3.out, find_first _ n j hj ((beyb_iff _ _).2 hbj) (fun t ht => Bool.eq_false_iff.2 (fun e => hbt t ht ((beyb_iff _ _).1 e)))]
            have hcj := HP6.out.cell j (Nat.le_of_lt hj)
            generalize rdAt bs (at_ : Int) j = fa at *
            have HRk := hideIt hRk
            have hj1 : (j : Int) < (n : Int) + 1 := by omega
            have hj0 : (0 : Int) ≤ (j : Int) := by omega
            have hltp6 : w3.heap.size + 1 < w6.heap.size := by obtain ⟨A, h, _⟩ := HP6.out; exact (Array.getElem?_eq_some_iff.1 h).1
            clear hbt hbj hRk HR3
            go_wp2_with fail
            go_region
            go_wp2_with fail
            obtain ⟨hb3, hfz⟩ := set_two w6 w.heap.size 5 fa HX6.out
            have pp0 := cellOfHeap hb3 0 rfl
            have pp1 := cellOfHeap hb3 1 rfl
            have HFZ := hideIt ((HF6.out.trans hfz (fun i hi e => absurd hi (by omega))).drew)
            clear hb3 hfz hq0 hq1 g0 g1
            refine bodyPost_ret (v := .tuple #[.slice none 0 0, .agg #[.int .i64 5, .int .i64 fa]]) (by simp [results, Try.results8, go_sem, pp0, pp1]) rfl ?_
            rw [HRk.out]
            exact ⟨none, 0, rfl, Or.inl ⟨rfl, rfl, rfl⟩, HFZ.out, fun k hk => by obtain ⟨_, e, _⟩ := hk; cases e⟩
          · have hRk : R = (rdL bs (at_ : Int) n, 0, 0) := by
              rw [← HR3.out, find_none _ n (fun t ht => Bool.eq_false_iff.2 (fun e => hbt t ht ((beyb_iff _ _).1 e)))]
            have HRk := hideIt hRk
            clear hbt hRk HR3
            go_wp2_with fail
            obtain ⟨hb3, hfz⟩ := set_two w6 w.heap.size 0 0 HX6.out
            have pp0 := cellOfHeap hb3 0 rfl
            have pp1 := cellOfHeap hb3 1 rfl
            have HFZ := hideIt (HF6.out.trans hfz (fun i hi e => absurd hi (by omega)))
            have HIZ := hideIt (HI7.out.fr hfz (fun k hk e => by
              obtain ⟨_, e1, e2⟩ := hk
              obtain rfl := Option.some.inj e1
              have := HS2.out
              simp only at e2
              omega))
            clear hb3 hfz hq0 hq1 g0 g1
            refine bodyPost_ret (v := .tuple #[.slice (some ⟨w2.heap.size, 0, none⟩) n n, .agg #[.int .i64 0, .int .i64 0]]) (by simp [results, Try.results8, go_sem, pp0, pp1]) rfl ?_
            rw [HRk.out]
            refine ⟨some ⟨w2.heap.size, 0, none⟩, n, by rw [rdL_len], HIZ.out, HFZ.out, fun k hk => ?_⟩
            obtain ⟨_, e1, e2⟩ := hk
            obtain rfl := Option.some.inj e1
            have := HS2.out
            simp only at e2
            omega
    · have hne : (er == 0) = false := by simpa using her
      go_wp2_with fail
      have c0 : (w3.alloc (.cells #[.int .i64 er, .int .i64 ea] 28)).cell? ⟨w3.heap.size, 0, none⟩ = some (.int .i64 er) := cellOfHeap (heap_new rfl) 0 rfl
      go_region
      go_wp2_with fail
      have hb1 := heap_setCell_same w3 w.heap.size 0 _ _ (.int .i64 er) HX3.out
      have hb2 := heap_setCell_same _ w.heap.size 1 _ _ (.int .i64 ea) hb1
      have hb3 : (((w3.setCell ⟨w.heap.size, 0, none⟩ (.int .i64 er)).setCell ⟨w.heap.size, 1, none⟩ (.int .i64 ea)).alloc (.cells #[.int .i64 er, .int .i64 ea] 28)).heap[w.heap.size]? = _ := heap_old hb2
      have pp0 := cellOfHeap hb3 0 rfl
      have pp1 := cellOfHeap hb3 1 rfl
      clear hb1 hb2 hb3 hq0 hq1 g0 g1
      have HFZ := hideIt (((HF3.out.trans (((Fr.refl (fun i => i = w.heap.size) _).setCell (p := ⟨w.heap.size, 0, none⟩) (fun _ => rfl) (.int .i64 er)).setCell (p := ⟨w.heap.size, 1, none⟩) (fun _ => rfl) (.int .i64 ea)) (fun i hi e => absurd hi (by omega))).alloc (.cells #[.int .i64 er, .int .i64 ea] 28)).drew)
      refine bodyPost_ret (v := .tuple #[.slice none 0 0, .agg #[.int .i64 er, .int .i64 ea]]) (by simp [results, Try.results8, go_sem, pp0, pp1]) rfl ?_
      have hR : R = ([], er, ea) := by rw [← HR.out, if_neg her]
      rw [hR]
      exact ⟨none, 0, rfl, Or.inl ⟨rfl, rfl, rfl⟩, HFZ.out, fun k hk => by obtain ⟨_, e, _⟩ := hk; cases e⟩

end Go.Proofs.Ytojgikaoiegmpaa

/- Code: awake, CodeKnown. -/
namespace Go.Proofs.Ytojgikaoiegmpaa
open Go.RowKit Go.IntWalk Go.Lib
set_option linter.unusedSimpArgs false
set_option linter.unusedVariables false
set_option maxRecDepth 100000

theorem ex1 : readR [9, 2, 1, 2] 1 = (⟨2, 1, 2, 0, 0, ⟨#[]⟩⟩, 4, 0, 0) := by kernel_rfl
theorem ex2 : readR [2, 8] 0 = (zeroI, 0, 5, 1) := by kernel_rfl
theorem ex3 : readR [16] 0 = (zeroI, 0, 5, 0) := by kernel_rfl
theorem ex4 : readR [2, 1] 0 = (zeroI, 0, 4, 2) := by kernel_rfl
theorem ex5 : readR [15] 2 = (zeroI, 0, 5, 0) := by kernel_rfl
theorem cx1 : codeL ⟨1, 1, 0, 0, 0, ⟨#[97, 98]⟩⟩ = [1, 1, 2, 97, 98] := by kernel_rfl
theorem cx2 : codeL ⟨6, 0, 1, 2, 16, ⟨#[]⟩⟩ = [6, 0, 1, 2, 16] := by kernel_rfl
theorem gx1 : Good ⟨1, 1, 0, 0, 0, ⟨#[97, 98]⟩⟩ 1 := ⟨rfl, by decide, by decide, by decide, ⟨1, 0, 0, 0, 0, ⟨#[]⟩⟩, by kernel_rfl, rfl, rfl, rfl, rfl, rfl⟩
theorem gx2 : Good ⟨15, 0, 0, 0, 0, ⟨#[]⟩⟩ 15 := ⟨rfl, by decide, by decide, by decide, ⟨15, 0, 0, 0, 0, ⟨#[]⟩⟩, by kernel_rfl, rfl, rfl, rfl, rfl, rfl⟩
theorem gx3 : Good ⟨6, 0, 1, 2, 16, ⟨#[]⟩⟩ 6 := ⟨rfl, by decide, by decide, by decide, ⟨6, 0, 0, 0, 0, ⟨#[]⟩⟩, by kernel_rfl, rfl, rfl, rfl, rfl, rfl⟩
theorem gx4 : Good ⟨13, 0, 0, 0, 60, ⟨#[]⟩⟩ 13 := ⟨rfl, by decide, by decide, by decide, ⟨13, 0, 0, 0, 0, ⟨#[]⟩⟩, by kernel_rfl, rfl, rfl, rfl, rfl, rfl⟩
theorem gx5 : Good ⟨2, 1, 2, 0, 0, ⟨#[]⟩⟩ 2 := ⟨rfl, by decide, by decide, by decide, ⟨2, 0, 0, 0, 0, ⟨#[]⟩⟩, by kernel_rfl, rfl, rfl, rfl, rfl, rfl⟩
theorem kx1 : checkE ⟨15, 1, 0, 0, 0, ⟨#[]⟩⟩ = 2 := checkE_left _ ⟨15, 1, 0, 0, 0, ⟨#[]⟩⟩ (by kernel_rfl) (fun e => by have := e.1; simp at this)
theorem kx2 : checkE ⟨1, 8, 0, 0, 0, ⟨#[]⟩⟩ = 2 := checkE_none _ (by kernel_rfl)
theorem kx3 : checkE ⟨6, 0, 0, 0, 17, ⟨#[]⟩⟩ = 2 := checkE_none _ (by kernel_rfl)
theorem kx4 : checkE ⟨0, 0, 0, 0, 0, ⟨#[]⟩⟩ = 2 := checkE_out _ (fun e => by have := e.1; simp at this)

end Go.Proofs.Ytojgikaoiegmpaa

/- Package prog: what the laws ask besides: SameProg, fails, awake. -/
namespace Go.Proofs.Ytojgikaoiegmpaa
open Go.RowKit Go.IntWalk
set_option linter.unusedSimpArgs false
set_option linter.unusedVariables false
set_option maxRecDepth 100000

set_option maxRecDepth 100000 in
set_option maxHeartbeats 2000000 in
theorem ksameprog_any (ao bo : Option Addr) (cap cap2 : Nat) (l m : List Ins) (hl : l.length ≤ 1099511627776) (hm : m.length ≤ 1099511627776) (w : World) (hA : InsRow w ao l) (hB : InsRow w bo m) : Calls Try.prog 10 #[.slice ao l.length cap, .slice bo m.length cap2] w (SameP l m w) := by
  have HA := hideIt (fun W (hF : Fr (fun _ => False) w W) => hA.fr hF (fun _ _ _ e => e))
  have HB := hideIt (fun W (hF : Fr (fun _ => False) w W) => hB.fr hF (fun _ _ _ e => e))
  clear hA hB
  by_cases hne : l.length = m.length
  · have hml : ((m.length : Nat) : Int) = ((l.length : Nat) : Int) := by omega
    have HNE := hideIt hne
    rw [show m.length = l.length from hne.symm]
    clear hne hml
    go_enter Try.func10, Try.ntmps10
    go_wp2_with fail
    go_loopw [5] (fun s5 wr => ∃ k : Nat, s5 = .int .i64 k ∧ k ≤ l.length ∧ Hid (l.take k = m.take k) ∧ Hid (Fr (fun _ => False) w wr)) (fun s5 _ => l.length - (intOf s5).toNat)
    case atStart => exact ⟨0, rfl, by omega, hideIt (by simp), hideIt (Fr.refl _ _)⟩
    case round =>
      obtain ⟨k, rfl, hk, HT, HF⟩ := hrel
      by_cases hlt : k < l.length
      · have h1 : (k : Int) < (l.length : Int) := by omega
        have hlt2 : k < m.length := by have := HNE.out; omega
        obtain ⟨b, off, rfl, hb, hR⟩ := (HA.out wr HF.out).get k hlt
        obtain ⟨b2, off2, rfl, hb2, hR2⟩ := (HB.out wr HF.out).get k hlt2
        have HR := hideIt hR
        have HR2 := hideIt hR2
        have HIJ := hideIt (insSize l[k])
        have HIJ2 := hideIt (insSize m[k])
        have HQN := hideIt (fun w => neqQ l[k] m[k] w)
        have HQG := hideIt (fun w (x y : Operand) => grdQ w .neq x y l[k] m[k])
        have HQI := hideIt (insQ_iff l[k] m[k])
        clear hR hR2
        generalize insQ l[k] m[k] = q at *
        generalize icells l[k] = C at *
        generalize icells m[k] = D at *
        have n0 : (0 : Int) ≤ (k : Int) := by omega
        go_wp2_with fail
        refine wp_region_held_drew (S := (fun w' => w'.rangeAt b (off + k * 6) C.toList ∧ w'.rangeAt b2 (off2 + k * 6) D.toList)) (by kernel_rfl) ?_ (fun hHeld => ?_)
        · exact ⟨HR.out, HR2.out⟩
        refine wpAnyH_take (i := 0) (v := ?v1) rfl (by kernel_rfl) (by kernel_rfl) (by kernel_rfl) (fun _ _ _ h => h) (Or.inl ⟨by kernel_rfl, ?hy1⟩) (by assumption) ?rest1
        case hy1 => intro w hSw; (try dsimp only at hSw); go_simp; (try with_reducible rfl)
        try simp only [Act.put, List.getElem_toArray, List.getElem_cons_zero, List.getElem_cons_succ, List.setIfInBounds_toArray, List.set_cons_zero, List.set_cons_succ]
        refine wpAnyH_take (i := 1) (v := ?v2) rfl (by kernel_rfl) (by kernel_rfl) (by kernel_rfl) (fun _ _ _ h => h) (Or.inl ⟨by kernel_rfl, ?hy2⟩) (by assumption) ?rest2
        case hy2 => intro w hSw; (try dsimp only at hSw); go_simp; (try with_reducible rfl)
        try simp only [Act.put, List.getElem_toArray, List.getElem_cons_zero, List.getElem_cons_succ, List.setIfInBounds_toArray, List.set_cons_zero, List.set_cons_succ]
        refine wpAnyH_take (i := 2) (v := ?v3) rfl (by kernel_rfl) (by kernel_rfl) (by kernel_rfl) (fun _ _ _ h => h) (Or.inl ⟨by kernel_rfl, ?hy3⟩) (by assumption) ?rest3
        case hy3 => intro w hSw; (try dsimp only at hSw); go_simp; (try with_reducible rfl)
        try simp only [Act.put, List.getElem_toArray, List.getElem_cons_zero, List.getElem_cons_succ, List.setIfInBounds_toArray, List.set_cons_zero, List.set_cons_succ]
        refine wpAnyH_take (i := 4) (v := ?v4) rfl (by kernel_rfl) (by kernel_rfl) (by kernel_rfl) (fun _ _ _ h => h) (Or.inl ⟨by kernel_rfl, ?hy4⟩) (by assumption) ?rest4
        case hy4 => intro w hSw; (try dsimp only at hSw); go_simp; (try with_reducible rfl)
        try simp only [Act.put, List.getElem_toArray, List.getElem_cons_zero, List.getElem_cons_succ, List.setIfInBounds_toArray, List.set_cons_zero, List.set_cons_succ]
        refine wpAnyH_take (i := 5) (v := ?v5) rfl (by kernel_rfl) (by kernel_rfl) (by kernel_rfl) (fun _ _ _ h => h) (Or.inl ⟨by kernel_rfl, ?hy5⟩) (by assumption) ?rest5
        case hy5 => intro w hSw; (try dsimp only at hSw); go_simp; (try with_reducible rfl)
        try simp only [Act.put, List.getElem_toArray, List.getElem_cons_zero, List.getElem_cons_succ, List.setIfInBounds_toArray, List.set_cons_zero, List.set_cons_succ]
        refine wpAnyH_take (i := 6) (v := ?v6) rfl (by kernel_rfl) (by kernel_rfl) (by kernel_rfl) (fun _ _ _ h => h) (Or.inl ⟨by kernel_rfl, ?hy6⟩) (by assumption) ?rest6
        case hy6 => intro w hSw; (try dsimp only at hSw); go_simp; (try with_reducible rfl)
        try simp only [Act.put, List.getElem_toArray, List.getElem_cons_zero, List.getElem_cons_succ, List.setIfInBounds_toArray, List.set_cons_zero, List.set_cons_succ]
        refine wpAnyH_take (i := 3) (v := (.agg C)) rfl (by kernel_rfl) (by kernel_rfl) (by kernel_rfl) (fun _ _ _ h => h) (Or.inl ⟨by kernel_rfl, fun w0 hSw => ylm 40 (.tmp 19) rfl b (off + k * 6) rfl C _ hSw.1 Try.underlying40 rfl HIJ.out⟩) (by assumption) ?_
        try simp only [Act.put, List.getElem_toArray, List.getElem_cons_zero, List.getElem_cons_succ, List.setIfInBounds_toArray, List.set_cons_zero, List.set_cons_succ]
        refine wpAnyH_take (i := 7) (v := (.agg D)) rfl (by kernel_rfl) (by kernel_rfl) (by kernel_rfl) (fun _ _ _ h => h) (Or.inl ⟨by kernel_rfl, fun w0 hSw => ylm 40 (.tmp 23) rfl b2 (off2 + k * 6) rfl D _ hSw.2 Try.underlying40 rfl HIJ2.out⟩) (by assumption) ?_
        try simp only [Act.put, List.getElem_toArray, List.getElem_cons_zero, List.getElem_cons_succ, List.setIfInBounds_toArray, List.set_cons_zero, List.set_cons_succ]
        refine wpAnyH_take (i := 8) (v := .bool (!q)) rfl (by kernel_rfl) (by kernel_rfl) (by kernel_rfl) (fun _ _ _ h => h) (Or.inl ⟨by kernel_rfl, fun w0 hSw => yields_binQ .neq 40 40 (.tmp 20) (.tmp 24) rfl (.agg C) (.agg D) (.bool (!q)) rfl rfl (HQN.out _) (HQG.out _ _ _)⟩) (by assumption) ?_
        try simp only [Act.put, List.getElem_toArray, List.getElem_cons_zero, List.getElem_cons_succ, List.setIfInBounds_toArray, List.set_cons_zero, List.set_cons_succ]
        refine wpAnyH_done (by kernel_rfl) ?_ _
        have HF2 := hideIt (HF.out.trans ((Fr.refl (fun _ => False) wr).drew) (fun _ _ e => e))
        clear hHeld HF
        by_cases hq : q = true
        · have HT2 := hideIt (show l.take (k + 1) = m.take (k + 1) by
            rw [List.take_succ_eq_append_getElem hlt, List.take_succ_eq_append_getElem hlt2, HT.out, HQI.out.1 hq])
          subst hq
          go_wp2_with fail
          go_roundw
          case measure => simp [intOf]; omega
          case rel => exact ⟨k + 1, by go_num, by omega, HT2, HF2⟩
        · have HX := hideIt (show ¬ l = m from fun h => hq (HQI.out.2 (by subst h; rfl)))
          have hq2 : q = false := by simpa using hq
          subst hq2
          go_wp2_with fail
          go_ret
          exact ⟨false, rfl, ⟨fun h => (by cases h), fun h => absurd h HX.out⟩, HF2.out⟩
      · have hje : k = l.length := by omega
        have hjn : ¬ (k : Int) < (l.length : Int) := by omega
        have HLM := hideIt (show l = m by
          have h := HT.out
          rwa [List.take_of_length_le (by omega), List.take_of_length_le (by have := HNE.out; omega)] at h)
        go_wp2_with fail
        go_ret
        exact ⟨true, rfl, ⟨fun _ => HLM.out, fun _ => rfl⟩, HF.out⟩
  · have hne2 : ¬ ((l.length : Nat) : Int) = ((m.length : Nat) : Int) := by omega
    have hne3 : (((l.length : Nat) : Int) == ((m.length : Nat) : Int)) = false := beq_eq_false_iff_ne.2 hne2
    have HNE := hideIt hne
    go_enter Try.func10, Try.ntmps10
    go_wp2_with fail
    go_ret
    exact ⟨false, rfl, ⟨fun h => (by cases h), fun h => absurd (by rw [h]) HNE.out⟩, Fr.refl _ _⟩

/-- What Check tells, as a pair. -/
noncomputable def chkF (l : List Ins) : Int × Int :=
  if 60 < l.length then (3, 60)
  else match (List.range l.length).find? (fun j => match l[j]? with | some i => !(checkE i == 0) | none => false) with
    | some j => (2, (j : Int))
    | none => match (List.range l.length).find? (fun j => beyb l j) with
      | some j => (5, (j : Int))
      | none => match (List.range l.length).find? (fun j => decide ((512 : Int) < (bgn l (j + 1) : Int))) with
        | some j => (3, (j : Int))
        | none => (0, 0)
theorem badb_iff (l : List Ins) (j : Nat) : (match l[j]? with | some i => !(checkE i == 0) | none => false) = true ↔ badB l j := by
  unfold badB
  cases h : l[j]? with
  | none =>
    have := List.getElem?_eq_none_iff.1 h
    simp
    omega
  | some i =>
    obtain ⟨hj, e⟩ := List.getElem?_eq_some_iff.1 h
    simp [hj, e]
theorem find_first' (p : Nat → Bool) (q : Nat → Prop) (hq : ∀ j, p j = true ↔ q j) (n j : Nat) (hj : j < n) (hp : q j) (h : ∀ t, t < j → ¬ q t) : (List.range n).find? p = some j :=
  find_first p n j hj ((hq j).2 hp) (fun t ht => Bool.eq_false_iff.2 (fun e => h t ht ((hq t).1 e)))
theorem find_none' (p : Nat → Bool) (q : Nat → Prop) (hq : ∀ j, p j = true ↔ q j) (n : Nat) (h : ∀ t, t < n → ¬ q t) : (List.range n).find? p = none :=
  find_none p n (fun t ht => Bool.eq_false_iff.2 (fun e => h t ht ((hq t).1 e)))
theorem ChkP.eq {l : List Ins} {err at_ : Int} (h : ChkP l err at_) : chkF l = (err, at_) := by
  have hov : ∀ j, decide ((512 : Int) < (bgn l (j + 1) : Int)) = true ↔ ovrB l j := fun j => by rw [decide_eq_true_iff]; rfl
  unfold chkF
  rcases h with ⟨h, rfl, rfl⟩ | ⟨h60, ⟨j, hj, rfl, rfl, hb, ht⟩ | ⟨hnb, ⟨j, hj, rfl, rfl, hb, ht⟩ | ⟨hny, ⟨j, hj, rfl, rfl, hb, ht⟩ | ⟨hno, rfl, rfl⟩⟩⟩⟩
  · rw [if_pos h]
  · rw [if_neg (by omega), find_first' _ _ (badb_iff l) _ j hj hb ht]
  · rw [if_neg (by omega), find_none' _ _ (badb_iff l) _ hnb, find_first' _ _ (beyb_iff l) _ j hj hb ht]
  · rw [if_neg (by omega), find_none' _ _ (badb_iff l) _ hnb, find_none' _ _ (beyb_iff l) _ hny, find_first' _ _ hov _ j hj hb ht]
  · rw [if_neg (by omega), find_none' _ _ (badb_iff l) _ hnb, find_none' _ _ (beyb_iff l) _ hny, find_none' _ _ hov _ hno]
/-- What Check answers, by its pair. -/
theorem gchk (ao : Option Addr) (cap : Nat) (l : List Ins) (hl : l.length ≤ 140737488355328) (w : World) (hB : InsRow w ao l) : Calls Try.prog 14 #[.slice ao l.length cap] w fun e w' => e = .returned (.tuple #[.int .i64 (chkF l).1, .int .i64 (chkF l).2]) ∧ Fr (fun _ => False) w w' := by
  refine Calls.mono (gcheck_any ao cap l hl w hB) ?_
  rintro e w' ⟨⟨err, at_, rfl, h⟩, hF⟩
  rw [h.eq]
  exact ⟨rfl, hF⟩
noncomputable def progC (l : List Ins) : List UInt8 := if (chkF l).1 = 0 then progB l else []
theorem gbts (ao : Option Addr) (cap : Nat) (l : List Ins) (hl : l.length ≤ 140737488355328) (w : World) (hB : InsRow w ao l) : Calls Try.prog 13 #[.slice ao l.length cap] w fun e w' => ∃ ao' cap', e = .returned (.tuple #[.slice ao' (progC l).length cap', .int .i64 (chkF l).1]) ∧ Full w' ao' cap' (progC l) ∧ Fr (fun _ => False) w w' ∧ ∀ k, blk ao' k → w.heap.size ≤ k := by
  refine Calls.mono (gbytes_any ao cap l hl w hB) ?_
  rintro e w' ⟨ao', cap', err, at_, bs, h, rfl, rfl, hf, hF, hn⟩
  have e1 : (chkF l).1 = err := by rw [h.eq]
  unfold progC
  rw [e1]
  exact ⟨ao', cap', rfl, hf, hF, hn⟩

theorem phalt_any (w : World) : Calls Try.prog 15 #[] w fun e w' => e = .returned (.agg #[.int .i64 15, .int .i64 0, .int .i64 0, .int .i64 0, .int .i64 0, .string ⟨#[]⟩]) ∧ Fr (fun _ => False) w w' := by
  go_enter Try.func15, Try.ntmps15
  go_wp2_with fail
  refine bodyPost_ret (v := .agg #[.int .i64 15, .int .i64 0, .int .i64 0, .int .i64 0, .int .i64 0, .string ⟨#[]⟩]) (by simp [results, Try.results15, go_sem]) rfl ⟨rfl, ?_⟩
  exact (Fr.refl _ _).alloc _
theorem pjump_any (n : Int) (w : World) : Calls Try.prog 18 #[.int .i64 n] w fun e w' => e = .returned (.agg #[.int .i64 13, .int .i64 0, .int .i64 0, .int .i64 0, .int .i64 n, .string ⟨#[]⟩]) ∧ Fr (fun _ => False) w w' := by
  go_enter Try.func18, Try.ntmps18
  go_wp2_with fail
  refine bodyPost_ret (v := .agg #[.int .i64 13, .int .i64 0, .int .i64 0, .int .i64 0, .int .i64 n, .string ⟨#[]⟩]) (by simp [results, Try.results18, go_sem]) rfl ⟨rfl, ?_⟩
  exact (Fr.refl _ _).alloc _

set_option maxRecDepth 100000 in
set_option maxHeartbeats 2000000 in
theorem pfails_true (ao : Option Addr) (cap : Nat) (bs : List UInt8) (f1 f2 : Int) (w : World) (h : BsAt w ao bs) (hcap0 : ao = none → cap = 0) (hcl : bs.length ≤ cap) (hnb : ∀ k, blk ao k → k < w.heap.size) (hr : readP bs = ([], f1, f2)) :
    Calls Try.prog 19 #[.slice ao bs.length cap, .agg #[.int .i64 f1, .int .i64 f2]] w fun e w' => e = .returned (.bool true) ∧ Fr (fun _ => False) w w' := by
  have HR := hideIt (fun w' (hF : Fr (fun _ => False) w w') => by
    have := gRead_any ao cap bs w' (h.fr hF (fun _ _ _ e => e)) hcap0 hcl (fun k hk => Nat.lt_of_lt_of_le (hnb k hk) hF.size)
    rw [hr] at this
    exact this)
  clear h hr hcl hcap0 hnb
  go_enter Try.func19, Try.ntmps19
  go_wp2_with fail
  refine Calls.mono (HR.out _ ((Fr.refl _ _).alloc _)) ?_
  rintro e w1 ⟨a1, c1, rfl, _, hF1, _⟩
  dsimp only [List.length_nil] at *
  have HF1 := hideIt (((Fr.refl (fun _ => False) w).alloc (.cells #[.int .i64 f1, .int .i64 f2] 28)).trans hF1 (fun _ _ e => e))
  have hB := (hF1.block w.heap.size (by simp) (fun e => e)).trans (heap_new rfl)
  have hB0 := cellOfHeap hB 0 rfl
  have hB1 := cellOfHeap hB 1 rfl
  have hlt : w.heap.size < w1.heap.size := (Array.getElem?_eq_some_iff.1 hB).1
  have hne : w.heap.size ≠ w1.heap.size := by omega
  clear hF1 HR hB
  go_wp2_with fail
  go_ret
  exact ⟨rfl, HF1.out.alloc _⟩

theorem pfails_new (bs : List UInt8) (C : Array Value) (n : Nat) (f1 f2 : Int) (hC : (bv bs).toArray = C) (hn : bs.length = n) (hr : readP bs = ([], f1, f2)) (hl : n ≤ 100) (u : World) (k : Nat) (hk : k = u.heap.size) :
    Calls Try.prog 19 #[.slice (some ⟨k, 0, none⟩) n n, .agg #[.int .i64 f1, .int .i64 f2]] (u.alloc (.cells C 5)) fun e w' => e = .returned (.bool true) ∧ Fr (fun _ => False) (u.alloc (.cells C 5)) w' := by
  subst hn hk
  exact pfails_true (some ⟨u.heap.size, 0, none⟩) bs.length bs f1 f2 _ (bs_new u bs C hC hl) (fun e => by cases e) (Nat.le_refl _) (fun j hj => by
    obtain ⟨_, e1, e2⟩ := hj
    obtain rfl := Option.some.inj e1
    simp at e2 ⊢
    omega) hr

def I13 (n : Int) : Ins := ⟨13, 0, 0, 0, n, ⟨#[]⟩⟩
def I15 : Ins := ⟨15, 0, 0, 0, 0, ⟨#[]⟩⟩
theorem rp1 : readP [1, 13, 1] = ([], 5, 1) := by kernel_rfl
theorem g13 : Good (I13 1) 13 := ⟨rfl, by decide, by decide, by decide, ⟨13, 0, 0, 0, 0, ⟨#[]⟩⟩, by kernel_rfl, rfl, rfl, rfl, rfl, rfl⟩
theorem g15 : Good I15 15 := gx2

theorem bgn_mono1 (l : List Ins) (k : Nat) : bgn l k ≤ bgn l (k + 1) := by
  by_cases h : k < l.length
  · rw [bgn_succ l k h]; omega
  · unfold bgn
    rw [List.take_of_length_le (by omega), List.take_of_length_le (by omega)]
    omega
theorem bgn_mono (l : List Ins) (j k : Nat) (h : j ≤ k) : bgn l j ≤ bgn l k := by
  induction k with
  | zero => obtain rfl : j = 0 := by omega
            omega
  | succ k ih =>
    by_cases e : j = k + 1
    · subst e; omega
    · have := ih (by omega)
      have := bgn_mono1 l k
      omega
theorem sevens_one (n : Nat) (h : n ≤ 60) : (sevens n).length = 1 := by
  have : ∀ n, n ≤ 60 → (sevens n).length = 1 := by decide
  exact this n h
theorem bgn_all (l : List Ins) (h : l.length ≤ 60) : bgn l l.length = (progB l).length := by
  unfold bgn progB
  rw [sevens_one _ h, List.take_length, List.length_append, List.length_flatMap]
  simp
/-- One that may be. -/
theorem chkF_ok (l : List Ins) (h60 : l.length ≤ 60) (hg : ∀ i ∈ l, checkE i = 0) (hb : ∀ t, t < l.length → ¬ beyB l t) (ho : (progB l).length ≤ 512) : chkF l = (0, 0) := by
  refine ChkP.eq (Or.inr ⟨h60, Or.inr ⟨fun t _ hx => ?_, Or.inr ⟨hb, Or.inr ⟨fun t ht hx => ?_, rfl, rfl⟩⟩⟩⟩)
  · obtain ⟨hlt, hx⟩ := hx
    exact hx (hg _ (List.getElem_mem hlt))
  · have h1 := bgn_mono l (t + 1) l.length (by omega)
    rw [bgn_all l h60] at h1
    change (512 : Int) < (bgn l (t + 1) : Int) at hx
    omega
theorem pb1 : progB [I13 1, I15] = [2, 13, 1, 15] := by
  show [UInt8.ofNat 2] ++ (codeI (I13 1) ++ (codeI I15 ++ [])) = _
  rw [g13.code, g15.code]
  kernel_rfl
theorem cf1 : chkF [I13 1, I15] = (0, 0) := by
  refine chkF_ok _ (by decide) (fun i hi => ?_) (fun t ht => ?_) (by rw [pb1]; decide)
  · rcases List.mem_cons.1 hi with rfl | hi
    · exact g13.check
    · rcases List.mem_cons.1 hi with rfl | hi
      · exact g15.check
      · cases hi
  · rw [← beyb_iff]
    have : ∀ t, t < 2 → ¬ beyb [I13 1, I15] t = true := by decide
    exact this t ht
theorem cf2 : chkF [I13 1] = (5, 0) := by
  refine ChkP.eq (Or.inr ⟨by decide, Or.inr ⟨fun t ht hx => ?_, Or.inl ⟨0, by decide, rfl, rfl, (beyb_iff _ _).1 (by decide), fun t ht => absurd ht (by omega)⟩⟩⟩)
  obtain ⟨hlt, hx⟩ := hx
  obtain rfl : t = 0 := by simp at ht; exact ht
  exact hx g13.check
theorem pc1 : progC [I13 1, I15] = [2, 13, 1, 15] := by unfold progC; rw [cf1, if_pos rfl, pb1]

theorem flat6 : ∀ (l : List Ins) (j t : Nat) (h : j < l.length), t < 6 → (l.flatMap fun i => (icells i).toList)[j * 6 + t]? = (icells l[j]).toList[t]?
  | i :: l, 0, t, _, ht => by
    rw [List.flatMap_cons, Nat.zero_mul, Nat.zero_add, List.getElem?_append_left (by rw [ic6]; exact ht)]
    rfl
  | i :: l, j + 1, t, h, ht => by
    rw [List.flatMap_cons, List.getElem?_append_right (by rw [ic6]; omega), ic6, show (j + 1) * 6 + t - 6 = j * 6 + t by omega]
    exact flat6 l j t (by simpa using h) ht
theorem ins_new (u : World) (l : List Ins) (C : Array Value) (hC : (l.flatMap fun i => (icells i).toList) = C.toList) (k : Nat) (hk : k = u.heap.size) : InsRow (u.alloc (.cells C 40)) (some ⟨k, 0, none⟩) l := by
  subst hk
  refine Or.inr ⟨u.heap.size, 0, rfl, by simp, fun j hj t v hv => ?_⟩
  have ht : t < 6 := by have := (List.getElem?_eq_some_iff.1 hv).1; rw [ic6] at this; exact this
  rw [Nat.zero_add, cell_of_row _ _ _ _ _ _ (heap_alloc_new u _), ← Array.getElem?_toList, ← hC, flat6 l j t hj ht]
  exact hv
theorem gbts_new (l : List Ins) (C : Array Value) (n : Nat) (hC : (l.flatMap fun i => (icells i).toList) = C.toList) (hn : l.length = n) (hl : n ≤ 100) (u : World) (k : Nat) (hk : k = u.heap.size) (bs : List UInt8) (hb : progC l = bs) (er : Int) (he : (chkF l).1 = er) :
    Calls Try.prog 13 #[.slice (some ⟨k, 0, none⟩) n n] (u.alloc (.cells C 40)) fun e w' => ∃ ao' cap', e = .returned (.tuple #[.slice ao' bs.length cap', .int .i64 er]) ∧ Full w' ao' cap' bs ∧ Fr (fun _ => False) (u.alloc (.cells C 40)) w' := by
  subst hn hb he
  refine Calls.mono (gbts _ l.length l (by omega) _ (ins_new u l C hC k hk)) ?_
  rintro e w' ⟨a, c, h1, h2, h3, _⟩
  exact ⟨a, c, h1, h2, h3⟩
theorem gchk_new (l : List Ins) (C : Array Value) (n : Nat) (hC : (l.flatMap fun i => (icells i).toList) = C.toList) (hn : l.length = n) (hl : n ≤ 100) (u : World) (k : Nat) (hk : k = u.heap.size) (er at_ : Int) (he : chkF l = (er, at_)) :
    Calls Try.prog 14 #[.slice (some ⟨k, 0, none⟩) n n] (u.alloc (.cells C 40)) fun e w' => e = .returned (.tuple #[.int .i64 er, .int .i64 at_]) ∧ Fr (fun _ => False) (u.alloc (.cells C 40)) w' := by
  subst hn
  have := gchk _ l.length l (by omega) _ (ins_new u l C hC k hk)
  rw [he] at this
  exact this
theorem same_lit (a : Option Addr) (c : Nat) (bs : List UInt8) (u : World) (hA : BsAt u a bs) (C : Array Value) (hC : (bv bs).toArray = C) (n : Nat) (hn : bs.length = n) (hl : n ≤ 100) (k : Nat) (hk : k = u.heap.size) :
    Calls Try.prog 17 #[.slice a n c, .slice (some ⟨k, 0, none⟩) n n] (u.alloc (.cells C 5)) fun e w' => e = .returned (.bool true) ∧ w' = u.alloc (.cells C 5) := by
  subst hk hn
  have := same_any a (some ⟨u.heap.size, 0, none⟩) c bs.length bs bs (u.alloc (.cells C 5)) (hA.fr ((Fr.refl (fun _ => False) u).alloc _) (fun _ _ _ e => e)) (bs_new u bs C hC hl)
  rwa [beq_self_eq_true bs] at this

set_option maxRecDepth 100000 in
set_option maxHeartbeats 2000000 in
theorem pawake_any (w : World) : Calls Try.prog 6 #[] w fun e w' => e = .returned (.bool true) ∧ Fr (fun _ => False) w w' := by
  have HJ := hideIt pjump_any
  have HH := hideIt phalt_any
  go_enter Try.func6, Try.ntmps6
  go_wp2_with fail
  refine Calls.mono (HJ.out _ _) ?_
  rintro e w1 ⟨rfl, hF1⟩
  go_wp2_with fail
  refine Calls.mono (HH.out _) ?_
  rintro e w2 ⟨rfl, hF2⟩
  have HF2 := hideIt (hF1.trans hF2 (fun _ _ e => e))
  clear hF1 hF2
  go_wp2_with fail
  refine Calls.mono (gbts_new [I13 1, I15] _ 2 (by rfl) rfl (by decide) w2 _ (by simp) _ pc1 _ (by rw [cf1])) ?_
  rintro e w3 ⟨a3, c3, rfl, hf3, hF3⟩
  have HF3 := hideIt ((HF2.out.alloc _).trans hF3 (fun _ _ e => e))
  have HB3 := hideIt hf3.bs
  clear hf3 hF3 HF2
  dsimp only [List.length_cons, List.length_nil] at *
  go_wp2_with fail
  refine Calls.mono (HJ.out _ _) ?_
  rintro e w4 ⟨rfl, hF4⟩
  have HB4 := hideIt (HB3.out.fr hF4 (fun _ _ _ e => e))
  have HF4 := hideIt (HF3.out.trans hF4 (fun _ _ e => e))
  clear hF4 HB3 HF3
  go_wp2_with fail
  refine Calls.mono (gbts_new [I13 1] _ 1 (by rfl) rfl (by decide) w4 _ (by simp) [] (by unfold progC; rw [cf2]; rfl) _ (by rw [cf2])) ?_
  rintro e w5 ⟨a5, c5, rfl, _, hF5⟩
  have HB5 := hideIt (HB4.out.fr (((Fr.refl (fun _ => False) w4).alloc _).trans hF5 (fun _ _ e => e)) (fun _ _ _ e => e))
  have HF5 := hideIt ((HF4.out.alloc _).trans hF5 (fun _ _ e => e))
  clear hF5 HB4 HF4
  go_wp2_with fail
  refine Calls.mono (same_lit a3 c3 [2, 13, 1, 15] w5 HB5.out _ (by rfl) 4 rfl (by decide) _ (by simp)) ?_
  rintro e w6 ⟨rfl, rfl⟩
  go_wp2_with fail
  refine Calls.mono (pfails_new [1, 13, 1] _ 3 5 1 (by rfl) rfl rp1 (by decide) _ _ (by simp)) ?_
  rintro e w7 ⟨rfl, hF7⟩
  have HF7 := hideIt (((HF5.out.alloc _).alloc _).trans hF7 (fun _ _ e => e))
  go_wp2_with fail
  go_ret
  exact ⟨rfl, HF7.out⟩

end Go.Proofs.Ytojgikaoiegmpaa

/- Code, on paper: no instruction's bytes begin another one's. -/
namespace Go.Proofs.Ytojgikaoiegmpaa
open Go.RowKit Go.IntWalk
set_option linter.unusedSimpArgs false
set_option linter.unusedVariables false
set_option maxRecDepth 100000

/-- Two instructions have the same at a field. -/
def same (f : Nat) (i k : Ins) : Prop := if f = 5 then i.s = k.s else i.get f = k.get f
theorem same.rfl' {f : Nat} {i : Ins} : same f i i := by unfold same; split <;> rfl
theorem same.symm {f : Nat} {i k : Ins} (h : same f i k) : same f k i := by
  unfold same at *
  split at h
  · rw [if_pos (by assumption)]; exact h.symm
  · rw [if_neg (by assumption)]; exact h.symm
theorem same.trans {f : Nat} {i k m : Ins} (h : same f i k) (h' : same f k m) : same f i m := by
  unfold same at *
  by_cases hf : f = 5
  · rw [if_pos hf] at *; exact h.trans h'
  · rw [if_neg hf] at *; exact h.trans h'

theorem pre_cons {x y : UInt8} {r s : List UInt8} (h : x :: r <+: y :: s) : x = y ∧ r <+: s := List.cons_prefix_cons.1 h
theorem ofNat_inj' {a b : Nat} (ha : a ≤ 127) (hb : b ≤ 127) (h : UInt8.ofNat a = UInt8.ofNat b) : a = b := by
  have := congrArg UInt8.toNat h
  rw [UInt8.toNat_ofNat', UInt8.toNat_ofNat'] at this
  omega
theorem num_free (f : Nat) (i k : Ins) (hi : 0 ≤ i.get f ∧ i.get f ≤ 60) (hk : 0 ≤ k.get f ∧ k.get f ≤ 60) {r s : List UInt8} (h : [UInt8.ofNat (i.get f).toNat] ++ r <+: [UInt8.ofNat (k.get f).toNat] ++ s) : i.get f = k.get f ∧ r <+: s := by
  obtain ⟨e, h2⟩ := pre_cons h
  have := ofNat_inj' (by omega) (by omega) e
  exact ⟨by omega, h2⟩
theorem app_pre {x y r s : List UInt8} (hl : x.length = y.length) (h : x ++ r <+: y ++ s) : x = y ∧ r <+: s := by
  obtain ⟨t, e⟩ := h
  rw [List.append_assoc] at e
  have := List.append_inj e hl
  exact ⟨this.1, t, this.2⟩
theorem ba_len (s : ByteArray) : s.data.toList.length = s.size := by rw [Array.length_toList]; rfl
theorem ba_ext {s t : ByteArray} (h : s.data.toList = t.data.toList) : s = t := by
  cases s; cases t
  congr 1
  exact Array.ext' h

theorem encL_free (l : Nat) (hl : Ltr l) (i k : Ins) (hi : fitsB l i = true) (hk : fitsB l k = true) {r s : List UInt8} (h : encL l i ++ r <+: encL l k ++ s) : same (fld l) i k ∧ r <+: s := by
  rcases hl with rfl | rfl | rfl | rfl | rfl | rfl
  · have hv : 0 ≤ i.a ∧ i.a ≤ 7 := by simpa [fitsB, fld, lowL, highL, Ins.get] using hi
    have hw : 0 ≤ k.a ∧ k.a ≤ 7 := by simpa [fitsB, fld, lowL, highL, Ins.get] using hk
    exact num_free 1 i k ⟨hv.1, Int.le_trans hv.2 (by decide)⟩ ⟨hw.1, Int.le_trans hw.2 (by decide)⟩ h
  · have hv : 0 ≤ i.b ∧ i.b ≤ 7 := by simpa [fitsB, fld, lowL, highL, Ins.get] using hi
    have hw : 0 ≤ k.b ∧ k.b ≤ 7 := by simpa [fitsB, fld, lowL, highL, Ins.get] using hk
    exact num_free 2 i k ⟨hv.1, Int.le_trans hv.2 (by decide)⟩ ⟨hw.1, Int.le_trans hw.2 (by decide)⟩ h
  · have hv : 0 ≤ i.c ∧ i.c ≤ 7 := by simpa [fitsB, fld, lowL, highL, Ins.get] using hi
    have hw : 0 ≤ k.c ∧ k.c ≤ 7 := by simpa [fitsB, fld, lowL, highL, Ins.get] using hk
    exact num_free 3 i k ⟨hv.1, Int.le_trans hv.2 (by decide)⟩ ⟨hw.1, Int.le_trans hw.2 (by decide)⟩ h
  · have hv : 1 ≤ i.n ∧ i.n ≤ 16 := by simpa [fitsB, fld, lowL, highL, Ins.get] using hi
    have hw : 1 ≤ k.n ∧ k.n ≤ 16 := by simpa [fitsB, fld, lowL, highL, Ins.get] using hk
    exact num_free 4 i k ⟨Int.le_trans (by decide) hv.1, Int.le_trans hv.2 (by decide)⟩ ⟨Int.le_trans (by decide) hw.1, Int.le_trans hw.2 (by decide)⟩ h
  · have hv : 1 ≤ i.n ∧ i.n ≤ 60 := by simpa [fitsB, fld, lowL, highL, Ins.get] using hi
    have hw : 1 ≤ k.n ∧ k.n ≤ 60 := by simpa [fitsB, fld, lowL, highL, Ins.get] using hk
    exact num_free 4 i k ⟨Int.le_trans (by decide) hv.1, Int.le_trans hv.2 (by decide)⟩ ⟨Int.le_trans (by decide) hw.1, Int.le_trans hw.2 (by decide)⟩ h
  · have hv : (i.s.size : Int) ≤ 64 := by simpa [fitsB, fld] using hi
    have hw : (k.s.size : Int) ≤ 64 := by simpa [fitsB, fld] using hk
    have h' : UInt8.ofNat i.s.size :: (i.s.data.toList ++ r) <+: UInt8.ofNat k.s.size :: (k.s.data.toList ++ s) := h
    obtain ⟨e, h2⟩ := pre_cons h'
    have e2 := ofNat_inj' (by omega) (by omega) e
    obtain ⟨e3, h3⟩ := app_pre (by rw [ba_len, ba_len]; exact e2) h2
    exact ⟨ba_ext e3, h3⟩

theorem encs_free (ls : List Nat) (i k : Ins) (hL : ∀ l ∈ ls, Ltr l) (hi : ∀ l ∈ ls, fitsB l i = true) (hk : ∀ l ∈ ls, fitsB l k = true) (h : encs ls i <+: encs ls k) : ∀ l ∈ ls, same (fld l) i k := by
  induction ls with
  | nil => intro l hl; cases hl
  | cons x ls ih =>
    have h' : encL x i ++ encs ls i <+: encL x k ++ encs ls k := h
    obtain ⟨h1, h2⟩ := encL_free x (hL x (List.mem_cons_self ..)) i k (hi x (List.mem_cons_self ..)) (hk x (List.mem_cons_self ..)) h'
    intro l hl
    rcases List.mem_cons.1 hl with rfl | hl'
    · exact h1
    · exact ih (fun l hl => hL l (List.mem_cons_of_mem _ hl)) (fun l hl => hi l (List.mem_cons_of_mem _ hl)) (fun l hl => hk l (List.mem_cons_of_mem _ hl)) h2 l hl'

theorem clr_other (l : Nat) (hl : Ltr l) (f : Nat) (h1 : 1 ≤ f) (h5 : f ≤ 5) (hne : f ≠ fld l) (i : Ins) : same f i (clr l i) := by
  obtain rfl | rfl | rfl | rfl | rfl : f = 1 ∨ f = 2 ∨ f = 3 ∨ f = 4 ∨ f = 5 := by omega
  all_goals rcases hl with rfl | rfl | rfl | rfl | rfl | rfl
  all_goals first | rfl | exact absurd rfl hne

theorem chk_other (ls : List Nat) : ∀ (i j : Ins), chkL ls i = some j → (∀ l ∈ ls, Ltr l) → ∀ f, 1 ≤ f → f ≤ 5 → f ∉ ls.map fld → same f i j := by
  induction ls with
  | nil => intro i j h _ f _ _ _; obtain rfl := Option.some.inj (show some i = some j from h); exact same.rfl'
  | cons x ls ih =>
    intro i j h hL f h1 h5 hf
    have hk : fitsB x i = true := by
      by_cases e : fitsB x i = true
      · exact e
      · simp [chkL, e] at h
    have h' : chkL ls (clr x i) = some j := by simpa [chkL, hk] using h
    have hf' : f ≠ fld x ∧ f ∉ ls.map fld := by simpa [not_or] using hf
    exact (clr_other x (hL x (List.mem_cons_self ..)) f h1 h5 hf'.1 i).trans (ih _ j h' (fun l hl => hL l (List.mem_cons_of_mem _ hl)) f h1 h5 hf'.2)

theorem blank_same {i j : Ins} (h : blank i) (h' : blank j) (f : Nat) (h1 : 1 ≤ f) (h5 : f ≤ 5) : same f i j := by
  obtain rfl | rfl | rfl | rfl | rfl : f = 1 ∨ f = 2 ∨ f = 3 ∨ f = 4 ∨ f = 5 := by omega
  · exact h.1.trans h'.1.symm
  · exact h.2.1.trans h'.2.1.symm
  · exact h.2.2.1.trans h'.2.2.1.symm
  · exact h.2.2.2.1.trans h'.2.2.2.1.symm
  · exact h.2.2.2.2.trans h'.2.2.2.2.symm

theorem ins_ext {i k : Ins} (h0 : i.op = k.op) (h : ∀ f, 1 ≤ f → f ≤ 5 → same f i k) : i = k := by
  have e1 : i.a = k.a := h 1 (by decide) (by decide)
  have e2 : i.b = k.b := h 2 (by decide) (by decide)
  have e3 : i.c = k.c := h 3 (by decide) (by decide)
  have e4 : i.n = k.n := h 4 (by decide) (by decide)
  have e5 : i.s = k.s := h 5 (by decide) (by decide)
  cases i; cases k
  simp only at h0 e1 e2 e3 e4 e5
  subst h0 e1 e2 e3 e4 e5
  rfl

theorem free {i k : Ins} {m p : Nat} (hi : Good i m) (hk : Good k p) (h : codeI i <+: codeI k) : i = k := by
  rw [hi.code, hk.code] at h
  obtain ⟨e, h2⟩ := pre_cons h
  have hmp : m = p := ofNat_inj' (by have := hi.hi; omega) (by have := hk.hi; omega) e
  subst hmp
  have hS := encs_free (ltrs m) i k (ltrs_ok m hi.hi) hi.fit hk.fit h2
  refine ins_ext (hi.op.trans hk.op.symm) fun f h1 h5 => ?_
  by_cases hf : f ∈ (ltrs m).map fld
  · obtain ⟨l, hl, rfl⟩ := List.mem_map.1 hf
    exact hS l hl
  · obtain ⟨j, hj, bj⟩ := hi.left
    obtain ⟨j', hj', bj'⟩ := hk.left
    exact (chk_other _ _ _ hj (ltrs_ok m hi.hi) f h1 h5 hf).trans ((blank_same bj bj' f h1 h5).trans (chk_other _ _ _ hj' (ltrs_ok m hi.hi) f h1 h5 hf).symm)

end Go.Proofs.Ytojgikaoiegmpaa

/- Code: the document's Has, Most, reg, Check. -/
namespace Go.Proofs.Ytojgikaoiegmpaa
open Go.RowKit Go.IntWalk Go.Lib
set_option linter.unusedSimpArgs false
set_option linter.unusedVariables false
set_option maxRecDepth 100000

/-- What an Op has: registers A, B, C, a number, a text. -/
def hasT (op : Int) : Bool × Bool × Bool × Bool × Bool :=
  if op = 1 then (true, false, false, false, true) else
  if op = 2 ∨ op = 4 then (true, true, false, false, false) else
  if op = 3 ∨ op = 7 ∨ op = 8 ∨ op = 9 ∨ op = 10 ∨ op = 11 then (true, true, true, false, false) else
  if op = 5 ∨ op = 14 then (true, false, false, false, false) else
  if op = 6 then (true, true, true, true, false) else
  if op = 12 then (true, false, false, true, false) else
  if op = 13 then (false, false, false, true, false) else (false, false, false, false, false)
def hasV (t : Bool × Bool × Bool × Bool × Bool) : Value := .tuple #[.bool t.1, .bool t.2.1, .bool t.2.2.1, .bool t.2.2.2.1, .bool t.2.2.2.2]

set_option maxRecDepth 100000 in
theorem vhas_any (op : Int) (w : World) : Calls Try.prog 56 #[.int .i64 op] w fun e w' => e = .returned (hasV (hasT op)) ∧ w' = w := by
  by_cases h1 : op = 1
  · subst h1
    rw [show hasT 1 = (true, false, false, false, true) from rfl]
    go_enter Try.func56, Try.ntmps56
    go_wp2_with fail
    exact bodyPost_ret (v := hasV (true, false, false, false, true)) (by simp [results, Try.results56, go_sem, hasV]) rfl ⟨rfl, rfl⟩
  by_cases h2 : op = 2
  · subst h2
    clear h1
    rw [show hasT 2 = (true, true, false, false, false) from rfl]
    go_enter Try.func56, Try.ntmps56
    go_wp2_with fail
    exact bodyPost_ret (v := hasV (true, true, false, false, false)) (by simp [results, Try.results56, go_sem, hasV]) rfl ⟨rfl, rfl⟩
  by_cases h3 : op = 3
  · subst h3
    clear h1 h2
    rw [show hasT 3 = (true, true, true, false, false) from rfl]
    go_enter Try.func56, Try.ntmps56
    go_wp2_with fail
    exact bodyPost_ret (v := hasV (true, true, true, false, false)) (by simp [results, Try.results56, go_sem, hasV]) rfl ⟨rfl, rfl⟩
  by_cases h4 : op = 4
  · subst h4
    clear h1 h2 h3
    rw [show hasT 4 = (true, true, false, false, false) from rfl]
    go_enter Try.func56, Try.ntmps56
    go_wp2_with fail
    exact bodyPost_ret (v := hasV (true, true, false, false, false)) (by simp [results, Try.results56, go_sem, hasV]) rfl ⟨rfl, rfl⟩
  by_cases h5 : op = 5
  · subst h5
    clear h1 h2 h3 h4
    rw [show hasT 5 = (true, false, false, false, false) from rfl]
    go_enter Try.func56, Try.ntmps56
    go_wp2_with fail
    exact bodyPost_ret (v := hasV (true, false, false, false, false)) (by simp [results, Try.results56, go_sem, hasV]) rfl ⟨rfl, rfl⟩
  by_cases h6 : op = 6
  · subst h6
    clear h1 h2 h3 h4 h5
    rw [show hasT 6 = (true, true, true, true, false) from rfl]
    go_enter Try.func56, Try.ntmps56
    go_wp2_with fail
    exact bodyPost_ret (v := hasV (true, true, true, true, false)) (by simp [results, Try.results56, go_sem, hasV]) rfl ⟨rfl, rfl⟩
  by_cases h7 : op = 7
  · subst h7
    clear h1 h2 h3 h4 h5 h6
    rw [show hasT 7 = (true, true, true, false, false) from rfl]
    go_enter Try.func56, Try.ntmps56
    go_wp2_with fail
    exact bodyPost_ret (v := hasV (true, true, true, false, false)) (by simp [results, Try.results56, go_sem, hasV]) rfl ⟨rfl, rfl⟩
  by_cases h8 : op = 8
  · subst h8
    clear h1 h2 h3 h4 h5 h6 h7
    rw [show hasT 8 = (true, true, true, false, false) from rfl]
    go_enter Try.func56, Try.ntmps56
    go_wp2_with fail
    exact bodyPost_ret (v := hasV (true, true, true, false, false)) (by simp [results, Try.results56, go_sem, hasV]) rfl ⟨rfl, rfl⟩
  by_cases h9 : op = 9
  · subst h9
    clear h1 h2 h3 h4 h5 h6 h7 h8
    rw [show hasT 9 = (true, true, true, false, false) from rfl]
    go_enter Try.func56, Try.ntmps56
    go_wp2_with fail
    exact bodyPost_ret (v := hasV (true, true, true, false, false)) (by simp [results, Try.results56, go_sem, hasV]) rfl ⟨rfl, rfl⟩
  by_cases h10 : op = 10
  · subst h10
    clear h1 h2 h3 h4 h5 h6 h7 h8 h9
    rw [show hasT 10 = (true, true, true, false, false) from rfl]
    go_enter Try.func56, Try.ntmps56
    go_wp2_with fail
    exact bodyPost_ret (v := hasV (true, true, true, false, false)) (by simp [results, Try.results56, go_sem, hasV]) rfl ⟨rfl, rfl⟩
  by_cases h11 : op = 11
  · subst h11
    clear h1 h2 h3 h4 h5 h6 h7 h8 h9 h10
    rw [show hasT 11 = (true, true, true, false, false) from rfl]
    go_enter Try.func56, Try.ntmps56
    go_wp2_with fail
    exact bodyPost_ret (v := hasV (true, true, true, false, false)) (by simp [results, Try.results56, go_sem, hasV]) rfl ⟨rfl, rfl⟩
  by_cases h12 : op = 12
  · subst h12
    clear h1 h2 h3 h4 h5 h6 h7 h8 h9 h10 h11
    rw [show hasT 12 = (true, false, false, true, false) from rfl]
    go_enter Try.func56, Try.ntmps56
    go_wp2_with fail
    exact bodyPost_ret (v := hasV (true, false, false, true, false)) (by simp [results, Try.results56, go_sem, hasV]) rfl ⟨rfl, rfl⟩
  by_cases h13 : op = 13
  · subst h13
    clear h1 h2 h3 h4 h5 h6 h7 h8 h9 h10 h11 h12
    rw [show hasT 13 = (false, false, false, true, false) from rfl]
    go_enter Try.func56, Try.ntmps56
    go_wp2_with fail
    exact bodyPost_ret (v := hasV (false, false, false, true, false)) (by simp [results, Try.results56, go_sem, hasV]) rfl ⟨rfl, rfl⟩
  by_cases h14 : op = 14
  · subst h14
    clear h1 h2 h3 h4 h5 h6 h7 h8 h9 h10 h11 h12 h13
    rw [show hasT 14 = (true, false, false, false, false) from rfl]
    go_enter Try.func56, Try.ntmps56
    go_wp2_with fail
    exact bodyPost_ret (v := hasV (true, false, false, false, false)) (by simp [results, Try.results56, go_sem, hasV]) rfl ⟨rfl, rfl⟩
  · rw [show hasT op = (false, false, false, false, false) by simp [hasT, h1, h2, h3, h4, h5, h6, h7, h8, h9, h10, h11, h12, h13, h14]]
    have e1 : (op == 1) = false := by simpa using h1
    have e2 : (op == 2) = false := by simpa using h2
    have e3 : (op == 3) = false := by simpa using h3
    have e4 : (op == 4) = false := by simpa using h4
    have e5 : (op == 5) = false := by simpa using h5
    have e6 : (op == 6) = false := by simpa using h6
    have e7 : (op == 7) = false := by simpa using h7
    have e8 : (op == 8) = false := by simpa using h8
    have e9 : (op == 9) = false := by simpa using h9
    have e10 : (op == 10) = false := by simpa using h10
    have e11 : (op == 11) = false := by simpa using h11
    have e12 : (op == 12) = false := by simpa using h12
    have e13 : (op == 13) = false := by simpa using h13
    have e14 : (op == 14) = false := by simpa using h14
    clear h1 h2 h3 h4 h5 h6 h7 h8 h9 h10 h11 h12 h13 h14
    go_enter Try.func56, Try.ntmps56
    go_wp2_with fail
    exact bodyPost_ret (v := hasV (false, false, false, false, false)) (by simp [results, Try.results56, go_sem, hasV]) rfl ⟨rfl, rfl⟩

def mostZ (op : Int) : Int := if op = 6 then 16 else 60
theorem vmost_any (op : Int) (w : World) : Calls Try.prog 57 #[.int .i64 op] w fun e w' => e = .returned (.int .i64 (mostZ op)) ∧ w' = w := by
  by_cases h : op = 6
  · subst h
    go_enter Try.func57, Try.ntmps57
    go_wp2_with fail
    go_ret
    exact ⟨rfl, rfl⟩
  · rw [show mostZ op = 60 from if_neg h]
    have e : (op == 6) = false := by simpa using h
    clear h
    go_enter Try.func57, Try.ntmps57
    go_wp2_with fail
    go_ret
    exact ⟨rfl, rfl⟩

def regB (n : Int) : Bool → Bool
  | true => decide (0 ≤ n) && decide (n < 8)
  | false => n == 0
def numB (n mx : Int) : Bool → Bool
  | true => decide (1 ≤ n) && decide (n ≤ mx)
  | false => n == 0
def txtB (s : ByteArray) : Bool → Bool
  | true => decide ((s.size : Int) ≤ 64)
  | false => s.toList == []
def vchkB (i : Ins) : Bool := regB i.a (hasT i.op).1 && (regB i.b (hasT i.op).2.1 && (regB i.c (hasT i.op).2.2.1 && (numB i.n (mostZ i.op) (hasT i.op).2.2.2.1 && txtB i.s (hasT i.op).2.2.2.2)))
def vchk (i : Ins) : Int := if decide (i.op < 1) then 2 else if decide (15 < i.op) then 2 else if vchkB i then 0 else 2

end Go.Proofs.Ytojgikaoiegmpaa

/- Code: what the document's Check answers is what Check answers. -/
namespace Go.Proofs.Ytojgikaoiegmpaa
open Go.RowKit Go.IntWalk Go.Lib
set_option linter.unusedSimpArgs false
set_option linter.unusedVariables false
set_option maxRecDepth 100000

def clrs (ls : List Nat) (i : Ins) : Ins := ls.foldl (fun i l => clr l i) i
theorem chkL_some (ls : List Nat) : ∀ i : Ins, (ls.map fld).Nodup → (∀ l ∈ ls, Ltr l) → (∀ l ∈ ls, fitsB l i = true) → chkL ls i = some (clrs ls i) := by
  induction ls with
  | nil => intro i _ _ _; rfl
  | cons k ls ih =>
    intro i hn hL hf
    have hn' := List.nodup_cons.1 (show (fld k :: ls.map fld).Nodup from hn)
    rw [chkL, if_pos (hf k (List.mem_cons_self ..))]
    refine ih (clr k i) hn'.2 (fun l hl => hL l (List.mem_cons_of_mem _ hl)) (fun l hl => ?_)
    rw [fits_clr l k (hL l (List.mem_cons_of_mem _ hl)) (hL k (List.mem_cons_self ..)) i (fun e => hn'.1 (by rw [← e]; exact List.mem_map_of_mem hl))]
    exact hf l (List.mem_cons_of_mem _ hl)
theorem chkL_iff (m : Nat) (hm : m ≤ 15) (i : Ins) : (∃ j, chkL (ltrs m) i = some j ∧ blank j) ↔ (∀ l ∈ ltrs m, fitsB l i = true) ∧ blank (clrs (ltrs m) i) := by
  constructor
  · rintro ⟨j, hj, hb⟩
    have hf := chkL_fits _ i j hj (ltrs_nodup m hm).1 (ltrs_ok m hm)
    have := chkL_some _ i (ltrs_nodup m hm).1 (ltrs_ok m hm) hf
    rw [hj] at this
    obtain rfl := Option.some.inj this
    exact ⟨hf, hb⟩
  · rintro ⟨hf, hb⟩
    exact ⟨_, chkL_some _ i (ltrs_nodup m hm).1 (ltrs_ok m hm) hf, hb⟩

theorem fb1 (i : Ins) : fitsB 65 i = true ↔ 0 ≤ i.a ∧ i.a ≤ 7 := by simp [fitsB, fld, lowL, highL, Ins.get]
theorem fb2 (i : Ins) : fitsB 66 i = true ↔ 0 ≤ i.b ∧ i.b ≤ 7 := by simp [fitsB, fld, lowL, highL, Ins.get]
theorem fb3 (i : Ins) : fitsB 67 i = true ↔ 0 ≤ i.c ∧ i.c ≤ 7 := by simp [fitsB, fld, lowL, highL, Ins.get]
theorem fb4 (i : Ins) : fitsB 69 i = true ↔ 1 ≤ i.n ∧ i.n ≤ 16 := by simp [fitsB, fld, lowL, highL, Ins.get]
theorem fb5 (i : Ins) : fitsB 80 i = true ↔ 1 ≤ i.n ∧ i.n ≤ 60 := by simp [fitsB, fld, lowL, highL, Ins.get]
theorem fb6 (i : Ins) : fitsB 83 i = true ↔ (i.s.size : Int) ≤ 64 := by simp [fitsB, fld]
theorem rb_t (n : Int) : regB n true = true ↔ 0 ≤ n ∧ n ≤ 7 := by simp [regB]; omega
theorem rb_f (n : Int) : regB n false = true ↔ n = 0 := by simp [regB]
theorem nb_t (n mx : Int) : numB n mx true = true ↔ 1 ≤ n ∧ n ≤ mx := by simp [numB]
theorem nb_f (n mx : Int) : numB n mx false = true ↔ n = 0 := by simp [numB]
theorem tb_t (s : ByteArray) : txtB s true = true ↔ (s.size : Int) ≤ 64 := by simp [txtB]
theorem tb_f (s : ByteArray) : txtB s false = true ↔ s = ⟨#[]⟩ := by
  simp only [txtB, beq_iff_eq]
  exact ⟨ba_nil, fun e => (toList_nil_iff_emptyBytes s).2 e⟩

theorem lit_iff (m : Nat) (h1 : 1 ≤ m) (hm : m ≤ 15) (a b c n : Int) (s : ByteArray) : vchkB ⟨m, a, b, c, n, s⟩ = true ↔ (∀ l ∈ ltrs m, fitsB l ⟨m, a, b, c, n, s⟩ = true) ∧ blank (clrs (ltrs m) ⟨m, a, b, c, n, s⟩) := by
  unfold vchkB
  simp only [Bool.and_eq_true]
  obtain rfl | rfl | rfl | rfl | rfl | rfl | rfl | rfl | rfl | rfl | rfl | rfl | rfl | rfl | rfl : m = 1 ∨ m = 2 ∨ m = 3 ∨ m = 4 ∨ m = 5 ∨ m = 6 ∨ m = 7 ∨ m = 8 ∨ m = 9 ∨ m = 10 ∨ m = 11 ∨ m = 12 ∨ m = 13 ∨ m = 14 ∨ m = 15 := by omega
  · rw [show ltrs 1 = [65, 83] from by decide]
    rw [show blank (clrs [65, 83] ⟨((1 : Nat) : Int), a, b, c, n, s⟩) = ((0 : Int) = 0 ∧ b = 0 ∧ c = 0 ∧ n = 0 ∧ (⟨#[]⟩ : ByteArray) = ⟨#[]⟩) from rfl]
    rw [show hasT (({ op := ((1 : Nat) : Int), a := a, b := b, c := c, n := n, s := s } : Ins).op) = (true, false, false, false, true) from rfl]
    simp only [nb_f, rb_f, rb_t, tb_t, List.forall_mem_cons, List.forall_mem_nil, fb1, fb6]
    constructor
    · rintro ⟨h0, h1, h2, h3, h4⟩
      exact ⟨⟨h0, h4, fun _ h => by cases h⟩, trivial, h1, h2, h3, trivial⟩
    · rintro ⟨⟨g0, g4, _⟩, h0, h1, h2, h3, h4⟩
      exact ⟨g0, h1, h2, h3, g4⟩
  · rw [show ltrs 2 = [65, 66] from by decide]
    rw [show blank (clrs [65, 66] ⟨((2 : Nat) : Int), a, b, c, n, s⟩) = ((0 : Int) = 0 ∧ (0 : Int) = 0 ∧ c = 0 ∧ n = 0 ∧ s = ⟨#[]⟩) from rfl]
    rw [show hasT (({ op := ((2 : Nat) : Int), a := a, b := b, c := c, n := n, s := s } : Ins).op) = (true, true, false, false, false) from rfl]
    simp only [nb_f, rb_f, rb_t, tb_f, List.forall_mem_cons, List.forall_mem_nil, fb1, fb2]
    constructor
    · rintro ⟨h0, h1, h2, h3, h4⟩
      exact ⟨⟨h0, h1, fun _ h => by cases h⟩, trivial, trivial, h2, h3, h4⟩
    · rintro ⟨⟨g0, g1, _⟩, h0, h1, h2, h3, h4⟩
      exact ⟨g0, g1, h2, h3, h4⟩
  · rw [show ltrs 3 = [65, 66, 67] from by decide]
    rw [show blank (clrs [65, 66, 67] ⟨((3 : Nat) : Int), a, b, c, n, s⟩) = ((0 : Int) = 0 ∧ (0 : Int) = 0 ∧ (0 : Int) = 0 ∧ n = 0 ∧ s = ⟨#[]⟩) from rfl]
    rw [show hasT (({ op := ((3 : Nat) : Int), a := a, b := b, c := c, n := n, s := s } : Ins).op) = (true, true, true, false, false) from rfl]
    simp only [nb_f, rb_t, tb_f, List.forall_mem_cons, List.forall_mem_nil, fb1, fb2, fb3]
    constructor
    · rintro ⟨h0, h1, h2, h3, h4⟩
      exact ⟨⟨h0, h1, h2, fun _ h => by cases h⟩, trivial, trivial, trivial, h3, h4⟩
    · rintro ⟨⟨g0, g1, g2, _⟩, h0, h1, h2, h3, h4⟩
      exact ⟨g0, g1, g2, h3, h4⟩
  · rw [show ltrs 4 = [65, 66] from by decide]
    rw [show blank (clrs [65, 66] ⟨((4 : Nat) : Int), a, b, c, n, s⟩) = ((0 : Int) = 0 ∧ (0 : Int) = 0 ∧ c = 0 ∧ n = 0 ∧ s = ⟨#[]⟩) from rfl]
    rw [show hasT (({ op := ((4 : Nat) : Int), a := a, b := b, c := c, n := n, s := s } : Ins).op) = (true, true, false, false, false) from rfl]
    simp only [nb_f, rb_f, rb_t, tb_f, List.forall_mem_cons, List.forall_mem_nil, fb1, fb2]
    constructor
    · rintro ⟨h0, h1, h2, h3, h4⟩
      exact ⟨⟨h0, h1, fun _ h => by cases h⟩, trivial, trivial, h2, h3, h4⟩
    · rintro ⟨⟨g0, g1, _⟩, h0, h1, h2, h3, h4⟩
      exact ⟨g0, g1, h2, h3, h4⟩
  · rw [show ltrs 5 = [65] from by decide]
    rw [show blank (clrs [65] ⟨((5 : Nat) : Int), a, b, c, n, s⟩) = ((0 : Int) = 0 ∧ b = 0 ∧ c = 0 ∧ n = 0 ∧ s = ⟨#[]⟩) from rfl]
    rw [show hasT (({ op := ((5 : Nat) : Int), a := a, b := b, c := c, n := n, s := s } : Ins).op) = (true, false, false, false, false) from rfl]
    simp only [nb_f, rb_f, rb_t, tb_f, List.forall_mem_cons, List.forall_mem_nil, fb1]
    constructor
    · rintro ⟨h0, h1, h2, h3, h4⟩
      exact ⟨⟨h0, fun _ h => by cases h⟩, trivial, h1, h2, h3, h4⟩
    · rintro ⟨⟨g0, _⟩, h0, h1, h2, h3, h4⟩
      exact ⟨g0, h1, h2, h3, h4⟩
  · rw [show ltrs 6 = [65, 66, 67, 69] from by decide]
    rw [show blank (clrs [65, 66, 67, 69] ⟨((6 : Nat) : Int), a, b, c, n, s⟩) = ((0 : Int) = 0 ∧ (0 : Int) = 0 ∧ (0 : Int) = 0 ∧ (0 : Int) = 0 ∧ s = ⟨#[]⟩) from rfl]
    rw [show hasT (({ op := ((6 : Nat) : Int), a := a, b := b, c := c, n := n, s := s } : Ins).op) = (true, true, true, true, false) from rfl]
    simp only [nb_t, rb_t, tb_f, List.forall_mem_cons, List.forall_mem_nil, fb1, fb2, fb3, fb4]
    rw [show mostZ ((6 : Nat) : Int) = 16 from rfl]
    constructor
    · rintro ⟨h0, h1, h2, h3, h4⟩
      exact ⟨⟨h0, h1, h2, h3, fun _ h => by cases h⟩, trivial, trivial, trivial, trivial, h4⟩
    · rintro ⟨⟨g0, g1, g2, g3, _⟩, h0, h1, h2, h3, h4⟩
      exact ⟨g0, g1, g2, g3, h4⟩
  · rw [show ltrs 7 = [65, 66, 67] from by decide]
    rw [show blank (clrs [65, 66, 67] ⟨((7 : Nat) : Int), a, b, c, n, s⟩) = ((0 : Int) = 0 ∧ (0 : Int) = 0 ∧ (0 : Int) = 0 ∧ n = 0 ∧ s = ⟨#[]⟩) from rfl]
    rw [show hasT (({ op := ((7 : Nat) : Int), a := a, b := b, c := c, n := n, s := s } : Ins).op) = (true, true, true, false, false) from rfl]
    simp only [nb_f, rb_t, tb_f, List.forall_mem_cons, List.forall_mem_nil, fb1, fb2, fb3]
    constructor
    · rintro ⟨h0, h1, h2, h3, h4⟩
      exact ⟨⟨h0, h1, h2, fun _ h => by cases h⟩, trivial, trivial, trivial, h3, h4⟩
    · rintro ⟨⟨g0, g1, g2, _⟩, h0, h1, h2, h3, h4⟩
      exact ⟨g0, g1, g2, h3, h4⟩
  · rw [show ltrs 8 = [65, 66, 67] from by decide]
    rw [show blank (clrs [65, 66, 67] ⟨((8 : Nat) : Int), a, b, c, n, s⟩) = ((0 : Int) = 0 ∧ (0 : Int) = 0 ∧ (0 : Int) = 0 ∧ n = 0 ∧ s = ⟨#[]⟩) from rfl]
    rw [show hasT (({ op := ((8 : Nat) : Int), a := a, b := b, c := c, n := n, s := s } : Ins).op) = (true, true, true, false, false) from rfl]
    simp only [nb_f, rb_t, tb_f, List.forall_mem_cons, List.forall_mem_nil, fb1, fb2, fb3]
    constructor
    · rintro ⟨h0, h1, h2, h3, h4⟩
      exact ⟨⟨h0, h1, h2, fun _ h => by cases h⟩, trivial, trivial, trivial, h3, h4⟩
    · rintro ⟨⟨g0, g1, g2, _⟩, h0, h1, h2, h3, h4⟩
      exact ⟨g0, g1, g2, h3, h4⟩
  · rw [show ltrs 9 = [65, 66, 67] from by decide]
    rw [show blank (clrs [65, 66, 67] ⟨((9 : Nat) : Int), a, b, c, n, s⟩) = ((0 : Int) = 0 ∧ (0 : Int) = 0 ∧ (0 : Int) = 0 ∧ n = 0 ∧ s = ⟨#[]⟩) from rfl]
    rw [show hasT (({ op := ((9 : Nat) : Int), a := a, b := b, c := c, n := n, s := s } : Ins).op) = (true, true, true, false, false) from rfl]
    simp only [nb_f, rb_t, tb_f, List.forall_mem_cons, List.forall_mem_nil, fb1, fb2, fb3]
    constructor
    · rintro ⟨h0, h1, h2, h3, h4⟩
      exact ⟨⟨h0, h1, h2, fun _ h => by cases h⟩, trivial, trivial, trivial, h3, h4⟩
    · rintro ⟨⟨g0, g1, g2, _⟩, h0, h1, h2, h3, h4⟩
      exact ⟨g0, g1, g2, h3, h4⟩
  · rw [show ltrs 10 = [65, 66, 67] from by decide]
    rw [show blank (clrs [65, 66, 67] ⟨((10 : Nat) : Int), a, b, c, n, s⟩) = ((0 : Int) = 0 ∧ (0 : Int) = 0 ∧ (0 : Int) = 0 ∧ n = 0 ∧ s = ⟨#[]⟩) from rfl]
    rw [show hasT (({ op := ((10 : Nat) : Int), a := a, b := b, c := c, n := n, s := s } : Ins).op) = (true, true, true, false, false) from rfl]
    simp only [nb_f, rb_t, tb_f, List.forall_mem_cons, List.forall_mem_nil, fb1, fb2, fb3]
    constructor
    · rintro ⟨h0, h1, h2, h3, h4⟩
      exact ⟨⟨h0, h1, h2, fun _ h => by cases h⟩, trivial, trivial, trivial, h3, h4⟩
    · rintro ⟨⟨g0, g1, g2, _⟩, h0, h1, h2, h3, h4⟩
      exact ⟨g0, g1, g2, h3, h4⟩
  · rw [show ltrs 11 = [65, 66, 67] from by decide]
    rw [show blank (clrs [65, 66, 67] ⟨((11 : Nat) : Int), a, b, c, n, s⟩) = ((0 : Int) = 0 ∧ (0 : Int) = 0 ∧ (0 : Int) = 0 ∧ n = 0 ∧ s = ⟨#[]⟩) from rfl]
    rw [show hasT (({ op := ((11 : Nat) : Int), a := a, b := b, c := c, n := n, s := s } : Ins).op) = (true, true, true, false, false) from rfl]
    simp only [nb_f, rb_t, tb_f, List.forall_mem_cons, List.forall_mem_nil, fb1, fb2, fb3]
    constructor
    · rintro ⟨h0, h1, h2, h3, h4⟩
      exact ⟨⟨h0, h1, h2, fun _ h => by cases h⟩, trivial, trivial, trivial, h3, h4⟩
    · rintro ⟨⟨g0, g1, g2, _⟩, h0, h1, h2, h3, h4⟩
      exact ⟨g0, g1, g2, h3, h4⟩
  · rw [show ltrs 12 = [65, 80] from by decide]
    rw [show blank (clrs [65, 80] ⟨((12 : Nat) : Int), a, b, c, n, s⟩) = ((0 : Int) = 0 ∧ b = 0 ∧ c = 0 ∧ (0 : Int) = 0 ∧ s = ⟨#[]⟩) from rfl]
    rw [show hasT (({ op := ((12 : Nat) : Int), a := a, b := b, c := c, n := n, s := s } : Ins).op) = (true, false, false, true, false) from rfl]
    simp only [nb_t, rb_f, rb_t, tb_f, List.forall_mem_cons, List.forall_mem_nil, fb1, fb5]
    rw [show mostZ ((12 : Nat) : Int) = 60 from rfl]
    constructor
    · rintro ⟨h0, h1, h2, h3, h4⟩
      exact ⟨⟨h0, h3, fun _ h => by cases h⟩, trivial, h1, h2, trivial, h4⟩
    · rintro ⟨⟨g0, g3, _⟩, h0, h1, h2, h3, h4⟩
      exact ⟨g0, h1, h2, g3, h4⟩
  · rw [show ltrs 13 = [80] from by decide]
    rw [show blank (clrs [80] ⟨((13 : Nat) : Int), a, b, c, n, s⟩) = (a = 0 ∧ b = 0 ∧ c = 0 ∧ (0 : Int) = 0 ∧ s = ⟨#[]⟩) from rfl]
    rw [show hasT (({ op := ((13 : Nat) : Int), a := a, b := b, c := c, n := n, s := s } : Ins).op) = (false, false, false, true, false) from rfl]
    simp only [nb_t, rb_f, tb_f, List.forall_mem_cons, List.forall_mem_nil, fb5]
    rw [show mostZ ((13 : Nat) : Int) = 60 from rfl]
    constructor
    · rintro ⟨h0, h1, h2, h3, h4⟩
      exact ⟨⟨h3, fun _ h => by cases h⟩, h0, h1, h2, trivial, h4⟩
    · rintro ⟨⟨g3, _⟩, h0, h1, h2, h3, h4⟩
      exact ⟨h0, h1, h2, g3, h4⟩
  · rw [show ltrs 14 = [65] from by decide]
    rw [show blank (clrs [65] ⟨((14 : Nat) : Int), a, b, c, n, s⟩) = ((0 : Int) = 0 ∧ b = 0 ∧ c = 0 ∧ n = 0 ∧ s = ⟨#[]⟩) from rfl]
    rw [show hasT (({ op := ((14 : Nat) : Int), a := a, b := b, c := c, n := n, s := s } : Ins).op) = (true, false, false, false, false) from rfl]
    simp only [nb_f, rb_f, rb_t, tb_f, List.forall_mem_cons, List.forall_mem_nil, fb1]
    constructor
    · rintro ⟨h0, h1, h2, h3, h4⟩
      exact ⟨⟨h0, fun _ h => by cases h⟩, trivial, h1, h2, h3, h4⟩
    · rintro ⟨⟨g0, _⟩, h0, h1, h2, h3, h4⟩
      exact ⟨g0, h1, h2, h3, h4⟩
  · rw [show ltrs 15 = [] from by decide]
    rw [show blank (clrs [] ⟨((15 : Nat) : Int), a, b, c, n, s⟩) = (a = 0 ∧ b = 0 ∧ c = 0 ∧ n = 0 ∧ s = ⟨#[]⟩) from rfl]
    rw [show hasT (({ op := ((15 : Nat) : Int), a := a, b := b, c := c, n := n, s := s } : Ins).op) = (false, false, false, false, false) from rfl]
    simp only [nb_f, rb_f, tb_f, List.forall_mem_cons, List.forall_mem_nil]
    constructor
    · rintro ⟨h0, h1, h2, h3, h4⟩
      exact ⟨(fun _ h => by cases h), h0, h1, h2, h3, h4⟩
    · rintro ⟨_, h0, h1, h2, h3, h4⟩
      exact ⟨h0, h1, h2, h3, h4⟩

theorem vchk_eq (i : Ins) : vchk i = checkE i := by
  unfold vchk
  by_cases h1 : i.op < 1
  · rw [if_pos (by simp [h1]), checkE_out i (by omega)]
  by_cases h2 : 15 < i.op
  · rw [if_neg (by simp [h1]), if_pos (by simp [h2]), checkE_out i (by omega)]
  rw [if_neg (by simp [h1]), if_neg (by simp [h2])]
  obtain ⟨op, a, b, c, n, s⟩ := i
  simp only at h1 h2
  obtain ⟨m, rfl⟩ : ∃ m : Nat, op = m := ⟨op.toNat, by omega⟩
  have hl := lit_iff m (by omega) (by omega) a b c n s
  rw [← chkL_iff m (by omega)] at hl
  by_cases hv : vchkB ⟨m, a, b, c, n, s⟩ = true
  · obtain ⟨j, hj, hb⟩ := hl.1 hv
    rw [if_pos hv, checkE_ok _ j (by show (1 : Int) ≤ m; omega) (by show (m : Int) ≤ 15; omega) (by show chkL (ltrs (m : Int).toNat) _ = _; rw [Int.toNat_natCast]; exact hj) hb]
  · rw [if_neg hv]
    unfold checkE
    rw [if_neg]
    rintro ⟨_, _, j, hj, hb⟩
    exact hv (hl.2 ⟨j, by rw [← hj]; show _ = chkL (ltrs (m : Int).toNat) _; rw [Int.toNat_natCast], hb⟩)

end Go.Proofs.Ytojgikaoiegmpaa

/- Code, on paper: bytes are read as their instruction; what is read is told as its bytes. -/
namespace Go.Proofs.Ytojgikaoiegmpaa
open Go.RowKit Go.IntWalk Go.Lib
set_option linter.unusedSimpArgs false
set_option linter.unusedVariables false
set_option maxRecDepth 100000

theorem u8_of (n : Nat) (h : n ≤ 127) : (UInt8.ofNat n).toNat = n := by
  rw [UInt8.toNat_ofNat']
  omega

/-! What is written is read. -/
theorem scan_one (n : Nat) (hn : n ≤ 127) (r : List UInt8) : scan (UInt8.ofNat n :: r) 0 0 = .ok (n, 1) := by
  have e := u8_of n hn
  rw [scan_last (by omega) (by omega), e]
  simp
  omega
theorem drop_pre (pre r : List UInt8) : (pre ++ r).drop pre.length = r := by simp
theorem rdNum_one (pre r : List UInt8) (n : Nat) (hn : n ≤ 127) (lo hi ab : Int) (h1 : lo ≤ n) (h2 : (n : Int) ≤ hi) : rdNum (pre ++ UInt8.ofNat n :: r) pre.length lo hi ab = .inr (n, pre.length + 1) := by
  unfold rdNum
  rw [drop_pre, scan_one n hn]
  simp only
  rw [if_neg (by omega), if_neg (by omega)]
theorem rInt_one (pre r : List UInt8) (n : Nat) (hn : n ≤ 127) (lo hi x : Int) (h1 : lo ≤ n) (h2 : (n : Int) ≤ hi) : rInt (pre ++ UInt8.ofNat n :: r) lo hi (pre.length, 0, x) = ((n : Int), (pre.length + 1, 0, x)) := by
  unfold rInt
  rw [if_neg (by simp)]
  simp only
  rw [rdNum_one pre r n hn lo hi 5 h1 h2]
theorem rText_one (pre r x : List UInt8) (hx : x.length ≤ 64) (y : Int) : rText (pre ++ UInt8.ofNat x.length :: (x ++ r)) 64 (pre.length, 0, y) = (x, (pre.length + 1 + x.length, 0, y)) := by
  unfold rText rdText
  rw [if_neg (by simp)]
  simp only
  rw [rdNum_one pre (x ++ r) x.length (by omega) 0 64 3 (by omega) (by omega)]
  simp only
  rw [if_neg (by simp; omega)]
  simp

def setf (i : Ins) (j : Ins) (l : Nat) : Ins := if fld l = 5 then { j with s := i.s } else j.put (fld l) (i.get (fld l))

theorem tk_one (l : Nat) (hl : Ltr l) (i j : Ins) (hf : fitsB l i = true) (pre r : List UInt8) : tk (pre ++ encL l i ++ r) l j (pre.length, 0, 0) = (setf i j l, (pre.length + (encL l i).length, 0, 0)) := by
  have num : ∀ (f : Nat) (lo hi v : Int) (h0 : 0 ≤ v) (h1 : v ≤ 127) (h2 : lo ≤ v) (h3 : v ≤ hi), rInt (pre ++ [UInt8.ofNat v.toNat] ++ r) lo hi (pre.length, 0, 0) = (v, (pre.length + 1, 0, 0)) := fun f lo hi v h0 h1 h2 h3 => by
    obtain ⟨n, rfl⟩ := Int.eq_ofNat_of_zero_le h0
    rw [List.append_assoc]
    exact rInt_one pre r n (by omega) lo hi 0 h2 h3
  rcases hl with rfl | rfl | rfl | rfl | rfl | rfl
  · have hv := (fb1 i).1 hf
    show (j.put 1 (rInt (pre ++ [UInt8.ofNat i.a.toNat] ++ r) 0 7 (pre.length, 0, 0)).1, (rInt (pre ++ [UInt8.ofNat i.a.toNat] ++ r) 0 7 (pre.length, 0, 0)).2) = _
    rw [num 1 0 7 i.a (by omega) (by omega) (by omega) (by omega)]
    rfl
  · have hv := (fb2 i).1 hf
    show (j.put 2 (rInt (pre ++ [UInt8.ofNat i.b.toNat] ++ r) 0 7 (pre.length, 0, 0)).1, (rInt (pre ++ [UInt8.ofNat i.b.toNat] ++ r) 0 7 (pre.length, 0, 0)).2) = _
    rw [num 1 0 7 i.b (by omega) (by omega) (by omega) (by omega)]
    rfl
  · have hv := (fb3 i).1 hf
    show (j.put 3 (rInt (pre ++ [UInt8.ofNat i.c.toNat] ++ r) 0 7 (pre.length, 0, 0)).1, (rInt (pre ++ [UInt8.ofNat i.c.toNat] ++ r) 0 7 (pre.length, 0, 0)).2) = _
    rw [num 1 0 7 i.c (by omega) (by omega) (by omega) (by omega)]
    rfl
  · have hv := (fb4 i).1 hf
    show (j.put 4 (rInt (pre ++ [UInt8.ofNat i.n.toNat] ++ r) 1 16 (pre.length, 0, 0)).1, (rInt (pre ++ [UInt8.ofNat i.n.toNat] ++ r) 1 16 (pre.length, 0, 0)).2) = _
    rw [num 1 1 16 i.n (by omega) (by omega) (by omega) (by omega)]
    rfl
  · have hv := (fb5 i).1 hf
    show (j.put 4 (rInt (pre ++ [UInt8.ofNat i.n.toNat] ++ r) 1 60 (pre.length, 0, 0)).1, (rInt (pre ++ [UInt8.ofNat i.n.toNat] ++ r) 1 60 (pre.length, 0, 0)).2) = _
    rw [num 1 1 60 i.n (by omega) (by omega) (by omega) (by omega)]
    rfl
  · have hv := (fb6 i).1 hf
    have hlen := ba_len i.s
    have e : pre ++ (UInt8.ofNat i.s.size :: i.s.data.toList) ++ r = pre ++ UInt8.ofNat i.s.data.toList.length :: (i.s.data.toList ++ r) := by rw [hlen]; simp
    show ({ j with s := ⟨(rText (pre ++ (UInt8.ofNat i.s.size :: i.s.data.toList) ++ r) 64 (pre.length, 0, 0)).1.toArray⟩ }, (rText (pre ++ (UInt8.ofNat i.s.size :: i.s.data.toList) ++ r) 64 (pre.length, 0, 0)).2) = _
    rw [e, rText_one pre r i.s.data.toList (by omega) 0]
    show (({ j with s := ⟨i.s.data.toList.toArray⟩ } : Ins), _) = (({ j with s := i.s } : Ins), (pre.length + (UInt8.ofNat i.s.size :: i.s.data.toList).length, (0 : Int), (0 : Int)))
    rw [List.length_cons, Array.toArray_toList, show pre.length + 1 + i.s.data.toList.length = pre.length + (i.s.data.toList.length + 1) by omega]

theorem tks_one (ls : List Nat) (i : Ins) (r : List UInt8) : ∀ (pre : List UInt8) (j : Ins), (∀ l ∈ ls, Ltr l) → (∀ l ∈ ls, fitsB l i = true) → tks (pre ++ encs ls i ++ r) ls (j, (pre.length, 0, 0)) = (ls.foldl (setf i) j, (pre.length + (encs ls i).length, 0, 0)) := by
  induction ls with
  | nil => intro pre j _ _; rfl
  | cons l ls ih =>
    intro pre j hL hf
    have e : pre ++ encs (l :: ls) i ++ r = pre ++ encL l i ++ (encs ls i ++ r) := by simp [encs]
    have e2 : pre ++ encs (l :: ls) i ++ r = (pre ++ encL l i) ++ encs ls i ++ r := by simp [encs]
    show tks _ ls (tk (pre ++ encs (l :: ls) i ++ r) l j (pre.length, 0, 0)) = _
    rw [e, tk_one l (hL l (List.mem_cons_self ..)) i j (hf l (List.mem_cons_self ..)) pre (encs ls i ++ r), ← e, e2]
    have h := ih (pre ++ encL l i) (setf i j l) (fun l hl => hL l (List.mem_cons_of_mem _ hl)) (fun l hl => hf l (List.mem_cons_of_mem _ hl))
    rw [List.length_append] at h
    rw [h]
    show (_, _) = (_, _)
    rw [show encs (l :: ls) i = encL l i ++ encs ls i from rfl, List.length_append, Nat.add_assoc]
    rfl

theorem setf_op (i : Ins) : ∀ (ls : List Nat) (j : Ins), (ls.foldl (setf i) j).op = j.op
  | [], _ => rfl
  | l :: ls, j => by
    rw [List.foldl_cons, setf_op i ls]
    unfold setf Ins.put
    split
    · rfl
    split
    · rfl
    split
    · rfl
    split <;> rfl

theorem setf_all (m : Nat) (i : Ins) (hG : Good i m) : (ltrs m).foldl (setf i) ⟨m, 0, 0, 0, 0, ⟨#[]⟩⟩ = i := by
  have hb := ((chkL_iff m hG.hi i).1 hG.left).2
  have ho := hG.op
  have h1 := hG.lo
  have h2 := hG.hi
  clear hG
  obtain ⟨op, a, b, c, n, s⟩ := i
  obtain rfl : op = m := ho
  obtain rfl | rfl | rfl | rfl | rfl | rfl | rfl | rfl | rfl | rfl | rfl | rfl | rfl | rfl | rfl : m = 1 ∨ m = 2 ∨ m = 3 ∨ m = 4 ∨ m = 5 ∨ m = 6 ∨ m = 7 ∨ m = 8 ∨ m = 9 ∨ m = 10 ∨ m = 11 ∨ m = 12 ∨ m = 13 ∨ m = 14 ∨ m = 15 := by omega
  all_goals
    obtain ⟨e1, e2, e3, e4, e5⟩ := hb
    simp only [clrs, show ltrs 1 = [65, 83] from by decide, show ltrs 2 = [65, 66] from by decide, show ltrs 3 = [65, 66, 67] from by decide, show ltrs 4 = [65, 66] from by decide, show ltrs 5 = [65] from by decide, show ltrs 6 = [65, 66, 67, 69] from by decide, show ltrs 7 = [65, 66, 67] from by decide, show ltrs 8 = [65, 66, 67] from by decide, show ltrs 9 = [65, 66, 67] from by decide, show ltrs 10 = [65, 66, 67] from by decide, show ltrs 11 = [65, 66, 67] from by decide, show ltrs 12 = [65, 80] from by decide, show ltrs 13 = [80] from by decide, show ltrs 14 = [65] from by decide, show ltrs 15 = [] from by decide, List.foldl_cons, List.foldl_nil, clr, setf, fld, Ins.put, Ins.get] at e1 e2 e3 e4 e5 ⊢
    simp at e1 e2 e3 e4 e5 ⊢
    try simp [*]

theorem rInt_head (r : List UInt8) (m : Nat) (h1 : 1 ≤ m) (h2 : m ≤ 15) : rInt (UInt8.ofNat m :: r) 1 15 (0, 0, 0) = ((m : Int), (1, 0, 0)) := rInt_one [] r m (by omega) 1 15 0 (by omega) (by omega)

theorem rdI_code (m : Nat) (i : Ins) (hG : Good i m) (r : List UInt8) : rdI (codeI i ++ r) = (i, ((codeI i).length, 0, 0)) := by
  have h := tks_one (ltrs m) i r [UInt8.ofNat m] ⟨m, 0, 0, 0, 0, ⟨#[]⟩⟩ (ltrs_ok m hG.hi) hG.fit
  rw [setf_all m i hG] at h
  rw [hG.code]
  unfold rdI
  rw [show (UInt8.ofNat m :: encs (ltrs m) i) ++ r = UInt8.ofNat m :: (encs (ltrs m) i ++ r) from rfl, rInt_head _ m hG.lo hG.hi]
  simp only [Int.toNat_natCast]
  rw [show UInt8.ofNat m :: (encs (ltrs m) i ++ r) = [UInt8.ofNat m] ++ encs (ltrs m) i ++ r from rfl]
  refine h.trans ?_
  simp only [List.length_cons, List.length_nil]
  rw [show 0 + 1 + (encs (ltrs m) i).length = (encs (ltrs m) i).length + 1 by omega]

theorem codeI_len (m : Nat) (i : Ins) (hG : Good i m) : 1 ≤ (codeI i).length ∧ (codeI i).length ≤ 67 := by
  have hf := hG.fit
  rw [hG.code, List.length_cons]
  refine ⟨by omega, ?_⟩
  have h1 := hG.lo
  have h2 := hG.hi
  clear hG
  have hs : ∀ l, fld l ≠ 5 → (encL l i).length = 1 := fun l h => by unfold encL; rw [if_neg h]; rfl
  have ht : fitsB 83 i = true → (encL 83 i).length ≤ 65 := fun h => encL_len 83 (by decide) i h
  have e1 := hs 65 (by decide)
  have e2 := hs 66 (by decide)
  have e3 := hs 67 (by decide)
  have e4 := hs 69 (by decide)
  have e5 := hs 80 (by decide)
  obtain rfl | rfl | rfl | rfl | rfl | rfl | rfl | rfl | rfl | rfl | rfl | rfl | rfl | rfl | rfl : m = 1 ∨ m = 2 ∨ m = 3 ∨ m = 4 ∨ m = 5 ∨ m = 6 ∨ m = 7 ∨ m = 8 ∨ m = 9 ∨ m = 10 ∨ m = 11 ∨ m = 12 ∨ m = 13 ∨ m = 14 ∨ m = 15 := by omega
  · have e6 := ht (hf 83 (by decide))
    show (encL 65 i ++ (encL 83 i ++ [])).length + 1 ≤ 67
    simp only [List.length_append, List.length_nil]; omega
  · show (encL 65 i ++ (encL 66 i ++ [])).length + 1 ≤ 67
    simp only [List.length_append, List.length_nil]; omega
  · show (encL 65 i ++ (encL 66 i ++ (encL 67 i ++ []))).length + 1 ≤ 67
    simp only [List.length_append, List.length_nil]; omega
  · show (encL 65 i ++ (encL 66 i ++ [])).length + 1 ≤ 67
    simp only [List.length_append, List.length_nil]; omega
  · show (encL 65 i ++ []).length + 1 ≤ 67
    simp only [List.length_append, List.length_nil]; omega
  · show (encL 65 i ++ (encL 66 i ++ (encL 67 i ++ (encL 69 i ++ [])))).length + 1 ≤ 67
    simp only [List.length_append, List.length_nil]; omega
  · show (encL 65 i ++ (encL 66 i ++ (encL 67 i ++ []))).length + 1 ≤ 67
    simp only [List.length_append, List.length_nil]; omega
  · show (encL 65 i ++ (encL 66 i ++ (encL 67 i ++ []))).length + 1 ≤ 67
    simp only [List.length_append, List.length_nil]; omega
  · show (encL 65 i ++ (encL 66 i ++ (encL 67 i ++ []))).length + 1 ≤ 67
    simp only [List.length_append, List.length_nil]; omega
  · show (encL 65 i ++ (encL 66 i ++ (encL 67 i ++ []))).length + 1 ≤ 67
    simp only [List.length_append, List.length_nil]; omega
  · show (encL 65 i ++ (encL 66 i ++ (encL 67 i ++ []))).length + 1 ≤ 67
    simp only [List.length_append, List.length_nil]; omega
  · show (encL 65 i ++ (encL 80 i ++ [])).length + 1 ≤ 67
    simp only [List.length_append, List.length_nil]; omega
  · show (encL 80 i ++ []).length + 1 ≤ 67
    simp only [List.length_append, List.length_nil]; omega
  · show (encL 65 i ++ []).length + 1 ≤ 67
    simp only [List.length_append, List.length_nil]; omega
  · show ([] : List UInt8).length + 1 ≤ 67
    simp

/-- What is written, ahead and behind whatever it stands, is read. -/
theorem readR_code (m : Nat) (i : Ins) (hG : Good i m) (pre r : List UInt8) : readR (pre ++ codeI i ++ r) (pre.length : Int) = (i, (pre.length : Int) + (codeI i).length, 0, 0) := by
  have hl := codeI_len m i hG
  have hw : win (pre ++ codeI i ++ r) pre.length = codeI i ++ r.take (67 - (codeI i).length) := by
    unfold win
    rw [List.append_assoc, drop_pre, List.take_append, List.take_of_length_le hl.2]
  unfold readR
  rw [if_neg (by simp only [List.length_append]; omega), Int.toNat_natCast, hw, rdI_code m i hG, if_pos rfl]

/-! Cut short it is not. -/
theorem tk_sticks (cs : List UInt8) (l : Nat) (j : Ins) (s : Nat × Int × Int) (h : s.2.1 ≠ 0) : (tk cs l j s).2 = s := by
  unfold tk rText rInt
  simp only [if_pos h]
  split <;> rfl
theorem tks_sticks (cs : List UInt8) : ∀ (ls : List Nat) (j : Ins) (s : Nat × Int × Int), s.2.1 ≠ 0 → (tks cs ls (j, s)).2 = s
  | [], _, _, _ => rfl
  | l :: ls, j, s, h => by
    show (tks cs ls (tk cs l j s)).2 = s
    have e := tk_sticks cs l j s h
    rw [show tk cs l j s = ((tk cs l j s).1, s) from Prod.ext rfl e]
    exact tks_sticks cs ls _ s h

theorem rdNum_end (pre : List UInt8) (lo hi ab : Int) : rdNum pre pre.length lo hi ab = .inl (4, pre.length) := by
  unfold rdNum
  rw [List.drop_length, scan_end]
  rfl
theorem tk_cut (l : Nat) (hl : Ltr l) (i j : Ins) (hf : fitsB l i = true) (pre : List UInt8) (k : Nat) (hk : k < (encL l i).length) : (tk (pre ++ (encL l i).take k) l j (pre.length, 0, 0)).2 = (pre.length, 4, ((pre ++ (encL l i).take k).length : Int)) := by
  cases k with
  | zero =>
    rw [List.take_zero, List.append_nil]
    have e1 : ∀ lo hi, rInt pre lo hi (pre.length, 0, 0) = (0, (pre.length, 4, (pre.length : Int))) := fun lo hi => by
      unfold rInt
      rw [if_neg (by simp)]
      simp only
      rw [rdNum_end]
    have e2 : rText pre 64 (pre.length, 0, 0) = ([], (pre.length, 4, (pre.length : Int))) := by
      unfold rText rdText
      rw [if_neg (by simp)]
      simp only
      rw [rdNum_end]
    unfold tk
    rw [e1, e2]
    split <;> rfl
  | succ k =>
    by_cases h5 : fld l = 5
    · have hl83 : l = 83 := by rcases hl with rfl | rfl | rfl | rfl | rfl | rfl <;> first | rfl | exact absurd h5 (by decide)
      subst hl83
      have hv := (fb6 i).1 hf
      have hlen := ba_len i.s
      have hkk : k < i.s.data.toList.length := by
        have : k + 1 < (UInt8.ofNat i.s.size :: i.s.data.toList).length := hk
        simpa using this
      show (rText (pre ++ (UInt8.ofNat i.s.size :: i.s.data.toList.take k)) 64 (pre.length, 0, 0)).2 = (pre.length, 4, ((pre ++ (UInt8.ofNat i.s.size :: i.s.data.toList.take k)).length : Int))
      unfold rText rdText
      rw [if_neg (by simp)]
      simp only
      rw [rdNum_one pre (i.s.data.toList.take k) i.s.size (by omega) 0 64 3 (by omega) (by omega)]
      simp only
      rw [if_pos (by simp only [List.length_append, List.length_cons, List.length_take]; omega)]
    · exfalso
      have : (encL l i).length = 1 := by unfold encL; rw [if_neg h5]; rfl
      omega

theorem tks_cut (ls : List Nat) (i : Ins) : ∀ (pre : List UInt8) (j : Ins) (k : Nat), (∀ l ∈ ls, Ltr l) → (∀ l ∈ ls, fitsB l i = true) → k < (encs ls i).length → (tks (pre ++ (encs ls i).take k) ls (j, (pre.length, 0, 0))).2.2 = (4, ((pre ++ (encs ls i).take k).length : Int)) := by
  induction ls with
  | nil => intro pre j k _ _ hk; cases hk
  | cons l ls ih =>
    intro pre j k hL hf hk
    have he : encs (l :: ls) i = encL l i ++ encs ls i := rfl
    rw [he] at hk ⊢
    by_cases hkl : k < (encL l i).length
    · rw [List.take_append_of_le_length (by omega)]
      have h := tk_cut l (hL l (List.mem_cons_self ..)) i j (hf l (List.mem_cons_self ..)) pre k hkl
      show (tks _ ls (tk (pre ++ (encL l i).take k) l j (pre.length, 0, 0))).2.2 = _
      rw [show tk (pre ++ (encL l i).take k) l j (pre.length, 0, 0) = ((tk (pre ++ (encL l i).take k) l j (pre.length, 0, 0)).1, (pre.length, 4, ((pre ++ (encL l i).take k).length : Int))) from Prod.ext rfl h]
      rw [tks_sticks _ ls _ _ (by simp)]
    · have e : (encL l i ++ encs ls i).take k = encL l i ++ (encs ls i).take (k - (encL l i).length) := by
        rw [List.take_append, List.take_of_length_le (by omega)]
      rw [e, ← List.append_assoc]
      show (tks _ ls (tk (pre ++ encL l i ++ (encs ls i).take (k - (encL l i).length)) l j (pre.length, 0, 0))).2.2 = _
      rw [tk_one l (hL l (List.mem_cons_self ..)) i j (hf l (List.mem_cons_self ..)) pre _]
      have h := ih (pre ++ encL l i) (setf i j l) (k - (encL l i).length) (fun l hl => hL l (List.mem_cons_of_mem _ hl)) (fun l hl => hf l (List.mem_cons_of_mem _ hl)) (by rw [List.length_append] at hk; omega)
      rw [List.length_append] at h
      exact h

theorem rdI_cut (m : Nat) (i : Ins) (hG : Good i m) (k : Nat) (hk : k < (codeI i).length) : (rdI ((codeI i).take k)).2.2 = (4, (k : Int)) := by
  rw [hG.code] at hk ⊢
  cases k with
  | zero =>
    unfold rdI
    rw [List.take_zero]
    have e : rInt [] 1 15 (0, 0, 0) = (0, (0, 4, 0)) := by rfl
    rw [e, tks_sticks _ _ _ _ (by simp)]
    rfl
  | succ k =>
    have h := tks_cut (ltrs m) i [UInt8.ofNat m] ⟨m, 0, 0, 0, 0, ⟨#[]⟩⟩ k (ltrs_ok m hG.hi) hG.fit (by simpa using hk)
    unfold rdI
    rw [List.take_succ_cons, rInt_head _ m hG.lo hG.hi]
    simp only [Int.toNat_natCast]
    refine h.trans ?_
    have : ((encs (ltrs m) i).take k).length = k := by rw [List.length_take]; simp at hk; omega
    simp [this]

theorem readR_cut (m : Nat) (i : Ins) (hG : Good i m) (pre : List UInt8) (k : Nat) (hk : k < (codeI i).length) : readR (pre ++ (codeI i).take k) (pre.length : Int) = (zeroI, 0, 4, ((pre ++ (codeI i).take k).length : Int)) := by
  have hl := codeI_len m i hG
  have hw : win (pre ++ (codeI i).take k) pre.length = (codeI i).take k := by
    unfold win
    rw [drop_pre, List.take_of_length_le]
    rw [List.length_take]
    omega
  have hr := rdI_cut m i hG k hk
  unfold readR
  rw [if_neg (by simp only [List.length_append]; omega), Int.toNat_natCast, hw, hr, if_neg (by simp)]
  simp only [List.length_append, List.length_take, Nat.min_eq_left (Nat.le_of_lt hk)]
  simp

end Go.Proofs.Ytojgikaoiegmpaa

/- Code, on paper: what is read is told as its bytes. -/
namespace Go.Proofs.Ytojgikaoiegmpaa
open Go.RowKit Go.IntWalk Go.Lib
set_option linter.unusedSimpArgs false
set_option linter.unusedVariables false
set_option maxRecDepth 100000

theorem scan_low (bs : List UInt8) : ∀ (i acc n k : Nat), 0 < i → scan bs i acc = .ok (n, k) → 128 ^ i ≤ n := by
  induction bs with
  | nil => intro i acc n k _ h; simp [scan] at h
  | cons b bs ih =>
    intro i acc n k hi h
    by_cases h1 : 128 ≤ b.toNat ∧ i + 1 = 9
    · rw [scan_big h1] at h; cases h
    by_cases h2 : b.toNat = 0 ∧ 0 < i
    · rw [scan_zero h2] at h; cases h
    by_cases h3 : b.toNat < 128
    · rw [scan_last h2 h3] at h
      simp only [Except.ok.injEq, Prod.mk.injEq] at h
      have hb : 1 ≤ b.toNat := by omega
      have : 1 * 128 ^ i ≤ b.toNat % 128 * 128 ^ i := Nat.mul_le_mul_right _ (by omega)
      omega
    · rw [scan_more h1 h3] at h
      have := ih (i + 1) _ n k (by omega) h
      have e : 128 ^ (i + 1) = 128 ^ i * 128 := Nat.pow_succ ..
      have hp : 0 < 128 ^ i := Nat.pow_pos (by decide)
      omega

theorem scan_small (bs : List UInt8) (n k : Nat) (hn : n ≤ 127) (h : scan bs 0 0 = .ok (n, k)) : k = 1 ∧ ∃ r, bs = UInt8.ofNat n :: r := by
  cases bs with
  | nil => simp [scan] at h
  | cons b bs =>
    by_cases h3 : b.toNat < 128
    · rw [scan_last (by omega) h3] at h
      simp only [Except.ok.injEq, Prod.mk.injEq] at h
      have e : n = b.toNat := by have := h.1; simp at this; omega
      refine ⟨by omega, bs, ?_⟩
      rw [e]
      simp
    · rw [scan_more (by omega) h3] at h
      have := scan_low bs 1 _ n k (by omega) h
      omega

/-- A number of one byte was read. -/
theorem rInt_back {bs : List UInt8} {lo hi : Int} {p : Nat} {x : Int} {v : Int} {q : Nat} {y : Int} (hhi : hi ≤ 127) (hlo : 0 ≤ lo) (hp : p ≤ bs.length) (h : rInt bs lo hi (p, 0, x) = (v, (q, 0, y))) :
    y = x ∧ lo ≤ v ∧ v ≤ hi ∧ bs.drop p = UInt8.ofNat v.toNat :: bs.drop q ∧ q = p + 1 ∧ q ≤ bs.length := by
  unfold rInt at h
  rw [if_neg (by simp)] at h
  simp only at h
  cases hr : rdNum bs p lo hi 5 with
  | inl f =>
    rw [hr] at h
    simp only [Prod.mk.injEq] at h
    obtain ⟨_, _, e, _⟩ := h
    unfold rdNum at hr
    split at hr <;> (try (simp at hr; rw [← hr] at e; simp at e; done))
    split at hr
    · simp at hr; rw [← hr] at e; simp at e
    · split at hr
      · simp at hr; rw [← hr] at e; simp at e
      · cases hr
  | inr g =>
    obtain ⟨n, m⟩ := g
    rw [hr] at h
    simp only [Prod.mk.injEq] at h
    obtain ⟨rfl, rfl, _, rfl⟩ := h
    unfold rdNum at hr
    split at hr
    · cases hr
    · cases hr
    · cases hr
    · rename_i n' k' hs
      split at hr
      · cases hr
      · split at hr
        · cases hr
        · simp only [Sum.inr.injEq, Prod.mk.injEq] at hr
          obtain ⟨rfl, rfl⟩ := hr
          obtain ⟨rfl, r, hr⟩ := scan_small _ _ _ (by omega) hs
          have hq : p + 1 ≤ bs.length := by
            have := congrArg List.length hr
            simp at this
            omega
          refine ⟨rfl, by omega, by omega, ?_, rfl, hq⟩
          have e : bs.drop (p + 1) = (bs.drop p).drop 1 := by rw [List.drop_drop]
          rw [e, hr, Int.toNat_natCast]
          rfl

theorem rText_back {bs : List UInt8} {p : Nat} {x : Int} {v : List UInt8} {q : Nat} {y : Int} (hp : p ≤ bs.length) (h : rText bs 64 (p, 0, x) = (v, (q, 0, y))) :
    y = x ∧ v.length ≤ 64 ∧ bs.drop p = UInt8.ofNat v.length :: v ++ bs.drop q ∧ q = p + 1 + v.length ∧ q ≤ bs.length := by
  unfold rText at h
  rw [if_neg (by simp)] at h
  simp only at h
  cases hr : rdText bs p 64 with
  | inl f =>
    rw [hr] at h
    simp only [Prod.mk.injEq] at h
    obtain ⟨_, _, e, _⟩ := h
    unfold rdText at hr
    split at hr
    · rename_i g hg
      obtain rfl := Sum.inl.inj hr
      unfold rdNum at hg
      split at hg <;> (try (simp at hg; rw [← hg] at e; simp at e; done))
      split at hg
      · simp at hg; rw [← hg] at e; simp at e
      · split at hg
        · simp at hg; rw [← hg] at e; simp at e
        · cases hg
    · split at hr
      · simp at hr; rw [← hr] at e; simp at e
      · cases hr
  | inr g =>
    obtain ⟨v', m⟩ := g
    rw [hr] at h
    simp only [Prod.mk.injEq] at h
    obtain ⟨rfl, rfl, _, rfl⟩ := h
    unfold rdText at hr
    split at hr
    · cases hr
    · rename_i n m' hg
      split at hr
      · cases hr
      · rename_i hlen
        simp only [Sum.inr.injEq, Prod.mk.injEq] at hr
        obtain ⟨rfl, rfl⟩ := hr
        have hb := rInt_back (bs := bs) (lo := 0) (hi := 64) (p := p) (x := x) (v := n) (q := m') (y := x) (by decide) (by decide) hp (by
          unfold rInt
          rw [if_neg (by simp)]
          simp only
          have : rdNum bs p 0 64 5 = .inr (n, m') := by
            unfold rdNum at hg ⊢
            split at hg
            · cases hg
            · cases hg
            · cases hg
            · rename_i n' k' hs
              split at hg
              · cases hg
              · split at hg
                · cases hg
                · rename_i g1 g2
                  rw [if_neg g1, if_neg g2]
                  exact hg
          rw [this])
        obtain ⟨_, h0, h64, hd, rfl, hq⟩ := hb
        have hvl : ((bs.drop (p + 1)).take n).length = n := by rw [List.length_take, List.length_drop]; omega
        refine ⟨rfl, by omega, ?_, by omega, by omega⟩
        rw [hvl, hd, Int.toNat_natCast]
        show UInt8.ofNat n :: bs.drop (p + 1) = UInt8.ofNat n :: ((bs.drop (p + 1)).take n ++ bs.drop (p + 1 + n))
        rw [show bs.drop (p + 1 + n) = (bs.drop (p + 1)).drop n from (List.drop_drop ..).symm, List.take_append_drop]

theorem same_put (j : Ins) (g : Nat) (v : Int) (f : Nat) (h1 : 1 ≤ f) (h5 : f ≤ 5) (hg : 1 ≤ g ∧ g ≤ 4) (hne : f ≠ g) : same f j (j.put g v) := by
  obtain rfl | rfl | rfl | rfl : g = 1 ∨ g = 2 ∨ g = 3 ∨ g = 4 := by omega
  all_goals obtain rfl | rfl | rfl | rfl | rfl : f = 1 ∨ f = 2 ∨ f = 3 ∨ f = 4 ∨ f = 5 := by omega
  all_goals first | rfl | exact absurd rfl hne

/-- A thing was read: it fits, its bytes were passed over, nothing else was changed. -/
theorem tk_back (l : Nat) (hl : Ltr l) (cs : List UInt8) (j : Ins) (p : Nat) (x : Int) (hp : p ≤ cs.length) (h0 : (tk cs l j (p, 0, x)).2.2.1 = 0) :
    fitsB l (tk cs l j (p, 0, x)).1 = true ∧ (tk cs l j (p, 0, x)).2.2.2 = x ∧ cs.drop p = encL l (tk cs l j (p, 0, x)).1 ++ cs.drop (tk cs l j (p, 0, x)).2.1 ∧ (tk cs l j (p, 0, x)).2.1 = p + (encL l (tk cs l j (p, 0, x)).1).length ∧ (tk cs l j (p, 0, x)).2.1 ≤ cs.length ∧
      (tk cs l j (p, 0, x)).1.op = j.op ∧ ∀ f, 1 ≤ f → f ≤ 5 → f ≠ fld l → same f j (tk cs l j (p, 0, x)).1 := by
  have num : ∀ (g : Nat) (lo hi : Int), (1 ≤ g ∧ g ≤ 4) → hi ≤ 127 → 0 ≤ lo → (rInt cs lo hi (p, 0, x)).2.2.1 = 0 → ∃ v q, rInt cs lo hi (p, 0, x) = (v, (q, 0, x)) ∧ lo ≤ v ∧ v ≤ hi ∧ cs.drop p = UInt8.ofNat v.toNat :: cs.drop q ∧ q = p + 1 ∧ q ≤ cs.length := fun g lo hi hg hh hlo he => by
    cases hr : rInt cs lo hi (p, 0, x) with
    | mk v s =>
      obtain ⟨q, e, y⟩ := s
      rw [hr] at he
      obtain rfl : e = 0 := he
      obtain ⟨rfl, h1, h2, h3, h4, h5⟩ := rInt_back hh hlo hp hr
      exact ⟨v, q, rfl, h1, h2, h3, h4, h5⟩
  have opput : ∀ (g : Nat) (v : Int), (j.put g v).op = j.op := fun g v => by
    unfold Ins.put
    split
    · rfl
    split
    · rfl
    split <;> rfl
  rcases hl with rfl | rfl | rfl | rfl | rfl | rfl
  · have hh : (rInt cs 0 7 (p, 0, x)).2.2.1 = 0 := h0
    obtain ⟨v, q, hr, h1, h2, h3, h4, h5⟩ := num 1 0 7 (by decide) (by decide) (by decide) hh
    have ht : tk cs 65 j (p, 0, x) = (j.put 1 v, (q, 0, x)) := by
      show (j.put 1 (rInt cs 0 7 (p, 0, x)).1, (rInt cs 0 7 (p, 0, x)).2) = _
      rw [hr]
    rw [ht]
    exact ⟨(fb1 _).2 ⟨h1, h2⟩, rfl, h3, h4, h5, opput 1 v, fun f hf1 hf5 hne => same_put j 1 v f hf1 hf5 (by decide) hne⟩
  · have hh : (rInt cs 0 7 (p, 0, x)).2.2.1 = 0 := h0
    obtain ⟨v, q, hr, h1, h2, h3, h4, h5⟩ := num 2 0 7 (by decide) (by decide) (by decide) hh
    have ht : tk cs 66 j (p, 0, x) = (j.put 2 v, (q, 0, x)) := by
      show (j.put 2 (rInt cs 0 7 (p, 0, x)).1, (rInt cs 0 7 (p, 0, x)).2) = _
      rw [hr]
    rw [ht]
    exact ⟨(fb2 _).2 ⟨h1, h2⟩, rfl, h3, h4, h5, opput 2 v, fun f hf1 hf5 hne => same_put j 2 v f hf1 hf5 (by decide) hne⟩
  · have hh : (rInt cs 0 7 (p, 0, x)).2.2.1 = 0 := h0
    obtain ⟨v, q, hr, h1, h2, h3, h4, h5⟩ := num 3 0 7 (by decide) (by decide) (by decide) hh
    have ht : tk cs 67 j (p, 0, x) = (j.put 3 v, (q, 0, x)) := by
      show (j.put 3 (rInt cs 0 7 (p, 0, x)).1, (rInt cs 0 7 (p, 0, x)).2) = _
      rw [hr]
    rw [ht]
    exact ⟨(fb3 _).2 ⟨h1, h2⟩, rfl, h3, h4, h5, opput 3 v, fun f hf1 hf5 hne => same_put j 3 v f hf1 hf5 (by decide) hne⟩
  · have hh : (rInt cs 1 16 (p, 0, x)).2.2.1 = 0 := h0
    obtain ⟨v, q, hr, h1, h2, h3, h4, h5⟩ := num 4 1 16 (by decide) (by decide) (by decide) hh
    have ht : tk cs 69 j (p, 0, x) = (j.put 4 v, (q, 0, x)) := by
      show (j.put 4 (rInt cs 1 16 (p, 0, x)).1, (rInt cs 1 16 (p, 0, x)).2) = _
      rw [hr]
    rw [ht]
    exact ⟨(fb4 _).2 ⟨h1, h2⟩, rfl, h3, h4, h5, opput 4 v, fun f hf1 hf5 hne => same_put j 4 v f hf1 hf5 (by decide) hne⟩
  · have hh : (rInt cs 1 60 (p, 0, x)).2.2.1 = 0 := h0
    obtain ⟨v, q, hr, h1, h2, h3, h4, h5⟩ := num 4 1 60 (by decide) (by decide) (by decide) hh
    have ht : tk cs 80 j (p, 0, x) = (j.put 4 v, (q, 0, x)) := by
      show (j.put 4 (rInt cs 1 60 (p, 0, x)).1, (rInt cs 1 60 (p, 0, x)).2) = _
      rw [hr]
    rw [ht]
    exact ⟨(fb5 _).2 ⟨h1, h2⟩, rfl, h3, h4, h5, opput 4 v, fun f hf1 hf5 hne => same_put j 4 v f hf1 hf5 (by decide) hne⟩
  · obtain hr : ∃ v s, rText cs 64 (p, 0, x) = (v, s) := ⟨_, _, rfl⟩
    obtain ⟨v, ⟨q, e, y⟩, hr⟩ := hr
    have ht : tk cs 83 j (p, 0, x) = ({ j with s := ⟨v.toArray⟩ }, (q, e, y)) := by
      show ({ j with s := ⟨(rText cs 64 (p, 0, x)).1.toArray⟩ }, (rText cs 64 (p, 0, x)).2) = _
      rw [hr]
    rw [ht] at h0 ⊢
    obtain rfl : e = 0 := h0
    obtain ⟨rfl, h1, h2, h3, h4⟩ := rText_back hp hr
    have hsz : (⟨v.toArray⟩ : ByteArray).size = v.length := rfl
    refine ⟨(fb6 _).2 (by show ((⟨v.toArray⟩ : ByteArray).size : Int) ≤ 64; rw [hsz]; omega), rfl, ?_, ?_, h4, rfl, fun f hf1 hf5 hne => ?_⟩
    · show cs.drop p = UInt8.ofNat (⟨v.toArray⟩ : ByteArray).size :: v ++ cs.drop q
      rw [hsz]
      exact h2
    · show q = p + (UInt8.ofNat (⟨v.toArray⟩ : ByteArray).size :: v).length
      rw [List.length_cons]
      omega
    · obtain rfl | rfl | rfl | rfl | rfl : f = 1 ∨ f = 2 ∨ f = 3 ∨ f = 4 ∨ f = 5 := by omega
      all_goals first | rfl | exact absurd rfl hne

theorem same_fits {l : Nat} (hl : Ltr l) {i j : Ins} (h : same (fld l) i j) : fitsB l i = fitsB l j ∧ encL l i = encL l j := by
  rcases hl with rfl | rfl | rfl | rfl | rfl | rfl
  all_goals (unfold same at h; simp only [fld] at h; simp [fitsB, encL, fld] at h ⊢; simp [h])

theorem tks_back (ls : List Nat) (cs : List UInt8) : ∀ (j : Ins) (p : Nat) (x : Int), (∀ l ∈ ls, Ltr l) → (ls.map fld).Nodup → p ≤ cs.length → (tks cs ls (j, (p, 0, x))).2.2.1 = 0 →
    (∀ l ∈ ls, fitsB l (tks cs ls (j, (p, 0, x))).1 = true) ∧ (tks cs ls (j, (p, 0, x))).2.2.2 = x ∧ cs.drop p = encs ls (tks cs ls (j, (p, 0, x))).1 ++ cs.drop (tks cs ls (j, (p, 0, x))).2.1 ∧ (tks cs ls (j, (p, 0, x))).2.1 = p + (encs ls (tks cs ls (j, (p, 0, x))).1).length ∧
      (tks cs ls (j, (p, 0, x))).2.1 ≤ cs.length ∧ (tks cs ls (j, (p, 0, x))).1.op = j.op ∧ ∀ f, 1 ≤ f → f ≤ 5 → f ∉ ls.map fld → same f j (tks cs ls (j, (p, 0, x))).1 := by
  induction ls with
  | nil => intro j p x _ _ hp _; exact ⟨(fun l hl => by cases hl), rfl, rfl, rfl, hp, rfl, fun f _ _ _ => same.rfl'⟩
  | cons l ls ih =>
    intro j p x hL hn hp h0
    have hn' := List.nodup_cons.1 (show (fld l :: ls.map fld).Nodup from hn)
    have hstep : tks cs (l :: ls) (j, (p, 0, x)) = tks cs ls (tk cs l j (p, 0, x)) := rfl
    rw [hstep] at h0 ⊢
    have he : (tk cs l j (p, 0, x)).2.2.1 = 0 := by
      by_cases e : (tk cs l j (p, 0, x)).2.2.1 = 0
      · exact e
      · have := tks_sticks cs ls (tk cs l j (p, 0, x)).1 (tk cs l j (p, 0, x)).2 e
        rw [show ((tk cs l j (p, 0, x)).1, (tk cs l j (p, 0, x)).2) = tk cs l j (p, 0, x) from rfl] at this
        rw [this] at h0
        exact absurd h0 e
    obtain ⟨a1, a2, a3, a4, a5, a6, a7⟩ := tk_back l (hL l (List.mem_cons_self ..)) cs j p x hp he
    cases htk : tk cs l j (p, 0, x) with
    | mk j1 s1 =>
      obtain ⟨q, e, y⟩ := s1
      rw [htk] at h0 he a1 a2 a3 a4 a5 a6 a7
      dsimp only at he a1 a2 a3 a4 a5 a6 a7
      subst he a2
      obtain ⟨b1, b2, b3, b4, b5, b6, b7⟩ := ih j1 q y (fun l hl => hL l (List.mem_cons_of_mem _ hl)) hn'.2 a5 h0
      have hs := b7 (fld l) (by rcases hL l (List.mem_cons_self ..) with rfl | rfl | rfl | rfl | rfl | rfl <;> decide) (by rcases hL l (List.mem_cons_self ..) with rfl | rfl | rfl | rfl | rfl | rfl <;> decide) hn'.1
      obtain ⟨c1, c2⟩ := same_fits (hL l (List.mem_cons_self ..)) hs
      refine ⟨fun l' hl' => ?_, b2, ?_, ?_, b5, b6.trans a6, fun f hf1 hf5 hf => ?_⟩
      · rcases List.mem_cons.1 hl' with rfl | h
        · rw [← c1]; exact a1
        · exact b1 l' h
      · rw [show encs (l :: ls) (tks cs ls (j1, (q, 0, y))).1 = encL l (tks cs ls (j1, (q, 0, y))).1 ++ encs ls (tks cs ls (j1, (q, 0, y))).1 from rfl, ← c2, a3, List.append_assoc, ← b3]
      · rw [show encs (l :: ls) (tks cs ls (j1, (q, 0, y))).1 = encL l (tks cs ls (j1, (q, 0, y))).1 ++ encs ls (tks cs ls (j1, (q, 0, y))).1 from rfl, ← c2, List.length_append]
        omega
      · have hf' : f ≠ fld l ∧ f ∉ ls.map fld := by simpa [not_or] using hf
        exact (a7 f hf1 hf5 hf'.1).trans (b7 f hf1 hf5 hf'.2)

theorem blank_of (m : Nat) (h1 : 1 ≤ m) (h2 : m ≤ 15) (i : Ins) (h : ∀ f, 1 ≤ f → f ≤ 5 → f ∉ (ltrs m).map fld → same f ⟨m, 0, 0, 0, 0, ⟨#[]⟩⟩ i) : blank (clrs (ltrs m) i) := by
  have k1 : 1 ∉ (ltrs m).map fld → i.a = 0 := fun e => (h 1 (by decide) (by decide) e).symm
  have k2 : 2 ∉ (ltrs m).map fld → i.b = 0 := fun e => (h 2 (by decide) (by decide) e).symm
  have k3 : 3 ∉ (ltrs m).map fld → i.c = 0 := fun e => (h 3 (by decide) (by decide) e).symm
  have k4 : 4 ∉ (ltrs m).map fld → i.n = 0 := fun e => (h 4 (by decide) (by decide) e).symm
  have k5 : 5 ∉ (ltrs m).map fld → i.s = ⟨#[]⟩ := fun e => (h 5 (by decide) (by decide) e).symm
  clear h
  obtain rfl | rfl | rfl | rfl | rfl | rfl | rfl | rfl | rfl | rfl | rfl | rfl | rfl | rfl | rfl : m = 1 ∨ m = 2 ∨ m = 3 ∨ m = 4 ∨ m = 5 ∨ m = 6 ∨ m = 7 ∨ m = 8 ∨ m = 9 ∨ m = 10 ∨ m = 11 ∨ m = 12 ∨ m = 13 ∨ m = 14 ∨ m = 15 := by omega
  all_goals exact ⟨by first | rfl | exact k1 (by decide), by first | rfl | exact k2 (by decide), by first | rfl | exact k3 (by decide), by first | rfl | exact k4 (by decide), by first | rfl | exact k5 (by decide)⟩

/-- What is read of any bytes may be, and is told as the bytes that it was read from. -/
theorem rdI_back (cs : List UInt8) (h : (rdI cs).2.2.1 = 0) : ∃ m, Good (rdI cs).1 m ∧ cs = codeI (rdI cs).1 ++ cs.drop (rdI cs).2.1 ∧ (rdI cs).2.1 = (codeI (rdI cs).1).length ∧ (rdI cs).2.1 ≤ cs.length := by
  cases hr : rInt cs 1 15 (0, 0, 0) with
  | mk v s =>
    obtain ⟨q, e, y⟩ := s
    have hI : rdI cs = tks cs (ltrs v.toNat) (⟨v, 0, 0, 0, 0, ⟨#[]⟩⟩, (q, e, y)) := by unfold rdI; rw [hr]
    rw [hI] at h ⊢
    have he : e = 0 := by
      by_cases e0 : e = 0
      · exact e0
      · have := tks_sticks cs (ltrs v.toNat) ⟨v, 0, 0, 0, 0, ⟨#[]⟩⟩ (q, e, y) e0
        rw [this] at h
        exact absurd h e0
    subst he
    obtain ⟨rfl, h1, h2, h3, h4, h5⟩ := rInt_back (by decide) (by decide) (Nat.zero_le _) hr
    obtain ⟨m, rfl⟩ : ∃ m : Nat, v = m := ⟨v.toNat, by omega⟩
    rw [Int.toNat_natCast] at h h3 ⊢
    have hm : m ≤ 15 := by omega
    obtain ⟨b1, b2, b3, b4, b5, b6, b7⟩ := tks_back (ltrs m) cs ⟨m, 0, 0, 0, 0, ⟨#[]⟩⟩ q 0 (ltrs_ok m hm) (ltrs_nodup m hm).1 h5 h
    have hG : Good (tks cs (ltrs m) (⟨m, 0, 0, 0, 0, ⟨#[]⟩⟩, (q, 0, 0))).1 m := ⟨b6, by omega, hm, b1, (chkL_iff m hm _).2 ⟨b1, blank_of m (by omega) hm _ b7⟩⟩
    refine ⟨m, hG, ?_, ?_, b5⟩
    · rw [hG.code, List.cons_append, ← b3]
      rw [List.drop_zero] at h3
      exact h3
    · rw [hG.code, List.length_cons]
      omega

theorem readR_back (bs : List UInt8) (h : (readR bs 0).2.2.1 = 0) : ∃ m k, Good (readR bs 0).1 m ∧ codeI (readR bs 0).1 = bs.take k ∧ (readR bs 0).2.1 = (k : Int) ∧ 1 ≤ k ∧ k ≤ bs.length ∧ (readR bs 0).2.2.2 = 0 := by
  have hw : win bs 0 = bs.take 67 := by unfold win; rw [List.drop_zero]
  have h00 : ¬ ((0 : Int) < 0 ∨ (bs.length : Int) < 0) := by omega
  unfold readR at h ⊢
  rw [if_neg h00] at h ⊢
  rw [show (0 : Int).toNat = 0 from rfl, hw] at h ⊢
  by_cases e : (rdI (bs.take 67)).2.2.1 = 0
  · rw [if_pos e] at h ⊢
    obtain ⟨m, hG, h1, h2, h3⟩ := rdI_back (bs.take 67) e
    have hl := codeI_len m _ hG
    have hbl : (codeI (rdI (bs.take 67)).1).length ≤ bs.length := by rw [List.length_take] at h3; omega
    refine ⟨m, (codeI (rdI (bs.take 67)).1).length, hG, ?_, ?_, hl.1, hbl, rfl⟩
    · have := congrArg (List.take (codeI (rdI (bs.take 67)).1).length) h1
      rw [List.take_take, Nat.min_eq_left hl.2, List.take_left'] at this
      · exact this.symm
      · rfl
    · show (0 : Int) + (rdI (bs.take 67)).2.1 = _
      rw [h2]
      omega
  · rw [if_neg e] at h
    exact absurd h e

end Go.Proofs.Ytojgikaoiegmpaa

/- The document's own reader (retconref01.Reader): how many bytes the number at its place has. -/
namespace Go.Proofs.Ytojgikaoiegmpaa
open Go.RowKit Go.IntWalk
set_option linter.unusedSimpArgs false
set_option linter.unusedVariables false
set_option maxRecDepth 100000

/-- The document's reader in memory: the bytes that came in, its place, its fault. -/
structure YAt (w : World) (p : Nat) (ao : Option Addr) (cap : Nat) (bs : List UInt8) (at_ er ea : Int) : Prop where
  box : w.heap[p]? = some (.cells #[.slice ao bs.length cap, .int .i64 at_, .int .i64 er, .int .i64 ea] 63 (0, 0))
  bytes : BsAt w ao bs

section
variable {w w' : World} {p : Nat} {ao : Option Addr} {cap : Nat} {bs : List UInt8} {at_ er ea : Int}
theorem YAt.lt (h : YAt w p ao cap bs at_ er ea) : p < w.heap.size := (Array.getElem?_eq_some_iff.1 h.box).1
theorem YAt.c0 (h : YAt w p ao cap bs at_ er ea) : w.cell? ⟨p, 0, none⟩ = some (.slice ao bs.length cap) := cellOfHeap h.box 0 rfl
theorem YAt.c1 (h : YAt w p ao cap bs at_ er ea) : w.cell? ⟨p, 1, none⟩ = some (.int .i64 at_) := cellOfHeap h.box 1 rfl
theorem YAt.c2 (h : YAt w p ao cap bs at_ er ea) : w.cell? ⟨p, 2, none⟩ = some (.int .i64 er) := cellOfHeap h.box 2 rfl
theorem YAt.c3 (h : YAt w p ao cap bs at_ er ea) : w.cell? ⟨p, 3, none⟩ = some (.int .i64 ea) := cellOfHeap h.box 3 rfl
theorem YAt.fr {S : Nat → Prop} (h : YAt w p ao cap bs at_ er ea) (hf : Fr S w w') (hp : ¬ S p) (hS : ∀ k, k < w.heap.size → blk ao k → ¬ S k) : YAt w' p ao cap bs at_ er ea :=
  ⟨(hf.block p h.lt hp).trans h.box, h.bytes.fr hf hS⟩
end

/-- What size tells: a number's bytes, or 0 and the fault. -/
def sizeV (len at_ : Int) : Except Nat (Nat × Nat) → Int × Int × Int
  | .error 0 => (0, 4, len)
  | .error 1 => (0, 5, at_)
  | .error _ => (0, 4, at_)
  | .ok (_, k) => (k, 0, 0)

set_option maxRecDepth 100000 in
set_option maxHeartbeats 2000000 in
theorem ysize_any (p : Nat) (ao : Option Addr) (cap : Nat) (bs : List UInt8) (at_ : Nat) (er ea : Int) (w : World) (h : YAt w p ao cap bs at_ er ea) (hat : at_ ≤ bs.length) (hb : bs.length ≤ 140737488355328) :
    Calls Try.prog 79 #[.pointer (some ⟨p, 0, none⟩)] w fun e w' => e = .returned (.tuple #[.int .i64 (sizeV bs.length at_ (scan (bs.drop at_) 0 0)).1, .agg #[.int .i64 (sizeV bs.length at_ (scan (bs.drop at_) 0 0)).2.1, .int .i64 (sizeV bs.length at_ (scan (bs.drop at_) 0 0)).2.2]]) ∧ Fr (fun _ => False) w w' := by
  have c0 := h.c0
  have c1 := h.c1
  have hpl := h.lt
  have HBY := hideIt h.bytes
  obtain ⟨R, hR⟩ : ∃ R, scan (bs.drop at_) 0 0 = R := ⟨_, rfl⟩
  rw [hR]
  have HR := hideIt hR
  clear h hR
  go_enter Try.func79, Try.ntmps79
  go_wp2_with fail
  go_loopw [4] (fun i wr => ∃ j : Nat, i = .int .i64 ((j : Int) + 1) ∧ j ≤ 9 ∧ at_ + j ≤ bs.length + 1 ∧ Hid (if j = 9 then R = .error 1 else ∃ acc, scan (bs.drop (at_ + j)) j acc = R ∧ at_ + j ≤ bs.length) ∧ wr = w.alloc (.cells #[.int .i64 0, .int .i64 0] 28))
    (fun i _ => (10 - intOf i).toNat)
  case atStart => exact ⟨0, rfl, by omega, by omega, hideIt ⟨0, HR.out, hat⟩, rfl⟩
  case round =>
    obtain ⟨j, rfl, hj, hal, HI, rfl⟩ := hrel
    have hF0 : Fr (fun _ => False) w (w.alloc (.cells #[.int .i64 0, .int .i64 0] 28)) := (Fr.refl _ _).alloc _
    by_cases h9 : j = 9
    · have hRe : R = .error 1 := by have := HI.out; rw [if_pos h9] at this; exact this
      subst hRe
      have hj9 : ¬ ((j : Int) + 1 ≤ 9) := by omega
      clear HI HR h9
      go_wp2_with fail
      go_region_held2 (fun w' => w'.cell? ⟨p, 0, none⟩ = some (.slice ao bs.length cap) ∧ w'.cell? ⟨p, 1, none⟩ = some (.int .i64 (at_ : Int))) (go_keep) (fail)
      go_wp2_with fail
      exact bodyPost_ret (v := .tuple #[.int .i64 0, .agg #[.int .i64 5, .int .i64 (at_ : Int)]]) (by simp [results, Try.results79, go_sem]) rfl ⟨rfl, ((Fr.refl _ _).alloc _).drew⟩
    · obtain ⟨acc, hacc, hle⟩ : ∃ acc, scan (bs.drop (at_ + j)) j acc = R ∧ at_ + j ≤ bs.length := by have := HI.out; rw [if_neg h9] at this; exact this
      have hj9 : (j : Int) + 1 ≤ 9 := by omega
      have hidx : (at_ : Int) + ((j : Int) + 1) - 1 = ((at_ + j : Nat) : Int) := by omega
      clear HI
      by_cases hend : at_ + j = bs.length
      · have hRe : R = .error 0 := by rw [← hacc, hend, List.drop_length]; rfl
        subst hRe
        have hge : (bs.length : Int) ≤ ((at_ + j : Nat) : Int) := by omega
        clear HR hacc h9 hend
        go_wp2_with fail
        go_region_held2 (fun w' => w'.cell? ⟨p, 0, none⟩ = some (.slice ao bs.length cap) ∧ w'.cell? ⟨p, 1, none⟩ = some (.int .i64 (at_ : Int))) (go_keep) (fail)
        go_wp2_with fail
        exact bodyPost_ret (v := .tuple #[.int .i64 0, .agg #[.int .i64 4, .int .i64 (bs.length : Int)]]) (by simp [results, Try.results79, go_sem]) rfl ⟨rfl, ((Fr.refl _ _).alloc _).drew⟩
      · have hlt : at_ + j < bs.length := by omega
        have hlt' : ¬ ((bs.length : Int) ≤ ((at_ + j : Nat) : Int)) := by omega
        have hlt2 : ((at_ + j : Nat) : Int) < (bs.length : Int) := by omega
        obtain ⟨b, off, rfl, hcell⟩ : ∃ b off, ao = some ⟨b, off, none⟩ ∧ w.cell? ⟨b, off + (at_ + j), none⟩ = some (.int .u8 (bs[at_ + j].toNat : Int)) := by
          rcases HBY.out with ⟨_, h0⟩ | ⟨b, off, e, hc⟩
          · rw [h0] at hlt
            exact absurd hlt (by simp)
          · exact ⟨b, off, e, hc _ hlt⟩
        have hbl := block_lt_of_cell hcell
        have hdr : bs.drop (at_ + j) = bs[at_ + j] :: bs.drop (at_ + j + 1) := List.drop_eq_getElem_cons hlt
        rw [hdr, scan] at hacc
        have hx := UInt8.toNat_lt bs[at_ + j]
        have HAC := hideIt hacc
        clear hacc hdr
        generalize bs[at_ + j] = x at *
        obtain ⟨xn, hxn⟩ : ∃ xn, x.toNat = xn := ⟨_, rfl⟩
        rw [hxn] at hcell hx HAC
        clear hxn x
        generalize hq : at_ + j = q at *
        clear HR
        by_cases hz : xn = 0 ∧ 0 < j
        · obtain ⟨rfl, hj0⟩ := hz
          have hRe : R = .error 2 := by
            have := HAC.out
            rw [if_neg (by omega), if_pos ⟨rfl, hj0⟩] at this
            exact this.symm
          subst hRe
          have hj1 : (1 : Int) < (j : Int) + 1 := by omega
          clear HAC
          go_wp2_with fail
          go_region_held2 (fun w' => w'.cell? ⟨p, 0, none⟩ = some (.slice (some ⟨b, off, none⟩) bs.length cap) ∧ w'.cell? ⟨p, 1, none⟩ = some (.int .i64 (at_ : Int))) (go_keep) (fail)
          go_wp2_with fail
          exact bodyPost_ret (v := .tuple #[.int .i64 0, .agg #[.int .i64 4, .int .i64 (at_ : Int)]]) (by simp [results, Try.results79, go_sem]) rfl ⟨rfl, ((Fr.refl _ _).alloc _).drew⟩
        · by_cases h128 : xn < 128
          · obtain ⟨m, hRe⟩ : ∃ m, R = .ok (m, j + 1) := by
              have := HAC.out
              rw [if_neg (by omega), if_neg hz, if_pos h128] at this
              exact ⟨_, this.symm⟩
            subst hRe
            have h128' : (xn : Int) < 128 := by omega
            clear HAC
            by_cases hx0 : xn = 0
            · have hx0' : ((xn : Int) == 0) = true := by simpa using hx0
              have hj1 : ¬ ((1 : Int) < (j : Int) + 1) := by omega
              have hj2 : (j : Int) + 1 ≤ 1 := by omega
              have hj3 : decide ((1 : Int) < (j : Int) + 1) = false := by simpa using hj1
              clear hz hx0
              go_wp2_with fail
              exact bodyPost_ret (v := .tuple #[.int .i64 ((j : Int) + 1), .agg #[.int .i64 0, .int .i64 0]]) (by simp [results, Try.results79, go_sem]) rfl ⟨by simp [sizeV], (Fr.refl _ _).alloc _⟩
            · have hx0' : ((xn : Int) == 0) = false := by simpa using hx0
              clear hz hx0
              go_wp2_with fail
              exact bodyPost_ret (v := .tuple #[.int .i64 ((j : Int) + 1), .agg #[.int .i64 0, .int .i64 0]]) (by simp [results, Try.results79, go_sem]) rfl ⟨by simp [sizeV], (Fr.refl _ _).alloc _⟩
          · have hx0' : ((xn : Int) == 0) = false := by
              have : ¬ xn = 0 := by omega
              simpa using this
            have h128' : ¬ ((xn : Int) < 128) := by omega
            have HNX := hideIt (show (if j + 1 = 9 then R = .error 1 else ∃ acc, scan (bs.drop (at_ + (j + 1))) (j + 1) acc = R ∧ at_ + (j + 1) ≤ bs.length) by
              have := HAC.out
              by_cases he : j + 1 = 9
              · rw [if_pos he]
                rw [if_pos ⟨by omega, he⟩] at this
                exact this.symm
              · rw [if_neg he]
                rw [if_neg (by omega), if_neg hz, if_neg h128] at this
                refine ⟨acc + xn % 128 * 128 ^ j, ?_, by omega⟩
                rw [show at_ + (j + 1) = q + 1 by omega]
                exact this)
            clear HAC hz
            go_wp2_with fail
            go_roundw
            case measure => simp [intOf]; omega
            case rel => exact ⟨j + 1, by go_num, by omega, by omega, HNX, trivial⟩

end Go.Proofs.Ytojgikaoiegmpaa

/- The document's own reader: the number at its place (peek). -/
namespace Go.Proofs.Ytojgikaoiegmpaa
open Go.RowKit Go.IntWalk
set_option linter.unusedSimpArgs false
set_option linter.unusedVariables false
set_option maxRecDepth 100000

theorem scan_back : ∀ (bs : List UInt8) (i acc n k : Nat), i ≤ 8 → scan bs i acc = .ok (n, k) → ∃ m, n = acc + m * 128 ^ i ∧ k = i + (sevens m).length ∧ bs.take (sevens m).length = sevens m ∧ (0 < i → 0 < m)
  | [], i, acc, n, k, _, h => by simp [scan] at h
  | b :: bs, i, acc, n, k, hi, h => by
    rw [scan] at h
    by_cases c1 : 128 ≤ b.toNat ∧ i + 1 = 9
    · rw [if_pos c1] at h
      cases h
    rw [if_neg c1] at h
    by_cases c2 : b.toNat = 0 ∧ 0 < i
    · rw [if_pos c2] at h
      cases h
    rw [if_neg c2] at h
    have hb : UInt8.ofNat b.toNat = b := by simp
    by_cases c3 : b.toNat < 128
    · rw [if_pos c3] at h
      have e : n = acc + b.toNat % 128 * 128 ^ i ∧ k = i + 1 := by
        injection h with h
        injection h with h1 h2
        exact ⟨h1.symm, h2.symm⟩
      refine ⟨b.toNat, by rw [e.1, Nat.mod_eq_of_lt c3], by rw [sevens_lt c3]; exact e.2, by rw [sevens_lt c3, hb]; rfl, fun h0 => ?_⟩
      rcases Nat.eq_zero_or_pos b.toNat with hz | hz
      · exact absurd ⟨hz, h0⟩ c2
      · exact hz
    · rw [if_neg c3] at h
      obtain ⟨m, h1, h2, h3, h4⟩ := scan_back bs (i + 1) _ n k (by omega) h
      have hm := h4 (by omega)
      have hlt := UInt8.toNat_lt b
      have hge : ¬ (b.toNat % 128 + 128 * m < 128) := by omega
      have hs : sevens (b.toNat % 128 + 128 * m) = b :: sevens m := by
        rw [sevens_ge hge, show (b.toNat % 128 + 128 * m) % 128 + 128 = b.toNat by omega, show (b.toNat % 128 + 128 * m) / 128 = m by omega, hb]
      refine ⟨b.toNat % 128 + 128 * m, ?_, ?_, ?_, fun _ => by omega⟩
      · rw [h1, Nat.pow_succ, Nat.add_mul, Nat.add_assoc]
        congr 2
        rw [Nat.mul_comm (128 ^ i) 128, ← Nat.mul_assoc, Nat.mul_comm m 128]
      · rw [hs, List.length_cons]
        omega
      · rw [hs, List.length_cons, List.take_succ_cons, h3]

theorem rdNum_back {bs : List UInt8} {at_ n m : Nat} {low high above : Int} (h : rdNum bs at_ low high above = .inr (n, m)) : m = at_ + (sevens n).length ∧ (bs.drop at_).take (sevens n).length = sevens n := by
  unfold rdNum at h
  split at h
  · cases h
  · cases h
  · cases h
  · rename_i n' k hs
    obtain ⟨q, h1, h2, h3, _⟩ := scan_back _ 0 0 n' k (by omega) hs
    have e1 : n' = q := by simpa using h1
    subst e1
    split at h
    · cases h
    · split at h
      · cases h
      · injection h with h
        injection h with ha hb
        subst ha
        exact ⟨by rw [← hb, h2]; omega, h3⟩
theorem rdNum_fault {bs : List UInt8} {at_ : Nat} {low high above e a : Int} (hat : at_ ≤ bs.length) (h : rdNum bs at_ low high above = .inl (e, a)) : (e = 4 ∨ e = 5 ∨ e = above) ∧ (at_ : Int) ≤ a ∧ a ≤ (bs.length : Int) := by
  unfold rdNum at h
  split at h
  · injection h with h
    injection h with h1 h2
    exact ⟨Or.inl h1.symm, by omega, by omega⟩
  · injection h with h
    injection h with h1 h2
    exact ⟨Or.inr (Or.inl h1.symm), by omega, by omega⟩
  · injection h with h
    injection h with h1 h2
    exact ⟨Or.inl h1.symm, by omega, by omega⟩
  · split at h
    · injection h with h
      injection h with h1 h2
      exact ⟨Or.inr (Or.inl h1.symm), by omega, by omega⟩
    · split at h
      · injection h with h
        injection h with h1 h2
        exact ⟨Or.inr (Or.inr h1.symm), by omega, by omega⟩
      · cases h

/-- The number that the bytes from i on say, up to k, the lowest first. -/
def high (bs : List UInt8) : Nat → Nat
  | 0 => 0
  | n + 1 => (bs.headD 0).toNat % 128 + 128 * high bs.tail n
theorem high_step (bs : List UInt8) (n i : Nat) (hi : i < n) (hn : n ≤ bs.length) : high (bs.drop i) (n - i) = (bs[i]'(by omega)).toNat % 128 + 128 * high (bs.drop (i + 1)) (n - (i + 1)) := by
  rw [show n - i = (n - (i + 1)) + 1 by omega, high, List.drop_eq_getElem_cons (by omega)]
  simp [List.getElem?_eq_getElem (show i < bs.length by omega)]
theorem scan_high : ∀ (bs : List UInt8) (i acc n k : Nat), scan bs i acc = .ok (n, k) → i < k ∧ k - i ≤ bs.length ∧ n = acc + high bs (k - i) * 128 ^ i
  | [], i, acc, n, k, h => by simp [scan] at h
  | b :: bs, i, acc, n, k, h => by
    rw [scan] at h
    by_cases c1 : 128 ≤ b.toNat ∧ i + 1 = 9
    · rw [if_pos c1] at h
      cases h
    rw [if_neg c1] at h
    by_cases c2 : b.toNat = 0 ∧ 0 < i
    · rw [if_pos c2] at h
      cases h
    rw [if_neg c2] at h
    by_cases c3 : b.toNat < 128
    · rw [if_pos c3] at h
      injection h with h
      injection h with h1 h2
      subst h1 h2
      refine ⟨by omega, by simp, ?_⟩
      rw [show i + 1 - i = 0 + 1 by omega, high]
      simp [high]
    · rw [if_neg c3] at h
      obtain ⟨h1, h2, h3⟩ := scan_high bs (i + 1) _ n k h
      refine ⟨by omega, by simp; omega, ?_⟩
      rw [h3, show k - i = (k - (i + 1)) + 1 by omega, high]
      simp only [List.headD_cons, List.tail_cons]
      rw [Nat.add_mul, Nat.pow_succ, Nat.add_assoc]
      congr 2
      rw [Nat.mul_comm (128 ^ i) 128, ← Nat.mul_assoc, Nat.mul_comm (high bs _) 128]
theorem high_lt (bs : List UInt8) : ∀ n, high bs n < 128 ^ n := by
  intro n
  induction n generalizing bs with
  | zero => simp [high]
  | succ n ih =>
    have := ih bs.tail
    rw [high, Nat.pow_succ]
    omega

theorem YAt.faulted {w : World} {p : Nat} {ao : Option Addr} {cap : Nat} {bs : List UInt8} {at_ er ea : Int} (h : YAt w p ao cap bs at_ er ea) (hap : ¬ blk ao p) (e a : Int) : YAt ((w.setCell ⟨p, 2, none⟩ (.int .i64 e)).setCell ⟨p, 3, none⟩ (.int .i64 a)) p ao cap bs at_ e a := by
  have hF : Fr (fun k => k = p) w ((w.setCell ⟨p, 2, none⟩ (.int .i64 e)).setCell ⟨p, 3, none⟩ (.int .i64 a)) := ((Fr.refl (fun k => k = p) w).setCell (p := ⟨p, 2, none⟩) (fun _ => rfl) _).setCell (p := ⟨p, 3, none⟩) (fun _ => rfl) _
  refine ⟨?_, h.bytes.fr hF (fun k _ hk e => hap (by subst e; exact hk))⟩
  rw [heap_setCell_same _ p 3 _ _ _ (heap_setCell_same w p 2 _ _ _ h.box)]
  rfl

theorem ypeek_shut (p : Nat) (ao : Option Addr) (cap : Nat) (bs : List UInt8) (at_ : Nat) (er ea low hi above : Int) (w : World) (h : YAt w p ao cap bs at_ er ea) (her : er ≠ 0) :
    Calls Try.prog 54 #[.pointer (some ⟨p, 0, none⟩), .int .i64 low, .int .i64 hi, .int .i64 above] w fun e w' => e = .returned (.tuple #[.int .i64 0, .int .i64 0]) ∧ w' = w := by
  have c2 := h.c2
  have her' : (er != 0) = true := by simpa using her
  clear her
  go_enter Try.func54, Try.ntmps54
  go_wp2
  go_ret2
  exact ⟨rfl, rfl⟩

/-- There is no number: the fault is kept. -/
theorem ypeek_none (p : Nat) (ao : Option Addr) (cap : Nat) (bs : List UInt8) (at_ : Nat) (ea low hi above e0 a0 : Int) (w : World) (h : YAt w p ao cap bs at_ 0 ea) (hap : ¬ blk ao p) (hat : at_ ≤ bs.length) (hb : bs.length ≤ 140737488355328) (hs : sizeV bs.length at_ (scan (bs.drop at_) 0 0) = (0, e0, a0)) :
    Calls Try.prog 54 #[.pointer (some ⟨p, 0, none⟩), .int .i64 low, .int .i64 hi, .int .i64 above] w fun e w' => e = .returned (.tuple #[.int .i64 0, .int .i64 0]) ∧ YAt w' p ao cap bs at_ e0 a0 ∧ Fr (fun k => k = p) w w' := by
  have HSZ := hideIt (by have := ysize_any p ao cap bs at_ 0 ea w h hat hb; rw [hs] at this; exact this)
  have c2 := h.c2
  have HY := hideIt h
  clear h hs
  go_enter Try.func54, Try.ntmps54
  go_wp2_with fail
  refine Calls.mono HSZ.out ?_
  rintro e w1 ⟨rfl, hF1⟩
  have hY1 := HY.out.fr hF1 (fun e => e) (fun _ _ _ e => e)
  have hpl1 := hY1.lt
  have d0 := hY1.c0
  have d1 := hY1.c1
  have d2 := hY1.c2
  have d3 := hY1.c3
  have z2 := frozen_of_row w1 p 2 _ _ hY1.box
  have z3 := frozen_of_row w1 p 3 _ _ hY1.box
  have HFIN := hideIt (fun (e0 a0 : Int) (o : Obj) => (hY1.faulted hap e0 a0).fr ((Fr.refl (fun _ => False) _).alloc o) (fun e => e) (fun _ _ _ e => e))
  have HFR := hideIt (fun (e0 a0 : Int) (o : Obj) => ((hF1.mono (S' := fun k => k = p) (fun _ e => e.elim)).trans (((Fr.refl (fun k => k = p) w1).setCell (p := ⟨p, 2, none⟩) (fun _ => rfl) (.int .i64 e0)).setCell (p := ⟨p, 3, none⟩) (fun _ => rfl) (.int .i64 a0)) (fun _ _ e => e)).alloc o)
  have HY1 := hideIt hY1
  have HF1 := hideIt hF1
  clear hF1 hY1
  go_wp2_with fail
  go_loopw [12, 13] (fun n i wr => n = .int .i64 0 ∧ i = .int .i64 (-1) ∧ wr = w1.alloc (.cells #[.int .i64 e0, .int .i64 a0] 28)) (fun _ _ _ => 0)
  case atStart => exact ⟨rfl, rfl, rfl⟩
  case round =>
    obtain ⟨rfl, rfl, rfl⟩ := hrel
    go_wp2_with fail
    go_ret2
    exact ⟨rfl, HFIN.out e0 a0 _, HFR.out e0 a0 _⟩

/-- There is a number: it is told, or the bounds' fault is kept. -/
def PeekPost (w : World) (p : Nat) (ao : Option Addr) (cap : Nat) (bs : List UInt8) (at_ n k : Nat) (ea low hi above : Int) (e : Ending) (w' : World) : Prop :=
  Fr (fun k => k = p) w w' ∧ if (n : Int) < low then e = .returned (.tuple #[.int .i64 0, .int .i64 0]) ∧ YAt w' p ao cap bs at_ 5 at_
    else if hi < (n : Int) then e = .returned (.tuple #[.int .i64 0, .int .i64 0]) ∧ YAt w' p ao cap bs at_ above at_
    else e = .returned (.tuple #[.int .i64 n, .int .i64 k]) ∧ YAt w' p ao cap bs at_ 0 ea

set_option maxRecDepth 100000 in
set_option maxHeartbeats 2000000 in
theorem ypeek_num (p : Nat) (ao : Option Addr) (cap : Nat) (bs : List UInt8) (at_ : Nat) (ea low hi above : Int) (n k : Nat) (w : World) (h : YAt w p ao cap bs at_ 0 ea) (hap : ¬ blk ao p) (hat : at_ ≤ bs.length) (hb : bs.length ≤ 140737488355328) (hs : scan (bs.drop at_) 0 0 = .ok (n, k)) :
    Calls Try.prog 54 #[.pointer (some ⟨p, 0, none⟩), .int .i64 low, .int .i64 hi, .int .i64 above] w (PeekPost w p ao cap bs at_ n k ea low hi above) := by
  have hso := scan_ok hs hat
  obtain ⟨hk0, hkl, hhi⟩ := scan_high _ 0 0 n k hs
  rw [Nat.sub_zero, Nat.pow_zero, Nat.mul_one, Nat.zero_add] at hhi
  rw [Nat.sub_zero, List.length_drop] at hkl
  have HSZ := hideIt (by have := ysize_any p ao cap bs at_ 0 ea w h hat hb; rw [hs] at this; simp only [sizeV] at this; exact this)
  have c2 := h.c2
  have HY := hideIt h
  have HHI := hideIt hhi
  have hk9 : k ≤ 9 := by
    have := rdNum_back (bs := bs) (at_ := at_) (n := n) (m := at_ + k) (low := 0) (high := (n : Int)) (above := 0) (by unfold rdNum; rw [hs]; simp)
    have h9 := sevens_nine (n := n) (by omega)
    omega
  clear h hs hhi
  go_enter Try.func54, Try.ntmps54
  go_wp2_with fail
  refine Calls.mono HSZ.out ?_
  rintro e w1 ⟨rfl, hF1⟩
  have hY1 := HY.out.fr hF1 (fun e => e) (fun _ _ _ e => e)
  have hpl1 := hY1.lt
  have d0 := hY1.c0
  have d1 := hY1.c1
  have d2 := hY1.c2
  have d3 := hY1.c3
  have z2 := frozen_of_row w1 p 2 _ _ hY1.box
  have z3 := frozen_of_row w1 p 3 _ _ hY1.box
  have HFIN := hideIt (fun (e0 a0 : Int) (o : Obj) => (hY1.faulted hap e0 a0).fr ((Fr.refl (fun _ => False) _).alloc o) (fun e => e) (fun _ _ _ e => e))
  have HFR := hideIt (fun (e0 a0 : Int) (o : Obj) => ((hF1.mono (S' := fun k => k = p) (fun _ e => e.elim)).trans (((Fr.refl (fun k => k = p) w1).setCell (p := ⟨p, 2, none⟩) (fun _ => rfl) (.int .i64 e0)).setCell (p := ⟨p, 3, none⟩) (fun _ => rfl) (.int .i64 a0)) (fun _ _ e => e)).alloc o)
  have HY1 := hideIt hY1
  have HF1 := hideIt hF1
  clear hF1 hY1
  have hk0' : ((k : Int) == 0) = false := by
    have : ¬ k = 0 := by omega
    simpa using this
  go_wp2_with fail
  go_loopw [12, 13] (fun v i wr => ∃ m d : Nat, m ≤ k ∧ i = .int .i64 ((m : Int) - 1) ∧ v = .int .i64 (high (bs.drop (at_ + m)) (k - m) : Nat) ∧ wr = (w1.alloc (.cells #[.int .i64 0, .int .i64 0] 28)).drewN d) (fun _ i _ => (intOf i + 1).toNat)
  case atStart => exact ⟨k, 0, Nat.le_refl _, rfl, by rw [Nat.sub_self]; rfl, rfl⟩
  case round =>
    obtain ⟨m, d, hm, rfl, rfl, rfl⟩ := hrel
    by_cases h0 : 0 < m
    · have hlt : at_ + (m - 1) < bs.length := by omega
      obtain ⟨b, off, rfl, hcell⟩ : ∃ b off, ao = some ⟨b, off, none⟩ ∧ w1.cell? ⟨b, off + (at_ + (m - 1)), none⟩ = some (.int .u8 (bs[at_ + (m - 1)].toNat : Int)) := by
        rcases HY1.out.bytes with ⟨_, h0⟩ | ⟨b, off, e, hc⟩
        · rw [h0] at hlt
          exact absurd hlt (by simp)
        · exact ⟨b, off, e, hc _ hlt⟩
      have hbl := block_lt_of_cell hcell
      have hst := high_step (bs.drop at_) k (m - 1) (by omega) (by rw [List.length_drop]; omega)
      rw [List.drop_drop, List.drop_drop, List.getElem_drop, show m - 1 + 1 = m by omega] at hst
      have hlo := high_lt (bs.drop (at_ + m)) (k - m)
      have hpw : 128 ^ (k - m) ≤ 128 ^ 8 := Nat.pow_le_pow_right (by decide) (by omega)
      have h88 : (128 : Nat) ^ 8 = 72057594037927936 := by decide
      have hx := UInt8.toNat_lt bs[at_ + (m - 1)]
      have HST := hideIt hst
      clear hst
      generalize high (bs.drop (at_ + m)) (k - m) = q at *
      generalize bs[at_ + (m - 1)] = x at *
      have hq : q < 72057594037927936 := by omega
      have hm1 : (0 : Int) ≤ (m : Int) - 1 := by omega
      have hm2 : (1 : Int) ≤ (m : Int) := by omega
      have hidx : (at_ : Int) + ((m : Int) - 1) = ((at_ + (m - 1) : Nat) : Int) := by omega
      generalize hQ : at_ + (m - 1) = Q at *
      clear hlo hpw h88
      go_wp2_with fail
      go_quiet (fail)
      go_wp2_with fail
      exact ⟨⟨m - 1, d + nq, by omega, by congr 1; omega, by rw [hQ, HST.out]; congr 1; omega, rfl⟩, by simp [intOf]; omega⟩
    · have hm0 : m = 0 := by omega
      have HV := hideIt (show high (bs.drop (at_ + m)) (k - m) = n by rw [hm0, Nat.add_zero, Nat.sub_zero]; exact HHI.out.symm)
      rw [HV.out]
      have hneg : ¬ ((0 : Int) ≤ (m : Int) - 1) := by omega
      have hneg2 : ¬ ((1 : Int) ≤ (m : Int)) := by omega
      have HYD := hideIt (HY1.out.fr (((Fr.refl (fun _ => False) w1).alloc (.cells #[.int .i64 0, .int .i64 0] 28)).drewN d) (fun e => e) (fun _ _ _ e => e))
      have HZD := hideIt (((HF1.out.alloc (.cells #[.int .i64 0, .int .i64 0] 28)).drewN d).mono (S' := fun k => k = p) (fun _ e => e.elim))
      have HFD := hideIt (fun (e0 a0 : Int) => HYD.out.faulted hap e0 a0)
      have HRD := hideIt (fun (e0 a0 : Int) => (HZD.out.setCell (p := ⟨p, 2, none⟩) (fun _ => rfl) (.int .i64 e0)).setCell (p := ⟨p, 3, none⟩) (fun _ => rfl) (.int .i64 a0))
      clear hm0 HV HFIN HFR HY1 HF1 HHI HY HSZ
      by_cases hlow : (n : Int) < low
      · have HP := hideIt (show ∀ e w', Fr (fun k => k = p) w w' → e = .returned (.tuple #[.int .i64 0, .int .i64 0]) → YAt w' p ao cap bs at_ 5 at_ → PeekPost w p ao cap bs at_ n k ea low hi above e w' from fun e w' h1 h2 h3 => ⟨h1, by rw [if_pos hlow]; exact ⟨h2, h3⟩⟩)
        go_wp2_with fail
        go_ret2
        exact HP.out _ _ (HRD.out 5 at_) rfl (HFD.out 5 at_)
      · by_cases hhigh : hi < (n : Int)
        · have HP := hideIt (show ∀ e w', Fr (fun k => k = p) w w' → e = .returned (.tuple #[.int .i64 0, .int .i64 0]) → YAt w' p ao cap bs at_ above at_ → PeekPost w p ao cap bs at_ n k ea low hi above e w' from fun e w' h1 h2 h3 => ⟨h1, by rw [if_neg hlow, if_pos hhigh]; exact ⟨h2, h3⟩⟩)
          go_wp2_with fail
          go_ret2
          exact HP.out _ _ (HRD.out above at_) rfl (HFD.out above at_)
        · have HP := hideIt (show ∀ e w', Fr (fun k => k = p) w w' → e = .returned (.tuple #[.int .i64 n, .int .i64 k]) → YAt w' p ao cap bs at_ 0 ea → PeekPost w p ao cap bs at_ n k ea low hi above e w' from fun e w' h1 h2 h3 => ⟨h1, by rw [if_neg hlow, if_neg hhigh]; exact ⟨h2, h3⟩⟩)
          go_wp2_with fail
          go_ret2
          exact HP.out _ _ HZD.out rfl HYD.out

end Go.Proofs.Ytojgikaoiegmpaa

/- The document's own reader: numbers. -/
namespace Go.Proofs.Ytojgikaoiegmpaa
open Go.RowKit Go.IntWalk
set_option linter.unusedSimpArgs false
set_option linter.unusedVariables false
set_option maxRecDepth 100000

/-- The document's reader, by its place and its fault; it is apart from the bytes that it reads. -/
def YOk (w : World) (p : Nat) (ao : Option Addr) (cap : Nat) (bs : List UInt8) (s : Nat × Int × Int) : Prop := YAt w p ao cap bs s.1 s.2.1 s.2.2 ∧ ¬ blk ao p ∧ s.1 ≤ bs.length

/-- What peek tells, and the fault behind it. -/
def yPeek (bs : List UInt8) (low hi above : Int) (s : Nat × Int × Int) : (Int × Int) × (Nat × Int × Int) :=
  if s.2.1 ≠ 0 then ((0, 0), s) else match rdNum bs s.1 low hi above with
    | .inl (e, a) => ((0, 0), (s.1, e, a))
    | .inr (n, m) => ((n, (m : Int) - s.1), (s.1, 0, s.2.2))

theorem ypeek_any (p : Nat) (ao : Option Addr) (cap : Nat) (bs : List UInt8) (s : Nat × Int × Int) (low hi above : Int) (w : World) (h : YOk w p ao cap bs s) (hb : bs.length ≤ 140737488355328) :
    Calls Try.prog 54 #[.pointer (some ⟨p, 0, none⟩), .int .i64 low, .int .i64 hi, .int .i64 above] w fun e w' => e = .returned (.tuple #[.int .i64 (yPeek bs low hi above s).1.1, .int .i64 (yPeek bs low hi above s).1.2]) ∧ YOk w' p ao cap bs (yPeek bs low hi above s).2 ∧ Fr (fun k => k = p) w w' := by
  obtain ⟨at_, er, ea⟩ := s
  obtain ⟨hY, hap, hat⟩ := h
  simp only at hY hat
  unfold yPeek
  by_cases her : er = 0
  · subst her
    simp only [ne_eq, not_true_eq_false, if_false]
    cases hs : scan (bs.drop at_) 0 0 with
    | error x =>
      obtain ⟨e0, a0, h1, h2⟩ : ∃ e0 a0, sizeV bs.length at_ (scan (bs.drop at_) 0 0) = (0, e0, a0) ∧ rdNum bs at_ low hi above = .inl (e0, a0) := by
        unfold rdNum
        rw [hs]
        match x with
        | 0 => exact ⟨_, _, rfl, rfl⟩
        | 1 => exact ⟨_, _, rfl, rfl⟩
        | n + 2 => exact ⟨_, _, rfl, rfl⟩
      rw [h2]
      refine (ypeek_none p ao cap bs at_ ea low hi above e0 a0 w hY hap hat hb h1).mono ?_
      rintro e w' ⟨rfl, hY', hF⟩
      exact ⟨rfl, ⟨hY', hap, hat⟩, hF⟩
    | ok nk =>
      obtain ⟨n, k⟩ := nk
      refine (ypeek_num p ao cap bs at_ ea low hi above n k w hY hap hat hb hs).mono ?_
      rintro e w' ⟨hF, hp⟩
      unfold rdNum
      rw [hs]
      simp only
      split at hp
      · rename_i h1
        rw [if_pos h1]
        exact ⟨hp.1, ⟨hp.2, hap, hat⟩, hF⟩
      · rename_i h1
        rw [if_neg h1]
        split at hp
        · rename_i h2
          rw [if_pos h2]
          exact ⟨hp.1, ⟨hp.2, hap, hat⟩, hF⟩
        · rename_i h2
          rw [if_neg h2]
          refine ⟨?_, ⟨hp.2, hap, hat⟩, hF⟩
          rw [hp.1]
          simp
          omega
  · simp only [ne_eq, her, not_false_eq_true, if_true]
    refine (ypeek_shut p ao cap bs at_ er ea low hi above w hY her).mono ?_
    rintro e w' ⟨rfl, rfl⟩
    exact ⟨rfl, ⟨hY, hap, hat⟩, Fr.refl _ _⟩

theorem YAt.moved {w : World} {p : Nat} {ao : Option Addr} {cap : Nat} {bs : List UInt8} {at_ er ea : Int} (h : YAt w p ao cap bs at_ er ea) (hap : ¬ blk ao p) (n : Int) : YAt (w.setCell ⟨p, 1, none⟩ (.int .i64 n)) p ao cap bs n er ea := by
  have hF : Fr (fun k => k = p) w (w.setCell ⟨p, 1, none⟩ (.int .i64 n)) := (Fr.refl (fun k => k = p) w).setCell (p := ⟨p, 1, none⟩) (fun _ => rfl) _
  refine ⟨?_, h.bytes.fr hF (fun k _ hk e => hap (by subst e; exact hk))⟩
  rw [heap_setCell_same w p 1 _ _ _ h.box]
  rfl

theorem yint_any (p : Nat) (ao : Option Addr) (cap : Nat) (bs : List UInt8) (s : Nat × Int × Int) (low hi : Int) (w : World) (h : YOk w p ao cap bs s) (hb : bs.length ≤ 140737488355328) :
    Calls Try.prog 55 #[.pointer (some ⟨p, 0, none⟩), .int .i64 low, .int .i64 hi] w fun e w' => e = .returned (.int .i64 (rInt bs low hi s).1) ∧ YOk w' p ao cap bs (rInt bs low hi s).2 ∧ Fr (fun k => k = p) w w' := by
  have HPK := hideIt (ypeek_any p ao cap bs s low hi 5 w h hb)
  obtain ⟨v, k, at_, er, ea, hv, hr1, hr2⟩ : ∃ (v k : Int) (at_ : Nat) (er ea : Int), yPeek bs low hi 5 s = ((v, k), (at_, er, ea)) ∧ (rInt bs low hi s).1 = v ∧ ∃ m : Nat, (rInt bs low hi s).2 = (m, er, ea) ∧ (at_ : Int) + k = m ∧ m ≤ bs.length := by
    obtain ⟨a0, e0, f0⟩ := s
    obtain ⟨hY, hap, hat⟩ := h
    simp only at hat
    by_cases her : e0 = 0
    · subst her
      cases hn : rdNum bs a0 low hi 5 with
      | inl f => exact ⟨0, 0, a0, f.1, f.2, by simp [yPeek, hn], by simp [rInt, hn], a0, by simp [rInt, hn], by omega, hat⟩
      | inr f =>
        have hle := rdNum_le hn hat
        exact ⟨f.1, (f.2 : Int) - a0, a0, 0, f0, by simp [yPeek, hn], by simp [rInt, hn], f.2, by simp [rInt, hn], by omega, hle⟩
    · exact ⟨0, 0, a0, e0, f0, by simp [yPeek, her], by simp [rInt, her], a0, by simp [rInt, her], by omega, hat⟩
  obtain ⟨m, hr2, hm, hml⟩ := hr2
  rw [hv] at HPK
  rw [hr1, hr2]
  clear hv hr1 hr2 h
  simp only at HPK
  have hkb : -140737488355328 ≤ k ∧ k ≤ 140737488355328 ∨ True := Or.inr trivial
  clear hkb
  go_enter Try.func55, Try.ntmps55
  go_wp2_with fail
  refine Calls.mono HPK.out ?_
  rintro e w1 ⟨rfl, ⟨hY1, hap1, hat1⟩, hF1⟩
  simp only at hY1 hat1
  have c1 := hY1.c1
  have hz := frozen_of_row w1 p 1 _ _ hY1.box
  have hpl := hY1.lt
  have hwr : IntKind.i64.wrap ((at_ : Int) + k) = (m : Int) := by rw [IntKind.wrap_i64]; omega
  have hwr2 : wrap64 ((at_ : Int) + k) = (m : Int) := by simp only [wrap64]; omega
  have HFIN := hideIt (hY1.moved hap1 m)
  have HFR := hideIt (hF1.setCell (p := ⟨p, 1, none⟩) (fun _ => rfl) (.int .i64 (m : Int)))
  have HML := hideIt hml
  clear hF1 hY1 hm hml
  go_wp2_with fail
  go_ret
  exact ⟨rfl, ⟨HFIN.out, hap1, HML.out⟩, HFR.out⟩

theorem ycount_any (p : Nat) (ao : Option Addr) (cap : Nat) (bs : List UInt8) (s : Nat × Int × Int) (most : Int) (w : World) (h : YOk w p ao cap bs s) (hb : bs.length ≤ 140737488355328) :
    Calls Try.prog 31 #[.pointer (some ⟨p, 0, none⟩), .int .i64 most] w fun e w' => e = .returned (.int .i64 (rCount bs most s).1) ∧ YOk w' p ao cap bs (rCount bs most s).2 ∧ Fr (fun k => k = p) w w' := by
  have HPK := hideIt (ypeek_any p ao cap bs s 0 most 3 w h hb)
  obtain ⟨v, k, at_, er, ea, hv, hr1, hr2⟩ : ∃ (v k : Int) (at_ : Nat) (er ea : Int), yPeek bs 0 most 3 s = ((v, k), (at_, er, ea)) ∧ (rCount bs most s).1 = v ∧ ∃ m : Nat, (rCount bs most s).2 = (m, er, ea) ∧ (at_ : Int) + k = m ∧ m ≤ bs.length := by
    obtain ⟨a0, e0, f0⟩ := s
    obtain ⟨hY, hap, hat⟩ := h
    simp only at hat
    by_cases her : e0 = 0
    · subst her
      cases hn : rdNum bs a0 0 most 3 with
      | inl f => exact ⟨0, 0, a0, f.1, f.2, by simp [yPeek, hn], by simp [rCount, hn], a0, by simp [rCount, hn], by omega, hat⟩
      | inr f =>
        have hle := rdNum_le hn hat
        exact ⟨f.1, (f.2 : Int) - a0, a0, 0, f0, by simp [yPeek, hn], by simp [rCount, hn], f.2, by simp [rCount, hn], by omega, hle⟩
    · exact ⟨0, 0, a0, e0, f0, by simp [yPeek, her], by simp [rCount, her], a0, by simp [rCount, her], by omega, hat⟩
  obtain ⟨m, hr2, hm, hml⟩ := hr2
  rw [hv] at HPK
  rw [hr1, hr2]
  clear hv hr1 hr2 h
  simp only at HPK
  have hkb : -140737488355328 ≤ k ∧ k ≤ 140737488355328 ∨ True := Or.inr trivial
  clear hkb
  go_enter Try.func31, Try.ntmps31
  go_wp2_with fail
  refine Calls.mono HPK.out ?_
  rintro e w1 ⟨rfl, ⟨hY1, hap1, hat1⟩, hF1⟩
  simp only at hY1 hat1
  have c1 := hY1.c1
  have hz := frozen_of_row w1 p 1 _ _ hY1.box
  have hpl := hY1.lt
  have hwr : IntKind.i64.wrap ((at_ : Int) + k) = (m : Int) := by rw [IntKind.wrap_i64]; omega
  have hwr2 : wrap64 ((at_ : Int) + k) = (m : Int) := by simp only [wrap64]; omega
  have HFIN := hideIt (hY1.moved hap1 m)
  have HFR := hideIt (hF1.setCell (p := ⟨p, 1, none⟩) (fun _ => rfl) (.int .i64 (m : Int)))
  have HML := hideIt hml
  clear hF1 hY1 hm hml
  go_wp2_with fail
  go_ret
  exact ⟨rfl, ⟨HFIN.out, hap1, HML.out⟩, HFR.out⟩

end Go.Proofs.Ytojgikaoiegmpaa

/- The document's own reader: bytes that are passed over, texts. -/
namespace Go.Proofs.Ytojgikaoiegmpaa
open Go.RowKit Go.IntWalk
set_option linter.unusedSimpArgs false
set_option linter.unusedVariables false
set_option maxRecDepth 100000

section
variable (p : Nat) (ao : Option Addr) (cap : Nat) (bs : List UInt8) (at_ : Nat) (er ea k n : Int) (w : World)
theorem ypass_shut (h : YAt w p ao cap bs at_ er ea) (her : er ≠ 0) (hk : 0 ≤ k) (hk2 : k ≤ 140737488355328) (hat : at_ ≤ 140737488355328) :
    Calls Try.prog 80 #[.pointer (some ⟨p, 0, none⟩), .int .i64 k, .int .i64 n] w fun e w' => e = .returned (.slice none 0 0) ∧ w' = w := by
  have c1 := h.c1
  have c2 := h.c2
  have her' : (er != 0) = true := by simpa using her
  clear her
  go_enter Try.func80, Try.ntmps80
  go_wp2
  go_ret
  exact ⟨rfl, rfl⟩

theorem ypass_long (h : YAt w p ao cap bs at_ 0 ea) (hap : ¬ blk ao p) (f : Nat) (hf : (at_ : Int) + k = f) (hfl : f ≤ bs.length) (hb : bs.length ≤ 140737488355328) (hn : (bs.length : Int) - f < n) :
    Calls Try.prog 80 #[.pointer (some ⟨p, 0, none⟩), .int .i64 k, .int .i64 n] w fun e w' => e = .returned (.slice none 0 0) ∧ YAt w' p ao cap bs at_ 4 bs.length ∧ Fr (fun k => k = p) w w' := by
  have c0 := h.c0
  have c1 := h.c1
  have c2 := h.c2
  have c3 := h.c3
  have hpl := h.lt
  have z2 := frozen_of_row w p 2 _ _ h.box
  have z3 := frozen_of_row w p 3 _ _ h.box
  have hwr : IntKind.i64.wrap ((at_ : Int) + k) = (f : Int) := by rw [IntKind.wrap_i64]; omega
  have hwr2 : wrap64 ((at_ : Int) + k) = (f : Int) := by simp only [wrap64]; omega
  have HFIN := hideIt (h.faulted hap 4 bs.length)
  have HFR := hideIt (((Fr.refl (fun k => k = p) w).setCell (p := ⟨p, 2, none⟩) (fun _ => rfl) (.int .i64 4)).setCell (p := ⟨p, 3, none⟩) (fun _ => rfl) (.int .i64 (bs.length : Int)))
  clear h hf
  go_enter Try.func80, Try.ntmps80
  go_wp2_with fail
  go_ret
  exact ⟨rfl, HFIN.out, HFR.out⟩

theorem ypass_ok (h : YAt w p ao cap bs at_ 0 ea) (hap : ¬ blk ao p) (f m : Nat) (hf : (at_ : Int) + k = f) (hm : n = (m : Int)) (hfm : f + m ≤ bs.length) (hb : bs.length ≤ 140737488355328) (hcl : bs.length ≤ cap) (hcm : cap ≤ maxLen) (hne0 : ao ≠ none) :
    Calls Try.prog 80 #[.pointer (some ⟨p, 0, none⟩), .int .i64 k, .int .i64 n] w fun e w' => ∃ ao' cap', e = .returned (.slice ao' m cap') ∧ BsAt w' ao' ((bs.drop f).take m) ∧ YAt w' p ao cap bs ((f : Int) + m) 0 ea ∧ Fr (fun k => k = p) w w' := by
  subst hm
  have c0 := h.c0
  have c1 := h.c1
  have c2 := h.c2
  have hpl := h.lt
  have z1 := frozen_of_row w p 1 _ _ h.box
  unfold maxLen at hcm
  have hwr : IntKind.i64.wrap ((at_ : Int) + k) = (f : Int) := by rw [IntKind.wrap_i64]; omega
  have hwr2 : wrap64 ((at_ : Int) + k) = (f : Int) := by simp only [wrap64]; omega
  have hy := h.moved hap ((f + m : Nat) : Int)
  have hF : Fr (fun k => k = p) w (w.setCell ⟨p, 1, none⟩ (.int .i64 ((f + m : Nat) : Int))) := (Fr.refl (fun k => k = p) w).setCell (p := ⟨p, 1, none⟩) (fun _ => rfl) _
  have hng : ¬ ((bs.length : Int) - f < m) := by omega
  have ecast : ((f + m : Nat) : Int) = (f : Int) + m := by omega
  rw [ecast] at hy hF
  rcases h.bytes with ⟨rfl, rfl⟩ | ⟨b, off, rfl, hc⟩
  · exact absurd rfl hne0
  · have hbs : BsAt (w.setCell ⟨p, 1, none⟩ (.int .i64 ((f : Int) + m))) (some ⟨b, off + f, none⟩) ((bs.drop f).take m) := by
      refine Or.inr ⟨b, off + f, rfl, fun j hj => ?_⟩
      have hj' : j < m := by simp at hj; omega
      have hne : b ≠ p := fun e => hap ⟨_, rfl, e⟩
      have h1 := hc (f + j) (by omega)
      rw [← Nat.add_assoc] at h1
      have h2 := (World.cell?_of_block (a := ⟨b, off + f + j, none⟩) (hF.block b (block_lt_of_cell h1) hne)).trans h1
      rw [h2]
      simp
    have HBS := hideIt hbs
    have HY := hideIt hy
    have HF := hideIt hF
    clear hy hF h hf hbs hne0
    by_cases hcf : f = cap
    · subst hcf
      have hm0 : m = 0 := by omega
      have HB0 := hideIt (show BsAt (w.setCell ⟨p, 1, none⟩ (.int .i64 ((f : Int) + m))) (some ⟨b, off, none⟩) ((bs.drop f).take m) from Or.inr ⟨b, off, rfl, fun j hj => by rw [hm0] at hj; simp at hj⟩)
      clear hm0
      go_enter Try.func80, Try.ntmps80
      go_wp2_with fail
      all_goals go_ret
      all_goals first | exact ⟨_, ⟨_, rfl⟩, HB0.out, HY.out, HF.out⟩ | exact ⟨_, ⟨_, rfl⟩, HBS.out, HY.out, HF.out⟩
    · go_enter Try.func80, Try.ntmps80
      go_wp2_with fail
      all_goals go_ret
      all_goals exact ⟨_, ⟨_, rfl⟩, HBS.out, HY.out, HF.out⟩
theorem ypass_ok2 (h : YAt w p ao cap bs at_ 0 ea) (hap : ¬ blk ao p) (f m : Nat) (hf : (at_ : Int) + k = f) (hm : n = (m : Int)) (hfm : f + m ≤ bs.length) (hb : bs.length ≤ 140737488355328) (hcl : bs.length ≤ cap) (hcm : cap ≤ maxLen) (hne0 : ao ≠ none) :
    Calls Try.prog 80 #[.pointer (some ⟨p, 0, none⟩), .int .i64 k, .int .i64 n] w fun e w' => ∃ ao' cap', e = .returned (.slice ao' m cap') ∧ BsAt w' ao' ((bs.drop f).take m) ∧ YAt w' p ao cap bs ((f : Int) + m) 0 ea ∧ Fr (fun k => k = p) w w' ∧ ∀ k, blk ao' k → blk ao k := by
  subst hm
  have c0 := h.c0
  have c1 := h.c1
  have c2 := h.c2
  have hpl := h.lt
  have z1 := frozen_of_row w p 1 _ _ h.box
  unfold maxLen at hcm
  have hwr : IntKind.i64.wrap ((at_ : Int) + k) = (f : Int) := by rw [IntKind.wrap_i64]; omega
  have hwr2 : wrap64 ((at_ : Int) + k) = (f : Int) := by simp only [wrap64]; omega
  have hy := h.moved hap ((f + m : Nat) : Int)
  have hF : Fr (fun k => k = p) w (w.setCell ⟨p, 1, none⟩ (.int .i64 ((f + m : Nat) : Int))) := (Fr.refl (fun k => k = p) w).setCell (p := ⟨p, 1, none⟩) (fun _ => rfl) _
  have hng : ¬ ((bs.length : Int) - f < m) := by omega
  have ecast : ((f + m : Nat) : Int) = (f : Int) + m := by omega
  rw [ecast] at hy hF
  rcases h.bytes with ⟨rfl, rfl⟩ | ⟨b, off, rfl, hc⟩
  · exact absurd rfl hne0
  · have hbs : BsAt (w.setCell ⟨p, 1, none⟩ (.int .i64 ((f : Int) + m))) (some ⟨b, off + f, none⟩) ((bs.drop f).take m) := by
      refine Or.inr ⟨b, off + f, rfl, fun j hj => ?_⟩
      have hj' : j < m := by simp at hj; omega
      have hne : b ≠ p := fun e => hap ⟨_, rfl, e⟩
      have h1 := hc (f + j) (by omega)
      rw [← Nat.add_assoc] at h1
      have h2 := (World.cell?_of_block (a := ⟨b, off + f + j, none⟩) (hF.block b (block_lt_of_cell h1) hne)).trans h1
      rw [h2]
      simp
    have HBS := hideIt hbs
    have HY := hideIt hy
    have HF := hideIt hF
    clear hy hF h hf hbs hne0
    by_cases hcf : f = cap
    · subst hcf
      have hm0 : m = 0 := by omega
      have HB0 := hideIt (show BsAt (w.setCell ⟨p, 1, none⟩ (.int .i64 ((f : Int) + m))) (some ⟨b, off, none⟩) ((bs.drop f).take m) from Or.inr ⟨b, off, rfl, fun j hj => by rw [hm0] at hj; simp at hj⟩)
      clear hm0
      go_enter Try.func80, Try.ntmps80
      go_wp2_with fail
      all_goals go_ret
      all_goals first | exact ⟨_, ⟨_, rfl⟩, HB0.out, HY.out, HF.out, fun k ⟨_, e, e2⟩ => by obtain rfl := Option.some.inj e; exact ⟨_, rfl, e2⟩⟩ | exact ⟨_, ⟨_, rfl⟩, HBS.out, HY.out, HF.out, fun k ⟨_, e, e2⟩ => by obtain rfl := Option.some.inj e; exact ⟨_, rfl, e2⟩⟩
    · go_enter Try.func80, Try.ntmps80
      go_wp2_with fail
      all_goals go_ret
      all_goals exact ⟨_, ⟨_, rfl⟩, HBS.out, HY.out, HF.out, fun k ⟨_, e, e2⟩ => by obtain rfl := Option.some.inj e; exact ⟨_, rfl, e2⟩⟩
end

end Go.Proofs.Ytojgikaoiegmpaa
