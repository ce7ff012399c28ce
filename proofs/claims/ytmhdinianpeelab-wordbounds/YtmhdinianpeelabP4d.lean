/- WordBounds: case d. -/
import Derived.Test.YtmhdinianpeelabP4x
import Derived.Deep.RegionHeld2
import Derived.Deep.RegionHeld3
namespace Go.Proofs.Ytmhdinianpeelab
open Go.RowKit Go.IntWalk
set_option linter.unusedSimpArgs false
set_option linter.unusedVariables false

set_option maxRecDepth 100000 in
set_option maxHeartbeats 4000000 in
theorem bounds_d (N L : Nat) (B : List UInt8) (low high : Int) (a : ByteArray) (ao : Option Addr) (cap : Nat) (l : List (Int × Int × Int)) (w : World) (hA : AsksAt w ao l) (hn : N ≤ 9223372036854775807) (h0 : a.size ≤ 300) (h : l.length ≤ 30) (hlo : (N : Int) < low) (hhi : (N : Int) ≤ high) (hB : B.length ≤ 140737488355328) (hLB : L ≤ B.length)
    (hT : rText B 300 (0, 0, 0) = (a.data.toList, (L, 0, 0))) (hI : rInt B low high (L, 0, 0) = (0, (L, 5, (L : Int)))) (hC : rCount B high (L, 0, 0) = ((N : Int), (B.length, 0, 0)))
    (hall : ∀ w, Calls Try.prog 8 #[.slice (some ⟨w.heap.size, 0, none⟩) 2 2] (w.alloc (.cells (thL (thS a) ++ thL (thN (N : Int))).toArray 35)) fun e w' => ∃ ao' cap', e = .returned (.tuple #[.slice ao' B.length cap', .bool true]) ∧ Row w' 5 ao' cap' B ∧ Fr (fun _ => False) w w' ∧ ∀ k, blk ao' k → w.heap.size ≤ k) :
    Calls Try.prog 4 #[.int .i64 (N : Int), .int .i64 low, .int .i64 high, .string a, .slice ao l.length cap] w fun e w' => e = .returned (.bool true) ∧ Fr (fun _ => False) w w' := by
  have H2 := hideIt hall
  have HT := hideIt hT
  have HI := hideIt hI
  have HC := hideIt hC
  have HK := hideIt hA
  clear hall hT hI hC hA
  have hm1 : ∀ (x : Bool) (w : World), (Op.unary .not (.bool x)).run Try.prog w = .ok (.bool (!x)) w := fun _ _ => rfl
  have hfd : ∀ (x y : Int) (w : World), (Instr.field 43 (.agg #[.int .i64 x, .int .i64 y]) 0).run Try.prog w = .ok (.int .i64 x) w := fun _ _ _ => by kernel_rfl
  have HA := hideIt (awake_any w)
  go_enter Try.func4, Try.ntmps4
  go_wp2_with fail
  refine Calls.mono HA.out ?_
  rintro e w1 ⟨rfl, hF1⟩
  go_wp2_with fail
  refine Calls.mono (H2.out w1) ?_
  rintro e w2 ⟨aoA, capA, rfl, hrowA, hF2, hnA⟩
  have HO1 := hideIt (open_any aoA capA B w2 hrowA.bs hrowA.cap0 hB)
  have HBs := hideIt hrowA.bs
  have HB0 := hideIt hrowA.cap0
  have hs12 := hF2.size
  have hs01 := hF1.size
  have hF02 := hF1.trans hF2 (fun _ _ e => e)
  clear hrowA hnA hF1 hF2
  go_wp2_with fail
  refine Calls.mono HO1.out ?_
  rintro e w3 ⟨p1, t1, ao1, cap1, rfl, hQ1, hF3, hp1, ht1, hn1⟩
  have HO2 := hideIt (open_any aoA capA B w3 (HBs.out.fr hF3 (fun _ _ _ e => e)) HB0.out hB)
  have l1 := hQ1.lt
  have l1t := hQ1.tp.lt
  have l1s := hideIt (fun k (hk : wset t1 ao1 k) => hQ1.setlt hk)
  go_wp2_with fail
  refine Calls.mono HO2.out ?_
  rintro e w4 ⟨p2, t2, ao2, cap2, rfl, hQ2, hF4, hp2, ht2, hn2⟩
  have x1 : p2 ≠ t1 := by omega
  have x2 : ¬ wset t2 ao2 t1 := by
    rintro (e | e)
    · omega
    · have := hn2 _ e
      omega
  have x3 : p1 ≠ t2 := by omega
  have x4 : ¬ wset t1 ao1 t2 := fun e => by
    have := l1s.out _ e
    omega
  have y1 : w.heap.size ≤ t1 := by omega
  have hs3 := hF3.size
  have y2 : w.heap.size ≤ t2 := by omega
  have R1 : ROk w4 p1 t1 ao1 cap1 B (0, 0, 0) := ROk.fr0 ⟨hQ1, Nat.zero_le _⟩ hF4
  have R2 : ROk w4 p2 t2 ao2 cap2 B (0, 0, 0) := ⟨hQ2, Nat.zero_le _⟩
  have F := (hF02.trans hF3 (fun _ _ e => e)).trans hF4 (fun _ _ e => e)
  clear hQ1 hQ2 hF3 hF4 hF02 hn1 hn2 HO1 HO2 HBs HB0 hp1 hp2 ht1 ht2 l1 l1t hs3 hs12 hs01
  have HH := hideIt (rtext_any p1 t1 ao1 cap1 B (0, 0, 0) 300 w4 R1 hB)
  rw [HT.out] at HH
  go_wp2_with fail
  refine Calls.mono HH.out ?_
  rintro e w5 ⟨rfl, R1n, G⟩
  clear HH
  have R2n := R2.other G x1 x2
  have Fn := F.trans (S' := fun k => k = t1) G (fun i hi e => by omega)
  clear R1 R2 F G
  have R1 := R1n
  have R2 := R2n
  have F := Fn
  clear R1n R2n Fn
  have HH := hideIt (rtext_any p2 t2 ao2 cap2 B (0, 0, 0) 300 w5 R2 hB)
  rw [HT.out] at HH
  go_wp2_with fail
  refine Calls.mono HH.out ?_
  rintro e w6 ⟨rfl, R2n, G⟩
  clear HH
  have R1n := R1.other G x3 x4
  have Fn := F.trans (S' := fun k => k = t2) G (fun i hi e => by omega)
  clear R1 R2 F G
  have R1 := R1n
  have R2 := R2n
  have F := Fn
  clear R1n R2n Fn
  have HH := hideIt (rat_any p1 t1 ao1 cap1 B (L, 0, 0) w6 R1)
  go_wp2_with fail
  refine Calls.mono HH.out ?_
  rintro e w7 ⟨rfl, rfl⟩
  clear HH
  have HH := hideIt (rint_any p1 t1 ao1 cap1 B (L, 0, 0) low high w7 R1 hB)
  rw [HI.out] at HH
  go_wp2_with fail
  refine Calls.mono HH.out ?_
  rintro e w8 ⟨rfl, R1n, G⟩
  clear HH
  have R2n := R2.other G x1 x2
  have Fn := F.trans (S' := fun k => k = t1) G (fun i hi e => by omega)
  clear R1 R2 F G
  have R1 := R1n
  have R2 := R2n
  have F := Fn
  clear R1n R2n Fn
  have HH := hideIt (rcount_any p2 t2 ao2 cap2 B (L, 0, 0) high w8 R2 hB)
  rw [HC.out] at HH
  go_wp2_with fail
  refine Calls.mono HH.out ?_
  rintro e w9 ⟨rfl, R2n, G⟩
  clear HH
  have R1n := R1.other G x3 x4
  have Fn := F.trans (S' := fun k => k = t2) G (fun i hi e => by omega)
  clear R1 R2 F G
  have R1 := R1n
  have R2 := R2n
  have F := Fn
  clear R1n R2n Fn
  have HH := hideIt (rfault_any p1 t1 ao1 cap1 B (L, 5, (L : Int)) w9 R1)
  go_wp2_with fail
  refine Calls.mono HH.out ?_
  rintro e w10 ⟨rfl, G⟩
  clear HH
  have R1n := R1.fr0 G
  have R2n := R2.fr0 G
  have Fn := F.trans G (fun _ _ e => e)
  clear R1 R2 F G
  have R1 := R1n
  have R2 := R2n
  have F := Fn
  clear R1n R2n Fn
  have HH := hideIt (rfault_any p2 t2 ao2 cap2 B (B.length, 0, 0) w10 R2)
  go_wp2_with fail
  refine Calls.mono HH.out ?_
  rintro e w11 ⟨rfl, G⟩
  clear HH
  have R1n := R1.fr0 G
  have R2n := R2.fr0 G
  have Fn := F.trans G (fun _ _ e => e)
  clear R1 R2 F G
  have R1 := R1n
  have R2 := R2n
  have F := Fn
  clear R1n R2n Fn
  have HH := hideIt (rleft_any p2 t2 ao2 cap2 B (B.length, 0, 0) w11 R2 hB)
  go_wp2_with fail
  refine Calls.mono HH.out ?_
  rintro e w12 ⟨rfl, kk, rfl⟩
  clear HH
  have R1n := R1.fr0 ((Fr.refl (fun _ => False) w11).drewN kk)
  have R2n := R2.fr0 ((Fr.refl (fun _ => False) w11).drewN kk)
  have Fn := F.drewN kk
  clear R1 R2 F
  have R1 := R1n
  have R2 := R2n
  have F := Fn
  clear R1n R2n Fn
  generalize w11.drewN kk = w12 at *
  have HH := hideIt (rfault_any p1 t1 ao1 cap1 B (L, 5, (L : Int)) w12 R1)
  go_wp2_with fail
  refine Calls.mono HH.out ?_
  rintro e w13 ⟨rfl, G⟩
  clear HH
  have R1n := R1.fr0 G
  have R2n := R2.fr0 G
  have Fn := F.trans G (fun _ _ e => e)
  clear R1 R2 F G
  have R1 := R1n
  have R2 := R2n
  have F := Fn
  clear R1n R2n Fn
  go_wp2_with fail
  have R0 := R1.fr0 ((Fr.refl (fun _ => False) w13).alloc (.cells #[.int .i64 5, .int .i64 (L : Int)] 43))
  have hwb : (w13.alloc (.cells #[.int .i64 5, .int .i64 (L : Int)] 43)).heap[w13.heap.size]? = some (.cells #[.int .i64 5, .int .i64 (L : Int)] 43 (0, 0)) := heap_new rfl
  have F0 := F.alloc (.cells #[.int .i64 5, .int .i64 (L : Int)] 43)
  have hb13 : ¬ w13.heap.size = t1 := by have := R1.1.tp.lt; omega
  clear R1 R2 F H2 HT HI HC HA
  go_loopw [20] (fun i wr => ∃ k : Nat, i = .int .i64 k ∧ k ≤ l.length ∧ ROk wr p1 t1 ao1 cap1 B (L, 5, (L : Int)) ∧ Fr (fun _ => False) w wr ∧ wr.heap[w13.heap.size]? = some (.cells #[.int .i64 5, .int .i64 (L : Int)] 43 (0, 0)))
    (fun i _ => (l.length - intOf i).toNat)
  case atStart => exact ⟨0, rfl, Nat.zero_le _, R0, F0, hwb⟩
  case round =>
    clear R0 F0 hwb
    obtain ⟨k, rfl, hk, hR, hF, hbx⟩ := hrel
    by_cases hlt : k < l.length
    · rcases HK.out with h0 | ⟨b, off, rfl, hbl, hc⟩
      · rw [h0] at hlt
        exact absurd hlt (by simp)
      have HTH := hideIt (show wr.rangeAt b (off + k * 3) [.int .i64 l[k].1, .int .i64 l[k].2.1, .int .i64 l[k].2.2] from fun j v hv => (World.cell?_of_block (a := ⟨b, off + k * 3 + j, none⟩) (hF.block b hbl (fun e => e))).trans (hc k hlt j v hv))
      have HTI := hideIt (show (Try.prog.info? 49).map (·.size) = some 3 by kernel_rfl)
      obtain ⟨kk, hq⟩ := ask_shut B l[k] L 5 (L : Int) (by decide)
      have HAS := hideIt (ask_any p1 t1 ao1 cap1 B (L, 5, (L : Int)) l[k] wr hR hB)
      rw [hq] at HAS
      have HFW := hideIt hF
      have HBX := hideIt hbx
      clear hc hq hR hF hbx
      generalize l[k] = q at *
      obtain ⟨q1, q2, q3⟩ := q
      go_wp2_with (first | (refine wpList_load_mid rfl 49 (.tmp 157) rfl b (off + k * 3) rfl [.int .i64 q1, .int .i64 q2, .int .i64 q3] _ HTH.out Try.underlying49 rfl HTI.out ?_))
      refine Calls.mono HAS.out ?_
      rintro e w2 ⟨rfl, hR2, G⟩
      have HT2 := hideIt (thereNew (w2.alloc (.cells thZ 35)) w2.heap.size thZ 35 (heap_new rfl) (thA ⟨kk, 0, ⟨#[]⟩, zeros32⟩).size rfl)
      have HI2 := hideIt (show (Try.prog.info? 35).map (·.size) = some (thA ⟨kk, 0, ⟨#[]⟩, zeros32⟩).size from Try.infoTh)
      have H12 := hideIt (thA_one ⟨kk, 0, ⟨#[]⟩, zeros32⟩)
      have HW := hideIt (box_of kk w2)
      have HID := hideIt (show (Try.prog.info? 33).map (·.size) = some (bv zeros32).length from Try.infoIDj)
      have HZ := hideIt built0
      have HR2 := hideIt hR2
      have HG := hideIt G
      clear hR2 G
      go_wp2_with (first | (refine wpList_store_abs rfl 35 (.tmp 21) (.tmp 159) rfl w2.heap.size 0 (thA ⟨kk, 0, ⟨#[]⟩, zeros32⟩) rfl rfl HT2.out HI2.out H12.out ?_; intro W5 hW5; obtain ⟨c1, c2, c3, hF5⟩ := HW.out W5 hW5; have HF5 := hideIt hF5; have HC3 := hideIt c3; clear hF5 hW5 c3) | (refine wpList_load_want rfl 33 (.tmp 169) rfl w2.heap.size 3 rfl (bv zeros32) _ HC3.out Try.underlying33 rfl HID.out ?_) | (refine wpList_build_want rfl 33 rfl zA HZ.out ?_) | (refine wpList_bin_want rfl .neq 33 33 (.tmp 170) (.tmp 171) rfl _ _ (.bool false) rfl rfl (ids_same2 _) (ids_guard _ _ _) ?_))
      go_roundw
      case measure => simp [intOf]; omega
      case rel =>
        have hlb := (Array.getElem?_eq_some_iff.1 HBX.out).1
        have hg2 := HG.out.size
        exact ⟨k + 1, by go_num, by omega, HR2.out.fr0 HF5.out, (HFW.out.trans (S' := fun k => k = t1) HG.out (fun i hi e => by omega)).trans HF5.out (fun _ _ e => e), (HF5.out.block _ (by omega) (fun e => e)).trans ((HG.out.block _ hlb hb13).trans HBX.out)⟩
    · obtain rfl : k = l.length := by omega
      have HS := hideIt (show ∀ w', Fr (fun _ => False) wr w' → w'.cell? ⟨w13.heap.size, 0, none⟩ = some (.int .i64 5) ∧ w'.cell? ⟨w13.heap.size, 1, none⟩ = some (.int .i64 (L : Int)) ∧ Fr (fun _ => False) wr w' from fun w' hF' => by
        have hlb := (Array.getElem?_eq_some_iff.1 hbx).1
        have hbl := (hF'.block _ hlb (fun e => e)).trans hbx
        exact ⟨cellOfHeap hbl 0 rfl, cellOfHeap hbl 1 rfl, hF'⟩)
      have HE : rEnd B (L, 5, (L : Int)) = (5, (L : Int)) := by simp [rEnd]
      have H1 := hideIt (fun w' (hF' : Fr (fun _ => False) wr w') => rfault_any p1 t1 ao1 cap1 B (L, 5, (L : Int)) w' (hR.fr0 hF'))
      have H2 := hideIt (fun w' (hF' : Fr (fun _ => False) wr w') => rat_any p1 t1 ao1 cap1 B (L, 5, (L : Int)) w' (hR.fr0 hF'))
      have H3 := hideIt (fun w' (hF' : Fr (fun _ => False) wr w') => by have := rend_any p1 t1 ao1 cap1 B (L, 5, (L : Int)) w' (hR.fr0 hF') hB; rw [HE] at this; exact this)
      have HFW := hideIt hF
      clear HE hbx hR hF HK
      go_wp2_with fail
      go_region_held2 (fun w' => w'.cell? ⟨w13.heap.size, 0, none⟩ = some (.int .i64 5) ∧ w'.cell? ⟨w13.heap.size, 1, none⟩ = some (.int .i64 (L : Int)) ∧ Fr (fun _ => False) wr w')
        (first | exact HS.out _ (by assumption) | exact HS.out _ ((Fr.refl _ _).drew))
        (first | (go_at_call 20; refine Calls.mono (H1.out _ (Fr.refl _ wr).drew) ?_; rintro e wA ⟨rfl, hFA⟩; have hWA := Fr.trans ((Fr.refl (fun _ => False) wr).drew) hFA (fun _ _ e => e)) | (go_at_call 16; refine Calls.mono (H2.out _ hWA) ?_; rintro e wX ⟨rfl, rfl⟩) | (go_at_call 17; refine Calls.mono (H3.out _ hWA) ?_; rintro e wB ⟨rfl, hFB⟩; have hWB := Fr.trans hWA hFB (fun _ _ e => e)))
      go_wp2_with fail
      go_ret
      exact ⟨rfl, HFW.out.trans hWB (fun _ _ e => e)⟩

end Go.Proofs.Ytmhdinianpeelab
