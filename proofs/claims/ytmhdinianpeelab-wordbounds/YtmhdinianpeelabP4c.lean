/- WordBounds: case c. -/
import Derived.Test.YtmhdinianpeelabP4x
import Derived.Deep.RegionHeld2
import Derived.Deep.RegionHeld3
namespace Go.Proofs.Ytmhdinianpeelab
open Go.RowKit Go.IntWalk
set_option linter.unusedSimpArgs false
set_option linter.unusedVariables false

set_option maxRecDepth 100000 in
set_option maxHeartbeats 4000000 in
theorem bounds_c (N L : Nat) (B : List UInt8) (low high : Int) (a : ByteArray) (ao : Option Addr) (cap : Nat) (l : List (Int × Int × Int)) (w : World) (hA : AsksAt w ao l) (hn : N ≤ 9223372036854775807) (h0 : a.size ≤ 300) (h : l.length ≤ 30) (hlo : low ≤ (N : Int)) (hhi : (N : Int) ≤ high) (hB : B.length ≤ 140737488355328) (hLB : L ≤ B.length)
    (hT : rText B 300 (0, 0, 0) = (a.data.toList, (L, 0, 0))) (hI : rInt B low high (L, 0, 0) = ((N : Int), (B.length, 0, 0))) (hC : rCount B high (L, 0, 0) = ((N : Int), (B.length, 0, 0)))
    (hall : ∀ w, Calls Try.prog 8 #[.slice (some ⟨w.heap.size, 0, none⟩) 2 2] (w.alloc (.cells (thL (thS a) ++ thL (thN (N : Int))).toArray 35)) fun e w' => ∃ ao' cap', e = .returned (.tuple #[.slice ao' B.length cap', .bool true]) ∧ Row w' 5 ao' cap' B ∧ Fr (fun _ => False) w w' ∧ ∀ k, blk ao' k → w.heap.size ≤ k) :
    Calls Try.prog 4 #[.int .i64 (N : Int), .int .i64 low, .int .i64 high, .string a, .slice ao l.length cap] w fun e w' => e = .returned (.bool true) ∧ Fr (fun _ => False) w w' := by
  have H2 := hideIt hall
  have HT := hideIt hT
  have HI := hideIt hI
  have HC := hideIt hC
  have HK := hideIt hA
  clear hall hT hI hC hA
  have hm1 : ∀ (x : Bool) (w : World), (Op.unary .not (.bool x)).run Try.prog w = .ok (.bool (!x)) w := fun _ _ => rfl
  have hfd : ∀ (x y : Int) (w : World), (Instr.field 43 (.agg #[.int .i64 x, .int .i64 y]) 0).run Try.prog w = .ok (.int .i64 x) w := fun _ _ _ => by kernel_rfl
  have HA := hideIt (awake_any w)
  go_enter Try.func4, Try.ntmps4
  go_wp2_with fail
  refine Calls.mono HA.out ?_
  rintro e w1 ⟨rfl, hF1⟩
  go_wp2_with fail
  refine Calls.mono (H2.out w1) ?_
  rintro e w2 ⟨aoA, capA, rfl, hrowA, hF2, hnA⟩
  have HO1 := hideIt (open_any aoA capA B w2 hrowA.bs hrowA.cap0 hB)
  have HBs := hideIt hrowA.bs
  have HB0 := hideIt hrowA.cap0
  have hs12 := hF2.size
  have hs01 := hF1.size
  have hF02 := hF1.trans hF2 (fun _ _ e => e)
  clear hrowA hnA hF1 hF2
  go_wp2_with fail
  refine Calls.mono HO1.out ?_
  rintro e w3 ⟨p1, t1, ao1, cap1, rfl, hQ1, hF3, hp1, ht1, hn1⟩
  have HO2 := hideIt (open_any aoA capA B w3 (HBs.out.fr hF3 (fun _ _ _ e => e)) HB0.out hB)
  have l1 := hQ1.lt
  have l1t := hQ1.tp.lt
  have l1s := hideIt (fun k (hk : wset t1 ao1 k) => hQ1.setlt hk)
  go_wp2_with fail
  refine Calls.mono HO2.out ?_
  rintro e w4 ⟨p2, t2, ao2, cap2, rfl, hQ2, hF4, hp2, ht2, hn2⟩
  have x1 : p2 ≠ t1 := by omega
  have x2 : ¬ wset t2 ao2 t1 := by
    rintro (e | e)
    · omega
    · have := hn2 _ e
      omega
  have x3 : p1 ≠ t2 := by omega
  have x4 : ¬ wset t1 ao1 t2 := fun e => by
    have := l1s.out _ e
    omega
  have y1 : w.heap.size ≤ t1 := by omega
  have hs3 := hF3.size
  have y2 : w.heap.size ≤ t2 := by omega
  have R1 : ROk w4 p1 t1 ao1 cap1 B (0, 0, 0) := ROk.fr0 ⟨hQ1, Nat.zero_le _⟩ hF4
  have R2 : ROk w4 p2 t2 ao2 cap2 B (0, 0, 0) := ⟨hQ2, Nat.zero_le _⟩
  have F := (hF02.trans hF3 (fun _ _ e => e)).trans hF4 (fun _ _ e => e)
  clear hQ1 hQ2 hF3 hF4 hF02 hn1 hn2 HO1 HO2 HBs HB0 hp1 hp2 ht1 ht2 l1 l1t hs3 hs12 hs01
  have HH := hideIt (rtext_any p1 t1 ao1 cap1 B (0, 0, 0) 300 w4 R1 hB)
  rw [HT.out] at HH
  go_wp2_with fail
  refine Calls.mono HH.out ?_
  rintro e w5 ⟨rfl, R1n, G⟩
  clear HH
  have R2n := R2.other G x1 x2
  have Fn := F.trans (S' := fun k => k = t1) G (fun i hi e => by omega)
  clear R1 R2 F G
  have R1 := R1n
  have R2 := R2n
  have F := Fn
  clear R1n R2n Fn
  have HH := hideIt (rtext_any p2 t2 ao2 cap2 B (0, 0, 0) 300 w5 R2 hB)
  rw [HT.out] at HH
  go_wp2_with fail
  refine Calls.mono HH.out ?_
  rintro e w6 ⟨rfl, R2n, G⟩
  clear HH
  have R1n := R1.other G x3 x4
  have Fn := F.trans (S' := fun k => k = t2) G (fun i hi e => by omega)
  clear R1 R2 F G
  have R1 := R1n
  have R2 := R2n
  have F := Fn
  clear R1n R2n Fn
  have HH := hideIt (rat_any p1 t1 ao1 cap1 B (L, 0, 0) w6 R1)
  go_wp2_with fail
  refine Calls.mono HH.out ?_
  rintro e w7 ⟨rfl, rfl⟩
  clear HH
  have HH := hideIt (rint_any p1 t1 ao1 cap1 B (L, 0, 0) low high w7 R1 hB)
  rw [HI.out] at HH
  go_wp2_with fail
  refine Calls.mono HH.out ?_
  rintro e w8 ⟨rfl, R1n, G⟩
  clear HH
  have R2n := R2.other G x1 x2
  have Fn := F.trans (S' := fun k => k = t1) G (fun i hi e => by omega)
  clear R1 R2 F G
  have R1 := R1n
  have R2 := R2n
  have F := Fn
  clear R1n R2n Fn
  have HH := hideIt (rcount_any p2 t2 ao2 cap2 B (L, 0, 0) high w8 R2 hB)
  rw [HC.out] at HH
  go_wp2_with fail
  refine Calls.mono HH.out ?_
  rintro e w9 ⟨rfl, R2n, G⟩
  clear HH
  have R1n := R1.other G x3 x4
  have Fn := F.trans (S' := fun k => k = t2) G (fun i hi e => by omega)
  clear R1 R2 F G
  have R1 := R1n
  have R2 := R2n
  have F := Fn
  clear R1n R2n Fn
  have HH := hideIt (rfault_any p1 t1 ao1 cap1 B (B.length, 0, 0) w9 R1)
  go_wp2_with fail
  refine Calls.mono HH.out ?_
  rintro e w10 ⟨rfl, G⟩
  clear HH
  have R1n := R1.fr0 G
  have R2n := R2.fr0 G
  have Fn := F.trans G (fun _ _ e => e)
  clear R1 R2 F G
  have R1 := R1n
  have R2 := R2n
  have F := Fn
  clear R1n R2n Fn
  have HH := hideIt (rfault_any p2 t2 ao2 cap2 B (B.length, 0, 0) w10 R2)
  go_wp2_with fail
  refine Calls.mono HH.out ?_
  rintro e w11 ⟨rfl, G⟩
  clear HH
  have R1n := R1.fr0 G
  have R2n := R2.fr0 G
  have Fn := F.trans G (fun _ _ e => e)
  clear R1 R2 F G
  have R1 := R1n
  have R2 := R2n
  have F := Fn
  clear R1n R2n Fn
  have HH := hideIt (rleft_any p2 t2 ao2 cap2 B (B.length, 0, 0) w11 R2 hB)
  go_wp2_with fail
  refine Calls.mono HH.out ?_
  rintro e w12 ⟨rfl, kk, rfl⟩
  clear HH
  have R1n := R1.fr0 ((Fr.refl (fun _ => False) w11).drewN kk)
  have R2n := R2.fr0 ((Fr.refl (fun _ => False) w11).drewN kk)
  have Fn := F.drewN kk
  clear R1 R2 F
  have R1 := R1n
  have R2 := R2n
  have F := Fn
  clear R1n R2n Fn
  generalize w11.drewN kk = w12 at *
  have HH := hideIt (rfault_any p1 t1 ao1 cap1 B (B.length, 0, 0) w12 R1)
  go_wp2_with fail
  refine Calls.mono HH.out ?_
  rintro e w13 ⟨rfl, G⟩
  clear HH
  have R1n := R1.fr0 G
  have R2n := R2.fr0 G
  have Fn := F.trans G (fun _ _ e => e)
  clear R1 R2 F G
  have R1 := R1n
  have R2 := R2n
  have F := Fn
  clear R1n R2n Fn
  have HH := hideIt (rleft_any p1 t1 ao1 cap1 B (B.length, 0, 0) w13 R1 hB)
  go_wp2_with fail
  refine Calls.mono HH.out ?_
  rintro e w14 ⟨rfl, kk, rfl⟩
  clear HH
  have R1n := R1.fr0 ((Fr.refl (fun _ => False) w13).drewN kk)
  have R2n := R2.fr0 ((Fr.refl (fun _ => False) w13).drewN kk)
  have Fn := F.drewN kk
  clear R1 R2 F
  have R1 := R1n
  have R2 := R2n
  have F := Fn
  clear R1n R2n Fn
  generalize w13.drewN kk = w14 at *
  go_wp2_with fail
  go_ret
  exact ⟨rfl, F⟩

end Go.Proofs.Ytmhdinianpeelab
