/- ProgReads, part 5 of the road: what the program's functions do, each by its own walk. -/
import Derived.Test.YtojgikaoiegmpaaQ4
import Derived.Test.YtojgikaoiegmpaaQ2
import Derived.Laws.CopyRow
import Derived.Lib.SlBuf
import Derived.Laws.OwnMore
import Derived.Deep.OwnRows
import Derived.Test.YtojgikaoiegmpaaQ1
import Derived.ProofKit
import Derived.OpenShut
import Derived.Carry
import Derived.Deep.Strs

/- Package prog: the document's Read, walked. -/
namespace Go.Proofs.Ytojgikaoiegmpaa
open Go.RowKit Go.IntWalk
set_option linter.unusedSimpArgs false
set_option linter.unusedVariables false
set_option maxRecDepth 100000

/-- What the document's Read answers. -/
def PHReadP (r : List Ins × Int × Int) (w : World) (e : Ending) (w' : World) : Prop :=
  ∃ ao cap, e = .returned (.tuple #[.slice ao r.1.length cap, .agg #[.int .i64 r.2.1, .int .i64 r.2.2]]) ∧ InsRow w' ao r.1 ∧ Fr (fun _ => False) w w' ∧ ∀ k, blk ao k → w.heap.size ≤ k
theorem rdL_succ (bs : List UInt8) (a : Int) (k : Nat) : rdL bs a (k + 1) = rdL bs a k ++ [(rdR bs a k).1] := by
  unfold rdL
  rw [List.range_succ, List.map_append]
  rfl
/-- The first places. -/
def rdP (bs : List UInt8) (a : Int) (n : Nat) : List Int := (List.range n).map (rdAt bs a)
theorem rdP_len (bs : List UInt8) (a : Int) (n : Nat) : (rdP bs a n).length = n := by simp [rdP]
theorem rdP_succ (bs : List UInt8) (a : Int) (k : Nat) : rdP bs a (k + 1) = rdP bs a k ++ [rdAt bs a k] := by
  unfold rdP
  rw [List.range_succ, List.map_append]
  rfl
theorem rdP_get (bs : List UInt8) (a : Int) (n t : Nat) (h : t < (rdP bs a n).length) : (rdP bs a n)[t] = rdAt bs a t := by simp [rdP]

set_option maxRecDepth 100000 in
set_option maxHeartbeats 8000000 in
theorem hRead_any (ao : Option Addr) (cap : Nat) (bs : List UInt8) (w : World) (hB : BsAt w ao bs) (hcl : bs.length ≤ cap) (hcm : cap ≤ maxLen) (hnb : ∀ k, blk ao k → k < w.heap.size) :
    Calls Try.prog 9 #[.slice ao bs.length cap] w (PHReadP (readP bs) w) := by
  by_cases h512 : 512 < bs.length
  · have hd : decide ((512 : Int) < (bs.length : Int)) = true := by simp; omega
    have hr : readP bs = ([], 3, 512) := by unfold readP; rw [if_pos h512]
    rw [hr]
    clear hr h512
    go_enter Try.func9, Try.ntmps9
    go_wp2_with fail
    refine bodyPost_ret (v := .tuple #[.slice none 0 0, .agg #[.int .i64 3, .int .i64 512]]) (by simp [results, Try.results9, go_sem]) rfl ?_
    exact ⟨none, 0, rfl, Or.inl rfl, (Fr.refl _ _).alloc _, fun k hk => by obtain ⟨_, e, _⟩ := hk; cases e⟩
  · have hd : decide ((512 : Int) < (bs.length : Int)) = false := by simp; omega
    have hr : readP bs = if (rCount bs 60 (0, 0, 0)).2.2.1 = 0 then readN bs (rCount bs 60 (0, 0, 0)).1.toNat (rCount bs 60 (0, 0, 0)).2.1 else ([], (rCount bs 60 (0, 0, 0)).2.2.1, (rCount bs 60 (0, 0, 0)).2.2.2) := by unfold readP; rw [if_neg h512]
    rw [hr]
    clear hr
    have hl : bs.length ≤ 512 := by omega
    have HO := hideIt (fun W (hF : Fr (fun _ => False) w W) => yopen_any ao cap bs W (hB.fr hF (fun _ _ _ e => e)) (fun k hk => Nat.lt_of_lt_of_le (hnb k hk) hF.size))
    have HVR := hideIt (fun (W : World) (at_ : Int) (hF : Fr (fun _ => False) w W) => vread_any ao cap bs at_ W (hB.fr hF (fun _ _ _ e => e)) (by omega) hcl hcm (fun k hk => Nat.lt_of_lt_of_le (hnb k hk) hF.size))
    have HF0 := hideIt (show Fr (fun _ => False) w (w.alloc (.cells #[.int .i64 0, .int .i64 0] 28)) from (Fr.refl _ _).alloc _)
    obtain ⟨n, hn1, hn2⟩ := rCount_rng bs (0, 0, 0)
    have HN := hideIt hn2
    have HC := hideIt (fun p ao cap W (h : YOk W p ao cap bs (0, 0, 0)) => ycount_any p ao cap bs (0, 0, 0) 60 W h (by omega))
    generalize rCount bs 60 (0, 0, 0) = c at *
    obtain ⟨c1, at_, er, ea⟩ := c
    dsimp only at hn1 HC ⊢
    subst hn1
    rw [Int.toNat_natCast]
    obtain ⟨R, hR⟩ : ∃ R, (if er = 0 then readN bs n (at_ : Int) else ([], er, ea)) = R := ⟨_, rfl⟩
    rw [hR]
    have HR := hideIt hR
    clear hR hB hcl hcm hnb h512 hn2
    go_enter Try.func9, Try.ntmps9
    go_wp2_with fail
    refine Calls.mono (HO.out _ HF0.out) ?_
    rintro e w1 ⟨rfl, hY1, hF1, hs1⟩
    have HF1 := hideIt (HF0.out.trans hF1 (fun _ _ e => e))
    have HX1 := hideIt ((hF1.block w.heap.size (by simp) (fun e => e)).trans (heap_new rfl))
    have HY1 := hideIt (show YOk w1 (w.heap.size + 1) ao cap bs (0, 0, 0) by simpa using hY1)
    have HS1 := hideIt hs1
    clear hY1 hF1 hs1 HO HF0
    go_wp2_with fail
    refine Calls.mono (HC.out _ ao cap w1 HY1.out) ?_
    rintro e w2 ⟨rfl, hY2, hF2⟩
    have hX2 : w2.heap[w.heap.size]? = some (.cells #[.int .i64 0, .int .i64 0] 28 (0, 0)) := (hF2.block _ (Array.getElem?_eq_some_iff.1 HX1.out).1 (by omega)).trans HX1.out
    have HF2 := hideIt (HF1.out.trans hF2 (fun i hi e => by omega))
    have hbx := hY2.1.box
    dsimp only at hbx
    have b1 := cellOfHeap hbx 1 rfl
    have b2 := cellOfHeap hbx 2 rfl
    have b3 := cellOfHeap hbx 3 rfl
    have HX2 := hideIt hX2
    have hq0 := cellOfHeap hX2 0 rfl
    have hq1 := cellOfHeap hX2 1 rfl
    have g0 := frozen_of_row w2 w.heap.size 0 _ _ hX2
    have g1 := frozen_of_row w2 w.heap.size 1 _ _ hX2
    have hlt2 := (Array.getElem?_eq_some_iff.1 hX2).1
    have hlb2 := (Array.getElem?_eq_some_iff.1 hbx).1
    clear hY2 hF2 hX2 hbx HY1 HC HF1 HX1 HS1
    by_cases her : er = 0
    · subst her
      have HRN := hideIt (show readN bs n (at_ : Int) = R from by rw [← HR.out]; rfl)
      clear HR
      go_wp2_with fail
      have HT0 := hideIt (Two.start (Fr.refl (fun _ => False) w2))
      go_loopw [6, 7, 8, 9] (fun s6 s7 s8 s9 wr => ∃ (k : Nat) (ao2 : Option Addr) (cap2 : Nat) (bo : Option Addr) (c : Nat), s6 = .int .i64 (rdAt bs (at_ : Int) k) ∧ s7 = .slice ao2 k cap2 ∧ s8 = .slice bo k c ∧ s9 = .int .i64 k ∧ k ≤ n ∧ Hid (Two w2 wr ao2 cap2 (rdL bs (at_ : Int) k) bo c (rdP bs (at_ : Int) k)) ∧ Hid (∀ t, t < k → (rdR bs (at_ : Int) t).2.2.1 = 0)) (fun _ _ _ s9 _ => n - (intOf s9).toNat)
      case atStart => exact ⟨0, none, 0, none, 0, rfl, rfl, rfl, rfl, by omega, HT0, hideIt (fun t ht => absurd ht (by omega))⟩
      case round =>
        clear HT0 hq0 hq1 g0 g1 b1 b2 b3
        obtain ⟨k, ao2, cap2, bo, c, rfl, rfl, rfl, rfl, hk, HT, HE⟩ := hrel
        by_cases hlt : k < n
        · have h1 : (k : Int) < (n : Int) := by omega
          have hn60 := HN.out
          have HR1 := hideIt (HVR.out wr (rdAt bs (at_ : Int) k) (HF2.out.trans HT.out.fr (fun _ _ e => e)))
          obtain ⟨y, hy⟩ : ∃ y, readR bs (rdAt bs (at_ : Int) k) = y := ⟨_, rfl⟩
          have HY := hideIt (show rdR bs (at_ : Int) k = y from hy)
          have HYA := hideIt (show rdAt bs (at_ : Int) (k + 1) = y.2.1 from congrArg (·.2.1) hy)
          rw [hy] at HR1
          clear hy
          obtain ⟨⟨op, x1, x2, x3, x4, sx⟩, m, er, ea⟩ := y
          unfold readV icells at HR1
          dsimp only at HR1 HYA
          have HPS := hideIt (rdP_succ bs (at_ : Int) k)
          generalize rdAt bs (at_ : Int) k = ak at *
          go_wp2_with fail
          refine Calls.mono HR1.out ?_
          rintro e w3 ⟨rfl, hF3⟩
          have HF3 := hideIt hF3
          have HT3 := hideIt (HT.out.quiet hF3)
          clear hF3 HR1 HT
          have hX3 := (HT3.out.fr.block w.heap.size hlt2 (fun e => e)).trans HX2.out
          have hlt3 := (Array.getElem?_eq_some_iff.1 hX3).1
          by_cases her : er = 0
          · subst her
            clear hX3
            have HT4 := hideIt (HT3.out.quiet (((Fr.refl (fun _ => False) w3).alloc (.cells #[.int .i64 op, .int .i64 x1, .int .i64 x2, .int .i64 x3, .int .i64 x4, .string sx] 40)).alloc (.cells #[.int .i64 0, .int .i64 ea] 28)))
            obtain ⟨ao3, cap3, w4, hrun4, hT5⟩ := HT4.out.appA (by rw [rdL_len]; have := HN.out; omega) ⟨op, x1, x2, x3, x4, sx⟩ #[.int .i64 op, .int .i64 x1, .int .i64 x2, .int .i64 x3, .int .i64 x4, .string sx] rfl
            rw [rdL_len] at hrun4
            obtain ⟨bo3, c3, w5, hrun5, hT6⟩ := hT5.appB (by rw [rdP_len]; have := HN.out; omega) ak
            rw [rdP_len] at hrun5
            rw [show ((w3.alloc (.cells #[.int .i64 op, .int .i64 x1, .int .i64 x2, .int .i64 x3, .int .i64 x4, .string sx] 40)).alloc (.cells #[.int .i64 0, .int .i64 ea] 28)).heap.size = w3.heap.size + 1 + 1 by simp] at hrun4
            have HRUN4 := hideIt hrun4
            have HRUN5 := hideIt hrun5
            have HT6 := hideIt (show Two w2 w5 ao3 cap3 (rdL bs (at_ : Int) (k + 1)) bo3 c3 (rdP bs (at_ : Int) (k + 1)) by
              rw [rdL_succ, HPS.out, HY.out]; exact hT6)
            have HEE := hideIt (congrArg (fun y => y.2.2.1) HY.out)
            dsimp only at HEE
            clear hrun4 hrun5 hT5 hT6 HT3 HF3
            go_wp2_with (first | (at_builtin; refine wpList_append_run _ rfl (.tmp 52) (.tmp 54) 25 25 rfl (.slice ao2 k cap2) (.slice (some ⟨w3.heap.size + 1 + 1, 0, none⟩) 1 1) (.slice ao3 (k + 1) cap3) w4 rfl rfl HRUN4.out ?_) | (at_builtin; refine wpList_append_run _ rfl (.tmp 56) (.tmp 58) 55 55 rfl (.slice bo k c) (.slice (some ⟨w4.heap.size, 0, none⟩) 1 1) (.slice bo3 (k + 1) c3) w5 rfl rfl HRUN5.out ?_))
            go_roundw
            case measure => simp [intOf]; omega
            case rel => exact ⟨k + 1, ao3, cap3, bo3, c3, by rw [HYA.out], rfl, rfl, by go_num, by omega, HT6, hideIt (fun t ht => by
              by_cases e : t = k
              · subst e; exact HEE.out
              · exact HE.out t (by omega))⟩
          · have hne : (er == 0) = false := by simpa using her
            have hRk : R = ([], er, ea) := by
              rw [← HRN.out]
              unfold readN
              rw [find_first _ n k hlt (by rw [HY.out]; simpa using her) (fun t ht => by simpa using HE.out t ht)]
              dsimp only
              rw [HY.out]
            have HRk := hideIt hRk
            have HX3 := hideIt hX3
            have hq0 := cellOfHeap hX3 0 rfl
            have hq1 := cellOfHeap hX3 1 rfl
            have g0 := frozen_of_row w3 w.heap.size 0 _ _ hX3
            have g1 := frozen_of_row w3 w.heap.size 1 _ _ hX3
            clear hX3 hRk
            go_wp2_with fail
            have c0 : ((w3.alloc (.cells #[.int .i64 op, .int .i64 x1, .int .i64 x2, .int .i64 x3, .int .i64 x4, .string sx] 40)).alloc (.cells #[.int .i64 er, .int .i64 ea] 28)).cell? ⟨w3.heap.size + 1, 0, none⟩ = some (.int .i64 er) := cellOfHeap (heap_new (by simp)) 0 rfl
            go_region
            go_wp2_with fail
            obtain ⟨hb3, hfz⟩ := set_two w3 w.heap.size er ea HX3.out
            have hb4 : ((((w3.setCell ⟨w.heap.size, 0, none⟩ (.int .i64 er)).setCell ⟨w.heap.size, 1, none⟩ (.int .i64 ea)).alloc (.cells #[.int .i64 op, .int .i64 x1, .int .i64 x2, .int .i64 x3, .int .i64 x4, .string sx] 40)).alloc (.cells #[.int .i64 er, .int .i64 ea] 28)).heap[w.heap.size]? = _ := heap_old (heap_old hb3)
            have pp0 := cellOfHeap hb4 0 rfl
            have pp1 := cellOfHeap hb4 1 rfl
            have HFZ := hideIt (((((HF2.out.trans HT3.out.fr (fun _ _ e => e)).trans hfz (fun i hi e => absurd hi (by omega))).alloc (.cells #[.int .i64 op, .int .i64 x1, .int .i64 x2, .int .i64 x3, .int .i64 x4, .string sx] 40)).alloc (.cells #[.int .i64 er, .int .i64 ea] 28)).drew)
            clear hb3 hb4 hfz hq0 hq1 g0 g1
            refine bodyPost_ret (v := .tuple #[.slice none 0 0, .agg #[.int .i64 er, .int .i64 ea]]) (by simp [results, Try.results9, go_sem, pp0, pp1]) rfl ?_
            rw [HRk.out]
            exact ⟨none, 0, rfl, Or.inl rfl, HFZ.out, fun k hk => by obtain ⟨_, e, _⟩ := hk; cases e⟩
        · have hje : k = n := by omega
          have hjn : ¬ (k : Int) < (n : Int) := by omega
          subst hje
          have hnone : (List.range k).find? (fun t => (rdR bs (at_ : Int) t).2.2.1 != 0) = none := find_none _ k (fun t ht => by simpa using HE.out t ht)
          have HR2 := hideIt (show (if rdAt bs (at_ : Int) k < (bs.length : Int) then (([] : List Ins), (4 : Int), rdAt bs (at_ : Int) k) else match (List.range k).find? (fun t => beyb (rdL bs (at_ : Int) k) t) with | some t => ([], 5, rdAt bs (at_ : Int) t) | none => (rdL bs (at_ : Int) k, 0, 0)) = R by
            rw [← HRN.out]; unfold readN; rw [hnone]; try rfl)
          have hXr := (HT.out.fr.block w.heap.size hlt2 (fun e => e)).trans HX2.out
          have HXr := hideIt hXr
          have hltr := (Array.getElem?_eq_some_iff.1 hXr).1
          have HFr := hideIt (HF2.out.trans HT.out.fr (fun _ _ e => e))
          have HROW := hideIt ((HT.out.a.at encIns_len).ins)
          obtain ⟨en, hen⟩ : ∃ en, rdAt bs (at_ : Int) k = en := ⟨_, rfl⟩
          rw [hen] at HR2
          clear hnone HRN HVR HE
          by_cases hend : en < (bs.length : Int)
          · have hRk : R = ([], 4, en) := by rw [← HR2.out, if_pos hend]
            have HRk := hideIt hRk
            have hq0 := cellOfHeap hXr 0 rfl
            have hq1 := cellOfHeap hXr 1 rfl
            have g0 := frozen_of_row wr w.heap.size 0 _ _ hXr
            have g1 := frozen_of_row wr w.heap.size 1 _ _ hXr
            clear hRk HR2 hXr
            rw [hen]
            clear hen
            go_wp2_with fail
            obtain ⟨hb3, hfz⟩ := set_two wr w.heap.size 4 en HXr.out
            have pp0 := cellOfHeap hb3 0 rfl
            have pp1 := cellOfHeap hb3 1 rfl
            have HFZ := hideIt (HFr.out.trans hfz (fun i hi e => absurd hi (by omega)))
            clear hb3 hfz hq0 hq1 g0 g1
            refine bodyPost_ret (v := .tuple #[.slice none 0 0, .agg #[.int .i64 4, .int .i64 en]]) (by simp [results, Try.results9, go_sem, pp0, pp1]) rfl ?_
            rw [HRk.out]
            exact ⟨none, 0, rfl, Or.inl rfl, HFZ.out, fun k hk => by obtain ⟨_, e, _⟩ := hk; cases e⟩
          · have hd2 : decide (en < (bs.length : Int)) = false := by simpa using hend
            have HR3 := hideIt (show (match (List.range k).find? (fun t => beyb (rdL bs (at_ : Int) k) t) with | some t => (([] : List Ins), (5 : Int), rdAt bs (at_ : Int) t) | none => (rdL bs (at_ : Int) k, 0, 0)) = R by rw [← HR2.out, if_neg hend])
            clear HR2 hend hXr
            rw [hen]
            clear hen
            have HPL := hideIt (HT.out.b.at encNum_len)
            obtain ⟨wq, hwq⟩ : ∃ wq, wq = wr := ⟨_, rfl⟩
            subst hwq
            have HAN := hideIt HT.out.an
            have HLT2 := hideIt hlt2
            clear HT HF2 HX2 hlt2 hlb2
            go_wp2_with fail
            go_loopw [13] (fun s13 wr => ∃ j : Nat, s13 = .int .i64 j ∧ j ≤ k ∧ Hid (Fr (fun _ => False) wq wr) ∧ Hid (∀ t, t < j → beyb (rdL bs (at_ : Int) k) t = false)) (fun s13 _ => k - (intOf s13).toNat)
            case atStart => exact ⟨0, rfl, by omega, hideIt (Fr.refl _ _), hideIt (fun t ht => absurd ht (by omega))⟩
            case round =>
              obtain ⟨j, rfl, hj, HF4, HNB⟩ := hrel
              have hn60 := HN.out
              by_cases hlt : j < k
              · have h1 : (j : Int) < (k : Int) := by omega
                have HBY := hideIt (hbeyond_any ao2 cap2 (rdL bs (at_ : Int) k) j (by rw [rdL_len]; exact hlt) (by rw [rdL_len]; omega) wr (HROW.out.fr HF4.out (fun _ _ _ e => e)))
                rw [rdL_len] at HBY
                have hX4 := (HF4.out.block w.heap.size hltr (fun e => e)).trans HXr.out
                have HX4 := hideIt hX4
                have HFZ4 := hideIt (HFr.out.trans HF4.out (fun _ _ e => e))
                have hlt4 := (Array.getElem?_eq_some_iff.1 hX4).1
                by_cases hbey : beyb (rdL bs (at_ : Int) k) j = true
                · have hRk : R = ([], 5, rdAt bs (at_ : Int) j) := by
                    rw [← HR3.out, find_first _ k j hlt hbey HNB.out]
                  have hPL := HPL.out.fr HF4.out (fun _ _ e => e)
                  rcases hPL with ⟨_, e⟩ | ⟨b, off, rfl, hb, hcells⟩
                  · have := congrArg List.length e
                    rw [rdP_len] at this
                    simp at this
                    omega
                  have hcj := hcells j (by rw [rdP_len]; exact hlt) 0 _ rfl
                  rw [rdP_get, Nat.mul_one, Nat.add_zero] at hcj
                  generalize rdAt bs (at_ : Int) j = fa at *
                  have HRk := hideIt hRk
                  have hq0 := cellOfHeap hX4 0 rfl
                  have hq1 := cellOfHeap hX4 1 rfl
                  have g0 := frozen_of_row wr w.heap.size 0 _ _ hX4
                  have g1 := frozen_of_row wr w.heap.size 1 _ _ hX4
                  have hj0 : (0 : Int) ≤ (j : Int) := by omega
                  rw [hbey] at HBY
                  clear hcells hRk hX4 HR3 HNB HPL hbey
                  go_wp2_with fail
                  refine Calls.mono HBY.out ?_
                  rintro e w5 ⟨rfl, rfl⟩
                  go_wp2_with fail
                  go_region
                  go_wp2_with fail
                  obtain ⟨hb3, hfz⟩ := set_two w5 w.heap.size 5 fa HX4.out
                  have pp0 := cellOfHeap hb3 0 rfl
                  have pp1 := cellOfHeap hb3 1 rfl
                  have HFZ := hideIt ((HFZ4.out.trans hfz (fun i hi e => absurd hi (by omega))).drew)
                  clear hb3 hfz hq0 hq1 g0 g1
                  refine bodyPost_ret (v := .tuple #[.slice none 0 0, .agg #[.int .i64 5, .int .i64 fa]]) (by simp [results, Try.results9, go_sem, pp0, pp1]) rfl ?_
                  rw [HRk.out]
                  exact ⟨none, 0, rfl, Or.inl rfl, HFZ.out, fun k hk => by obtain ⟨_, e, _⟩ := hk; cases e⟩
                · have hbf : beyb (rdL bs (at_ : Int) k) j = false := by simpa using hbey
                  have HBF := hideIt hbf
                  rw [hbf] at HBY
                  clear hbey hbf hX4
                  go_wp2_with fail
                  refine Calls.mono HBY.out ?_
                  rintro e w5 ⟨rfl, rfl⟩
                  go_wp2_with fail
                  go_roundw
                  case measure => simp [intOf]; omega
                  case rel => exact ⟨j + 1, by go_num, by omega, HF4, hideIt (fun t ht => by
                    by_cases e : t = j
                    · subst e; exact HBF.out
                    · exact HNB.out t (by omega))⟩
              · have hjk : j = k := by omega
                have hjn2 : ¬ (j : Int) < (k : Int) := by omega
                have hRk : R = (rdL bs (at_ : Int) k, 0, 0) := by
                  rw [← HR3.out, find_none _ k (fun t ht => HNB.out t (by omega))]
                have HRk := hideIt hRk
                have hX4 := (HF4.out.block w.heap.size hltr (fun e => e)).trans HXr.out
                have HX4 := hideIt hX4
                have hlt4 := (Array.getElem?_eq_some_iff.1 hX4).1
                have HFZ4 := hideIt (HFr.out.trans HF4.out (fun _ _ e => e))
                have HROW4 := hideIt (HROW.out.fr HF4.out (fun _ _ _ e => e))
                have HLOW := hideIt (fun i (h : blk ao2 i) => show w2.heap.size ≤ i from HAN.out i h)
                have hq0 := cellOfHeap hX4 0 rfl
                have hq1 := cellOfHeap hX4 1 rfl
                have g0 := frozen_of_row wr w.heap.size 0 _ _ hX4
                have g1 := frozen_of_row wr w.heap.size 1 _ _ hX4
                clear hX4 hRk HR3 HNB HPL
                go_wp2_with fail
                obtain ⟨hb3, hfz⟩ := set_two wr w.heap.size 0 0 HX4.out
                have pp0 := cellOfHeap hb3 0 rfl
                have pp1 := cellOfHeap hb3 1 rfl
                have HFZ := hideIt (HFZ4.out.trans hfz (fun i hi e => absurd hi (by omega)))
                have HRZ := hideIt (HROW4.out.fr hfz (fun i _ hi e => by have := HLOW.out i hi; have := HLT2.out; omega))
                clear hb3 hfz hq0 hq1 g0 g1
                refine bodyPost_ret (v := .tuple #[.slice ao2 k cap2, .agg #[.int .i64 0, .int .i64 0]]) (by simp [results, Try.results9, go_sem, pp0, pp1]) rfl ?_
                rw [HRk.out]
                exact ⟨ao2, cap2, by rw [rdL_len], HRZ.out, HFZ.out, fun i hi => by have := HLOW.out i hi; have := HLT2.out; omega⟩
    · have hne : (er == 0) = false := by simpa using her
      have hRk : R = ([], er, ea) := by rw [← HR.out, if_neg her]
      have HRk := hideIt hRk
      clear hRk HR
      go_wp2_with fail
      go_region
      go_wp2_with fail
      obtain ⟨hb3, hfz⟩ := set_two w2 w.heap.size er ea HX2.out
      have pp0 := cellOfHeap hb3 0 rfl
      have pp1 := cellOfHeap hb3 1 rfl
      have HFZ := hideIt ((HF2.out.trans hfz (fun i hi e => absurd hi (by omega))).drew)
      clear hb3 hfz hq0 hq1 g0 g1
      refine bodyPost_ret (v := .tuple #[.slice none 0 0, .agg #[.int .i64 er, .int .i64 ea]]) (by simp [results, Try.results9, go_sem, pp0, pp1]) rfl ?_
      rw [HRk.out]
      exact ⟨none, 0, rfl, Or.inl rfl, HFZ.out, fun k hk => by obtain ⟨_, e, _⟩ := hk; cases e⟩

end Go.Proofs.Ytojgikaoiegmpaa

/- Bytes that are lent, with three marks behind them; whether they were kept. -/
namespace Go.Proofs.Ytojgikaoiegmpaa
open Go.RowKit Go.IntWalk
set_option linter.unusedSimpArgs false
set_option linter.unusedVariables false
set_option maxRecDepth 100000

def mark (j : Nat) : UInt8 := UInt8.ofNat (160 + j % 90)
def marks (n : Nat) : List UInt8 := [mark n, mark (n + 1), mark (n + 2)]

theorem marks_of (bs ds : List UInt8) (hd : ds.length = bs.length + 3) (h1 : ds.take bs.length = bs) (h2 : ∀ j (h : j < ds.length), bs.length ≤ j → ds[j] = mark j) : ds = bs ++ marks bs.length := by
  have e : ds = ds.take bs.length ++ ds.drop bs.length := (List.take_append_drop _ _).symm
  rw [e, h1]
  congr 1
  apply List.ext_getElem
  · simp [marks, hd]
  · intro i g1 g2
    rw [List.getElem_drop, h2 _ _ (by omega)]
    have hi : i < 3 := g2
    obtain rfl | rfl | rfl : i = 0 ∨ i = 1 ∨ i = 2 := by omega
    all_goals rfl

theorem Fr.setRow (w : World) (g : Nat) (cs : Array Value) : Fr (fun k => k = g) w (w.setRow g cs) :=
  ⟨rfl, rfl, rfl, by simp [World.setRow], fun k _ hne => setRow_other w g k cs hne⟩

/-- The bytes that came in go over into the row. -/
theorem copy_in (w : World) (g n : Nat) (ao : Option Addr) (cap : Nat) (bs : List UInt8) (h : w.heap[g]? = some (.cells (bv (List.replicate (bs.length + 3) 0)).toArray 5 (0, 0))) (hB : BsAt w ao bs) (hcap : ao = none → cap = 0) :
    ∃ w', (Builtin.copy_ #[22, 22] 3 #[.slice (some ⟨g, 0, none⟩) (bs.length + 3) (bs.length + 3), .slice ao bs.length cap]).run Try.prog w = .ok (goInt bs.length) w' ∧
      w'.heap[g]? = some (.cells (bv (bs ++ List.replicate 3 0)).toArray 5 (0, 0)) ∧ Fr (fun k => k = g) w w' := by
  have hs1 : (Try.prog.info? 5).map (·.size) = some 1 := by kernel_rfl
  rcases hB with ⟨rfl, rfl⟩ | ⟨b, off, rfl, hc⟩
  · obtain rfl := hcap rfl
    exact ⟨w, run_copy_nil (P := Try.prog) w 22 22 3 5 _ _ _ Try.underlying22 (by rw [hs1]; rfl), h, Fr.refl _ _⟩
  · refine ⟨_, by
      have := run_copy_row (P := Try.prog) w 22 22 3 5 g 0 (bs.length + 3) (bs.length + 3) ⟨b, off, none⟩ bs.length cap _ 5 (bv bs) Try.underlying22 hs1 h (by rw [bv_length]; exact (Nat.min_eq_left (by omega)).symm) (fun j v hv => by
        have hj : j < bs.length := by rw [← bv_length bs]; exact (List.getElem?_eq_some_iff.1 hv).1
        rw [bv_get _ _ hj] at hv
        obtain rfl := Option.some.inj hv
        have e : (⟨b, off, none⟩ : Addr).add j = ⟨b, off + j, none⟩ := Addr.add_lit _ _ _
        rw [e]
        exact hc j hj) (by simp [bv]) (by simp [bv, Value.oneCell'])
      rw [bv_length] at this
      exact this, ?_, Fr.setRow _ _ _⟩
    rw [setRow_heap w g _ _ _ _ h]
    simp [bv, List.map_append]

set_option maxRecDepth 100000 in
set_option maxHeartbeats 1000000 in
theorem lent_any (ao : Option Addr) (cap : Nat) (bs : List UInt8) (w : World) (hB : BsAt w ao bs) (hcap : ao = none → cap = 0) (hb : bs.length ≤ 140737488355000) :
    Calls Try.prog 7 #[.slice ao bs.length cap] w fun e w' => ∃ g, e = .returned (.slice (some ⟨g, 0, none⟩) bs.length (bs.length + 3)) ∧ w'.heap[g]? = some (.cells (bv (bs ++ marks bs.length)).toArray 5 (0, 0)) ∧ Fr (fun _ => False) w w' ∧ w.heap.size ≤ g := by
  obtain ⟨i0, hi, hz0, hz1, hz2⟩ := info_parts Try.infoU8
  have hwr : IntKind.i64.wrap ((bs.length : Int) + 3) = ((bs.length + 3 : Nat) : Int) := by rw [i64_in _ (by omega)]; omega
  have hmd : madeCells #[.int .u8 0] (bs.length + 3) = (bv (List.replicate (bs.length + 3) 0)).toArray := by
    apply Array.ext'
    rw [toList_madeCells_one]
    simp [bv]
  have hF0 : Fr (fun _ => False) w (w.alloc (.cells (madeCells #[.int .u8 0] (bs.length + 3)) 5)) := (Fr.refl _ _).alloc _
  obtain ⟨w1, hrun, hg1, hF1⟩ := copy_in (w.alloc (.cells (madeCells #[.int .u8 0] (bs.length + 3)) 5)) w.heap.size 0 ao cap bs (by rw [hmd]; exact heap_new rfl) (hB.fr hF0 (fun _ _ _ e => e)) hcap
  have HR := hideIt hrun
  have HF := hideIt (hF0.trans hF1 (fun k hk e => by omega))
  have hlt : bs.length < bs.length + 3 := by omega
  have hle0 : (0 : Int) ≤ bs.length := by omega
  clear hrun hF0 hF1 hmd hB
  go_enter Try.func7, Try.ntmps7
  go_wp2_with (first | (at_make; refine wpList_make_row _ rfl _ _ 22 rfl 5 i0 (.int .u8 0) Try.underlying22 hi hz0 hz1 rfl .i64 .i64 (bs.length + 3) rfl rfl (by rw [hz2]; omega) (by omega) ?_) | (refine Lib.wpList_copy_run _ rfl (.tmp 9) (.tmp 10) 22 22 rfl _ _ rfl rfl HR.out ?_))
  go_loopw [4] (fun i wr => ∃ (j : Nat) (ds : List UInt8), i = .int .i64 j ∧ bs.length ≤ j ∧ j ≤ bs.length + 3 ∧ Hid (ds.length = bs.length + 3 ∧ ds.take bs.length = bs ∧ ∀ k (h : k < ds.length), bs.length ≤ k → k < j → ds[k] = mark k) ∧ Hid (wr.heap[w.heap.size]? = some (.cells (bv ds).toArray 5 (0, 0))) ∧ Hid (Fr (fun _ => False) w wr)) (fun i _ => bs.length + 3 - (intOf i).toNat)
  case atStart =>
    exact ⟨bs.length, bs ++ List.replicate 3 0, rfl, Nat.le_refl _, by omega, hideIt ⟨by simp, by simp, fun k h1 h2 h3 => by omega⟩, hideIt hg1, HF⟩
  case round =>
    obtain ⟨j, ds, rfl, hj0, hj, HD, HG, HFR⟩ := hrel
    by_cases hjl : j < bs.length + 3
    · have hjd : j < ds.length := by rw [HD.out.1]; exact hjl
      have hc : wr.cell? ⟨w.heap.size, j, none⟩ = some (.int .u8 ds[j].toNat) := cellOfHeap HG.out j (by simp [bv, hjd])
      have hz := frozen_of_row wr w.heap.size j _ _ HG.out
      have hmk : 160 + (j : Int) % 90 = ((mark j).toNat : Int) := by unfold mark; simp; omega
      have hs := heap_setCell_same wr w.heap.size j _ _ (.int .u8 ((mark j).toNat : Int)) HG.out
      have hs2 : (bv ds).toArray.setIfInBounds j (.int .u8 ((mark j).toNat : Int)) = (bv (ds.set j (mark j))).toArray := by simp [bv, List.map_set]
      rw [hs2] at hs
      have HS := hideIt hs
      have HD2 := hideIt (show (ds.set j (mark j)).length = bs.length + 3 ∧ (ds.set j (mark j)).take bs.length = bs ∧ ∀ k (h : k < (ds.set j (mark j)).length), bs.length ≤ k → k < j + 1 → (ds.set j (mark j))[k] = mark k from
        ⟨by rw [List.length_set]; exact HD.out.1, by rw [List.take_set_of_le hj0]; exact HD.out.2.1, fun k h1 h2 h3 => by
          rw [List.getElem_set]
          by_cases e : j = k
          · rw [if_pos e, e]
          · rw [if_neg e]
            rw [List.length_set] at h1
            exact HD.out.2.2 k h1 h2 (by omega)⟩)
      have HF2 := hideIt (HFR.out.trans ((Fr.refl (fun k => k = w.heap.size) wr).setCell (p := ⟨w.heap.size, j, none⟩) (fun _ => rfl) (.int .u8 ((mark j).toNat : Int))) (fun k hk e => by omega))
      clear hs hs2 HD HG
      generalize ds[j] = x at *
      go_wp2_with fail
      try rw [hmk]
      exact ⟨⟨j + 1, ds.set j (mark j), by go_num, by omega, by omega, HD2, HS, HF2⟩, by simp [intOf]; omega⟩
    · have hje : j = bs.length + 3 := by omega
      have HM := hideIt (marks_of bs ds HD.out.1 HD.out.2.1 (fun k h1 h2 => HD.out.2.2 k h1 h2 (by have := HD.out.1; omega)))
      rw [HM.out] at HG
      clear HD HM hje
      go_wp2_with fail
      go_ret
      exact ⟨w.heap.size, rfl, HG.out, HFR.out, Nat.le_refl _⟩

/-- What was lent was kept. -/
def Lent (w : World) (g : Nat) (bs : List UInt8) : Prop := w.heap[g]? = some (.cells (bv (bs ++ marks bs.length)).toArray 5 (0, 0))
theorem Lent.fr {S : Nat → Prop} {w w' : World} {g : Nat} {bs : List UInt8} (h : Lent w g bs) (hF : Fr S w w') (hS : ¬ S g) : Lent w' g bs := (hF.block g (Array.getElem?_eq_some_iff.1 h).1 hS).trans h
theorem Lent.full {w : World} {g : Nat} {bs : List UInt8} (h : Lent w g bs) : BsAt w (some ⟨g, 0, none⟩) (bs ++ marks bs.length) :=
  Or.inr ⟨g, 0, rfl, fun j hj => by
    rw [Nat.zero_add]
    refine cellOfHeap h j ?_
    simp only [List.getElem?_toArray]
    rw [bv_get _ _ hj]⟩
theorem Lent.bs {w : World} {g : Nat} {bs : List UInt8} (h : Lent w g bs) : BsAt w (some ⟨g, 0, none⟩) bs :=
  Or.inr ⟨g, 0, rfl, fun j hj => by
    rw [Nat.zero_add]
    refine cellOfHeap h j ?_
    simp only [List.getElem?_toArray]
    rw [bv_get _ _ (by simp; omega), List.getElem_append_left hj]⟩

set_option maxRecDepth 100000 in
set_option maxHeartbeats 2000000 in
theorem kept_any (g : Nat) (ao : Option Addr) (cap : Nat) (bs : List UInt8) (w : World) (h : Lent w g bs) (hB : BsAt w ao bs) (hcap : ao = none → cap = 0) (hb : bs.length ≤ 140737488355000) :
    Calls Try.prog 11 #[.slice (some ⟨g, 0, none⟩) bs.length (bs.length + 3), .slice ao bs.length cap] w fun e w' => e = .returned (.bool true) ∧ Fr (fun _ => False) w w' := by
  have hwr : IntKind.i64.wrap ((bs.length : Int) + 3) = (bs.length : Int) + 3 := i64_in _ (by omega)
  have h03 : (0 : Int) ≤ (bs.length : Int) + 3 := by omega
  have htn : ((bs.length : Int) + 3).toNat = bs.length + 3 := by omega
  have hlen3 : (bs ++ marks bs.length).length = bs.length + 3 := by simp [marks]
  have HL := hideIt (fun w' (hF : Fr (fun _ => False) w w') => lent_any ao cap bs w' (hB.fr hF (fun _ _ _ e => e)) hcap hb)
  have HS := hideIt (fun w' (g' : Nat) (hF : Fr (fun _ => False) w w') (hg : Lent w' g' bs) => by
    have := same_any (some ⟨g, 0, none⟩) (some ⟨g', 0, none⟩) (bs.length + 3) (bs.length + 3) (bs ++ marks bs.length) (bs ++ marks bs.length) w' (h.fr hF (fun e => e)).full hg.full
    rw [hlen3, beq_self_eq_true] at this
    exact this)
  clear h hB hlen3
  go_enter Try.func11, Try.ntmps11
  go_wp2_with fail
  refine wp_region_held_drew (S := fun w' => Fr (fun _ => False) w w') (by kernel_rfl) ?_ (fun hHeld => ?_)
  · exact (Fr.refl _ _).drew
  refine wpAnyH_take (i := 0) (v := ?v701) rfl (by kernel_rfl) (by kernel_rfl) (by kernel_rfl) (fun _ _ _ h => h) (Or.inl ⟨by kernel_rfl, ?hy701⟩) (by assumption) ?rest701
  case hy701 => intro w hSw; (try dsimp only at hSw); go_simp; (try with_reducible rfl)
  try simp only [Act.put, List.getElem_toArray, List.getElem_cons_zero, List.getElem_cons_succ, List.setIfInBounds_toArray, List.set_cons_zero, List.set_cons_succ]
  refine wpAnyH_take (i := 1) (v := ?v702) rfl (by kernel_rfl) (by kernel_rfl) (by kernel_rfl) (fun _ _ _ h => h) (Or.inl ⟨by kernel_rfl, ?hy702⟩) (by assumption) ?rest702
  case hy702 => intro w hSw; (try dsimp only at hSw); go_simp; (try with_reducible rfl)
  try simp only [Act.put, List.getElem_toArray, List.getElem_cons_zero, List.getElem_cons_succ, List.setIfInBounds_toArray, List.set_cons_zero, List.set_cons_succ]
  refine wpAnyH_take (i := 2) (v := ?v703) rfl (by kernel_rfl) (by kernel_rfl) (by kernel_rfl) (fun _ _ _ h => h) (Or.inl ⟨by kernel_rfl, ?hy703⟩) (by assumption) ?rest703
  case hy703 => intro w hSw; (try dsimp only at hSw); go_simp; (try with_reducible rfl)
  try simp only [Act.put, List.getElem_toArray, List.getElem_cons_zero, List.getElem_cons_succ, List.setIfInBounds_toArray, List.set_cons_zero, List.set_cons_succ]
  refine wpAnyH_take (i := 3) (v := ?v704) rfl (by kernel_rfl) (by kernel_rfl) (by kernel_rfl) (fun _ _ _ h => h) (Or.inl ⟨by kernel_rfl, ?hy704⟩) (by assumption) ?rest704
  case hy704 => intro w hSw; (try dsimp only at hSw); go_simp; (try with_reducible rfl)
  try simp only [Act.put, List.getElem_toArray, List.getElem_cons_zero, List.getElem_cons_succ, List.setIfInBounds_toArray, List.set_cons_zero, List.set_cons_succ]
  refine wpAnyH_take (i := 4) (v := ?v705) rfl (by kernel_rfl) (by kernel_rfl) (by kernel_rfl) (fun _ _ _ h => h) (Or.inl ⟨by kernel_rfl, ?hy705⟩) (by assumption) ?rest705
  case hy705 => intro w hSw; (try dsimp only at hSw); go_simp; (try with_reducible rfl)
  try simp only [Act.put, List.getElem_toArray, List.getElem_cons_zero, List.getElem_cons_succ, List.setIfInBounds_toArray, List.set_cons_zero, List.set_cons_succ]
  refine wpAnyH_take (i := 5) (v := ?v706) rfl (by kernel_rfl) (by kernel_rfl) (by kernel_rfl) (fun _ _ _ h => h) (Or.inl ⟨by kernel_rfl, ?hy706⟩) (by assumption) ?rest706
  case hy706 => intro w hSw; (try dsimp only at hSw); go_simp; (try with_reducible rfl)
  try simp only [Act.put, List.getElem_toArray, List.getElem_cons_zero, List.getElem_cons_succ, List.setIfInBounds_toArray, List.set_cons_zero, List.set_cons_succ]
  refine wpAnyH_take (i := 6) (v := ?v707) rfl (by kernel_rfl) (by kernel_rfl) (by kernel_rfl) (fun _ _ _ h => h) (Or.inl ⟨by kernel_rfl, ?hy707⟩) (by assumption) ?rest707
  case hy707 => intro w hSw; (try dsimp only at hSw); go_simp; (try with_reducible rfl)
  try simp only [Act.put, List.getElem_toArray, List.getElem_cons_zero, List.getElem_cons_succ, List.setIfInBounds_toArray, List.set_cons_zero, List.set_cons_succ]
  refine wpAnyH_take (i := 7) (v := ?v708) rfl (by kernel_rfl) (by kernel_rfl) (by kernel_rfl) (fun _ _ _ h => h) (Or.inl ⟨by kernel_rfl, ?hy708⟩) (by assumption) ?rest708
  case hy708 => intro w hSw; (try dsimp only at hSw); go_simp; (try with_reducible rfl)
  try simp only [Act.put, List.getElem_toArray, List.getElem_cons_zero, List.getElem_cons_succ, List.setIfInBounds_toArray, List.set_cons_zero, List.set_cons_succ]
  refine wpAnyH_take (i := 8) (v := ?v709) rfl (by kernel_rfl) (by kernel_rfl) (by kernel_rfl) (fun _ _ _ h => h) (Or.inl ⟨by kernel_rfl, ?hy709⟩) (by assumption) ?rest709
  case hy709 => intro w hSw; (try dsimp only at hSw); go_simp; (try with_reducible rfl)
  try simp only [Act.put, List.getElem_toArray, List.getElem_cons_zero, List.getElem_cons_succ, List.setIfInBounds_toArray, List.set_cons_zero, List.set_cons_succ]
  refine wpAnyH_take (i := 9) (v := ?v710) rfl (by kernel_rfl) (by kernel_rfl) (by kernel_rfl) (fun _ _ _ h => h) (Or.inl ⟨by kernel_rfl, ?hy710⟩) (by assumption) ?rest710
  case hy710 => intro w hSw; (try dsimp only at hSw); go_simp; (try with_reducible rfl)
  try simp only [Act.put, List.getElem_toArray, List.getElem_cons_zero, List.getElem_cons_succ, List.setIfInBounds_toArray, List.set_cons_zero, List.set_cons_succ]
  refine wpAnyH_take (i := 10) (v := ?v711) rfl (by kernel_rfl) (by kernel_rfl) (by kernel_rfl) (fun _ _ _ h => h) (Or.inl ⟨by kernel_rfl, ?hy711⟩) (by assumption) ?rest711
  case hy711 => intro w hSw; (try dsimp only at hSw); go_simp; (try with_reducible rfl)
  try simp only [Act.put, List.getElem_toArray, List.getElem_cons_zero, List.getElem_cons_succ, List.setIfInBounds_toArray, List.set_cons_zero, List.set_cons_succ]
  refine wpAnyH_take (i := 12) (v := ?v712) rfl (by kernel_rfl) (by kernel_rfl) (by kernel_rfl) (fun _ _ _ h => h) (Or.inl ⟨by kernel_rfl, ?hy712⟩) (by assumption) ?rest712
  case hy712 => intro w hSw; (try dsimp only at hSw); go_simp; (try with_reducible rfl)
  try simp only [Act.put, List.getElem_toArray, List.getElem_cons_zero, List.getElem_cons_succ, List.setIfInBounds_toArray, List.set_cons_zero, List.set_cons_succ]
  refine wpAnyH_take (i := 13) (v := ?v713) rfl (by kernel_rfl) (by kernel_rfl) (by kernel_rfl) (fun _ _ _ h => h) (Or.inl ⟨by kernel_rfl, ?hy713⟩) (by assumption) ?rest713
  case hy713 => intro w hSw; (try dsimp only at hSw); go_simp; (try with_reducible rfl)
  try simp only [Act.put, List.getElem_toArray, List.getElem_cons_zero, List.getElem_cons_succ, List.setIfInBounds_toArray, List.set_cons_zero, List.set_cons_succ]
  refine wpAnyH_take (i := 14) (v := ?v714) rfl (by kernel_rfl) (by kernel_rfl) (by kernel_rfl) (fun _ _ _ h => h) (Or.inl ⟨by kernel_rfl, ?hy714⟩) (by assumption) ?rest714
  case hy714 => intro w hSw; (try dsimp only at hSw); go_simp; (try with_reducible rfl)
  try simp only [Act.put, List.getElem_toArray, List.getElem_cons_zero, List.getElem_cons_succ, List.setIfInBounds_toArray, List.set_cons_zero, List.set_cons_succ]
  refine wpAnyH_ready (rs := [11]) (by kernel_rfl) (by simp) ?_
  refine AllReadyH.cons rfl (fun K hK => ?_) AllReadyH.nil
  go_simp
  refine Calls.mono (HL.out _ hHeld) ?_
  rintro e w1 ⟨g2, rfl, hg2, hX, hgs⟩
  have hW1 := hHeld.trans hX (fun _ _ e => e)
  have HG2 := hideIt (show Lent w1 g2 bs from hg2)
  clear hg2
  refine hK.out _ _ ?_ (fun hHeld => ?_)
  · exact hW1
  clear hK K
  try simp only [Act.put, List.getElem_toArray, List.getElem_cons_zero, List.getElem_cons_succ, List.setIfInBounds_toArray, List.set_cons_zero, List.set_cons_succ]
  refine wpAnyH_take (i := 15) (v := ?v715) rfl (by kernel_rfl) (by kernel_rfl) (by kernel_rfl) (fun _ _ _ h => h) (Or.inl ⟨by kernel_rfl, ?hy715⟩) (by assumption) ?rest715
  case hy715 => intro w hSw; (try dsimp only at hSw); go_simp; (try with_reducible rfl)
  try simp only [Act.put, List.getElem_toArray, List.getElem_cons_zero, List.getElem_cons_succ, List.setIfInBounds_toArray, List.set_cons_zero, List.set_cons_succ]
  refine wpAnyH_ready (rs := [16]) (by kernel_rfl) (by simp) ?_
  refine AllReadyH.cons rfl (fun K hK => ?_) AllReadyH.nil
  go_simp
  refine Calls.mono (HS.out _ g2 hHeld HG2.out) ?_
  rintro e w2 ⟨rfl, rfl⟩
  refine hK.out _ _ ?_ (fun hHeld => ?_)
  · exact hHeld
  clear hK K
  try simp only [Act.put, List.getElem_toArray, List.getElem_cons_zero, List.getElem_cons_succ, List.setIfInBounds_toArray, List.set_cons_zero, List.set_cons_succ]
  refine wpAnyH_take (i := 17) (v := ?v716) rfl (by kernel_rfl) (by kernel_rfl) (by kernel_rfl) (fun _ _ _ h => h) (Or.inl ⟨by kernel_rfl, ?hy716⟩) (by assumption) ?rest716
  case hy716 => intro w hSw; (try dsimp only at hSw); go_simp; (try with_reducible rfl)
  try simp only [Act.put, List.getElem_toArray, List.getElem_cons_zero, List.getElem_cons_succ, List.setIfInBounds_toArray, List.set_cons_zero, List.set_cons_succ]
  refine wpAnyH_take (i := 18) (v := ?v717) rfl (by kernel_rfl) (by kernel_rfl) (by kernel_rfl) (fun _ _ _ h => h) (Or.inl ⟨by kernel_rfl, ?hy717⟩) (by assumption) ?rest717
  case hy717 => intro w hSw; (try dsimp only at hSw); go_simp; (try with_reducible rfl)
  try simp only [Act.put, List.getElem_toArray, List.getElem_cons_zero, List.getElem_cons_succ, List.setIfInBounds_toArray, List.set_cons_zero, List.set_cons_succ]
  refine wpAnyH_done (by kernel_rfl) ?_ _
  have HW := hideIt hHeld
  clear hHeld
  go_wp2_with fail
  go_ret
  exact ⟨rfl, HW.out⟩

end Go.Proofs.Ytojgikaoiegmpaa

/- Package prog: which transaction bytes are: the walk. -/
namespace Go.Proofs.Ytojgikaoiegmpaa
open Go.RowKit Go.IntWalk
set_option linter.unusedSimpArgs false
set_option linter.unusedVariables false
set_option maxRecDepth 100000

theorem InsFull.lt {w : World} {ao : Option Addr} {cap : Nat} {l : List Ins} (h : InsFull w ao cap l) {k : Nat} (hk : blk ao k) : k < w.heap.size := by
  rcases h with ⟨rfl, _⟩ | ⟨q, A, rfl, _, h1, _⟩
  · obtain ⟨_, e, _⟩ := hk; cases e
  · obtain ⟨_, e1, e2⟩ := hk
    obtain rfl := Option.some.inj e1
    have := (Array.getElem?_eq_some_iff.1 h1).1
    simp only at e2
    omega

set_option maxRecDepth 100000 in
set_option maxHeartbeats 2000000 in
theorem overprog_some (q n : Nat) (hn : n ≤ 1000) (w : World) (A : Array Value) (hA : w.heap[q]? = some (.cells A 40 (0, 0))) (hA2 : A.size = n * 6) : Calls Try.prog 12 #[.slice (some ⟨q, 0, none⟩) n n] w fun e w' => e = .returned (.tuple #[]) ∧ Fr (fun k => k = q) w w' := by
  have HA := hideIt (show ∃ A : Array Value, w.heap[q]? = some (.cells A 40 (0, 0)) ∧ A.size = n * 6 from ⟨A, hA, hA2⟩)
  clear hA hA2
  go_enter Try.func12, Try.ntmps12
  go_wp2_with fail
  go_loopw [2] (fun s2 wr => ∃ k : Nat, s2 = .int .i64 k ∧ k ≤ n ∧ Hid (∃ A : Array Value, wr.heap[q]? = some (.cells A 40 (0, 0)) ∧ A.size = n * 6) ∧ Hid (Fr (fun k => k = q) w wr)) (fun s2 _ => n - (intOf s2).toNat)
  case atStart => exact ⟨0, rfl, by omega, HA, hideIt (Fr.refl _ _)⟩
  case round =>
    obtain ⟨k, rfl, hk, HAr, HF⟩ := hrel
    by_cases hlt : k < n
    · have h1 : (k : Int) < (n : Int) := by omega
      obtain ⟨Z, hZ, hZ2⟩ := HAr.out
      have HT := hideIt (show wr.there q (k * 6) 6 from fun j hj => by
        rw [cell_of_row wr q (k * 6 + j) _ _ _ hZ]
        exact ⟨by simp; omega, frozen_of_row wr q _ _ _ hZ⟩)
      have HW := hideIt (fun W (e : W = wr.setCells q (k * 6) (#[Value.int .i64 (-7), .int .i64 0, .int .i64 0, .int .i64 0, .int .i64 0, .string ⟨#[]⟩]).toList) => show (∃ A : Array Value, W.heap[q]? = some (.cells A 40 (0, 0)) ∧ A.size = n * 6) ∧ Fr (fun k => k = q) wr W by
        subst e
        obtain ⟨A', e1, e2⟩ := setCells_heap q 40 (#[Value.int .i64 (-7), .int .i64 0, .int .i64 0, .int .i64 0, .int .i64 0, .string ⟨#[]⟩]).toList (k * 6) wr Z hZ (by show k * 6 + 6 ≤ Z.size; omega)
        refine ⟨⟨A', e1, ?_⟩, Fr.setCells _ _ _ _⟩
        have := congrArg List.length e2
        simp at this
        omega)
      clear hZ hZ2 HAr HA
      go_wp2_with (first | (refine store_absG rfl 40 (.tmp 12) (.tmp 11) rfl q (k * 6) #[.int .i64 (-7), .int .i64 0, .int .i64 0, .int .i64 0, .int .i64 0, .string ⟨#[]⟩] rfl rfl HT.out (by kernel_rfl) (by simp [Value.oneCell']) ?_; intro W hW; obtain ⟨hA3, hF3⟩ := HW.out W hW; have HA3 := hideIt hA3; have HF3 := hideIt (HF.out.trans hF3 (fun _ _ e => e)); clear hA3 hF3 hW HW))
      go_roundw
      case measure => simp [intOf]; omega
      case rel => exact ⟨k + 1, by go_num, by omega, HA3, HF3⟩
    · have hje : k = n := by omega
      have hjn : ¬ (k : Int) < (n : Int) := by omega
      go_wp2_with fail
      go_end0
      exact ⟨rfl, HF.out⟩

theorem overprog_nil (w : World) : Calls Try.prog 12 #[.slice none 0 0] w fun e w' => e = .returned (.tuple #[]) ∧ w' = w := by
  go_enter Try.func12, Try.ntmps12
  go_wp2_with fail
  go_loopw [2] (fun s2 wr => s2 = .int .i64 0 ∧ wr = w) (fun s2 _ => 0)
  case atStart => exact ⟨rfl, rfl⟩
  case round =>
    obtain ⟨rfl, rfl⟩ := hrel
    go_wp2_with fail
    go_end0
    exact ⟨rfl, rfl⟩
theorem overprog_any (ao : Option Addr) (cap : Nat) (l : List Ins) (hl : l.length ≤ 1000) (w : World) (h : InsFull w ao cap l) : Calls Try.prog 12 #[.slice ao l.length cap] w fun e w' => e = .returned (.tuple #[]) ∧ Fr (blk ao) w w' := by
  rcases h with ⟨rfl, rfl, rfl⟩ | ⟨q, A, rfl, rfl, h1, h2, _⟩
  · refine (overprog_nil w).mono ?_
    rintro e w' ⟨rfl, rfl⟩
    exact ⟨rfl, Fr.refl _ _⟩
  · refine (overprog_some q l.length hl w A h1 h2).mono ?_
    rintro e w' ⟨rfl, hF⟩
    exact ⟨rfl, hF.mono fun k e => ⟨_, rfl, e.symm⟩⟩

theorem readP_len (bs : List UInt8) : (readP bs).1.length ≤ 60 := by
  unfold readP
  split
  · simp
  · split
    · unfold readN
      obtain ⟨n, h1, h2⟩ := rCount_rng bs (0, 0, 0)
      rw [h1]
      split
      · simp
      · split
        · simp
        · split
          · simp
          · rw [rdL_len]; simpa using h2
    · simp

theorem ksame_true (ao bo : Option Addr) (cap cap2 : Nat) (l : List Ins) (hl : l.length ≤ 60) (w : World) (hA : InsRow w ao l) (hB : InsRow w bo l) : Calls Try.prog 10 #[.slice ao l.length cap, .slice bo l.length cap2] w fun e w' => e = .returned (.bool true) ∧ Fr (fun _ => False) w w' := by
  refine Calls.mono (ksameprog_any ao bo cap cap2 l l (by omega) (by omega) w hA hB) ?_
  rintro e w' ⟨r, rfl, hr, hF⟩
  exact ⟨by rw [hr.2 rfl], hF⟩

theorem preads_long (ao : Option Addr) (cap : Nat) (bs : List UInt8) (w : World) (h1 : 600 < bs.length) : Calls Try.prog 3 #[.slice ao bs.length cap] w fun e w' => e = .returned (.bool true) ∧ Fr (fun _ => False) w w' := by
  have hd1 : decide (600 < (bs.length : Int)) = true := by simp; omega
  clear h1
  have HA := hideIt pawake_any
  go_enter Try.func3, Try.ntmps3
  go_wp2_with fail
  refine Calls.mono (HA.out _) ?_
  rintro e w1 ⟨rfl, hF1⟩
  have HF1 := hideIt hF1
  clear hF1 HA
  go_wp2_with fail
  go_ret
  exact ⟨rfl, HF1.out⟩

set_option maxRecDepth 100000 in
set_option maxHeartbeats 4000000 in
theorem preads_short (ao : Option Addr) (cap : Nat) (bs : List UInt8) (w : World) (h1 : bs.length ≤ 600) (hB : BsAt w ao bs) (hcap : ao = none → cap = 0) (hcl : bs.length ≤ cap) (hcm : cap ≤ maxLen) (hnb : ∀ k, blk ao k → k < w.heap.size) :
    Calls Try.prog 3 #[.slice ao bs.length cap] w fun e w' => e = .returned (.bool true) ∧ Fr (fun _ => False) w w' := by
  have hd1 : decide (600 < (bs.length : Int)) = false := by simp; omega
  have HA := hideIt pawake_any
  have HL := hideIt (lent_any ao cap bs w hB hcap (by omega))
  have HRD := hideIt (fun (g : Nat) (w' : World) (h : Lent w' g bs) => gRead_any (some ⟨g, 0, none⟩) (bs.length + 3) bs w' h.bs (fun e => by cases e) (by omega) (fun k hk => by
    obtain ⟨_, e1, e2⟩ := hk
    obtain rfl := Option.some.inj e1
    have := (Array.getElem?_eq_some_iff.1 h).1
    simp only at e2
    omega))
  have HR2 := hideIt (fun (w' : World) (hF : Fr (fun _ => False) w w') => gRead_any ao cap bs w' (hB.fr hF (fun _ _ _ e => e)) hcap hcl (fun k hk => Nat.lt_of_lt_of_le (hnb k hk) hF.size))
  have HVR := hideIt (fun (w' : World) (hF : Fr (fun _ => False) w w') => hRead_any ao cap bs w' (hB.fr hF (fun _ _ _ e => e)) hcl hcm (fun k hk => Nat.lt_of_lt_of_le (hnb k hk) hF.size))
  have HKP := hideIt (fun (g : Nat) (w' : World) (h : Lent w' g bs) (hF : Fr (fun _ => False) w w') => kept_any g ao cap bs w' h (hB.fr hF (fun _ _ _ e => e)) hcap (by omega))
  have HLEN := hideIt (readP_len bs)
  generalize readP bs = rb at *
  obtain ⟨l, er, ea⟩ := rb
  clear hB hcap hcl hcm hnb h1
  unfold PReadP PHReadP at *
  dsimp only at HRD HVR HR2 HLEN
  go_enter Try.func3, Try.ntmps3
  go_wp2_with fail
  refine Calls.mono HL.out ?_
  rintro e w1 ⟨g, rfl, hg, hF1, hgs⟩
  have HG1 := hideIt (show Lent w1 g bs from hg)
  have HF1 := hideIt hF1
  have HGS := hideIt hgs
  clear hg hF1 hgs HL
  go_wp2_with fail
  refine Calls.mono (HRD.out g w1 HG1.out) ?_
  rintro e w2 ⟨a2, c2, rfl, hI2, hF2, hn2⟩
  have HG2 := hideIt (HG1.out.fr (hF2.alloc (.cells #[.int .i64 er, .int .i64 ea] 28)) (fun e => e))
  have HI2 := hideIt (hI2.fr ((Fr.refl (fun _ => False) w2).alloc (.cells #[.int .i64 er, .int .i64 ea] 28)) (fun _ _ e => e))
  have HF2 := hideIt ((HF1.out.trans hF2 (fun _ _ e => e)).alloc (.cells #[.int .i64 er, .int .i64 ea] 28))
  have HL2 := hideIt (fun k (h : blk a2 k) => show k < w2.heap.size from hI2.lt h)
  have HN2 := hideIt (fun k (h : blk a2 k) => show w1.heap.size ≤ k from hn2 k h)
  have HX2 := hideIt (show (w2.alloc (.cells #[.int .i64 er, .int .i64 ea] 28)).heap[w2.heap.size]? = some (.cells #[.int .i64 er, .int .i64 ea] 28 (0, 0)) from heap_alloc_new w2 _)
  clear hI2 hF2 hn2 HRD HG1
  go_wp2_with fail
  refine Calls.mono (HVR.out _ HF2.out) ?_
  rintro e w3 ⟨a3, c3, rfl, hI3, hF3, hn3⟩
  have HF23 := hideIt (hF3.alloc (.cells #[.int .i64 er, .int .i64 ea] 28))
  have HI3 := hideIt (hI3.fr ((Fr.refl (fun _ => False) w3).alloc (.cells #[.int .i64 er, .int .i64 ea] 28)) (fun _ _ _ e => e))
  have HN3 := hideIt (fun k (h : blk a3 k) => show w2.heap.size < k by have := hn3 k h; simp at this; omega)
  have HI2b := hideIt (HI2.out.fr HF23.out (fun _ _ e => e))
  have HG3 := hideIt (HG2.out.fr HF23.out (fun e => e))
  have HF3 := hideIt (HF2.out.trans HF23.out (fun _ _ e => e))
  have hX := (hF3.block w2.heap.size (by simp) (fun e => e)).trans HX2.out
  have hX0 := cellOfHeap hX 0 rfl
  have hX1 := cellOfHeap hX 1 rfl
  have hlt := (Array.getElem?_eq_some_iff.1 hX).1
  have HX := hideIt hX
  clear hX hI3 hF3 hn3 HVR HX2 HG2 HI2
  go_wp2_with fail
  refine Calls.mono (ksame_true a2 a3 c2 c3 l HLEN.out _ HI2b.out.row HI3.out) ?_
  rintro e w4 ⟨rfl, hF4⟩
  have hX4 := (hF4.block w2.heap.size (by simp; omega) (fun e => e)).trans (heap_old HX.out)
  have hZ4 := (hF4.block w3.heap.size (by simp) (fun e => e)).trans (heap_alloc_new w3 _)
  have y0 := cellOfHeap hX4 0 rfl
  have y1 := cellOfHeap hX4 1 rfl
  have z0 := cellOfHeap hZ4 0 rfl
  have z1 := cellOfHeap hZ4 1 rfl
  have HI2c := hideIt (HI2b.out.fr hF4 (fun _ _ e => e))
  have HI3c := hideIt (HI3.out.fr hF4 (fun _ _ _ e => e))
  have HKQ := hideIt (HKP.out g w4 (HG3.out.fr hF4 (fun e => e)) (HF3.out.trans hF4 (fun _ _ e => e)))
  have HF4 := hideIt (HF3.out.trans hF4 (fun _ _ e => e))
  clear hX4 hZ4 hF4 HI2b HI3 HG3 HF3 HF23 hX0 hX1 HKP
  go_wp2_with fail
  refine Calls.mono HKQ.out ?_
  rintro e w5 ⟨rfl, hF5⟩
  have HI2d := hideIt (HI2c.out.fr hF5 (fun _ _ e => e))
  have HI3d := hideIt (HI3c.out.fr hF5 (fun _ _ _ e => e))
  have HF5 := hideIt (HF4.out.trans hF5 (fun _ _ e => e))
  clear hF5 HKQ y0 y1 z0 z1 HI2c HI3c HF4
  go_wp2_with fail
  refine Calls.mono (overprog_any a2 c2 l (by have := HLEN.out; omega) w5 HI2d.out) ?_
  rintro e w6 ⟨rfl, hF6⟩
  have HI3e := hideIt (HI3d.out.fr hF6 (fun k _ h3 h2 => by have := HN3.out k h3; have := HL2.out k h2; omega))
  have HF6 := hideIt (HF5.out.trans hF6 (fun i hi e => by have := HN2.out i e; have := HF1.out.size; omega))
  clear hF6 HI2d HI3d HF5
  go_wp2_with fail
  refine Calls.mono (HR2.out w6 HF6.out) ?_
  rintro e w7 ⟨a7, c7, rfl, hI7, hF7, hn7⟩
  have hFx := hF7.alloc (.cells #[.int .i64 er, .int .i64 ea] 28)
  have HI7 := hideIt (hI7.fr ((Fr.refl (fun _ => False) w7).alloc (.cells #[.int .i64 er, .int .i64 ea] 28)) (fun _ _ e => e))
  have HI3f := hideIt (HI3e.out.fr hFx (fun _ _ _ e => e))
  have HF7 := hideIt (HF6.out.trans hFx (fun _ _ e => e))
  clear hI7 hF7 hn7 hFx HR2 HI3e HF6
  go_wp2_with fail
  refine Calls.mono (ksame_true a7 a3 c7 c3 l HLEN.out _ HI7.out.row HI3f.out) ?_
  rintro e w8 ⟨rfl, hF8⟩
  have HF8 := hideIt (HF7.out.trans hF8 (fun _ _ e => e))
  clear hF8
  go_wp2_with fail
  refine Calls.mono (HA.out _) ?_
  rintro e w9 ⟨rfl, hF9⟩
  have HF9 := hideIt (HF8.out.trans hF9 (fun _ _ e => e))
  clear hF9
  go_wp2_with fail
  go_ret
  exact ⟨rfl, HF9.out⟩

theorem preads_any (ao : Option Addr) (cap : Nat) (bs : List UInt8) (w : World) (hB : BsAt w ao bs) (hcap : ao = none → cap = 0) (hcl : bs.length ≤ cap) (hcm : cap ≤ maxLen) (hnb : ∀ k, blk ao k → k < w.heap.size) :
    Calls Try.prog 3 #[.slice ao bs.length cap] w fun e w' => e = .returned (.bool true) ∧ Fr (fun _ => False) w w' := by
  by_cases h1 : 600 < bs.length
  · exact preads_long ao cap bs w h1
  · exact preads_short ao cap bs w (by omega) hB hcap hcl hcm hnb

end Go.Proofs.Ytojgikaoiegmpaa

/- Bytes that came in: where they lie. -/
namespace Go.Proofs.Ytojgikaoiegmpaa
open Go.RowKit Go.IntWalk Go.Deep
set_option linter.unusedSimpArgs false
set_option linter.unusedVariables false
set_option maxRecDepth 100000

theorem okWide_spot {P : Program} {w : World} {r : Reach} {base : Nat} {t e : TypeId} {a : Addr} {len cap : Nat} (ht : P.underlying t = some (.slice e)) (h : Value.okWide P w r base t (.slice (some a) len cap)) : a.spot = none := by
  simp only [Value.okWide, ht, Cell.okWide] at h
  simp only [Cell.ok, ht, World.has] at h
  exact h.2.2.2.1

theorem okWide_lt {P : Program} {w : World} {r : Reach} {base : Nat} {t e : TypeId} {ao : Option Addr} {len cap : Nat} (ht : P.underlying t = some (.slice e)) (h : Value.okWide P w r base t (.slice ao len cap)) : ∀ k, blk ao k → k < w.heap.size := by
  rintro k ⟨a, rfl, rfl⟩
  simp only [Value.okWide, ht, Cell.okWide] at h
  simp only [Cell.ok, ht, World.has] at h
  obtain ⟨_, _, _, _, row, cells, hs, _⟩ := h
  unfold World.shape? at hs
  cases hb : w.heap[a.block]? with
  | none => rw [hb] at hs; simp at hs
  | some o => exact (Array.getElem?_eq_some_iff.1 hb).1

theorem open_bytes {H : Type} {enc : TypeId × Value → H} {w : World} {v : Value} {d : DataW H} {ps : List MemPlace} {a0 : Option Addr} {len0 cap0 : Nat} (hv : v = .slice a0 len0 cap0) (hsp : ∀ a, a0 = some a → a.spot = none)
    (h : DataW.Trod enc Try.prog w 0 (fun _ => true) true 22 v d ps) : ∃ bs : List UInt8, len0 = bs.length ∧ BsAt w a0 bs ∧ len0 ≤ cap0 ∧ cap0 ≤ maxLen ∧ (a0 = none → cap0 = 0) := by
  subst hv
  obtain ⟨fuel, h⟩ := h
  rcases open_slice1 Try.underlying22 (by kernel_rfl) h with ⟨h0, _⟩ | ⟨a, len, cap, m, n, V, D, Pl, hcs, hb, hl, hm, hmm, _, hx⟩
  · have e : a0 = none ∧ len0 = 0 ∧ cap0 = 0 := by simpa [Value.cells] using h0
    obtain ⟨rfl, rfl, rfl⟩ := e
    exact ⟨[], rfl, Or.inl ⟨rfl, rfl⟩, Nat.le_refl _, Nat.zero_le _, fun _ => rfl⟩
  · have e : a0 = some a ∧ len0 = len ∧ cap0 = cap := by simpa [Value.cells] using hcs
    obtain ⟨rfl, rfl, rfl⟩ := e
    have hlm : len0 ≤ m := by rw [hmm]; split <;> omega
    have each : ∀ i, ∃ b : UInt8, i < len0 → w.cell? (a.add i) = some (.int .u8 b.toNat) := fun i => by
      by_cases hi : i < len0
      · obtain ⟨h1, h2⟩ := hx i (by omega)
        obtain ⟨k, r, _, wf⟩ := DataW.trod_int Try.underlying5 h2
        have hb := bounds_u8 wf
        obtain ⟨k', rfl⟩ := Int.eq_ofNat_of_zero_le hb.1
        have e : V i = .int .u8 (k' : Int) := by simpa using r
        refine ⟨UInt8.ofNat k', fun _ => ?_⟩
        rw [h1, e]
        have em : ((UInt8.ofNat k').toNat : Int) = (k' : Int) := by simp; omega
        rw [em]
      · exact ⟨0, fun e => absurd e hi⟩
    refine ⟨(List.range len0).map fun i => (each i).choose, by simp, ?_, hl, hm, fun e => by cases e⟩
    by_cases h0 : len0 = 0
    · subst h0
      have hs := hsp a rfl
      obtain ⟨b, off, sp⟩ := a
      simp only at hs
      subst hs
      exact Or.inr ⟨b, off, rfl, fun j hj => by simp at hj⟩
    · have hspot := hsp a rfl
      obtain ⟨b, off, sp⟩ := a
      simp only at hspot
      subst hspot
      refine Or.inr ⟨b, off, rfl, fun j hj => ?_⟩
      simp only [List.length_map, List.length_range] at hj
      simp only [List.getElem_map, List.getElem_range]
      have h1 := (each j).choose_spec hj
      have e : (⟨b, off, none⟩ : Addr).add j = ⟨b, off + j, none⟩ := Addr.add_lit _ _ _
      exact (congrArg w.cell? e).symm.trans h1

end Go.Proofs.Ytojgikaoiegmpaa
