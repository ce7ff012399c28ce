/- The document's own reader: the end. -/
import Derived.Test.YteihmonafdnicaaY5
namespace Go.Proofs.Yteihmonafdnicaa
open Go.RowKit Go.IntWalk
set_option linter.unusedSimpArgs false
set_option linter.unusedVariables false

theorem yend_any (p : Nat) (ao : Option Addr) (cap : Nat) (bs : List UInt8) (s : Nat × Int × Int) (w : World) (h : YOk w p ao cap bs s) (hb : bs.length ≤ 140737488355328) :
    Calls Try.prog 37 #[.pointer (some ⟨p, 0, none⟩)] w fun e w' => e = .returned (.agg #[.int .i64 (rEnd bs s).1, .int .i64 (rEnd bs s).2]) ∧ Fr (fun _ => False) w w' := by
  obtain ⟨at_, er, ea⟩ := s
  obtain ⟨hY, hap, hat⟩ := h
  simp only at hY hat
  have c0 := hY.c0
  have c1 := hY.c1
  have c2 := hY.c2
  have c3 := hY.c3
  have hpl := hY.lt
  by_cases her : er = 0
  · subst her
    by_cases hend : at_ = bs.length
    · rw [show rEnd bs (at_, 0, ea) = (0, ea) by simp [rEnd, hend]]
      have hend' : ((at_ : Int) == (bs.length : Int)) = true := by simp [hend]
      clear hend hY
      go_enter Try.func37, Try.ntmps37
      go_wp2_with fail
      go_quiet (fail)
      go_wp2_with fail
      exact bodyPost_ret (v := .agg #[.int .i64 0, .int .i64 ea]) (by simp [results, Try.results37, go_sem]) rfl ⟨rfl, by repeat (first | exact Fr.refl _ _ | apply Fr.drewN | apply Fr.alloc | (refine Fr.setCell ?_ (fun h => absurd h (by simp)) _))⟩
    · rw [show rEnd bs (at_, 0, ea) = (4, (at_ : Int)) by simp [rEnd]; omega]
      have hend' : ((at_ : Int) == (bs.length : Int)) = false := by
        have : ¬ (at_ : Int) = (bs.length : Int) := by omega
        simpa using this
      clear hend hY
      go_enter Try.func37, Try.ntmps37
      go_wp2_with fail
      go_quiet (fail)
      go_wp2_with fail
      exact bodyPost_ret (v := .agg #[.int .i64 4, .int .i64 (at_ : Int)]) (by simp [results, Try.results37, go_sem]) rfl ⟨rfl, by repeat (first | exact Fr.refl _ _ | apply Fr.drewN | apply Fr.alloc | (refine Fr.setCell ?_ (fun h => absurd h (by simp)) _))⟩
  · rw [show rEnd bs (at_, er, ea) = (er, ea) by simp [rEnd, her]]
    have her' : (er != 0) = true := by simpa using her
    clear her hY
    go_enter Try.func37, Try.ntmps37
    go_wp2_with fail
    go_quiet (fail)
    go_wp2_with fail
    exact bodyPost_ret (v := .agg #[.int .i64 er, .int .i64 ea]) (by simp [results, Try.results37, go_sem]) rfl ⟨rfl, by repeat (first | exact Fr.refl _ _ | apply Fr.drewN | apply Fr.alloc | (refine Fr.setCell ?_ (fun h => absurd h (by simp)) _))⟩

/-- ID, out of what pass does. -/
theorem zeros_get (k : Nat) : (zeros32.drop k).length = 32 - k := by simp [zeros32]
def idAt (x : List UInt8) (k : Nat) : List UInt8 := x.take k ++ zeros32.drop k
theorem idAt_step (x : List UInt8) (k : Nat) (hx : x.length ≤ 32) (hk : k < x.length) : (idAt x k).set k x[k] = idAt x (k + 1) := by
  unfold idAt
  have hl : (x.take k).length = k := by simp; omega
  rw [List.set_append_right _ _ (by omega), hl, Nat.sub_self, List.take_succ_eq_append_getElem hk]
  have : zeros32.drop k = 0 :: zeros32.drop (k + 1) := by
    rw [List.drop_eq_getElem_cons (show k < zeros32.length by rw [show zeros32.length = 32 from rfl]; omega)]
    congr 1
    exact List.getElem_replicate _
  rw [this, List.set_cons_zero]
  simp only [List.append_assoc, List.singleton_append]
theorem idAt_len (x : List UInt8) (k : Nat) (hx : x.length ≤ 32) (hk : k ≤ x.length) : (idAt x k).length = 32 := by
  simp [idAt, zeros32]
  omega

def yiW (w : World) : World := (w.alloc (.cells zA 33)).alloc (.cells zA 33)

set_option maxRecDepth 100000 in
set_option maxHeartbeats 1000000 in
theorem yid_via (p : Nat) (x : List UInt8) (hx : x.length ≤ 32) (w : World) (R : World → Prop) (hR : ∀ w1 w2, R w1 → Fr (fun k => w.heap.size ≤ k) w1 w2 → R w2)
    (hps : Calls Try.prog 61 #[.pointer (some ⟨p, 0, none⟩), .int .i64 0, .int .i64 32] (yiW w) fun e w1 => ∃ ao' cap', e = .returned (.slice ao' x.length cap') ∧ BsAt w1 ao' x ∧ (∀ k, blk ao' k → x ≠ [] → k < w.heap.size) ∧ w1.heap[w.heap.size]? = some (.cells zA 33 (0, 0)) ∧ w1.heap[w.heap.size + 1]? = some (.cells zA 33 (0, 0)) ∧ R w1) :
    Calls Try.prog 31 #[.pointer (some ⟨p, 0, none⟩)] w fun e w' => e = .returned (.agg (bv (idAt x x.length)).toArray) ∧ R w' := by
  have HPS := hideIt hps
  have HRR := hideIt hR
  clear hps hR
  go_enter Try.func31, Try.ntmps31
  go_wp2_with fail
  refine Calls.mono HPS.out ?_
  rintro e w1 ⟨ao', cap', rfl, hbs, hlt, g0, g1, hR1⟩
  have HBS := hideIt hbs
  have HLT := hideIt hlt
  have HG0 := hideIt g0
  have HG1 := hideIt (show w1.heap[w.heap.size + 1]? = some (.cells (bv (idAt x 0)).toArray 33 (0, 0)) from g1)
  have HR1 := hideIt hR1
  clear hbs hlt g0 g1 hR1 HPS
  go_wp2_with fail
  go_loopw [5] (fun i wr => ∃ k : Nat, i = .int .i64 k ∧ k ≤ x.length ∧ wr.heap[w.heap.size]? = some (.cells zA 33 (0, 0)) ∧ wr.heap[w.heap.size + 1]? = some (.cells (bv (idAt x k)).toArray 33 (0, 0)) ∧ Fr (fun k => k = w.heap.size + 1) w1 wr) (fun i _ => (x.length - intOf i).toNat)
  case atStart => exact ⟨0, rfl, Nat.zero_le _, HG0.out, HG1.out, Fr.refl _ _⟩
  case round =>
    clear HG0 HG1
    obtain ⟨k, rfl, hk, g0, g1, hF⟩ := hrel
    by_cases hkx : k < x.length
    · obtain ⟨b, off, rfl, hcell⟩ : ∃ b off, ao' = some ⟨b, off, none⟩ ∧ w1.cell? ⟨b, off + k, none⟩ = some (.int .u8 (x[k].toNat : Int)) := by
        rcases HBS.out with ⟨_, h0⟩ | ⟨b, off, e, hc⟩
        · rw [h0] at hkx
          exact absurd hkx (by simp)
        · exact ⟨b, off, e, hc k hkx⟩
      have hbw : b < w.heap.size := HLT.out b ⟨_, rfl, rfl⟩ (fun e => by rw [e] at hkx; simp at hkx)
      have hcr : wr.cell? ⟨b, off + k, none⟩ = some (.int .u8 (x[k].toNat : Int)) := (World.cell?_of_block (a := ⟨b, off + k, none⟩) (hF.block b (block_lt_of_cell hcell) (by omega))).trans hcell
      have hk32 : k < 32 := by omega
      have hk32' : (k : Int) < 32 := by omega
      have hkx' : (k : Int) < (x.length : Int) := by omega
      have hc1 : ∃ v, wr.cell? ⟨w.heap.size + 1, k, none⟩ = some v := ⟨_, cellOfHeap g1 k (by rw [List.getElem?_toArray, bv_get _ _ (by rw [idAt_len x k hx hk]; exact hk32)])⟩
      obtain ⟨v, hc1⟩ := hc1
      have hz1 := frozen_of_row wr (w.heap.size + 1) k _ _ g1
      have hst := heap_setCell_same wr (w.heap.size + 1) k _ _ (.int .u8 (x[k].toNat : Int)) g1
      have e1 : (bv (idAt x k)).toArray.setIfInBounds k (.int .u8 (x[k].toNat : Int)) = (bv (idAt x (k + 1))).toArray := by
        rw [← idAt_step x k hx hkx]
        simp [bv, List.map_set]
      rw [e1] at hst
      have HST := hideIt hst
      have HG := hideIt ((heap_setCell_other wr ⟨w.heap.size + 1, k, none⟩ w.heap.size (.int .u8 (x[k].toNat : Int)) (by simp)).trans g0)
      have HF := hideIt (hF.setCell (p := ⟨w.heap.size + 1, k, none⟩) (fun _ => rfl) (.int .u8 (x[k].toNat : Int)))
      clear g0 g1 hF hst e1 hcell
      generalize x[k] = xx at *
      go_wp2_with fail
      go_roundw
      case measure => simp [intOf]; omega
      case rel => exact ⟨k + 1, by go_num, by omega, HG.out, HST.out, HF.out⟩
    · have hke : k = x.length := by omega
      have hln : (idAt x k).length = 32 := idAt_len x k hx hk
      have HV := hideIt (show idAt x k = idAt x x.length by rw [hke])
      have HW := hideIt (show wr.rangeAt (w.heap.size + 1) 0 (bv (idAt x k)) from rangeOf g1)
      have HIL := hideIt (show (Try.prog.info? 33).map (·.size) = some (bv (idAt x k)).length by rw [bv_length, hln]; exact Try.infoIDj)
      have HIA := hideIt (show (Try.prog.info? 33).map (·.size) = some (bv (idAt x k)).toArray.size by rw [List.size_toArray, bv_length, hln]; exact Try.infoIDj)
      have HT := hideIt (thereNew wr w.heap.size zA 33 g0 (bv (idAt x k)).toArray.size (by rw [List.size_toArray, bv_length, hln]; rfl))
      have H1 := hideIt (one32 (idAt x k))
      have HFU := hideIt (show (wr.setCells w.heap.size 0 (bv (idAt x k)).toArray.toList).heap[w.heap.size]? = some (.cells (bv (idAt x k)).toArray 33 (0, 0)) by
        have := setCells_full w.heap.size 33 (bv (idAt x k)).toArray.toList wr zA g0 (by simp [bv_length, hln]; rfl)
        simpa using this)
      have HRF := hideIt (HRR.out _ _ HR1.out (((hF.mono (S' := fun k => w.heap.size ≤ k) (fun k e => by omega))).trans (Fr.setCells wr w.heap.size 0 (bv (idAt x k)).toArray.toList) (fun i hi e => by omega)))
      clear g0 g1 hF hke hln HR1 HRR
      generalize idAt x k = ID at *
      go_wp2_with (first | (refine wpList_load_mid rfl 33 (.tmp 3) rfl (w.heap.size + 1) 0 rfl (bv ID) _ HW.out Try.underlying33 rfl HIL.out ?_) | (refine wpList_store_abs rfl 33 (.tmp 2) (.tmp 20) rfl w.heap.size 0 (bv ID).toArray rfl rfl HT.out HIA.out H1.out ?_; intro W5 hW5; have HW5 := hideIt hW5; clear hW5))
      refine bodyPost_ret (results_cell_row Try.results31 _ _ w.heap.size 33 (bv ID).toArray (0, 0) _ rfl ?_ Try.underlying33 rfl HIA.out) rfl ⟨?_, ?_⟩
      · rw [HW5.out]
        exact HFU.out
      · rw [HV.out]
      · rw [HW5.out]
        exact HRF.out

end Go.Proofs.Yteihmonafdnicaa
