/- ProgKnown, part 14 of the road: what the program's functions do, each by its own walk. -/
import Derived.Test.YtojgikaoiegmpaaQ6
import Derived.Laws.CopyRow
import Derived.Lib.SlBuf
import Derived.Laws.OwnMore
import Derived.Deep.OwnRows

/- Bytes that are lent, with three marks behind them; whether they were kept. -/
namespace Go.Proofs.Ytojgikaoiegmpaa
open Go.RowKit Go.IntWalk
set_option linter.unusedSimpArgs false
set_option linter.unusedVariables false
set_option maxRecDepth 100000

def mark (j : Nat) : UInt8 := UInt8.ofNat (160 + j % 90)
def marks (n : Nat) : List UInt8 := [mark n, mark (n + 1), mark (n + 2)]

theorem marks_of (bs ds : List UInt8) (hd : ds.length = bs.length + 3) (h1 : ds.take bs.length = bs) (h2 : ∀ j (h : j < ds.length), bs.length ≤ j → ds[j] = mark j) : ds = bs ++ marks bs.length := by
  have e : ds = ds.take bs.length ++ ds.drop bs.length := (List.take_append_drop _ _).symm
  rw [e, h1]
  congr 1
  apply List.ext_getElem
  · simp [marks, hd]
  · intro i g1 g2
    rw [List.getElem_drop, h2 _ _ (by omega)]
    have hi : i < 3 := g2
    obtain rfl | rfl | rfl : i = 0 ∨ i = 1 ∨ i = 2 := by omega
    all_goals rfl

theorem Fr.setRow (w : World) (g : Nat) (cs : Array Value) : Fr (fun k => k = g) w (w.setRow g cs) :=
  ⟨rfl, rfl, rfl, by simp [World.setRow], fun k _ hne => setRow_other w g k cs hne⟩

/-- The bytes that came in go over into the row. -/
theorem copy_in (w : World) (g n : Nat) (ao : Option Addr) (cap : Nat) (bs : List UInt8) (h : w.heap[g]? = some (.cells (bv (List.replicate (bs.length + 3) 0)).toArray 5 (0, 0))) (hB : BsAt w ao bs) (hcap : ao = none → cap = 0) :
    ∃ w', (Builtin.copy_ #[22, 22] 3 #[.slice (some ⟨g, 0, none⟩) (bs.length + 3) (bs.length + 3), .slice ao bs.length cap]).run Try.prog w = .ok (goInt bs.length) w' ∧
      w'.heap[g]? = some (.cells (bv (bs ++ List.replicate 3 0)).toArray 5 (0, 0)) ∧ Fr (fun k => k = g) w w' := by
  have hs1 : (Try.prog.info? 5).map (·.size) = some 1 := by kernel_rfl
  rcases hB with ⟨rfl, rfl⟩ | ⟨b, off, rfl, hc⟩
  · obtain rfl := hcap rfl
    exact ⟨w, run_copy_nil (P := Try.prog) w 22 22 3 5 _ _ _ Try.underlying22 (by rw [hs1]; rfl), h, Fr.refl _ _⟩
  · refine ⟨_, by
      have := run_copy_row (P := Try.prog) w 22 22 3 5 g 0 (bs.length + 3) (bs.length + 3) ⟨b, off, none⟩ bs.length cap _ 5 (bv bs) Try.underlying22 hs1 h (by rw [bv_length]; exact (Nat.min_eq_left (by omega)).symm) (fun j v hv => by
        have hj : j < bs.length := by rw [← bv_length bs]; exact (List.getElem?_eq_some_iff.1 hv).1
        rw [bv_get _ _ hj] at hv
        obtain rfl := Option.some.inj hv
        have e : (⟨b, off, none⟩ : Addr).add j = ⟨b, off + j, none⟩ := Addr.add_lit _ _ _
        rw [e]
        exact hc j hj) (by simp [bv]) (by simp [bv, Value.oneCell'])
      rw [bv_length] at this
      exact this, ?_, Fr.setRow _ _ _⟩
    rw [setRow_heap w g _ _ _ _ h]
    simp [bv, List.map_append]

set_option maxRecDepth 100000 in
set_option maxHeartbeats 1000000 in
theorem lent_any (ao : Option Addr) (cap : Nat) (bs : List UInt8) (w : World) (hB : BsAt w ao bs) (hcap : ao = none → cap = 0) (hb : bs.length ≤ 140737488355000) :
    Calls Try.prog 7 #[.slice ao bs.length cap] w fun e w' => ∃ g, e = .returned (.slice (some ⟨g, 0, none⟩) bs.length (bs.length + 3)) ∧ w'.heap[g]? = some (.cells (bv (bs ++ marks bs.length)).toArray 5 (0, 0)) ∧ Fr (fun _ => False) w w' ∧ w.heap.size ≤ g := by
  obtain ⟨i0, hi, hz0, hz1, hz2⟩ := info_parts Try.infoU8
  have hwr : IntKind.i64.wrap ((bs.length : Int) + 3) = ((bs.length + 3 : Nat) : Int) := by rw [i64_in _ (by omega)]; omega
  have hmd : madeCells #[.int .u8 0] (bs.length + 3) = (bv (List.replicate (bs.length + 3) 0)).toArray := by
    apply Array.ext'
    rw [toList_madeCells_one]
    simp [bv]
  have hF0 : Fr (fun _ => False) w (w.alloc (.cells (madeCells #[.int .u8 0] (bs.length + 3)) 5)) := (Fr.refl _ _).alloc _
  obtain ⟨w1, hrun, hg1, hF1⟩ := copy_in (w.alloc (.cells (madeCells #[.int .u8 0] (bs.length + 3)) 5)) w.heap.size 0 ao cap bs (by rw [hmd]; exact heap_new rfl) (hB.fr hF0 (fun _ _ _ e => e)) hcap
  have HR := hideIt hrun
  have HF := hideIt (hF0.trans hF1 (fun k hk e => by omega))
  have hlt : bs.length < bs.length + 3 := by omega
  have hle0 : (0 : Int) ≤ bs.length := by omega
  clear hrun hF0 hF1 hmd hB
  go_enter Try.func7, Try.ntmps7
  go_wp2_with (first | (at_make; refine wpList_make_row _ rfl _ _ 22 rfl 5 i0 (.int .u8 0) Try.underlying22 hi hz0 hz1 rfl .i64 .i64 (bs.length + 3) rfl rfl (by rw [hz2]; omega) (by omega) ?_) | (refine Lib.wpList_copy_run _ rfl (.tmp 9) (.tmp 10) 22 22 rfl _ _ rfl rfl HR.out ?_))
  go_loopw [4] (fun i wr => ∃ (j : Nat) (ds : List UInt8), i = .int .i64 j ∧ bs.length ≤ j ∧ j ≤ bs.length + 3 ∧ Hid (ds.length = bs.length + 3 ∧ ds.take bs.length = bs ∧ ∀ k (h : k < ds.length), bs.length ≤ k → k < j → ds[k] = mark k) ∧ Hid (wr.heap[w.heap.size]? = some (.cells (bv ds).toArray 5 (0, 0))) ∧ Hid (Fr (fun _ => False) w wr)) (fun i _ => bs.length + 3 - (intOf i).toNat)
  case atStart =>
    exact ⟨bs.length, bs ++ List.replicate 3 0, rfl, Nat.le_refl _, by omega, hideIt ⟨by simp, by simp, fun k h1 h2 h3 => by omega⟩, hideIt hg1, HF⟩
  case round =>
    obtain ⟨j, ds, rfl, hj0, hj, HD, HG, HFR⟩ := hrel
    by_cases hjl : j < bs.length + 3
    · have hjd : j < ds.length := by rw [HD.out.1]; exact hjl
      have hc : wr.cell? ⟨w.heap.size, j, none⟩ = some (.int .u8 ds[j].toNat) := cellOfHeap HG.out j (by simp [bv, hjd])
      have hz := frozen_of_row wr w.heap.size j _ _ HG.out
      have hmk : 160 + (j : Int) % 90 = ((mark j).toNat : Int) := by unfold mark; simp; omega
      have hs := heap_setCell_same wr w.heap.size j _ _ (.int .u8 ((mark j).toNat : Int)) HG.out
      have hs2 : (bv ds).toArray.setIfInBounds j (.int .u8 ((mark j).toNat : Int)) = (bv (ds.set j (mark j))).toArray := by simp [bv, List.map_set]
      rw [hs2] at hs
      have HS := hideIt hs
      have HD2 := hideIt (show (ds.set j (mark j)).length = bs.length + 3 ∧ (ds.set j (mark j)).take bs.length = bs ∧ ∀ k (h : k < (ds.set j (mark j)).length), bs.length ≤ k → k < j + 1 → (ds.set j (mark j))[k] = mark k from
        ⟨by rw [List.length_set]; exact HD.out.1, by rw [List.take_set_of_le hj0]; exact HD.out.2.1, fun k h1 h2 h3 => by
          rw [List.getElem_set]
          by_cases e : j = k
          · rw [if_pos e, e]
          · rw [if_neg e]
            rw [List.length_set] at h1
            exact HD.out.2.2 k h1 h2 (by omega)⟩)
      have HF2 := hideIt (HFR.out.trans ((Fr.refl (fun k => k = w.heap.size) wr).setCell (p := ⟨w.heap.size, j, none⟩) (fun _ => rfl) (.int .u8 ((mark j).toNat : Int))) (fun k hk e => by omega))
      clear hs hs2 HD HG
      generalize ds[j] = x at *
      go_wp2_with fail
      try rw [hmk]
      exact ⟨⟨j + 1, ds.set j (mark j), by go_num, by omega, by omega, HD2, HS, HF2⟩, by simp [intOf]; omega⟩
    · have hje : j = bs.length + 3 := by omega
      have HM := hideIt (marks_of bs ds HD.out.1 HD.out.2.1 (fun k h1 h2 => HD.out.2.2 k h1 h2 (by have := HD.out.1; omega)))
      rw [HM.out] at HG
      clear HD HM hje
      go_wp2_with fail
      go_ret
      exact ⟨w.heap.size, rfl, HG.out, HFR.out, Nat.le_refl _⟩

/-- What was lent was kept. -/
def Lent (w : World) (g : Nat) (bs : List UInt8) : Prop := w.heap[g]? = some (.cells (bv (bs ++ marks bs.length)).toArray 5 (0, 0))
theorem Lent.fr {S : Nat → Prop} {w w' : World} {g : Nat} {bs : List UInt8} (h : Lent w g bs) (hF : Fr S w w') (hS : ¬ S g) : Lent w' g bs := (hF.block g (Array.getElem?_eq_some_iff.1 h).1 hS).trans h
theorem Lent.full {w : World} {g : Nat} {bs : List UInt8} (h : Lent w g bs) : BsAt w (some ⟨g, 0, none⟩) (bs ++ marks bs.length) :=
  Or.inr ⟨g, 0, rfl, fun j hj => by
    rw [Nat.zero_add]
    refine cellOfHeap h j ?_
    simp only [List.getElem?_toArray]
    rw [bv_get _ _ hj]⟩
theorem Lent.bs {w : World} {g : Nat} {bs : List UInt8} (h : Lent w g bs) : BsAt w (some ⟨g, 0, none⟩) bs :=
  Or.inr ⟨g, 0, rfl, fun j hj => by
    rw [Nat.zero_add]
    refine cellOfHeap h j ?_
    simp only [List.getElem?_toArray]
    rw [bv_get _ _ (by simp; omega), List.getElem_append_left hj]⟩

set_option maxRecDepth 100000 in
set_option maxHeartbeats 2000000 in
theorem kept_any (g : Nat) (ao : Option Addr) (cap : Nat) (bs : List UInt8) (w : World) (h : Lent w g bs) (hB : BsAt w ao bs) (hcap : ao = none → cap = 0) (hb : bs.length ≤ 140737488355000) :
    Calls Try.prog 11 #[.slice (some ⟨g, 0, none⟩) bs.length (bs.length + 3), .slice ao bs.length cap] w fun e w' => e = .returned (.bool true) ∧ Fr (fun _ => False) w w' := by
  have hwr : IntKind.i64.wrap ((bs.length : Int) + 3) = (bs.length : Int) + 3 := i64_in _ (by omega)
  have h03 : (0 : Int) ≤ (bs.length : Int) + 3 := by omega
  have htn : ((bs.length : Int) + 3).toNat = bs.length + 3 := by omega
  have hlen3 : (bs ++ marks bs.length).length = bs.length + 3 := by simp [marks]
  have HL := hideIt (fun w' (hF : Fr (fun _ => False) w w') => lent_any ao cap bs w' (hB.fr hF (fun _ _ _ e => e)) hcap hb)
  have HS := hideIt (fun w' (g' : Nat) (hF : Fr (fun _ => False) w w') (hg : Lent w' g' bs) => by
    have := same_any (some ⟨g, 0, none⟩) (some ⟨g', 0, none⟩) (bs.length + 3) (bs.length + 3) (bs ++ marks bs.length) (bs ++ marks bs.length) w' (h.fr hF (fun e => e)).full hg.full
    rw [hlen3, beq_self_eq_true] at this
    exact this)
  clear h hB hlen3
  go_enter Try.func11, Try.ntmps11
  go_wp2_with fail
  refine wp_region_held_drew (S := fun w' => Fr (fun _ => False) w w') (by kernel_rfl) ?_ (fun hHeld => ?_)
  · exact (Fr.refl _ _).drew
  refine wpAnyH_take (i := 0) (v := ?v701) rfl (by kernel_rfl) (by kernel_rfl) (by kernel_rfl) (fun _ _ _ h => h) (Or.inl ⟨by kernel_rfl, ?hy701⟩) (by assumption) ?rest701
  case hy701 => intro w hSw; (try dsimp only at hSw); go_simp; (try with_reducible rfl)
  try simp only [Act.put, List.getElem_toArray, List.getElem_cons_zero, List.getElem_cons_succ, List.setIfInBounds_toArray, List.set_cons_zero, List.set_cons_succ]
  refine wpAnyH_take (i := 1) (v := ?v702) rfl (by kernel_rfl) (by kernel_rfl) (by kernel_rfl) (fun _ _ _ h => h) (Or.inl ⟨by kernel_rfl, ?hy702⟩) (by assumption) ?rest702
  case hy702 => intro w hSw; (try dsimp only at hSw); go_simp; (try with_reducible rfl)
  try simp only [Act.put, List.getElem_toArray, List.getElem_cons_zero, List.getElem_cons_succ, List.setIfInBounds_toArray, List.set_cons_zero, List.set_cons_succ]
  refine wpAnyH_take (i := 2) (v := ?v703) rfl (by kernel_rfl) (by kernel_rfl) (by kernel_rfl) (fun _ _ _ h => h) (Or.inl ⟨by kernel_rfl, ?hy703⟩) (by assumption) ?rest703
  case hy703 => intro w hSw; (try dsimp only at hSw); go_simp; (try with_reducible rfl)
  try simp only [Act.put, List.getElem_toArray, List.getElem_cons_zero, List.getElem_cons_succ, List.setIfInBounds_toArray, List.set_cons_zero, List.set_cons_succ]
  refine wpAnyH_take (i := 3) (v := ?v704) rfl (by kernel_rfl) (by kernel_rfl) (by kernel_rfl) (fun _ _ _ h => h) (Or.inl ⟨by kernel_rfl, ?hy704⟩) (by assumption) ?rest704
  case hy704 => intro w hSw; (try dsimp only at hSw); go_simp; (try with_reducible rfl)
  try simp only [Act.put, List.getElem_toArray, List.getElem_cons_zero, List.getElem_cons_succ, List.setIfInBounds_toArray, List.set_cons_zero, List.set_cons_succ]
  refine wpAnyH_take (i := 4) (v := ?v705) rfl (by kernel_rfl) (by kernel_rfl) (by kernel_rfl) (fun _ _ _ h => h) (Or.inl ⟨by kernel_rfl, ?hy705⟩) (by assumption) ?rest705
  case hy705 => intro w hSw; (try dsimp only at hSw); go_simp; (try with_reducible rfl)
  try simp only [Act.put, List.getElem_toArray, List.getElem_cons_zero, List.getElem_cons_succ, List.setIfInBounds_toArray, List.set_cons_zero, List.set_cons_succ]
  refine wpAnyH_take (i := 5) (v := ?v706) rfl (by kernel_rfl) (by kernel_rfl) (by kernel_rfl) (fun _ _ _ h => h) (Or.inl ⟨by kernel_rfl, ?hy706⟩) (by assumption) ?rest706
  case hy706 => intro w hSw; (try dsimp only at hSw); go_simp; (try with_reducible rfl)
  try simp only [Act.put, List.getElem_toArray, List.getElem_cons_zero, List.getElem_cons_succ, List.setIfInBounds_toArray, List.set_cons_zero, List.set_cons_succ]
  refine wpAnyH_take (i := 6) (v := ?v707) rfl (by kernel_rfl) (by kernel_rfl) (by kernel_rfl) (fun _ _ _ h => h) (Or.inl ⟨by kernel_rfl, ?hy707⟩) (by assumption) ?rest707
  case hy707 => intro w hSw; (try dsimp only at hSw); go_simp; (try with_reducible rfl)
  try simp only [Act.put, List.getElem_toArray, List.getElem_cons_zero, List.getElem_cons_succ, List.setIfInBounds_toArray, List.set_cons_zero, List.set_cons_succ]
  refine wpAnyH_take (i := 7) (v := ?v708) rfl (by kernel_rfl) (by kernel_rfl) (by kernel_rfl) (fun _ _ _ h => h) (Or.inl ⟨by kernel_rfl, ?hy708⟩) (by assumption) ?rest708
  case hy708 => intro w hSw; (try dsimp only at hSw); go_simp; (try with_reducible rfl)
  try simp only [Act.put, List.getElem_toArray, List.getElem_cons_zero, List.getElem_cons_succ, List.setIfInBounds_toArray, List.set_cons_zero, List.set_cons_succ]
  refine wpAnyH_take (i := 8) (v := ?v709) rfl (by kernel_rfl) (by kernel_rfl) (by kernel_rfl) (fun _ _ _ h => h) (Or.inl ⟨by kernel_rfl, ?hy709⟩) (by assumption) ?rest709
  case hy709 => intro w hSw; (try dsimp only at hSw); go_simp; (try with_reducible rfl)
  try simp only [Act.put, List.getElem_toArray, List.getElem_cons_zero, List.getElem_cons_succ, List.setIfInBounds_toArray, List.set_cons_zero, List.set_cons_succ]
  refine wpAnyH_take (i := 9) (v := ?v710) rfl (by kernel_rfl) (by kernel_rfl) (by kernel_rfl) (fun _ _ _ h => h) (Or.inl ⟨by kernel_rfl, ?hy710⟩) (by assumption) ?rest710
  case hy710 => intro w hSw; (try dsimp only at hSw); go_simp; (try with_reducible rfl)
  try simp only [Act.put, List.getElem_toArray, List.getElem_cons_zero, List.getElem_cons_succ, List.setIfInBounds_toArray, List.set_cons_zero, List.set_cons_succ]
  refine wpAnyH_take (i := 10) (v := ?v711) rfl (by kernel_rfl) (by kernel_rfl) (by kernel_rfl) (fun _ _ _ h => h) (Or.inl ⟨by kernel_rfl, ?hy711⟩) (by assumption) ?rest711
  case hy711 => intro w hSw; (try dsimp only at hSw); go_simp; (try with_reducible rfl)
  try simp only [Act.put, List.getElem_toArray, List.getElem_cons_zero, List.getElem_cons_succ, List.setIfInBounds_toArray, List.set_cons_zero, List.set_cons_succ]
  refine wpAnyH_take (i := 12) (v := ?v712) rfl (by kernel_rfl) (by kernel_rfl) (by kernel_rfl) (fun _ _ _ h => h) (Or.inl ⟨by kernel_rfl, ?hy712⟩) (by assumption) ?rest712
  case hy712 => intro w hSw; (try dsimp only at hSw); go_simp; (try with_reducible rfl)
  try simp only [Act.put, List.getElem_toArray, List.getElem_cons_zero, List.getElem_cons_succ, List.setIfInBounds_toArray, List.set_cons_zero, List.set_cons_succ]
  refine wpAnyH_take (i := 13) (v := ?v713) rfl (by kernel_rfl) (by kernel_rfl) (by kernel_rfl) (fun _ _ _ h => h) (Or.inl ⟨by kernel_rfl, ?hy713⟩) (by assumption) ?rest713
  case hy713 => intro w hSw; (try dsimp only at hSw); go_simp; (try with_reducible rfl)
  try simp only [Act.put, List.getElem_toArray, List.getElem_cons_zero, List.getElem_cons_succ, List.setIfInBounds_toArray, List.set_cons_zero, List.set_cons_succ]
  refine wpAnyH_take (i := 14) (v := ?v714) rfl (by kernel_rfl) (by kernel_rfl) (by kernel_rfl) (fun _ _ _ h => h) (Or.inl ⟨by kernel_rfl, ?hy714⟩) (by assumption) ?rest714
  case hy714 => intro w hSw; (try dsimp only at hSw); go_simp; (try with_reducible rfl)
  try simp only [Act.put, List.getElem_toArray, List.getElem_cons_zero, List.getElem_cons_succ, List.setIfInBounds_toArray, List.set_cons_zero, List.set_cons_succ]
  refine wpAnyH_ready (rs := [11]) (by kernel_rfl) (by simp) ?_
  refine AllReadyH.cons rfl (fun K hK => ?_) AllReadyH.nil
  go_simp
  refine Calls.mono (HL.out _ hHeld) ?_
  rintro e w1 ⟨g2, rfl, hg2, hX, hgs⟩
  have hW1 := hHeld.trans hX (fun _ _ e => e)
  have HG2 := hideIt (show Lent w1 g2 bs from hg2)
  clear hg2
  refine hK.out _ _ ?_ (fun hHeld => ?_)
  · exact hW1
  clear hK K
  try simp only [Act.put, List.getElem_toArray, List.getElem_cons_zero, List.getElem_cons_succ, List.setIfInBounds_toArray, List.set_cons_zero, List.set_cons_succ]
  refine wpAnyH_take (i := 15) (v := ?v715) rfl (by kernel_rfl) (by kernel_rfl) (by kernel_rfl) (fun _ _ _ h => h) (Or.inl ⟨by kernel_rfl, ?hy715⟩) (by assumption) ?rest715
  case hy715 => intro w hSw; (try dsimp only at hSw); go_simp; (try with_reducible rfl)
  try simp only [Act.put, List.getElem_toArray, List.getElem_cons_zero, List.getElem_cons_succ, List.setIfInBounds_toArray, List.set_cons_zero, List.set_cons_succ]
  refine wpAnyH_ready (rs := [16]) (by kernel_rfl) (by simp) ?_
  refine AllReadyH.cons rfl (fun K hK => ?_) AllReadyH.nil
  go_simp
  refine Calls.mono (HS.out _ g2 hHeld HG2.out) ?_
  rintro e w2 ⟨rfl, rfl⟩
  refine hK.out _ _ ?_ (fun hHeld => ?_)
  · exact hHeld
  clear hK K
  try simp only [Act.put, List.getElem_toArray, List.getElem_cons_zero, List.getElem_cons_succ, List.setIfInBounds_toArray, List.set_cons_zero, List.set_cons_succ]
  refine wpAnyH_take (i := 17) (v := ?v716) rfl (by kernel_rfl) (by kernel_rfl) (by kernel_rfl) (fun _ _ _ h => h) (Or.inl ⟨by kernel_rfl, ?hy716⟩) (by assumption) ?rest716
  case hy716 => intro w hSw; (try dsimp only at hSw); go_simp; (try with_reducible rfl)
  try simp only [Act.put, List.getElem_toArray, List.getElem_cons_zero, List.getElem_cons_succ, List.setIfInBounds_toArray, List.set_cons_zero, List.set_cons_succ]
  refine wpAnyH_take (i := 18) (v := ?v717) rfl (by kernel_rfl) (by kernel_rfl) (by kernel_rfl) (fun _ _ _ h => h) (Or.inl ⟨by kernel_rfl, ?hy717⟩) (by assumption) ?rest717
  case hy717 => intro w hSw; (try dsimp only at hSw); go_simp; (try with_reducible rfl)
  try simp only [Act.put, List.getElem_toArray, List.getElem_cons_zero, List.getElem_cons_succ, List.setIfInBounds_toArray, List.set_cons_zero, List.set_cons_succ]
  refine wpAnyH_done (by kernel_rfl) ?_ _
  have HW := hideIt hHeld
  clear hHeld
  go_wp2_with fail
  go_ret
  exact ⟨rfl, HW.out⟩

end Go.Proofs.Ytojgikaoiegmpaa
