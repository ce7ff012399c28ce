/- Package hash: the text of a name (Text), walked. -/
import Derived.Test.YtgnpdnkmhjocjaaDoorSf
import Derived.Deep.MidRow
namespace Go.Proofs.YtgnpdnkmhjocjaaDoor
open Go.RowKit Go.IntWalk
set_option linter.unusedSimpArgs false
set_option linter.unusedVariables false

def dgs : List UInt8 := [48, 49, 50, 51, 52, 53, 54, 55, 56, 57, 97, 98, 99, 100, 101, 102]
def hexC (k : Nat) : UInt8 := dgs.getD k 0
def hexL (l : List UInt8) : List UInt8 := l.flatMap fun x => [hexC (x.toNat / 16), hexC (x.toNat % 16)]
theorem hexL_cons (x : UInt8) (l : List UInt8) : hexL (x :: l) = hexC (x.toNat / 16) :: hexC (x.toNat % 16) :: hexL l := rfl
theorem hexL_len (l : List UInt8) : (hexL l).length = 2 * l.length := by
  induction l with
  | nil => rfl
  | cons x l ih => rw [hexL_cons]; simp only [List.length_cons]; omega
theorem hexL_get (l : List UInt8) : ∀ i, i < l.length → (hexL l).getD (2 * i) 0 = hexC ((l.getD i 0).toNat / 16) ∧ (hexL l).getD (2 * i + 1) 0 = hexC ((l.getD i 0).toNat % 16) := by
  induction l with
  | nil => intro i h; simp at h
  | cons x l ih =>
    intro i h
    rw [hexL_cons]
    cases i with
    | zero => exact ⟨rfl, rfl⟩
    | succ i =>
      have := ih i (by simpa using h)
      rw [show 2 * (i + 1) = 2 * i + 1 + 1 by omega]
      exact this

/-- A row of bytes is laid up to a place as it shall be. -/
def LaidG (L : List UInt8) (n : Nat) (ds : List UInt8) : Prop := ds.length = L.length ∧ ∀ i, i < n → ds.getD i 0 = L.getD i 0
theorem LaidG.step {L : List UInt8} {n : Nat} {ds : List UInt8} (h : LaidG L n ds) (hn : n < L.length) (b : UInt8) (hb : b = L.getD n 0) : LaidG L (n + 1) (ds.set n b) := by
  refine ⟨by simpa using h.1, fun i hi => ?_⟩
  by_cases e : i = n
  · subst e
    rw [hb]
    have : i < ds.length := by rw [h.1]; exact hn
    simp [List.getD, this]
  · rw [← h.2 i (by omega)]
    simp [List.getD, List.getElem?_set, Ne.symm e]
theorem LaidG.all {L : List UInt8} {ds : List UInt8} (h : LaidG L L.length ds) : ds = L := by
  apply List.ext_getElem h.1
  intro i h1 h2
  have := h.2 i h2
  simpa [List.getD, h1, h2] using this
theorem run_digit (k : Nat) (hk : k < 16) (w : World) : (Instr.index 9 (.string ⟨#[48, 49, 50, 51, 52, 53, 54, 55, 56, 57, 97, 98, 99, 100, 101, 102]⟩) (.int .u8 (k : Int))).run Tryd.prog w = .ok (.int .u8 ((hexC k).toNat : Int)) w := by
  obtain rfl | rfl | rfl | rfl | rfl | rfl | rfl | rfl | rfl | rfl | rfl | rfl | rfl | rfl | rfl | rfl : k = 0 ∨ k = 1 ∨ k = 2 ∨ k = 3 ∨ k = 4 ∨ k = 5 ∨ k = 6 ∨ k = 7 ∨ k = 8 ∨ k = 9 ∨ k = 10 ∨ k = 11 ∨ k = 12 ∨ k = 13 ∨ k = 14 ∨ k = 15 := by omega
  all_goals rfl

theorem yields_index {P : Program} {o : Oper} {a : Act} {w : World} (t : TypeId) (x y : Operand) (ho : o.op = .index t x y) (v1 v2 v : Value) (hx : a.eval x = v1) (hy : a.eval y = v2) (hrun : (Instr.index t v1 v2).run P w = .ok v w) : (execOp a.eval o).run P w = .ok (.value v) w := by
  unfold execOp
  simp only [ho, hx, hy, Sem.run_bind, hrun, Result.andThen_ok, Sem.run_pure]
theorem ids_index (id : List UInt8) (hid : id.length = 32) (i : Nat) (hi : i < 32) (x : UInt8) (hx : id.getD i 0 = x) (w : World) : (Instr.index 30 (.agg (bv id).toArray) (.int .i64 (i : Int))).run Tryd.prog w = .ok (.int .u8 (x.toNat : Int)) w := by
  have hg : (bv id)[i]? = some (.int .u8 (x.toNat : Int)) := by
    rw [bv_get id i (by omega)]
    have : id[i]'(by omega) = x := by rw [← hx]; simp [List.getD, show i < id.length by omega]
    rw [this]
  refine run_index_arr w 30 5 32 i _ _ _ Tryd.underlying30 Tryd.underlying5 rfl Tryd.infoU8s hi ?_
  rw [List.getElem?_toArray]
  exact hg
theorem zeroB (w : World) : (zeroValue 47).run Tryd.prog w = .ok (.agg (bv (List.replicate 64 0)).toArray) w := by
  have h : (Tryd.prog.info? 47).map (·.zero) = some (some (.agg (bv (List.replicate 64 0)).toArray)) := by kernel_rfl
  cases hq : Tryd.prog.info? 47 with
  | none => simp [hq] at h
  | some i =>
    have hz : i.zero = some (.agg (bv (List.replicate 64 0)).toArray) := by simpa [hq] using h
    simp [zeroValue, typeInfo, hq, hz, Sem.run_bind]

set_option maxRecDepth 100000 in
set_option maxHeartbeats 4000000 in
theorem htext_any (id : List UInt8) (hid : id.length = 32) (w : World) : Calls Tryd.prog 22 #[.agg (bv id).toArray] w fun e w' => e = .returned (.string ⟨(hexL id).toArray⟩) ∧ Fr (fun _ => False) w w' := by
  have hzv := zeroB
  have hLl : (hexL id).length = 64 := by rw [hexL_len, hid]
  have HLL := hideIt hLl
  have HGT := hideIt (hexL_get id)
  have HI := hideIt (show (Tryd.prog.info? 30).map (·.size) = some (bv id).length by rw [bv_length, hid]; kernel_rfl)
  have HR := hideIt (show ((w.alloc (.cells (bv id).toArray 30)).alloc (.cells (bv (List.replicate 64 0)).toArray 47)).rangeAt w.heap.size 0 (bv id) from rangeOf (heap_old (heap_new rfl)))
  have HD0 := hideIt (show ((w.alloc (.cells (bv id).toArray 30)).alloc (.cells (bv (List.replicate 64 0)).toArray 47)).heap[w.heap.size + 1]? = some (.cells (bv (List.replicate 64 0)).toArray 47 (0, 0)) from heap_new (by simp))
  have HF0 := hideIt (show Fr (fun _ => False) w ((w.alloc (.cells (bv id).toArray 30)).alloc (.cells (bv (List.replicate 64 0)).toArray 47)) from ((Fr.refl _ w).alloc _).alloc _)
  have HP0 := hideIt (show LaidG (hexL id) 0 (List.replicate 64 0) from ⟨by rw [hLl]; simp, fun i hi => by omega⟩)
  clear hLl
  go_enter Tryd.func22, Tryd.ntmps22
  go_wp2_with (first | (refine wpList_load_mid rfl 30 (.tmp 1) rfl w.heap.size 0 rfl (bv id) _ HR.out Tryd.underlying30 rfl HI.out ?_))
  go_loopw [7] (fun s7 wr => ∃ (i : Nat) (ds : List UInt8), s7 = .int .i64 i ∧ i ≤ 32 ∧ Hid (LaidG (hexL id) (2 * i) ds) ∧ Hid (wr.heap[w.heap.size + 1]? = some (.cells (bv ds).toArray 47 (0, 0))) ∧ Hid (Fr (fun _ => False) w wr)) (fun s7 _ => 32 - (intOf s7).toNat)
  case atStart => exact ⟨0, _, rfl, by omega, HP0, HD0, HF0⟩
  case round =>
    clear HP0 HD0 HF0 HR
    obtain ⟨i, ds, rfl, hi32, HP, HD, HF⟩ := hrel
    by_cases hlt : i < 32
    · obtain ⟨x, hx⟩ : ∃ x, id.getD i 0 = x := ⟨_, rfl⟩
      have hix : ∀ w : World, (Instr.index 30 (.agg (bv id).toArray) (.int .i64 (i : Int))).run Tryd.prog w = .ok (.int .u8 (x.toNat : Int)) w := fun w => ids_index id hid i hlt x hx w
      have hxl : x.toNat < 256 := x.toNat_lt
      have hg1 := (HGT.out i (by omega)).1
      have hg2 := (HGT.out i (by omega)).2
      rw [hx] at hg1 hg2
      obtain ⟨qa, hqa⟩ : ∃ qa, x.toNat / 16 = qa := ⟨_, rfl⟩
      obtain ⟨qb, hqb⟩ : ∃ qb, x.toNat % 16 = qb := ⟨_, rfl⟩
      have hqa16 : qa < 16 := by omega
      have hqb16 : qb < 16 := by omega
      rw [hqa] at hg1
      rw [hqb] at hg2
      have hdv : (x.toNat : Int) / 16 = (qa : Int) := by omega
      have hdm : (x.toNat : Int) % 16 = (qb : Int) := by omega
      have hdv2 : ((x.toNat : Int)).tdiv 16 = (qa : Int) := by rw [Int.tdiv_eq_ediv_of_nonneg (by omega)]; exact hdv
      have hdm2 : ((x.toNat : Int)).tmod 16 = (qb : Int) := by rw [Int.tmod_eq_emod_of_nonneg (by omega)]; exact hdm
      have hwa : IntKind.u8.wrap (qa : Int) = (qa : Int) := by rw [IntKind.wrap_u8]; omega
      have hwb : IntKind.u8.wrap (qb : Int) = (qb : Int) := by rw [IntKind.wrap_u8]; omega
      have hw2 : IntKind.i64.wrap (2 * (i : Int)) = 2 * (i : Int) := by rw [IntKind.wrap_i64]; omega
      have hw3 : IntKind.i64.wrap (2 * (i : Int) + 1) = 2 * (i : Int) + 1 := by rw [IntKind.wrap_i64]; omega
      have hn2 : (2 * (i : Int)).toNat = 2 * i := by omega
      have hn3 : (2 * (i : Int) + 1).toNat = 2 * i + 1 := by omega
      have hr1 := run_digit qa hqa16
      have hr2 := run_digit qb hqb16
      have HLS := hideIt ((HP.out.step (by rw [HLL.out]; omega) _ hg1.symm).step (by rw [HLL.out]; omega) _ hg2.symm)
      have HST := hideIt (heap_setCell_same _ (w.heap.size + 1) (2 * i + 1) _ _ (.int .u8 ((hexC qb).toNat : Int)) (heap_setCell_same wr (w.heap.size + 1) (2 * i) _ _ (.int .u8 ((hexC qa).toNat : Int)) HD.out))
      have hs2 : ((bv ds).toArray.setIfInBounds (2 * i) (.int .u8 ((hexC qa).toNat : Int))).setIfInBounds (2 * i + 1) (.int .u8 ((hexC qb).toNat : Int)) = (bv ((ds.set (2 * i) (hexC qa)).set (2 * i + 1) (hexC qb))).toArray := by simp [bv, List.map_set]
      have HST := hideIt (by have := HST.out; rw [hs2] at this; exact this)
      have hfz0 := frozen_of_row wr (w.heap.size + 1) (2 * i) _ _ HD.out
      have hfz1 := frozen_of_row wr (w.heap.size + 1) (2 * i + 1) _ _ HD.out
      have hdl : ds.length = 64 := by have := HP.out.1; rw [HLL.out] at this; exact this
      have hc0 : wr.cell? ⟨w.heap.size + 1, 2 * i, none⟩ = some (.int .u8 ((ds.getD (2 * i) 0).toNat : Int)) := cellOfHeap HD.out (2 * i) (by
        have hlt2 : 2 * i < ds.length := by omega
        simp [bv, List.getD, hlt2])
      have hc1 : wr.cell? ⟨w.heap.size + 1, 2 * i + 1, none⟩ = some (.int .u8 ((ds.getD (2 * i + 1) 0).toNat : Int)) := cellOfHeap HD.out (2 * i + 1) (by
        have hlt2 : 2 * i + 1 < ds.length := by omega
        simp [bv, List.getD, hlt2])
      have HF2 := hideIt (HF.out.trans (((Fr.refl (fun k => k = w.heap.size + 1) wr).setCell (p := ⟨w.heap.size + 1, 2 * i, none⟩) (fun _ => rfl) (.int .u8 ((hexC qa).toNat : Int))).setCell (p := ⟨w.heap.size + 1, 2 * i + 1, none⟩) (fun _ => rfl) (.int .u8 ((hexC qb).toNat : Int))) (fun k hk e => by omega))
      have hi0 : (2 : Int) * (i : Int) < 64 := by omega
      have hi00 : (0 : Int) ≤ 2 * (i : Int) := by omega
      have hi01 : (0 : Int) ≤ 2 * (i : Int) + 1 := by omega
      have hi1 : (2 : Int) * (i : Int) + 1 < 64 := by omega
      clear hs2 hg1 hg2 hdl HP HGT hqa hqb
      go_wp2_with fail
      refine wp_region_held_drew (S := fun w2 => True) (by kernel_rfl) ?_ (fun hHeld => ?_)
      · trivial
      refine wpAnyH_take (i := 0) (v := ?v1) rfl (by kernel_rfl) (by kernel_rfl) (by kernel_rfl) (fun _ _ _ h => h) (Or.inl ⟨by rfl, ?hy1⟩) (by assumption) ?rest1
      case hy1 => intro w hSw; (try dsimp only at hSw); go_simp; (try with_reducible rfl)
      try simp only [Act.put, List.getElem_toArray, List.getElem_cons_zero, List.getElem_cons_succ, List.setIfInBounds_toArray, List.set_cons_zero, List.set_cons_succ]
      refine wpAnyH_take (i := 1) (v := ?v2) rfl (by kernel_rfl) (by kernel_rfl) (by kernel_rfl) (fun _ _ _ h => h) (Or.inl ⟨by rfl, ?hy2⟩) (by assumption) ?rest2
      case hy2 => intro w hSw; (try dsimp only at hSw); go_simp; (try with_reducible rfl)
      try simp only [Act.put, List.getElem_toArray, List.getElem_cons_zero, List.getElem_cons_succ, List.setIfInBounds_toArray, List.set_cons_zero, List.set_cons_succ]
      refine wpAnyH_take (i := 2) (v := ?v3) rfl (by kernel_rfl) (by kernel_rfl) (by kernel_rfl) (fun _ _ _ h => h) (Or.inl ⟨by rfl, ?hy3⟩) (by assumption) ?rest3
      case hy3 => intro w hSw; (try dsimp only at hSw); go_simp; (try with_reducible rfl)
      try simp only [Act.put, List.getElem_toArray, List.getElem_cons_zero, List.getElem_cons_succ, List.setIfInBounds_toArray, List.set_cons_zero, List.set_cons_succ]
      refine wpAnyH_take (i := 3) (v := ?v4) rfl (by kernel_rfl) (by kernel_rfl) (by kernel_rfl) (fun _ _ _ h => h) (Or.inl ⟨by rfl, ?hy4⟩) (by assumption) ?rest4
      case hy4 => intro w hSw; (try dsimp only at hSw); go_simp; (try with_reducible rfl)
      try simp only [Act.put, List.getElem_toArray, List.getElem_cons_zero, List.getElem_cons_succ, List.setIfInBounds_toArray, List.set_cons_zero, List.set_cons_succ]
      refine wpAnyH_take (i := 4) (v := ?v5) rfl (by kernel_rfl) (by kernel_rfl) (by kernel_rfl) (fun _ _ _ h => h) (Or.inl ⟨by rfl, ?hy5⟩) (by assumption) ?rest5
      case hy5 => intro w hSw; (try dsimp only at hSw); go_simp; (try with_reducible rfl)
      try simp only [Act.put, List.getElem_toArray, List.getElem_cons_zero, List.getElem_cons_succ, List.setIfInBounds_toArray, List.set_cons_zero, List.set_cons_succ]
      refine wpAnyH_take (i := 5) (v := ?v6) rfl (by kernel_rfl) (by kernel_rfl) (by kernel_rfl) (fun _ _ _ h => h) (Or.inl ⟨by rfl, ?hy6⟩) (by assumption) ?rest6
      case hy6 => intro w hSw; (try dsimp only at hSw); go_simp; (try with_reducible rfl)
      try simp only [Act.put, List.getElem_toArray, List.getElem_cons_zero, List.getElem_cons_succ, List.setIfInBounds_toArray, List.set_cons_zero, List.set_cons_succ]
      refine wpAnyH_take (i := 6) (v := ?v7) rfl (by kernel_rfl) (by kernel_rfl) (by kernel_rfl) (fun _ _ _ h => h) (Or.inl ⟨by rfl, ?hy7⟩) (by assumption) ?rest7
      case hy7 => intro w hSw; (try dsimp only at hSw); go_simp; (try with_reducible rfl)
      try simp only [Act.put, List.getElem_toArray, List.getElem_cons_zero, List.getElem_cons_succ, List.setIfInBounds_toArray, List.set_cons_zero, List.set_cons_succ]
      refine wpAnyH_take (i := 7) (v := .int .u8 ((hexC qa).toNat : Int)) rfl (by kernel_rfl) (by kernel_rfl) (by kernel_rfl) (fun _ _ _ h => h) (Or.inl ⟨by rfl, fun w0 hSw => yields_index 9 (.const (.string ⟨#[48, 49, 50, 51, 52, 53, 54, 55, 56, 57, 97, 98, 99, 100, 101, 102]⟩)) (.tmp 17) rfl _ _ _ rfl rfl (hr1 w0)⟩) (by assumption) ?_
      try simp only [Act.put, List.getElem_toArray, List.getElem_cons_zero, List.getElem_cons_succ, List.setIfInBounds_toArray, List.set_cons_zero, List.set_cons_succ]
      refine wpAnyH_take (i := 8) (v := ?v8) rfl (by kernel_rfl) (by kernel_rfl) (by kernel_rfl) (fun _ _ _ h => h) (Or.inl ⟨by rfl, ?hy8⟩) (by assumption) ?rest8
      case hy8 => intro w hSw; (try dsimp only at hSw); go_simp; (try with_reducible rfl)
      try simp only [Act.put, List.getElem_toArray, List.getElem_cons_zero, List.getElem_cons_succ, List.setIfInBounds_toArray, List.set_cons_zero, List.set_cons_succ]
      refine wpAnyH_take (i := 9) (v := ?v9) rfl (by kernel_rfl) (by kernel_rfl) (by kernel_rfl) (fun _ _ _ h => h) (Or.inl ⟨by rfl, ?hy9⟩) (by assumption) ?rest9
      case hy9 => intro w hSw; (try dsimp only at hSw); go_simp; (try with_reducible rfl)
      try simp only [Act.put, List.getElem_toArray, List.getElem_cons_zero, List.getElem_cons_succ, List.setIfInBounds_toArray, List.set_cons_zero, List.set_cons_succ]
      refine wpAnyH_take (i := 10) (v := .int .u8 ((hexC qb).toNat : Int)) rfl (by kernel_rfl) (by kernel_rfl) (by kernel_rfl) (fun _ _ _ h => h) (Or.inl ⟨by rfl, fun w0 hSw => yields_index 9 (.const (.string ⟨#[48, 49, 50, 51, 52, 53, 54, 55, 56, 57, 97, 98, 99, 100, 101, 102]⟩)) (.tmp 20) rfl _ _ _ rfl rfl (hr2 w0)⟩) (by assumption) ?_
      try simp only [Act.put, List.getElem_toArray, List.getElem_cons_zero, List.getElem_cons_succ, List.setIfInBounds_toArray, List.set_cons_zero, List.set_cons_succ]
      refine wpAnyH_take (i := 11) (v := ?v10) rfl (by kernel_rfl) (by kernel_rfl) (by kernel_rfl) (fun _ _ _ h => h) (Or.inl ⟨by rfl, ?hy10⟩) (by assumption) ?rest10
      case hy10 => intro w hSw; (try dsimp only at hSw); go_simp; (try with_reducible rfl)
      try simp only [Act.put, List.getElem_toArray, List.getElem_cons_zero, List.getElem_cons_succ, List.setIfInBounds_toArray, List.set_cons_zero, List.set_cons_succ]
      refine wpAnyH_ready (rs := [12]) (by kernel_rfl) (by simp) ?_
      refine AllReadyH.cons rfl (fun K hK => ?_) AllReadyH.nil
      go_simp
      refine hK.out _ _ ?_ (fun hHeld => ?_)
      · trivial
      clear hK K
      try simp only [Act.put, List.getElem_toArray, List.getElem_cons_zero, List.getElem_cons_succ, List.setIfInBounds_toArray, List.set_cons_zero, List.set_cons_succ]
      refine wpAnyH_take (i := 13) (v := ?v11) rfl (by kernel_rfl) (by kernel_rfl) (by kernel_rfl) (fun _ _ _ h => h) (Or.inl ⟨by rfl, ?hy11⟩) (by assumption) ?rest11
      case hy11 => intro w hSw; (try dsimp only at hSw); go_simp; (try with_reducible rfl)
      try simp only [Act.put, List.getElem_toArray, List.getElem_cons_zero, List.getElem_cons_succ, List.setIfInBounds_toArray, List.set_cons_zero, List.set_cons_succ]
      refine wpAnyH_ready (rs := [14]) (by kernel_rfl) (by simp) ?_
      refine AllReadyH.cons rfl (fun K hK => ?_) AllReadyH.nil
      go_simp
      refine hK.out _ _ ?_ (fun hHeld => ?_)
      · trivial
      clear hK K
      try simp only [Act.put, List.getElem_toArray, List.getElem_cons_zero, List.getElem_cons_succ, List.setIfInBounds_toArray, List.set_cons_zero, List.set_cons_succ]
      refine wpAnyH_done (by kernel_rfl) ?_ _
      clear hHeld
      generalize hexC qa = ca at *
      generalize hexC qb = cb at *
      go_wp2_with fail
      go_roundw
      case measure => simp [intOf]; omega
      case rel => exact ⟨i + 1, _, by go_num, by omega, HLS, HST, hideIt HF2.out.drew⟩
    · have hi9 : i = 32 := by omega
      subst hi9
      have hds : ds = hexL id := LaidG.all (by rw [HLL.out]; exact HP.out)
      subst hds
      have hll := HLL.out
      have hconv := BsAt.conv (w := wr) (ao := some ⟨w.heap.size + 1, 0, none⟩) (bs := hexL id) (Or.inr ⟨_, 0, rfl, fun j hj => by rw [Nat.zero_add]; exact cellOfHeap HD.out j (by rw [List.getElem?_toArray]; exact bv_get _ j hj)⟩) 64
      rw [hll] at hconv
      clear HP HGT
      go_wp2_with fail
      go_ret
      exact ⟨rfl, HF.out⟩

end Go.Proofs.YtgnpdnkmhjocjaaDoor
