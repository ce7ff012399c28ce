/- Package hash, the laws: another digit is another name (HashDigit), walked. -/
import Derived.Test.YtgnpdnkmhjocjaaDoorSx1
import Derived.Test.YtgnpdnkmhjocjaaDoorSv1
import Derived.Sort.Walk0
import Derived.BigQuiet
import Derived.Deep.QuietTactic
namespace Go.Proofs.YtgnpdnkmhjocjaaDoor
open Go.RowKit Go.IntWalk
set_option linter.unusedSimpArgs false
set_option linter.unusedVariables false

/-- What a name is stored into and told, behind a call of Parse: two blocks. -/
theorem two_new (w : World) (V : Array Value) (hV : V.size = 32) : (((w.alloc (.cells zA 30)).alloc (.cells #[.int .i64 0, .int .i64 0] 39)).setCells w.heap.size 0 V.toList).heap[w.heap.size]? = some (.cells V 30 (0, 0)) ∧ (((w.alloc (.cells zA 30)).alloc (.cells #[.int .i64 0, .int .i64 0] 39)).setCells w.heap.size 0 V.toList).heap[w.heap.size + 1]? = some (.cells #[.int .i64 0, .int .i64 0] 39 (0, 0)) ∧ Fr (fun _ => False) w (((w.alloc (.cells zA 30)).alloc (.cells #[.int .i64 0, .int .i64 0] 39)).setCells w.heap.size 0 V.toList) := by
  have hA : ((w.alloc (.cells zA 30)).alloc (.cells #[.int .i64 0, .int .i64 0] 39)).heap[w.heap.size]? = some (.cells zA 30 (0, 0)) := heap_old (heap_new rfl)
  have hB : ((w.alloc (.cells zA 30)).alloc (.cells #[.int .i64 0, .int .i64 0] 39)).heap[w.heap.size + 1]? = some (.cells #[.int .i64 0, .int .i64 0] 39 (0, 0)) := heap_new (by simp)
  have hS := store_over (V := V) hA (by rw [hV]; rfl)
  have hF : Fr (fun _ => False) w ((w.alloc (.cells zA 30)).alloc (.cells #[.int .i64 0, .int .i64 0] 39)) := ((Fr.refl _ w).alloc _).alloc _
  exact ⟨hS.1, (hS.2.block (w.heap.size + 1) (Array.getElem?_eq_some_iff.1 hB).1 (by omega)).trans hB, hF.trans hS.2 (fun i hi e => by omega)⟩
theorem two_fin (w : World) (q : Nat) (V : Array Value) (f0 f1 : Int) (hA : w.heap[q]? = some (.cells V 30 (0, 0))) (hB : w.heap[q + 1]? = some (.cells #[.int .i64 0, .int .i64 0] 39 (0, 0))) : (w.setCells (q + 1) 0 (#[Value.int .i64 f0, .int .i64 f1]).toList).heap[q]? = some (.cells V 30 (0, 0)) ∧ (w.setCells (q + 1) 0 (#[Value.int .i64 f0, .int .i64 f1]).toList).heap[q + 1]? = some (.cells #[.int .i64 f0, .int .i64 f1] 39 (0, 0)) ∧ Fr (fun k => k = q + 1) w (w.setCells (q + 1) 0 (#[Value.int .i64 f0, .int .i64 f1]).toList) := by
  have hS := store_over (V := #[Value.int .i64 f0, .int .i64 f1]) hB rfl
  exact ⟨(hS.2.block q (Array.getElem?_eq_some_iff.1 hA).1 (by omega)).trans hA, hS.1, hS.2⟩

theorem at_any (z : Int) : ∃ a : Nat, a < 64 ∧ (wrap64 (z.tmod 64 + 64)).tmod 64 = (a : Int) := by
  have h1 : z.tmod 64 < 64 := Int.tmod_lt_of_pos z (by decide)
  have h2 : -64 < z.tmod 64 := by
    have := Int.tmod_lt_of_pos (-z) (show (0 : Int) < 64 by decide)
    rw [Int.neg_tmod] at this
    omega
  have h3 : wrap64 (z.tmod 64 + 64) = z.tmod 64 + 64 := by unfold wrap64; omega
  rw [h3, Int.tmod_eq_emod_of_nonneg (by omega)]
  exact ⟨((z.tmod 64 + 64) % 64).toNat, by omega, by omega⟩

set_option maxRecDepth 100000 in
set_option maxHeartbeats 4000000 in
theorem hdigitlaw_any (x : List UInt8) (hx : x.length = 32) (z : Int) (c : UInt8) (w : World) (hG : Glob w) : Calls Tryd.prog 8 #[.agg (bv x).toArray, .int .i64 z, .int .u8 (c.toNat : Int)] w fun e w' => e = .returned (.bool true) ∧ Fr (fun _ => False) w w' := by
  obtain ⟨a, ha, hza⟩ := at_any z
  have hai : (a : Int) < 64 := by omega
  have hai2 : (a : Int) ≤ 64 := by omega
  have hai3 : (a : Int) + 1 ≤ 64 := by omega
  have hwa : wrap64 ((a : Int) + 1) = (a : Int) + 1 := by unfold wrap64; omega
  have hwa2 : IntKind.i64.wrap ((a : Int) + 1) = (a : Int) + 1 := by rw [IntKind.wrap_i64]; omega
  have hai4 : (0 : Int) ≤ (a : Int) + 1 := by omega
  have hna : ((a : Int) + 1).toNat = a + 1 := by omega
  obtain ⟨n, hn⟩ : ∃ n, w.heap.size = n := ⟨_, rfl⟩
  have HF0 := hideIt (show Fr (fun _ => False) w (w.alloc (.cells (bv x).toArray 30)) from (Fr.refl _ w).alloc _)
  have HX0 := hideIt (show (w.alloc (.cells (bv x).toArray 30)).heap[n]? = some (.cells (bv x).toArray 30 (0, 0)) from heap_new hn.symm)
  have HK := hideIt (hawake_any (w.alloc (.cells (bv x).toArray 30)) (hG.fr0 HF0.out))
  have HLX := hideIt hx
  have HIX := hideIt (show (Tryd.prog.info? 30).map (·.size) = some (bv x).length by rw [bv_length, hx]; kernel_rfl)
  have HIA := hideIt (show (Tryd.prog.info? 30).map (·.size) = some (bv x).toArray.size by rw [List.size_toArray, bv_length, hx]; kernel_rfl)
  have HSZ := hideIt (show (bv x).toArray.size = 32 by rw [List.size_toArray, bv_length, hx])
  have HO := hideIt (show (bv x).toArray.all (·.oneCell') = true by simp [bv, Value.oneCell'])
  have HNE := hideIt (fun w => show (binOp .neq 30 (.agg (bv x).toArray) (.agg (bv x).toArray)).run Tryd.prog w = .ok (.bool false) w by rw [ids_neq w x x hx hx]; simp)
  have HGR := hideIt (fun w (o : BinOp) (p q : Operand) => ids_grd w o p q x x)
  have HN := hideIt hn
  have HG := hideIt hG
  have HLH := hideIt (show (hexL x).length = 64 by rw [hexL_len]; omega)
  have hl64 : (⟨(hexL x).toArray⟩ : ByteArray).size = 64 := by show (hexL x).toArray.size = 64; rw [List.size_toArray, HLH.out]
  clear hG hx
  go_enter Tryd.func8, Tryd.ntmps8
  go_wp2_with fail
  refine Calls.mono HK.out ?_
  rintro e w1 ⟨rfl, hF1⟩
  have HX1 := hideIt ((hF1.block n (Array.getElem?_eq_some_iff.1 HX0.out).1 (fun e => e)).trans HX0.out)
  have HF1 := hideIt (HF0.out.trans hF1 (fun _ _ e => e))
  have HR1 := hideIt (rangeOf HX1.out)
  have HT1 := hideIt (htext_any x HLX.out w1)
  clear hF1 HX0 HF0 HK hn
  go_wp2_with (first | (refine wpList_load_mid rfl 30 (.tmp 3) rfl n 0 rfl (bv x) _ HR1.out Tryd.underlying30 rfl HIX.out ?_))
  refine Calls.mono HT1.out ?_
  rintro e w2 ⟨rfl, hF2⟩
  have HX2 := hideIt ((hF2.block n (Array.getElem?_eq_some_iff.1 HX1.out).1 (fun e => e)).trans HX1.out)
  have HF2 := hideIt (HF1.out.trans hF2 (fun _ _ e => e))
  have HP2 := hideIt (hparse_any ⟨(hexL x).toArray⟩ (by show (hexL x).toArray.size ≤ _; rw [List.size_toArray, HLH.out]; decide) w2)
  rw [show (⟨(hexL x).toArray⟩ : ByteArray).data.toList = hexL x from rfl, prs_hex x HLX.out] at HP2
  clear hF2 HX1 HF1 HR1 HT1
  go_wp2_with fail
  refine Calls.mono HP2.out ?_
  rintro e w3 ⟨rfl, hF3⟩
  have HX3 := hideIt ((hF3.block n (Array.getElem?_eq_some_iff.1 HX2.out).1 (fun e => e)).trans HX2.out)
  have HF3 := hideIt (HF2.out.trans hF3 (fun _ _ e => e))
  clear hF3 HP2 HX2 HF2
  have HW4 := hideIt (fun W (h : W = ((w3.alloc (.cells zA 30)).alloc (.cells #[.int .i64 0, .int .i64 0] 39)).setCells w3.heap.size 0 (bv x).toArray.toList) => show W.heap[w3.heap.size]? = some (.cells (bv x).toArray 30 (0, 0)) ∧ W.heap[w3.heap.size + 1]? = some (.cells #[.int .i64 0, .int .i64 0] 39 (0, 0)) ∧ W.heap[n]? = some (.cells (bv x).toArray 30 (0, 0)) ∧ Fr (fun _ => False) w W by
    subst h
    have h := two_new w3 (bv x).toArray HSZ.out
    exact ⟨h.1, h.2.1, (h.2.2.block n (Array.getElem?_eq_some_iff.1 HX3.out).1 (fun e => e)).trans HX3.out, HF3.out.trans h.2.2 (fun _ _ e => e)⟩)
  have hwsz4 : w.heap.size ≤ w3.heap.size := HF3.out.size
  have hnsz4 : n < w3.heap.size := (Array.getElem?_eq_some_iff.1 HX3.out).1
  have HT4 := hideIt (thereNew ((w3.alloc (.cells zA 30)).alloc (.cells #[.int .i64 0, .int .i64 0] 39)) w3.heap.size zA 30 (heap_old (heap_new rfl)) (bv x).toArray.size (by rw [HSZ.out]; rfl))
  have HIF4 := hideIt (show (Tryd.prog.info? 39).map (·.size) = some (#[Value.int .i64 0, Value.int .i64 0]).size by kernel_rfl)
  have HOF4 := hideIt (show (#[Value.int .i64 0, Value.int .i64 0]).all (·.oneCell') = true by simp [Value.oneCell'])
  go_wp2_with (first | (refine wpList_store_abs rfl 30 (.tmp 9) (.tmp 22) rfl w3.heap.size 0 (bv x).toArray rfl rfl HT4.out HIA.out HO.out ?_; intro Wa4 hWa; obtain ⟨hA, hB, hX, hF⟩ := HW4.out Wa4 hWa; have HTF4 := hideIt (thereNew Wa4 (w3.heap.size + 1) _ 39 hB (#[Value.int .i64 0, Value.int .i64 0]).size rfl); have HW4 := hideIt (fun W (h : W = Wa4.setCells (w3.heap.size + 1) 0 (#[Value.int .i64 0, Value.int .i64 0]).toList) => show W.heap[w3.heap.size]? = some (.cells (bv x).toArray 30 (0, 0)) ∧ W.heap[w3.heap.size + 1]? = some (.cells #[.int .i64 0, .int .i64 0] 39 (0, 0)) ∧ W.heap[n]? = some (.cells (bv x).toArray 30 (0, 0)) ∧ Fr (fun _ => False) w W by subst h; have h := two_fin Wa4 w3.heap.size (bv x).toArray 0 0 hA hB; exact ⟨h.1, h.2.1, (h.2.2.block n (Array.getElem?_eq_some_iff.1 hX).1 (by omega)).trans hX, hF.trans h.2.2 (fun i hi e => by omega)⟩); clear hWa hA hB hX hF) | (refine wpList_store_abs rfl 39 (.tmp 10) (.tmp 23) rfl (w3.heap.size + 1) 0 (#[Value.int .i64 0, Value.int .i64 0]) rfl rfl HTF4.out HIF4.out HOF4.out ?_; intro W4f hWf; obtain ⟨hA, hB, hX, hF⟩ := HW4.out W4f hWf; have HA4 := hideIt hA; have HB4 := hideIt hB; have HX4 := hideIt hX; have HF4 := hideIt hF; have HRA4 := hideIt (rangeOf hA); have HRX4 := hideIt (rangeOf hX); have c04 := cellOfHeap hB 0 (v := .int .i64 0) rfl; clear hWf hA hB hX hF HW4 HT4 HTF4 HIF4 HOF4) | (refine wpList_load_want (by rfl) 30 (.tmp 9) rfl w3.heap.size 0 rfl (bv x) _ HRA4.out Tryd.underlying30 rfl HIX.out ?_) | (refine wpList_load_want (by rfl) 30 (.tmp 3) rfl n 0 rfl (bv x) _ HRX4.out Tryd.underlying30 rfl HIX.out ?_) | (refine wpList_bin_want (by rfl) .neq 30 30 (.tmp 28) (.tmp 29) rfl (.agg (bv x).toArray) (.agg (bv x).toArray) (.bool false) rfl rfl (HNE.out _) (HGR.out _ .neq (.tmp 28) (.tmp 29)) ?_))
  have HF9 := hideIt (show Fr (fun _ => False) W4f (W4f.alloc (.cells #[.int .u8 (c.toNat : Int)] 5)).drew from ((Fr.refl _ _).alloc _).drew)
  have hnsz9 : n < W4f.heap.size := (Array.getElem?_eq_some_iff.1 HX4.out).1
  have hcv : (convert 27 9 (.slice (some ⟨W4f.heap.size, 0, none⟩) 1 1)).run Tryd.prog (W4f.alloc (.cells #[.int .u8 (c.toNat : Int)] 5)).drew = .ok (.string ⟨#[c]⟩) (W4f.alloc (.cells #[.int .u8 (c.toNat : Int)] 5)).drew := BsAt.conv (w := (W4f.alloc (.cells #[.int .u8 (c.toNat : Int)] 5)).drew) (bs := [c]) (cells_bs (show (W4f.alloc (.cells #[.int .u8 (c.toNat : Int)] 5)).drew.heap[W4f.heap.size]? = some (.cells (bv [c]).toArray 5 (0, 0)) from heap_new (w := W4f) rfl)) 1
  have hm1 : ¬ 9223372036854775807 < min a 64 + 1 := by omega
  have hm2 : ¬ 9223372036854775807 < min a 64 + 1 + (63 - a) := by omega
  have HCAT := hideIt (tx_cat x a c HLH.out ha)
  refine wp_region_held_drew (S := (fun w' => w'.heap[n]? = some (.cells (bv x).toArray 30 (0, 0)) ∧ Fr (fun _ => False) w w')) (by kernel_rfl) ?_ (fun hHeld => ?_)
  · exact ⟨HX4.out, HF4.out.drew⟩
  refine wpAnyH_take (i := 0) (v := ?v13) rfl (by kernel_rfl) (by kernel_rfl) (by kernel_rfl) (fun _ _ _ h => h) (Or.inl ⟨by kernel_rfl, ?hy13⟩) (by assumption) ?rest13
  case hy13 => intro w hSw; (try dsimp only at hSw); go_simp; (try with_reducible rfl)
  try simp only [Act.put, List.getElem_toArray, List.getElem_cons_zero, List.getElem_cons_succ, List.setIfInBounds_toArray, List.set_cons_zero, List.set_cons_succ]
  refine wpAnyH_take (i := 1) (v := ?v14) rfl (by kernel_rfl) (by kernel_rfl) (by kernel_rfl) (fun _ _ _ h => h) (Or.inl ⟨by kernel_rfl, ?hy14⟩) (by assumption) ?rest14
  case hy14 => intro w hSw; (try dsimp only at hSw); go_simp; (try with_reducible rfl)
  try simp only [Act.put, List.getElem_toArray, List.getElem_cons_zero, List.getElem_cons_succ, List.setIfInBounds_toArray, List.set_cons_zero, List.set_cons_succ]
  refine wpAnyH_take (i := 2) (v := ?v15) rfl (by kernel_rfl) (by kernel_rfl) (by kernel_rfl) (fun _ _ _ h => h) (Or.inl ⟨by kernel_rfl, ?hy15⟩) (by assumption) ?rest15
  case hy15 => intro w hSw; (try dsimp only at hSw); go_simp; (try with_reducible rfl)
  try simp only [Act.put, List.getElem_toArray, List.getElem_cons_zero, List.getElem_cons_succ, List.setIfInBounds_toArray, List.set_cons_zero, List.set_cons_succ]
  refine wpAnyH_take (i := 3) (v := ?v16) rfl (by kernel_rfl) (by kernel_rfl) (by kernel_rfl) (fun _ _ _ h => h) (Or.inl ⟨by kernel_rfl, ?hy16⟩) (by assumption) ?rest16
  case hy16 => intro w hSw; (try dsimp only at hSw); go_simp; (try with_reducible rfl)
  try simp only [Act.put, List.getElem_toArray, List.getElem_cons_zero, List.getElem_cons_succ, List.setIfInBounds_toArray, List.set_cons_zero, List.set_cons_succ]
  refine wpAnyH_take (i := 7) (v := ?v17) rfl (by kernel_rfl) (by kernel_rfl) (by kernel_rfl) (fun _ _ _ h => h) (Or.inl ⟨by kernel_rfl, ?hy17⟩) (by assumption) ?rest17
  case hy17 => intro w hSw; (try dsimp only at hSw); go_simp; (try with_reducible rfl)
  try simp only [Act.put, List.getElem_toArray, List.getElem_cons_zero, List.getElem_cons_succ, List.setIfInBounds_toArray, List.set_cons_zero, List.set_cons_succ]
  refine wpAnyH_take (i := 8) (v := ?v18) rfl (by kernel_rfl) (by kernel_rfl) (by kernel_rfl) (fun _ _ _ h => h) (Or.inl ⟨by kernel_rfl, ?hy18⟩) (by assumption) ?rest18
  case hy18 => intro w hSw; (try dsimp only at hSw); go_simp; (try with_reducible rfl)
  try simp only [Act.put, List.getElem_toArray, List.getElem_cons_zero, List.getElem_cons_succ, List.setIfInBounds_toArray, List.set_cons_zero, List.set_cons_succ]
  refine wpAnyH_take (i := 9) (v := ?v19) rfl (by kernel_rfl) (by kernel_rfl) (by kernel_rfl) (fun _ _ _ h => h) (Or.inl ⟨by kernel_rfl, ?hy19⟩) (by assumption) ?rest19
  case hy19 => intro w hSw; (try dsimp only at hSw); go_simp; (try with_reducible rfl)
  try simp only [Act.put, List.getElem_toArray, List.getElem_cons_zero, List.getElem_cons_succ, List.setIfInBounds_toArray, List.set_cons_zero, List.set_cons_succ]
  refine wpAnyH_take (i := 10) (v := ?v20) rfl (by kernel_rfl) (by kernel_rfl) (by kernel_rfl) (fun _ _ _ h => h) (Or.inl ⟨by kernel_rfl, ?hy20⟩) (by assumption) ?rest20
  case hy20 => intro w hSw; (try dsimp only at hSw); go_simp; (try with_reducible rfl)
  try simp only [Act.put, List.getElem_toArray, List.getElem_cons_zero, List.getElem_cons_succ, List.setIfInBounds_toArray, List.set_cons_zero, List.set_cons_succ]
  refine wpAnyH_ready (rs := [4]) (by kernel_rfl) (by simp) ?_
  refine AllReadyH.cons rfl (fun K hK => ?_) AllReadyH.nil
  go_simp
  refine hK.out _ _ ?_ (fun hHeld => ?_)
  · exact ⟨((HF9.out.block n hnsz9 (fun e => e)).trans HX4.out), HF4.out.trans HF9.out (fun _ _ e => e)⟩
  clear hK K
  try simp only [Act.put, List.getElem_toArray, List.getElem_cons_zero, List.getElem_cons_succ, List.setIfInBounds_toArray, List.set_cons_zero, List.set_cons_succ]
  refine wpAnyH_ready (rs := [5]) (by kernel_rfl) (by simp) ?_
  refine AllReadyH.cons rfl (fun K hK => ?_) AllReadyH.nil
  go_simp
  refine hK.out _ _ ?_ (fun hHeld => ?_)
  · exact hHeld
  clear hK K
  try simp only [Act.put, List.getElem_toArray, List.getElem_cons_zero, List.getElem_cons_succ, List.setIfInBounds_toArray, List.set_cons_zero, List.set_cons_succ]
  refine wpAnyH_take (i := 6) (v := ?v21) rfl (by kernel_rfl) (by kernel_rfl) (by kernel_rfl) (fun _ _ _ h => h) (Or.inl ⟨by kernel_rfl, ?hy21⟩) (by assumption) ?rest21
  case hy21 => intro w hSw; (try dsimp only at hSw); go_simp; (try with_reducible rfl)
  try simp only [Act.put, List.getElem_toArray, List.getElem_cons_zero, List.getElem_cons_succ, List.setIfInBounds_toArray, List.set_cons_zero, List.set_cons_succ]
  refine wpAnyH_take (i := 11) (v := ?v22) rfl (by kernel_rfl) (by kernel_rfl) (by kernel_rfl) (fun _ _ _ h => h) (Or.inl ⟨by kernel_rfl, ?hy22⟩) (by assumption) ?rest22
  case hy22 => intro w hSw; (try dsimp only at hSw); go_simp; (try with_reducible rfl)
  try simp only [Act.put, List.getElem_toArray, List.getElem_cons_zero, List.getElem_cons_succ, List.setIfInBounds_toArray, List.set_cons_zero, List.set_cons_succ]
  refine wpAnyH_take (i := 12) (v := ?v23) rfl (by kernel_rfl) (by kernel_rfl) (by kernel_rfl) (fun _ _ _ h => h) (Or.inl ⟨by kernel_rfl, ?hy23⟩) (by assumption) ?rest23
  case hy23 => intro w hSw; (try dsimp only at hSw); go_simp; (try with_reducible rfl)
  try simp only [Act.put, List.getElem_toArray, List.getElem_cons_zero, List.getElem_cons_succ, List.setIfInBounds_toArray, List.set_cons_zero, List.set_cons_succ]
  refine wpAnyH_done (by kernel_rfl) ?_ _
  have HF7 := hideIt hHeld.2
  have HX7 := hideIt hHeld.1
  clear hza hwa hwa2 hna hai3 hai4 hHeld hcv hm1 hm2 HF9 hnsz9 HX4 HF4 HRA4 HRX4 HA4 HB4 c04 HNE HGR HIA HO HSZ hl64
  generalize (W4f.alloc (.cells #[.int .u8 (c.toNat : Int)] 5)).drew = W7 at *
  rw [HCAT.out]
  generalize wrap64 (z.tmod 64 + 64) = z1 at *
  generalize z.tmod 64 = z2 at *
  generalize (⟨(hexL x).toArray⟩ : ByteArray).extract 0 a ++ ⟨#[c]⟩ = g1 at *
  generalize (⟨(hexL x).toArray⟩ : ByteArray).extract 0 a = g2 at *
  generalize (⟨(hexL x).toArray⟩ : ByteArray).extract (a + 1) 64 = g3 at *
  have HTL := hideIt (tx_len x a c HLX.out)
  by_cases hd : isDg c.toNat = true
  · have HP8 := hideIt (hparse_any ⟨(tx x a c).toArray⟩ (by show (tx x a c).toArray.size ≤ _; rw [List.size_toArray, HTL.out]; decide) W7)
    rw [show (⟨(tx x a c).toArray⟩ : ByteArray).data.toList = tx x a c from rfl, tx_good x a c HLX.out hd] at HP8
    have HYL := hideIt (pair_len x a c HLX.out)
    have HYB := hideIt (tx_back x a c HLX.out hd)
    have HYE := hideIt (pair_eq x a c HLX.out hd)
    have HYG := hideIt (pair_get x a c HLX.out)
    have HEV := hideIt (pair_even x a c HLX.out ha)
    have HOD := hideIt (pair_odd x a c HLX.out ha)
    generalize hY : pairV (tx x a c) = Y at *
    generalize hT : tx x a c = t at *
    clear hY hT HCAT
    have hm := c.toNat_lt
    generalize c.toNat = m at *
    go_wp2_with fail
    refine Calls.mono HP8.out ?_
    rintro e w8 ⟨rfl, hF8⟩
    have HX8 := hideIt ((hF8.block n (Array.getElem?_eq_some_iff.1 HX7.out).1 (fun e => e)).trans HX7.out)
    have HF8 := hideIt (HF7.out.trans hF8 (fun _ _ e => e))
    clear hF8 HP8 HX7 HF7
    have HSZ := hideIt (show (bv Y).toArray.size = 32 by rw [List.size_toArray, bv_length, HYL.out])
    have HIY := hideIt (show (Tryd.prog.info? 30).map (·.size) = some (bv Y).length by rw [bv_length, HYL.out]; kernel_rfl)
    have HIA := hideIt (show (Tryd.prog.info? 30).map (·.size) = some (bv Y).toArray.size by rw [HSZ.out]; kernel_rfl)
    have HO := hideIt (show (bv Y).toArray.all (·.oneCell') = true by simp [bv, Value.oneCell'])
    have HTY := hideIt (fun w => htext_any Y HYL.out w)
    rw [HYB.out] at HTY
    obtain ⟨bb, hbb⟩ : ∃ bb, (Y == x) = bb := ⟨_, rfl⟩
    have hye : (t == hexL x) = bb := by rw [← HYE.out]; exact hbb
    have HIE := hideIt (fun w => show (binOp .eql 30 (.agg (bv Y).toArray) (.agg (bv x).toArray)).run Tryd.prog w = .ok (.bool bb) w by rw [ids_eql w Y x HYL.out HLX.out, hbb])
    have HGR := hideIt (fun w (o : BinOp) (p q : Operand) => ids_grd w o p q Y x)
    clear HYE HYB hbb
    obtain ⟨q, hq⟩ : ∃ q, a / 2 = q := ⟨_, rfl⟩
    have hq1 : (a : Int) / 2 = (q : Int) := by omega
    have hq2 : (a : Int).tdiv 2 = (q : Int) := by rw [Int.tdiv_eq_ediv_of_nonneg (by omega)]; exact hq1
    have hq32 : q < 32 := by omega
    have hwq : IntKind.i64.wrap (q : Int) = (q : Int) := by rw [IntKind.wrap_i64]; omega
    have hq32i : (q : Int) < 32 := by omega
    rw [hq] at HYG HEV HOD
    have HAQ := hideIt hq
    clear hq
    have HW9 := hideIt (fun W (h : W = ((w8.alloc (.cells zA 30)).alloc (.cells #[.int .i64 0, .int .i64 0] 39)).setCells w8.heap.size 0 (bv Y).toArray.toList) => show W.heap[w8.heap.size]? = some (.cells (bv Y).toArray 30 (0, 0)) ∧ W.heap[w8.heap.size + 1]? = some (.cells #[.int .i64 0, .int .i64 0] 39 (0, 0)) ∧ W.heap[n]? = some (.cells (bv x).toArray 30 (0, 0)) ∧ Fr (fun _ => False) w W by
      subst h
      have h := two_new w8 (bv Y).toArray HSZ.out
      exact ⟨h.1, h.2.1, (h.2.2.block n (Array.getElem?_eq_some_iff.1 HX8.out).1 (fun e => e)).trans HX8.out, HF8.out.trans h.2.2 (fun _ _ e => e)⟩)
    have hwsz9 : w.heap.size ≤ w8.heap.size := HF8.out.size
    have hnsz9 : n < w8.heap.size := (Array.getElem?_eq_some_iff.1 HX8.out).1
    have HT9 := hideIt (thereNew ((w8.alloc (.cells zA 30)).alloc (.cells #[.int .i64 0, .int .i64 0] 39)) w8.heap.size zA 30 (heap_old (heap_new rfl)) (bv Y).toArray.size (by rw [HSZ.out]; rfl))
    have HIF9 := hideIt (show (Tryd.prog.info? 39).map (·.size) = some (#[Value.int .i64 0, Value.int .i64 0]).size by kernel_rfl)
    have HOF9 := hideIt (show (#[Value.int .i64 0, Value.int .i64 0]).all (·.oneCell') = true by simp [Value.oneCell'])
    by_cases hdl : m ≤ 57
    · have d1 : (48 : Int) ≤ (m : Int) := by unfold isDg at hd; simp at hd; omega
      have d2 : (m : Int) ≤ 57 := by omega
      clear hd hdl
      go_wp2_with (first | (refine wpList_store_abs rfl 30 (.tmp 12) (.tmp 56) rfl w8.heap.size 0 (bv Y).toArray rfl rfl HT9.out HIA.out HO.out ?_; intro Wa9 hWa; obtain ⟨hA, hB, hX, hF⟩ := HW9.out Wa9 hWa; have HTF9 := hideIt (thereNew Wa9 (w8.heap.size + 1) _ 39 hB (#[Value.int .i64 0, Value.int .i64 0]).size rfl); have HW9 := hideIt (fun W (h : W = Wa9.setCells (w8.heap.size + 1) 0 (#[Value.int .i64 0, Value.int .i64 0]).toList) => show W.heap[w8.heap.size]? = some (.cells (bv Y).toArray 30 (0, 0)) ∧ W.heap[w8.heap.size + 1]? = some (.cells #[.int .i64 0, .int .i64 0] 39 (0, 0)) ∧ W.heap[n]? = some (.cells (bv x).toArray 30 (0, 0)) ∧ Fr (fun _ => False) w W by subst h; have h := two_fin Wa9 w8.heap.size (bv Y).toArray 0 0 hA hB; exact ⟨h.1, h.2.1, (h.2.2.block n (Array.getElem?_eq_some_iff.1 hX).1 (by omega)).trans hX, hF.trans h.2.2 (fun i hi e => by omega)⟩); clear hWa hA hB hX hF) | (refine wpList_store_abs rfl 39 (.tmp 13) (.tmp 57) rfl (w8.heap.size + 1) 0 (#[Value.int .i64 0, Value.int .i64 0]) rfl rfl HTF9.out HIF9.out HOF9.out ?_; intro W9f hWf; obtain ⟨hA, hB, hX, hF⟩ := HW9.out W9f hWf; have HA9 := hideIt hA; have HB9 := hideIt hB; have HX9 := hideIt hX; have HF9 := hideIt hF; have HRA9 := hideIt (rangeOf hA); have HRX9 := hideIt (rangeOf hX); have c09 := cellOfHeap hB 0 (v := .int .i64 0) rfl; clear hWf hA hB hX hF HW9 HT9 HTF9 HIF9 HOF9) | (refine wpList_load_want (by rfl) 30 (.tmp 12) rfl w8.heap.size 0 rfl (bv Y) _ HRA9.out Tryd.underlying30 rfl HIY.out ?_))
      refine Calls.mono (HTY.out _) ?_
      rintro e w9 ⟨rfl, hF9⟩
      have HX9 := hideIt ((hF9.block n (Array.getElem?_eq_some_iff.1 HX9.out).1 (fun e => e)).trans HX9.out)
      have HA9 := hideIt ((hF9.block w8.heap.size (Array.getElem?_eq_some_iff.1 HA9.out).1 (fun e => e)).trans HA9.out)
      have HF9 := hideIt (HF9.out.trans hF9 (fun _ _ e => e))
      have HRX := hideIt (rangeOf HX9.out)
      have HRY := hideIt (rangeOf HA9.out)
      clear hF9 HTY HRA9 HRX9 HB9 c09
      obtain ⟨qy, hqy⟩ : ∃ qy, w8.heap.size = qy := ⟨_, rfl⟩
      rw [hqy] at HA9 HRY
      clear d1 d2
      go_wp2_with (first | (refine wpList_load_want (by rfl) 30 (.tmp 12) rfl qy 0 rfl (bv Y) _ HRY.out Tryd.underlying30 rfl HIY.out ?_) | (refine wpList_load_want (by rfl) 30 (.tmp 3) rfl n 0 rfl (bv x) _ HRX.out Tryd.underlying30 rfl HIX.out ?_) | (refine wpList_bin_want (by rfl) .eql 30 30 (.tmp 90) (.tmp 91) rfl (.agg (bv Y).toArray) (.agg (bv x).toArray) (.bool bb) rfl rfl (HIE.out _) (HGR.out _ .eql (.tmp 90) (.tmp 91)) ?_))
      clear HRX HRY HIE HGR hye HTL
      go_loopw [15] (fun s15 wr => ∃ i : Nat, s15 = .int .i64 i ∧ i ≤ 32 ∧ Hid (wr.heap[n]? = some (.cells (bv x).toArray 30 (0, 0))) ∧ Hid (wr.heap[qy]? = some (.cells (bv Y).toArray 30 (0, 0))) ∧ Hid (Fr (fun _ => False) w wr)) (fun s15 _ => 32 - (intOf s15).toNat)
      case atStart => exact ⟨0, rfl, by omega, HX9, HA9, HF9⟩
      case round =>
        clear HX9 HA9 HF9
        obtain ⟨i, rfl, hi, HX, HA, HF⟩ := hrel
        have cellX : ∀ j, j < 32 → wr.cell? ⟨n, j, none⟩ = some (.int .u8 ((x.getD j 0).toNat : Int)) := fun j hj => cellOfHeap HX.out j (by
          have h1 := HLX.out
          have h2 : j < x.length := by omega
          simp [bv, List.getD, h2])
        have cellY : ∀ j, j < 32 → wr.cell? ⟨qy, j, none⟩ = some (.int .u8 ((Y.getD j 0).toNat : Int)) := fun j hj => cellOfHeap HA.out j (by
          have h1 := HYL.out
          have h2 : j < Y.length := by omega
          simp [bv, List.getD, h2])
        have HCX := hideIt cellX
        have HCY := hideIt cellY
        clear cellX cellY
        by_cases hlt : i < 32
        · have hii : (i : Int) < 32 := by omega
          by_cases hiq : i = q
          · have hiqi : (i : Int) = (q : Int) := by omega
            clear hiq
            go_wp2_with fail
            go_quiet (fail)
            go_wp2_with fail
            go_roundw
            case measure => simp [intOf]; omega
            case rel => exact ⟨i + 1, by go_num, by omega, HX, HA, hideIt (HF.out.drewN _)⟩
          · have hiqi : ¬ (i : Int) = (q : Int) := by omega
            have cx := HCX.out i hlt
            have cy := HCY.out i hlt
            rw [HYG.out i hlt hiq] at cy
            generalize (x.getD i 0).toNat = v at *
            have hiq2 : (i == q) = false := by simpa using hiq
            have hiq3 : ((i : Int) == (q : Int)) = false := by simpa using hiqi
            go_wp2_with fail
            refine wp_region_held_drew (S := (fun w' => w'.cell? ⟨n, i, none⟩ = some (.int .u8 (v : Int)) ∧ w'.cell? ⟨qy, i, none⟩ = some (.int .u8 (v : Int)))) (by kernel_rfl) ?_ (fun hHeld => ?_)
            · exact ⟨cx, cy⟩
            refine wpAnyH_take (i := 0) (v := ?v1) rfl (by kernel_rfl) (by kernel_rfl) (by kernel_rfl) (fun _ _ _ h => h) (Or.inl ⟨by kernel_rfl, ?hy1⟩) (by assumption) ?rest1
            case hy1 => intro w hSw; (try dsimp only at hSw); go_simp; (try with_reducible rfl)
            try simp only [Act.put, List.getElem_toArray, List.getElem_cons_zero, List.getElem_cons_succ, List.setIfInBounds_toArray, List.set_cons_zero, List.set_cons_succ]
            refine wpAnyH_take (i := 1) (v := ?v2) rfl (by kernel_rfl) (by kernel_rfl) (by kernel_rfl) (fun _ _ _ h => h) (Or.inl ⟨by kernel_rfl, ?hy2⟩) (by assumption) ?rest2
            case hy2 => intro w hSw; (try dsimp only at hSw); go_simp; (try with_reducible rfl)
            try simp only [Act.put, List.getElem_toArray, List.getElem_cons_zero, List.getElem_cons_succ, List.setIfInBounds_toArray, List.set_cons_zero, List.set_cons_succ]
            refine wpAnyH_take (i := 2) (v := ?v3) rfl (by kernel_rfl) (by kernel_rfl) (by kernel_rfl) (fun _ _ _ h => h) (Or.inl ⟨by kernel_rfl, ?hy3⟩) (by assumption) ?rest3
            case hy3 => intro w hSw; (try dsimp only at hSw); go_simp; (try with_reducible rfl)
            try simp only [Act.put, List.getElem_toArray, List.getElem_cons_zero, List.getElem_cons_succ, List.setIfInBounds_toArray, List.set_cons_zero, List.set_cons_succ]
            refine wpAnyH_take (i := 3) (v := .bool true) rfl (by kernel_rfl) (by kernel_rfl) (by kernel_rfl) (fun _ _ _ h => h) (Or.inl ⟨by kernel_rfl, fun w0 hSw => by go_simp⟩) (by assumption) ?_
            try simp only [Act.put, List.getElem_toArray, List.getElem_cons_zero, List.getElem_cons_succ, List.setIfInBounds_toArray, List.set_cons_zero, List.set_cons_succ]
            refine wpAnyH_take (i := 4) (v := ?v4) rfl (by kernel_rfl) (by kernel_rfl) (by kernel_rfl) (fun _ _ _ h => h) (Or.inl ⟨by kernel_rfl, ?hy4⟩) (by assumption) ?rest4
            case hy4 => intro w hSw; (try dsimp only at hSw); go_simp; (try with_reducible rfl)
            try simp only [Act.put, List.getElem_toArray, List.getElem_cons_zero, List.getElem_cons_succ, List.setIfInBounds_toArray, List.set_cons_zero, List.set_cons_succ]
            refine wpAnyH_take (i := 5) (v := ?v5) rfl (by kernel_rfl) (by kernel_rfl) (by kernel_rfl) (fun _ _ _ h => h) (Or.inl ⟨by kernel_rfl, ?hy5⟩) (by assumption) ?rest5
            case hy5 => intro w hSw; (try dsimp only at hSw); go_simp; (try with_reducible rfl)
            try simp only [Act.put, List.getElem_toArray, List.getElem_cons_zero, List.getElem_cons_succ, List.setIfInBounds_toArray, List.set_cons_zero, List.set_cons_succ]
            refine wpAnyH_take (i := 6) (v := ?v6) rfl (by kernel_rfl) (by kernel_rfl) (by kernel_rfl) (fun _ _ _ h => h) (Or.inl ⟨by kernel_rfl, ?hy6⟩) (by assumption) ?rest6
            case hy6 => intro w hSw; (try dsimp only at hSw); go_simp; (try with_reducible rfl)
            try simp only [Act.put, List.getElem_toArray, List.getElem_cons_zero, List.getElem_cons_succ, List.setIfInBounds_toArray, List.set_cons_zero, List.set_cons_succ]
            refine wpAnyH_take (i := 7) (v := ?v7) rfl (by kernel_rfl) (by kernel_rfl) (by kernel_rfl) (fun _ _ _ h => h) (Or.inl ⟨by kernel_rfl, ?hy7⟩) (by assumption) ?rest7
            case hy7 => intro w hSw; (try dsimp only at hSw); go_simp; (try with_reducible rfl)
            try simp only [Act.put, List.getElem_toArray, List.getElem_cons_zero, List.getElem_cons_succ, List.setIfInBounds_toArray, List.set_cons_zero, List.set_cons_succ]
            refine wpAnyH_take (i := 8) (v := ?v8) rfl (by kernel_rfl) (by kernel_rfl) (by kernel_rfl) (fun _ _ _ h => h) (Or.inl ⟨by kernel_rfl, ?hy8⟩) (by assumption) ?rest8
            case hy8 => intro w hSw; (try dsimp only at hSw); go_simp; (try with_reducible rfl)
            try simp only [Act.put, List.getElem_toArray, List.getElem_cons_zero, List.getElem_cons_succ, List.setIfInBounds_toArray, List.set_cons_zero, List.set_cons_succ]
            refine wpAnyH_take (i := 9) (v := ?v9) rfl (by kernel_rfl) (by kernel_rfl) (by kernel_rfl) (fun _ _ _ h => h) (Or.inl ⟨by kernel_rfl, ?hy9⟩) (by assumption) ?rest9
            case hy9 => intro w hSw; (try dsimp only at hSw); go_simp; (try with_reducible rfl)
            try simp only [Act.put, List.getElem_toArray, List.getElem_cons_zero, List.getElem_cons_succ, List.setIfInBounds_toArray, List.set_cons_zero, List.set_cons_succ]
            refine wpAnyH_take (i := 10) (v := ?v10) rfl (by kernel_rfl) (by kernel_rfl) (by kernel_rfl) (fun _ _ _ h => h) (Or.inl ⟨by kernel_rfl, ?hy10⟩) (by assumption) ?rest10
            case hy10 => intro w hSw; (try dsimp only at hSw); go_simp; (try with_reducible rfl)
            try simp only [Act.put, List.getElem_toArray, List.getElem_cons_zero, List.getElem_cons_succ, List.setIfInBounds_toArray, List.set_cons_zero, List.set_cons_succ]
            refine wpAnyH_take (i := 11) (v := ?v11) rfl (by kernel_rfl) (by kernel_rfl) (by kernel_rfl) (fun _ _ _ h => h) (Or.inl ⟨by kernel_rfl, ?hy11⟩) (by assumption) ?rest11
            case hy11 => intro w hSw; (try dsimp only at hSw); go_simp; (try with_reducible rfl)
            try simp only [Act.put, List.getElem_toArray, List.getElem_cons_zero, List.getElem_cons_succ, List.setIfInBounds_toArray, List.set_cons_zero, List.set_cons_succ]
            refine wpAnyH_take (i := 12) (v := ?v12) rfl (by kernel_rfl) (by kernel_rfl) (by kernel_rfl) (fun _ _ _ h => h) (Or.inl ⟨by kernel_rfl, ?hy12⟩) (by assumption) ?rest12
            case hy12 => intro w hSw; (try dsimp only at hSw); go_simp; (try with_reducible rfl)
            try simp only [Act.put, List.getElem_toArray, List.getElem_cons_zero, List.getElem_cons_succ, List.setIfInBounds_toArray, List.set_cons_zero, List.set_cons_succ]
            refine wpAnyH_done (by kernel_rfl) ?_ _
            clear hHeld
            go_wp2_with fail
            go_roundw
            case measure => simp [intOf]; omega
            case rel => exact ⟨i + 1, by go_num, by omega, HX, HA, hideIt HF.out.drew⟩
        · obtain rfl : i = 32 := by omega
          have cx := HCX.out q hq32
          have cy := HCY.out q hq32
          have HEV2 := hideIt HEV.out
          have HOD2 := hideIt HOD.out
          clear HEV HOD
          generalize (x.getD q 0).toNat = vx at *
          generalize (Y.getD q 0).toNat = vy at *
          by_cases hpar : a % 2 = 0
          · obtain ⟨k16, hk⟩ : ∃ k, vx % 16 = k := ⟨_, rfl⟩
            have hk2 := HEV2.out hpar
            rw [hk] at hk2
            have e1 : (vx : Int).tmod 16 = (k16 : Int) := by rw [Int.tmod_eq_emod_of_nonneg (by omega)]; omega
            have e2 : (vy : Int).tmod 16 = (k16 : Int) := by rw [Int.tmod_eq_emod_of_nonneg (by omega)]; omega
            have e3 : (vx : Int) % 16 = (k16 : Int) := by omega
            have e4 : (vy : Int) % 16 = (k16 : Int) := by omega
            have p1 : (a : Int).tmod 2 = 0 := by rw [Int.tmod_eq_emod_of_nonneg (by omega)]; omega
            have p2 : (a : Int) % 2 = 0 := by omega
            clear hk hk2 hpar
            go_wp2_with fail
            go_quiet (fail)
            go_wp2_with fail
            go_ret
            exact ⟨rfl, HF.out.drewN _⟩
          · obtain ⟨k16, hk⟩ : ∃ k, vx / 16 = k := ⟨_, rfl⟩
            have hk2 := HOD2.out (by omega)
            rw [hk] at hk2
            have e1 : (vx : Int).tdiv 16 = (k16 : Int) := by rw [Int.tdiv_eq_ediv_of_nonneg (by omega)]; omega
            have e2 : (vy : Int).tdiv 16 = (k16 : Int) := by rw [Int.tdiv_eq_ediv_of_nonneg (by omega)]; omega
            have e3 : (vx : Int) / 16 = (k16 : Int) := by omega
            have e4 : (vy : Int) / 16 = (k16 : Int) := by omega
            have p1 : (a : Int).tmod 2 = 1 := by rw [Int.tmod_eq_emod_of_nonneg (by omega)]; omega
            have p2 : (a : Int) % 2 = 1 := by omega
            clear hk hk2 hpar
            go_wp2_with fail
            go_quiet (fail)
            go_wp2_with fail
            go_ret
            exact ⟨rfl, HF.out.drewN _⟩
    · have d1 : (48 : Int) ≤ (m : Int) := by omega
      have d2 : ¬ (m : Int) ≤ 57 := by omega
      have d3 : (97 : Int) ≤ (m : Int) := by unfold isDg at hd; simp at hd; omega
      have d4 : (m : Int) ≤ 102 := by unfold isDg at hd; simp at hd; omega
      clear hd hdl
      go_wp2_with (first | (refine wpList_store_abs rfl 30 (.tmp 12) (.tmp 56) rfl w8.heap.size 0 (bv Y).toArray rfl rfl HT9.out HIA.out HO.out ?_; intro Wa9 hWa; obtain ⟨hA, hB, hX, hF⟩ := HW9.out Wa9 hWa; have HTF9 := hideIt (thereNew Wa9 (w8.heap.size + 1) _ 39 hB (#[Value.int .i64 0, Value.int .i64 0]).size rfl); have HW9 := hideIt (fun W (h : W = Wa9.setCells (w8.heap.size + 1) 0 (#[Value.int .i64 0, Value.int .i64 0]).toList) => show W.heap[w8.heap.size]? = some (.cells (bv Y).toArray 30 (0, 0)) ∧ W.heap[w8.heap.size + 1]? = some (.cells #[.int .i64 0, .int .i64 0] 39 (0, 0)) ∧ W.heap[n]? = some (.cells (bv x).toArray 30 (0, 0)) ∧ Fr (fun _ => False) w W by subst h; have h := two_fin Wa9 w8.heap.size (bv Y).toArray 0 0 hA hB; exact ⟨h.1, h.2.1, (h.2.2.block n (Array.getElem?_eq_some_iff.1 hX).1 (by omega)).trans hX, hF.trans h.2.2 (fun i hi e => by omega)⟩); clear hWa hA hB hX hF) | (refine wpList_store_abs rfl 39 (.tmp 13) (.tmp 57) rfl (w8.heap.size + 1) 0 (#[Value.int .i64 0, Value.int .i64 0]) rfl rfl HTF9.out HIF9.out HOF9.out ?_; intro W9f hWf; obtain ⟨hA, hB, hX, hF⟩ := HW9.out W9f hWf; have HA9 := hideIt hA; have HB9 := hideIt hB; have HX9 := hideIt hX; have HF9 := hideIt hF; have HRA9 := hideIt (rangeOf hA); have HRX9 := hideIt (rangeOf hX); have c09 := cellOfHeap hB 0 (v := .int .i64 0) rfl; clear hWf hA hB hX hF HW9 HT9 HTF9 HIF9 HOF9) | (refine wpList_load_want (by rfl) 30 (.tmp 12) rfl w8.heap.size 0 rfl (bv Y) _ HRA9.out Tryd.underlying30 rfl HIY.out ?_))
      refine Calls.mono (HTY.out _) ?_
      rintro e w9 ⟨rfl, hF9⟩
      have HX9 := hideIt ((hF9.block n (Array.getElem?_eq_some_iff.1 HX9.out).1 (fun e => e)).trans HX9.out)
      have HA9 := hideIt ((hF9.block w8.heap.size (Array.getElem?_eq_some_iff.1 HA9.out).1 (fun e => e)).trans HA9.out)
      have HF9 := hideIt (HF9.out.trans hF9 (fun _ _ e => e))
      have HRX := hideIt (rangeOf HX9.out)
      have HRY := hideIt (rangeOf HA9.out)
      clear hF9 HTY HRA9 HRX9 HB9 c09
      obtain ⟨qy, hqy⟩ : ∃ qy, w8.heap.size = qy := ⟨_, rfl⟩
      rw [hqy] at HA9 HRY
      clear d1 d2
      go_wp2_with (first | (refine wpList_load_want (by rfl) 30 (.tmp 12) rfl qy 0 rfl (bv Y) _ HRY.out Tryd.underlying30 rfl HIY.out ?_) | (refine wpList_load_want (by rfl) 30 (.tmp 3) rfl n 0 rfl (bv x) _ HRX.out Tryd.underlying30 rfl HIX.out ?_) | (refine wpList_bin_want (by rfl) .eql 30 30 (.tmp 90) (.tmp 91) rfl (.agg (bv Y).toArray) (.agg (bv x).toArray) (.bool bb) rfl rfl (HIE.out _) (HGR.out _ .eql (.tmp 90) (.tmp 91)) ?_))
      clear HRX HRY HIE HGR hye HTL
      go_loopw [15] (fun s15 wr => ∃ i : Nat, s15 = .int .i64 i ∧ i ≤ 32 ∧ Hid (wr.heap[n]? = some (.cells (bv x).toArray 30 (0, 0))) ∧ Hid (wr.heap[qy]? = some (.cells (bv Y).toArray 30 (0, 0))) ∧ Hid (Fr (fun _ => False) w wr)) (fun s15 _ => 32 - (intOf s15).toNat)
      case atStart => exact ⟨0, rfl, by omega, HX9, HA9, HF9⟩
      case round =>
        clear HX9 HA9 HF9
        obtain ⟨i, rfl, hi, HX, HA, HF⟩ := hrel
        have cellX : ∀ j, j < 32 → wr.cell? ⟨n, j, none⟩ = some (.int .u8 ((x.getD j 0).toNat : Int)) := fun j hj => cellOfHeap HX.out j (by
          have h1 := HLX.out
          have h2 : j < x.length := by omega
          simp [bv, List.getD, h2])
        have cellY : ∀ j, j < 32 → wr.cell? ⟨qy, j, none⟩ = some (.int .u8 ((Y.getD j 0).toNat : Int)) := fun j hj => cellOfHeap HA.out j (by
          have h1 := HYL.out
          have h2 : j < Y.length := by omega
          simp [bv, List.getD, h2])
        have HCX := hideIt cellX
        have HCY := hideIt cellY
        clear cellX cellY
        by_cases hlt : i < 32
        · have hii : (i : Int) < 32 := by omega
          by_cases hiq : i = q
          · have hiqi : (i : Int) = (q : Int) := by omega
            clear hiq
            go_wp2_with fail
            go_quiet (fail)
            go_wp2_with fail
            go_roundw
            case measure => simp [intOf]; omega
            case rel => exact ⟨i + 1, by go_num, by omega, HX, HA, hideIt (HF.out.drewN _)⟩
          · have hiqi : ¬ (i : Int) = (q : Int) := by omega
            have cx := HCX.out i hlt
            have cy := HCY.out i hlt
            rw [HYG.out i hlt hiq] at cy
            generalize (x.getD i 0).toNat = v at *
            have hiq2 : (i == q) = false := by simpa using hiq
            have hiq3 : ((i : Int) == (q : Int)) = false := by simpa using hiqi
            go_wp2_with fail
            refine wp_region_held_drew (S := (fun w' => w'.cell? ⟨n, i, none⟩ = some (.int .u8 (v : Int)) ∧ w'.cell? ⟨qy, i, none⟩ = some (.int .u8 (v : Int)))) (by kernel_rfl) ?_ (fun hHeld => ?_)
            · exact ⟨cx, cy⟩
            refine wpAnyH_take (i := 0) (v := ?vx1) rfl (by kernel_rfl) (by kernel_rfl) (by kernel_rfl) (fun _ _ _ h => h) (Or.inl ⟨by kernel_rfl, ?hx1⟩) (by assumption) ?restx1
            case hx1 => intro w hSw; (try dsimp only at hSw); go_simp; (try with_reducible rfl)
            try simp only [Act.put, List.getElem_toArray, List.getElem_cons_zero, List.getElem_cons_succ, List.setIfInBounds_toArray, List.set_cons_zero, List.set_cons_succ]
            refine wpAnyH_take (i := 1) (v := ?vx2) rfl (by kernel_rfl) (by kernel_rfl) (by kernel_rfl) (fun _ _ _ h => h) (Or.inl ⟨by kernel_rfl, ?hx2⟩) (by assumption) ?restx2
            case hx2 => intro w hSw; (try dsimp only at hSw); go_simp; (try with_reducible rfl)
            try simp only [Act.put, List.getElem_toArray, List.getElem_cons_zero, List.getElem_cons_succ, List.setIfInBounds_toArray, List.set_cons_zero, List.set_cons_succ]
            refine wpAnyH_take (i := 2) (v := ?vx3) rfl (by kernel_rfl) (by kernel_rfl) (by kernel_rfl) (fun _ _ _ h => h) (Or.inl ⟨by kernel_rfl, ?hx3⟩) (by assumption) ?restx3
            case hx3 => intro w hSw; (try dsimp only at hSw); go_simp; (try with_reducible rfl)
            try simp only [Act.put, List.getElem_toArray, List.getElem_cons_zero, List.getElem_cons_succ, List.setIfInBounds_toArray, List.set_cons_zero, List.set_cons_succ]
            refine wpAnyH_take (i := 3) (v := .bool true) rfl (by kernel_rfl) (by kernel_rfl) (by kernel_rfl) (fun _ _ _ h => h) (Or.inl ⟨by kernel_rfl, fun w0 hSw => by go_simp⟩) (by assumption) ?_
            try simp only [Act.put, List.getElem_toArray, List.getElem_cons_zero, List.getElem_cons_succ, List.setIfInBounds_toArray, List.set_cons_zero, List.set_cons_succ]
            refine wpAnyH_take (i := 4) (v := ?vx4) rfl (by kernel_rfl) (by kernel_rfl) (by kernel_rfl) (fun _ _ _ h => h) (Or.inl ⟨by kernel_rfl, ?hx4⟩) (by assumption) ?restx4
            case hx4 => intro w hSw; (try dsimp only at hSw); go_simp; (try with_reducible rfl)
            try simp only [Act.put, List.getElem_toArray, List.getElem_cons_zero, List.getElem_cons_succ, List.setIfInBounds_toArray, List.set_cons_zero, List.set_cons_succ]
            refine wpAnyH_take (i := 5) (v := ?vx5) rfl (by kernel_rfl) (by kernel_rfl) (by kernel_rfl) (fun _ _ _ h => h) (Or.inl ⟨by kernel_rfl, ?hx5⟩) (by assumption) ?restx5
            case hx5 => intro w hSw; (try dsimp only at hSw); go_simp; (try with_reducible rfl)
            try simp only [Act.put, List.getElem_toArray, List.getElem_cons_zero, List.getElem_cons_succ, List.setIfInBounds_toArray, List.set_cons_zero, List.set_cons_succ]
            refine wpAnyH_take (i := 6) (v := ?vx6) rfl (by kernel_rfl) (by kernel_rfl) (by kernel_rfl) (fun _ _ _ h => h) (Or.inl ⟨by kernel_rfl, ?hx6⟩) (by assumption) ?restx6
            case hx6 => intro w hSw; (try dsimp only at hSw); go_simp; (try with_reducible rfl)
            try simp only [Act.put, List.getElem_toArray, List.getElem_cons_zero, List.getElem_cons_succ, List.setIfInBounds_toArray, List.set_cons_zero, List.set_cons_succ]
            refine wpAnyH_take (i := 7) (v := ?vx7) rfl (by kernel_rfl) (by kernel_rfl) (by kernel_rfl) (fun _ _ _ h => h) (Or.inl ⟨by kernel_rfl, ?hx7⟩) (by assumption) ?restx7
            case hx7 => intro w hSw; (try dsimp only at hSw); go_simp; (try with_reducible rfl)
            try simp only [Act.put, List.getElem_toArray, List.getElem_cons_zero, List.getElem_cons_succ, List.setIfInBounds_toArray, List.set_cons_zero, List.set_cons_succ]
            refine wpAnyH_take (i := 8) (v := ?vx8) rfl (by kernel_rfl) (by kernel_rfl) (by kernel_rfl) (fun _ _ _ h => h) (Or.inl ⟨by kernel_rfl, ?hx8⟩) (by assumption) ?restx8
            case hx8 => intro w hSw; (try dsimp only at hSw); go_simp; (try with_reducible rfl)
            try simp only [Act.put, List.getElem_toArray, List.getElem_cons_zero, List.getElem_cons_succ, List.setIfInBounds_toArray, List.set_cons_zero, List.set_cons_succ]
            refine wpAnyH_take (i := 9) (v := ?vx9) rfl (by kernel_rfl) (by kernel_rfl) (by kernel_rfl) (fun _ _ _ h => h) (Or.inl ⟨by kernel_rfl, ?hx9⟩) (by assumption) ?restx9
            case hx9 => intro w hSw; (try dsimp only at hSw); go_simp; (try with_reducible rfl)
            try simp only [Act.put, List.getElem_toArray, List.getElem_cons_zero, List.getElem_cons_succ, List.setIfInBounds_toArray, List.set_cons_zero, List.set_cons_succ]
            refine wpAnyH_take (i := 10) (v := ?vx10) rfl (by kernel_rfl) (by kernel_rfl) (by kernel_rfl) (fun _ _ _ h => h) (Or.inl ⟨by kernel_rfl, ?hx10⟩) (by assumption) ?restx10
            case hx10 => intro w hSw; (try dsimp only at hSw); go_simp; (try with_reducible rfl)
            try simp only [Act.put, List.getElem_toArray, List.getElem_cons_zero, List.getElem_cons_succ, List.setIfInBounds_toArray, List.set_cons_zero, List.set_cons_succ]
            refine wpAnyH_take (i := 11) (v := ?vx11) rfl (by kernel_rfl) (by kernel_rfl) (by kernel_rfl) (fun _ _ _ h => h) (Or.inl ⟨by kernel_rfl, ?hx11⟩) (by assumption) ?restx11
            case hx11 => intro w hSw; (try dsimp only at hSw); go_simp; (try with_reducible rfl)
            try simp only [Act.put, List.getElem_toArray, List.getElem_cons_zero, List.getElem_cons_succ, List.setIfInBounds_toArray, List.set_cons_zero, List.set_cons_succ]
            refine wpAnyH_take (i := 12) (v := ?vx12) rfl (by kernel_rfl) (by kernel_rfl) (by kernel_rfl) (fun _ _ _ h => h) (Or.inl ⟨by kernel_rfl, ?hx12⟩) (by assumption) ?restx12
            case hx12 => intro w hSw; (try dsimp only at hSw); go_simp; (try with_reducible rfl)
            try simp only [Act.put, List.getElem_toArray, List.getElem_cons_zero, List.getElem_cons_succ, List.setIfInBounds_toArray, List.set_cons_zero, List.set_cons_succ]
            refine wpAnyH_done (by kernel_rfl) ?_ _
            clear hHeld
            go_wp2_with fail
            go_roundw
            case measure => simp [intOf]; omega
            case rel => exact ⟨i + 1, by go_num, by omega, HX, HA, hideIt HF.out.drew⟩
        · obtain rfl : i = 32 := by omega
          have cx := HCX.out q hq32
          have cy := HCY.out q hq32
          have HEV2 := hideIt HEV.out
          have HOD2 := hideIt HOD.out
          clear HEV HOD
          generalize (x.getD q 0).toNat = vx at *
          generalize (Y.getD q 0).toNat = vy at *
          by_cases hpar : a % 2 = 0
          · obtain ⟨k16, hk⟩ : ∃ k, vx % 16 = k := ⟨_, rfl⟩
            have hk2 := HEV2.out hpar
            rw [hk] at hk2
            have e1 : (vx : Int).tmod 16 = (k16 : Int) := by rw [Int.tmod_eq_emod_of_nonneg (by omega)]; omega
            have e2 : (vy : Int).tmod 16 = (k16 : Int) := by rw [Int.tmod_eq_emod_of_nonneg (by omega)]; omega
            have e3 : (vx : Int) % 16 = (k16 : Int) := by omega
            have e4 : (vy : Int) % 16 = (k16 : Int) := by omega
            have p1 : (a : Int).tmod 2 = 0 := by rw [Int.tmod_eq_emod_of_nonneg (by omega)]; omega
            have p2 : (a : Int) % 2 = 0 := by omega
            clear hk hk2 hpar
            go_wp2_with fail
            go_quiet (fail)
            go_wp2_with fail
            go_ret
            exact ⟨rfl, HF.out.drewN _⟩
          · obtain ⟨k16, hk⟩ : ∃ k, vx / 16 = k := ⟨_, rfl⟩
            have hk2 := HOD2.out (by omega)
            rw [hk] at hk2
            have e1 : (vx : Int).tdiv 16 = (k16 : Int) := by rw [Int.tdiv_eq_ediv_of_nonneg (by omega)]; omega
            have e2 : (vy : Int).tdiv 16 = (k16 : Int) := by rw [Int.tdiv_eq_ediv_of_nonneg (by omega)]; omega
            have e3 : (vx : Int) / 16 = (k16 : Int) := by omega
            have e4 : (vy : Int) / 16 = (k16 : Int) := by omega
            have p1 : (a : Int).tmod 2 = 1 := by rw [Int.tmod_eq_emod_of_nonneg (by omega)]; omega
            have p2 : (a : Int) % 2 = 1 := by omega
            clear hk hk2 hpar
            go_wp2_with fail
            go_quiet (fail)
            go_wp2_with fail
            go_ret
            exact ⟨rfl, HF.out.drewN _⟩
  · have hd2 : isDg c.toNat = false := by simpa using hd
    have HPR := hideIt (tx_bad x a c HLX.out ha hd2)
    have HP8 := hideIt (hparse_any ⟨(tx x a c).toArray⟩ (by show (tx x a c).toArray.size ≤ _; rw [List.size_toArray, HTL.out]; decide) W7)
    rw [show (⟨(tx x a c).toArray⟩ : ByteArray).data.toList = tx x a c from rfl, HPR.out] at HP8
    have HST := hideIt (fun w => hstops_any ⟨(tx x a c).toArray⟩ (by show (tx x a c).toArray.size ≤ _; rw [List.size_toArray, HTL.out]; decide) a HPR.out w)
    generalize tx x a c = t at *
    clear HCAT hd
    have hm := c.toNat_lt
    generalize c.toNat = m at *
    go_wp2_with fail
    refine Calls.mono HP8.out ?_
    rintro e w8 ⟨rfl, hF8⟩
    have HX8 := hideIt ((hF8.block n (Array.getElem?_eq_some_iff.1 HX7.out).1 (fun e => e)).trans HX7.out)
    have HF8 := hideIt (HF7.out.trans hF8 (fun _ _ e => e))
    clear hF8 HP8 HX7 HF7
    have HSZ := hideIt (show (bv zeros32).toArray.size = 32 from rfl)
    have HIA := hideIt (show (Tryd.prog.info? 30).map (·.size) = some (bv zeros32).toArray.size by kernel_rfl)
    have HO := hideIt (show (bv zeros32).toArray.all (·.oneCell') = true by simp [bv, Value.oneCell'])
    have HW8 := hideIt (fun W (h : W = ((w8.alloc (.cells zA 30)).alloc (.cells #[.int .i64 0, .int .i64 0] 39)).setCells w8.heap.size 0 (bv zeros32).toArray.toList) => show W.heap[w8.heap.size]? = some (.cells (bv zeros32).toArray 30 (0, 0)) ∧ W.heap[w8.heap.size + 1]? = some (.cells #[.int .i64 0, .int .i64 0] 39 (0, 0)) ∧ W.heap[n]? = some (.cells (bv x).toArray 30 (0, 0)) ∧ Fr (fun _ => False) w W by
      subst h
      have h := two_new w8 (bv zeros32).toArray HSZ.out
      exact ⟨h.1, h.2.1, (h.2.2.block n (Array.getElem?_eq_some_iff.1 HX8.out).1 (fun e => e)).trans HX8.out, HF8.out.trans h.2.2 (fun _ _ e => e)⟩)
    have hwsz8 : w.heap.size ≤ w8.heap.size := HF8.out.size
    have hnsz8 : n < w8.heap.size := (Array.getElem?_eq_some_iff.1 HX8.out).1
    have HT8 := hideIt (thereNew ((w8.alloc (.cells zA 30)).alloc (.cells #[.int .i64 0, .int .i64 0] 39)) w8.heap.size zA 30 (heap_old (heap_new rfl)) (bv zeros32).toArray.size (by rw [HSZ.out]; rfl))
    have HIF8 := hideIt (show (Tryd.prog.info? 39).map (·.size) = some (#[Value.int .i64 4, Value.int .i64 (a : Int)]).size by kernel_rfl)
    have HOF8 := hideIt (show (#[Value.int .i64 4, Value.int .i64 (a : Int)]).all (·.oneCell') = true by simp [Value.oneCell'])
    have hd3 := hd2
    unfold isDg at hd3
    simp at hd3
    by_cases b1 : m < 48
    · have d1 : (m : Int) < (48 : Int) := (by omega); have d1d : decide ((48 : Int) ≤ (m : Int)) = false := decide_eq_false (by omega)
      have d2 : (m : Int) < (97 : Int) := (by omega); have d2d : decide ((97 : Int) ≤ (m : Int)) = false := decide_eq_false (by omega)
      clear hd2 hd3 b1
      go_wp2_with (first | (refine wpList_store_abs rfl 30 (.tmp 12) (.tmp 56) rfl w8.heap.size 0 (bv zeros32).toArray rfl rfl HT8.out HIA.out HO.out ?_; intro Wa8 hWa; obtain ⟨hA, hB, hX, hF⟩ := HW8.out Wa8 hWa; have HTF8 := hideIt (thereNew Wa8 (w8.heap.size + 1) _ 39 hB (#[Value.int .i64 4, Value.int .i64 (a : Int)]).size rfl); have HW8 := hideIt (fun W (h : W = Wa8.setCells (w8.heap.size + 1) 0 (#[Value.int .i64 4, Value.int .i64 (a : Int)]).toList) => show W.heap[w8.heap.size]? = some (.cells (bv zeros32).toArray 30 (0, 0)) ∧ W.heap[w8.heap.size + 1]? = some (.cells #[.int .i64 4, .int .i64 (a : Int)] 39 (0, 0)) ∧ W.heap[n]? = some (.cells (bv x).toArray 30 (0, 0)) ∧ Fr (fun _ => False) w W by subst h; have h := two_fin Wa8 w8.heap.size (bv zeros32).toArray 4 (a : Int) hA hB; exact ⟨h.1, h.2.1, (h.2.2.block n (Array.getElem?_eq_some_iff.1 hX).1 (by omega)).trans hX, hF.trans h.2.2 (fun i hi e => by omega)⟩); clear hWa hA hB hX hF) | (refine wpList_store_abs rfl 39 (.tmp 13) (.tmp 57) rfl (w8.heap.size + 1) 0 (#[Value.int .i64 4, Value.int .i64 (a : Int)]) rfl rfl HTF8.out HIF8.out HOF8.out ?_; intro W8f hWf; obtain ⟨hA, hB, hX, hF⟩ := HW8.out W8f hWf; have HA8 := hideIt hA; have HB8 := hideIt hB; have HX8 := hideIt hX; have HF8 := hideIt hF; have HRA8 := hideIt (rangeOf hA); have HRX8 := hideIt (rangeOf hX); have c08 := cellOfHeap hB 0 (v := .int .i64 4) rfl; clear hWf hA hB hX hF HW8 HT8 HTF8 HIF8 HOF8))
      refine Calls.mono (HST.out _) ?_
      rintro e w9 ⟨rfl, hF9⟩
      have HF9 := hideIt (HF8.out.trans hF9 (fun _ _ e => e))
      go_wp2_with fail
      go_ret
      exact ⟨rfl, HF9.out⟩
    · by_cases b2 : m < 97
      · have d1 : (48 : Int) ≤ (m : Int) := by omega
        have d2 : 57 < (m : Int) := (by omega); have d2d : decide ((m : Int) ≤ 57) = false := decide_eq_false (by omega)
        have d3 : (m : Int) < (97 : Int) := (by omega); have d3d : decide ((97 : Int) ≤ (m : Int)) = false := decide_eq_false (by omega)
        clear hd2 hd3 b1 b2
        go_wp2_with (first | (refine wpList_store_abs rfl 30 (.tmp 12) (.tmp 56) rfl w8.heap.size 0 (bv zeros32).toArray rfl rfl HT8.out HIA.out HO.out ?_; intro Wa8 hWa; obtain ⟨hA, hB, hX, hF⟩ := HW8.out Wa8 hWa; have HTF8 := hideIt (thereNew Wa8 (w8.heap.size + 1) _ 39 hB (#[Value.int .i64 4, Value.int .i64 (a : Int)]).size rfl); have HW8 := hideIt (fun W (h : W = Wa8.setCells (w8.heap.size + 1) 0 (#[Value.int .i64 4, Value.int .i64 (a : Int)]).toList) => show W.heap[w8.heap.size]? = some (.cells (bv zeros32).toArray 30 (0, 0)) ∧ W.heap[w8.heap.size + 1]? = some (.cells #[.int .i64 4, .int .i64 (a : Int)] 39 (0, 0)) ∧ W.heap[n]? = some (.cells (bv x).toArray 30 (0, 0)) ∧ Fr (fun _ => False) w W by subst h; have h := two_fin Wa8 w8.heap.size (bv zeros32).toArray 4 (a : Int) hA hB; exact ⟨h.1, h.2.1, (h.2.2.block n (Array.getElem?_eq_some_iff.1 hX).1 (by omega)).trans hX, hF.trans h.2.2 (fun i hi e => by omega)⟩); clear hWa hA hB hX hF) | (refine wpList_store_abs rfl 39 (.tmp 13) (.tmp 57) rfl (w8.heap.size + 1) 0 (#[Value.int .i64 4, Value.int .i64 (a : Int)]) rfl rfl HTF8.out HIF8.out HOF8.out ?_; intro W8f hWf; obtain ⟨hA, hB, hX, hF⟩ := HW8.out W8f hWf; have HA8 := hideIt hA; have HB8 := hideIt hB; have HX8 := hideIt hX; have HF8 := hideIt hF; have HRA8 := hideIt (rangeOf hA); have HRX8 := hideIt (rangeOf hX); have c08 := cellOfHeap hB 0 (v := .int .i64 4) rfl; clear hWf hA hB hX hF HW8 HT8 HTF8 HIF8 HOF8))
        refine Calls.mono (HST.out _) ?_
        rintro e w9 ⟨rfl, hF9⟩
        have HF9 := hideIt (HF8.out.trans hF9 (fun _ _ e => e))
        go_wp2_with fail
        go_ret
        exact ⟨rfl, HF9.out⟩
      · have d1 : (48 : Int) ≤ (m : Int) := by omega
        have d2 : 57 < (m : Int) := (by omega); have d2d : decide ((m : Int) ≤ 57) = false := decide_eq_false (by omega)
        have d3 : (97 : Int) ≤ (m : Int) := by omega
        have d4 : 102 < (m : Int) := (by omega); have d4d : decide ((m : Int) ≤ 102) = false := decide_eq_false (by omega)
        clear hd2 hd3 b1 b2
        go_wp2_with (first | (refine wpList_store_abs rfl 30 (.tmp 12) (.tmp 56) rfl w8.heap.size 0 (bv zeros32).toArray rfl rfl HT8.out HIA.out HO.out ?_; intro Wa8 hWa; obtain ⟨hA, hB, hX, hF⟩ := HW8.out Wa8 hWa; have HTF8 := hideIt (thereNew Wa8 (w8.heap.size + 1) _ 39 hB (#[Value.int .i64 4, Value.int .i64 (a : Int)]).size rfl); have HW8 := hideIt (fun W (h : W = Wa8.setCells (w8.heap.size + 1) 0 (#[Value.int .i64 4, Value.int .i64 (a : Int)]).toList) => show W.heap[w8.heap.size]? = some (.cells (bv zeros32).toArray 30 (0, 0)) ∧ W.heap[w8.heap.size + 1]? = some (.cells #[.int .i64 4, .int .i64 (a : Int)] 39 (0, 0)) ∧ W.heap[n]? = some (.cells (bv x).toArray 30 (0, 0)) ∧ Fr (fun _ => False) w W by subst h; have h := two_fin Wa8 w8.heap.size (bv zeros32).toArray 4 (a : Int) hA hB; exact ⟨h.1, h.2.1, (h.2.2.block n (Array.getElem?_eq_some_iff.1 hX).1 (by omega)).trans hX, hF.trans h.2.2 (fun i hi e => by omega)⟩); clear hWa hA hB hX hF) | (refine wpList_store_abs rfl 39 (.tmp 13) (.tmp 57) rfl (w8.heap.size + 1) 0 (#[Value.int .i64 4, Value.int .i64 (a : Int)]) rfl rfl HTF8.out HIF8.out HOF8.out ?_; intro W8f hWf; obtain ⟨hA, hB, hX, hF⟩ := HW8.out W8f hWf; have HA8 := hideIt hA; have HB8 := hideIt hB; have HX8 := hideIt hX; have HF8 := hideIt hF; have HRA8 := hideIt (rangeOf hA); have HRX8 := hideIt (rangeOf hX); have c08 := cellOfHeap hB 0 (v := .int .i64 4) rfl; clear hWf hA hB hX hF HW8 HT8 HTF8 HIF8 HOF8))
        refine Calls.mono (HST.out _) ?_
        rintro e w9 ⟨rfl, hF9⟩
        have HF9 := hideIt (HF8.out.trans hF9 (fun _ _ e => e))
        go_wp2_with fail
        go_ret
        exact ⟨rfl, HF9.out⟩

end Go.Proofs.YtgnpdnkmhjocjaaDoor
