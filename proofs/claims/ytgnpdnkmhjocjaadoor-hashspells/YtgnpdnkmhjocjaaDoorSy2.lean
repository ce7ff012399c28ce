/- Package hash, the laws: texts of names, names of texts (HashSpells), walked. -/
import Derived.Test.YtgnpdnkmhjocjaaDoorSx1
import Derived.Test.YtgnpdnkmhjocjaaDoorSy1
namespace Go.Proofs.YtgnpdnkmhjocjaaDoor
open Go.RowKit Go.IntWalk
set_option linter.unusedSimpArgs false
set_option linter.unusedVariables false

theorem prs_len (l : List UInt8) : (prs l).1.length = 32 := by
  unfold prs
  split
  · rfl
  · split
    · rename_i h
      exact (pairV_get 32 l (by omega)).1
    · rfl
/-- What is stored of what Parse tells. -/
theorem two_put (w : World) (V : Array Value) (hV : V.size = 32) (W : World) (h : W = ((w.alloc (.cells zA 30)).alloc (.cells #[.int .i64 0, .int .i64 0] 39)).setCells w.heap.size 0 V.toList) : W.heap[w.heap.size]? = some (.cells V 30 (0, 0)) ∧ W.heap[w.heap.size + 1]? = some (.cells #[.int .i64 0, .int .i64 0] 39 (0, 0)) ∧ Fr (fun _ => False) w W := by
  subst h
  have hA : ((w.alloc (.cells zA 30)).alloc (.cells #[.int .i64 0, .int .i64 0] 39)).heap[w.heap.size]? = some (.cells zA 30 (0, 0)) := heap_old (heap_new rfl)
  have hB : ((w.alloc (.cells zA 30)).alloc (.cells #[.int .i64 0, .int .i64 0] 39)).heap[w.heap.size + 1]? = some (.cells #[.int .i64 0, .int .i64 0] 39 (0, 0)) := heap_new (by simp)
  have hS := store_over (V := V) hA (by rw [hV]; rfl)
  have hF : Fr (fun _ => False) w ((w.alloc (.cells zA 30)).alloc (.cells #[.int .i64 0, .int .i64 0] 39)) := ((Fr.refl _ w).alloc _).alloc _
  exact ⟨hS.1, (hS.2.block (w.heap.size + 1) (Array.getElem?_eq_some_iff.1 hB).1 (by omega)).trans hB, hF.trans hS.2 (fun i hi e => by omega)⟩
theorem two_put2 (w W1 : World) (V : Array Value) (F : Array Value) (hF2 : F.size = 2) (hA : W1.heap[w.heap.size]? = some (.cells V 30 (0, 0))) (hB : W1.heap[w.heap.size + 1]? = some (.cells #[.int .i64 0, .int .i64 0] 39 (0, 0))) (hF : Fr (fun _ => False) w W1) (W : World) (h : W = W1.setCells (w.heap.size + 1) 0 F.toList) : W.heap[w.heap.size]? = some (.cells V 30 (0, 0)) ∧ W.heap[w.heap.size + 1]? = some (.cells F 39 (0, 0)) ∧ Fr (fun _ => False) w W := by
  subst h
  have hS := store_over (V := F) hB (by rw [hF2]; rfl)
  exact ⟨(hS.2.block w.heap.size (Array.getElem?_eq_some_iff.1 hA).1 (by omega)).trans hA, hS.1, hF.trans hS.2 (fun i hi e => by omega)⟩

set_option maxRecDepth 100000 in
set_option maxHeartbeats 4000000 in
theorem hspells_any (x : List UInt8) (hx : x.length = 32) (s : ByteArray) (hs : s.size ≤ 9223372036854775807) (w : World) (hG : Glob w) : Calls Tryd.prog 4 #[.agg (bv x).toArray, .string s] w fun e w' => e = .returned (.bool true) ∧ Fr (fun _ => False) w w' := by
  obtain ⟨n, hn⟩ : ∃ n, w.heap.size = n := ⟨_, rfl⟩
  have HF0 := hideIt (show Fr (fun _ => False) w (w.alloc (.cells (bv x).toArray 30)) from (Fr.refl _ w).alloc _)
  have HX0 := hideIt (show (w.alloc (.cells (bv x).toArray 30)).heap[n]? = some (.cells (bv x).toArray 30 (0, 0)) from heap_new hn.symm)
  have HLX := hideIt hx
  have HIX := hideIt (show (Tryd.prog.info? 30).map (·.size) = some (bv x).length by rw [bv_length, hx]; kernel_rfl)
  have HG := hideIt hG
  have HN := hideIt hn
  by_cases hsz : s.size ≤ 200
  · have hsi : (s.size : Int) ≤ 200 := by omega
    have HP1 := hideIt (hparse_any s hs (w.alloc (.cells (bv x).toArray 30)))
    have HP2 := hideIt (fun w => xparse_any s hs w)
    have hYL := prs_len s.data.toList
    obtain ⟨R, hR⟩ : ∃ R, prs s.data.toList = R := ⟨_, rfl⟩
    rw [hR] at HP1 HP2 hYL
    obtain ⟨Y, ec, pos⟩ := R
    simp only at HP1 HP2 hYL
    have HIY := hideIt (show (Tryd.prog.info? 30).map (·.size) = some (bv Y).length by rw [bv_length, hYL]; kernel_rfl)
    have HVZ := hideIt (show (bv Y).toArray.size = 32 by rw [List.size_toArray, bv_length, hYL])
    have HIA := hideIt (show (Tryd.prog.info? 30).map (·.size) = some (bv Y).toArray.size by rw [HVZ.out]; kernel_rfl)
    have HO := hideIt (show (bv Y).toArray.all (·.oneCell') = true by simp [bv, Value.oneCell'])
    have HIF := hideIt (show (Tryd.prog.info? 39).map (·.size) = some (#[Value.int .i64 (ec : Int), Value.int .i64 (pos : Int)]).size by kernel_rfl)
    have HOF := hideIt (show (#[Value.int .i64 (ec : Int), Value.int .i64 (pos : Int)]).all (·.oneCell') = true by simp [Value.oneCell'])
    have HE := hideIt (fun w => show (binOp .eql 30 (.agg (bv Y).toArray) (.agg (bv Y).toArray)).run Tryd.prog w = .ok (.bool true) w by rw [ids_eql w Y Y hYL hYL]; simp)
    have HGR := hideIt (fun w (o : BinOp) (p q : Operand) => ids_grd w o p q Y Y)
    clear hR hsz hG hx hs hYL
    go_enter Tryd.func4, Tryd.ntmps4
    go_wp2_with fail
    refine Calls.mono HP1.out ?_
    rintro e w1 ⟨rfl, hF1⟩
    have HX1 := hideIt ((hF1.block n (Array.getElem?_eq_some_iff.1 HX0.out).1 (fun e => e)).trans HX0.out)
    have HF1 := hideIt (HF0.out.trans hF1 (fun _ _ e => e))
    clear hF1 HX0 HF0 HP1 hn
    have HT1 := hideIt (thereNew ((w1.alloc (.cells zA 30)).alloc (.cells #[.int .i64 0, .int .i64 0] 39)) w1.heap.size zA 30 (heap_old (heap_new rfl)) (bv Y).toArray.size (by rw [HVZ.out]; rfl))
    have HW1 := hideIt (two_put w1 (bv Y).toArray HVZ.out)
    go_wp2_with (first | (refine wpList_store_abs rfl 30 (.tmp 5) (.tmp 16) rfl w1.heap.size 0 (bv Y).toArray rfl rfl HT1.out HIA.out HO.out ?_; intro Wa hWa; obtain ⟨hA, hB, hF⟩ := HW1.out Wa hWa; have HT2 := hideIt (thereNew Wa (w1.heap.size + 1) _ 39 hB (#[Value.int .i64 (ec : Int), Value.int .i64 (pos : Int)]).size rfl); have HW2 := hideIt (two_put2 w1 Wa (bv Y).toArray #[Value.int .i64 (ec : Int), Value.int .i64 (pos : Int)] rfl hA hB hF); clear hWa hA hB hF HW1 HT1) | (refine wpList_store_abs rfl 39 (.tmp 6) (.tmp 17) rfl (w1.heap.size + 1) 0 (#[Value.int .i64 (ec : Int), Value.int .i64 (pos : Int)]) rfl rfl HT2.out HIF.out HOF.out ?_; intro W1 hWf; obtain ⟨hAA, hBB, hFF⟩ := HW2.out W1 hWf; clear hWf HW2 HT2))
    have HF1 := hideIt (HF1.out.trans hFF (fun _ _ e => e))
    have HX1 := hideIt ((hFF.block (n) (Array.getElem?_eq_some_iff.1 HX1.out).1 (fun e => e)).trans HX1.out)
    obtain ⟨qa, hqa⟩ : ∃ q, w1.heap.size = q := ⟨_, rfl⟩
    rw [hqa] at hAA hBB
    have HHqa := hideIt hqa
    have HA1 := hideIt hAA
    have HB1 := hideIt hBB
    clear hAA hBB hFF
    simp only [hqa]
    clear hqa
    refine Calls.mono (HP2.out _) ?_
    rintro e w2 ⟨rfl, hF2⟩
    have HX2 := hideIt ((hF2.block n (Array.getElem?_eq_some_iff.1 HX1.out).1 (fun e => e)).trans HX1.out)
    have HA2 := hideIt ((hF2.block qa (Array.getElem?_eq_some_iff.1 HA1.out).1 (fun e => e)).trans HA1.out)
    have HB2 := hideIt ((hF2.block (qa + 1) (Array.getElem?_eq_some_iff.1 HB1.out).1 (fun e => e)).trans HB1.out)
    have HF2 := hideIt (HF1.out.trans hF2 (fun _ _ e => e))
    clear hF2 HX1 HA1 HB1 HF1 HP2
    have HT1 := hideIt (thereNew ((w2.alloc (.cells zA 30)).alloc (.cells #[.int .i64 0, .int .i64 0] 39)) w2.heap.size zA 30 (heap_old (heap_new rfl)) (bv Y).toArray.size (by rw [HVZ.out]; rfl))
    have HW1 := hideIt (two_put w2 (bv Y).toArray HVZ.out)
    go_wp2_with (first | (refine wpList_store_abs rfl 30 (.tmp 7) (.tmp 21) rfl w2.heap.size 0 (bv Y).toArray rfl rfl HT1.out HIA.out HO.out ?_; intro Wa hWa; obtain ⟨hA, hB, hF⟩ := HW1.out Wa hWa; have HT2 := hideIt (thereNew Wa (w2.heap.size + 1) _ 39 hB (#[Value.int .i64 (ec : Int), Value.int .i64 (pos : Int)]).size rfl); have HW2 := hideIt (two_put2 w2 Wa (bv Y).toArray #[Value.int .i64 (ec : Int), Value.int .i64 (pos : Int)] rfl hA hB hF); clear hWa hA hB hF HW1 HT1) | (refine wpList_store_abs rfl 39 (.tmp 8) (.tmp 22) rfl (w2.heap.size + 1) 0 (#[Value.int .i64 (ec : Int), Value.int .i64 (pos : Int)]) rfl rfl HT2.out HIF.out HOF.out ?_; intro W3 hWf; obtain ⟨hAA, hBB, hFF⟩ := HW2.out W3 hWf; clear hWf HW2 HT2))
    have HF3 := hideIt (HF2.out.trans hFF (fun _ _ e => e))
    have HX3 := hideIt ((hFF.block (n) (Array.getElem?_eq_some_iff.1 HX2.out).1 (fun e => e)).trans HX2.out); have HA3 := hideIt ((hFF.block (qa) (Array.getElem?_eq_some_iff.1 HA2.out).1 (fun e => e)).trans HA2.out); have HB3 := hideIt ((hFF.block (qa + 1) (Array.getElem?_eq_some_iff.1 HB2.out).1 (fun e => e)).trans HB2.out)
    obtain ⟨qb, hqb⟩ : ∃ q, w2.heap.size = q := ⟨_, rfl⟩
    rw [hqb] at hAA hBB
    have HHqb := hideIt hqb
    have HC3 := hideIt hAA
    have HD3 := hideIt hBB
    clear hAA hBB hFF HX2 HA2 HB2 HF2
    simp only [hqb]
    clear hqb
    have HIF2 := hideIt (show (Tryd.prog.info? 39).map (·.size) = some ([Value.int .i64 (ec : Int), Value.int .i64 (pos : Int)]).length by kernel_rfl)
    refine wp_region_held_drew (S := (fun w' => w'.heap[n]? = some (.cells (bv x).toArray 30 (0, 0)) ∧ w'.heap[qa]? = some (.cells (bv Y).toArray 30 (0, 0)) ∧ w'.heap[qa + 1]? = some (.cells #[Value.int .i64 (ec : Int), Value.int .i64 (pos : Int)] 39 (0, 0)) ∧ w'.heap[qb]? = some (.cells (bv Y).toArray 30 (0, 0)) ∧ w'.heap[qb + 1]? = some (.cells #[Value.int .i64 (ec : Int), Value.int .i64 (pos : Int)] 39 (0, 0)) ∧ Fr (fun _ => False) w w')) (by kernel_rfl) ?_ (fun hHeld => ?_)
    · exact ⟨HX3.out, HA3.out, HB3.out, HC3.out, HD3.out, HF3.out.drew⟩
    refine wpAnyH_take (i := 0) (v := (.agg (bv x).toArray)) rfl (by kernel_rfl) (by kernel_rfl) (by kernel_rfl) (fun _ _ _ h => h) (Or.inl ⟨by kernel_rfl, fun w0 hSw => yields_load_mid 30 (.tmp 2) rfl n 0 rfl (bv x) _ (rangeOf hSw.1) Tryd.underlying30 rfl HIX.out⟩) (by assumption) ?_
    try simp only [Act.put, List.getElem_toArray, List.getElem_cons_zero, List.getElem_cons_succ, List.setIfInBounds_toArray, List.set_cons_zero, List.set_cons_succ]
    refine wpAnyH_take (i := 2) (v := (.agg (bv x).toArray)) rfl (by kernel_rfl) (by kernel_rfl) (by kernel_rfl) (fun _ _ _ h => h) (Or.inl ⟨by kernel_rfl, fun w0 hSw => yields_load_mid 30 (.tmp 2) rfl n 0 rfl (bv x) _ (rangeOf hSw.1) Tryd.underlying30 rfl HIX.out⟩) (by assumption) ?_
    try simp only [Act.put, List.getElem_toArray, List.getElem_cons_zero, List.getElem_cons_succ, List.setIfInBounds_toArray, List.set_cons_zero, List.set_cons_succ]
    refine wpAnyH_ready (rs := [1]) (by kernel_rfl) (by simp) ?_
    refine AllReadyH.cons rfl (fun K hK => ?_) AllReadyH.nil
    go_simp
    refine Calls.mono (htext_any x HLX.out _) ?_
    rintro e u4 ⟨rfl, hF4⟩
    refine hK.out _ _ ?_ (fun hHeld => ?_)
    · exact ⟨(hF4.block (n) (Array.getElem?_eq_some_iff.1 hHeld.1).1 (fun e => e)).trans hHeld.1, (hF4.block (qa) (Array.getElem?_eq_some_iff.1 hHeld.2.1).1 (fun e => e)).trans hHeld.2.1, (hF4.block (qa + 1) (Array.getElem?_eq_some_iff.1 hHeld.2.2.1).1 (fun e => e)).trans hHeld.2.2.1, (hF4.block (qb) (Array.getElem?_eq_some_iff.1 hHeld.2.2.2.1).1 (fun e => e)).trans hHeld.2.2.2.1, (hF4.block (qb + 1) (Array.getElem?_eq_some_iff.1 hHeld.2.2.2.2.1).1 (fun e => e)).trans hHeld.2.2.2.2.1, hHeld.2.2.2.2.2.trans hF4 (fun _ _ e => e)⟩
    clear hK K
    try simp only [Act.put, List.getElem_toArray, List.getElem_cons_zero, List.getElem_cons_succ, List.setIfInBounds_toArray, List.set_cons_zero, List.set_cons_succ]
    refine wpAnyH_ready (rs := [3]) (by kernel_rfl) (by simp) ?_
    refine AllReadyH.cons rfl (fun K hK => ?_) AllReadyH.nil
    go_simp
    refine Calls.mono (xtext_hash x HLX.out _) ?_
    rintro e u5 ⟨rfl, hF5⟩
    refine hK.out _ _ ?_ (fun hHeld => ?_)
    · exact ⟨(hF5.block (n) (Array.getElem?_eq_some_iff.1 hHeld.1).1 (fun e => e)).trans hHeld.1, (hF5.block (qa) (Array.getElem?_eq_some_iff.1 hHeld.2.1).1 (fun e => e)).trans hHeld.2.1, (hF5.block (qa + 1) (Array.getElem?_eq_some_iff.1 hHeld.2.2.1).1 (fun e => e)).trans hHeld.2.2.1, (hF5.block (qb) (Array.getElem?_eq_some_iff.1 hHeld.2.2.2.1).1 (fun e => e)).trans hHeld.2.2.2.1, (hF5.block (qb + 1) (Array.getElem?_eq_some_iff.1 hHeld.2.2.2.2.1).1 (fun e => e)).trans hHeld.2.2.2.2.1, hHeld.2.2.2.2.2.trans hF5 (fun _ _ e => e)⟩
    clear hK K
    try simp only [Act.put, List.getElem_toArray, List.getElem_cons_zero, List.getElem_cons_succ, List.setIfInBounds_toArray, List.set_cons_zero, List.set_cons_succ]
    refine wpAnyH_take (i := 4) (v := .bool true) rfl (by kernel_rfl) (by kernel_rfl) (by kernel_rfl) (fun _ _ _ h => h) (Or.inl ⟨by kernel_rfl, fun w0 hSw => by go_simp⟩) (by assumption) ?_
    try simp only [Act.put, List.getElem_toArray, List.getElem_cons_zero, List.getElem_cons_succ, List.setIfInBounds_toArray, List.set_cons_zero, List.set_cons_succ]
    refine wpAnyH_take (i := 5) (v := ?v1) rfl (by kernel_rfl) (by kernel_rfl) (by kernel_rfl) (fun _ _ _ h => h) (Or.inl ⟨by kernel_rfl, ?hy1⟩) (by assumption) ?rest1
    case hy1 => intro w hSw; (try dsimp only at hSw); go_simp; (try with_reducible rfl)
    try simp only [Act.put, List.getElem_toArray, List.getElem_cons_zero, List.getElem_cons_succ, List.setIfInBounds_toArray, List.set_cons_zero, List.set_cons_succ]
    refine wpAnyH_take (i := 6) (v := (.agg (bv Y).toArray)) rfl (by kernel_rfl) (by kernel_rfl) (by kernel_rfl) (fun _ _ _ h => h) (Or.inl ⟨by kernel_rfl, fun w0 hSw => yields_load_mid 30 (.tmp 5) rfl (qa) 0 rfl (bv Y) _ (rangeOf hSw.2.1) Tryd.underlying30 rfl HIY.out⟩) (by assumption) ?_
    try simp only [Act.put, List.getElem_toArray, List.getElem_cons_zero, List.getElem_cons_succ, List.setIfInBounds_toArray, List.set_cons_zero, List.set_cons_succ]
    refine wpAnyH_take (i := 7) (v := (.agg (bv Y).toArray)) rfl (by kernel_rfl) (by kernel_rfl) (by kernel_rfl) (fun _ _ _ h => h) (Or.inl ⟨by kernel_rfl, fun w0 hSw => yields_load_mid 30 (.tmp 7) rfl (qb) 0 rfl (bv Y) _ (rangeOf hSw.2.2.2.1) Tryd.underlying30 rfl HIY.out⟩) (by assumption) ?_
    try simp only [Act.put, List.getElem_toArray, List.getElem_cons_zero, List.getElem_cons_succ, List.setIfInBounds_toArray, List.set_cons_zero, List.set_cons_succ]
    refine wpAnyH_take (i := 8) (v := .bool true) rfl (by kernel_rfl) (by kernel_rfl) (by kernel_rfl) (fun _ _ _ h => h) (Or.inl ⟨by kernel_rfl, fun w0 hSw => yields_bin .eql 30 _ (.tmp 29) (.tmp 30) rfl _ _ _ rfl rfl (HE.out _) (HGR.out _ .eql (.tmp 29) (.tmp 30))⟩) (by assumption) ?_
    try simp only [Act.put, List.getElem_toArray, List.getElem_cons_zero, List.getElem_cons_succ, List.setIfInBounds_toArray, List.set_cons_zero, List.set_cons_succ]
    refine wpAnyH_take (i := 9) (v := ?v2) rfl (by kernel_rfl) (by kernel_rfl) (by kernel_rfl) (fun _ _ _ h => h) (Or.inl ⟨by kernel_rfl, ?hy2⟩) (by assumption) ?rest2
    case hy2 => intro w hSw; (try dsimp only at hSw); go_simp; (try with_reducible rfl)
    try simp only [Act.put, List.getElem_toArray, List.getElem_cons_zero, List.getElem_cons_succ, List.setIfInBounds_toArray, List.set_cons_zero, List.set_cons_succ]
    refine wpAnyH_take (i := 10) (v := ?v3) rfl (by kernel_rfl) (by kernel_rfl) (by kernel_rfl) (fun _ _ _ h => h) (Or.inl ⟨by kernel_rfl, ?hy3⟩) (by assumption) ?rest3
    case hy3 => intro w hSw; (try dsimp only at hSw); go_simp; (try with_reducible rfl)
    try simp only [Act.put, List.getElem_toArray, List.getElem_cons_zero, List.getElem_cons_succ, List.setIfInBounds_toArray, List.set_cons_zero, List.set_cons_succ]
    refine wpAnyH_take (i := 11) (v := (.agg #[Value.int .i64 (ec : Int), Value.int .i64 (pos : Int)])) rfl (by kernel_rfl) (by kernel_rfl) (by kernel_rfl) (fun _ _ _ h => h) (Or.inl ⟨by kernel_rfl, fun w0 hSw => yields_load_mid 39 (.tmp 6) rfl (qa + 1) 0 rfl [Value.int .i64 (ec : Int), Value.int .i64 (pos : Int)] _ (rangeOf hSw.2.2.1) Tryd.underlying39 rfl HIF2.out⟩) (by assumption) ?_
    try simp only [Act.put, List.getElem_toArray, List.getElem_cons_zero, List.getElem_cons_succ, List.setIfInBounds_toArray, List.set_cons_zero, List.set_cons_succ]
    refine wpAnyH_take (i := 12) (v := (.agg #[Value.int .i64 (ec : Int), Value.int .i64 (pos : Int)])) rfl (by kernel_rfl) (by kernel_rfl) (by kernel_rfl) (fun _ _ _ h => h) (Or.inl ⟨by kernel_rfl, fun w0 hSw => yields_load_mid 39 (.tmp 8) rfl (qb + 1) 0 rfl [Value.int .i64 (ec : Int), Value.int .i64 (pos : Int)] _ (rangeOf hSw.2.2.2.2.1) Tryd.underlying39 rfl HIF2.out⟩) (by assumption) ?_
    try simp only [Act.put, List.getElem_toArray, List.getElem_cons_zero, List.getElem_cons_succ, List.setIfInBounds_toArray, List.set_cons_zero, List.set_cons_succ]
    refine wpAnyH_take (i := 13) (v := .bool true) rfl (by kernel_rfl) (by kernel_rfl) (by kernel_rfl) (fun _ _ _ h => h) (Or.inl ⟨by kernel_rfl, fun w0 hSw => by go_simp⟩) (by assumption) ?_
    try simp only [Act.put, List.getElem_toArray, List.getElem_cons_zero, List.getElem_cons_succ, List.setIfInBounds_toArray, List.set_cons_zero, List.set_cons_succ]
    refine wpAnyH_take (i := 14) (v := ?v4) rfl (by kernel_rfl) (by kernel_rfl) (by kernel_rfl) (fun _ _ _ h => h) (Or.inl ⟨by kernel_rfl, ?hy4⟩) (by assumption) ?rest4
    case hy4 => intro w hSw; (try dsimp only at hSw); go_simp; (try with_reducible rfl)
    try simp only [Act.put, List.getElem_toArray, List.getElem_cons_zero, List.getElem_cons_succ, List.setIfInBounds_toArray, List.set_cons_zero, List.set_cons_succ]
    refine wpAnyH_take (i := 15) (v := ?v5) rfl (by kernel_rfl) (by kernel_rfl) (by kernel_rfl) (fun _ _ _ h => h) (Or.inl ⟨by kernel_rfl, ?hy5⟩) (by assumption) ?rest5
    case hy5 => intro w hSw; (try dsimp only at hSw); go_simp; (try with_reducible rfl)
    try simp only [Act.put, List.getElem_toArray, List.getElem_cons_zero, List.getElem_cons_succ, List.setIfInBounds_toArray, List.set_cons_zero, List.set_cons_succ]
    refine wpAnyH_ready (rs := [16]) (by kernel_rfl) (by simp) ?_
    refine AllReadyH.cons rfl (fun K hK => ?_) AllReadyH.nil
    go_simp
    refine Calls.mono (hawake_any _ (HG.out.fr0 hHeld.2.2.2.2.2)) ?_
    rintro e u6 ⟨rfl, hF6⟩
    refine hK.out _ _ ?_ (fun hHeld => ?_)
    · exact ⟨(hF6.block (n) (Array.getElem?_eq_some_iff.1 hHeld.1).1 (fun e => e)).trans hHeld.1, (hF6.block (qa) (Array.getElem?_eq_some_iff.1 hHeld.2.1).1 (fun e => e)).trans hHeld.2.1, (hF6.block (qa + 1) (Array.getElem?_eq_some_iff.1 hHeld.2.2.1).1 (fun e => e)).trans hHeld.2.2.1, (hF6.block (qb) (Array.getElem?_eq_some_iff.1 hHeld.2.2.2.1).1 (fun e => e)).trans hHeld.2.2.2.1, (hF6.block (qb + 1) (Array.getElem?_eq_some_iff.1 hHeld.2.2.2.2.1).1 (fun e => e)).trans hHeld.2.2.2.2.1, hHeld.2.2.2.2.2.trans hF6 (fun _ _ e => e)⟩
    clear hK K
    try simp only [Act.put, List.getElem_toArray, List.getElem_cons_zero, List.getElem_cons_succ, List.setIfInBounds_toArray, List.set_cons_zero, List.set_cons_succ]
    refine wpAnyH_take (i := 17) (v := ?v6) rfl (by kernel_rfl) (by kernel_rfl) (by kernel_rfl) (fun _ _ _ h => h) (Or.inl ⟨by kernel_rfl, ?hy6⟩) (by assumption) ?rest6
    case hy6 => intro w hSw; (try dsimp only at hSw); go_simp; (try with_reducible rfl)
    try simp only [Act.put, List.getElem_toArray, List.getElem_cons_zero, List.getElem_cons_succ, List.setIfInBounds_toArray, List.set_cons_zero, List.set_cons_succ]
    refine wpAnyH_take (i := 18) (v := ?v7) rfl (by kernel_rfl) (by kernel_rfl) (by kernel_rfl) (fun _ _ _ h => h) (Or.inl ⟨by kernel_rfl, ?hy7⟩) (by assumption) ?rest7
    case hy7 => intro w hSw; (try dsimp only at hSw); go_simp; (try with_reducible rfl)
    try simp only [Act.put, List.getElem_toArray, List.getElem_cons_zero, List.getElem_cons_succ, List.setIfInBounds_toArray, List.set_cons_zero, List.set_cons_succ]
    refine wpAnyH_done (by kernel_rfl) ?_ _
    have HF9 := hideIt hHeld.2.2.2.2.2
    clear hHeld hF4 hF5 hF6
    go_wp2_with fail
    go_ret
    exact ⟨rfl, HF9.out⟩
  · have hsi : (200 : Int) < (s.size : Int) := by omega
    have HK := hideIt (hawake_any (w.alloc (.cells (bv x).toArray 30)) (hG.fr0 HF0.out))
    clear hsz hG hx hs
    go_enter Tryd.func4, Tryd.ntmps4
    go_wp2_with fail
    refine Calls.mono HK.out ?_
    rintro e w1 ⟨rfl, hF1⟩
    have HF1 := hideIt (HF0.out.trans hF1 (fun _ _ e => e))
    go_wp2_with fail
    go_ret
    exact ⟨rfl, HF1.out⟩

end Go.Proofs.YtgnpdnkmhjocjaaDoor
