/- Package hash, the laws: the order of names (HashRank), walked. -/
import Derived.Test.YtgnpdnkmhjocjabDoorSx1
import Derived.Test.YtgnpdnkmhjocjabDoorSv0
import Derived.Sort.Walk0
import Derived.BigQuiet
import Derived.Deep.QuietTactic
namespace Go.Proofs.YtgnpdnkmhjocjabDoor
open Go.RowKit Go.IntWalk
set_option linter.unusedSimpArgs false
set_option linter.unusedVariables false

set_option maxRecDepth 100000 in
set_option maxHeartbeats 4000000 in
theorem hrank_any (x y : List UInt8) (hx : x.length = 32) (hy : y.length = 32) (w : World) (hG : Glob w) : Calls Tryd.prog 3 #[.agg (bv x).toArray, .agg (bv y).toArray] w fun e w' => e = .returned (.bool true) ∧ Fr (fun _ => False) w w' := by
  obtain ⟨n, hn⟩ : ∃ n, w.heap.size = n := ⟨_, rfl⟩
  have HF0 := hideIt (show Fr (fun _ => False) w ((w.alloc (.cells (bv x).toArray 23)).alloc (.cells (bv y).toArray 23)) from ((Fr.refl _ w).alloc _).alloc _)
  have HX0 := hideIt (show ((w.alloc (.cells (bv x).toArray 23)).alloc (.cells (bv y).toArray 23)).heap[n]? = some (.cells (bv x).toArray 23 (0, 0)) from heap_old (heap_new hn.symm))
  have HY0 := hideIt (show ((w.alloc (.cells (bv x).toArray 23)).alloc (.cells (bv y).toArray 23)).heap[n + 1]? = some (.cells (bv y).toArray 23 (0, 0)) from heap_new (by simp [hn]))
  have HK := hideIt (hawake_any ((w.alloc (.cells (bv x).toArray 23)).alloc (.cells (bv y).toArray 23)) (hG.fr0 HF0.out))
  have HLX := hideIt hx
  have HLY := hideIt hy
  have HIX := hideIt (show (Tryd.prog.info? 23).map (·.size) = some (bv x).length by rw [bv_length, hx]; kernel_rfl)
  have HIY := hideIt (show (Tryd.prog.info? 23).map (·.size) = some (bv y).length by rw [bv_length, hy]; kernel_rfl)
  have HEQ := hideIt (fun w => ids_eql w x y hx hy)
  have HGR := hideIt (fun w (o : BinOp) (p q : Operand) => ids_grd w o p q x y)
  have HLT := hideIt (show Op.bytesLess (hexL x) (hexL y) = decide (x < y) by rw [bytesLess_eq]; exact decide_eq_decide.2 (hex_lt x y (by omega)))
  have HXL := hideIt (show (hexL x == hexL y) = (x == y) by
    by_cases h : x = y
    · subst h; simp
    · have h2 : ¬ hexL x = hexL y := fun e => h ((hex_inj x y (by omega)).1 e)
      rw [beq_eq_false_iff_ne.2 h, beq_eq_false_iff_ne.2 h2])
  clear hG hx hy
  go_enter Tryd.func3, Tryd.ntmps3
  go_wp2_with fail
  refine Calls.mono HK.out ?_
  rintro e w1 ⟨rfl, hF1⟩
  have HX1 := hideIt ((hF1.block n (Array.getElem?_eq_some_iff.1 HX0.out).1 (fun e => e)).trans HX0.out)
  have HY1 := hideIt ((hF1.block (n + 1) (Array.getElem?_eq_some_iff.1 HY0.out).1 (fun e => e)).trans HY0.out)
  have HF1 := hideIt (HF0.out.trans hF1 (fun _ _ e => e))
  have HN := hideIt hn
  clear hF1 HX0 HY0 HF0 HK hn
  go_wp2_with fail
  go_loopw [6, 7] (fun s6 s7 wr => ∃ (k : Nat) (b : Bool) (z : Int), s6 = .bool b ∧ s7 = .int .i64 z ∧ k ≤ 32 ∧ Hid (z = (k : Int) - 1) ∧ Hid (b = decide (x.drop k < y.drop k)) ∧ Hid (wr.heap[n]? = some (.cells (bv x).toArray 23 (0, 0))) ∧ Hid (wr.heap[n + 1]? = some (.cells (bv y).toArray 23 (0, 0))) ∧ Hid (Fr (fun _ => False) w wr)) (fun _ s7 _ => ((intOf s7) + 1).toNat)
  case atStart => exact ⟨32, false, 31, rfl, rfl, by omega, hideIt rfl, hideIt (by rw [List.drop_of_length_le (by rw [HLX.out]; omega), List.drop_of_length_le (by rw [HLY.out]; omega)]; rfl), HX1, HY1, HF1⟩
  case round =>
    clear HX1 HY1 HF1
    obtain ⟨k, b, z, rfl, rfl, hk, HZ, HB, HX, HY, HF⟩ := hrel
    by_cases h0 : 0 < k
    · obtain ⟨i, rfl⟩ : ∃ i, k = i + 1 := ⟨k - 1, by omega⟩
      obtain rfl : z = (i : Int) := by rw [HZ.out]; omega
      have hi : i < 32 := by omega
      have hi2 : (i : Int) < 32 := by omega
      have cx : wr.cell? ⟨n, i, none⟩ = some (.int .u8 ((x.getD i 0).toNat : Int)) := cellOfHeap HX.out i (by have := HLX.out; have h : i < x.length := by omega
                                                                                                              simp [bv, List.getD, h])
      have cy : wr.cell? ⟨n + 1, i, none⟩ = some (.int .u8 ((y.getD i 0).toNat : Int)) := cellOfHeap HY.out i (by have := HLY.out; have h : i < y.length := by omega
                                                                                                                  simp [bv, List.getD, h])
      have HST := hideIt (lex_step x y i (by rw [HLX.out]; exact hi) (by rw [HLY.out]; exact hi))
      have HUL := hideIt (UInt8.lt_iff_toNat_lt (a := x.getD i 0) (b := y.getD i 0))
      have HUE := hideIt (UInt8.toNat_inj (a := x.getD i 0) (b := y.getD i 0))
      generalize x.getD i 0 = p at *
      generalize y.getD i 0 = q at *
      have hwi : IntKind.i64.wrap ((i : Int) - 1) = (i : Int) - 1 := by rw [IntKind.wrap_i64]; omega
      clear h0 hk
      by_cases hpq : p.toNat = q.toNat
      · have hpi : (p.toNat : Int) = (q.toNat : Int) := by omega
        have HB2 := hideIt (show b = decide (x.drop i < y.drop i) by rw [HST.out, if_pos (HUE.out.1 hpq)]; exact HB.out)
        clear HB HZ
        go_wp2_with fail
        go_quiet (fail)
        go_wp2_with fail
        go_roundw
        case measure => simp [intOf]
        case rel => exact ⟨i, b, _, rfl, rfl, by omega, hideIt rfl, HB2, HX, HY, hideIt (HF.out.drewN _)⟩
      · have hpi : ¬ (p.toNat : Int) = (q.toNat : Int) := by omega
        have HB2 := hideIt (show decide (p.toNat < q.toNat) = decide (x.drop i < y.drop i) by
          rw [HST.out, if_neg (fun e => hpq (HUE.out.2 e))]
          refine decide_eq_decide.2 ⟨fun h => HUL.out.2 h, fun h => ?_⟩
          exact HUL.out.1 h)
        clear HB HZ
        go_wp2_with fail
        go_quiet (fail)
        go_wp2_with fail
        go_quiet (fail)
        go_wp2_with fail
        go_roundw
        case measure => simp [intOf]
        case rel => exact ⟨i, _, _, rfl, rfl, by omega, hideIt rfl, HB2, HX, HY, hideIt (HF.out.drewN _)⟩
    · obtain rfl : k = 0 := by omega
      obtain rfl : z = -1 := HZ.out
      have HB2 := hideIt (show b = decide (x < y) from HB.out)
      clear HB HZ hk h0
      go_wp2_with fail
      refine wp_region_held_drew (S := (fun w' => w'.heap[n]? = some (.cells (bv x).toArray 23 (0, 0)) ∧ w'.heap[n + 1]? = some (.cells (bv y).toArray 23 (0, 0)) ∧ Fr (fun _ => False) wr w')) (by kernel_rfl) ?_ (fun hHeld => ?_)
      · exact ⟨HX.out, HY.out, (Fr.refl _ _).drew⟩
      refine wpAnyH_take (i := 0) (v := (.agg (bv x).toArray)) rfl (by kernel_rfl) (by kernel_rfl) (by kernel_rfl) (fun _ _ _ h => h) (Or.inl ⟨by kernel_rfl, fun w0 hSw => yields_load_mid 23 (.tmp 2) rfl (n) 0 rfl (bv x) _ (rangeOf hSw.1) Tryd.underlying23 rfl HIX.out⟩) (by assumption) ?_
      try simp only [Act.put, List.getElem_toArray, List.getElem_cons_zero, List.getElem_cons_succ, List.setIfInBounds_toArray, List.set_cons_zero, List.set_cons_succ]
      refine wpAnyH_take (i := 2) (v := (.agg (bv y).toArray)) rfl (by kernel_rfl) (by kernel_rfl) (by kernel_rfl) (fun _ _ _ h => h) (Or.inl ⟨by kernel_rfl, fun w0 hSw => yields_load_mid 23 (.tmp 3) rfl (n + 1) 0 rfl (bv y) _ (rangeOf hSw.2.1) Tryd.underlying23 rfl HIY.out⟩) (by assumption) ?_
      try simp only [Act.put, List.getElem_toArray, List.getElem_cons_zero, List.getElem_cons_succ, List.setIfInBounds_toArray, List.set_cons_zero, List.set_cons_succ]
      refine wpAnyH_ready (rs := [1]) (by kernel_rfl) (by simp) ?_
      refine AllReadyH.cons rfl (fun K hK => ?_) AllReadyH.nil
      go_simp
      refine Calls.mono (htext_any x HLX.out _) ?_
      rintro e w3 ⟨rfl, hF3⟩
      have hW3 : Fr (fun _ => False) wr w3 := hHeld.2.2.trans hF3 (fun _ _ e => e)
      refine hK.out _ _ ?_ (fun hHeld => ?_)
      · exact ⟨(hW3.block n (Array.getElem?_eq_some_iff.1 HX.out).1 (fun e => e)).trans HX.out, (hW3.block (n + 1) (Array.getElem?_eq_some_iff.1 HY.out).1 (fun e => e)).trans HY.out, hW3⟩
      clear hK K
      try simp only [Act.put, List.getElem_toArray, List.getElem_cons_zero, List.getElem_cons_succ, List.setIfInBounds_toArray, List.set_cons_zero, List.set_cons_succ]
      refine wpAnyH_ready (rs := [3]) (by kernel_rfl) (by simp) ?_
      refine AllReadyH.cons rfl (fun K hK => ?_) AllReadyH.nil
      go_simp
      refine Calls.mono (htext_any y HLY.out _) ?_
      rintro e w4 ⟨rfl, hF4⟩
      have hW4 : Fr (fun _ => False) wr w4 := hHeld.2.2.trans hF4 (fun _ _ e => e)
      refine hK.out _ _ ?_ (fun hHeld => ?_)
      · exact ⟨(hW4.block n (Array.getElem?_eq_some_iff.1 HX.out).1 (fun e => e)).trans HX.out, (hW4.block (n + 1) (Array.getElem?_eq_some_iff.1 HY.out).1 (fun e => e)).trans HY.out, hW4⟩
      clear hK K
      try simp only [Act.put, List.getElem_toArray, List.getElem_cons_zero, List.getElem_cons_succ, List.setIfInBounds_toArray, List.set_cons_zero, List.set_cons_succ]
      refine wpAnyH_take (i := 4) (v := ?v1) rfl (by kernel_rfl) (by kernel_rfl) (by kernel_rfl) (fun _ _ _ h => h) (Or.inl ⟨by kernel_rfl, ?hy1⟩) (by assumption) ?rest1
      case hy1 => intro w hSw; (try dsimp only at hSw); go_simp; (try with_reducible rfl)
      try simp only [Act.put, List.getElem_toArray, List.getElem_cons_zero, List.getElem_cons_succ, List.setIfInBounds_toArray, List.set_cons_zero, List.set_cons_succ]
      refine wpAnyH_take (i := 5) (v := ?v2) rfl (by kernel_rfl) (by kernel_rfl) (by kernel_rfl) (fun _ _ _ h => h) (Or.inl ⟨by kernel_rfl, ?hy2⟩) (by assumption) ?rest2
      case hy2 => intro w hSw; (try dsimp only at hSw); go_simp; (try with_reducible rfl)
      try simp only [Act.put, List.getElem_toArray, List.getElem_cons_zero, List.getElem_cons_succ, List.setIfInBounds_toArray, List.set_cons_zero, List.set_cons_succ]
      refine wpAnyH_done (by kernel_rfl) ?_ _
      have HX4 := hideIt hHeld.1
      have HY4 := hideIt hHeld.2.1
      have HF4 := hideIt (HF.out.trans hHeld.2.2 (fun _ _ e => e))
      clear hHeld hW3 hW4 hF3 hF4 HX HY HF
      have HRX := hideIt (rangeOf HX4.out)
      have HRY := hideIt (rangeOf HY4.out)
      have hbl := HLT.out
      have hxl := HXL.out
      rw [← HB2.out] at hbl
      go_wp2_with (first | (refine wpList_load_want (by rfl) 23 (.tmp 2) rfl n 0 rfl (bv x) _ HRX.out Tryd.underlying23 rfl HIX.out ?_) | (refine wpList_load_want (by rfl) 23 (.tmp 3) rfl (n + 1) 0 rfl (bv y) _ HRY.out Tryd.underlying23 rfl HIY.out ?_) | (refine wpList_bin_want (by rfl) .eql 23 23 (.tmp 45) (.tmp 46) rfl (.agg (bv x).toArray) (.agg (bv y).toArray) (.bool (x == y)) rfl rfl (HEQ.out _) (HGR.out _ .eql (.tmp 45) (.tmp 46)) ?_))
      go_ret
      exact ⟨rfl, HF4.out⟩

end Go.Proofs.YtgnpdnkmhjocjabDoor
