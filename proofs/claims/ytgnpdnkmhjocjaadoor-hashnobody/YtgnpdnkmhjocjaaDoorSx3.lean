/- Package hash, the laws: who is none (HashNobody), walked. -/
import Derived.Test.YtgnpdnkmhjocjaaDoorSx2
namespace Go.Proofs.YtgnpdnkmhjocjaaDoor
open Go.RowKit Go.IntWalk
set_option linter.unusedSimpArgs false
set_option linter.unusedVariables false

set_option maxRecDepth 100000 in
theorem built_zero : Tryd.prog.built 50 [] = some zD := by kernel_rfl

set_option maxRecDepth 100000 in
set_option maxHeartbeats 4000000 in
theorem hnobody_any (ao : Option Addr) (len cap : Nat) (w : World) (hG : Glob w) : Calls Tryd.prog 5 #[.slice ao len cap] w fun e w' => e = .returned (.bool true) ∧ Fr (fun _ => False) w w' := by
  have HG := hideIt hG
  have HBZ := hideIt built_zero
  obtain ⟨n, hn⟩ : ∃ n, w.heap.size = n := ⟨_, rfl⟩
  have HA0 := hideIt (show ((w.alloc (.cells zD 50)).alloc (.cells #[.pointer none, .pointer (some ⟨n, 0, none⟩)] 23)).heap[n]? = some (.cells zD 50 (0, 0)) from heap_old (heap_new hn.symm))
  have HB0 := hideIt (show ((w.alloc (.cells zD 50)).alloc (.cells #[.pointer none, .pointer (some ⟨n, 0, none⟩)] 23)).heap[n + 1]? = some (.cells #[.pointer none, .pointer (some ⟨n, 0, none⟩)] 23 (0, 0)) from by rw [← hn]; exact heap_new (by simp))
  have HF0 := hideIt (show Fr (fun _ => False) w ((w.alloc (.cells zD 50)).alloc (.cells #[.pointer none, .pointer (some ⟨n, 0, none⟩)] 23)) from ((Fr.refl _ w).alloc _).alloc _)
  have heq : ∀ w : World, (binOp .neq 30 (.agg zA) (.agg zA)).run Tryd.prog w = .ok (.bool false) w := fun w => ids_neq w zeros32 zeros32 rfl rfl
  have HN := hideIt hn
  clear hG
  go_enter Tryd.func5, Tryd.ntmps5
  go_wp2_with (first | (refine wpList_build_eq rfl 50 #[] rfl [] (by simp [Act.eval, Act.put]) zD HBZ.out ?_))
  go_loopw [5] (fun s5 wr => ∃ i : Nat, s5 = .int .i64 i ∧ i ≤ 2 ∧ Hid (wr.heap[n]? = some (.cells zD 50 (0, 0))) ∧ Hid (wr.heap[n + 1]? = some (.cells #[.pointer none, .pointer (some ⟨n, 0, none⟩)] 23 (0, 0))) ∧ Hid (Fr (fun _ => False) w wr)) (fun s5 _ => 2 - (intOf s5).toNat)
  case atStart => exact ⟨0, rfl, by omega, HA0, HB0, HF0⟩
  case round =>
    clear HA0 HB0 HF0
    obtain ⟨i, rfl, hi2, HA, HB, HF⟩ := hrel
    have fin : ∀ W, Hid (Fr (fun _ => False) w W) → Calls Tryd.prog 11 #[] W fun e w' => e = .returned (.bool true) ∧ Fr (fun _ => False) W w' := fun W hW => hawake_any W (HG.out.fr0 hW.out)
    by_cases hlt : i < 2
    · by_cases hb : len ≤ 200
      · have hbi : (len : Int) ≤ 200 := by omega
        have hix : (i : Int) < 2 := by omega
        obtain ⟨P, hP, HNB⟩ : ∃ P, wr.cell? ⟨n + 1, i, none⟩ = some (.pointer P) ∧ Hid (NoB P wr) := by
          obtain rfl | rfl : i = 0 ∨ i = 1 := by omega
          · exact ⟨none, cellOfHeap HB.out 0 rfl, nob_nil wr⟩
          · exact ⟨some ⟨n, 0, none⟩, cellOfHeap HB.out 1 rfl, nob_zero n wr (cellOfHeap HA.out 0 rfl)⟩
        have HW := hideIt (dwrite_no P (.slice ao len cap) wr HNB.out)
        have HL := hideIt (dlen_no P wr HNB.out)
        have HS := hideIt (dsum_no P wr HNB.out)
        go_wp2_with fail
        refine Calls.mono HW.out ?_
        rintro e w2 ⟨rfl, rfl⟩
        go_wp2_with fail
        refine Calls.mono HL.out ?_
        rintro e w3 ⟨rfl, rfl⟩
        go_wp2_with fail
        refine Calls.mono HS.out ?_
        rintro e w4 ⟨rfl, hF4⟩
        have HA4 := hideIt ((hF4.block n (Array.getElem?_eq_some_iff.1 HA.out).1 (fun e => e)).trans HA.out)
        have HB4 := hideIt ((hF4.block (n + 1) (Array.getElem?_eq_some_iff.1 HB.out).1 (fun e => e)).trans HB.out)
        have HF4 := hideIt (HF.out.trans hF4 (fun _ _ e => e))
        clear hF4 HA HB HF
        go_wp2_with (first | (refine wpList_bin_want (by rfl) .neq 30 30 (.tmp 36) (.tmp 37) rfl (.agg zA) (.agg zA) (.bool false) rfl rfl (heq _) (ids_grd _ .neq (.tmp 36) (.tmp 37) zeros32 zeros32) ?_))
        go_roundw
        case measure => simp [intOf]; omega
        case rel => exact ⟨i + 1, by go_num, by omega, HA4, HB4, HF4⟩
      · have hbi : (200 : Int) < (len : Int) := by omega
        have hix : (i : Int) < 2 := by omega
        have H := hideIt (fin wr HF)
        go_wp2_with fail
        refine Calls.mono H.out ?_
        rintro e w2 ⟨rfl, hF2⟩
        have HF2 := hideIt (HF.out.trans hF2 (fun _ _ e => e))
        go_wp2_with fail
        go_ret
        exact ⟨rfl, HF2.out⟩
    · have hix : i = 2 := by omega
      subst hix
      have H := hideIt (fin wr HF)
      go_wp2_with fail
      refine Calls.mono H.out ?_
      rintro e w2 ⟨rfl, hF2⟩
      have HF2 := hideIt (HF.out.trans hF2 (fun _ _ e => e))
      go_wp2_with fail
      go_ret
      exact ⟨rfl, HF2.out⟩

end Go.Proofs.YtgnpdnkmhjocjaaDoor
