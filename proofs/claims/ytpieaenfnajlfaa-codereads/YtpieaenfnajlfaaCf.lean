/- Code: Check. -/
import Derived.Test.YtpieaenfnajlfaaCe
namespace Go.Proofs.Ytpieaenfnajlfaa
open Go.RowKit Go.IntWalk Go.Lib
set_option linter.unusedSimpArgs false
set_option linter.unusedVariables false

set_option maxRecDepth 100000 in
set_option maxHeartbeats 2000000 in
theorem check_any : CheckC := by
  rintro ⟨op, a, b, c, n, s⟩ w
  by_cases h1 : op < 1
  · have hE : checkE ⟨op, a, b, c, n, s⟩ = 2 := checkE_out _ (fun e => by have := e.1; simp at this; omega)
    have hd : decide (op < 1) = true := by simp [h1]
    rw [hE]
    unfold icells
    go_enter Try.func12, Try.ntmps12
    go_wp2_with fail
    go_ret
    exact ⟨rfl, (Fr.refl _ _).alloc _⟩
  by_cases h2 : 15 < op
  · have hE : checkE ⟨op, a, b, c, n, s⟩ = 2 := checkE_out _ (fun e => by have := e.2; simp at this; omega)
    have hd : decide (op < 1) = false := by simp [h1]
    have hd2 : decide (15 < op) = true := by simp [h2]
    rw [hE]
    unfold icells
    go_enter Try.func12, Try.ntmps12
    go_wp2_with fail
    go_ret
    exact ⟨rfl, (Fr.refl _ _).alloc _⟩
  · obtain ⟨m, rfl⟩ : ∃ m : Nat, op = m := ⟨op.toNat, by omega⟩
    have hm : m ≤ 15 := by omega
    have hm1 : 1 ≤ m := by omega
    have hd : decide ((m : Int) < 1) = false := by simp [h1]
    have hd2 : decide (15 < (m : Int)) = false := by simp [h2]
    have HK := hideIt kinds_any
    have hidx := idx_run m hm
    have HI1 := hideIt (show ∀ w1, Fr (fun _ => False) (w.alloc (.cells (icells ⟨m, a, b, c, n, s⟩) 23)) w1 → InsAt w1 w.heap.size ⟨m, a, b, c, n, s⟩ from fun w1 hF => (hF.block w.heap.size (by simp) (fun e => e)).trans (heap_new rfl))
    unfold icells
    go_enter Try.func12, Try.ntmps12
    go_wp2_with fail
    refine wp_region_held_drew (S := fun w0 => w0.cell? ⟨w.heap.size, 0, none⟩ = some (.int .i64 (m : Int))) (by kernel_rfl) ?_ (fun hHeld => ?_)
    · exact (HI1.out _ (Fr.refl _ _).drew).c0
    refine wpAnyH_take (i := 1) (v := ?v1) rfl (by kernel_rfl) (by kernel_rfl) (by kernel_rfl) (fun _ _ _ h => h) (Or.inl ⟨by rfl, ?hy1⟩) (by assumption) ?rest1
    case hy1 => intro w hSw; (try dsimp only at hSw); go_simp; (try with_reducible rfl)
    try simp only [Act.put, List.setIfInBounds_toArray, List.set_cons_zero, List.set_cons_succ]
    refine wpAnyH_take (i := 2) (v := ?v2) rfl (by kernel_rfl) (by kernel_rfl) (by kernel_rfl) (fun _ _ _ h => h) (Or.inl ⟨by rfl, ?hy2⟩) (by assumption) ?rest2
    case hy2 => intro w hSw; (try dsimp only at hSw); go_simp; (try with_reducible rfl)
    try simp only [Act.put, List.setIfInBounds_toArray, List.set_cons_zero, List.set_cons_succ]
    refine wpAnyH_ready (rs := [0]) (by kernel_rfl) (by simp) ?_
    refine AllReadyH.cons rfl (fun K hK => ?_) AllReadyH.nil
    go_simp
    refine Calls.mono (HK.out _) ?_
    rintro e w2 ⟨rfl, hF⟩
    have HF := hideIt hF
    clear hF
    refine hK.out _ _ ?_ (fun hHeld => ?_)
    · exact (HI1.out _ ((Fr.refl _ _).drew.trans HF.out (fun _ _ e => e))).c0
    clear hK K
    try simp only [Act.put, List.setIfInBounds_toArray, List.set_cons_zero, List.set_cons_succ]
    refine wpAnyH_take (i := 3) (v := ?v3) rfl (by kernel_rfl) (by kernel_rfl) (by kernel_rfl) (fun _ _ _ h => h) (Or.inl ⟨by rfl, ?hy3⟩) (by assumption) ?rest3
    case hy3 => intro w hSw; (try dsimp only at hSw); go_simp; first | done | exact hidx w | (with_reducible rfl) | rfl
    try simp only [Act.put, List.setIfInBounds_toArray, List.set_cons_zero, List.set_cons_succ]
    refine wpAnyH_ready (rs := [4]) (by kernel_rfl) (by simp) ?_
    refine AllReadyH.cons rfl (fun K hK => ?_) AllReadyH.nil
    go_simp
    refine hK.out _ _ ?_ (fun hHeld => ?_)
    · exact (HI1.out _ (((Fr.refl _ _).drew.trans HF.out (fun _ _ e => e)).alloc _)).c0
    clear hK K
    try simp only [Act.put, List.setIfInBounds_toArray, List.set_cons_zero, List.set_cons_succ]
    refine wpAnyH_done (by kernel_rfl) ?_ _
    skip
    go_wp2_with fail
    have hk0 : w.heap.size < w2.heap.size := by have := HF.out.size; simp at this; omega
    have HFW := hideIt (((Fr.refl (fun _ => False) w).alloc (.cells (icells ⟨m, a, b, c, n, s⟩) 23)).drew.trans HF.out (fun _ _ e => e))
    have HIW := hideIt (HI1.out _ (((Fr.refl _ _).drew.trans HF.out (fun _ _ e => e)).alloc (.stringIter (kindT m) 0)))
    clear HI1 HK hidx HF hHeld
    go_loopw [2] (fun v wr => v = .int .i64 0 ∧ ∃ (pos : Nat) (j : Ins), Hid (wr.heap[w2.heap.size]? = some (.stringIter (kindT m) pos)) ∧ Hid (InsAt wr w.heap.size j) ∧ Hid (Fr (fun _ => False) w wr) ∧ Hid (j.op = m ∧ chkL ((ltrs m).drop pos) j = chkL (ltrs m) ⟨m, a, b, c, n, s⟩)) (fun _ wr => (kindT m).size - wr.iterPos w2.heap.size)
    case atStart => exact ⟨rfl, 0, ⟨m, a, b, c, n, s⟩, hideIt (heap_new rfl), HIW, hideIt (HFW.out.alloc _), hideIt ⟨rfl, rfl⟩⟩
    case round =>
      obtain ⟨rfl, pos, j, HIT, HJ, HFR, HP⟩ := hrel
      have hne : w.heap.size ≠ w2.heap.size := by omega
      by_cases hp : pos < (kindT m).size
      · obtain ⟨hl, hd0, _⟩ := ltrs_at m pos hm hp
        have HD := hideIt hd0
        have hnx := fun ty => run_next_ascii_at (P := Try.prog) wr w2.heap.size (kindT m) pos ty HIT.out hp (by have := hl; omega)
        clear hd0
        generalize ((kindT m)[pos]'hp).toNat = l at *
        have HJ1 := hideIt (HJ.out.keep (iterAt_other wr w2.heap.size w.heap.size (kindT m) (pos + 1) hne))
        have HIT1 := hideIt (iterAt_heap wr w2.heap.size (kindT m) pos (pos + 1) HIT.out)
        have HFR1 := hideIt (HFR.out.iterAt (k := w2.heap.size) (fun e => by omega) (kindT m) (pos + 1))
        have hpos0 := hideIt (iterPos_of HIT.out)
        generalize wr.iterAt w2.heap.size (kindT m) (pos + 1) = W1 at *
        go_wp2_with fail
        refine Calls.mono (find_w w.heap.size l hl _) ?_
        rintro e w3 ⟨rfl, hF3⟩
        have HJ3 := hideIt (HJ1.out.fr hF3 (fun e => e))
        have HF3 := hideIt hF3
        clear hF3
        go_wp2_with fail
        refine Calls.mono (fits_w w.heap.size l hl j _ (HJ3.out.fr ((Fr.refl (fun _ => False) _).alloc _) (fun e => e))) ?_
        rintro e w5 ⟨rfl, hF5⟩
        have HJ5 := hideIt ((HJ3.out.fr ((Fr.refl (fun _ => False) _).alloc _) (fun e => e)).fr hF5 (fun e => e))
        have hc5 := (hF5.block w3.heap.size (by simp) (fun e => e)).trans (heap_new rfl)
        have hc50 := cellOfHeap hc5 0 rfl
        have hc51 := cellOfHeap hc5 1 rfl
        have hc52 := cellOfHeap hc5 2 rfl
        have hc53 := cellOfHeap hc5 3 rfl
        have HF15 := hideIt ((HF3.out.alloc _).trans hF5 (fun _ _ e => e))
        clear hF5
        cases hfit : fitsB l j
        · have hE : checkE ⟨m, a, b, c, n, s⟩ = 2 := checkE_none _ (by show chkL (ltrs (m : Int).toNat) _ = none; rw [Int.toNat_natCast, ← HP.out.2, HD.out]; simp [chkL, hfit])
          go_wp2_with fail
          go_ret
          exact ⟨by rw [hE]; rfl, HFR1.out.trans HF15.out (fun _ _ e => e)⟩
        · go_wp2_with fail
          refine Calls.mono (clear_w w.heap.size l hl j _ HJ5.out) ?_
          rintro e w6 ⟨rfl, hI6, hF6⟩
          have HI6 := hideIt hI6
          have HF16 := hideIt ((HF15.out.mono (S' := fun k => k = w.heap.size) (fun _ e => e.elim)).trans hF6 (fun _ _ e => e))
          clear hI6 hF6
          have HIT6 := hideIt ((HF16.out.block w2.heap.size (Array.getElem?_eq_some_iff.1 HIT1.out).1 (by omega)).trans HIT1.out)
          go_wp2_with fail
          go_roundw
          case measure =>
            rw [iterPos_of HIT6.out, hpos0.out]
            omega
          case rel =>
            exact ⟨rfl, pos + 1, clr l j, HIT6, HI6, hideIt (HFR1.out.trans HF16.out (fun i hi e => by omega)), hideIt ⟨(clr_op l j).trans HP.out.1, by rw [← HP.out.2, HD.out]; simp [chkL, hfit]⟩⟩
      · have hnx := fun ty => run_next_end_at (P := Try.prog) wr w2.heap.size (kindT m) pos ty HIT.out hp
        have HC := hideIt (show chkL (ltrs m) ⟨m, a, b, c, n, s⟩ = some j by rw [← HP.out.2, ltrs_end m pos hp]; rfl)
        obtain ⟨jo, ja, jb, jc, jn, js⟩ := j
        obtain rfl : jo = m := HP.out.1
        have c0 := HJ.out.c0
        have c1 := HJ.out.c1
        have c2 := HJ.out.c2
        have c3 := HJ.out.c3
        have c4 := HJ.out.c4
        have c5 := HJ.out.c5
        dsimp only at c0 c1 c2 c3 c4 c5
        by_cases hz : ja = 0 ∧ jb = 0 ∧ jc = 0 ∧ jn = 0 ∧ js = ⟨#[]⟩
        · have hE : checkE ⟨m, a, b, c, n, s⟩ = 0 := checkE_ok _ ⟨m, ja, jb, jc, jn, js⟩ (by show (1 : Int) ≤ m; omega) (by show (m : Int) ≤ 15; omega) (by show chkL (ltrs (m : Int).toNat) _ = _; rw [Int.toNat_natCast]; exact HC.out) hz
          obtain ⟨rfl, rfl, rfl, rfl, rfl⟩ := hz
          go_wp2_with fail
          go_ret
          exact ⟨by first | rfl | (rw [hE]; rfl), HFR.out⟩
        · have hE : checkE ⟨m, a, b, c, n, s⟩ = 2 := checkE_left _ ⟨m, ja, jb, jc, jn, js⟩ (by show chkL (ltrs (m : Int).toNat) _ = _; rw [Int.toNat_natCast]; exact HC.out) hz
          have HZ := hideIt hz
          clear hz
          go_wp2_with fail
          all_goals go_ret
          all_goals first | exact ⟨by rw [hE]; rfl, HFR.out⟩ | exact ⟨rfl, HFR.out⟩ | (exfalso; first | exact HZ.out (ba_nil (by assumption)) | refine HZ.out ⟨?_, ?_, ?_, ?_, ?_⟩ <;> first | assumption | rfl | exact ba_nil (by assumption))

end Go.Proofs.Ytpieaenfnajlfaa
