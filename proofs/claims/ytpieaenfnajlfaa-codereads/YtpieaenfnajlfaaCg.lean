/- Code: Bytes, Size. -/
import Derived.Test.YtpieaenfnajlfaaCp
import Derived.Test.YtpieaenfnajlfaaCf
import Derived.Test.YtpieaenfnajlfaaX4
namespace Go.Proofs.Ytpieaenfnajlfaa
open Go.RowKit Go.IntWalk Go.Lib
set_option linter.unusedSimpArgs false
set_option linter.unusedVariables false

theorem WOk.frS {S : Nat → Prop} {w w' : World} {p t : Nat} {ao : Option Addr} {cap : Nat} {s : List UInt8 × Bool} (h : WOk w p t ao cap s) (hf : Fr S w w') (hp : ¬ S p) (hS : ∀ k, wset t ao k → ¬ S k) : WOk w' p t ao cap s := by
  obtain ⟨a, e, h⟩ := h
  exact ⟨a, e, h.fr hf hp hS⟩

/-- What Bytes answers. -/
def BytesP (i : Ins) (w : World) (e : Ending) (w' : World) : Prop :=
  ∃ ao cap, e = .returned (.tuple #[.slice ao (codeI i).length cap, .int .i64 (checkE i)]) ∧ Full w' ao cap (codeI i) ∧ Fr (fun _ => False) w w' ∧ ∀ k, blk ao k → w.heap.size ≤ k

theorem bytes_bad (i : Ins) (h2 : checkE i = 2) (w : World) : Calls Try.prog 9 #[.agg (icells i)] w (BytesP i w) := by
  have HC := hideIt (fun w => by have := check_any i w; rw [h2] at this; exact this)
  have hcode : codeI i = [] := by unfold codeI; rw [if_neg (by rw [h2]; decide)]
  have HE := hideIt (And.intro hcode h2)
  clear hcode h2
  obtain ⟨op, a, b, c, n, s⟩ := i
  unfold icells
  go_enter Try.func9, Try.ntmps9
  go_wp2_with fail
  refine Calls.mono (HC.out _) ?_
  rintro e w1 ⟨rfl, hF1⟩
  have HF1 := hideIt hF1
  clear hF1
  go_wp2_with fail
  go_ret2
  exact ⟨none, 0, by rw [HE.out.1, HE.out.2]; rfl, by rw [HE.out.1]; exact Or.inl ⟨rfl, rfl, rfl⟩, ((Fr.refl _ _).alloc _).trans HF1.out (fun _ _ e => e), fun k hk => by obtain ⟨_, e, _⟩ := hk; cases e⟩

set_option maxRecDepth 100000 in
set_option maxHeartbeats 2000000 in
theorem bytes_good (i : Ins) (m : Nat) (hG : Good i m) (w : World) : Calls Try.prog 9 #[.agg (icells i)] w (BytesP i w) := by
  have HC := hideIt (fun w => by have := check_any i w; rw [hG.check] at this; exact this)
  have HE := hideIt (And.intro hG.code hG.check)
  have HG := hideIt hG
  have hm : m ≤ 15 := hG.hi
  have hlen4 := (ltrs_nodup m hm).2
  have hop := hG.op
  clear hG
  have HII := hideIt (show ∀ w1, Fr (fun _ => False) (w.alloc (.cells (icells i) 23)) w1 → InsAt w1 w.heap.size i from fun w1 hF => (hF.block w.heap.size (by simp) (fun e => e)).trans (heap_new rfl))
  obtain ⟨op, a, b, c, n, s⟩ := i
  obtain rfl : op = m := hop
  have HK := hideIt kinds_any
  have hidx := idx_run m hm
  unfold icells
  go_enter Try.func9, Try.ntmps9
  go_wp2_with fail
  refine Calls.mono (HC.out _) ?_
  rintro e w1 ⟨rfl, hF1⟩
  have HF1 := hideIt hF1
  have hs1 : w.heap.size < w1.heap.size := by have := hF1.size; simp at this; omega
  clear hF1
  go_wp2_with fail
  refine Calls.mono (new_any w1) ?_
  rintro e w2 ⟨rfl, hW2, hF2, hsz2⟩
  have HI2 := hideIt (HII.out _ (HF1.out.trans hF2 (fun _ _ e => e)))
  have HF2 := hideIt (((Fr.refl (fun _ => False) w).alloc _).trans (HF1.out.trans hF2 (fun _ _ e => e)) (fun _ _ e => e))
  have HW2 := hideIt hW2
  clear hW2 hF2
  have c0 := HI2.out.c0
  dsimp only at c0
  go_wp2_with fail
  refine Calls.mono (wint_any (w1.heap.size + 1) w1.heap.size none 0 ([], false) m w2 HW2.out (by omega) (by simp)) ?_
  rintro e w3 ⟨rfl, hP⟩
  rw [wInt_small (m : Int) (by omega) (by omega) [], Int.toNat_natCast] at hP
  obtain ⟨ao, cap, hW3, hF3, hn3⟩ := hP
  have hnP : ¬ wset w1.heap.size none w.heap.size := by
    rintro (e | ⟨_, e, _⟩)
    · omega
    · cases e
  have HI1 := hideIt (fun w' (hF : Fr (fun _ => False) w3 w') => (HI2.out.fr hF3 hnP).fr hF (fun e => e))
  have HF3 := hideIt (HF2.out.trans hF3 (fun k hk e => by rcases e with e | ⟨_, e, _⟩; omega; cases e))
  have HW3 := hideIt hW3
  have HL3 := hideIt (show ∀ k, blk ao k → k < w3.heap.size from by obtain ⟨_, _, h⟩ := hW3; exact fun k hk => h.tp.row.lt hk)
  have HN3 := hideIt (show ∀ k, blk ao k → w2.heap.size ≤ k from hn3.elim (fun e k hk => by subst e; obtain ⟨_, e, _⟩ := hk; cases e) id)
  have hs3 : w2.heap.size ≤ w3.heap.size := hF3.size
  clear hW3 hF3 hn3 c0
  go_wp2_with fail
  refine wp_region_held_drew (S := fun w0 => w0.cell? ⟨w.heap.size, 0, none⟩ = some (.int .i64 (m : Int))) (by kernel_rfl) ?_ (fun hHeld => ?_)
  · exact (HI1.out _ (Fr.refl _ _).drew).c0
  refine wpAnyH_take (i := 1) (v := ?v1) rfl (by kernel_rfl) (by kernel_rfl) (by kernel_rfl) (fun _ _ _ h => h) (Or.inl ⟨by rfl, ?hy1⟩) (by assumption) ?rest1
  case hy1 => intro w hSw; (try dsimp only at hSw); go_simp; (try with_reducible rfl)
  try simp only [Act.put, List.setIfInBounds_toArray, List.set_cons_zero, List.set_cons_succ]
  refine wpAnyH_take (i := 2) (v := ?v2) rfl (by kernel_rfl) (by kernel_rfl) (by kernel_rfl) (fun _ _ _ h => h) (Or.inl ⟨by rfl, ?hy2⟩) (by assumption) ?rest2
  case hy2 => intro w hSw; (try dsimp only at hSw); go_simp; (try with_reducible rfl)
  try simp only [Act.put, List.setIfInBounds_toArray, List.set_cons_zero, List.set_cons_succ]
  refine wpAnyH_ready (rs := [0]) (by kernel_rfl) (by simp) ?_
  refine AllReadyH.cons rfl (fun K hK => ?_) AllReadyH.nil
  go_simp
  refine Calls.mono (HK.out _) ?_
  rintro e w4 ⟨rfl, hF⟩
  have HF := hideIt hF
  clear hF
  refine hK.out _ _ ?_ (fun hHeld => ?_)
  · exact (HI1.out _ ((Fr.refl _ _).drew.trans HF.out (fun _ _ e => e))).c0
  clear hK K
  try simp only [Act.put, List.setIfInBounds_toArray, List.set_cons_zero, List.set_cons_succ]
  refine wpAnyH_take (i := 3) (v := ?v3) rfl (by kernel_rfl) (by kernel_rfl) (by kernel_rfl) (fun _ _ _ h => h) (Or.inl ⟨by rfl, ?hy3⟩) (by assumption) ?rest3
  case hy3 => intro w hSw; (try dsimp only at hSw); go_simp; first | done | exact hidx w | (with_reducible rfl) | rfl
  try simp only [Act.put, List.setIfInBounds_toArray, List.set_cons_zero, List.set_cons_succ]
  refine wpAnyH_ready (rs := [4]) (by kernel_rfl) (by simp) ?_
  refine AllReadyH.cons rfl (fun K hK => ?_) AllReadyH.nil
  go_simp
  refine hK.out _ _ ?_ (fun hHeld => ?_)
  · exact (HI1.out _ (((Fr.refl _ _).drew.trans HF.out (fun _ _ e => e)).alloc _)).c0
  clear hK K
  try simp only [Act.put, List.setIfInBounds_toArray, List.set_cons_zero, List.set_cons_succ]
  refine wpAnyH_done (by kernel_rfl) ?_ _
  skip
  go_wp2_with fail
  have hs4 : w3.heap.size ≤ w4.heap.size := HF.out.size
  have HFW := hideIt (HF3.out.trans ((Fr.refl (fun _ => False) w3).drew.trans HF.out (fun _ _ e => e)) (fun _ _ e => e))
  have HIW := hideIt (HI1.out _ (((Fr.refl _ _).drew.trans HF.out (fun _ _ e => e)).alloc (.stringIter (kindT m) 0)))
  have HWW := hideIt (HW3.out.fr0 (((Fr.refl _ _).drew.trans HF.out (fun _ _ e => e)).alloc (.stringIter (kindT m) 0)))
  clear HI1 HK hidx HF hHeld HW3 HF3 HII HC HF1 HI2 HF2 HW2
  go_loopw [7] (fun _ wr => ∃ (pos : Nat) (ao : Option Addr) (cap : Nat), Hid (wr.heap[w4.heap.size]? = some (.stringIter (kindT m) pos)) ∧ Hid (InsAt wr w.heap.size ⟨m, a, b, c, n, s⟩) ∧ Hid (WOk wr (w1.heap.size + 1) w1.heap.size ao cap (UInt8.ofNat m :: encs ((ltrs m).take pos) ⟨m, a, b, c, n, s⟩, false)) ∧ Hid (Fr (fun _ => False) w wr) ∧ Hid (¬ wset w1.heap.size ao w.heap.size ∧ ¬ wset w1.heap.size ao w4.heap.size ∧ (∀ k, wset w1.heap.size ao k → w.heap.size ≤ k) ∧ pos ≤ (ltrs m).length)) (fun _ wr => (kindT m).size - wr.iterPos w4.heap.size)
  case atStart =>
    refine ⟨0, ao, cap, hideIt (heap_new rfl), HIW, HWW, hideIt (HFW.out.alloc _), hideIt ⟨?_, ?_, ?_, Nat.zero_le _⟩⟩
    · rintro (e | e)
      · omega
      · have := HN3.out _ e; omega
    · rintro (e | e)
      · omega
      · have := HL3.out _ e; omega
    · rintro k (e | e)
      · omega
      · have := HN3.out _ e; omega
  case round =>
    obtain ⟨pos, ao, cap, HIT, HJ, HW, HFR, HP⟩ := hrel
    have hne : w.heap.size ≠ w4.heap.size := by omega
    by_cases hp : pos < (kindT m).size
    · obtain ⟨hl, _, ht0⟩ := ltrs_at m pos hm hp
      have hfit : fitsB ((kindT m)[pos]'hp).toNat ⟨m, a, b, c, n, s⟩ = true := HG.out.fit _ (by rw [ltrs_get m pos hp]; exact List.getElem_mem _)
      have HT := hideIt ht0
      have hnx := fun ty => run_next_ascii_at (P := Try.prog) wr w4.heap.size (kindT m) pos ty HIT.out hp (by have := hl; omega)
      clear ht0
      generalize ((kindT m)[pos]'hp).toNat = l at *
      have HFI := hideIt ((Fr.refl (fun k => k = w4.heap.size) wr).iterAt (k := w4.heap.size) (fun _ => rfl) (kindT m) (pos + 1))
      have HJ1 := hideIt (HJ.out.fr HFI.out hne)
      have HW1 := hideIt (HW.out.frS HFI.out (by omega) (fun k hk e => HP.out.2.1 (e ▸ hk)))
      have HIT1 := hideIt (iterAt_heap wr w4.heap.size (kindT m) pos (pos + 1) HIT.out)
      have HFR1 := hideIt (HFR.out.trans HFI.out (fun i hi e => by omega))
      have hpos0 := hideIt (iterPos_of HIT.out)
      generalize wr.iterAt w4.heap.size (kindT m) (pos + 1) = W1 at *
      have hblen : (UInt8.ofNat m :: encs ((ltrs m).take pos) ⟨m, a, b, c, n, s⟩).length + 84 ≤ 140737488355328 := by
        have h1 := encs_len ((ltrs m).take pos) ⟨m, a, b, c, n, s⟩ (fun l hl => ltrs_ok m hm l (List.mem_of_mem_take hl)) (fun l hl => HG.out.fit l (List.mem_of_mem_take hl))
        rw [List.length_take] at h1
        rw [List.length_cons]
        omega
      go_wp2_with fail
      refine Calls.mono (find_w w.heap.size l hl _) ?_
      rintro e w5 ⟨rfl, hF5⟩
      have HJ5 := hideIt (HJ1.out.fr hF5 (fun e => e))
      have HW5 := hideIt (HW1.out.fr0 hF5)
      have HIT5 := hideIt ((hF5.block w4.heap.size (Array.getElem?_eq_some_iff.1 HIT1.out).1 (fun e => e)).trans HIT1.out)
      have HFR5 := hideIt (HFR1.out.trans hF5 (fun _ _ e => e))
      clear hF5
      go_wp2_with fail
      refine Calls.mono (write_w w.heap.size l hl ⟨m, a, b, c, n, s⟩ (w1.heap.size + 1) w1.heap.size ao cap _ w5 HJ5.out hfit HW5.out hblen) ?_
      rintro e w6 ⟨rfl, hP6⟩
      rw [wL_fits l hl _ hfit] at hP6
      obtain ⟨ao6, cap6, hW6, hF6, hn6⟩ := hP6
      have HW6 := hideIt hW6
      have HF6 := hideIt hF6
      have HN6 := hideIt hn6
      have hz5 := HFR5.out.size
      clear hW6 hF6 hn6
      have hk5 : w4.heap.size < w5.heap.size := (Array.getElem?_eq_some_iff.1 HIT5.out).1
      have HIT6 := hideIt ((HF6.out.block w4.heap.size hk5 HP.out.2.1).trans HIT5.out)
      go_wp2_with fail
      go_roundw
      case measure =>
        rw [iterPos_of HIT6.out, hpos0.out]
        omega
      case rel =>
        refine ⟨pos + 1, ao6, cap6, HIT6, hideIt (HJ5.out.fr HF6.out HP.out.1), hideIt ?_, hideIt (HFR5.out.trans HF6.out (fun k hk e => by have := HP.out.2.2.1 k e; omega)), hideIt ⟨?_, ?_, ?_, ?_⟩⟩
        · have := HW6.out
          rw [HT.out, encs_snoc]
          exact this
        · exact wset_old (Nat.le_refl _) HJ5.out.lt HN6.out HP.out.1
        · exact wset_old (Nat.le_refl _) hk5 HN6.out HP.out.2.1
        · intro k hk
          rcases hk with e | e
          · exact HP.out.2.2.1 k (Or.inl e)
          · rcases HN6.out with h | h
            · exact HP.out.2.2.1 k (Or.inr (h ▸ e))
            · have := h k e; omega
        · rw [ltrs_length]; omega
    · have hnx := fun ty => run_next_end_at (P := Try.prog) wr w4.heap.size (kindT m) pos ty HIT.out hp
      have htk : (ltrs m).take pos = ltrs m := List.take_of_length_le (by rw [ltrs_length]; omega)
      obtain ⟨at_, ea, hWA⟩ := HW.out
      rw [htk] at hWA
      have hWA' : WAt wr (w1.heap.size + 1) w1.heap.size ao cap (UInt8.ofNat m :: encs (ltrs m) ⟨m, a, b, c, n, s⟩) at_ 0 ea := by simpa using hWA
      have HWA := hideIt hWA'
      clear hWA hWA' htk
      have hblen : (UInt8.ofNat m :: encs (ltrs m) ⟨m, a, b, c, n, s⟩).length ≤ 140737488355328 := by
        have h1 := encs_len (ltrs m) ⟨m, a, b, c, n, s⟩ (ltrs_ok m hm) HG.out.fit
        rw [List.length_cons]
        omega
      go_wp2_with fail
      refine Calls.mono (out_full (w1.heap.size + 1) w1.heap.size ao cap _ at_ ea wr HWA.out hblen) ?_
      rintro e w7 ⟨ao7, cap7, rfl, hfull, hF7, hn7⟩
      have HQ := hideIt (And.intro hfull (And.intro hF7 hn7))
      clear hfull hF7 hn7
      go_wp2_with fail
      go_ret2
      exact ⟨ao7, cap7, by rw [HE.out.1, HE.out.2]; rfl, by rw [HE.out.1]; exact HQ.out.1, HFR.out.trans HQ.out.2.1 (fun _ _ e => e), fun k hk => Nat.le_trans HFR.out.size (HQ.out.2.2 k hk)⟩

theorem bytes_any (i : Ins) (w : World) : Calls Try.prog 9 #[.agg (icells i)] w (BytesP i w) := by
  rcases checkE_or i with h | h
  · obtain ⟨m, hG⟩ := good_of i h
    exact bytes_good i m hG w
  · exact bytes_bad i h w

theorem size_any (i : Ins) (w : World) : Calls Try.prog 14 #[.agg (icells i)] w fun e w' => e = .returned (.int .i64 (codeI i).length) ∧ Fr (fun _ => False) w w' := by
  have HB := hideIt (bytes_any i)
  obtain ⟨op, a, b, c, n, s⟩ := i
  unfold icells
  go_enter Try.func14, Try.ntmps14
  go_wp2_with fail
  refine Calls.mono (HB.out _) ?_
  rintro e w1 ⟨ao, cap, rfl, _, hF, _⟩
  have HF := hideIt hF
  clear hF
  go_wp2_with fail
  go_ret
  exact ⟨rfl, ((Fr.refl _ _).alloc _).trans HF.out (fun _ _ e => e)⟩

end Go.Proofs.Ytpieaenfnajlfaa
