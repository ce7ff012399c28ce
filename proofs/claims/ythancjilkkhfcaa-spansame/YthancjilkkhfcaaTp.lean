/- Spans: Covers. -/
import Derived.Test.YthancjilkkhfcaaTo
namespace Go.Proofs.Ythancjilkkhfcaa
open Go.RowKit Go.IntWalk
set_option linter.unusedSimpArgs false
set_option linter.unusedVariables false

/-- The first one that has where a span begins reaches to its end. -/
def covB : List Sp → Sp → Bool
  | [], _ => false
  | j :: J, s => if KeyIn j (lo s) then !decide (outl s j) else covB J s

theorem covB_drop {J : List Sp} {k : Nat} (h : k < J.length) (s : Sp) : covB (J.drop k) s = if KeyIn J[k] (lo s) then !decide (outl s J[k]) else covB (J.drop (k + 1)) s := by
  rw [List.drop_eq_getElem_cons h, covB]

set_option maxRecDepth 100000 in
set_option maxHeartbeats 1000000 in
theorem covers_any (ao : Option Addr) (cap : Nat) (l : List Sp) (s : Sp) (w : World) (h : l = [] ∨ SpsAt w ao l) (hb : l.length ≤ 1099511627774) (hJ : (joinC l).length ≤ 1099511627774) :
    Calls Try.prog 28 #[.slice ao l.length cap, .agg #[.string s.1, .string s.2]] w fun e w' => e = .returned (.bool (if NonE s then covB (joinC l) s else true)) ∧ Fr (fun _ => False) w w' := by
  have hF0 : Fr (fun _ => False) w (w.alloc (.cells #[.string s.1, .string s.2] 23)) := (Fr.refl _ _).alloc _
  have HF0 := hideIt hF0
  by_cases hs : NonE s
  · rw [if_pos hs]
    have hE := hideIt (fun w => by have := empty_any s w; rw [show decide (¬ NonE s) = false by simp [hs]] at this; exact this)
    have hJn := hideIt (fun w' (hF : Fr (fun _ => False) w w') => join_any ao cap l w' (ats_fr0 h hF) hb)
    have HC := hideIt (show ∀ w' : World, Fr (fun _ => False) (w.alloc (.cells #[.string s.1, .string s.2] 23)) w' → w'.cell? ⟨w.heap.size, 0, none⟩ = some (.string s.1) ∧ w'.cell? ⟨w.heap.size, 1, none⟩ = some (.string s.2) from fun w' h => ⟨h.cell0 (cellNew w _ _ _ 0 rfl), h.cell0 (cellNew w _ _ _ 1 rfl)⟩)
    generalize joinC l = J at *
    clear hs h hF0
    go_enter Try.func28, Try.ntmps28
    go_wp2_with fail
    refine Calls.mono (hE.out _) ?_
    rintro e w1 ⟨rfl, hF1⟩
    have HF1 := hideIt hF1
    clear hF1
    go_wp2_with fail
    refine Calls.mono (hJn.out _ (HF0.out.trans HF1.out (fun _ _ e => e))) ?_
    rintro e w2 ⟨ao2, cap2, rfl, hrow2, hF2, hn2⟩
    have HF2 := hideIt (HF1.out.trans hF2 (fun _ _ e => e))
    have HROW := hideIt hrow2
    clear hF2 hn2 hrow2
    go_wp2_with fail
    go_loopw [12] (fun i wr => ∃ k : Nat, i = .int .i64 k ∧ k ≤ J.length ∧ Hid (covB (J.drop k) s = covB J s) ∧ Fr (fun _ => False) w2 wr) (fun i _ => J.length - (intOf i).toNat)
    case atStart => exact ⟨0, rfl, Nat.zero_le _, hideIt (by simp), Fr.refl _ _⟩
    case round =>
      obtain ⟨k, rfl, hk, HD, hF⟩ := hrel
      have hFw := HF2.out.trans hF (fun _ _ e => e)
      obtain ⟨s0, s1⟩ := HC.out wr hFw
      by_cases hlt : k < J.length
      · obtain ⟨b, off, rfl, hbl, c0, c1⟩ := SpsAt.get (Or.inr (HROW.out.at.fr0 hF)) k hlt
        have HDR := hideIt (covB_drop hlt s)
        have hI := hideIt (fun w => in_any J[k] s.1 w)
        have hO := hideIt (fun w => outlasts_any s J[k] w)
        have HF := hideIt hF
        have HFW := hideIt hFw
        clear hF hFw
        generalize J[k] = x at *
        have s0' := cellA s0 (.cells #[.string x.1, .string x.2] 23)
        by_cases hx : KeyIn x (lo s)
        · rw [if_pos hx] at HDR
          rw [show decide (KeyIn x s.1.toList) = true from decide_eq_true hx] at hI
          clear hx
          go_wp2_with fail
          refine Calls.mono (hI.out _) ?_
          rintro e w3 ⟨rfl, hF3⟩
          have hF3' : Fr (fun _ => False) wr w3 := ((Fr.refl _ _).alloc _).trans hF3 (fun _ _ e => e)
          obtain ⟨t0, t1⟩ := HC.out w3 (HFW.out.trans hF3' (fun _ _ e => e))
          have x0 := hF3.cell0 (cellNew wr #[.string x.1, .string x.2] 23 wr.heap.size 0 rfl)
          have x1 := hF3.cell0 (cellNew wr #[.string x.1, .string x.2] 23 wr.heap.size 1 rfl)
          have HF3 := hideIt hF3'
          clear hF3 hF3'
          go_wp2_with fail
          refine Calls.mono (hO.out _) ?_
          rintro e w4 ⟨rfl, hF4⟩
          have HFIN := hideIt (show (!decide (outl s x)) = covB J s from HDR.out.symm.trans HD.out)
          have HFF := hideIt (((HF0.out.trans HFW.out (fun _ _ e => e)).trans HF3.out (fun _ _ e => e)).trans hF4 (fun _ _ e => e))
          clear hF4 HDR HD
          generalize decide (outl s x) = o at *
          go_wp2_with fail
          go_ret
          exact ⟨rb HFIN.out, HFF.out⟩
        · rw [if_neg hx] at HDR
          rw [show decide (KeyIn x s.1.toList) = false from decide_eq_false hx] at hI
          clear hx
          go_wp2_with fail
          refine Calls.mono (hI.out _) ?_
          rintro e w3 ⟨rfl, hF3⟩
          have HF3 := hideIt (show Fr (fun _ => False) wr w3 from ((Fr.refl _ _).alloc _).trans hF3 (fun _ _ e => e))
          clear hF3
          go_wp2_with fail
          go_roundw
          case measure => simp [intOf]; omega
          case rel => exact ⟨k + 1, by go_num, by omega, hideIt (by rw [← HDR.out, HD.out]), HF.out.trans HF3.out (fun _ _ e => e)⟩
      · obtain rfl : k = J.length := by omega
        have HFIN := hideIt (show false = covB J s by rw [← HD.out, List.drop_length]; rfl)
        have HFF := hideIt (HF0.out.trans hFw (fun _ _ e => e))
        clear hF hFw HD
        go_wp2_with fail
        go_ret
        exact ⟨rb HFIN.out, HFF.out⟩
  · rw [if_neg hs]
    have hE := hideIt (fun w => by have := empty_any s w; rw [show decide (¬ NonE s) = true by simp [hs]] at this; exact this)
    clear hs h hF0
    go_enter Try.func28, Try.ntmps28
    go_wp2_with fail
    refine Calls.mono (hE.out _) ?_
    rintro e w1 ⟨rfl, hF1⟩
    have HFF := hideIt (HF0.out.trans hF1 (fun _ _ e => e))
    clear hF1
    go_wp2_with fail
    go_ret
    exact ⟨rfl, HFF.out⟩

end Go.Proofs.Ythancjilkkhfcaa
