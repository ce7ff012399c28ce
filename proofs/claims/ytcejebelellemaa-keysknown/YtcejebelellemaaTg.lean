/- Spans: rising. -/
import Derived.Test.YtcejebelellemaaTf
namespace Go.Proofs.Ytcejebelellemaa
open Go.RowKit Go.IntWalk
set_option linter.unusedSimpArgs false
set_option linter.unusedVariables false

/-- Those that are not empty. -/
def fulls (l : List Sp) : List Sp := l.filter fun x => decide (NonE x)

theorem fulls_take (l : List Sp) (k : Nat) (h : k < l.length) : fulls (l.take (k + 1)) = if NonE l[k] then fulls (l.take k) ++ [l[k]] else fulls (l.take k) := by
  unfold fulls
  rw [List.take_succ_eq_append_getElem h, List.filter_append]
  by_cases e : NonE l[k]
  · simp [e]
  · rw [if_neg e]
    simp [e]

theorem fulls_len (l : List Sp) : (fulls l).length ≤ l.length := List.length_filter_le _ _

/-- The cells of one of the spans. -/
theorem SpsAt.get {w : World} {ao : Option Addr} {l : List Sp} (h : l = [] ∨ SpsAt w ao l) (k : Nat) (hk : k < l.length) : ∃ b off, ao = some ⟨b, off, none⟩ ∧ b < w.heap.size ∧ w.cell? ⟨b, off + k * 2, none⟩ = some (.string l[k].1) ∧ w.cell? ⟨b, off + k * 2 + 1, none⟩ = some (.string l[k].2) := by
  rcases h with h | ⟨_, h⟩ | ⟨b, off, h1, h2, h3⟩
  · rw [h] at hk; exact absurd hk (by simp)
  · rw [h] at hk; exact absurd hk (by simp)
  · exact ⟨b, off, h1, h2, h3 k hk⟩

theorem ats_fr0 {w w' : World} {ao : Option Addr} {l : List Sp} (h : l = [] ∨ SpsAt w ao l) (hF : Fr (fun _ => False) w w') : l = [] ∨ SpsAt w' ao l := h.imp_right fun h => h.fr0 hF

theorem SpRow.le {w : World} {ao : Option Addr} {cap : Nat} {l : List Sp} (h : SpRow w ao cap l) : l.length ≤ cap := by
  rcases h.2 with ⟨hv, hn⟩ | ⟨g, c, cur, hv, _, hg, hle, _⟩
  · omega
  · obtain ⟨_, _, rfl⟩ := Value.slice.inj hv
    exact hle

theorem SpsAt.tail {w : World} {b off : Nat} {x : Sp} {r : List Sp} (h : SpsAt w (some ⟨b, off, none⟩) (x :: r)) : SpsAt w (some ⟨b, off + 2, none⟩) r := by
  rcases h with ⟨e, _⟩ | ⟨b', off', e, h2, h3⟩
  · cases e
  · obtain ⟨rfl, rfl⟩ : b = b' ∧ off = off' := by simpa using e
    refine Or.inr ⟨b, off + 2, rfl, h2, fun i hi => ?_⟩
    have := h3 (i + 1) (by simpa using hi)
    rw [show off + (i + 1) * 2 = off + 2 + i * 2 by omega] at this
    exact this

set_option maxRecDepth 100000 in
set_option maxHeartbeats 1000000 in
theorem rising_any (ao : Option Addr) (cap : Nat) (l : List Sp) (w : World) (h : l = [] ∨ SpsAt w ao l) (hb : l.length ≤ 1099511627775) :
    Calls Try.prog 52 #[.slice ao l.length cap] w fun e w' => ∃ ao' cap', e = .returned (.slice ao' (sortC (fulls l)).length cap') ∧ (sortC (fulls l) = [] ∨ SpsAt w' ao' (sortC (fulls l))) ∧ Fr (fun _ => False) w w' ∧ (sortC (fulls l)).length ≤ cap' ∧ ∀ k, blk ao' k → w.heap.size ≤ k := by
  have HH := hideIt h
  clear h
  go_enter Try.func52, Try.ntmps52
  go_wp2_with fail
  go_loopw [3, 8] (fun v i wr => ∃ (k : Nat) (aor : Option Addr) (capr : Nat) (m : List Sp), i = .int .i64 k ∧ k ≤ l.length ∧ v = .slice aor m.length capr ∧ Hid (m = fulls (l.take k)) ∧ SpRow wr aor capr m ∧ Fr (fun _ => False) w wr ∧ ∀ j, blk aor j → w.heap.size ≤ j) (fun _ i _ => l.length - (intOf i).toNat)
  case atStart => exact ⟨0, none, 0, [], rfl, Nat.zero_le _, rfl, hideIt rfl, SpRow.nil _, Fr.refl _ _, fun _ ⟨_, e, _⟩ => by cases e⟩
  case round =>
    obtain ⟨k, aor, capr, m, rfl, hk, rfl, HM, hrow, hF, hn⟩ := hrel
    have hml : m.length ≤ k := by
      rw [HM.out]
      refine Nat.le_trans (fulls_len _) ?_
      simp
      omega
    by_cases hlt : k < l.length
    · obtain ⟨b, off, rfl, hbl, c0, c1⟩ := SpsAt.get (ats_fr0 HH.out hF) k hlt
      have HT := hideIt (fulls_take l k hlt)
      have HROW := hideIt hrow
      have HF := hideIt hF
      have HN := hideIt hn
      clear hrow hF hn
      generalize l[k] = x at *
      by_cases hx : NonE x
      · have hE := hideIt (fun w => by have := empty_any x w; rw [show decide (¬ NonE x) = false by simp [hx]] at this; exact this)
        rw [if_pos hx] at HT
        clear hx
        go_wp2_with fail
        refine Calls.mono (hE.out _) ?_
        rintro e w1 ⟨rfl, hF1⟩
        have d0 := hF1.cell0 (cellNew wr #[.string x.1, .string x.2] 41 wr.heap.size 0 rfl)
        have d1 := hF1.cell0 (cellNew wr #[.string x.1, .string x.2] 41 wr.heap.size 1 rfl)
        have hF2 : Fr (fun _ => False) wr (w1.alloc (.cells #[.string x.1, .string x.2] 41)) := (((Fr.refl _ _).alloc _).trans hF1 (fun _ _ e => e)).alloc _
        obtain ⟨ao', cap', w3, hrun, hrow3, hF3, hao⟩ := spans_append _ aor capr m [x] (HROW.out.fr hF2 (fun _ _ e => e)) (some ⟨w1.heap.size, 0, none⟩) 1 (Or.inr (sps_one x w1)) (by simp; omega)
        rw [List.length_singleton] at hrun
        have HR := hideIt hrun
        have HG := hideIt hF2
        have HROW3 := hideIt hrow3
        have HF3 := hideIt hF3
        have HAO := hideIt hao
        clear hrun hF2 hrow3 hF3 hao hF1
        go_wp2_with (first | (at_builtin; refine wpList_append_run _ rfl (.tmp 15) (.tmp 17) 33 33 rfl _ _ _ _ rfl rfl HR.out ?_))
        go_roundw
        case measure => simp [intOf]; omega
        case rel =>
          have hF0 := HF.out.trans HG.out (fun _ _ e => e)
          refine ⟨k + 1, ao', cap', m ++ [x], by go_num, by omega, by simp, hideIt (by rw [HT.out, HM.out]), HROW3.out, hF0.trans HF3.out (fun i hi ⟨a, e1, e2⟩ => ?_), fun j hj => ?_⟩
          · have := HN.out i ⟨a, e1, e2⟩
            omega
          · rcases HAO.out with e | e
            · exact HN.out j (e ▸ hj)
            · obtain ⟨a, e1, e2⟩ := hj
              rw [e] at e1
              obtain rfl := Option.some.inj e1
              have := hF0.size
              simp at this e2
              omega
      · have hE := hideIt (fun w => by have := empty_any x w; rw [show decide (¬ NonE x) = true by simp [hx]] at this; exact this)
        rw [if_neg hx] at HT
        clear hx
        go_wp2_with fail
        refine Calls.mono (hE.out _) ?_
        rintro e w1 ⟨rfl, hF1⟩
        have hF2 : Fr (fun _ => False) wr w1 := ((Fr.refl _ _).alloc _).trans hF1 (fun _ _ e => e)
        have HG := hideIt hF2
        clear hF1 hF2
        go_wp2_with fail
        go_roundw
        case measure => simp [intOf]; omega
        case rel => exact ⟨k + 1, aor, capr, m, by go_num, by omega, rfl, hideIt (by rw [HT.out, HM.out]), HROW.out.fr HG.out (fun _ _ e => e), HF.out.trans HG.out (fun _ _ e => e), HN.out⟩
    · obtain rfl : k = l.length := by omega
      have em : m = fulls l := by rw [HM.out, List.take_length]
      have hS := hideIt (fun w' (h : SpRow w' aor capr m) => sort_any aor capr m w' h (by omega))
      have HROW := hideIt hrow
      have HF := hideIt hF
      have HN := hideIt hn
      have HEM := hideIt em
      have HL := hideIt (sortC_len m)
      clear hrow hF hn em
      go_wp2_with fail
      refine Calls.mono (hS.out _ HROW.out) ?_
      rintro e w2 ⟨rfl, hat, hF2⟩
      have HAT := hideIt hat
      clear hat
      go_wp2_with fail
      go_ret
      rw [← HEM.out]
      exact ⟨aor, capr, by rw [HL.out]; rfl, HAT.out, HF.out.trans hF2 (fun i hi e => by have := HN.out i e; omega), by rw [HL.out]; exact HROW.out.le, HN.out⟩
end Go.Proofs.Ytcejebelellemaa
