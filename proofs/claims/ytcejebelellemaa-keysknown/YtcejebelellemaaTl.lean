/- Spans: joined, Join. -/
import Derived.Test.YtcejebelellemaaTk
namespace Go.Proofs.Ytcejebelellemaa
open Go.RowKit Go.IntWalk
set_option linter.unusedSimpArgs false
set_option linter.unusedVariables false

theorem addS_jn (A : List Sp) (last s : Sp) (r : List Sp) : (addS A last s).1 ++ jn (addS A last s).2 r = A ++ jn last (s :: r) := by
  unfold addS
  rw [jn]
  by_cases h : short last (lo s)
  · rw [if_pos h, if_pos h]
    simp
  · rw [if_neg h, if_neg h]

theorem addS_len (A : List Sp) (last s : Sp) : (addS A last s).1.length ≤ A.length + 1 := by
  unfold addS
  split <;> simp

set_option maxRecDepth 100000 in
set_option maxHeartbeats 1000000 in
theorem joined_any (first : Sp) (ao : Option Addr) (cap : Nat) (l : List Sp) (w : World) (h : l = [] ∨ SpsAt w ao l) (hb : l.length ≤ 1099511627774) :
    Calls Try.prog 53 #[.agg #[.string first.1, .string first.2], .slice ao l.length cap] w fun e w' => ∃ ao' cap', e = .returned (.slice ao' (jn first l).length cap') ∧ SpRow w' ao' cap' (jn first l) ∧ Fr (fun _ => False) w w' ∧ ∀ k, blk ao' k → w.heap.size ≤ k := by
  have HH := hideIt h
  clear h
  have hst : RowAt ((w.alloc (.cells #[.string first.1, .string first.2] 41)).alloc (.cells #[.string first.1, .string first.2, .slice none 0 0] 81)) (w.heap.size + 1) first none 0 [] := by
    refine ⟨?_, SpRow.nil _, fun ⟨_, e, _⟩ => by cases e⟩
    have := heap_alloc_new (w.alloc (.cells #[.string first.1, .string first.2] 41)) (.cells #[.string first.1, .string first.2, .slice none 0 0] 81)
    simpa using this
  have HST := hideIt hst
  clear hst
  go_enter Try.func53, Try.ntmps53
  go_wp2_with fail
  go_loopw [13] (fun i wr => ∃ (k : Nat) (A : List Sp) (last : Sp) (aoa : Option Addr) (capa : Nat), i = .int .i64 k ∧ k ≤ l.length ∧ A.length ≤ k ∧ RowAt wr (w.heap.size + 1) last aoa capa A ∧ Hid (A ++ jn last (l.drop k) = jn first l) ∧ Fr (fun _ => False) w wr ∧ ∀ j, blk aoa j → w.heap.size ≤ j) (fun i _ => l.length - (intOf i).toNat)
  case atStart => exact ⟨0, [], first, none, 0, rfl, Nat.zero_le _, Nat.zero_le _, HST.out, hideIt (by simp), ((Fr.refl _ _).alloc _).alloc _, fun _ ⟨_, e, _⟩ => by cases e⟩
  case round =>
    obtain ⟨k, A, last, aoa, capa, rfl, hk, hAk, hrow, HJ, hF, hn⟩ := hrel
    by_cases hlt : k < l.length
    · obtain ⟨b, off, rfl, hbl, c0, c1⟩ := SpsAt.get (ats_fr0 HH.out hF) k hlt
      have HD := hideIt (List.drop_eq_getElem_cons hlt)
      have HROW := hideIt hrow
      have HF := hideIt hF
      have HN := hideIt hn
      have hp := hrow.lt
      clear hrow hF hn
      generalize l[k] = x at *
      have hA := hideIt (fun w' (h : RowAt w' (w.heap.size + 1) last aoa capa A) => add_any (w.heap.size + 1) last x aoa capa A w' h (by omega))
      have HL := hideIt (addS_len A last x)
      have HJ' := hideIt (addS_jn A last x (l.drop (k + 1)))
      generalize (addS A last x).1 = A' at *
      generalize (addS A last x).2 = last' at *
      have hF1 : Fr (fun _ => False) wr (wr.alloc (.cells #[.string x.1, .string x.2] 41)) := (Fr.refl _ _).alloc _
      have HF1 := hideIt hF1
      clear hF1
      go_wp2_with fail
      refine Calls.mono (hA.out _ (HROW.out.fr0 HF1.out)) ?_
      rintro e w1 ⟨rfl, hP⟩
      have HP := hideIt hP
      clear hP
      go_wp2_with fail
      go_roundw
      case measure => simp [intOf]; omega
      case rel =>
        obtain ⟨ao', cap', h1, h2, h3⟩ := HP.out
        have hl' := HL.out
        have hsz := HF.out.size
        refine ⟨k + 1, A', last', ao', cap', by go_num, by omega, by omega, h1, hideIt ?_, (HF.out.trans HF1.out (fun _ _ e => e)).trans h2 (fun i hi e => ?_), fun j hj => ?_⟩
        · rw [HJ'.out, ← HD.out, HJ.out]
        · rcases e with e | e
          · omega
          · have := HN.out i e
            omega
        · rcases h3 with h3 | h3
          · exact HN.out j (h3 ▸ hj)
          · have := h3 j hj
            simp at this
            omega
    · obtain rfl : k = l.length := by omega
      have HJ2 : Hid (A ++ [last] = jn first l) := hideIt (by have := HJ.out; rw [List.drop_length] at this; exact this)
      have c0 := cellH hrow.heap 0 rfl
      have c1 := cellH hrow.heap 1 rfl
      have c2 := cellH hrow.heap 2 rfl
      have hF2 : Fr (fun _ => False) wr (wr.alloc (.cells #[.string last.1, .string last.2] 41)) := (Fr.refl _ _).alloc _
      obtain ⟨ao', cap', w3, hrun, hrow3, hF3, hao⟩ := spans_append _ aoa capa A [last] (hrow.row.fr hF2 (fun _ _ e => e)) (some ⟨wr.heap.size, 0, none⟩) 1 (Or.inr (sps_one last wr)) (by simp; omega)
      rw [List.length_singleton] at hrun
      have HR := hideIt hrun
      have hsz := hF.size
      have hFF := (hF.trans hF2 (fun _ _ e => e)).trans hF3 (fun i hi e => by have := hn i e; omega)
      have HFIN := hideIt (show ∃ ao'' cap'', Ending.returned (.slice ao' (A.length + 1) cap') = .returned (.slice ao'' (jn first l).length cap'') ∧ SpRow w3 ao'' cap'' (jn first l) ∧ Fr (fun _ => False) w w3 ∧ ∀ k, blk ao'' k → w.heap.size ≤ k by
        rw [← HJ2.out]
        refine ⟨ao', cap', by rw [List.length_append]; rfl, hrow3, hFF, fun k hk => ?_⟩
        rcases hao with e | e
        · exact hn k (e ▸ hk)
        · obtain ⟨a, e1, e2⟩ := hk
          rw [e] at e1
          obtain rfl := Option.some.inj e1
          simp at e2
          omega)
      clear hrow hF hn hF2 hrun hrow3 hF3 hao hFF
      go_wp2_with (first | (at_builtin; refine wpList_append_run _ rfl (.tmp 21) (.tmp 25) 33 33 rfl _ _ _ _ rfl rfl HR.out ?_))
      go_ret
      exact HFIN.out

/-- Spans, joined. -/
def joinC (l : List Sp) : List Sp := jl (sortC (fulls l))

set_option maxHeartbeats 1000000 in
theorem join_any (ao : Option Addr) (cap : Nat) (l : List Sp) (w : World) (h : l = [] ∨ SpsAt w ao l) (hb : l.length ≤ 1099511627774) :
    Calls Try.prog 37 #[.slice ao l.length cap] w fun e w' => ∃ ao' cap', e = .returned (.slice ao' (joinC l).length cap') ∧ SpRow w' ao' cap' (joinC l) ∧ Fr (fun _ => False) w w' ∧ ∀ k, blk ao' k → w.heap.size ≤ k := by
  have hR := hideIt (rising_any ao cap l w h (by omega))
  unfold joinC
  have hlen : (sortC (fulls l)).length ≤ l.length := by rw [sortC_len]; exact fulls_len l
  generalize sortC (fulls l) = m at *
  clear h
  cases m with
  | nil =>
    go_enter Try.func37, Try.ntmps37
    go_wp2_with fail
    refine Calls.mono hR.out ?_
    rintro e w1 ⟨ao1, cap1, rfl, hat, hF, hle, hn⟩
    simp only [List.length_nil]
    go_wp2_with fail
    go_ret
    exact ⟨none, 0, rfl, SpRow.nil _, hF, fun _ ⟨_, e, _⟩ => by cases e⟩
  | cons x r =>
    have hJ := hideIt (fun ao' cap' w' (h : r = [] ∨ SpsAt w' ao' r) => joined_any x ao' cap' r w' h (by simp at hlen; omega))
    go_enter Try.func37, Try.ntmps37
    go_wp2_with fail
    refine Calls.mono hR.out ?_
    rintro e w1 ⟨ao1, cap1, rfl, hat, hF, hle, hn⟩
    have hat' : SpsAt w1 ao1 (x :: r) := hat.resolve_left (by simp)
    obtain ⟨b, off, rfl, hbl, c0, c1⟩ := SpsAt.get hat 0 (by simp)
    have hc0 : w1.cell? ⟨b, off, none⟩ = some (.string x.1) := by simpa using c0
    have hc1 : w1.cell? ⟨b, off + 1, none⟩ = some (.string x.2) := by simpa using c1
    have HC := hideIt (show ∀ w' : World, Fr (fun _ => False) w1 w' → w'.cell? ⟨b, off, none⟩ = some (.string x.1) ∧ w'.cell? ⟨b, off + 1, none⟩ = some (.string x.2) ∧ Fr (fun _ => False) w1 w' from fun w' h => ⟨h.cell0 hc0, h.cell0 hc1, h⟩)
    have HAT := hideIt hat'
    have HF := hideIt hF
    have HN := hideIt hn
    simp only [List.length_cons] at hle
    clear hat hat' hF hn c0 c1
    by_cases hcap : cap1 = 1
    · subst hcap
      obtain rfl : r = [] := List.eq_nil_of_length_eq_zero (by omega)
      simp only [List.length_cons, List.length_nil]
      go_wp2_with fail
      go_region_held3 (fun w' => w'.cell? ⟨b, off, none⟩ = some (.string x.1) ∧ w'.cell? ⟨b, off + 1, none⟩ = some (.string x.2) ∧ Fr (fun _ => False) w1 w')
        (first | exact HC.out _ (by assumption) | exact HC.out _ ((Fr.refl _ _).drew) | exact HC.out _ (Fr.refl _ _))
        (first | (go_at_call 53; refine Calls.mono (hJ.out _ _ _ (by first | exact Or.inl rfl | exact Or.inl trivial | trivial)) ?_; rintro e w2 ⟨ao2, cap2, rfl, hrow, hF2, hn2⟩; have hW2 := Fr.trans ((Fr.refl (fun _ => False) w1).drew) hF2 (fun _ _ e => e)))
      go_wp2_with fail
      go_ret
      exact ⟨ao2, cap2, rfl, hrow, HF.out.trans hW2 (fun _ _ e => e), fun k hk => by have h1 : w1.heap.size ≤ k := hn2 k hk; have h2 := HF.out.size; omega⟩
    · simp only [List.length_cons]
      have hl1 : (1 : Int) ≤ (r.length : Int) + 1 := by omega
      go_wp2_with fail
      go_region_held3 (fun w' => w'.cell? ⟨b, off, none⟩ = some (.string x.1) ∧ w'.cell? ⟨b, off + 1, none⟩ = some (.string x.2) ∧ Fr (fun _ => False) w1 w')
        (first | exact HC.out _ (by assumption) | exact HC.out _ ((Fr.refl _ _).drew) | exact HC.out _ (Fr.refl _ _))
        (first | (go_at_call 53; refine Calls.mono (hJ.out _ _ _ (Or.inr (HAT.out.tail.fr0 ((Fr.refl _ _).drew)))) ?_; rintro e w2 ⟨ao2, cap2, rfl, hrow, hF2, hn2⟩; have hW2 := Fr.trans ((Fr.refl (fun _ => False) w1).drew) hF2 (fun _ _ e => e)))
      go_wp2_with fail
      go_ret
      exact ⟨ao2, cap2, rfl, hrow, HF.out.trans hW2 (fun _ _ e => e), fun k hk => by have h1 : w1.heap.size ≤ k := hn2 k hk; have h2 := HF.out.size; omega⟩

end Go.Proofs.Ytcejebelellemaa
