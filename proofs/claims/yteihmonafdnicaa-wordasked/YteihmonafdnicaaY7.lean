/- The document's own reader: IDs. Bytes that are lent. -/
import Derived.Test.YteihmonafdnicaaY6
import Derived.Test.YteihmonafdnicaaX4
namespace Go.Proofs.Yteihmonafdnicaa
open Go.RowKit Go.IntWalk
set_option linter.unusedSimpArgs false
set_option linter.unusedVariables false

theorem idAt_all (x : List UInt8) (h : x.length = 32) : idAt x x.length = x := by
  unfold idAt
  rw [List.take_length, List.drop_of_length_le (by rw [h]; exact Nat.le_refl 32), List.append_nil]

theorem yid_any (p : Nat) (ao : Option Addr) (cap : Nat) (bs : List UInt8) (s : Nat × Int × Int) (w : World) (h : YOk w p ao cap bs s) (hlt : ∀ k, blk ao k → k < w.heap.size) (hb : bs.length ≤ 140737488355328) (hcl : bs.length ≤ cap) (hcm : cap ≤ maxLen) :
    Calls Try.prog 31 #[.pointer (some ⟨p, 0, none⟩)] w fun e w' => e = .returned (.agg (bv (rID bs s).1).toArray) ∧ YOk w' p ao cap bs (rID bs s).2 ∧ Fr (fun k => k = p) w w' := by
  obtain ⟨at_, er, ea⟩ := s
  obtain ⟨hY, hap, hat⟩ := h
  simp only at hY hat
  have hpl := hY.lt
  have hF0 : Fr (fun _ => False) w (yiW w) := ((Fr.refl _ w).alloc _).alloc _
  have hY0 := hY.fr hF0 (fun e => e) (fun _ _ _ e => e)
  have g0 : (yiW w).heap[w.heap.size]? = some (.cells zA 33 (0, 0)) := heap_old (heap_new rfl)
  have g1 : (yiW w).heap[w.heap.size + 1]? = some (.cells zA 33 (0, 0)) := heap_new (by simp)
  have hsz : (yiW w).heap.size = w.heap.size + 1 + 1 := by simp [yiW]
  have keep : ∀ w1, Fr (fun k => k = p) (yiW w) w1 → w1.heap[w.heap.size]? = some (.cells zA 33 (0, 0)) ∧ w1.heap[w.heap.size + 1]? = some (.cells zA 33 (0, 0)) ∧ Fr (fun k => k = p) w w1 := fun w1 hF =>
    ⟨(hF.block _ (by omega) (by omega)).trans g0, (hF.block _ (by omega) (by omega)).trans g1, (hF0.mono (S' := fun k => k = p) (fun _ e => e.elim)).trans hF (fun _ _ e => e)⟩
  have hR : ∀ st : Nat × Int × Int, ∀ w1 w2 : World, (YOk w1 p ao cap bs st ∧ Fr (fun k => k = p) w w1) → Fr (fun k => w.heap.size ≤ k) w1 w2 → (YOk w2 p ao cap bs st ∧ Fr (fun k => k = p) w w2) := fun st w1 w2 h1 hF =>
    ⟨⟨h1.1.1.fr hF (by omega) (fun k _ hk => by have := hlt k hk; omega), h1.1.2⟩, h1.2.trans hF (fun i hi e => by omega)⟩
  by_cases her : er = 0
  · subst her
    by_cases hl : bs.length < at_ + 32
    · rw [show rID bs (at_, 0, ea) = (zeros32, (at_, 4, (bs.length : Int))) by simp [rID, hl]]
      refine yid_via p [] (by simp) w (fun w' => YOk w' p ao cap bs (at_, 4, (bs.length : Int)) ∧ Fr (fun k => k = p) w w') (hR _) ((ypass_long p ao cap bs at_ ea 0 32 (yiW w) hY0 hap at_ (by omega) hat hb (by omega)).mono ?_)
      rintro e w2 ⟨rfl, hY2, hF2⟩
      exact ⟨none, 0, rfl, Or.inl ⟨rfl, rfl⟩, fun _ _ e => absurd rfl e, (keep w2 hF2).1, (keep w2 hF2).2.1, ⟨hY2, hap, hat⟩, (keep w2 hF2).2.2⟩
    · rw [show rID bs (at_, 0, ea) = ((bs.drop at_).take 32, (at_ + 32, 0, ea)) by simp [rID, hl]]
      have hxl : ((bs.drop at_).take 32).length = 32 := by simp; omega
      have hne : ao ≠ none := by
        rintro rfl
        rcases hY.bytes with ⟨_, e⟩ | ⟨_, _, e, _⟩
        · rw [e] at hl
          simp at hl
        · cases e
      obtain ⟨b, off, hao⟩ : ∃ b off, ao = some ⟨b, off, none⟩ := by
        rcases hY.bytes with ⟨e, _⟩ | ⟨b, off, e, _⟩
        · exact absurd e hne
        · exact ⟨b, off, e⟩
      have hv := yid_via p ((bs.drop at_).take 32) (by omega) w (fun w' => YOk w' p ao cap bs (at_ + 32, 0, ea) ∧ Fr (fun k => k = p) w w') (hR _) ((ypass_ok2 p ao cap bs at_ ea 0 32 (yiW w) hY0 hap at_ 32 (by omega) rfl (by omega) hb hcl hcm hne).mono (by
        rintro e w2 ⟨ao', cap', rfl, hB2, hY2, hF2, hbl⟩
        refine ⟨ao', cap', by rw [hxl], hB2, fun k hk _ => hlt k (hbl k hk), (keep w2 hF2).1, (keep w2 hF2).2.1, ⟨?_, hap, by simp only; omega⟩, (keep w2 hF2).2.2⟩
        simpa using hY2))
      rw [idAt_all _ hxl] at hv
      exact hv
  · rw [show rID bs (at_, er, ea) = (zeros32, (at_, er, ea)) by simp [rID, her]]
    refine yid_via p [] (by simp) w (fun w' => YOk w' p ao cap bs (at_, er, ea) ∧ Fr (fun k => k = p) w w') (hR _) ((ypass_shut p ao cap bs at_ er ea 0 32 (yiW w) hY0 her (by omega) (by omega) (by omega)).mono ?_)
    rintro e w2 ⟨rfl, rfl⟩
    exact ⟨none, 0, rfl, Or.inl ⟨rfl, rfl⟩, fun _ _ e => absurd rfl e, g0, g1, ⟨hY0, hap, hat⟩, hF0.mono (fun _ e => e.elim)⟩

end Go.Proofs.Yteihmonafdnicaa
