/- Spans: the document's small functions. -/
import Derived.Test.YtcbmkiiahdbipaaTb
namespace Go.Proofs.Ytcbmkiiahdbipaa
open Go.RowKit Go.IntWalk
set_option linter.unusedSimpArgs false
set_option linter.unusedVariables false

theorem zin_any (s : Sp) (k : ByteArray) (w : World) : Calls Try.prog 11 #[.agg #[.string s.1, .string s.2], .string k] w fun e w' => e = .returned (.bool (decide (KeyIn s k.toList))) ∧ Fr (fun _ => False) w w' := by
  go_enter Try.func11, Try.ntmps11
  go_wp2
  all_goals
    go_ret
    refine ⟨?_, (Fr.refl _ _).alloc _⟩
    refine rb ?_
    simp_all [bytesLess_eq, KeyIn, NonE, lo, hi]

theorem zempty_any (s : Sp) (w : World) : Calls Try.prog 13 #[.agg #[.string s.1, .string s.2]] w fun e w' => e = .returned (.bool (decide (¬ NonE s))) ∧ Fr (fun _ => False) w w' := by
  go_enter Try.func13, Try.ntmps13
  go_wp2
  all_goals
    go_ret
    refine ⟨?_, (Fr.refl _ _).alloc _⟩
    refine rb ?_
    first | (simp_all [NonE, hi]; done) | (rw [le_iff]; simp_all [NonE, lo, hi])

/-- The lesser end. -/
def leastS (a b : ByteArray) : ByteArray := if a.toList = [] ∨ b.toList ≠ [] ∧ b.toList < a.toList then b else a

theorem zleast_any (a b : ByteArray) (w : World) : Calls Try.prog 33 #[.string a, .string b] w fun e w' => e = .returned (.string (leastS a b)) ∧ w' = w := by
  go_enter Try.func33, Try.ntmps33
  go_wp2
  all_goals
    go_ret
    refine ⟨?_, rfl⟩
    simp_all [bytesLess_eq, leastS]
    first | done | (intro h; exact absurd h (List.not_lt.2 ‹_›))
theorem zmeets_any (a b : Sp) (w : World) : Calls Try.prog 15 #[.agg #[.string a.1, .string a.2], .agg #[.string b.1, .string b.2]] w fun e w' => e = .returned (.bool (decide (NonE (Lib.maxS a.1 b.1, leastS a.2 b.2)))) ∧ Fr (fun _ => False) w w' := by
  have hm := meets_lo a b
  generalize Lib.maxS a.1 b.1 = m at *
  have hL := hideIt (fun w => zleast_any a.2 b.2 w)
  generalize leastS a.2 b.2 = n at *
  have hE := hideIt (fun w => zempty_any (m, n) w)
  have hx : decide (NonE (m, n)) = !(decide (¬ NonE (m, n))) := by simp only [decide_not, Bool.not_not]
  rw [hx]
  clear hx
  generalize decide (¬ NonE (m, n)) = x at *
  have C : ∀ (w' : World), Fr (fun _ => False) ((w.alloc (.cells #[.string a.1, .string a.2] 23)).alloc (.cells #[.string b.1, .string b.2] 23)) w' → w'.cell? ⟨w.heap.size, 0, none⟩ = some (.string a.1) ∧ w'.cell? ⟨w.heap.size, 1, none⟩ = some (.string a.2) ∧ w'.cell? ⟨w.heap.size + 1, 0, none⟩ = some (.string b.1) ∧ w'.cell? ⟨w.heap.size + 1, 1, none⟩ = some (.string b.2) ∧ Fr (fun _ => False) ((w.alloc (.cells #[.string a.1, .string a.2] 23)).alloc (.cells #[.string b.1, .string b.2] 23)) w' := fun w' h =>
    ⟨h.cell0 (cellA (cellNew w _ _ _ 0 rfl) _), h.cell0 (cellA (cellNew w _ _ _ 1 rfl) _), h.cell0 (cellNew _ _ _ _ 0 (by simp)), h.cell0 (cellNew _ _ _ _ 1 (by simp)), h⟩
  have HC := hideIt C
  clear C
  go_enter Try.func15, Try.ntmps15
  go_wp2_with fail
  go_region_held3 (fun w' => w'.cell? ⟨w.heap.size, 0, none⟩ = some (.string a.1) ∧ w'.cell? ⟨w.heap.size, 1, none⟩ = some (.string a.2) ∧ w'.cell? ⟨w.heap.size + 1, 0, none⟩ = some (.string b.1) ∧ w'.cell? ⟨w.heap.size + 1, 1, none⟩ = some (.string b.2) ∧ Fr (fun _ => False) ((w.alloc (.cells #[.string a.1, .string a.2] 23)).alloc (.cells #[.string b.1, .string b.2] 23)) w')
    (first | exact HC.out _ (by assumption) | exact HC.out _ ((Fr.refl _ _).drew) | exact HC.out _ (Fr.refl _ _))
    (first | (go_at_call 33; refine Calls.mono (hL.out _) ?_; rintro e wX ⟨rfl, rfl⟩) | (go_at_call 13; refine Calls.mono (hE.out _) ?_; rintro e wB ⟨rfl, hFB⟩; have hWB := Fr.trans ((Fr.refl (fun _ => False) _).drew) hFB (fun _ _ e => e)))
  all_goals
    go_wp2_with fail
    go_ret
    exact ⟨rfl, (((Fr.refl _ _).alloc _).alloc _).trans hWB (fun _ _ e => e)⟩

theorem zupto_any (s : Sp) (k : ByteArray) (hk : k.size < 9223372036854775807) (w : World) : Calls Try.prog 19 #[.agg #[.string s.1, .string s.2], .string k] w fun e w' => e = .returned (.agg #[.string s.1, .string (leastS s.2 (bhd k))]) ∧ Fr (fun _ => False) w w' := by
  have hL := hideIt (fun w => zleast_any s.2 (bhd k) w)
  generalize leastS s.2 (bhd k) = n at *
  have hb : ¬ 9223372036854775807 < k.size + 1 := by omega
  clear hk
  go_enter Try.func19, Try.ntmps19
  go_wp2_with fail
  go_region_with (first | (go_at_call 33; refine Calls.mono (hL.out _) ?_; rintro e wX ⟨rfl, rfl⟩))
  all_goals
    go_wp2_with fail
    exact bodyPost_ret (v := .agg #[.string s.1, .string n]) (by simp [results, Try.results19, go_sem]) rfl ⟨rfl, by first | exact ((Fr.refl _ _).alloc _).alloc _ | exact (((Fr.refl _ _).alloc _).alloc _).drew⟩

end Go.Proofs.Ytcbmkiiahdbipaa
