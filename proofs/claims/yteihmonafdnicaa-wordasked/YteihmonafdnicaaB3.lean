/- ask, whole. -/
import Derived.Test.YteihmonafdnicaaB2
namespace Go.Proofs.Yteihmonafdnicaa
open Go.RowKit Go.IntWalk
set_option linter.unusedSimpArgs false
set_option linter.unusedVariables false

/-- What an ask tells, and the state behind it. -/
def askS (bs : List UInt8) (q : Int × Int × Int) (s : Nat × Int × Int) : Th × (Nat × Int × Int) :=
  if q.1 = 0 then (⟨0, (rInt bs q.2.1 q.2.2 s).1, ⟨#[]⟩, zeros32⟩, (rInt bs q.2.1 q.2.2 s).2)
  else if q.1 = 1 then (⟨0, (rCount bs q.2.2 s).1, ⟨#[]⟩, zeros32⟩, (rCount bs q.2.2 s).2)
  else if q.1 = 2 then (⟨1, 0, ⟨(rText bs q.2.2 s).1.toArray⟩, zeros32⟩, (rText bs q.2.2 s).2)
  else if q.1 = 3 then (⟨2, 0, ⟨#[]⟩, (rID bs s).1⟩, (rID bs s).2)
  else (⟨3, 0, ⟨#[]⟩, zeros32⟩, s)

theorem rID_len (bs : List UInt8) (s : Nat × Int × Int) : (rID bs s).1.length = 32 := by
  unfold rID
  split
  · rfl
  · split
    · rfl
    · simp; omega

/-- An ask's cells. -/
def askV (q : Int × Int × Int) : Value := .agg #[.int .i64 q.1, .int .i64 q.2.1, .int .i64 q.2.2]

theorem ask_any (p t : Nat) (ao : Option Addr) (cap : Nat) (bs : List UInt8) (s : Nat × Int × Int) (q : Int × Int × Int) (w : World) (h : ROk w p t ao cap bs s) (hb : bs.length ≤ 140737488355328) :
    Calls Try.prog 42 #[.pointer (some ⟨p, 0, none⟩), askV q] w fun e w' => e = .returned (.agg (thA (askS bs q s).1)) ∧ ROk w' p t ao cap bs (askS bs q s).2 ∧ Fr (fun k => k = t) w w' := by
  obtain ⟨k, low, n⟩ := q
  have htl := h.1.tp.lt
  have hpl := h.1.lt
  have hF0 : Fr (fun _ => False) w (askW w k low n) := ((Fr.refl _ w).alloc _).alloc _
  have hA : ROk (askW w k low n) p t ao cap bs s := ⟨h.1.fr hF0 (fun e => e) (fun _ _ e => e), h.2⟩
  have g0 : (askW w k low n).heap[w.heap.size + 1]? = some (.cells thZ 35 (0, 0)) := heap_new (by simp)
  have hset := fun {j} => h.1.setlt (k := j)
  have hstep : ∀ (st : Nat × Int × Int) (w1 w2 : World), (ROk w1 p t ao cap bs st ∧ Fr (fun k => k = t) w w1) → Fr (fun k => k = w.heap.size + 1) w1 w2 → (ROk w2 p t ao cap bs st ∧ Fr (fun k => k = t) w w2) := fun st w1 w2 h1 hF =>
    ⟨⟨h1.1.1.fr hF (fun e => by omega) (fun k hk e => by have := hset hk; omega), h1.1.2⟩, h1.2.trans hF (fun i hi e => by omega)⟩
  have hres : ∀ (w' : World), Fr (fun k => k = t) (askW w k low n) w' → w'.heap[w.heap.size + 1]? = some (.cells thZ 35 (0, 0)) ∧ Fr (fun k => k = t) w w' := fun w' hF =>
    ⟨(hF.block _ (by simp [askW]) (by omega)).trans g0, (hF0.mono (fun _ e => e.elim)).trans hF (fun _ _ e => e)⟩
  show Calls Try.prog 42 #[.pointer (some ⟨p, 0, none⟩), .agg #[.int .i64 k, .int .i64 low, .int .i64 n]] w _
  by_cases h0 : k = 0
  · rw [show askS bs (k, low, n) s = (⟨0, (rInt bs low n s).1, ⟨#[]⟩, zeros32⟩, (rInt bs low n s).2) by simp [askS, h0]]
    exact ask_int p k low n w (fun w' => ROk w' p t ao cap bs (rInt bs low n s).2 ∧ Fr (fun k => k = t) w w') _ (by simp [h0]) (hstep _) ((rint_any p t ao cap bs s low n _ hA hb).mono fun e w' hh => ⟨hh.1, (hres w' hh.2.2).1, hh.2.1, (hres w' hh.2.2).2⟩)
  by_cases h1 : k = 1
  · rw [show askS bs (k, low, n) s = (⟨0, (rCount bs n s).1, ⟨#[]⟩, zeros32⟩, (rCount bs n s).2) by simp [askS, h1]]
    exact ask_count p k low n w (fun w' => ROk w' p t ao cap bs (rCount bs n s).2 ∧ Fr (fun k => k = t) w w') _ (by simp [h0]) (by simp [h1]) (hstep _) ((rcount_any p t ao cap bs s n _ hA hb).mono fun e w' hh => ⟨hh.1, (hres w' hh.2.2).1, hh.2.1, (hres w' hh.2.2).2⟩)
  by_cases h2 : k = 2
  · rw [show askS bs (k, low, n) s = (⟨1, 0, ⟨(rText bs n s).1.toArray⟩, zeros32⟩, (rText bs n s).2) by simp [askS, h2]]
    exact ask_text p k low n w (fun w' => ROk w' p t ao cap bs (rText bs n s).2 ∧ Fr (fun k => k = t) w w') _ (by simp [h0]) (by simp [h1]) (by simp [h2]) (hstep _) ((rtext_any p t ao cap bs s n _ hA hb).mono fun e w' hh => ⟨hh.1, (hres w' hh.2.2).1, hh.2.1, (hres w' hh.2.2).2⟩)
  by_cases h3 : k = 3
  · rw [show askS bs (k, low, n) s = (⟨2, 0, ⟨#[]⟩, (rID bs s).1⟩, (rID bs s).2) by simp [askS, h3]]
    exact ask_id p k low n w (fun w' => ROk w' p t ao cap bs (rID bs s).2 ∧ Fr (fun k => k = t) w w') _ (rID_len bs s) (by simp [h0]) (by simp [h1]) (by simp [h2]) (by simp [h3]) (hstep _) ((rid_any p t ao cap bs s _ hA hb).mono fun e w' hh => ⟨hh.1, (hres w' hh.2.2).1, hh.2.1, (hres w' hh.2.2).2⟩)
  · rw [show askS bs (k, low, n) s = (⟨3, 0, ⟨#[]⟩, zeros32⟩, s) by simp [askS, h0, h1, h2, h3]]
    exact ask_none p k low n w (fun w' => ROk w' p t ao cap bs s ∧ Fr (fun k => k = t) w w') (by simp [h0]) (by simp [h1]) (by simp [h2]) (by simp [h3]) (hstep _) ⟨hA, hF0.mono (fun _ e => e.elim)⟩

end Go.Proofs.Yteihmonafdnicaa
