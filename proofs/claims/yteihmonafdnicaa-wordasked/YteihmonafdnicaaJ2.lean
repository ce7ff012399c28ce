/- The reader's ID, the walk. -/
import Derived.Test.YteihmonafdnicaaJ
namespace Go.Proofs.Yteihmonafdnicaa
open Go.RowKit Go.IntWalk
set_option linter.unusedSimpArgs false
set_option linter.unusedVariables false

theorem Try.infoIDj : (Try.prog.info? 33).map (·.size) = some 32 := by kernel_rfl

/-- A store of many cells, the world behind it a name. -/
theorem wpList_store_abs {P : Program} {ops : Array Oper} {rest : List Oper} {op : Oper} {a : Act} {w : World} {Q : Exit → Act → World → Prop} (hgd : op.guard = none) (ty : TypeId) (x y : Operand) (ho : op.op = .store ty x y)
    (b o : Nat) (cells : Array Value) (hx : a.eval x = .pointer (some ⟨b, o, none⟩)) (hy : a.eval y = .agg cells)
    (ht : w.there b o cells.size) (hi : (P.info? ty).map (·.size) = some cells.size) (h1 : cells.all (·.oneCell') = true)
    (h : ∀ W, W = w.setCells b o cells.toList → wpList P ops Q rest (a.put op.dst undef) W) : wpList P ops Q (op :: rest) a w :=
  wpList_store_mid hgd ty x y ho b o cells hx hy ht hi h1 (h _ rfl)

theorem rangeOf {w : World} {b : Nat} {A : Array Value} {t : TypeId} (h : w.heap[b]? = some (.cells A t (0, 0))) : w.rangeAt b 0 A.toList := fun j v hv => by
  rw [Nat.zero_add, cell_of_row w b j _ _ _ h, ← hv]
  simp

set_option maxRecDepth 100000 in
set_option maxHeartbeats 400000 in
theorem rid_via (p t : Nat) (v : List UInt8) (hv32 : v.length = 32) (w : World) (R : World → Prop) (hR : ∀ w1 w2, R w1 → Fr (fun k => k = w.heap.size + 1) w1 w2 → R w2) (hc : w.cell? ⟨p, 0, none⟩ = some (.pointer (some ⟨t, 0, none⟩))) (hpl : p < w.heap.size)
    (hdo : Calls Try.prog 52 #[.pointer (some ⟨t, 0, none⟩), .func (.func 62) #[] #[.pointer (some ⟨w.heap.size, 0, none⟩), .pointer (some ⟨w.heap.size + 1 + 1, 0, none⟩)]] (rboxes3 w p)
      fun e w' => e = .returned (.tuple #[]) ∧ w'.heap[w.heap.size + 1]? = some (.cells zA 33 (0, 0)) ∧ w'.heap[w.heap.size + 1 + 1]? = some (.cells (bv v).toArray 33 (0, 0)) ∧ R w') :
    Calls Try.prog 30 #[.pointer (some ⟨p, 0, none⟩)] w fun e w' => e = .returned (.agg (bv v).toArray) ∧ R w' := by
  have hmf : ∀ (fn : Fn) (first cap : Array Value) (w : World), (Instr.makeFunc fn first cap).run Try.prog w = .ok (.func fn first cap) w := fun _ _ _ _ => rfl
  have HD := hideIt hdo
  have HRR := hideIt hR
  have HT := hideIt (thereNew (((w.alloc (.cells #[.pointer (some ⟨p, 0, none⟩)] 47)).alloc (.cells zA 33)).alloc (.cells zA 33)) (w.heap.size + 1 + 1) zA 33 (heap_new (by simp)) zA.size rfl)
  have HZ := hideIt (show (Try.prog.info? 33).map (·.size) = some zA.size from Try.infoIDj)
  have HI := hideIt (show (Try.prog.info? 33).map (·.size) = some (bv v).length by rw [bv_length, hv32]; exact Try.infoIDj)
  have HI2 := hideIt (show (Try.prog.info? 33).map (·.size) = some (bv v).toArray.size by rw [List.size_toArray, bv_length, hv32]; exact Try.infoIDj)
  have H1 := hideIt (show zA.all (·.oneCell') = true from one32 zeros32)
  have H2 := hideIt (one32 v)
  have HC := hideIt (show ∀ W, W = rboxes3 w p → W.cell? ⟨p, 0, none⟩ = some (.pointer (some ⟨t, 0, none⟩)) ∧ W.cell? ⟨w.heap.size, 0, none⟩ = some (.pointer (some ⟨p, 0, none⟩)) from fun W e => by
    subst e
    exact ⟨(World.cell?_of_block (a := ⟨p, 0, none⟩) ((Fr.rboxes3 w p (fun _ => False)).block p hpl (fun e => e))).trans hc, cellOfHeap (rboxes3_get w p).1 0 rfl⟩)
  clear hdo hR
  go_enter Try.func30, Try.ntmps30
  go_wp2_with fail
  refine (rnone_some p t _ (cellA (cellA hc _) _)).mono ?_
  rintro e w' ⟨rfl, rfl⟩
  go_wp2_with (first | (refine wpList_store_abs rfl 33 (.tmp 3) (.tmp 7) rfl (w.heap.size + 1 + 1) 0 zA rfl rfl HT.out HZ.out H1.out ?_; intro W3 hW3; have hW4 := hideIt (show W3 = rboxes3 w p from hW3); clear hW3; obtain ⟨hc3, hr3⟩ := HC.out W3 hW4.out))
  obtain rfl := hW4.out
  refine Calls.mono HD.out ?_
  rintro e w4 ⟨rfl, g1, g2, hRw⟩
  have HT4 := hideIt (thereNew w4 (w.heap.size + 1) zA 33 g1 (bv v).toArray.size (by rw [List.size_toArray, bv_length, hv32]; rfl))
  have HG := hideIt (rangeOf g2)
  have HG1 := hideIt g1
  clear g1 g2
  go_wp2_with (first | (refine wpList_load_mid rfl 33 (.tmp 3) rfl (w.heap.size + 1 + 1) 0 rfl (bv v) _ HG.out Try.underlying33 rfl HI.out ?_) | (refine wpList_store_abs rfl 33 (.tmp 2) (.tmp 14) rfl (w.heap.size + 1) 0 (bv v).toArray rfl rfl HT4.out HI2.out H2.out ?_; intro W5 hW5))
  refine bodyPost_ret (results_cell_row Try.results30 _ _ (w.heap.size + 1) 33 (bv v).toArray (0, 0) _ rfl ?_ Try.underlying33 rfl HI2.out) rfl ⟨rfl, ?_⟩
  · exact setCells_full _ _ _ _ _ HG1.out (by rw [zA_size, bv_length, hv32])
  · exact HRR.out _ _ hRw (Fr.setCells _ _ _ _)

/-- What ID tells, and the state behind it. -/
def rID (bs : List UInt8) (s : Nat × Int × Int) : List UInt8 × (Nat × Int × Int) :=
  if s.2.1 ≠ 0 then (zeros32, s) else if bs.length < s.1 + 32 then (zeros32, (s.1, 4, bs.length)) else ((bs.drop s.1).take 32, (s.1 + 32, 0, s.2.2))

theorem rb3 {w : World} {p t : Nat} {ao : Option Addr} {cap : Nat} {bs : List UInt8} (at_ : Nat) (er ea : Int) (hR : RAt w p t ao cap bs at_ er ea) :
    RAt (rboxes3 w p) p t ao cap bs at_ er ea ∧ RAt (boxed (rboxes3 w p) t).drew p t ao cap bs at_ er ea ∧ w.heap.size + 1 + 1 < (rboxes3 w p).heap.size ∧ ¬ wset t ao (w.heap.size + 1 + 1) ∧
    (∀ k, k < (rboxes3 w p).heap.size → (boxed (rboxes3 w p) t).drew.heap[k]? = (rboxes3 w p).heap[k]?) ∧
    (∀ w' : World, Fr (fun k => k = t ∨ k = w.heap.size + 1 + 1) (rboxes3 w p) w' → Fr (fun k => k = t) w w' ∧ w'.heap[w.heap.size + 1]? = (rboxes3 w p).heap[w.heap.size + 1]?) := by
  have hsz := rboxes3_size w p
  have hlt := hR.lt
  have htl := hR.tp.lt
  have hB : RAt (rboxes3 w p) p t ao cap bs at_ er ea := hR.fr (Fr.rboxes3 w p (fun _ => False)) (fun e => e) (fun _ _ e => e)
  refine ⟨hB, hB.fr (Fr.boxed _ t (fun _ => False)) (fun e => e) (fun _ _ e => e), by omega, fun e => by have := hR.setlt e; omega, fun k hk => (Fr.boxed _ t (fun _ => False)).block k hk (fun e => e), fun w' hF => ⟨?_, hF.block _ (by omega) (by omega)⟩⟩
  exact (Fr.rboxes3 w p _).trans hF (fun i hi e => e.resolve_right (by omega))

theorem rid_any (p t : Nat) (ao : Option Addr) (cap : Nat) (bs : List UInt8) (s : Nat × Int × Int) (w : World) (h : ROk w p t ao cap bs s) (hb : bs.length ≤ 140737488355328) :
    Calls Try.prog 30 #[.pointer (some ⟨p, 0, none⟩)] w fun e w' => e = .returned (.agg (bv (rID bs s).1).toArray) ∧ ROk w' p t ao cap bs (rID bs s).2 ∧ Fr (fun k => k = t) w w' := by
  obtain ⟨at_, er, ea⟩ := s
  obtain ⟨hR, hat⟩ := h
  simp only at hR hat
  obtain ⟨g0, g1, g2⟩ := rboxes3_get w p
  obtain ⟨hB, hB2, hd, hdt, hbx, hfin⟩ := rb3 at_ er ea hR
  have hlt := hR.lt
  have htl := hR.tp.lt
  have hsz := rboxes3_size w p
  have hstep : ∀ (st : Nat × Int × Int) (w1 w2 : World), (ROk w1 p t ao cap bs st ∧ Fr (fun k => k = t) w w1) → Fr (fun k => k = w.heap.size + 1) w1 w2 → (ROk w2 p t ao cap bs st ∧ Fr (fun k => k = t) w w2) := fun st w1 w2 h1 hF =>
    ⟨⟨h1.1.1.fr hF (fun e => by omega) (fun k hk e => by have := hR.setlt hk; omega), h1.1.2⟩, h1.2.trans hF (fun i hi e => by omega)⟩
  by_cases her : er = 0
  · subst her
    by_cases hl : bs.length < at_ + 32
    · rw [show rID bs (at_, 0, ea) = (zeros32, (at_, 4, (bs.length : Int))) by simp [rID, hl]]
      refine rid_via p t zeros32 rfl w (fun w' => ROk w' p t ao cap bs (at_, 4, (bs.length : Int)) ∧ Fr (fun k => k = t) w w') (hstep _) hR.c hlt ?_
      refine (rdo_bad (d := w.heap.size + 1 + 1) 62 _ 4 bs.length hB hd hdt (fun _ => by kernel_rfl) (rid1_bad p t _ _ ao cap bs at_ 0 ea _ hB2 hb hat hl (cellOfHeap ((hbx _ (by omega)).trans g0) 0 rfl))).mono ?_
      rintro e w' ⟨rfl, h1, h2, h3⟩
      exact ⟨rfl, (hfin w' h3).2.trans g1, h1.trans g2, ⟨h2, hat⟩, (hfin w' h3).1⟩
    · rw [show rID bs (at_, 0, ea) = ((bs.drop at_).take 32, (at_ + 32, 0, ea)) by simp [rID, hl]]
      refine rid_via p t _ (by simp; omega) w (fun w' => ROk w' p t ao cap bs (at_ + 32, 0, ea) ∧ Fr (fun k => k = t) w w') (hstep _) hR.c hlt ?_
      refine (rdo_ok (d := w.heap.size + 1 + 1) 62 _ _ (at_ + 32 : Nat) hB hd hdt (by omega) (fun _ => by kernel_rfl) (rid1_ok p t _ _ ao cap bs at_ 0 ea zA _ hB2 hb (by omega)
        (cellOfHeap ((hbx _ (by omega)).trans g0) 0 rfl) ((hbx _ (by omega)).trans g2) rfl (by omega) (by omega) (by omega) (fun e => hdt (Or.inr e)))).mono ?_
      rintro e w' ⟨rfl, h1, h2, h3⟩
      exact ⟨rfl, (hfin w' h3).2.trans g1, h1, ⟨h2, by simp only; omega⟩, (hfin w' h3).1⟩
  · rw [show rID bs (at_, er, ea) = (zeros32, (at_, er, ea)) by simp [rID, her]]
    refine rid_via p t zeros32 rfl w (fun w' => ROk w' p t ao cap bs (at_, er, ea) ∧ Fr (fun k => k = t) w w') (hstep _) hR.c hlt ?_
    refine (rdo_shut (d := w.heap.size + 1 + 1) _ hB (by simpa using her) hd).mono ?_
    rintro e w' ⟨rfl, h1, h2, h3⟩
    exact ⟨rfl, (hfin w' h3).2.trans g1, h1.trans g2, ⟨h2, hat⟩, (hfin w' h3).1⟩

end Go.Proofs.Yteihmonafdnicaa
