/- Code: a thing is read. -/
import Derived.Test.YtpieaenfnajlfaaCc
namespace Go.Proofs.Ytpieaenfnajlfaa
open Go.RowKit Go.IntWalk
set_option linter.unusedSimpArgs false
set_option linter.unusedVariables false

set_option maxRecDepth 100000 in
theorem take_num (q f p t : Nat) (lo hi v : Int) (i : Ins) (ao : Option Addr) (cap : Nat) (bs : List UInt8) (s : Nat × Int × Int) (w : World) (hc : w.cell? ⟨q, f, none⟩ = some (.int .i64 v)) (hf : w.frozen? ⟨q, f, none⟩ = false) (hpl : q < w.heap.size) (hI : InsAt w q i) (h1 : 1 ≤ f) (h4 : f ≤ 4) (h : ROk w p t ao cap bs s) (hb : bs.length ≤ 140737488355328) (htl : t < w.heap.size) (hqt : ¬ wset t ao q) (hqp : ¬ q = p) :
    Calls Try.prog 41 #[numV q f lo hi, .pointer (some ⟨p, 0, none⟩)] w fun e w' => e = .returned (.tuple #[]) ∧ InsAt w' q (i.put f (rInt bs lo hi s).1) ∧ ROk w' p t ao cap bs (rInt bs lo hi s).2 ∧ Fr (fun k => k = t ∨ k = q) w w' := by
  have hqt' : ¬ q = t := fun e => hqt (Or.inl e)
  have hII := hideIt hI
  have HS0 := hideIt (show (fun w0 => w0.cell? ⟨w.heap.size, 0, none⟩ = some (.pointer (some ⟨q, f, none⟩)) ∧ w0.cell? ⟨w.heap.size, 1, none⟩ = some (.int .i64 lo) ∧ w0.cell? ⟨w.heap.size, 2, none⟩ = some (.int .i64 hi)) (w.alloc (.cells #[.pointer (some ⟨q, f, none⟩), .int .i64 lo, .int .i64 hi, .pointer none] 53)).drew from ⟨cellOfHeap (heap_new rfl) 0 rfl, cellOfHeap (heap_new rfl) 1 rfl, cellOfHeap (heap_new rfl) 2 rfl⟩)
  have HS := hideIt (show ∀ w1, Fr (fun k => k = t) (w.alloc (.cells #[.pointer (some ⟨q, f, none⟩), .int .i64 lo, .int .i64 hi, .pointer none] 53)).drew w1 → (fun w0 => w0.cell? ⟨w.heap.size, 0, none⟩ = some (.pointer (some ⟨q, f, none⟩)) ∧ w0.cell? ⟨w.heap.size, 1, none⟩ = some (.int .i64 lo) ∧ w0.cell? ⟨w.heap.size, 2, none⟩ = some (.int .i64 hi)) w1 from fun w1 hF => by
    have e := (hF.block w.heap.size (by simp) (by omega)).trans (heap_new (o := (.cells #[.pointer (some ⟨q, f, none⟩), .int .i64 lo, .int .i64 hi, .pointer none] 53)) rfl)
    exact ⟨cellOfHeap (e) 0 rfl, cellOfHeap (e) 1 rfl, cellOfHeap (e) 2 rfl⟩)
  have HS1 := hideIt (show ∀ w1, Fr (fun k => k = t) (w.alloc (.cells #[.pointer (some ⟨q, f, none⟩), .int .i64 lo, .int .i64 hi, .pointer none] 53)).drew w1 → ∀ v, (fun w0 => w0.cell? ⟨w.heap.size, 0, none⟩ = some (.pointer (some ⟨q, f, none⟩)) ∧ w0.cell? ⟨w.heap.size, 1, none⟩ = some (.int .i64 lo) ∧ w0.cell? ⟨w.heap.size, 2, none⟩ = some (.int .i64 hi)) (w1.setCell ⟨q, f, none⟩ v) from fun w1 hF v => by
    have e := ((((Fr.refl (fun k => k = q) w1).setCell (p := ⟨q, f, none⟩) (fun _ => rfl) v).block w.heap.size (by have := hF.size; simp at this; omega) (by omega)).trans (hF.block w.heap.size (by simp) (by omega))).trans (heap_new (o := (.cells #[.pointer (some ⟨q, f, none⟩), .int .i64 lo, .int .i64 hi, .pointer none] 53)) rfl)
    exact ⟨cellOfHeap (e) 0 rfl, cellOfHeap (e) 1 rfl, cellOfHeap (e) 2 rfl⟩)
  have HR := hideIt (rint_any p t ao cap bs s lo hi (w.alloc (.cells #[.pointer (some ⟨q, f, none⟩), .int .i64 lo, .int .i64 hi, .pointer none] 53)).drew (h.fr0 (((Fr.refl _ _).alloc _).drew)) hb)
  generalize rInt bs lo hi s = R at *
  clear h
  unfold numV
  go_enter Try.func41, Try.ntmps41
  go_wp2_with fail
  refine wp_region_held_drew (S := fun w0 => w0.cell? ⟨w.heap.size, 0, none⟩ = some (.pointer (some ⟨q, f, none⟩)) ∧ w0.cell? ⟨w.heap.size, 1, none⟩ = some (.int .i64 lo) ∧ w0.cell? ⟨w.heap.size, 2, none⟩ = some (.int .i64 hi)) (by kernel_rfl) ?_ (fun hHeld => ?_)
  · exact HS0.out
  refine wpAnyH_take (i := 0) (v := ?v1) rfl (by kernel_rfl) (by kernel_rfl) (by kernel_rfl) (fun _ _ _ h => h) (Or.inl ⟨by rfl, ?hy1⟩) (by assumption) ?rest1
  case hy1 => intro w hSw; (try dsimp only at hSw); go_simp; (try with_reducible rfl)
  try simp only [Act.put, List.setIfInBounds_toArray, List.set_cons_zero, List.set_cons_succ]
  refine wpAnyH_take (i := 1) (v := ?v2) rfl (by kernel_rfl) (by kernel_rfl) (by kernel_rfl) (fun _ _ _ h => h) (Or.inl ⟨by rfl, ?hy2⟩) (by assumption) ?rest2
  case hy2 => intro w hSw; (try dsimp only at hSw); go_simp; (try with_reducible rfl)
  try simp only [Act.put, List.setIfInBounds_toArray, List.set_cons_zero, List.set_cons_succ]
  refine wpAnyH_take (i := 2) (v := ?v3) rfl (by kernel_rfl) (by kernel_rfl) (by kernel_rfl) (fun _ _ _ h => h) (Or.inl ⟨by rfl, ?hy3⟩) (by assumption) ?rest3
  case hy3 => intro w hSw; (try dsimp only at hSw); go_simp; (try with_reducible rfl)
  try simp only [Act.put, List.setIfInBounds_toArray, List.set_cons_zero, List.set_cons_succ]
  refine wpAnyH_take (i := 3) (v := ?v4) rfl (by kernel_rfl) (by kernel_rfl) (by kernel_rfl) (fun _ _ _ h => h) (Or.inl ⟨by rfl, ?hy4⟩) (by assumption) ?rest4
  case hy4 => intro w hSw; (try dsimp only at hSw); go_simp; (try with_reducible rfl)
  try simp only [Act.put, List.setIfInBounds_toArray, List.set_cons_zero, List.set_cons_succ]
  refine wpAnyH_take (i := 4) (v := ?v5) rfl (by kernel_rfl) (by kernel_rfl) (by kernel_rfl) (fun _ _ _ h => h) (Or.inl ⟨by rfl, ?hy5⟩) (by assumption) ?rest5
  case hy5 => intro w hSw; (try dsimp only at hSw); go_simp; (try with_reducible rfl)
  try simp only [Act.put, List.setIfInBounds_toArray, List.set_cons_zero, List.set_cons_succ]
  refine wpAnyH_take (i := 5) (v := ?v6) rfl (by kernel_rfl) (by kernel_rfl) (by kernel_rfl) (fun _ _ _ h => h) (Or.inl ⟨by rfl, ?hy6⟩) (by assumption) ?rest6
  case hy6 => intro w hSw; (try dsimp only at hSw); go_simp; (try with_reducible rfl)
  try simp only [Act.put, List.setIfInBounds_toArray, List.set_cons_zero, List.set_cons_succ]
  refine wpAnyH_take (i := 6) (v := ?v7) rfl (by kernel_rfl) (by kernel_rfl) (by kernel_rfl) (fun _ _ _ h => h) (Or.inl ⟨by rfl, ?hy7⟩) (by assumption) ?rest7
  case hy7 => intro w hSw; (try dsimp only at hSw); go_simp; (try with_reducible rfl)
  try simp only [Act.put, List.setIfInBounds_toArray, List.set_cons_zero, List.set_cons_succ]
  refine wpAnyH_ready (rs := [7]) (by kernel_rfl) (by simp) ?_
  refine AllReadyH.cons rfl (fun K hK => ?_) AllReadyH.nil
  go_simp
  refine Calls.mono (HR.out) ?_
  rintro e w2 ⟨rfl, hok, hF⟩
  have HOK := hideIt hok
  have HF := hideIt hF
  have hc2 : w2.cell? ⟨q, f, none⟩ = some _ := (World.cell?_of_block (a := ⟨q, f, none⟩) (hF.block q (by simp; omega) (by assumption))).trans (cellA hc _)
  have hf2 : w2.frozen? ⟨q, f, none⟩ = false := (World.frozen?_of_block (a := ⟨q, f, none⟩) (hF.block q (by simp; omega) (by assumption))).trans ((World.frozen?_alloc_old _ _ _ (by simp; omega)).trans hf)
  clear hok hF
  refine hK.out _ _ ?_ (fun hHeld => ?_)
  · exact HS.out _ HF.out
  clear hK K
  try simp only [Act.put, List.setIfInBounds_toArray, List.set_cons_zero, List.set_cons_succ]
  refine wpAnyH_take (i := 8) (v := ?v8) rfl (by kernel_rfl) (by kernel_rfl) (by kernel_rfl) (fun _ _ _ h => h) (Or.inl ⟨by rfl, ?hy8⟩) (by assumption) ?rest8
  case hy8 => intro w hSw; (try dsimp only at hSw); go_simp; (try with_reducible rfl)
  try simp only [Act.put, List.setIfInBounds_toArray, List.set_cons_zero, List.set_cons_succ]
  refine wpAnyH_ready (rs := [9]) (by kernel_rfl) (by simp) ?_
  refine AllReadyH.cons rfl (fun K hK => ?_) AllReadyH.nil
  go_simp
  refine hK.out _ _ ?_ (fun hHeld => ?_)
  · exact HS1.out _ HF.out _
  clear hK K
  try simp only [Act.put, List.setIfInBounds_toArray, List.set_cons_zero, List.set_cons_succ]
  refine wpAnyH_done (by kernel_rfl) ?_ _
  skip
  go_wp2_with fail
  go_end0
  have hFW : Fr (fun k => k = t) w w2 := (((Fr.refl _ _).alloc _).drew).trans HF.out (fun _ _ e => e)
  have hFS := hFW.mono (S' := fun k => k = t ∨ k = q) (fun _ e => Or.inl e)
  have hRS := HOK.out
  exact ⟨rfl, (hII.out.fr hFW hqt').putN f h1 h4 _, ⟨hRS.1.fr ((Fr.refl (fun k => k = q) w2).setCell (p := ⟨q, f, none⟩) (fun _ => rfl) _) (fun e => hqp e.symm) (fun k hk e => hqt (e ▸ hk)), hRS.2⟩, hFS.setCell (fun _ => Or.inr rfl) _⟩

set_option maxRecDepth 100000 in
theorem take_text (q p t : Nat) (v : ByteArray) (i : Ins) (ao : Option Addr) (cap : Nat) (bs : List UInt8) (s : Nat × Int × Int) (w : World) (hc : w.cell? ⟨q, 5, none⟩ = some (.string v)) (hf : w.frozen? ⟨q, 5, none⟩ = false) (hpl : q < w.heap.size) (hI : InsAt w q i) (h : ROk w p t ao cap bs s) (hb : bs.length ≤ 140737488355328) (htl : t < w.heap.size) (hqt : ¬ wset t ao q) (hqp : ¬ q = p) :
    Calls Try.prog 41 #[textV q, .pointer (some ⟨p, 0, none⟩)] w fun e w' => e = .returned (.tuple #[]) ∧ InsAt w' q { i with s := ⟨(rText bs 64 s).1.toArray⟩ } ∧ ROk w' p t ao cap bs (rText bs 64 s).2 ∧ Fr (fun k => k = t ∨ k = q) w w' := by
  have hqt' : ¬ q = t := fun e => hqt (Or.inl e)
  have hII := hideIt hI
  have HS0 := hideIt (show (fun w0 => w0.cell? ⟨w.heap.size, 3, none⟩ = some (.pointer (some ⟨q, 5, none⟩))) (w.alloc (.cells #[.pointer none, .int .i64 0, .int .i64 0, .pointer (some ⟨q, 5, none⟩)] 53)).drew from cellOfHeap (heap_new rfl) 3 rfl)
  have HS := hideIt (show ∀ w1, Fr (fun k => k = t) (w.alloc (.cells #[.pointer none, .int .i64 0, .int .i64 0, .pointer (some ⟨q, 5, none⟩)] 53)).drew w1 → (fun w0 => w0.cell? ⟨w.heap.size, 3, none⟩ = some (.pointer (some ⟨q, 5, none⟩))) w1 from fun w1 hF => by
    have e := (hF.block w.heap.size (by simp) (by omega)).trans (heap_new (o := (.cells #[.pointer none, .int .i64 0, .int .i64 0, .pointer (some ⟨q, 5, none⟩)] 53)) rfl)
    exact cellOfHeap (e) 3 rfl)
  have HS1 := hideIt (show ∀ w1, Fr (fun k => k = t) (w.alloc (.cells #[.pointer none, .int .i64 0, .int .i64 0, .pointer (some ⟨q, 5, none⟩)] 53)).drew w1 → ∀ v, (fun w0 => w0.cell? ⟨w.heap.size, 3, none⟩ = some (.pointer (some ⟨q, 5, none⟩))) (w1.setCell ⟨q, 5, none⟩ v) from fun w1 hF v => by
    have e := ((((Fr.refl (fun k => k = q) w1).setCell (p := ⟨q, 5, none⟩) (fun _ => rfl) v).block w.heap.size (by have := hF.size; simp at this; omega) (by omega)).trans (hF.block w.heap.size (by simp) (by omega))).trans (heap_new (o := (.cells #[.pointer none, .int .i64 0, .int .i64 0, .pointer (some ⟨q, 5, none⟩)] 53)) rfl)
    exact cellOfHeap (e) 3 rfl)
  have HR := hideIt (rtext_any p t ao cap bs s 64 (w.alloc (.cells #[.pointer none, .int .i64 0, .int .i64 0, .pointer (some ⟨q, 5, none⟩)] 53)).drew (h.fr0 (((Fr.refl _ _).alloc _).drew)) hb)
  generalize rText bs 64 s = R at *
  clear h
  unfold textV
  go_enter Try.func41, Try.ntmps41
  go_wp2_with fail
  refine wp_region_held_drew (S := fun w0 => w0.cell? ⟨w.heap.size, 3, none⟩ = some (.pointer (some ⟨q, 5, none⟩))) (by kernel_rfl) ?_ (fun hHeld => ?_)
  · exact HS0.out
  refine wpAnyH_take (i := 0) (v := ?v9) rfl (by kernel_rfl) (by kernel_rfl) (by kernel_rfl) (fun _ _ _ h => h) (Or.inl ⟨by rfl, ?hy9⟩) (by assumption) ?rest9
  case hy9 => intro w hSw; (try dsimp only at hSw); go_simp; (try with_reducible rfl)
  try simp only [Act.put, List.setIfInBounds_toArray, List.set_cons_zero, List.set_cons_succ]
  refine wpAnyH_take (i := 1) (v := ?v10) rfl (by kernel_rfl) (by kernel_rfl) (by kernel_rfl) (fun _ _ _ h => h) (Or.inl ⟨by rfl, ?hy10⟩) (by assumption) ?rest10
  case hy10 => intro w hSw; (try dsimp only at hSw); go_simp; (try with_reducible rfl)
  try simp only [Act.put, List.setIfInBounds_toArray, List.set_cons_zero, List.set_cons_succ]
  refine wpAnyH_take (i := 2) (v := ?v11) rfl (by kernel_rfl) (by kernel_rfl) (by kernel_rfl) (fun _ _ _ h => h) (Or.inl ⟨by rfl, ?hy11⟩) (by assumption) ?rest11
  case hy11 => intro w hSw; (try dsimp only at hSw); go_simp; (try with_reducible rfl)
  try simp only [Act.put, List.setIfInBounds_toArray, List.set_cons_zero, List.set_cons_succ]
  refine wpAnyH_ready (rs := [3]) (by kernel_rfl) (by simp) ?_
  refine AllReadyH.cons rfl (fun K hK => ?_) AllReadyH.nil
  go_simp
  refine Calls.mono (HR.out) ?_
  rintro e w2 ⟨rfl, hok, hF⟩
  have HOK := hideIt hok
  have HF := hideIt hF
  have hc2 : w2.cell? ⟨q, 5, none⟩ = some _ := (World.cell?_of_block (a := ⟨q, 5, none⟩) (hF.block q (by simp; omega) (by assumption))).trans (cellA hc _)
  have hf2 : w2.frozen? ⟨q, 5, none⟩ = false := (World.frozen?_of_block (a := ⟨q, 5, none⟩) (hF.block q (by simp; omega) (by assumption))).trans ((World.frozen?_alloc_old _ _ _ (by simp; omega)).trans hf)
  clear hok hF
  refine hK.out _ _ ?_ (fun hHeld => ?_)
  · exact HS.out _ HF.out
  clear hK K
  try simp only [Act.put, List.setIfInBounds_toArray, List.set_cons_zero, List.set_cons_succ]
  refine wpAnyH_take (i := 4) (v := ?v12) rfl (by kernel_rfl) (by kernel_rfl) (by kernel_rfl) (fun _ _ _ h => h) (Or.inl ⟨by rfl, ?hy12⟩) (by assumption) ?rest12
  case hy12 => intro w hSw; (try dsimp only at hSw); go_simp; (try with_reducible rfl)
  try simp only [Act.put, List.setIfInBounds_toArray, List.set_cons_zero, List.set_cons_succ]
  refine wpAnyH_ready (rs := [5]) (by kernel_rfl) (by simp) ?_
  refine AllReadyH.cons rfl (fun K hK => ?_) AllReadyH.nil
  go_simp
  refine hK.out _ _ ?_ (fun hHeld => ?_)
  · exact HS1.out _ HF.out _
  clear hK K
  try simp only [Act.put, List.setIfInBounds_toArray, List.set_cons_zero, List.set_cons_succ]
  refine wpAnyH_done (by kernel_rfl) ?_ _
  skip
  go_wp2_with fail
  refine bodyPost_ret (v := .tuple #[]) (by simp [results, Try.results41, go_sem]) rfl ?_
  have hFW : Fr (fun k => k = t) w w2 := (((Fr.refl _ _).alloc _).drew).trans HF.out (fun _ _ e => e)
  have hFS := hFW.mono (S' := fun k => k = t ∨ k = q) (fun _ e => Or.inl e)
  have hRS := HOK.out
  exact ⟨rfl, (hII.out.fr hFW hqt').putS _, ⟨hRS.1.fr ((Fr.refl (fun k => k = q) w2).setCell (p := ⟨q, 5, none⟩) (fun _ => rfl) _) (fun e => hqp e.symm) (fun k hk e => hqt (e ▸ hk)), hRS.2⟩, hFS.setCell (fun _ => Or.inr rfl) _⟩

end Go.Proofs.Ytpieaenfnajlfaa
