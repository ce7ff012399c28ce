/- Spans: how they are sorted. -/
import Derived.Test.YtcejebelellemaaTd
namespace Go.Proofs.Ytcejebelellemaa
open Go.RowKit Go.IntWalk Go.Sort
set_option linter.unusedSimpArgs false
set_option linter.unusedVariables false

theorem or_any (b : Nat) (x y : Int) (w : World) (h0 : w.cell? ⟨b, 0, none⟩ = some (.int .i64 x)) (h1 : w.cell? ⟨b, 1, none⟩ = some (.int .i64 y)) :
    Calls Try.prog 67 #[.slice (some ⟨b, 0, none⟩) 2 2] w fun e w' => e = .returned (.int .i64 (if x = 0 then y else x)) ∧ w' = w := by
  by_cases hx : x = 0
  · subst hx
    by_cases hy : y = 0
    · subst hy
      go_enter Try.func67, Try.ntmps67
      go_wp2
      refine wp_loop_rounds 3 ?_
      rw [rounds_succ]
      go_wp2
      rw [rounds_succ]
      go_wp2
      rw [rounds_succ]
      go_wp2
      go_ret
      exact ⟨rfl, rfl⟩
    · have hy' : (y != 0) = true := by simpa using hy
      clear hy
      go_enter Try.func67, Try.ntmps67
      go_wp2
      refine wp_loop_rounds 3 ?_
      rw [rounds_succ]
      go_wp2
      rw [rounds_succ]
      go_wp2
      go_ret
      exact ⟨rfl, rfl⟩
  · have hx' : (x != 0) = true := by simpa using hx
    have e : (if x = 0 then y else x) = x := by simp [hx]
    rw [e]
    clear e hx
    go_enter Try.func67, Try.ntmps67
    go_wp2
    refine wp_loop_rounds 3 ?_
    rw [rounds_succ]
    go_wp2
    go_ret
    exact ⟨rfl, rfl⟩

/-- How a span stands to another one: by where they begin, then by where they end. -/
def cf (x y : Sp) : Int := if cmpS (lo x) (lo y) = 0 then cmpS (hi x) (hi y) else cmpS (lo x) (lo y)

/-- Blocks are laid, draws are made, no more. -/
def Gr (w w' : World) : Prop := ∃ q os', w' = grow (w.drewN q) os'

theorem Gr.refl (w : World) : Gr w w := ⟨0, #[], by rw [grow_empty]; rfl⟩
theorem Gr.drew {w w' : World} (h : Gr w w') : Gr w w'.drew := by
  obtain ⟨q, os, rfl⟩ := h
  exact ⟨q + 1, os, by simp [grow, World.drew, World.drewN, Nat.add_assoc]⟩
theorem Gr.alloc {w w' : World} (h : Gr w w') (o : Obj) : Gr w (w'.alloc o) := by
  obtain ⟨q, os, rfl⟩ := h
  exact ⟨q, os ++ #[o], by rw [alloc_eq_grow, grow_grow]⟩
theorem Gr.trans {a b c : World} (h : Gr a b) (k : Gr b c) : Gr a c := by
  obtain ⟨q, os, rfl⟩ := h
  obtain ⟨q', os', rfl⟩ := k
  exact ⟨q + q', os ++ os', by simp [grow, World.drewN, Nat.add_assoc, Array.append_assoc]⟩
theorem Gr.fr {w w' : World} (h : Gr w w') : Fr (fun _ => False) w w' := by
  obtain ⟨q, os, rfl⟩ := h
  refine ⟨rfl, rfl, rfl, by simp [grow, World.drewN], fun k hk _ => ?_⟩
  simp only [grow, World.drewN]
  rw [Array.getElem?_append_left hk]

theorem closure_any (x y : Sp) (w : World) : Calls Try.prog 66 #[.agg #[.string x.1, .string x.2], .agg #[.string y.1, .string y.2]] w fun e w' => e = .returned (.int .i64 (cf x y)) ∧ Gr w w' := by
  have ecf : cf x y = if cmpS x.1.toList y.1.toList = 0 then cmpS x.2.toList y.2.toList else cmpS x.1.toList y.1.toList := rfl
  rw [ecf]
  clear ecf
  obtain ⟨g, hg, HG⟩ : ∃ g : ByteArray → ByteArray → Int, (∀ a b, cmpS a.toList b.toList = g a b) ∧ Hid (∀ a b w, Calls Try.prog 56 #[.string a, .string b] w fun e w' => e = .returned (.int .i64 (g a b)) ∧ w' = w) := ⟨fun a b => cmpS a.toList b.toList, fun _ _ => rfl, hideIt (fun a b w => cmp_any a b w)⟩
  rw [hg, hg]
  clear hg
  have H3 := hideIt (fun b w h0 h1 => or_any b (g x.1 y.1) (g x.2 y.2) w h0 h1)
  generalize (if g x.1 y.1 = 0 then g x.2 y.2 else g x.1 y.1) = r at *
  have C : ∀ (w' : World), Gr ((w.alloc (.cells #[.string x.1, .string x.2] 41)).alloc (.cells #[.string y.1, .string y.2] 41)) w' → w'.cell? ⟨w.heap.size, 0, none⟩ = some (.string x.1) ∧ w'.cell? ⟨w.heap.size, 1, none⟩ = some (.string x.2) ∧ w'.cell? ⟨w.heap.size + 1, 0, none⟩ = some (.string y.1) ∧ w'.cell? ⟨w.heap.size + 1, 1, none⟩ = some (.string y.2) ∧ Gr ((w.alloc (.cells #[.string x.1, .string x.2] 41)).alloc (.cells #[.string y.1, .string y.2] 41)) w' := fun w' hg =>
    have h := hg.fr
    ⟨h.cell0 (cellA (cellNew w _ _ _ 0 rfl) _), h.cell0 (cellA (cellNew w _ _ _ 1 rfl) _), h.cell0 (cellNew _ _ _ _ 0 (by simp)), h.cell0 (cellNew _ _ _ _ 1 (by simp)), hg⟩
  have HC := hideIt C
  have HW := hideIt (((Gr.refl w).alloc (.cells #[.string x.1, .string x.2] 41)).alloc (.cells #[.string y.1, .string y.2] 41))
  clear C
  go_enter Try.func66, Try.ntmps66
  go_wp2_with fail
  generalize (w.alloc (.cells #[.string x.1, .string x.2] 41)).alloc (.cells #[.string y.1, .string y.2] 41) = W at *
  have HN0 := hideIt (show ((W.alloc (.cells #[.int .i64 (g x.1 y.1), .int .i64 (g x.2 y.2)] 3)).drew).cell? ⟨W.heap.size, 0, none⟩ = some (.int .i64 (g x.1 y.1)) from cellNew _ _ _ _ 0 rfl)
  have HN1 := hideIt (show ((W.alloc (.cells #[.int .i64 (g x.1 y.1), .int .i64 (g x.2 y.2)] 3)).drew).cell? ⟨W.heap.size, 1, none⟩ = some (.int .i64 (g x.2 y.2)) from cellNew _ _ _ _ 1 rfl)
  obtain ⟨c0, c1, c2, c3, -⟩ := HC.out W (Gr.refl W)
  go_region_held3 (fun w' => w'.cell? ⟨w.heap.size, 0, none⟩ = some (.string x.1) ∧ w'.cell? ⟨w.heap.size, 1, none⟩ = some (.string x.2) ∧ w'.cell? ⟨w.heap.size + 1, 0, none⟩ = some (.string y.1) ∧ w'.cell? ⟨w.heap.size + 1, 1, none⟩ = some (.string y.2) ∧ Gr W w')
    (first | exact HC.out _ ((Gr.refl _).drew) | exact HC.out _ (((Gr.refl _).alloc _).drew) | exact HC.out _ (Gr.refl _))
    (first | (go_at_call 56; refine Calls.mono (HG.out _ _ _) ?_; rintro e wX ⟨rfl, rfl⟩) | (go_at_call 67; refine Calls.mono (H3.out _ _ HN0.out HN1.out) ?_; rintro e wX ⟨rfl, rfl⟩))
  all_goals
    go_wp2_with fail
    go_ret
    exact ⟨rfl, HW.out.trans (((Gr.refl _).alloc _).drew)⟩

end Go.Proofs.Ytcejebelellemaa
