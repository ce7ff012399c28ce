/- The document's own reader: bytes that are passed over, texts. -/
import Derived.Test.YteihmonafdnicaaY3
namespace Go.Proofs.Yteihmonafdnicaa
open Go.RowKit Go.IntWalk
set_option linter.unusedSimpArgs false
set_option linter.unusedVariables false

section
variable (p : Nat) (ao : Option Addr) (cap : Nat) (bs : List UInt8) (at_ : Nat) (er ea k n : Int) (w : World)
theorem ypass_shut (h : YAt w p ao cap bs at_ er ea) (her : er ≠ 0) (hk : 0 ≤ k) (hk2 : k ≤ 140737488355328) (hat : at_ ≤ 140737488355328) :
    Calls Try.prog 61 #[.pointer (some ⟨p, 0, none⟩), .int .i64 k, .int .i64 n] w fun e w' => e = .returned (.slice none 0 0) ∧ w' = w := by
  have c1 := h.c1
  have c2 := h.c2
  have her' : (er != 0) = true := by simpa using her
  clear her
  go_enter Try.func61, Try.ntmps61
  go_wp2
  go_ret
  exact ⟨rfl, rfl⟩

theorem ypass_long (h : YAt w p ao cap bs at_ 0 ea) (hap : ¬ blk ao p) (f : Nat) (hf : (at_ : Int) + k = f) (hfl : f ≤ bs.length) (hb : bs.length ≤ 140737488355328) (hn : (bs.length : Int) - f < n) :
    Calls Try.prog 61 #[.pointer (some ⟨p, 0, none⟩), .int .i64 k, .int .i64 n] w fun e w' => e = .returned (.slice none 0 0) ∧ YAt w' p ao cap bs at_ 4 bs.length ∧ Fr (fun k => k = p) w w' := by
  have c0 := h.c0
  have c1 := h.c1
  have c2 := h.c2
  have c3 := h.c3
  have hpl := h.lt
  have z2 := frozen_of_row w p 2 _ _ h.box
  have z3 := frozen_of_row w p 3 _ _ h.box
  have hwr : IntKind.i64.wrap ((at_ : Int) + k) = (f : Int) := by rw [IntKind.wrap_i64]; omega
  have hwr2 : wrap64 ((at_ : Int) + k) = (f : Int) := by simp only [wrap64]; omega
  have HFIN := hideIt (h.faulted hap 4 bs.length)
  have HFR := hideIt (((Fr.refl (fun k => k = p) w).setCell (p := ⟨p, 2, none⟩) (fun _ => rfl) (.int .i64 4)).setCell (p := ⟨p, 3, none⟩) (fun _ => rfl) (.int .i64 (bs.length : Int)))
  clear h hf
  go_enter Try.func61, Try.ntmps61
  go_wp2_with fail
  go_ret
  exact ⟨rfl, HFIN.out, HFR.out⟩

theorem ypass_ok (h : YAt w p ao cap bs at_ 0 ea) (hap : ¬ blk ao p) (f m : Nat) (hf : (at_ : Int) + k = f) (hm : n = (m : Int)) (hfm : f + m ≤ bs.length) (hb : bs.length ≤ 140737488355328) (hcl : bs.length ≤ cap) (hcm : cap ≤ maxLen) (hne0 : ao ≠ none) :
    Calls Try.prog 61 #[.pointer (some ⟨p, 0, none⟩), .int .i64 k, .int .i64 n] w fun e w' => ∃ ao' cap', e = .returned (.slice ao' m cap') ∧ BsAt w' ao' ((bs.drop f).take m) ∧ YAt w' p ao cap bs ((f : Int) + m) 0 ea ∧ Fr (fun k => k = p) w w' := by
  subst hm
  have c0 := h.c0
  have c1 := h.c1
  have c2 := h.c2
  have hpl := h.lt
  have z1 := frozen_of_row w p 1 _ _ h.box
  unfold maxLen at hcm
  have hwr : IntKind.i64.wrap ((at_ : Int) + k) = (f : Int) := by rw [IntKind.wrap_i64]; omega
  have hwr2 : wrap64 ((at_ : Int) + k) = (f : Int) := by simp only [wrap64]; omega
  have hy := h.moved hap ((f + m : Nat) : Int)
  have hF : Fr (fun k => k = p) w (w.setCell ⟨p, 1, none⟩ (.int .i64 ((f + m : Nat) : Int))) := (Fr.refl (fun k => k = p) w).setCell (p := ⟨p, 1, none⟩) (fun _ => rfl) _
  have hng : ¬ ((bs.length : Int) - f < m) := by omega
  have ecast : ((f + m : Nat) : Int) = (f : Int) + m := by omega
  rw [ecast] at hy hF
  rcases h.bytes with ⟨rfl, rfl⟩ | ⟨b, off, rfl, hc⟩
  · exact absurd rfl hne0
  · have hbs : BsAt (w.setCell ⟨p, 1, none⟩ (.int .i64 ((f : Int) + m))) (some ⟨b, off + f, none⟩) ((bs.drop f).take m) := by
      refine Or.inr ⟨b, off + f, rfl, fun j hj => ?_⟩
      have hj' : j < m := by simp at hj; omega
      have hne : b ≠ p := fun e => hap ⟨_, rfl, e⟩
      have h1 := hc (f + j) (by omega)
      rw [← Nat.add_assoc] at h1
      have h2 := (World.cell?_of_block (a := ⟨b, off + f + j, none⟩) (hF.block b (block_lt_of_cell h1) hne)).trans h1
      rw [h2]
      simp
    have HBS := hideIt hbs
    have HY := hideIt hy
    have HF := hideIt hF
    clear hy hF h hf hbs hne0
    by_cases hcf : f = cap
    · subst hcf
      have hm0 : m = 0 := by omega
      have HB0 := hideIt (show BsAt (w.setCell ⟨p, 1, none⟩ (.int .i64 ((f : Int) + m))) (some ⟨b, off, none⟩) ((bs.drop f).take m) from Or.inr ⟨b, off, rfl, fun j hj => by rw [hm0] at hj; simp at hj⟩)
      clear hm0
      go_enter Try.func61, Try.ntmps61
      go_wp2_with fail
      all_goals go_ret
      all_goals first | exact ⟨_, ⟨_, rfl⟩, HB0.out, HY.out, HF.out⟩ | exact ⟨_, ⟨_, rfl⟩, HBS.out, HY.out, HF.out⟩
    · go_enter Try.func61, Try.ntmps61
      go_wp2_with fail
      all_goals go_ret
      all_goals exact ⟨_, ⟨_, rfl⟩, HBS.out, HY.out, HF.out⟩
theorem ypass_ok2 (h : YAt w p ao cap bs at_ 0 ea) (hap : ¬ blk ao p) (f m : Nat) (hf : (at_ : Int) + k = f) (hm : n = (m : Int)) (hfm : f + m ≤ bs.length) (hb : bs.length ≤ 140737488355328) (hcl : bs.length ≤ cap) (hcm : cap ≤ maxLen) (hne0 : ao ≠ none) :
    Calls Try.prog 61 #[.pointer (some ⟨p, 0, none⟩), .int .i64 k, .int .i64 n] w fun e w' => ∃ ao' cap', e = .returned (.slice ao' m cap') ∧ BsAt w' ao' ((bs.drop f).take m) ∧ YAt w' p ao cap bs ((f : Int) + m) 0 ea ∧ Fr (fun k => k = p) w w' ∧ ∀ k, blk ao' k → blk ao k := by
  subst hm
  have c0 := h.c0
  have c1 := h.c1
  have c2 := h.c2
  have hpl := h.lt
  have z1 := frozen_of_row w p 1 _ _ h.box
  unfold maxLen at hcm
  have hwr : IntKind.i64.wrap ((at_ : Int) + k) = (f : Int) := by rw [IntKind.wrap_i64]; omega
  have hwr2 : wrap64 ((at_ : Int) + k) = (f : Int) := by simp only [wrap64]; omega
  have hy := h.moved hap ((f + m : Nat) : Int)
  have hF : Fr (fun k => k = p) w (w.setCell ⟨p, 1, none⟩ (.int .i64 ((f + m : Nat) : Int))) := (Fr.refl (fun k => k = p) w).setCell (p := ⟨p, 1, none⟩) (fun _ => rfl) _
  have hng : ¬ ((bs.length : Int) - f < m) := by omega
  have ecast : ((f + m : Nat) : Int) = (f : Int) + m := by omega
  rw [ecast] at hy hF
  rcases h.bytes with ⟨rfl, rfl⟩ | ⟨b, off, rfl, hc⟩
  · exact absurd rfl hne0
  · have hbs : BsAt (w.setCell ⟨p, 1, none⟩ (.int .i64 ((f : Int) + m))) (some ⟨b, off + f, none⟩) ((bs.drop f).take m) := by
      refine Or.inr ⟨b, off + f, rfl, fun j hj => ?_⟩
      have hj' : j < m := by simp at hj; omega
      have hne : b ≠ p := fun e => hap ⟨_, rfl, e⟩
      have h1 := hc (f + j) (by omega)
      rw [← Nat.add_assoc] at h1
      have h2 := (World.cell?_of_block (a := ⟨b, off + f + j, none⟩) (hF.block b (block_lt_of_cell h1) hne)).trans h1
      rw [h2]
      simp
    have HBS := hideIt hbs
    have HY := hideIt hy
    have HF := hideIt hF
    clear hy hF h hf hbs hne0
    by_cases hcf : f = cap
    · subst hcf
      have hm0 : m = 0 := by omega
      have HB0 := hideIt (show BsAt (w.setCell ⟨p, 1, none⟩ (.int .i64 ((f : Int) + m))) (some ⟨b, off, none⟩) ((bs.drop f).take m) from Or.inr ⟨b, off, rfl, fun j hj => by rw [hm0] at hj; simp at hj⟩)
      clear hm0
      go_enter Try.func61, Try.ntmps61
      go_wp2_with fail
      all_goals go_ret
      all_goals first | exact ⟨_, ⟨_, rfl⟩, HB0.out, HY.out, HF.out, fun k ⟨_, e, e2⟩ => by obtain rfl := Option.some.inj e; exact ⟨_, rfl, e2⟩⟩ | exact ⟨_, ⟨_, rfl⟩, HBS.out, HY.out, HF.out, fun k ⟨_, e, e2⟩ => by obtain rfl := Option.some.inj e; exact ⟨_, rfl, e2⟩⟩
    · go_enter Try.func61, Try.ntmps61
      go_wp2_with fail
      all_goals go_ret
      all_goals exact ⟨_, ⟨_, rfl⟩, HBS.out, HY.out, HF.out, fun k ⟨_, e, e2⟩ => by obtain rfl := Option.some.inj e; exact ⟨_, rfl, e2⟩⟩
end

end Go.Proofs.Yteihmonafdnicaa
