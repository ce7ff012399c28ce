/- Keys: two lists gone through side by side: head, step, reach, sift, Minus, Both. -/
import Derived.Test.YtcejebelellemaaKd
namespace Go.Proofs.Ytcejebelellemaa
open Go.RowKit Go.IntWalk
set_option linter.unusedSimpArgs false
set_option linter.unusedVariables false

/-- What is left of a list: in a box p; the list lies below M, boxes do not. -/
def WkAt (w : World) (M p : Nat) (l : List ByteArray) : Prop :=
  M ≤ p ∧ ∃ ao cap, w.cell? ⟨p, 0, none⟩ = some (.slice ao l.length cap) ∧ w.frozen? ⟨p, 0, none⟩ = false ∧ (l = [] ∨ KsAt w ao l) ∧ l.length ≤ cap ∧ ∀ k, blk ao k → k < M

theorem KsAt.fr' {S : Nat → Prop} {w w' : World} {ao : Option Addr} {l : List ByteArray} (h : l = [] ∨ KsAt w ao l) (hF : Fr S w w') (hS : ∀ k, blk ao k → ¬ S k) : l = [] ∨ KsAt w' ao l := h.imp_right fun h => h.fr hF hS

theorem WkAt.fr {S : Nat → Prop} {w w' : World} {M p : Nat} {l : List ByteArray} (h : WkAt w M p l) (hF : Fr S w w') (hp : ¬ S p) (hS : ∀ k, k < M → ¬ S k) : WkAt w' M p l := by
  obtain ⟨h0, ao, cap, hc, hfz, hl, hcap, hb⟩ := h
  have hlt : p < w.heap.size := block_lt_of_cell hc
  have e := hF.block p hlt hp
  refine ⟨h0, ao, cap, (World.cell?_of_block (a := ⟨p, 0, none⟩) e).trans hc, ?_, KsAt.fr' hl hF (fun k hk => hS k (hb k hk)), hcap, hb⟩
  unfold World.frozen? at hfz ⊢
  simp only [e]
  exact hfz

/-- The first of some, nothing if there is none. -/
def headK : List ByteArray → ByteArray
  | [] => ⟨#[]⟩
  | x :: _ => x

theorem headK_nil : headK [] = ⟨#[]⟩ := rfl
theorem headK_cons (x : ByteArray) (r : List ByteArray) : headK (x :: r) = x := rfl

theorem khead_any (ao : Option Addr) (cap : Nat) (l : List ByteArray) (w : World) (h : l = [] ∨ KsAt w ao l) :
    Calls Try.prog 48 #[.slice ao l.length cap] w fun e w' => e = .returned (.tuple #[.string (headK l), .bool (!l.isEmpty)]) ∧ w' = w := by
  cases l with
  | nil =>
    go_enter Try.func48, Try.ntmps48
    go_wp2_with fail
    go_ret2
    exact ⟨rfl, rfl⟩
  | cons x r =>
    obtain ⟨b, off, rfl, hb, c0⟩ := KsAt.get h 0 (by simp)
    have hn : ((((x :: r).length : Nat) : Int) == 0) = false := beq_eq_false_iff_ne.2 (by simp only [List.length_cons]; omega)
    have hp : (0 : Int) < ((x :: r).length : Nat) := by simp only [List.length_cons]; omega
    clear h
    simp only [List.getElem_cons_zero, Nat.add_zero] at c0
    generalize (x :: r).length = n at *
    go_enter Try.func48, Try.ntmps48
    go_wp2_with fail
    go_ret2
    exact ⟨rfl, rfl⟩

set_option maxHeartbeats 1000000 in
theorem kstep_any (M p : Nat) (x : ByteArray) (r : List ByteArray) (w : World) (h : WkAt w M p (x :: r)) :
    Calls Try.prog 50 #[.pointer (some ⟨p, 0, none⟩)] w fun e w' => e = .returned (.tuple #[]) ∧ WkAt w' M p r ∧ Fr (fun i => i = p) w w' := by
  obtain ⟨h0, ao, cap, hc, hfz, hl, hcap, hb⟩ := h
  obtain ⟨b, off, rfl, hbl, cc⟩ := KsAt.get hl 0 (by simp)
  clear cc
  have HL := hideIt hl
  have HB := hideIt hb
  have hbp : b < M := hb b ⟨_, rfl, rfl⟩
  have e1 : (x :: r).length = r.length + 1 := rfl
  rw [e1] at hc hcap
  clear e1
  have f1 : (1 : Int) ≤ ((r.length + 1 : Nat) : Int) := by omega
  have f2 : (1 : Int) ≤ (cap : Int) := by omega
  have f3 : ((r.length + 1 : Nat) : Int) ≤ (cap : Int) := by omega
  have HFIN := hideIt (fun (ao' : Option Addr) (hk : r = [] ∨ KsAt w ao' r) (hb' : ∀ k, blk ao' k → k < M) => show WkAt (w.setCell ⟨p, 0, none⟩ (.slice ao' r.length (cap - 1))) M p r ∧ Fr (fun i => i = p) w (w.setCell ⟨p, 0, none⟩ (.slice ao' r.length (cap - 1))) from by
    have hF : Fr (fun i => i = p) w (w.setCell ⟨p, 0, none⟩ (.slice ao' r.length (cap - 1))) := Fr.setCell (p := ⟨p, 0, none⟩) (Fr.refl (fun i => i = p) w) (fun _ => rfl) _
    exact ⟨⟨h0, ao', cap - 1, World.cell?_setCell_same (h := hc) .., by rw [World.frozen?_setCell]; exact hfz, KsAt.fr' hk hF (fun k hk e => by have := hb' k hk; omega), by omega, hb'⟩, hF⟩)
  by_cases h1 : cap = 1
  · subst h1
    obtain rfl : r = [] := List.eq_nil_of_length_eq_zero (by omega)
    have HF2 := hideIt (HFIN.out (some ⟨b, off, none⟩) (Or.inl rfl) HB.out)
    clear hl hb HFIN
    simp only [List.length_nil] at *
    go_enter Try.func50, Try.ntmps50
    go_wp2_with fail
    go_end0
    exact ⟨rfl, HF2.out⟩
  · have hcn : ¬ (cap : Int) = 1 := by omega
    have hcn2 : ((cap : Int) == 1) = false := beq_eq_false_iff_ne.2 hcn
    have HF2 := hideIt (HFIN.out (some ⟨b, off + 1, none⟩) (by
      rcases HL.out with h | h
      · cases h
      · exact Or.inr (KsAt.drop h 1)) (fun k ⟨a, e, ek⟩ => by obtain rfl := Option.some.inj e; subst ek; exact hbp))
    clear hl hb HFIN
    generalize r.length = n at *
    go_enter Try.func50, Try.ntmps50
    go_wp2_with fail
    go_end0
    exact ⟨rfl, HF2.out⟩

end Go.Proofs.Ytcejebelellemaa
