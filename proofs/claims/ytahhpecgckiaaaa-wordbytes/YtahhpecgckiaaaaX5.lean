/- Two writers side by side: the program's and the document's. -/
import Derived.Test.YtahhpecgckiaaaaX4
namespace Go.Proofs.Ytahhpecgckiaaaa
open Go.RowKit Go.IntWalk
set_option linter.unusedSimpArgs false
set_option linter.unusedVariables false

/-- A thing's bytes, as the document's writer lays them. -/
def xEnc (x : Th) : List UInt8 := if badT x then [] else encT x
theorem xEnc_good (l : List Th) (h : l.any badT = false) : l.flatMap xEnc = l.flatMap encT := by
  induction l with
  | nil => rfl
  | cons x l ih =>
    simp only [List.any_cons, Bool.or_eq_false_iff] at h
    rw [List.flatMap_cons, List.flatMap_cons, ih h.2]
    simp [xEnc, h.1]
theorem wAll_flag (l : List Th) : (wAll l).2 = l.any badT := by
  cases h : l.any badT with
  | true => exact wAll_bad l h
  | false => rw [wAll_good l h]
theorem xEnc_short (l : List Th) (h : ∀ x ∈ l, ThOk x) : (l.flatMap xEnc).length ≤ (l.map thW).sum := by
  refine Nat.le_trans ?_ (flat_short l h)
  clear h
  induction l with
  | nil => simp
  | cons x l ih =>
    rw [List.flatMap_cons, List.flatMap_cons, List.length_append, List.length_append]
    have : (xEnc x).length ≤ (encT x).length := by
      unfold xEnc
      split <;> simp
    omega

structure Both (w0 wr : World) (pw tw : Nat) (aow : Option Addr) (capw : Nat) (s : List UInt8 × Bool) (px : Nat) (aox : Option Addr) (capx : Nat) (xs : List UInt8) (bad : Bool) : Prop where
  W : WOk wr pw tw aow capw s
  X : XWAt wr px aox capx xs bad
  F : Fr (fun _ => False) w0 wr
  nw : w0.heap.size ≤ pw ∧ ∀ k, wset tw aow k → w0.heap.size ≤ k
  nx : w0.heap.size ≤ px ∧ ∀ k, blk aox k → w0.heap.size ≤ k
  ap : ∀ k, (k = px ∨ blk aox k) → k ≠ pw ∧ ¬ wset tw aow k

theorem WOk.lt {w : World} {p t : Nat} {ao : Option Addr} {cap : Nat} {s : List UInt8 × Bool} (h : WOk w p t ao cap s) : p < w.heap.size ∧ ∀ k, wset t ao k → k < w.heap.size := by
  obtain ⟨at_, ea, hW⟩ := h
  refine ⟨hW.lt, fun k hk => ?_⟩
  rcases hk with rfl | hk
  · exact hW.tp.lt
  · exact hW.tp.row.lt hk
theorem XWAt.lts {w : World} {p : Nat} {ao : Option Addr} {cap : Nat} {bs : List UInt8} {bad : Bool} (h : XWAt w p ao cap bs bad) : ∀ k, (k = p ∨ blk ao k) → k < w.heap.size := by
  rintro k (rfl | hk)
  · exact h.lt
  · exact h.row.lt hk

section
variable {w0 wr w' : World} {pw tw : Nat} {aow : Option Addr} {capw : Nat} {s s' : List UInt8 × Bool} {px : Nat} {aox : Option Addr} {capx : Nat} {xs xs' : List UInt8} {bad bad' : Bool}
theorem Both.fr0 (h : Both w0 wr pw tw aow capw s px aox capx xs bad) (hF : Fr (fun _ => False) wr w') : Both w0 w' pw tw aow capw s px aox capx xs bad := by
  refine ⟨?_, h.X.fr hF (fun e => e) (fun _ _ e => e), h.F.trans hF (fun _ _ e => e), h.nw, h.nx, h.ap⟩
  obtain ⟨at_, ea, hW⟩ := h.W
  exact ⟨at_, ea, hW.fr hF (fun e => e) (fun _ _ e => e)⟩
theorem Both.wrote (h : Both w0 wr pw tw aow capw s px aox capx xs bad) (hp : WPost wr pw tw aow s' w') : ∃ aow' capw', Both w0 w' pw tw aow' capw' s' px aox capx xs bad := by
  obtain ⟨ao', cap', hW, hF, hao⟩ := hp
  have hs := h.F.size
  have hn : ∀ k, wset tw ao' k → wset tw aow k ∨ wr.heap.size ≤ k := by
    rintro k (e | e)
    · exact Or.inl (Or.inl e)
    · rcases hao with rfl | hn
      · exact Or.inl (Or.inr e)
      · exact Or.inr (hn k e)
  refine ⟨ao', cap', hW, h.X.fr hF (fun e => (h.ap px (Or.inl rfl)).2 e) (fun k hk e => (h.ap k (Or.inr hk)).2 e), h.F.trans hF (fun i hi e => by have := h.nw.2 i e; omega), ⟨h.nw.1, fun k hk => ?_⟩, h.nx, fun k hk => ⟨(h.ap k hk).1, fun e => ?_⟩⟩
  · rcases hn k hk with e | e
    · exact h.nw.2 k e
    · omega
  · rcases hn k e with e | e
    · exact (h.ap k hk).2 e
    · have := h.X.lts k hk
      omega
theorem Both.xed (h : Both w0 wr pw tw aow capw s px aox capx xs bad) (hp : XPost wr px aox xs' bad' w') : ∃ aox' capx', Both w0 w' pw tw aow capw s px aox' capx' xs' bad' := by
  obtain ⟨ao', cap', hX, hF, hao⟩ := hp
  have hs := h.F.size
  have hn : ∀ k, blk ao' k → blk aox k ∨ wr.heap.size ≤ k := fun k e => by
    rcases hao with rfl | hn
    · exact Or.inl e
    · exact Or.inr (hn k e)
  have hWl := h.W.lt
  refine ⟨ao', cap', ?_, hX, h.F.trans hF (fun i hi e => by
    rcases e with e | e
    · have := h.nx.1; omega
    · have := h.nx.2 i e; omega), h.nw, ⟨h.nx.1, fun k hk => ?_⟩, fun k hk => ?_⟩
  · obtain ⟨at_, ea, hW⟩ := h.W
    exact ⟨at_, ea, hW.fr hF (fun e => (h.ap pw e).1 rfl) (fun k hk e => (h.ap k e).2 hk)⟩
  · rcases hn k hk with e | e
    · exact h.nx.2 k e
    · omega
  · rcases hk with e | e
    · exact h.ap k (Or.inl e)
    · rcases hn k e with e | e
      · exact h.ap k (Or.inr e)
      · exact ⟨fun e2 => by have := hWl.1; omega, fun e2 => by have := hWl.2 k e2; omega⟩
end

end Go.Proofs.Ytahhpecgckiaaaa
