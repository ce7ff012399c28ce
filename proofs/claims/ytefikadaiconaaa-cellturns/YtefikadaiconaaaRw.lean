/- Rows of elements of any type: where they lie, appended to. -/
import Derived.Test.YtefikadaiconaaaLa
namespace Go.Proofs.Ytefikadaiconaaa
open Go.RowKit Go.IntWalk
set_option linter.unusedSimpArgs false
set_option linter.unusedVariables false

section
variable {α : Type}

theorem flatE_len (enc : α → List Value) (size : Nat) (hlen : ∀ x, (enc x).length = size) (l : List α) : (l.flatMap enc).length = l.length * size := by
  induction l with
  | nil => simp
  | cons x l ih => rw [List.flatMap_cons, List.length_append, ih, hlen, List.length_cons, Nat.add_mul, Nat.one_mul, Nat.add_comm]

theorem flatE_get (enc : α → List Value) (size : Nat) (hlen : ∀ x, (enc x).length = size) : ∀ (l : List α) (i j : Nat) (hi : i < l.length) (hj : j < size), (l.flatMap enc)[i * size + j]? = (enc l[i])[j]?
  | [], i, _, hi, _ => absurd hi (by simp)
  | x :: l, i, j, hi, hj => by
    rw [List.flatMap_cons]
    cases i with
    | zero =>
      rw [Nat.zero_mul, Nat.zero_add, List.getElem?_append_left (by rw [hlen]; exact hj)]
      rfl
    | succ i =>
      have e : (i + 1) * size + j = i * size + j + size := by rw [Nat.add_mul, Nat.one_mul]; omega
      rw [List.getElem?_append_right (by rw [hlen]; omega), hlen, e, Nat.add_sub_cancel]
      exact flatE_get enc size hlen l i j (by simpa using hi) hj

/-- Elements, wherever they lie. -/
def AtOf (enc : α → List Value) (size : Nat) (w : World) (ao : Option Addr) (l : List α) : Prop :=
  (ao = none ∧ l = []) ∨ ∃ b off, ao = some ⟨b, off, none⟩ ∧ b < w.heap.size ∧ ∀ i (h : i < l.length) j v, (enc l[i])[j]? = some v → w.cell? ⟨b, off + i * size + j, none⟩ = some v
theorem AtOf.fr {enc : α → List Value} {size : Nat} {S : Nat → Prop} {w w' : World} {ao : Option Addr} {l : List α} (h : AtOf enc size w ao l) (hF : Fr S w w') (hS : ∀ k, blk ao k → ¬ S k) : AtOf enc size w' ao l := by
  rcases h with h | ⟨b, off, rfl, hlt, hc⟩
  · exact Or.inl h
  · have := hF.size
    refine Or.inr ⟨b, off, rfl, by omega, fun i hi j v hv => ?_⟩
    exact (World.cell?_of_block (a := ⟨b, off + i * size + j, none⟩) (hF.block b hlt (hS b ⟨_, rfl, rfl⟩))).trans (hc i hi j v hv)

/-- Elements in a row of the call's own. -/
def RowOf (enc : α → List Value) (size : Nat) (e : TypeId) (w : World) (ao : Option Addr) (cap : Nat) (l : List α) : Prop := w.ownsRow 0 e size (.slice ao l.length cap) l.length (l.flatMap enc)
variable {enc : α → List Value} {size : Nat} {e : TypeId}
theorem RowOf.nil (w : World) : RowOf enc size e w none 0 [] := World.ownsRow_nil _ _ _ _
theorem RowOf.keep {w w' : World} {ao : Option Addr} {cap : Nat} {l : List α} (h : RowOf enc size e w ao cap l) (hb : ∀ k, k < w.heap.size → blk ao k → w'.heap[k]? = w.heap[k]?) : RowOf enc size e w' ao cap l := by
  refine ⟨h.1, ?_⟩
  rcases h.2 with hn | ⟨g, c, cur, hv, hg, hh, r⟩
  · exact Or.inl hn
  · refine Or.inr ⟨g, c, cur, hv, hg, ?_, r⟩
    have hlt : g < w.heap.size := (Array.getElem?_eq_some_iff.1 hh).1
    rw [hb g hlt ⟨⟨g, 0, none⟩, by simpa using (Value.slice.inj hv).1, rfl⟩]
    exact hh
theorem RowOf.fr {S : Nat → Prop} {w w' : World} {ao : Option Addr} {cap : Nat} {l : List α} (h : RowOf enc size e w ao cap l) (hF : Fr S w w') (hS : ∀ k, blk ao k → ¬ S k) : RowOf enc size e w' ao cap l :=
  h.keep fun k hk e => hF.block k hk (hS k e)
theorem RowOf.lt {w : World} {ao : Option Addr} {cap : Nat} {l : List α} (h : RowOf enc size e w ao cap l) {k : Nat} (hk : blk ao k) : k < w.heap.size := by
  obtain ⟨a, rfl, rfl⟩ := hk
  rcases h.2 with ⟨hv, hn⟩ | ⟨g, c, cur, hv, _, hg, _⟩
  · cases (Value.slice.inj hv).1
  · obtain rfl := Option.some.inj (Value.slice.inj hv).1
    exact (Array.getElem?_eq_some_iff.1 hg).1
theorem RowOf.cap {w : World} {ao : Option Addr} {cap : Nat} {l : List α} (h : RowOf enc size e w ao cap l) : l.length ≤ cap := by
  rcases h.2 with ⟨hv, hn⟩ | ⟨g, c, cur, hv, _, hg, hle, _⟩
  · obtain ⟨_, _, rfl⟩ := Value.slice.inj hv
    omega
  · obtain ⟨_, _, rfl⟩ := Value.slice.inj hv
    exact hle
theorem RowOf.at {w : World} {ao : Option Addr} {cap : Nat} {l : List α} (hlen : ∀ x, (enc x).length = size) (h : RowOf enc size e w ao cap l) : AtOf enc size w ao l := by
  rcases h.2 with ⟨hv, hn⟩ | ⟨g, c, cur, hv, _, hg, hle, hcm, hcs, htake⟩
  · obtain ⟨rfl, _, rfl⟩ := Value.slice.inj hv
    exact Or.inl ⟨rfl, List.eq_nil_of_length_eq_zero hn⟩
  · obtain ⟨rfl, _, rfl⟩ := Value.slice.inj hv
    refine Or.inr ⟨g, 0, rfl, (Array.getElem?_eq_some_iff.1 hg).1, fun i hi j v hv => ?_⟩
    have hj : j < size := by
      have := (List.getElem?_eq_some_iff.1 hv).1
      rwa [hlen] at this
    rw [← flatE_get enc size hlen l i j hi hj, ← htake, List.getElem?_take] at hv
    rw [cell_of_row w g _ _ _ _ hg, Nat.zero_add]
    split at hv
    · simpa using hv
    · cases hv

theorem src_of {P : Program} {tx : TypeId} {w : World} {bo : Option Addr} {ys : List α} (ht : P.underlying tx = some (.slice e)) (hs0 : 0 < size) (hlen : ∀ x, (enc x).length = size) (hone : ∀ x, ∀ u ∈ enc x, u.oneCell' = true) (h : ys = [] ∨ AtOf enc size w bo ys) (c : Nat) : Src P size tx (.slice bo ys.length c) ys.length (ys.flatMap enc) w := by
  have nil : ∀ bo, Src P size tx (.slice bo 0 c) 0 [] w := fun bo => by
    cases bo with
    | none => exact Src.ofNil w ht c
    | some a => exact Src.ofSlice w ht a 0 c [] (by simp) (fun j u hu => by cases hu) (fun u hu => by cases hu)
  rcases h with rfl | ⟨rfl, rfl⟩ | ⟨b, off, rfl, hb, hc⟩
  · exact nil bo
  · exact nil none
  · refine Src.ofSlice w ht ⟨b, off, none⟩ ys.length c (ys.flatMap enc) (flatE_len enc size hlen ys) (fun k u hu => ?_) (fun u hu => ?_)
    · have hk := (List.getElem?_eq_some_iff.1 hu).1
      rw [flatE_len enc size hlen ys] at hk
      have e : k = k / size * size + k % size := by rw [Nat.mul_comm]; exact (Nat.div_add_mod k size).symm
      have hi : k / size < ys.length := Nat.div_lt_of_lt_mul (by rw [Nat.mul_comm]; exact hk)
      rw [e, flatE_get enc size hlen ys _ _ hi (Nat.mod_lt _ hs0)] at hu
      have := hc (k / size) hi (k % size) u hu
      rw [Addr.add_lit, e, ← Nat.add_assoc]
      exact this
    · obtain ⟨x, _, hx⟩ := List.mem_flatMap.1 hu
      exact hone x u hx

theorem row_append {P : Program} {t : TypeId} {i0 : TypeInfo} {z : Value} (ht : P.underlying t = some (.slice e)) (hi : P.info? e = some i0) (hz0 : i0.zero = some z) (bytes : Nat) (hz1 : i0.size = size) (hz2 : i0.bytes = bytes) (hz3 : z.cells.size = size) (hs0 : 0 < size) (hby : bytes ≤ 128) (hlen : ∀ x, (enc x).length = size) (hone : ∀ x, ∀ u ∈ enc x, u.oneCell' = true)
    (w : World) (ao : Option Addr) (cap : Nat) (l ys : List α) (hrow : RowOf enc size e w ao cap l) (bo : Option Addr) (c : Nat) (hs : ys = [] ∨ AtOf enc size w bo ys) (hb : l.length + ys.length ≤ 1099511627776) :
    ∃ ao' cap' w', (Builtin.append_ #[t, t] t #[.slice ao l.length cap, .slice bo ys.length c]).run P w = .ok (.slice ao' (l.length + ys.length) cap') w' ∧ RowOf enc size e w' ao' cap' (l ++ ys) ∧ Fr (blk ao) w w' ∧ (ao' = ao ∨ ao' = some ⟨w.heap.size, 0, none⟩) := by
  have hbb : (l.length + ys.length) * bytes ≤ 1099511627776 * 128 := Nat.mul_le_mul hb hby
  obtain ⟨ao', cap', w', h1, h2, h3, h4⟩ := append_rowE w t t t e i0 z ht hi hz0 size bytes hz1 hz2 hz3 ao cap l.length ys.length _ _ hrow _ (src_of ht hs0 hlen hone hs c) (by unfold maxLen; omega) (by omega)
  refine ⟨ao', cap', w', h1, ?_, h3, h4⟩
  unfold RowOf
  rw [List.length_append, List.flatMap_append]
  exact h2

/-- A row that grows: new, apart from all that was there in W0. -/
structure Grow (enc : α → List Value) (size : Nat) (e : TypeId) (W0 wr : World) (ao : Option Addr) (cap : Nat) (acc : List α) : Prop where
  row : RowOf enc size e wr ao cap acc
  new : ∀ k, blk ao k → W0.heap.size ≤ k
  fr : Fr (fun _ => False) W0 wr
theorem Grow.start {W0 wr : World} (hF : Fr (fun _ => False) W0 wr) : Grow enc size e W0 wr none 0 [] := ⟨RowOf.nil _, fun k ⟨a, e, _⟩ => (by cases e), hF⟩
theorem Grow.quiet {W0 wr w' : World} {ao : Option Addr} {cap : Nat} {acc : List α} (h : Grow enc size e W0 wr ao cap acc) (hF : Fr (fun _ => False) wr w') : Grow enc size e W0 w' ao cap acc :=
  ⟨h.row.fr hF (fun _ _ e => e), h.new, h.fr.trans hF (fun _ _ e => e)⟩
theorem Grow.app {P : Program} {t : TypeId} {i0 : TypeInfo} {z : Value} (ht : P.underlying t = some (.slice e)) (hi : P.info? e = some i0) (hz0 : i0.zero = some z) (bytes : Nat) (hz1 : i0.size = size) (hz2 : i0.bytes = bytes) (hz3 : z.cells.size = size) (hs0 : 0 < size) (hby : bytes ≤ 128) (hlen : ∀ x, (enc x).length = size) (hone : ∀ x, ∀ u ∈ enc x, u.oneCell' = true)
    {W0 wr : World} {ao : Option Addr} {cap : Nat} {acc : List α} (h : Grow enc size e W0 wr ao cap acc) (ys : List α) (bo : Option Addr) (c : Nat) (hs : ys = [] ∨ AtOf enc size wr bo ys) (hb : acc.length + ys.length ≤ 1099511627776) :
    ∃ ao' cap' w', (Builtin.append_ #[t, t] t #[.slice ao acc.length cap, .slice bo ys.length c]).run P wr = .ok (.slice ao' (acc.length + ys.length) cap') w' ∧ Grow enc size e W0 w' ao' cap' (acc ++ ys) := by
  obtain ⟨ao', cap', w', h1, h2, h3, h4⟩ := row_append ht hi hz0 bytes hz1 hz2 hz3 hs0 hby hlen hone wr ao cap acc ys h.row bo c hs hb
  refine ⟨ao', cap', w', h1, ⟨h2, ?_, ?_⟩⟩
  · intro k hk
    rcases h4 with e | e
    · rw [e] at hk; exact h.new k hk
    · rw [e] at hk
      obtain ⟨a, e1, e2⟩ := hk
      obtain rfl := Option.some.inj e1
      have := h.fr.size
      simp at e2
      omega
  · exact h.fr.trans h3 (fun i hi e => absurd (h.new i e) (by omega))
end

end Go.Proofs.Ytefikadaiconaaa
