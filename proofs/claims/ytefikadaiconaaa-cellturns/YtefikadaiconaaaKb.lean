/- Keys in memory: rows of texts, sets in maps, the keys of a set in order. -/
import Derived.Test.YtefikadaiconaaaLa
import Derived.Test.YtefikadaiconaaaKa
import Derived.Test.YtefikadaiconaaaKi
namespace Go.Proofs.Ytefikadaiconaaa
open Go.RowKit Go.IntWalk Go.Sort Go.Maps Go.Shelf
set_option linter.unusedSimpArgs false
set_option linter.unusedVariables false

/-- Texts, wherever they lie. -/
def KsAt (w : World) (ao : Option Addr) (l : List ByteArray) : Prop :=
  (ao = none ∧ l = []) ∨ ∃ b off, ao = some ⟨b, off, none⟩ ∧ b < w.heap.size ∧ ∀ i (h : i < l.length), w.cell? ⟨b, off + i, none⟩ = some (.string l[i])

theorem KsAt.keep {w w' : World} {ao : Option Addr} {l : List ByteArray} (h : KsAt w ao l) (hs : w.heap.size ≤ w'.heap.size) (hb : ∀ k, k < w.heap.size → blk ao k → w'.heap[k]? = w.heap[k]?) : KsAt w' ao l := by
  rcases h with h | ⟨b, off, rfl, hlt, hc⟩
  · exact Or.inl h
  · refine Or.inr ⟨b, off, rfl, by omega, fun i hi => ?_⟩
    have e := hb b hlt ⟨_, rfl, rfl⟩
    exact (World.cell?_of_block (a := ⟨b, off + i, none⟩) e).trans (hc i hi)

theorem KsAt.fr {S : Nat → Prop} {w w' : World} {ao : Option Addr} {l : List ByteArray} (h : KsAt w ao l) (hF : Fr S w w') (hS : ∀ k, blk ao k → ¬ S k) : KsAt w' ao l :=
  h.keep hF.size fun k hk e => hF.block k hk (hS k e)

theorem KsAt.fr0 {w w' : World} {ao : Option Addr} {l : List ByteArray} (h : KsAt w ao l) (hF : Fr (fun _ => False) w w') : KsAt w' ao l := h.fr hF (fun _ _ e => e)

theorem KsAt.get {w : World} {ao : Option Addr} {l : List ByteArray} (h : l = [] ∨ KsAt w ao l) (k : Nat) (hk : k < l.length) : ∃ b off, ao = some ⟨b, off, none⟩ ∧ b < w.heap.size ∧ w.cell? ⟨b, off + k, none⟩ = some (.string l[k]) := by
  rcases h with h | ⟨_, h⟩ | ⟨b, off, h1, h2, h3⟩
  · subst h; simp at hk
  · subst h; simp at hk
  · exact ⟨b, off, h1, h2, h3 k hk⟩

theorem kats_fr0 {w w' : World} {ao : Option Addr} {l : List ByteArray} (h : l = [] ∨ KsAt w ao l) (hF : Fr (fun _ => False) w w') : l = [] ∨ KsAt w' ao l := h.imp_right fun h => h.fr0 hF

/-- What lies at the other end of a row's tail. -/
theorem KsAt.drop {w : World} {b off : Nat} {l : List ByteArray} (h : KsAt w (some ⟨b, off, none⟩) l) (n : Nat) : KsAt w (some ⟨b, off + n, none⟩) (l.drop n) := by
  rcases h with ⟨e, _⟩ | ⟨b', off', e, hb, hc⟩
  · cases e
  · obtain ⟨rfl, rfl⟩ : b = b' ∧ off = off' := by simpa using e
    refine Or.inr ⟨b, off + n, rfl, hb, fun i hi => ?_⟩
    rw [List.length_drop] at hi
    rw [List.getElem_drop, Nat.add_assoc]
    exact hc (n + i) (by omega)

/-- Texts in a row of the call's own. -/
def KsRow (w : World) (ao : Option Addr) (cap : Nat) (l : List ByteArray) : Prop := w.ownsRow 0 9 1 (.slice ao l.length cap) l.length (l.map Value.string)

theorem KsRow.nil (w : World) : KsRow w none 0 [] := World.ownsRow_nil _ _ _ _

theorem KsRow.keep {w w' : World} {ao : Option Addr} {cap : Nat} {l : List ByteArray} (h : KsRow w ao cap l) (hb : ∀ k, k < w.heap.size → blk ao k → w'.heap[k]? = w.heap[k]?) : KsRow w' ao cap l := by
  refine ⟨h.1, ?_⟩
  rcases h.2 with hn | ⟨g, c, cur, hv, hg, hh, r⟩
  · exact Or.inl hn
  · refine Or.inr ⟨g, c, cur, hv, hg, ?_, r⟩
    have hlt : g < w.heap.size := (Array.getElem?_eq_some_iff.1 hh).1
    rw [hb g hlt ⟨⟨g, 0, none⟩, by simpa using (Value.slice.inj hv).1, rfl⟩]
    exact hh

theorem KsRow.fr {S : Nat → Prop} {w w' : World} {ao : Option Addr} {cap : Nat} {l : List ByteArray} (h : KsRow w ao cap l) (hF : Fr S w w') (hS : ∀ k, blk ao k → ¬ S k) : KsRow w' ao cap l :=
  h.keep fun k hk e => hF.block k hk (hS k e)

theorem KsRow.fr0 {w w' : World} {ao : Option Addr} {cap : Nat} {l : List ByteArray} (h : KsRow w ao cap l) (hF : Fr (fun _ => False) w w') : KsRow w' ao cap l := h.fr hF (fun _ _ e => e)

theorem KsRow.form {w : World} {ao : Option Addr} {cap : Nat} {l : List ByteArray} (h : KsRow w ao cap l) :
    (ao = none ∧ l = [] ∧ cap = 0) ∨ ∃ g cur, ao = some ⟨g, 0, none⟩ ∧ w.heap[g]? = some (.cells cur 9 (0, 0)) ∧ l.length ≤ cap ∧ cap ≤ maxLen ∧ cur.size = cap ∧ cur.toList.take l.length = l.map Value.string := by
  rcases h.2 with ⟨hv, hn⟩ | ⟨g, c, cur, hv, _, hg, hle, hcm, hcs, htake⟩
  · obtain ⟨rfl, _, rfl⟩ := Value.slice.inj hv
    exact Or.inl ⟨rfl, List.eq_nil_of_length_eq_zero hn, rfl⟩
  · obtain ⟨rfl, _, rfl⟩ := Value.slice.inj hv
    exact Or.inr ⟨g, cur, rfl, hg, hle, hcm, by simpa using hcs, by simpa using htake⟩

theorem KsRow.lt {w : World} {ao : Option Addr} {cap : Nat} {l : List ByteArray} (h : KsRow w ao cap l) {k : Nat} (hk : blk ao k) : k < w.heap.size := by
  obtain ⟨a, rfl, rfl⟩ := hk
  rcases h.form with ⟨h0, _⟩ | ⟨g, cur, h0, hh, _⟩
  · cases h0
  · obtain rfl := Option.some.inj h0
    exact (Array.getElem?_eq_some_iff.1 hh).1

theorem KsRow.cap {w : World} {ao : Option Addr} {cap : Nat} {l : List ByteArray} (h : KsRow w ao cap l) : l.length ≤ cap := by
  rcases h.form with ⟨_, rfl, rfl⟩ | ⟨g, cur, _, _, hle, _⟩
  · exact Nat.le_refl _
  · exact hle

theorem KsRow.at {w : World} {ao : Option Addr} {cap : Nat} {l : List ByteArray} (h : KsRow w ao cap l) : KsAt w ao l := by
  rcases h.form with ⟨rfl, rfl, _⟩ | ⟨g, cur, rfl, hg, hle, hcm, hcs, htake⟩
  · exact Or.inl ⟨rfl, rfl⟩
  · refine Or.inr ⟨g, 0, rfl, (Array.getElem?_eq_some_iff.1 hg).1, fun i hi => ?_⟩
    rw [cell_of_row w g _ _ _ _ hg, Nat.zero_add]
    have e : (cur.toList.take l.length)[i]? = (l.map Value.string)[i]? := by rw [htake]
    rw [List.getElem?_take, if_pos hi] at e
    simpa [hi] using e

theorem Try.infoStr : (Try.prog.info? 9).map (fun i => (i.zero, i.size, i.bytes)) = some (some (.string ⟨#[]⟩), 1, 16) := by kernel_rfl

theorem ks_src {w : World} {bo : Option Addr} {ys : List ByteArray} (h : ys = [] ∨ KsAt w bo ys) (c : Nat) : Src Try.prog 1 44 (.slice bo ys.length c) ys.length (ys.map Value.string) w := by
  have nil : ∀ bo, Src Try.prog 1 44 (.slice bo 0 c) 0 [] w := fun bo => by
    cases bo with
    | none => exact Src.ofNil w Try.underlying44 c
    | some a => exact Src.ofSlice w Try.underlying44 a 0 c [] (by simp) (fun j u hu => by cases hu) (fun u hu => by cases hu)
  rcases h with rfl | ⟨rfl, rfl⟩ | ⟨b, off, rfl, hb, hc⟩
  · exact nil bo
  · exact nil none
  · refine Src.ofSlice w Try.underlying44 ⟨b, off, none⟩ ys.length c (ys.map Value.string) (by simp) (fun k u hu => ?_) (fun u hu => ?_)
    · have hk := (List.getElem?_eq_some_iff.1 hu).1
      rw [List.length_map] at hk
      rw [List.getElem?_map, List.getElem?_eq_getElem hk] at hu
      obtain rfl := Option.some.inj hu
      rw [Addr.add_lit]
      exact hc k hk
    · obtain ⟨x, _, rfl⟩ := List.mem_map.1 hu
      rfl

theorem ks_append (w : World) (ao : Option Addr) (cap : Nat) (l ys : List ByteArray) (hrow : KsRow w ao cap l) (bo : Option Addr) (c : Nat) (hs : ys = [] ∨ KsAt w bo ys) (hb : l.length + ys.length ≤ 1099511627776) :
    ∃ ao' cap' w', (Builtin.append_ #[44, 44] 44 #[.slice ao l.length cap, .slice bo ys.length c]).run Try.prog w = .ok (.slice ao' (l.length + ys.length) cap') w' ∧ KsRow w' ao' cap' (l ++ ys) ∧ Fr (blk ao) w w' ∧ (ao' = ao ∨ ao' = some ⟨w.heap.size, 0, none⟩) := by
  obtain ⟨i0, hi, hz0, hz1, hz2⟩ := info_parts Try.infoStr
  obtain ⟨ao', cap', w', h1, h2, h3, h4⟩ := append_rowE w 44 44 44 9 i0 _ Try.underlying44 hi hz0 1 16 hz1 hz2 rfl ao cap l.length ys.length _ _ hrow _ (ks_src hs c) (by unfold maxLen; omega) (by omega)
  refine ⟨ao', cap', w', h1, ?_, h3, h4⟩
  unfold KsRow
  rw [List.length_append, List.map_append]
  exact h2

/-- One text in a new block. -/
theorem ks_new (w : World) (l : List ByteArray) (t : TypeId) : KsAt (w.alloc (.cells (l.map Value.string).toArray t)) (some ⟨w.heap.size, 0, none⟩) l := by
  refine Or.inr ⟨w.heap.size, 0, rfl, by simp, fun i hi => ?_⟩
  rw [cellNew _ _ _ _ _ rfl, Nat.zero_add]
  simp [hi]

theorem keyOf_str' (k : ByteArray) (h : k.size ≤ maxLen) : keyOf Try.prog 9 (.string k) = some (.string k.toList) := by
  have hu := Try.underlying9
  rw [Lib.toList_data]
  simp [keyOf, hu, mapKey, h]

theorem encStr_toList (k : ByteArray) : encStr k.toList = .string k := by
  rw [Lib.toList_data]

end Go.Proofs.Ytefikadaiconaaa
