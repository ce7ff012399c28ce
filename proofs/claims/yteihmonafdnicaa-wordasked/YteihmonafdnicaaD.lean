/- Rows of elements of any size that are appended to; things in such a row. -/
import Derived.Test.YteihmonafdnicaaO2
namespace Go.Proofs.Yteihmonafdnicaa
open Go.RowKit Go.IntWalk
set_option linter.unusedSimpArgs false
set_option linter.unusedVariables false

/-- append onto a row of the call's own, of whatever is appended: the row is the same, or a new one. -/
theorem append_rowE {P : Program} (w : World) (t tx ty e : TypeId) (i : TypeInfo) (z : Value) (ht : P.underlying t = some (.slice e)) (hi : P.info? e = some i) (hz : i.zero = some z) (size bytes : Nat) (hsize : i.size = size) (hby : i.bytes = bytes) (hzs : z.cells.size = size)
    (ao : Option Addr) (cap n m : Nat) (xs ys : List Value) (hown : w.ownsRow 0 e size (.slice ao n cap) n xs) (x : Value) (hs : Src P size tx x m ys w) (hm : n + m ≤ maxLen) (hb : (n + m) * bytes ≤ 140737488355328) :
    ∃ ao' cap' w', (Builtin.append_ #[t, tx] ty #[.slice ao n cap, x]).run P w = .ok (.slice ao' (n + m) cap') w' ∧ w'.ownsRow 0 e size (.slice ao' (n + m) cap') (n + m) (xs ++ ys) ∧ Fr (blk ao) w w' ∧ (ao' = ao ∨ ao' = some ⟨w.heap.size, 0, none⟩) := by
  subst hsize
  have hxl : xs.length = n * i.size := hown.1
  have hyl : ys.length = m * i.size := hs.newsLen
  have hall : (xs ++ ys).length = (n + m) * i.size := by rw [List.length_append, hxl, hyl, Nat.add_mul]
  have grow : cap < n + m → (Builtin.firstCells i.size n (.slice ao n cap)).run P w.drew = .ok xs.toArray w.drew →
      ∃ ao' cap' w', (Builtin.append_ #[t, tx] ty #[.slice ao n cap, x]).run P w = .ok (.slice ao' (n + m) cap') w' ∧ w'.ownsRow 0 e i.size (.slice ao' (n + m) cap') (n + m) (xs ++ ys) ∧ Fr (blk ao) w w' ∧ (ao' = ao ∨ ao' = some ⟨w.heap.size, 0, none⟩) := by
    intro hlt hold
    have hr := run_append_grow_src (P := P) w t tx ty e i z ht hi hz ao n cap xs hold x m ys hs hlt (by unfold maxLen at hm; omega) (growslice_fits hlt (by rw [hby]; omega))
    refine ⟨_, _, _, hr, ?_, (Fr.refl _ _).drew.alloc _, Or.inr rfl⟩
    have hge := grownCap_ge w (n + m) cap e
    have hcm := grownCap_le_maxLen w (n + m) cap e hm
    refine ⟨hall, Or.inr ⟨w.heap.size, _, _, rfl, Nat.zero_le _, heap_alloc_new w.drew _, hge, hcm, ?_, ?_⟩⟩
    · simp only [Array.size_append, List.size_toArray, size_zeroCells, hzs, hall]
      rw [← Nat.add_mul, Nat.add_sub_cancel' hge]
    · simp only [Array.toList_append]
      rw [← hall]
      exact List.take_left
  rcases hown.2 with ⟨hv, hn⟩ | ⟨g, c, cur, hv, _, hg, hle, hcm, hcs, htake⟩
  · obtain ⟨rfl, _, rfl⟩ := Value.slice.inj hv
    subst hn
    obtain rfl : xs = [] := List.eq_nil_of_length_eq_zero (by simpa using hxl)
    by_cases hc : m = 0
    · subst hc
      obtain rfl : ys = [] := List.eq_nil_of_length_eq_zero (by simpa using hyl)
      exact ⟨none, 0, w, run_append_nothing (P := P) w t tx ty e i ht hi none 0 0 (Nat.le_refl _) x hs, hown, Fr.refl _ _, Or.inl rfl⟩
    · exact grow (by omega) (run_firstCells_none w.drew i.size 0 0 0)
  · obtain ⟨rfl, _, rfl⟩ := Value.slice.inj hv
    by_cases hroom : n + m ≤ cap
    · have hfit : n * i.size + ys.length ≤ cur.size := by rw [hyl, hcs, ← Nat.add_mul]; exact Nat.mul_le_mul_right _ hroom
      have hst := run_storeCells_at P g (n * i.size) e ys 0 cur w hg (by simpa using hfit) hs.one
      simp only [Nat.add_zero] at hst
      refine ⟨some ⟨g, 0, none⟩, cap, w.setRow g (cur.toList.take (n * i.size) ++ ys ++ cur.toList.drop (n * i.size + ys.length)).toArray, ?_, ?_, ?_, Or.inl rfl⟩
      · rcases hs.kind with ⟨e', hk⟩ | hk <;> simp [Builtin.append_, run_underlying ht, run_underlying hk, sizeOf, typeInfo, hi, hs.len, hroom, hs.cells, Addr.add_lit, hst]
      · refine ⟨hall, Or.inr ⟨g, cap, _, rfl, Nat.zero_le _, setRow_heap w g cur _ e _ hg, hroom, hcm, ?_, ?_⟩⟩
        · simp only [List.size_toArray, List.length_append, List.length_take, List.length_drop, Array.length_toList]
          rw [← hcs]
          omega
        · simp only [htake]
          rw [← hall]
          exact List.take_left
      · exact ⟨rfl, rfl, rfl, by simp, fun k _ hk => setRow_other w g k _ (fun e => hk ⟨⟨g, 0, none⟩, rfl, by simp [e]⟩)⟩
    · refine grow (by omega) (run_firstCells_some w.drew i.size n ⟨g, 0, none⟩ n cap xs hxl (fun j u hu => ?_))
      have := hown.cells (g := g) rfl j u hu
      simpa using this

theorem flat_len (l : List Th) (hl : ∀ x ∈ l, x.id.length = 32) : (l.flatMap thL).length = l.length * 35 := by
  induction l with
  | nil => rfl
  | cons x l ih =>
    rw [List.flatMap_cons, List.length_append, ih (fun y hy => hl y (by simp [hy])), thL_len x (hl x (by simp)), List.length_cons]
    omega

theorem flat_get : ∀ (l : List Th) (hl : ∀ x ∈ l, x.id.length = 32) (i j : Nat) (hi : i < l.length) (hj : j < 35), (l.flatMap thL)[i * 35 + j]? = (thL l[i])[j]?
  | [], _, i, _, hi, _ => absurd hi (by simp)
  | x :: l, hl, i, j, hi, hj => by
    have h35 := thL_len x (hl x (by simp))
    rw [List.flatMap_cons]
    cases i with
    | zero =>
      rw [Nat.zero_mul, Nat.zero_add, List.getElem?_append_left (by omega)]
      rfl
    | succ i =>
      rw [List.getElem?_append_right (by omega), show (i + 1) * 35 + j - (thL x).length = i * 35 + j by omega]
      exact flat_get l (fun y hy => hl y (by simp [hy])) i j (by simpa using hi) hj

/-- Things in a row of the call's own. -/
def ThRow (w : World) (ao : Option Addr) (cap : Nat) (l : List Th) : Prop := w.ownsRow 0 35 35 (.slice ao l.length cap) l.length (l.flatMap thL)

theorem ThRow.nil (w : World) : ThRow w none 0 [] := World.ownsRow_nil _ _ _ _

theorem ThRow.fr {S : Nat → Prop} {w w' : World} {ao : Option Addr} {cap : Nat} {l : List Th} (h : ThRow w ao cap l) (hF : Fr S w w') (hS : ∀ k, blk ao k → ¬ S k) : ThRow w' ao cap l := by
  refine ⟨h.1, ?_⟩
  rcases h.2 with hn | ⟨g, c, cur, hv, hg, hh, r⟩
  · exact Or.inl hn
  · refine Or.inr ⟨g, c, cur, hv, hg, ?_, r⟩
    have hlt : g < w.heap.size := (Array.getElem?_eq_some_iff.1 hh).1
    rw [hF.block g hlt (hS g ⟨⟨g, 0, none⟩, by simpa using (Value.slice.inj hv).1, rfl⟩)]
    exact hh

theorem ThRow.at {w : World} {ao : Option Addr} {cap : Nat} {l : List Th} (h : ThRow w ao cap l) (hl : ∀ x ∈ l, x.id.length = 32) : ThsAt w ao l := by
  rcases h.2 with ⟨hv, hn⟩ | ⟨g, c, cur, hv, _, hg, hle, hcm, hcs, htake⟩
  · obtain ⟨rfl, _, rfl⟩ := Value.slice.inj hv
    exact Or.inl ⟨rfl, List.eq_nil_of_length_eq_zero hn⟩
  · obtain ⟨rfl, _, rfl⟩ := Value.slice.inj hv
    refine Or.inr ⟨g, 0, rfl, (Array.getElem?_eq_some_iff.1 hg).1, fun i hi j v hv => ?_⟩
    have hj : j < 35 := by
      have := (List.getElem?_eq_some_iff.1 hv).1
      rwa [thL_len _ (hl _ (List.getElem_mem hi))] at this
    rw [← flat_get l hl i j hi hj, ← htake] at hv
    rw [cell_of_row w g _ _ _ _ hg, Nat.zero_add]
    rw [List.getElem?_take] at hv
    split at hv
    · simpa using hv
    · cases hv

theorem ThRow.lt {w : World} {ao : Option Addr} {cap : Nat} {l : List Th} (h : ThRow w ao cap l) {k : Nat} (hk : blk ao k) : k < w.heap.size := by
  obtain ⟨a, rfl, rfl⟩ := hk
  rcases h.2 with ⟨hv, hn⟩ | ⟨g, c, cur, hv, _, hg, _⟩
  · cases (Value.slice.inj hv).1
  · obtain rfl := Option.some.inj (Value.slice.inj hv).1
    exact (Array.getElem?_eq_some_iff.1 hg).1

theorem Try.infoThz : (Try.prog.info? 35).map (fun i => (i.zero, i.size, i.bytes)) = some (some (.agg thZ), 35, 64) := by kernel_rfl

theorem ths_src {w : World} {bo : Option Addr} {ys : List Th} (h : ys = [] ∨ ThsAt w bo ys) (hl : ∀ x ∈ ys, x.id.length = 32) (c : Nat) : Src Try.prog 35 22 (.slice bo ys.length c) ys.length (ys.flatMap thL) w := by
  have nil : ∀ bo, Src Try.prog 35 22 (.slice bo 0 c) 0 [] w := fun bo => by
    cases bo with
    | none => exact Src.ofNil w Try.underlying22 c
    | some a => exact Src.ofSlice w Try.underlying22 a 0 c [] (by simp) (fun j u hu => by cases hu) (fun u hu => by cases hu)
  rcases h with rfl | ⟨rfl, rfl⟩ | ⟨b, off, rfl, hb, hc⟩
  · exact nil bo
  · exact nil none
  · refine Src.ofSlice w Try.underlying22 ⟨b, off, none⟩ ys.length c (ys.flatMap thL) (flat_len ys hl) (fun k u hu => ?_) (fun u hu => ?_)
    · have hk := (List.getElem?_eq_some_iff.1 hu).1
      rw [flat_len ys hl] at hk
      have e : k = k / 35 * 35 + k % 35 := by omega
      have hi : k / 35 < ys.length := by omega
      rw [e, flat_get ys hl _ _ hi (by omega)] at hu
      have := hc (k / 35) hi (k % 35) u hu
      rw [Addr.add_lit, e, ← Nat.add_assoc]
      exact this
    · obtain ⟨x, _, hx⟩ := List.mem_flatMap.1 hu
      simp only [thL, List.mem_cons] at hx
      rcases hx with rfl | rfl | rfl | hx
      · rfl
      · rfl
      · rfl
      · exact bv_one _ u hx

theorem things_append (w : World) (ao : Option Addr) (cap : Nat) (l ys : List Th) (hrow : ThRow w ao cap l) (bo : Option Addr) (c : Nat) (hs : ys = [] ∨ ThsAt w bo ys) (hy : ∀ x ∈ ys, x.id.length = 32) (hb : l.length + ys.length ≤ 1099511627776) :
    ∃ ao' cap' w', (Builtin.append_ #[22, 22] 22 #[.slice ao l.length cap, .slice bo ys.length c]).run Try.prog w = .ok (.slice ao' (l.length + ys.length) cap') w' ∧ ThRow w' ao' cap' (l ++ ys) ∧ Fr (blk ao) w w' ∧ (ao' = ao ∨ ao' = some ⟨w.heap.size, 0, none⟩) := by
  obtain ⟨i0, hi, hz0, hz1, hz2⟩ := info_parts Try.infoThz
  obtain ⟨ao', cap', w', h1, h2, h3, h4⟩ := append_rowE w 22 22 22 35 i0 (.agg thZ) Try.underlying22 hi hz0 35 64 hz1 hz2 rfl ao cap l.length ys.length _ _ hrow _ (ths_src hs hy c) (by unfold maxLen; omega) (by omega)
  refine ⟨ao', cap', w', h1, ?_, h3, h4⟩
  unfold ThRow
  rw [List.length_append, List.flatMap_append]
  exact h2

end Go.Proofs.Yteihmonafdnicaa
