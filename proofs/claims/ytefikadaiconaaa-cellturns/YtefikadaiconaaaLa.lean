/- Rows of pairs: where they lie, appended to. -/
import Derived.Test.YtefikadaiconaaaTb
namespace Go.Proofs.Ytefikadaiconaaa
open Go.RowKit Go.IntWalk Go.Sort
set_option linter.unusedSimpArgs false
set_option linter.unusedVariables false

/-- append onto a row of the call's own, of whatever is appended: the row is the same, or a new one. -/
theorem append_rowE {P : Program} (w : World) (t tx ty e : TypeId) (i : TypeInfo) (z : Value) (ht : P.underlying t = some (.slice e)) (hi : P.info? e = some i) (hz : i.zero = some z) (size bytes : Nat) (hsize : i.size = size) (hby : i.bytes = bytes) (hzs : z.cells.size = size)
    (ao : Option Addr) (cap n m : Nat) (xs ys : List Value) (hown : w.ownsRow 0 e size (.slice ao n cap) n xs) (x : Value) (hs : Src P size tx x m ys w) (hm : n + m ≤ maxLen) (hb : (n + m) * bytes ≤ 140737488355328) :
    ∃ ao' cap' w', (Builtin.append_ #[t, tx] ty #[.slice ao n cap, x]).run P w = .ok (.slice ao' (n + m) cap') w' ∧ w'.ownsRow 0 e size (.slice ao' (n + m) cap') (n + m) (xs ++ ys) ∧ Fr (blk ao) w w' ∧ (ao' = ao ∨ ao' = some ⟨w.heap.size, 0, none⟩) := by
  subst hsize
  have hxl : xs.length = n * i.size := hown.1
  have hyl : ys.length = m * i.size := hs.newsLen
  have hall : (xs ++ ys).length = (n + m) * i.size := by rw [List.length_append, hxl, hyl, Nat.add_mul]
  have grow : cap < n + m → (Builtin.firstCells i.size n (.slice ao n cap)).run P w.drew = .ok xs.toArray w.drew →
      ∃ ao' cap' w', (Builtin.append_ #[t, tx] ty #[.slice ao n cap, x]).run P w = .ok (.slice ao' (n + m) cap') w' ∧ w'.ownsRow 0 e i.size (.slice ao' (n + m) cap') (n + m) (xs ++ ys) ∧ Fr (blk ao) w w' ∧ (ao' = ao ∨ ao' = some ⟨w.heap.size, 0, none⟩) := by
    intro hlt hold
    have hr := run_append_grow_src (P := P) w t tx ty e i z ht hi hz ao n cap xs hold x m ys hs hlt (by unfold maxLen at hm; omega) (growslice_fits hlt (by rw [hby]; omega))
    refine ⟨_, _, _, hr, ?_, (Fr.refl _ _).drew.alloc _, Or.inr rfl⟩
    have hge := grownCap_ge w (n + m) cap e
    have hcm := grownCap_le_maxLen w (n + m) cap e hm
    refine ⟨hall, Or.inr ⟨w.heap.size, _, _, rfl, Nat.zero_le _, heap_alloc_new w.drew _, hge, hcm, ?_, ?_⟩⟩
    · simp only [Array.size_append, List.size_toArray, size_zeroCells, hzs, hall]
      rw [← Nat.add_mul, Nat.add_sub_cancel' hge]
    · simp only [Array.toList_append]
      rw [← hall]
      exact List.take_left
  rcases hown.2 with ⟨hv, hn⟩ | ⟨g, c, cur, hv, _, hg, hle, hcm, hcs, htake⟩
  · obtain ⟨rfl, _, rfl⟩ := Value.slice.inj hv
    subst hn
    obtain rfl : xs = [] := List.eq_nil_of_length_eq_zero (by simpa using hxl)
    by_cases hc : m = 0
    · subst hc
      obtain rfl : ys = [] := List.eq_nil_of_length_eq_zero (by simpa using hyl)
      exact ⟨none, 0, w, run_append_nothing (P := P) w t tx ty e i ht hi none 0 0 (Nat.le_refl _) x hs, hown, Fr.refl _ _, Or.inl rfl⟩
    · exact grow (by omega) (run_firstCells_none w.drew i.size 0 0 0)
  · obtain ⟨rfl, _, rfl⟩ := Value.slice.inj hv
    by_cases hroom : n + m ≤ cap
    · have hfit : n * i.size + ys.length ≤ cur.size := by rw [hyl, hcs, ← Nat.add_mul]; exact Nat.mul_le_mul_right _ hroom
      have hst := run_storeCells_at P g (n * i.size) e ys 0 cur w hg (by simpa using hfit) hs.one
      simp only [Nat.add_zero] at hst
      refine ⟨some ⟨g, 0, none⟩, cap, w.setRow g (cur.toList.take (n * i.size) ++ ys ++ cur.toList.drop (n * i.size + ys.length)).toArray, ?_, ?_, ?_, Or.inl rfl⟩
      · rcases hs.kind with ⟨e', hk⟩ | hk <;> simp [Builtin.append_, run_underlying ht, run_underlying hk, sizeOf, typeInfo, hi, hs.len, hroom, hs.cells, Addr.add_lit, hst]
      · refine ⟨hall, Or.inr ⟨g, cap, _, rfl, Nat.zero_le _, setRow_heap w g cur _ e _ hg, hroom, hcm, ?_, ?_⟩⟩
        · simp only [List.size_toArray, List.length_append, List.length_take, List.length_drop, Array.length_toList]
          rw [← hcs]
          omega
        · simp only [htake]
          rw [← hall]
          exact List.take_left
      · exact ⟨rfl, rfl, rfl, by simp, fun k _ hk => setRow_other w g k _ (fun e => hk ⟨⟨g, 0, none⟩, rfl, by simp [e]⟩)⟩
    · refine grow (by omega) (run_firstCells_some w.drew i.size n ⟨g, 0, none⟩ n cap xs hxl (fun j u hu => ?_))
      have := hown.cells (g := g) rfl j u hu
      simpa using this

/-- A span's cells. -/
def spL (x : Sp) : List Value := [.string x.1, .string x.2]

theorem flat2_len (l : List Sp) : (l.flatMap spL).length = l.length * 2 := by
  induction l with
  | nil => rfl
  | cons x l ih => rw [List.flatMap_cons, List.length_append, ih, List.length_cons]; simp [spL]; omega

theorem flat2_get : ∀ (l : List Sp) (i j : Nat) (hi : i < l.length) (hj : j < 2), (l.flatMap spL)[i * 2 + j]? = (spL l[i])[j]?
  | [], i, _, hi, _ => absurd hi (by simp)
  | x :: l, i, j, hi, hj => by
    rw [List.flatMap_cons]
    cases i with
    | zero =>
      rw [Nat.zero_mul, Nat.zero_add, List.getElem?_append_left (by simpa [spL] using hj)]
      rfl
    | succ i =>
      rw [List.getElem?_append_right (by simp [spL]; omega), show (i + 1) * 2 + j - (spL x).length = i * 2 + j by simp [spL]; omega]
      exact flat2_get l i j (by simpa using hi) hj

/-- Spans, wherever they lie. -/
def SpsAt (w : World) (ao : Option Addr) (l : List Sp) : Prop :=
  (ao = none ∧ l = []) ∨ ∃ b off, ao = some ⟨b, off, none⟩ ∧ b < w.heap.size ∧ ∀ i (h : i < l.length), w.cell? ⟨b, off + i * 2, none⟩ = some (.string l[i].1) ∧ w.cell? ⟨b, off + i * 2 + 1, none⟩ = some (.string l[i].2)

theorem SpsAt.keep {w w' : World} {ao : Option Addr} {l : List Sp} (h : SpsAt w ao l) (hs : w.heap.size ≤ w'.heap.size) (hb : ∀ k, k < w.heap.size → blk ao k → w'.heap[k]? = w.heap[k]?) : SpsAt w' ao l := by
  rcases h with h | ⟨b, off, rfl, hlt, hc⟩
  · exact Or.inl h
  · refine Or.inr ⟨b, off, rfl, by omega, fun i hi => ?_⟩
    have e := hb b hlt ⟨_, rfl, rfl⟩
    exact ⟨(World.cell?_of_block (a := ⟨b, off + i * 2, none⟩) e).trans (hc i hi).1, (World.cell?_of_block (a := ⟨b, off + i * 2 + 1, none⟩) e).trans (hc i hi).2⟩

theorem SpsAt.fr {S : Nat → Prop} {w w' : World} {ao : Option Addr} {l : List Sp} (h : SpsAt w ao l) (hF : Fr S w w') (hS : ∀ k, blk ao k → ¬ S k) : SpsAt w' ao l :=
  h.keep hF.size fun k hk e => hF.block k hk (hS k e)

theorem SpsAt.fr0 {w w' : World} {ao : Option Addr} {l : List Sp} (h : SpsAt w ao l) (hF : Fr (fun _ => False) w w') : SpsAt w' ao l := h.fr hF (fun _ _ e => e)

/-- Spans in a row of the call's own. -/
def SpRow (w : World) (ao : Option Addr) (cap : Nat) (l : List Sp) : Prop := w.ownsRow 0 60 2 (.slice ao l.length cap) l.length (l.flatMap spL)

theorem SpRow.nil (w : World) : SpRow w none 0 [] := World.ownsRow_nil _ _ _ _

theorem SpRow.keep {w w' : World} {ao : Option Addr} {cap : Nat} {l : List Sp} (h : SpRow w ao cap l) (hb : ∀ k, k < w.heap.size → blk ao k → w'.heap[k]? = w.heap[k]?) : SpRow w' ao cap l := by
  refine ⟨h.1, ?_⟩
  rcases h.2 with hn | ⟨g, c, cur, hv, hg, hh, r⟩
  · exact Or.inl hn
  · refine Or.inr ⟨g, c, cur, hv, hg, ?_, r⟩
    have hlt : g < w.heap.size := (Array.getElem?_eq_some_iff.1 hh).1
    rw [hb g hlt ⟨⟨g, 0, none⟩, by simpa using (Value.slice.inj hv).1, rfl⟩]
    exact hh

theorem SpRow.fr {S : Nat → Prop} {w w' : World} {ao : Option Addr} {cap : Nat} {l : List Sp} (h : SpRow w ao cap l) (hF : Fr S w w') (hS : ∀ k, blk ao k → ¬ S k) : SpRow w' ao cap l :=
  h.keep fun k hk e => hF.block k hk (hS k e)

theorem SpRow.lt {w : World} {ao : Option Addr} {cap : Nat} {l : List Sp} (h : SpRow w ao cap l) {k : Nat} (hk : blk ao k) : k < w.heap.size := by
  obtain ⟨a, rfl, rfl⟩ := hk
  rcases h.2 with ⟨hv, hn⟩ | ⟨g, c, cur, hv, _, hg, _⟩
  · cases (Value.slice.inj hv).1
  · obtain rfl := Option.some.inj (Value.slice.inj hv).1
    exact (Array.getElem?_eq_some_iff.1 hg).1

/-- A row's cells, its block. -/
theorem SpRow.form {w : World} {ao : Option Addr} {cap : Nat} {l : List Sp} (h : SpRow w ao cap l) :
    (ao = none ∧ l = [] ∧ cap = 0) ∨ ∃ g cur, ao = some ⟨g, 0, none⟩ ∧ w.heap[g]? = some (.cells cur 60 (0, 0)) ∧ ∀ i (hi : i < l.length), cur[i * 2]? = some (.string l[i].1) ∧ cur[i * 2 + 1]? = some (.string l[i].2) := by
  rcases h.2 with ⟨hv, hn⟩ | ⟨g, c, cur, hv, _, hg, hle, hcm, hcs, htake⟩
  · obtain ⟨rfl, _, rfl⟩ := Value.slice.inj hv
    exact Or.inl ⟨rfl, List.eq_nil_of_length_eq_zero hn, rfl⟩
  · obtain ⟨rfl, _, rfl⟩ := Value.slice.inj hv
    refine Or.inr ⟨g, cur, rfl, hg, fun i hi => ?_⟩
    have e : ∀ j, j < 2 → cur[i * 2 + j]? = (spL l[i])[j]? := fun j hj => by
      rw [← flat2_get l i j hi hj, ← htake, List.getElem?_take, if_pos (by omega)]
      simp
    exact ⟨e 0 (by omega), e 1 (by omega)⟩

theorem SpRow.at {w : World} {ao : Option Addr} {cap : Nat} {l : List Sp} (h : SpRow w ao cap l) : SpsAt w ao l := by
  rcases h.form with ⟨rfl, rfl, _⟩ | ⟨g, cur, rfl, hg, hc⟩
  · exact Or.inl ⟨rfl, rfl⟩
  · refine Or.inr ⟨g, 0, rfl, (Array.getElem?_eq_some_iff.1 hg).1, fun i hi => ?_⟩
    rw [cell_of_row w g _ _ _ _ hg, cell_of_row w g _ _ _ _ hg]
    simpa using hc i hi

theorem Try.infoSp : (Try.prog.info? 60).map (fun i => (i.zero, i.size, i.bytes)) = some (some (.agg #[.string ⟨#[]⟩, .string ⟨#[]⟩]), 2, 32) := by kernel_rfl

theorem sp_src {w : World} {bo : Option Addr} {ys : List Sp} (h : ys = [] ∨ SpsAt w bo ys) (c : Nat) : Src Try.prog 2 22 (.slice bo ys.length c) ys.length (ys.flatMap spL) w := by
  have nil : ∀ bo, Src Try.prog 2 22 (.slice bo 0 c) 0 [] w := fun bo => by
    cases bo with
    | none => exact Src.ofNil w Try.underlying22 c
    | some a => exact Src.ofSlice w Try.underlying22 a 0 c [] (by simp) (fun j u hu => by cases hu) (fun u hu => by cases hu)
  rcases h with rfl | ⟨rfl, rfl⟩ | ⟨b, off, rfl, hb, hc⟩
  · exact nil bo
  · exact nil none
  · refine Src.ofSlice w Try.underlying22 ⟨b, off, none⟩ ys.length c (ys.flatMap spL) (flat2_len ys) (fun k u hu => ?_) (fun u hu => ?_)
    · have hk := (List.getElem?_eq_some_iff.1 hu).1
      rw [flat2_len ys] at hk
      have e : k = k / 2 * 2 + k % 2 := by omega
      have hi : k / 2 < ys.length := by omega
      rw [e, flat2_get ys _ _ hi (by omega)] at hu
      have := hc (k / 2) hi
      rw [Addr.add_lit, e, ← Nat.add_assoc]
      rcases Nat.mod_two_eq_zero_or_one k with h | h
      · rw [h] at hu ⊢
        obtain rfl := Option.some.inj hu
        exact this.1
      · rw [h] at hu ⊢
        obtain rfl := Option.some.inj hu
        exact this.2
    · obtain ⟨x, _, hx⟩ := List.mem_flatMap.1 hu
      simp only [spL, List.mem_cons, List.not_mem_nil, or_false] at hx
      rcases hx with rfl | rfl <;> rfl

theorem spans_append (w : World) (ao : Option Addr) (cap : Nat) (l ys : List Sp) (hrow : SpRow w ao cap l) (bo : Option Addr) (c : Nat) (hs : ys = [] ∨ SpsAt w bo ys) (hb : l.length + ys.length ≤ 1099511627776) :
    ∃ ao' cap' w', (Builtin.append_ #[22, 22] 22 #[.slice ao l.length cap, .slice bo ys.length c]).run Try.prog w = .ok (.slice ao' (l.length + ys.length) cap') w' ∧ SpRow w' ao' cap' (l ++ ys) ∧ Fr (blk ao) w w' ∧ (ao' = ao ∨ ao' = some ⟨w.heap.size, 0, none⟩) := by
  obtain ⟨i0, hi, hz0, hz1, hz2⟩ := info_parts Try.infoSp
  obtain ⟨ao', cap', w', h1, h2, h3, h4⟩ := append_rowE w 22 22 22 60 i0 _ Try.underlying22 hi hz0 2 32 hz1 hz2 rfl ao cap l.length ys.length _ _ hrow _ (sp_src hs c) (by unfold maxLen; omega) (by omega)
  refine ⟨ao', cap', w', h1, ?_, h3, h4⟩
  unfold SpRow
  rw [List.length_append, List.flatMap_append]
  exact h2

theorem sps_one (x : Sp) (w : World) : SpsAt (w.alloc (.cells #[.string x.1, .string x.2] 60)) (some ⟨w.heap.size, 0, none⟩) [x] := by
  refine Or.inr ⟨w.heap.size, 0, rfl, by simp, fun i hi => ?_⟩
  obtain rfl : i = 0 := by simpa using hi
  exact ⟨cellNew _ _ _ _ _ rfl, cellNew _ _ _ _ _ rfl⟩

end Go.Proofs.Ytefikadaiconaaa
