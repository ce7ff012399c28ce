/- KeysMeets, part 5 of the road: what the program's functions do, each by its own walk. -/
import Derived.Test.YtnjogpojikjflaaQ3
import Derived.Test.YtnjogpojikjflaaQ4

/- Rows of spans: where they lie, appended to, held by a sort. -/
namespace Go.Proofs.Ytnjogpojikjflaa
open Go.RowKit Go.IntWalk Go.Sort
set_option linter.unusedSimpArgs false
set_option linter.unusedVariables false
set_option maxRecDepth 100000

/-- append onto a row of the call's own, of whatever is appended: the row is the same, or a new one. -/
theorem append_rowE {P : Program} (w : World) (t tx ty e : TypeId) (i : TypeInfo) (z : Value) (ht : P.underlying t = some (.slice e)) (hi : P.info? e = some i) (hz : i.zero = some z) (size bytes : Nat) (hsize : i.size = size) (hby : i.bytes = bytes) (hzs : z.cells.size = size)
    (ao : Option Addr) (cap n m : Nat) (xs ys : List Value) (hown : w.ownsRow 0 e size (.slice ao n cap) n xs) (x : Value) (hs : Src P size tx x m ys w) (hm : n + m ≤ maxLen) (hb : (n + m) * bytes ≤ 140737488355328) :
    ∃ ao' cap' w', (Builtin.append_ #[t, tx] ty #[.slice ao n cap, x]).run P w = .ok (.slice ao' (n + m) cap') w' ∧ w'.ownsRow 0 e size (.slice ao' (n + m) cap') (n + m) (xs ++ ys) ∧ Fr (blk ao) w w' ∧ (ao' = ao ∨ ao' = some ⟨w.heap.size, 0, none⟩) := by
  subst hsize
  have hxl : xs.length = n * i.size := hown.1
  have hyl : ys.length = m * i.size := hs.newsLen
  have hall : (xs ++ ys).length = (n + m) * i.size := by rw [List.length_append, hxl, hyl, Nat.add_mul]
  have grow : cap < n + m → (Builtin.firstCells i.size n (.slice ao n cap)).run P w.drew = .ok xs.toArray w.drew →
      ∃ ao' cap' w', (Builtin.append_ #[t, tx] ty #[.slice ao n cap, x]).run P w = .ok (.slice ao' (n + m) cap') w' ∧ w'.ownsRow 0 e i.size (.slice ao' (n + m) cap') (n + m) (xs ++ ys) ∧ Fr (blk ao) w w' ∧ (ao' = ao ∨ ao' = some ⟨w.heap.size, 0, none⟩) := by
    intro hlt hold
    have hr := run_append_grow_src (P := P) w t tx ty e i z ht hi hz ao n cap xs hold x m ys hs hlt (by unfold maxLen at hm; omega) (growslice_fits hlt (by rw [hby]; omega))
    refine ⟨_, _, _, hr, ?_, (Fr.refl _ _).drew.alloc _, Or.inr rfl⟩
    have hge := grownCap_ge w (n + m) cap e
    have hcm := grownCap_le_maxLen w (n + m) cap e hm
    refine ⟨hall, Or.inr ⟨w.heap.size, _, _, rfl, Nat.zero_le _, heap_alloc_new w.drew _, hge, hcm, ?_, ?_⟩⟩
    · simp only [Array.size_append, List.size_toArray, size_zeroCells, hzs, hall]
      rw [← Nat.add_mul, Nat.add_sub_cancel' hge]
    · simp only [Array.toList_append]
      rw [← hall]
      exact List.take_left
  rcases hown.2 with ⟨hv, hn⟩ | ⟨g, c, cur, hv, _, hg, hle, hcm, hcs, htake⟩
  · obtain ⟨rfl, _, rfl⟩ := Value.slice.inj hv
    subst hn
    obtain rfl : xs = [] := List.eq_nil_of_length_eq_zero (by simpa using hxl)
    by_cases hc : m = 0
    · subst hc
      obtain rfl : ys = [] := List.eq_nil_of_length_eq_zero (by simpa using hyl)
      exact ⟨none, 0, w, run_append_nothing (P := P) w t tx ty e i ht hi none 0 0 (Nat.le_refl _) x hs, hown, Fr.refl _ _, Or.inl rfl⟩
    · exact grow (by omega) (run_firstCells_none w.drew i.size 0 0 0)
  · obtain ⟨rfl, _, rfl⟩ := Value.slice.inj hv
    by_cases hroom : n + m ≤ cap
    · have hfit : n * i.size + ys.length ≤ cur.size := by rw [hyl, hcs, ← Nat.add_mul]; exact Nat.mul_le_mul_right _ hroom
      have hst := run_storeCells_at P g (n * i.size) e ys 0 cur w hg (by simpa using hfit) hs.one
      simp only [Nat.add_zero] at hst
      refine ⟨some ⟨g, 0, none⟩, cap, w.setRow g (cur.toList.take (n * i.size) ++ ys ++ cur.toList.drop (n * i.size + ys.length)).toArray, ?_, ?_, ?_, Or.inl rfl⟩
      · rcases hs.kind with ⟨e', hk⟩ | hk <;> simp [Builtin.append_, run_underlying ht, run_underlying hk, sizeOf, typeInfo, hi, hs.len, hroom, hs.cells, Addr.add_lit, hst]
      · refine ⟨hall, Or.inr ⟨g, cap, _, rfl, Nat.zero_le _, setRow_heap w g cur _ e _ hg, hroom, hcm, ?_, ?_⟩⟩
        · simp only [List.size_toArray, List.length_append, List.length_take, List.length_drop, Array.length_toList]
          rw [← hcs]
          omega
        · simp only [htake]
          rw [← hall]
          exact List.take_left
      · exact ⟨rfl, rfl, rfl, by simp, fun k _ hk => setRow_other w g k _ (fun e => hk ⟨⟨g, 0, none⟩, rfl, by simp [e]⟩)⟩
    · refine grow (by omega) (run_firstCells_some w.drew i.size n ⟨g, 0, none⟩ n cap xs hxl (fun j u hu => ?_))
      have := hown.cells (g := g) rfl j u hu
      simpa using this

/-- A span's cells. -/
def spL (x : Sp) : List Value := [.string x.1, .string x.2]

theorem flat2_len (l : List Sp) : (l.flatMap spL).length = l.length * 2 := by
  induction l with
  | nil => rfl
  | cons x l ih => rw [List.flatMap_cons, List.length_append, ih, List.length_cons]; simp [spL]; omega

theorem flat2_get : ∀ (l : List Sp) (i j : Nat) (hi : i < l.length) (hj : j < 2), (l.flatMap spL)[i * 2 + j]? = (spL l[i])[j]?
  | [], i, _, hi, _ => absurd hi (by simp)
  | x :: l, i, j, hi, hj => by
    rw [List.flatMap_cons]
    cases i with
    | zero =>
      rw [Nat.zero_mul, Nat.zero_add, List.getElem?_append_left (by simpa [spL] using hj)]
      rfl
    | succ i =>
      rw [List.getElem?_append_right (by simp [spL]; omega), show (i + 1) * 2 + j - (spL x).length = i * 2 + j by simp [spL]; omega]
      exact flat2_get l i j (by simpa using hi) hj

/-- Spans, wherever they lie. -/
def SpsAt (w : World) (ao : Option Addr) (l : List Sp) : Prop :=
  (ao = none ∧ l = []) ∨ ∃ b off, ao = some ⟨b, off, none⟩ ∧ b < w.heap.size ∧ ∀ i (h : i < l.length), w.cell? ⟨b, off + i * 2, none⟩ = some (.string l[i].1) ∧ w.cell? ⟨b, off + i * 2 + 1, none⟩ = some (.string l[i].2)

theorem SpsAt.keep {w w' : World} {ao : Option Addr} {l : List Sp} (h : SpsAt w ao l) (hs : w.heap.size ≤ w'.heap.size) (hb : ∀ k, k < w.heap.size → blk ao k → w'.heap[k]? = w.heap[k]?) : SpsAt w' ao l := by
  rcases h with h | ⟨b, off, rfl, hlt, hc⟩
  · exact Or.inl h
  · refine Or.inr ⟨b, off, rfl, by omega, fun i hi => ?_⟩
    have e := hb b hlt ⟨_, rfl, rfl⟩
    exact ⟨(World.cell?_of_block (a := ⟨b, off + i * 2, none⟩) e).trans (hc i hi).1, (World.cell?_of_block (a := ⟨b, off + i * 2 + 1, none⟩) e).trans (hc i hi).2⟩

theorem SpsAt.fr {S : Nat → Prop} {w w' : World} {ao : Option Addr} {l : List Sp} (h : SpsAt w ao l) (hF : Fr S w w') (hS : ∀ k, blk ao k → ¬ S k) : SpsAt w' ao l :=
  h.keep hF.size fun k hk e => hF.block k hk (hS k e)

theorem SpsAt.fr0 {w w' : World} {ao : Option Addr} {l : List Sp} (h : SpsAt w ao l) (hF : Fr (fun _ => False) w w') : SpsAt w' ao l := h.fr hF (fun _ _ e => e)

/-- Spans in a row of the call's own. -/
def SpRow (w : World) (ao : Option Addr) (cap : Nat) (l : List Sp) : Prop := w.ownsRow 0 43 2 (.slice ao l.length cap) l.length (l.flatMap spL)

theorem SpRow.nil (w : World) : SpRow w none 0 [] := World.ownsRow_nil _ _ _ _

theorem SpRow.keep {w w' : World} {ao : Option Addr} {cap : Nat} {l : List Sp} (h : SpRow w ao cap l) (hb : ∀ k, k < w.heap.size → blk ao k → w'.heap[k]? = w.heap[k]?) : SpRow w' ao cap l := by
  refine ⟨h.1, ?_⟩
  rcases h.2 with hn | ⟨g, c, cur, hv, hg, hh, r⟩
  · exact Or.inl hn
  · refine Or.inr ⟨g, c, cur, hv, hg, ?_, r⟩
    have hlt : g < w.heap.size := (Array.getElem?_eq_some_iff.1 hh).1
    rw [hb g hlt ⟨⟨g, 0, none⟩, by simpa using (Value.slice.inj hv).1, rfl⟩]
    exact hh

theorem SpRow.fr {S : Nat → Prop} {w w' : World} {ao : Option Addr} {cap : Nat} {l : List Sp} (h : SpRow w ao cap l) (hF : Fr S w w') (hS : ∀ k, blk ao k → ¬ S k) : SpRow w' ao cap l :=
  h.keep fun k hk e => hF.block k hk (hS k e)

theorem SpRow.lt {w : World} {ao : Option Addr} {cap : Nat} {l : List Sp} (h : SpRow w ao cap l) {k : Nat} (hk : blk ao k) : k < w.heap.size := by
  obtain ⟨a, rfl, rfl⟩ := hk
  rcases h.2 with ⟨hv, hn⟩ | ⟨g, c, cur, hv, _, hg, _⟩
  · cases (Value.slice.inj hv).1
  · obtain rfl := Option.some.inj (Value.slice.inj hv).1
    exact (Array.getElem?_eq_some_iff.1 hg).1

/-- A row's cells, its block. -/
theorem SpRow.form {w : World} {ao : Option Addr} {cap : Nat} {l : List Sp} (h : SpRow w ao cap l) :
    (ao = none ∧ l = [] ∧ cap = 0) ∨ ∃ g cur, ao = some ⟨g, 0, none⟩ ∧ w.heap[g]? = some (.cells cur 43 (0, 0)) ∧ ∀ i (hi : i < l.length), cur[i * 2]? = some (.string l[i].1) ∧ cur[i * 2 + 1]? = some (.string l[i].2) := by
  rcases h.2 with ⟨hv, hn⟩ | ⟨g, c, cur, hv, _, hg, hle, hcm, hcs, htake⟩
  · obtain ⟨rfl, _, rfl⟩ := Value.slice.inj hv
    exact Or.inl ⟨rfl, List.eq_nil_of_length_eq_zero hn, rfl⟩
  · obtain ⟨rfl, _, rfl⟩ := Value.slice.inj hv
    refine Or.inr ⟨g, cur, rfl, hg, fun i hi => ?_⟩
    have e : ∀ j, j < 2 → cur[i * 2 + j]? = (spL l[i])[j]? := fun j hj => by
      rw [← flat2_get l i j hi hj, ← htake, List.getElem?_take, if_pos (by omega)]
      simp
    exact ⟨e 0 (by omega), e 1 (by omega)⟩

theorem SpRow.at {w : World} {ao : Option Addr} {cap : Nat} {l : List Sp} (h : SpRow w ao cap l) : SpsAt w ao l := by
  rcases h.form with ⟨rfl, rfl, _⟩ | ⟨g, cur, rfl, hg, hc⟩
  · exact Or.inl ⟨rfl, rfl⟩
  · refine Or.inr ⟨g, 0, rfl, (Array.getElem?_eq_some_iff.1 hg).1, fun i hi => ?_⟩
    rw [cell_of_row w g _ _ _ _ hg, cell_of_row w g _ _ _ _ hg]
    simpa using hc i hi

theorem Try.infoSp : (Try.prog.info? 43).map (fun i => (i.zero, i.size, i.bytes)) = some (some (.agg #[.string ⟨#[]⟩, .string ⟨#[]⟩]), 2, 32) := by kernel_rfl

theorem sp_src {w : World} {bo : Option Addr} {ys : List Sp} (h : ys = [] ∨ SpsAt w bo ys) (c : Nat) : Src Try.prog 2 33 (.slice bo ys.length c) ys.length (ys.flatMap spL) w := by
  have nil : ∀ bo, Src Try.prog 2 33 (.slice bo 0 c) 0 [] w := fun bo => by
    cases bo with
    | none => exact Src.ofNil w Try.underlying33 c
    | some a => exact Src.ofSlice w Try.underlying33 a 0 c [] (by simp) (fun j u hu => by cases hu) (fun u hu => by cases hu)
  rcases h with rfl | ⟨rfl, rfl⟩ | ⟨b, off, rfl, hb, hc⟩
  · exact nil bo
  · exact nil none
  · refine Src.ofSlice w Try.underlying33 ⟨b, off, none⟩ ys.length c (ys.flatMap spL) (flat2_len ys) (fun k u hu => ?_) (fun u hu => ?_)
    · have hk := (List.getElem?_eq_some_iff.1 hu).1
      rw [flat2_len ys] at hk
      have e : k = k / 2 * 2 + k % 2 := by omega
      have hi : k / 2 < ys.length := by omega
      rw [e, flat2_get ys _ _ hi (by omega)] at hu
      have := hc (k / 2) hi
      rw [Addr.add_lit, e, ← Nat.add_assoc]
      rcases Nat.mod_two_eq_zero_or_one k with h | h
      · rw [h] at hu ⊢
        obtain rfl := Option.some.inj hu
        exact this.1
      · rw [h] at hu ⊢
        obtain rfl := Option.some.inj hu
        exact this.2
    · obtain ⟨x, _, hx⟩ := List.mem_flatMap.1 hu
      simp only [spL, List.mem_cons, List.not_mem_nil, or_false] at hx
      rcases hx with rfl | rfl <;> rfl

theorem spans_append (w : World) (ao : Option Addr) (cap : Nat) (l ys : List Sp) (hrow : SpRow w ao cap l) (bo : Option Addr) (c : Nat) (hs : ys = [] ∨ SpsAt w bo ys) (hb : l.length + ys.length ≤ 1099511627776) :
    ∃ ao' cap' w', (Builtin.append_ #[33, 33] 33 #[.slice ao l.length cap, .slice bo ys.length c]).run Try.prog w = .ok (.slice ao' (l.length + ys.length) cap') w' ∧ SpRow w' ao' cap' (l ++ ys) ∧ Fr (blk ao) w w' ∧ (ao' = ao ∨ ao' = some ⟨w.heap.size, 0, none⟩) := by
  obtain ⟨i0, hi, hz0, hz1, hz2⟩ := info_parts Try.infoSp
  obtain ⟨ao', cap', w', h1, h2, h3, h4⟩ := append_rowE w 33 33 33 43 i0 _ Try.underlying33 hi hz0 2 32 hz1 hz2 rfl ao cap l.length ys.length _ _ hrow _ (sp_src hs c) (by unfold maxLen; omega) (by omega)
  refine ⟨ao', cap', w', h1, ?_, h3, h4⟩
  unfold SpRow
  rw [List.length_append, List.flatMap_append]
  exact h2

theorem sps_one (x : Sp) (w : World) : SpsAt (w.alloc (.cells #[.string x.1, .string x.2] 43)) (some ⟨w.heap.size, 0, none⟩) [x] := by
  refine Or.inr ⟨w.heap.size, 0, rfl, by simp, fun i hi => ?_⟩
  obtain rfl : i = 0 := by simpa using hi
  exact ⟨cellNew _ _ _ _ _ rfl, cellNew _ _ _ _ _ rfl⟩

theorem holdsK_of {w : World} {g : Nat} {cap : Nat} {l : List Sp} (h : SpRow w (some ⟨g, 0, none⟩) cap l) : HoldsK spL 2 w g 0 l.toArray := by
  rcases h.form with ⟨e, _⟩ | ⟨g', cur, e, hg, hc⟩
  · cases e
  · obtain ⟨rfl⟩ := Option.some.inj e
    intro t ht
    simp only [size_flatK, List.size_toArray] at ht
    rw [get_flatK _ _ _ _ (by simpa using ht), cell_of_row w g _ _ _ _ hg, frozen_of_row w g _ _ _ hg]
    refine ⟨?_, rfl⟩
    have hi : t / 2 < l.length := by omega
    have := hc (t / 2) hi
    have e2 : (l.toArray)[t / 2]! = l[t / 2] := by simp [hi]
    rw [e2, Nat.zero_add]
    obtain ⟨t0, t1⟩ := this
    rcases Nat.mod_two_eq_zero_or_one t with h | h
    · rw [show t / 2 * 2 = t by omega] at t0
      rw [h]
      simpa [spL] using t0
    · rw [show t / 2 * 2 + 1 = t by omega] at t1
      rw [h]
      simpa [spL] using t1

theorem sps_of_holdsK {w : World} {g : Nat} {l : List Sp} (h : HoldsK spL 2 w g 0 l.toArray) (hg : g < w.heap.size) : SpsAt w (some ⟨g, 0, none⟩) l := by
  refine Or.inr ⟨g, 0, rfl, hg, fun i hi => ?_⟩
  have h0 := (h (i * 2) (by simp; omega)).1
  have h1 := (h (i * 2 + 1) (by simp; omega)).1
  rw [get_flatK _ _ _ _ (by simp; omega)] at h0 h1
  rw [show i * 2 / 2 = i by omega, show i * 2 % 2 = 0 by omega] at h0
  rw [show (i * 2 + 1) / 2 = i by omega, show (i * 2 + 1) % 2 = 1 by omega] at h1
  have e2 : (l.toArray)[i]! = l[i] := by simp [hi]
  rw [e2] at h0 h1
  exact ⟨h0, by rw [Nat.add_assoc]; exact h1⟩

theorem fr_sorted {w : World} {g n : Nat} {d : Array Sp} {os : Array Obj} : Fr (fun k => k = g) w (sortWorldK spL 2 w g 0 n d os) := by
  refine ⟨rfl, rfl, rfl, size_sortWorldK_c spL 2 w g 0 n d os, fun k hk hne => ?_⟩
  show (grow (putRowK spL 2 (Sort.ahead w n) g 0 d) os).heap[k]? = _
  simp only [grow, putRowK, putRow, mapBlock, Sort.ahead]
  rw [Array.getElem?_append_left (by simpa using hk), Array.getElem?_modify, if_neg (fun e => hne e.symm)]

end Go.Proofs.Ytnjogpojikjflaa

/- Spans: how they are sorted. -/
namespace Go.Proofs.Ytnjogpojikjflaa
open Go.RowKit Go.IntWalk Go.Sort
set_option linter.unusedSimpArgs false
set_option linter.unusedVariables false
set_option maxRecDepth 100000

theorem or_any (b : Nat) (x y : Int) (w : World) (h0 : w.cell? ⟨b, 0, none⟩ = some (.int .i64 x)) (h1 : w.cell? ⟨b, 1, none⟩ = some (.int .i64 y)) :
    Calls Try.prog 57 #[.slice (some ⟨b, 0, none⟩) 2 2] w fun e w' => e = .returned (.int .i64 (if x = 0 then y else x)) ∧ w' = w := by
  by_cases hx : x = 0
  · subst hx
    by_cases hy : y = 0
    · subst hy
      go_enter Try.func57, Try.ntmps57
      go_wp2
      refine wp_loop_rounds 3 ?_
      rw [rounds_succ]
      go_wp2
      rw [rounds_succ]
      go_wp2
      rw [rounds_succ]
      go_wp2
      go_ret
      exact ⟨rfl, rfl⟩
    · have hy' : (y != 0) = true := by simpa using hy
      clear hy
      go_enter Try.func57, Try.ntmps57
      go_wp2
      refine wp_loop_rounds 3 ?_
      rw [rounds_succ]
      go_wp2
      rw [rounds_succ]
      go_wp2
      go_ret
      exact ⟨rfl, rfl⟩
  · have hx' : (x != 0) = true := by simpa using hx
    have e : (if x = 0 then y else x) = x := by simp [hx]
    rw [e]
    clear e hx
    go_enter Try.func57, Try.ntmps57
    go_wp2
    refine wp_loop_rounds 3 ?_
    rw [rounds_succ]
    go_wp2
    go_ret
    exact ⟨rfl, rfl⟩

/-- How a span stands to another one: by where they begin, then by where they end. -/
def cf (x y : Sp) : Int := if cmpS (lo x) (lo y) = 0 then cmpS (hi x) (hi y) else cmpS (lo x) (lo y)

/-- Blocks are laid, draws are made, no more. -/
def Gr (w w' : World) : Prop := ∃ q os', w' = grow (w.drewN q) os'

theorem Gr.refl (w : World) : Gr w w := ⟨0, #[], by rw [grow_empty]; rfl⟩
theorem Gr.drew {w w' : World} (h : Gr w w') : Gr w w'.drew := by
  obtain ⟨q, os, rfl⟩ := h
  exact ⟨q + 1, os, by simp [grow, World.drew, World.drewN, Nat.add_assoc]⟩
theorem Gr.alloc {w w' : World} (h : Gr w w') (o : Obj) : Gr w (w'.alloc o) := by
  obtain ⟨q, os, rfl⟩ := h
  exact ⟨q, os ++ #[o], by rw [alloc_eq_grow, grow_grow]⟩
theorem Gr.trans {a b c : World} (h : Gr a b) (k : Gr b c) : Gr a c := by
  obtain ⟨q, os, rfl⟩ := h
  obtain ⟨q', os', rfl⟩ := k
  exact ⟨q + q', os ++ os', by simp [grow, World.drewN, Nat.add_assoc, Array.append_assoc]⟩
theorem Gr.fr {w w' : World} (h : Gr w w') : Fr (fun _ => False) w w' := by
  obtain ⟨q, os, rfl⟩ := h
  refine ⟨rfl, rfl, rfl, by simp [grow, World.drewN], fun k hk _ => ?_⟩
  simp only [grow, World.drewN]
  rw [Array.getElem?_append_left hk]

theorem closure_any (x y : Sp) (w : World) : Calls Try.prog 56 #[.agg #[.string x.1, .string x.2], .agg #[.string y.1, .string y.2]] w fun e w' => e = .returned (.int .i64 (cf x y)) ∧ Gr w w' := by
  have ecf : cf x y = if cmpS x.1.toList y.1.toList = 0 then cmpS x.2.toList y.2.toList else cmpS x.1.toList y.1.toList := rfl
  rw [ecf]
  clear ecf
  obtain ⟨g, hg, HG⟩ : ∃ g : ByteArray → ByteArray → Int, (∀ a b, cmpS a.toList b.toList = g a b) ∧ Hid (∀ a b w, Calls Try.prog 47 #[.string a, .string b] w fun e w' => e = .returned (.int .i64 (g a b)) ∧ w' = w) := ⟨fun a b => cmpS a.toList b.toList, fun _ _ => rfl, hideIt (fun a b w => cmp_any a b w)⟩
  rw [hg, hg]
  clear hg
  have H3 := hideIt (fun b w h0 h1 => or_any b (g x.1 y.1) (g x.2 y.2) w h0 h1)
  generalize (if g x.1 y.1 = 0 then g x.2 y.2 else g x.1 y.1) = r at *
  have C : ∀ (w' : World), Gr ((w.alloc (.cells #[.string x.1, .string x.2] 43)).alloc (.cells #[.string y.1, .string y.2] 43)) w' → w'.cell? ⟨w.heap.size, 0, none⟩ = some (.string x.1) ∧ w'.cell? ⟨w.heap.size, 1, none⟩ = some (.string x.2) ∧ w'.cell? ⟨w.heap.size + 1, 0, none⟩ = some (.string y.1) ∧ w'.cell? ⟨w.heap.size + 1, 1, none⟩ = some (.string y.2) ∧ Gr ((w.alloc (.cells #[.string x.1, .string x.2] 43)).alloc (.cells #[.string y.1, .string y.2] 43)) w' := fun w' hg =>
    have h := hg.fr
    ⟨h.cell0 (cellA (cellNew w _ _ _ 0 rfl) _), h.cell0 (cellA (cellNew w _ _ _ 1 rfl) _), h.cell0 (cellNew _ _ _ _ 0 (by simp)), h.cell0 (cellNew _ _ _ _ 1 (by simp)), hg⟩
  have HC := hideIt C
  have HW := hideIt (((Gr.refl w).alloc (.cells #[.string x.1, .string x.2] 43)).alloc (.cells #[.string y.1, .string y.2] 43))
  clear C
  go_enter Try.func56, Try.ntmps56
  go_wp2_with fail
  generalize (w.alloc (.cells #[.string x.1, .string x.2] 43)).alloc (.cells #[.string y.1, .string y.2] 43) = W at *
  have HN0 := hideIt (show ((W.alloc (.cells #[.int .i64 (g x.1 y.1), .int .i64 (g x.2 y.2)] 3)).drew).cell? ⟨W.heap.size, 0, none⟩ = some (.int .i64 (g x.1 y.1)) from cellNew _ _ _ _ 0 rfl)
  have HN1 := hideIt (show ((W.alloc (.cells #[.int .i64 (g x.1 y.1), .int .i64 (g x.2 y.2)] 3)).drew).cell? ⟨W.heap.size, 1, none⟩ = some (.int .i64 (g x.2 y.2)) from cellNew _ _ _ _ 1 rfl)
  obtain ⟨c0, c1, c2, c3, -⟩ := HC.out W (Gr.refl W)
  go_region_held3 (fun w' => w'.cell? ⟨w.heap.size, 0, none⟩ = some (.string x.1) ∧ w'.cell? ⟨w.heap.size, 1, none⟩ = some (.string x.2) ∧ w'.cell? ⟨w.heap.size + 1, 0, none⟩ = some (.string y.1) ∧ w'.cell? ⟨w.heap.size + 1, 1, none⟩ = some (.string y.2) ∧ Gr W w')
    (first | exact HC.out _ ((Gr.refl _).drew) | exact HC.out _ (((Gr.refl _).alloc _).drew) | exact HC.out _ (Gr.refl _))
    (first | (go_at_call 47; refine Calls.mono (HG.out _ _ _) ?_; rintro e wX ⟨rfl, rfl⟩) | (go_at_call 57; refine Calls.mono (H3.out _ _ HN0.out HN1.out) ?_; rintro e wX ⟨rfl, rfl⟩))
  all_goals
    go_wp2_with fail
    go_ret
    exact ⟨rfl, HW.out.trans (((Gr.refl _).alloc _).drew)⟩

end Go.Proofs.Ytnjogpojikjflaa

/- Spans: those that are not empty, by rising Lo. -/
namespace Go.Proofs.Ytnjogpojikjflaa
open Go.RowKit Go.IntWalk Go.Sort Go.Shelf
set_option linter.unusedSimpArgs false
set_option linter.unusedVariables false
set_option maxRecDepth 100000

theorem cf_neg (x y : Sp) : cf x y < 0 ↔ lo x < lo y ∨ lo x = lo y ∧ hi x < hi y := by
  unfold cf cmpS
  by_cases h1 : lo x < lo y
  · simp [h1]
  · by_cases h2 : lo x = lo y
    · have h3 : ¬ lo y < lo y := List.lt_irrefl _
      simp only [h2, h3, if_false, if_true, false_or, true_and]
      by_cases h4 : hi x < hi y
      · simp [h4]
      · by_cases h5 : hi x = hi y
        · rw [h5] at h4 ⊢
          simp [h4]
        · simp [h4, h5]
    · simp [h1, h2]

theorem lt_cf (x y : Sp) : ltOf cf x y = decide (lo x < lo y ∨ lo x = lo y ∧ hi x < hi y) := by
  unfold ltOf
  exact decide_eq_decide.mpr (cf_neg x y)

theorem swo_cf : SWO (ltOf cf) where
  irrefl x := by rw [lt_cf]; simp [List.lt_irrefl]
  trans x y z h1 h2 := by
    simp only [lt_cf, decide_eq_true_eq] at *
    generalize lo x = a at *
    generalize lo y = b at *
    generalize lo z = c at *
    generalize hi x = d at *
    generalize hi y = e at *
    generalize hi z = f at *
    obtain ⟨g, hl, he⟩ := rank [a, b, c, d, e, f]
    simp only [hl, he, List.mem_cons, true_or, or_true] at *
    omega
  ntrans x y z h1 h2 := by
    simp only [lt_cf, decide_eq_false_iff_not] at *
    generalize lo x = a at *
    generalize lo y = b at *
    generalize lo z = c at *
    generalize hi x = d at *
    generalize hi y = e at *
    generalize hi z = f at *
    obtain ⟨g, hl, he⟩ := rank [a, b, c, d, e, f]
    simp only [hl, he, List.mem_cons, true_or, or_true] at *
    omega

theorem tot_cf (x y : Sp) (h1 : ltOf cf x y = false) (h2 : ltOf cf y x = false) : x = y := by
  simp only [lt_cf, decide_eq_false_iff_not] at *
  have h3 : lo x = lo y ∧ hi x = hi y := by
    generalize lo x = a at *
    generalize lo y = b at *
    generalize hi x = d at *
    generalize hi y = e at *
    obtain ⟨g, hl, he⟩ := rank [a, b, d, e]
    simp only [hl, he, List.mem_cons, true_or, or_true] at *
    omega
  exact sp_ext h3.1 h3.2

/-- Spans by where they begin, then by where they end. -/
def sortC (l : List Sp) : List Sp := l.mergeSort fun x y => !ltOf cf y x

theorem sortC_len (l : List Sp) : (sortC l).length = l.length := List.length_mergeSort l

theorem sortC_sorted (l : List Sp) : Sorted l (sortC (l.filter fun x => decide (NonE x))) := by
  refine ⟨fun s => ?_, ?_⟩
  · unfold sortC
    rw [List.mem_mergeSort, List.mem_filter, decide_eq_true_eq]
  · refine List.Pairwise.imp ?_ (List.pairwise_mergeSort (le := fun x y => !ltOf cf y x) ?_ ?_ _)
    · intro a b h
      simp only [lt_cf, Bool.not_eq_true', decide_eq_false_iff_not, not_or] at h
      exact h.1
    · intro a b c h1 h2
      simp only [Bool.not_eq_true'] at *
      exact swo_cf.ntrans _ _ _ h2 h1
    · intro a b
      simp only [Bool.or_eq_true, Bool.not_eq_true']
      cases h : ltOf cf b a with
      | false => exact Or.inl rfl
      | true =>
        right
        cases h' : ltOf cf a b with
        | false => rfl
        | true => have := swo_cf.trans _ _ _ h h'; rw [swo_cf.irrefl] at this; cases this

theorem sort_any (ao : Option Addr) (cap : Nat) (l : List Sp) (w : World) (h : SpRow w ao cap l) (hb : l.length ≤ 1099511627776) :
    Calls Try.prog 55 #[.slice ao l.length cap, .func (.func 56) #[] #[]] w fun e w' => e = .returned (.tuple #[]) ∧ (sortC l = [] ∨ SpsAt w' ao (sortC l)) ∧ Fr (blk ao) w w' := by
  rcases h.form with ⟨rfl, rfl, rfl⟩ | ⟨g, cur, rfl, hg, hc⟩
  · refine Calls.mono (AnyF.slices_SortFunc_none { Try.sortSp with } none 0 (.func (.func 56) #[] #[]) w) ?_
    rintro e w' ⟨rfl, rfl⟩
    exact ⟨rfl, Or.inl (by simp [sortC]), Fr.refl _ _⟩
  · have hlt : g < w.heap.size := (Array.getElem?_eq_some_iff.1 hg).1
    have hH := holdsK_of h
    have eg : ∀ args w, (callFunc 56 args).run Try.prog w = .ok (.enter 56 args) w := enters_of Try.func56 (by kernel_rfl) rfl
    have hcon := AnyQ.slices_SortFunc_total Try.sortSp 2 Try.isAgg43 Try.sizeOf43 spL (fun _ => rfl) (fun x v hv => by simp [spL] at hv; rcases hv with rfl | rfl <;> rfl) cf swo_cf 56 #[] g 0 cap l.toArray w eg (fun _ _ _ _ x y => closure_any x y _) hH hlt (by simp; omega) tot_cf
    refine Calls.mono hcon ?_
    rintro e w' ⟨rfl, n, os, rfl⟩
    refine ⟨rfl, Or.inr ?_, fr_sorted.mono fun k e => ⟨_, rfl, e.symm⟩⟩
    refine sps_of_holdsK ?_ (lt_sortWorldK spL 2 w g 0 n _ os hlt)
    exact holdsK_sortWorldK spL 2 w g 0 n l.toArray _ os hlt hH (by simp [List.length_mergeSort])

end Go.Proofs.Ytnjogpojikjflaa

/- Spans: rising. -/
namespace Go.Proofs.Ytnjogpojikjflaa
open Go.RowKit Go.IntWalk
set_option linter.unusedSimpArgs false
set_option linter.unusedVariables false
set_option maxRecDepth 100000

/-- Those that are not empty. -/
def fulls (l : List Sp) : List Sp := l.filter fun x => decide (NonE x)

theorem fulls_take (l : List Sp) (k : Nat) (h : k < l.length) : fulls (l.take (k + 1)) = if NonE l[k] then fulls (l.take k) ++ [l[k]] else fulls (l.take k) := by
  unfold fulls
  rw [List.take_succ_eq_append_getElem h, List.filter_append]
  by_cases e : NonE l[k]
  · simp [e]
  · rw [if_neg e]
    simp [e]

theorem fulls_len (l : List Sp) : (fulls l).length ≤ l.length := List.length_filter_le _ _

/-- The cells of one of the spans. -/
theorem SpsAt.get {w : World} {ao : Option Addr} {l : List Sp} (h : l = [] ∨ SpsAt w ao l) (k : Nat) (hk : k < l.length) : ∃ b off, ao = some ⟨b, off, none⟩ ∧ b < w.heap.size ∧ w.cell? ⟨b, off + k * 2, none⟩ = some (.string l[k].1) ∧ w.cell? ⟨b, off + k * 2 + 1, none⟩ = some (.string l[k].2) := by
  rcases h with h | ⟨_, h⟩ | ⟨b, off, h1, h2, h3⟩
  · rw [h] at hk; exact absurd hk (by simp)
  · rw [h] at hk; exact absurd hk (by simp)
  · exact ⟨b, off, h1, h2, h3 k hk⟩

theorem ats_fr0 {w w' : World} {ao : Option Addr} {l : List Sp} (h : l = [] ∨ SpsAt w ao l) (hF : Fr (fun _ => False) w w') : l = [] ∨ SpsAt w' ao l := h.imp_right fun h => h.fr0 hF

theorem SpRow.le {w : World} {ao : Option Addr} {cap : Nat} {l : List Sp} (h : SpRow w ao cap l) : l.length ≤ cap := by
  rcases h.2 with ⟨hv, hn⟩ | ⟨g, c, cur, hv, _, hg, hle, _⟩
  · omega
  · obtain ⟨_, _, rfl⟩ := Value.slice.inj hv
    exact hle

theorem SpsAt.tail {w : World} {b off : Nat} {x : Sp} {r : List Sp} (h : SpsAt w (some ⟨b, off, none⟩) (x :: r)) : SpsAt w (some ⟨b, off + 2, none⟩) r := by
  rcases h with ⟨e, _⟩ | ⟨b', off', e, h2, h3⟩
  · cases e
  · obtain ⟨rfl, rfl⟩ : b = b' ∧ off = off' := by simpa using e
    refine Or.inr ⟨b, off + 2, rfl, h2, fun i hi => ?_⟩
    have := h3 (i + 1) (by simpa using hi)
    rw [show off + (i + 1) * 2 = off + 2 + i * 2 by omega] at this
    exact this

set_option maxRecDepth 100000 in
set_option maxHeartbeats 1000000 in
theorem rising_any (ao : Option Addr) (cap : Nat) (l : List Sp) (w : World) (h : l = [] ∨ SpsAt w ao l) (hb : l.length ≤ 1099511627775) :
    Calls Try.prog 43 #[.slice ao l.length cap] w fun e w' => ∃ ao' cap', e = .returned (.slice ao' (sortC (fulls l)).length cap') ∧ (sortC (fulls l) = [] ∨ SpsAt w' ao' (sortC (fulls l))) ∧ Fr (fun _ => False) w w' ∧ (sortC (fulls l)).length ≤ cap' ∧ ∀ k, blk ao' k → w.heap.size ≤ k := by
  have HH := hideIt h
  clear h
  go_enter Try.func43, Try.ntmps43
  go_wp2_with fail
  go_loopw [3, 8] (fun v i wr => ∃ (k : Nat) (aor : Option Addr) (capr : Nat) (m : List Sp), i = .int .i64 k ∧ k ≤ l.length ∧ v = .slice aor m.length capr ∧ Hid (m = fulls (l.take k)) ∧ SpRow wr aor capr m ∧ Fr (fun _ => False) w wr ∧ ∀ j, blk aor j → w.heap.size ≤ j) (fun _ i _ => l.length - (intOf i).toNat)
  case atStart => exact ⟨0, none, 0, [], rfl, Nat.zero_le _, rfl, hideIt rfl, SpRow.nil _, Fr.refl _ _, fun _ ⟨_, e, _⟩ => by cases e⟩
  case round =>
    obtain ⟨k, aor, capr, m, rfl, hk, rfl, HM, hrow, hF, hn⟩ := hrel
    have hml : m.length ≤ k := by
      rw [HM.out]
      refine Nat.le_trans (fulls_len _) ?_
      simp
      omega
    by_cases hlt : k < l.length
    · obtain ⟨b, off, rfl, hbl, c0, c1⟩ := SpsAt.get (ats_fr0 HH.out hF) k hlt
      have HT := hideIt (fulls_take l k hlt)
      have HROW := hideIt hrow
      have HF := hideIt hF
      have HN := hideIt hn
      clear hrow hF hn
      generalize l[k] = x at *
      by_cases hx : NonE x
      · have hE := hideIt (fun w => by have := empty_any x w; rw [show decide (¬ NonE x) = false by simp [hx]] at this; exact this)
        rw [if_pos hx] at HT
        clear hx
        go_wp2_with fail
        refine Calls.mono (hE.out _) ?_
        rintro e w1 ⟨rfl, hF1⟩
        have d0 := hF1.cell0 (cellNew wr #[.string x.1, .string x.2] 43 wr.heap.size 0 rfl)
        have d1 := hF1.cell0 (cellNew wr #[.string x.1, .string x.2] 43 wr.heap.size 1 rfl)
        have hF2 : Fr (fun _ => False) wr (w1.alloc (.cells #[.string x.1, .string x.2] 43)) := (((Fr.refl _ _).alloc _).trans hF1 (fun _ _ e => e)).alloc _
        obtain ⟨ao', cap', w3, hrun, hrow3, hF3, hao⟩ := spans_append _ aor capr m [x] (HROW.out.fr hF2 (fun _ _ e => e)) (some ⟨w1.heap.size, 0, none⟩) 1 (Or.inr (sps_one x w1)) (by simp; omega)
        rw [List.length_singleton] at hrun
        have HR := hideIt hrun
        have HG := hideIt hF2
        have HROW3 := hideIt hrow3
        have HF3 := hideIt hF3
        have HAO := hideIt hao
        clear hrun hF2 hrow3 hF3 hao hF1
        go_wp2_with (first | (at_builtin; refine wpList_append_run _ rfl (.tmp 15) (.tmp 17) 33 33 rfl _ _ _ _ rfl rfl HR.out ?_))
        go_roundw
        case measure => simp [intOf]; omega
        case rel =>
          have hF0 := HF.out.trans HG.out (fun _ _ e => e)
          refine ⟨k + 1, ao', cap', m ++ [x], by go_num, by omega, by simp, hideIt (by rw [HT.out, HM.out]), HROW3.out, hF0.trans HF3.out (fun i hi ⟨a, e1, e2⟩ => ?_), fun j hj => ?_⟩
          · have := HN.out i ⟨a, e1, e2⟩
            omega
          · rcases HAO.out with e | e
            · exact HN.out j (e ▸ hj)
            · obtain ⟨a, e1, e2⟩ := hj
              rw [e] at e1
              obtain rfl := Option.some.inj e1
              have := hF0.size
              simp at this e2
              omega
      · have hE := hideIt (fun w => by have := empty_any x w; rw [show decide (¬ NonE x) = true by simp [hx]] at this; exact this)
        rw [if_neg hx] at HT
        clear hx
        go_wp2_with fail
        refine Calls.mono (hE.out _) ?_
        rintro e w1 ⟨rfl, hF1⟩
        have hF2 : Fr (fun _ => False) wr w1 := ((Fr.refl _ _).alloc _).trans hF1 (fun _ _ e => e)
        have HG := hideIt hF2
        clear hF1 hF2
        go_wp2_with fail
        go_roundw
        case measure => simp [intOf]; omega
        case rel => exact ⟨k + 1, aor, capr, m, by go_num, by omega, rfl, hideIt (by rw [HT.out, HM.out]), HROW.out.fr HG.out (fun _ _ e => e), HF.out.trans HG.out (fun _ _ e => e), HN.out⟩
    · obtain rfl : k = l.length := by omega
      have em : m = fulls l := by rw [HM.out, List.take_length]
      have hS := hideIt (fun w' (h : SpRow w' aor capr m) => sort_any aor capr m w' h (by omega))
      have HROW := hideIt hrow
      have HF := hideIt hF
      have HN := hideIt hn
      have HEM := hideIt em
      have HL := hideIt (sortC_len m)
      clear hrow hF hn em
      go_wp2_with fail
      refine Calls.mono (hS.out _ HROW.out) ?_
      rintro e w2 ⟨rfl, hat, hF2⟩
      have HAT := hideIt hat
      clear hat
      go_wp2_with fail
      go_ret
      rw [← HEM.out]
      exact ⟨aor, capr, by rw [HL.out]; rfl, HAT.out, HF.out.trans hF2 (fun i hi e => by have := HN.out i e; omega), by rw [HL.out]; exact HROW.out.le, HN.out⟩
end Go.Proofs.Ytnjogpojikjflaa

/- Spans: a row that grows. -/
namespace Go.Proofs.Ytnjogpojikjflaa
open Go.RowKit Go.IntWalk
set_option linter.unusedSimpArgs false
set_option linter.unusedVariables false
set_option maxRecDepth 100000

/-- Spans that are joined so far: the last one, and those ahead of it. -/
structure RowAt (w : World) (p : Nat) (last : Sp) (ao : Option Addr) (cap : Nat) (A : List Sp) : Prop where
  heap : w.heap[p]? = some (.cells #[.string last.1, .string last.2, .slice ao A.length cap] 76 (0, 0))
  row : SpRow w ao cap A
  apart : ¬ blk ao p

theorem RowAt.lt {w : World} {p : Nat} {last : Sp} {ao : Option Addr} {cap : Nat} {A : List Sp} (h : RowAt w p last ao cap A) : p < w.heap.size := (Array.getElem?_eq_some_iff.1 h.heap).1

theorem RowAt.fr {S : Nat → Prop} {w w' : World} {p : Nat} {last : Sp} {ao : Option Addr} {cap : Nat} {A : List Sp} (h : RowAt w p last ao cap A) (hF : Fr S w w') (h1 : ¬ S p) (h2 : ∀ k, blk ao k → ¬ S k) : RowAt w' p last ao cap A :=
  ⟨(hF.block p h.lt h1).trans h.heap, h.row.fr hF h2, h.apart⟩

theorem RowAt.fr0 {w w' : World} {p : Nat} {last : Sp} {ao : Option Addr} {cap : Nat} {A : List Sp} (h : RowAt w p last ao cap A) (hF : Fr (fun _ => False) w w') : RowAt w' p last ao cap A := h.fr hF (fun e => e) (fun _ _ e => e)

theorem cellH {w : World} {g : Nat} {cs : Array Value} {T : TypeId} (h : w.heap[g]? = some (.cells cs T (0, 0))) (i : Nat) {v : Value} (hv : cs[i]? = some v) : w.cell? ⟨g, i, none⟩ = some v := (cell_of_row w g i _ _ _ h).trans hv

/-- What becomes of a row by another span. -/
def addS (A : List Sp) (last s : Sp) : List Sp × Sp := if short last (lo s) then (A ++ [last], s) else (A, grow1 last s)

def AddPost (w : World) (p : Nat) (ao : Option Addr) (A' : List Sp) (last' : Sp) (w' : World) : Prop :=
  ∃ ao' cap', RowAt w' p last' ao' cap' A' ∧ Fr (fun k => k = p ∨ blk ao k) w w' ∧ (ao' = ao ∨ ∀ k, blk ao' k → w.heap.size ≤ k)

set_option maxHeartbeats 1000000 in
theorem add_short (p : Nat) (last s : Sp) (ao : Option Addr) (cap : Nat) (A : List Sp) (w : World) (hR : RowAt w p last ao cap A) (hs : short last (lo s)) (hb : A.length ≤ 1099511627775) :
    Calls Try.prog 58 #[.pointer (some ⟨p, 0, none⟩), .agg #[.string s.1, .string s.2]] w fun e w' => e = .returned (.tuple #[]) ∧ AddPost w p ao (A ++ [last]) s w' := by
  have hE := hideIt (fun w => end_any last s.1 w)
  have hneg : endS (hi last) s.1.toList < 0 := (endS_neg (hi last) (lo s)).2 hs
  generalize endS (hi last) s.1.toList = n at *
  have hRA := hR.fr0 ((Fr.refl (fun _ => False) w).alloc (.cells #[.string s.1, .string s.2] 43))
  have hlt := hR.lt
  have C : ∀ (w' : World), Fr (fun _ => False) (w.alloc (.cells #[.string s.1, .string s.2] 43)) w' → w'.cell? ⟨w.heap.size, 0, none⟩ = some (.string s.1) ∧ w'.cell? ⟨w.heap.size, 1, none⟩ = some (.string s.2) ∧ w'.cell? ⟨p, 0, none⟩ = some (.string last.1) ∧ w'.cell? ⟨p, 1, none⟩ = some (.string last.2) ∧ Fr (fun _ => False) (w.alloc (.cells #[.string s.1, .string s.2] 43)) w' := fun w' h =>
    have hq := hRA.fr0 h
    ⟨h.cell0 (cellNew w _ _ _ 0 rfl), h.cell0 (cellNew w _ _ _ 1 rfl), cellH hq.heap 0 rfl, cellH hq.heap 1 rfl, h⟩
  have HC := hideIt C
  have HRA := hideIt hRA
  have HFA := hideIt ((Fr.refl (fun _ => False) w).alloc (.cells #[.string s.1, .string s.2] 43))
  have hsA : (w.alloc (.cells #[.string s.1, .string s.2] 43)).heap.size = w.heap.size + 1 := by simp
  have HBN := hideIt (fun k (e : blk ao k) => hR.row.lt e)
  clear C hRA hs hR
  go_enter Try.func58, Try.ntmps58
  go_wp2_with fail
  generalize w.alloc (.cells #[.string s.1, .string s.2] 43) = W at *
  obtain ⟨c0, c1, c2, c3, -⟩ := HC.out W (Fr.refl _ W)
  go_region_held3 (fun w' => w'.cell? ⟨w.heap.size, 0, none⟩ = some (.string s.1) ∧ w'.cell? ⟨w.heap.size, 1, none⟩ = some (.string s.2) ∧ w'.cell? ⟨p, 0, none⟩ = some (.string last.1) ∧ w'.cell? ⟨p, 1, none⟩ = some (.string last.2) ∧ Fr (fun _ => False) W w')
    (first | exact HC.out _ (by assumption) | exact HC.out _ ((Fr.refl _ _).drew) | exact HC.out _ (Fr.refl _ _))
    (first | (go_at_call 60; refine Calls.mono (hE.out _) ?_; rintro e w1 ⟨rfl, hF1⟩; have hW1 := Fr.trans ((Fr.refl (fun _ => False) W).drew) hF1 (fun _ _ e => e)))
  obtain ⟨d0, d1, d2, d3, -⟩ := HC.out w1 hW1
  have hR1 := HRA.out.fr0 hW1
  have d4 := cellH hR1.heap 2 rfl
  have f2 : w1.frozen? ⟨p, 2, none⟩ = false := frozen_of_row w1 p _ _ _ hR1.heap
  have hF2 : Fr (fun _ => False) w1 ((w1.alloc (.cells #[.string last.1, .string last.2] 43)).drew) := ((Fr.refl _ _).alloc _).drew
  have hat : SpsAt ((w1.alloc (.cells #[.string last.1, .string last.2] 43)).drew) (some ⟨w1.heap.size, 0, none⟩) [last] := (sps_one last w1).keep (Nat.le_refl _) (fun _ _ _ => rfl)
  obtain ⟨ao', cap', w3, hrun, hrow3, hF3, hao⟩ := spans_append _ ao cap A [last] (hR1.row.fr hF2 (fun _ _ e => e)) (some ⟨w1.heap.size, 0, none⟩) 1 (Or.inr hat) (by simp; omega)
  rw [List.length_singleton] at hrun
  have HR := hideIt hrun
  have hp1 := hR1.lt
  have hb3 : w3.heap[p]? = some (.cells #[.string last.1, .string last.2, .slice ao A.length cap] 76 (0, 0)) := by
    rw [hF3.block p (by simp [World.drew]; omega) hR1.apart]
    exact (hF2.block p hp1 (fun e => e)).trans hR1.heap
  have b0 := cellH hb3 0 rfl
  have b1 := cellH hb3 1 rfl
  have b2 := cellH hb3 2 rfl
  have z2 : w3.frozen? ⟨p, 2, none⟩ = false := frozen_of_row w3 p _ _ _ hb3
  have hb4 : (w3.setCell ⟨p, 2, none⟩ (.slice ao' (A.length + 1) cap')).heap[p]? = some (.cells #[.string last.1, .string last.2, .slice ao' (A.length + 1) cap'] 76 (0, 0)) := by
    rw [heap_setCell_same w3 p 2 _ _ _ hb3]
    rfl
  have HS4 := hideIt (show (w3.setCell ⟨p, 2, none⟩ (.slice ao' (A.length + 1) cap')).cell? ⟨p, 0, none⟩ = some (.string last.1) ∧ (w3.setCell ⟨p, 2, none⟩ (.slice ao' (A.length + 1) cap')).cell? ⟨p, 1, none⟩ = some (.string last.2) from ⟨cellH hb4 0 rfl, cellH hb4 1 rfl⟩)
  have HS2 := hideIt (show ((w1.alloc (.cells #[.string last.1, .string last.2] 43)).drew).cell? ⟨p, 0, none⟩ = some (.string last.1) ∧ ((w1.alloc (.cells #[.string last.1, .string last.2] 43)).drew).cell? ⟨p, 1, none⟩ = some (.string last.2) from ⟨hF2.cell0 d2, hF2.cell0 d3⟩)
  have hsz1 := hW1.size
  have hbn : ¬ blk ao w.heap.size := fun e => by
    have h1 := HRA.out.row.lt e
    have h2 := HBN.out _ e
    omega
  have hFp : Fr (fun k => k = p ∨ blk ao k) w w3 := by
    refine ((HFA.out.mono (fun _ e => e.elim)).trans (hW1.trans hF2 (fun _ _ e => e)) (fun _ _ e => e.elim)).trans hF3 (fun _ _ e => Or.inr e)
  have q0 : (w3.setCell ⟨p, 2, none⟩ (.slice ao' (A.length + 1) cap')).cell? ⟨w.heap.size, 0, none⟩ = some (.string s.1) := by
    rw [World.cell?_of_block (a := ⟨w.heap.size, 0, none⟩) (heap_setCell_other w3 ⟨p, 2, none⟩ _ _ (by show w.heap.size ≠ p; omega))]
    rw [World.cell?_of_block (a := ⟨w.heap.size, 0, none⟩) (hF3.block w.heap.size (by simp [World.drew]; omega) hbn)]
    exact hF2.cell0 d0
  have q1 : (w3.setCell ⟨p, 2, none⟩ (.slice ao' (A.length + 1) cap')).cell? ⟨w.heap.size, 1, none⟩ = some (.string s.2) := by
    rw [World.cell?_of_block (a := ⟨w.heap.size, 1, none⟩) (heap_setCell_other w3 ⟨p, 2, none⟩ _ _ (by show w.heap.size ≠ p; omega))]
    rw [World.cell?_of_block (a := ⟨w.heap.size, 1, none⟩) (hF3.block w.heap.size (by simp [World.drew]; omega) hbn)]
    exact hF2.cell0 d1
  have HQ := hideIt (And.intro q0 q1)
  have HFIN := hideIt (show AddPost w p ao (A ++ [last]) s (((w3.setCell ⟨p, 2, none⟩ (.slice ao' (A.length + 1) cap')).setCell ⟨p, 0, none⟩ (.string s.1)).setCell ⟨p, 1, none⟩ (.string s.2)) by
    have hap' : ¬ blk ao' p := by
      rcases hao with rfl | rfl
      · exact hR1.apart
      · rintro ⟨a, e1, e2⟩
        obtain rfl := Option.some.inj e1
        simp [World.drew] at e2
        omega
    refine ⟨ao', cap', ⟨?_, ?_, hap'⟩, ?_, ?_⟩
    · rw [heap_setCell_same _ p 1 _ _ _ (heap_setCell_same _ p 0 _ _ _ hb4), List.length_append]
      rfl
    · refine hrow3.keep fun k hk hb => ?_
      have hne : k ≠ p := fun e => hap' (e ▸ hb)
      rw [heap_setCell_other _ _ _ _ hne, heap_setCell_other _ _ _ _ hne, heap_setCell_other _ _ _ _ hne]
    · exact Fr.setCell (Fr.setCell (Fr.setCell hFp (fun _ => Or.inl rfl) _) (fun _ => Or.inl rfl) _) (fun _ => Or.inl rfl) _
    · rcases hao with e | e
      · exact Or.inl e
      · refine Or.inr fun k hk => ?_
        obtain ⟨a, e1, e2⟩ := hk
        rw [e] at e1
        obtain rfl := Option.some.inj e1
        simp [World.drew] at e2
        omega)
  clear hF3 hF2 hat hrun hrow3 hR1 hF1 hW1 hFp q0 q1 hao
  go_wp2_with fail
  refine wp_region_held_drew (S := fun w' => w'.cell? ⟨p, 0, none⟩ = some (.string last.1) ∧ w'.cell? ⟨p, 1, none⟩ = some (.string last.2)) (by kernel_rfl) ?_ (fun hHeld => ?_)
  · exact ⟨d2, d3⟩
  refine wpAnyH_take (i := 0) (v := ?v1) rfl (by kernel_rfl) (by kernel_rfl) (by kernel_rfl) (fun _ _ _ h => h) (Or.inl ⟨by rfl, ?hy1⟩) (by assumption) ?rest1
  case hy1 => intro w hSw; (try dsimp only at hSw); go_simp; (try with_reducible rfl)
  try simp only [Act.put, List.setIfInBounds_toArray, List.set_cons_zero, List.set_cons_succ]
  refine wpAnyH_take (i := 1) (v := ?v2) rfl (by kernel_rfl) (by kernel_rfl) (by kernel_rfl) (fun _ _ _ h => h) (Or.inl ⟨by rfl, ?hy2⟩) (by assumption) ?rest2
  case hy2 => intro w hSw; (try dsimp only at hSw); go_simp; (try with_reducible rfl)
  try simp only [Act.put, List.setIfInBounds_toArray, List.set_cons_zero, List.set_cons_succ]
  refine wpAnyH_take (i := 2) (v := ?v3) rfl (by kernel_rfl) (by kernel_rfl) (by kernel_rfl) (fun _ _ _ h => h) (Or.inl ⟨by rfl, ?hy3⟩) (by assumption) ?rest3
  case hy3 => intro w hSw; (try dsimp only at hSw); go_simp; (try with_reducible rfl)
  try simp only [Act.put, List.setIfInBounds_toArray, List.set_cons_zero, List.set_cons_succ]
  refine wpAnyH_take (i := 3) (v := ?v4) rfl (by kernel_rfl) (by kernel_rfl) (by kernel_rfl) (fun _ _ _ h => h) (Or.inl ⟨by rfl, ?hy4⟩) (by assumption) ?rest4
  case hy4 => intro w hSw; (try dsimp only at hSw); go_simp; (try with_reducible rfl)
  try simp only [Act.put, List.setIfInBounds_toArray, List.set_cons_zero, List.set_cons_succ]
  refine wpAnyH_take (i := 5) (v := ?v5) rfl (by kernel_rfl) (by kernel_rfl) (by kernel_rfl) (fun _ _ _ h => h) (Or.inl ⟨by rfl, ?hy5⟩) (by assumption) ?rest5
  case hy5 => intro w hSw; (try dsimp only at hSw); go_simp; (try with_reducible rfl)
  try simp only [Act.put, List.setIfInBounds_toArray, List.set_cons_zero, List.set_cons_succ]
  refine wpAnyH_take (i := 6) (v := ?v6) rfl (by kernel_rfl) (by kernel_rfl) (by kernel_rfl) (fun _ _ _ h => h) (Or.inl ⟨by rfl, ?hy6⟩) (by assumption) ?rest6
  case hy6 => intro w hSw; (try dsimp only at hSw); go_simp; (try with_reducible rfl)
  try simp only [Act.put, List.setIfInBounds_toArray, List.set_cons_zero, List.set_cons_succ]
  refine wpAnyH_take (i := 7) (v := ?v7) rfl (by kernel_rfl) (by kernel_rfl) (by kernel_rfl) (fun _ _ _ h => h) (Or.inl ⟨by rfl, ?hy7⟩) (by assumption) ?rest7
  case hy7 => intro w hSw; (try dsimp only at hSw); go_simp; (try with_reducible rfl)
  try simp only [Act.put, List.setIfInBounds_toArray, List.set_cons_zero, List.set_cons_succ]
  refine wpAnyH_take (i := 8) (v := ?v8) rfl (by kernel_rfl) (by kernel_rfl) (by kernel_rfl) (fun _ _ _ h => h) (Or.inl ⟨by rfl, ?hy8⟩) (by assumption) ?rest8
  case hy8 => intro w hSw; (try dsimp only at hSw); go_simp; (try with_reducible rfl)
  try simp only [Act.put, List.setIfInBounds_toArray, List.set_cons_zero, List.set_cons_succ]
  refine wpAnyH_take (i := 9) (v := ?v9) rfl (by kernel_rfl) (by kernel_rfl) (by kernel_rfl) (fun _ _ _ h => h) (Or.inl ⟨by rfl, ?hy9⟩) (by assumption) ?rest9
  case hy9 => intro w hSw; (try dsimp only at hSw); go_simp; (try with_reducible rfl)
  try simp only [Act.put, List.setIfInBounds_toArray, List.set_cons_zero, List.set_cons_succ]
  refine wpAnyH_ready (rs := [4, 10]) (by kernel_rfl) (by simp) ?_
  refine AllReadyH.cons rfl (fun K hK => ?_) ?_
  · go_simp
    refine hK.out _ _ ?_ (fun hHeld => ?_)
    · exact hHeld
    clear hK K
    try simp only [Act.put, List.setIfInBounds_toArray, List.set_cons_zero, List.set_cons_succ]
    refine wpAnyH_ready (rs := [10]) (by kernel_rfl) (by simp) ?_
    refine AllReadyH.cons rfl (fun K hK => ?_) AllReadyH.nil
    go_simp
    refine hK.out _ _ ?_ (fun hHeld => ?_)
    · exact HS2.out
    clear hK K
    try simp only [Act.put, List.setIfInBounds_toArray, List.set_cons_zero, List.set_cons_succ]
    refine wpAnyH_ready (rs := [11]) (by kernel_rfl) (by simp) ?_
    refine AllReadyH.cons rfl (fun K hK => ?_) AllReadyH.nil
    refine step_append_run rfl (.tmp 17) (.tmp 23) 33 33 rfl _ _ _ _ rfl rfl HR.out ?_
    refine hK.out _ _ ?_ (fun hHeld => ?_)
    · exact ⟨b0, b1⟩
    clear hK K
    try simp only [Act.put, List.setIfInBounds_toArray, List.set_cons_zero, List.set_cons_succ]
    refine wpAnyH_take (i := 12) (v := ?v10) rfl (by kernel_rfl) (by kernel_rfl) (by kernel_rfl) (fun _ _ _ h => h) (Or.inl ⟨by rfl, ?hy10⟩) (by assumption) ?rest10
    case hy10 => intro w hSw; (try dsimp only at hSw); go_simp; (try with_reducible rfl)
    try simp only [Act.put, List.setIfInBounds_toArray, List.set_cons_zero, List.set_cons_succ]
    refine wpAnyH_take (i := 13) (v := ?v11) rfl (by kernel_rfl) (by kernel_rfl) (by kernel_rfl) (fun _ _ _ h => h) (Or.inl ⟨by rfl, ?hy11⟩) (by assumption) ?rest11
    case hy11 => intro w hSw; (try dsimp only at hSw); go_simp; (try with_reducible rfl)
    try simp only [Act.put, List.setIfInBounds_toArray, List.set_cons_zero, List.set_cons_succ]
    refine wpAnyH_ready (rs := [14]) (by kernel_rfl) (by simp) ?_
    refine AllReadyH.cons rfl (fun K hK => ?_) AllReadyH.nil
    go_simp
    refine hK.out _ _ ?_ (fun hHeld => ?_)
    · exact HS4.out
    clear hK K
    try simp only [Act.put, List.setIfInBounds_toArray, List.set_cons_zero, List.set_cons_succ]
    refine wpAnyH_done (by kernel_rfl) ?_ _
    have b4 := cellH hb4 0 rfl
    have b5 := cellH hb4 1 rfl
    have z4 := frozen_of_row _ p 0 _ _ hb4
    have z5 := frozen_of_row _ p 1 _ _ hb4
    obtain ⟨q0, q1⟩ := HQ.out
    clear HS4 HS2 hHeld HR
    go_wp2_with fail
    go_end0
    exact ⟨rfl, HFIN.out⟩
  refine AllReadyH.cons rfl (fun K hK => ?_) ?_
  · go_simp
    refine hK.out _ _ ?_ (fun hHeld => ?_)
    · exact HS2.out
    clear hK K
    try simp only [Act.put, List.setIfInBounds_toArray, List.set_cons_zero, List.set_cons_succ]
    refine wpAnyH_ready (rs := [4]) (by kernel_rfl) (by simp) ?_
    refine AllReadyH.cons rfl (fun K hK => ?_) AllReadyH.nil
    go_simp
    refine hK.out _ _ ?_ (fun hHeld => ?_)
    · exact HS2.out
    clear hK K
    try simp only [Act.put, List.setIfInBounds_toArray, List.set_cons_zero, List.set_cons_succ]
    refine wpAnyH_ready (rs := [11]) (by kernel_rfl) (by simp) ?_
    refine AllReadyH.cons rfl (fun K hK => ?_) AllReadyH.nil
    refine step_append_run rfl (.tmp 17) (.tmp 23) 33 33 rfl _ _ _ _ rfl rfl HR.out ?_
    refine hK.out _ _ ?_ (fun hHeld => ?_)
    · exact ⟨b0, b1⟩
    clear hK K
    try simp only [Act.put, List.setIfInBounds_toArray, List.set_cons_zero, List.set_cons_succ]
    refine wpAnyH_take (i := 12) (v := ?v12) rfl (by kernel_rfl) (by kernel_rfl) (by kernel_rfl) (fun _ _ _ h => h) (Or.inl ⟨by rfl, ?hy12⟩) (by assumption) ?rest12
    case hy12 => intro w hSw; (try dsimp only at hSw); go_simp; (try with_reducible rfl)
    try simp only [Act.put, List.setIfInBounds_toArray, List.set_cons_zero, List.set_cons_succ]
    refine wpAnyH_take (i := 13) (v := ?v13) rfl (by kernel_rfl) (by kernel_rfl) (by kernel_rfl) (fun _ _ _ h => h) (Or.inl ⟨by rfl, ?hy13⟩) (by assumption) ?rest13
    case hy13 => intro w hSw; (try dsimp only at hSw); go_simp; (try with_reducible rfl)
    try simp only [Act.put, List.setIfInBounds_toArray, List.set_cons_zero, List.set_cons_succ]
    refine wpAnyH_ready (rs := [14]) (by kernel_rfl) (by simp) ?_
    refine AllReadyH.cons rfl (fun K hK => ?_) AllReadyH.nil
    go_simp
    refine hK.out _ _ ?_ (fun hHeld => ?_)
    · exact HS4.out
    clear hK K
    try simp only [Act.put, List.setIfInBounds_toArray, List.set_cons_zero, List.set_cons_succ]
    refine wpAnyH_done (by kernel_rfl) ?_ _
    have b4 := cellH hb4 0 rfl
    have b5 := cellH hb4 1 rfl
    have z4 := frozen_of_row _ p 0 _ _ hb4
    have z5 := frozen_of_row _ p 1 _ _ hb4
    obtain ⟨q0, q1⟩ := HQ.out
    clear HS4 HS2 hHeld HR
    go_wp2_with fail
    go_end0
    exact ⟨rfl, HFIN.out⟩
  exact AllReadyH.nil

end Go.Proofs.Ytnjogpojikjflaa

/- Spans: a row that grows, or stays. -/
namespace Go.Proofs.Ytnjogpojikjflaa
open Go.RowKit Go.IntWalk
set_option linter.unusedSimpArgs false
set_option linter.unusedVariables false
set_option maxRecDepth 100000

set_option maxHeartbeats 1000000 in
theorem add_else (p : Nat) (last s : Sp) (ao : Option Addr) (cap : Nat) (A : List Sp) (w : World) (hR : RowAt w p last ao cap A) (hs : ¬ short last (lo s)) :
    Calls Try.prog 58 #[.pointer (some ⟨p, 0, none⟩), .agg #[.string s.1, .string s.2]] w fun e w' => e = .returned (.tuple #[]) ∧ AddPost w p ao A (grow1 last s) w' := by
  have hE := hideIt (fun w => end_any last s.1 w)
  have hneg : ¬ endS (hi last) s.1.toList < 0 := fun e => hs ((endS_neg (hi last) (lo s)).1 e)
  generalize endS (hi last) s.1.toList = n at *
  have hRA := hR.fr0 ((Fr.refl (fun _ => False) w).alloc (.cells #[.string s.1, .string s.2] 43))
  have hlt := hR.lt
  have C : ∀ (w' : World), Fr (fun _ => False) (w.alloc (.cells #[.string s.1, .string s.2] 43)) w' → w'.cell? ⟨w.heap.size, 0, none⟩ = some (.string s.1) ∧ w'.cell? ⟨w.heap.size, 1, none⟩ = some (.string s.2) ∧ w'.cell? ⟨p, 0, none⟩ = some (.string last.1) ∧ w'.cell? ⟨p, 1, none⟩ = some (.string last.2) ∧ Fr (fun _ => False) (w.alloc (.cells #[.string s.1, .string s.2] 43)) w' := fun w' h =>
    have hq := hRA.fr0 h
    ⟨h.cell0 (cellNew w _ _ _ 0 rfl), h.cell0 (cellNew w _ _ _ 1 rfl), cellH hq.heap 0 rfl, cellH hq.heap 1 rfl, h⟩
  have HC := hideIt C
  have HRA := hideIt hRA
  have HFA := hideIt ((Fr.refl (fun _ => False) w).alloc (.cells #[.string s.1, .string s.2] 43))
  have hO := hideIt (fun w => outlasts_any s last w)
  have HG : Hid (grow1 last s = if decide (outl s last) = true then (last.1, s.2) else last) := hideIt (by simp [grow1])
  generalize decide (outl s last) = o at *
  clear C hRA hs hR
  cases o
  · rw [if_neg (by decide)] at HG
    go_enter Try.func58, Try.ntmps58
    go_wp2_with fail
    generalize w.alloc (.cells #[.string s.1, .string s.2] 43) = W at *
    obtain ⟨c0, c1, c2, c3, -⟩ := HC.out W (Fr.refl _ W)
    go_region_held3 (fun w' => w'.cell? ⟨w.heap.size, 0, none⟩ = some (.string s.1) ∧ w'.cell? ⟨w.heap.size, 1, none⟩ = some (.string s.2) ∧ w'.cell? ⟨p, 0, none⟩ = some (.string last.1) ∧ w'.cell? ⟨p, 1, none⟩ = some (.string last.2) ∧ Fr (fun _ => False) W w')
      (first | exact HC.out _ (by assumption) | exact HC.out _ ((Fr.refl _ _).drew) | exact HC.out _ (Fr.refl _ _))
      (first | (go_at_call 60; refine Calls.mono (hE.out _) ?_; rintro e w1 ⟨rfl, hF1⟩; have hW1 := Fr.trans ((Fr.refl (fun _ => False) W).drew) hF1 (fun _ _ e => e)))
    obtain ⟨d0, d1, d2, d3, -⟩ := HC.out w1 hW1
    have HC1 := hideIt (show ∀ w' : World, Fr (fun _ => False) w1 w' → w'.cell? ⟨w.heap.size, 0, none⟩ = some (.string s.1) ∧ w'.cell? ⟨w.heap.size, 1, none⟩ = some (.string s.2) ∧ w'.cell? ⟨p, 0, none⟩ = some (.string last.1) ∧ w'.cell? ⟨p, 1, none⟩ = some (.string last.2) ∧ Fr (fun _ => False) w1 w' from fun w' h => by
      obtain ⟨q0, q1, q2, q3, -⟩ := HC.out w' (hW1.trans h (fun _ _ e => e))
      exact ⟨q0, q1, q2, q3, h⟩)
    have HW1 := hideIt hW1
    clear hW1 hF1 c0 c1 c2 c3
    go_wp2_with fail
    go_region_held3 (fun w' => w'.cell? ⟨w.heap.size, 0, none⟩ = some (.string s.1) ∧ w'.cell? ⟨w.heap.size, 1, none⟩ = some (.string s.2) ∧ w'.cell? ⟨p, 0, none⟩ = some (.string last.1) ∧ w'.cell? ⟨p, 1, none⟩ = some (.string last.2) ∧ Fr (fun _ => False) w1 w')
      (first | exact HC1.out _ (by assumption) | exact HC1.out _ ((Fr.refl _ _).drew) | exact HC1.out _ (Fr.refl _ _))
      (first | (go_at_call 65; refine Calls.mono (hO.out _) ?_; rintro e w2 ⟨rfl, hF2⟩; have hW2 := Fr.trans ((Fr.refl (fun _ => False) w1).drew) hF2 (fun _ _ e => e)))
    have hF := HFA.out.trans (HW1.out.trans hW2 (fun _ _ e => e)) (fun _ _ e => e)
    have HFIN := hideIt (show AddPost w p ao A (grow1 last s) w2 by
      rw [HG.out]
      exact ⟨ao, cap, HRA.out.fr0 (HW1.out.trans hW2 (fun _ _ e => e)), hF.mono (fun _ e => e.elim), Or.inl rfl⟩)
    clear hF hF2 hW2
    go_wp2_with fail
    go_end0
    exact ⟨rfl, HFIN.out⟩
  · rw [if_pos rfl] at HG
    go_enter Try.func58, Try.ntmps58
    go_wp2_with fail
    generalize w.alloc (.cells #[.string s.1, .string s.2] 43) = W at *
    obtain ⟨c0, c1, c2, c3, -⟩ := HC.out W (Fr.refl _ W)
    go_region_held3 (fun w' => w'.cell? ⟨w.heap.size, 0, none⟩ = some (.string s.1) ∧ w'.cell? ⟨w.heap.size, 1, none⟩ = some (.string s.2) ∧ w'.cell? ⟨p, 0, none⟩ = some (.string last.1) ∧ w'.cell? ⟨p, 1, none⟩ = some (.string last.2) ∧ Fr (fun _ => False) W w')
      (first | exact HC.out _ (by assumption) | exact HC.out _ ((Fr.refl _ _).drew) | exact HC.out _ (Fr.refl _ _))
      (first | (go_at_call 60; refine Calls.mono (hE.out _) ?_; rintro e w1 ⟨rfl, hF1⟩; have hW1 := Fr.trans ((Fr.refl (fun _ => False) W).drew) hF1 (fun _ _ e => e)))
    obtain ⟨d0, d1, d2, d3, -⟩ := HC.out w1 hW1
    have HC1 := hideIt (show ∀ w' : World, Fr (fun _ => False) w1 w' → w'.cell? ⟨w.heap.size, 0, none⟩ = some (.string s.1) ∧ w'.cell? ⟨w.heap.size, 1, none⟩ = some (.string s.2) ∧ w'.cell? ⟨p, 0, none⟩ = some (.string last.1) ∧ w'.cell? ⟨p, 1, none⟩ = some (.string last.2) ∧ Fr (fun _ => False) w1 w' from fun w' h => by
      obtain ⟨q0, q1, q2, q3, -⟩ := HC.out w' (hW1.trans h (fun _ _ e => e))
      exact ⟨q0, q1, q2, q3, h⟩)
    have HW1 := hideIt hW1
    clear hW1 hF1 c0 c1 c2 c3
    go_wp2_with fail
    go_region_held3 (fun w' => w'.cell? ⟨w.heap.size, 0, none⟩ = some (.string s.1) ∧ w'.cell? ⟨w.heap.size, 1, none⟩ = some (.string s.2) ∧ w'.cell? ⟨p, 0, none⟩ = some (.string last.1) ∧ w'.cell? ⟨p, 1, none⟩ = some (.string last.2) ∧ Fr (fun _ => False) w1 w')
      (first | exact HC1.out _ (by assumption) | exact HC1.out _ ((Fr.refl _ _).drew) | exact HC1.out _ (Fr.refl _ _))
      (first | (go_at_call 65; refine Calls.mono (hO.out _) ?_; rintro e w2 ⟨rfl, hF2⟩; have hW2 := Fr.trans ((Fr.refl (fun _ => False) w1).drew) hF2 (fun _ _ e => e)))
    have hF := HFA.out.trans (HW1.out.trans hW2 (fun _ _ e => e)) (fun _ _ e => e)
    have hR2 := HRA.out.fr0 (HW1.out.trans hW2 (fun _ _ e => e))
    obtain ⟨g0, g1, g2, g3, -⟩ := HC1.out w2 hW2
    have z1 := frozen_of_row w2 p 1 _ _ hR2.heap
    have HFIN := hideIt (show AddPost w p ao A (grow1 last s) (w2.setCell ⟨p, 1, none⟩ (.string s.2)) by
      rw [HG.out]
      refine ⟨ao, cap, ⟨?_, ?_, hR2.apart⟩, Fr.setCell (hF.mono (fun _ e => e.elim)) (fun _ => Or.inl rfl) _, Or.inl rfl⟩
      · rw [heap_setCell_same _ p 1 _ _ _ hR2.heap]
        rfl
      · refine hR2.row.keep fun k hk hb => ?_
        have hne : k ≠ p := fun e => hR2.apart (e ▸ hb)
        rw [heap_setCell_other _ _ _ _ hne])
    clear hF hF2 hW2 hR2
    go_wp2_with fail
    go_end0
    exact ⟨rfl, HFIN.out⟩

theorem add_any (p : Nat) (last s : Sp) (ao : Option Addr) (cap : Nat) (A : List Sp) (w : World) (hR : RowAt w p last ao cap A) (hb : A.length ≤ 1099511627775) :
    Calls Try.prog 58 #[.pointer (some ⟨p, 0, none⟩), .agg #[.string s.1, .string s.2]] w fun e w' => e = .returned (.tuple #[]) ∧ AddPost w p ao (addS A last s).1 (addS A last s).2 w' := by
  unfold addS
  by_cases h : short last (lo s)
  · rw [if_pos h]
    exact add_short p last s ao cap A w hR h hb
  · rw [if_neg h]
    exact add_else p last s ao cap A w hR h

end Go.Proofs.Ytnjogpojikjflaa

/- Spans: joined, Join. -/
namespace Go.Proofs.Ytnjogpojikjflaa
open Go.RowKit Go.IntWalk
set_option linter.unusedSimpArgs false
set_option linter.unusedVariables false
set_option maxRecDepth 100000

theorem addS_jn (A : List Sp) (last s : Sp) (r : List Sp) : (addS A last s).1 ++ jn (addS A last s).2 r = A ++ jn last (s :: r) := by
  unfold addS
  rw [jn]
  by_cases h : short last (lo s)
  · rw [if_pos h, if_pos h]
    simp
  · rw [if_neg h, if_neg h]

theorem addS_len (A : List Sp) (last s : Sp) : (addS A last s).1.length ≤ A.length + 1 := by
  unfold addS
  split <;> simp

set_option maxRecDepth 100000 in
set_option maxHeartbeats 1000000 in
theorem joined_any (first : Sp) (ao : Option Addr) (cap : Nat) (l : List Sp) (w : World) (h : l = [] ∨ SpsAt w ao l) (hb : l.length ≤ 1099511627774) :
    Calls Try.prog 44 #[.agg #[.string first.1, .string first.2], .slice ao l.length cap] w fun e w' => ∃ ao' cap', e = .returned (.slice ao' (jn first l).length cap') ∧ SpRow w' ao' cap' (jn first l) ∧ Fr (fun _ => False) w w' ∧ ∀ k, blk ao' k → w.heap.size ≤ k := by
  have HH := hideIt h
  clear h
  have hst : RowAt ((w.alloc (.cells #[.string first.1, .string first.2] 43)).alloc (.cells #[.string first.1, .string first.2, .slice none 0 0] 76)) (w.heap.size + 1) first none 0 [] := by
    refine ⟨?_, SpRow.nil _, fun ⟨_, e, _⟩ => by cases e⟩
    have := heap_alloc_new (w.alloc (.cells #[.string first.1, .string first.2] 43)) (.cells #[.string first.1, .string first.2, .slice none 0 0] 76)
    simpa using this
  have HST := hideIt hst
  clear hst
  go_enter Try.func44, Try.ntmps44
  go_wp2_with fail
  go_loopw [13] (fun i wr => ∃ (k : Nat) (A : List Sp) (last : Sp) (aoa : Option Addr) (capa : Nat), i = .int .i64 k ∧ k ≤ l.length ∧ A.length ≤ k ∧ RowAt wr (w.heap.size + 1) last aoa capa A ∧ Hid (A ++ jn last (l.drop k) = jn first l) ∧ Fr (fun _ => False) w wr ∧ ∀ j, blk aoa j → w.heap.size ≤ j) (fun i _ => l.length - (intOf i).toNat)
  case atStart => exact ⟨0, [], first, none, 0, rfl, Nat.zero_le _, Nat.zero_le _, HST.out, hideIt (by simp), ((Fr.refl _ _).alloc _).alloc _, fun _ ⟨_, e, _⟩ => by cases e⟩
  case round =>
    obtain ⟨k, A, last, aoa, capa, rfl, hk, hAk, hrow, HJ, hF, hn⟩ := hrel
    by_cases hlt : k < l.length
    · obtain ⟨b, off, rfl, hbl, c0, c1⟩ := SpsAt.get (ats_fr0 HH.out hF) k hlt
      have HD := hideIt (List.drop_eq_getElem_cons hlt)
      have HROW := hideIt hrow
      have HF := hideIt hF
      have HN := hideIt hn
      have hp := hrow.lt
      clear hrow hF hn
      generalize l[k] = x at *
      have hA := hideIt (fun w' (h : RowAt w' (w.heap.size + 1) last aoa capa A) => add_any (w.heap.size + 1) last x aoa capa A w' h (by omega))
      have HL := hideIt (addS_len A last x)
      have HJ' := hideIt (addS_jn A last x (l.drop (k + 1)))
      generalize (addS A last x).1 = A' at *
      generalize (addS A last x).2 = last' at *
      have hF1 : Fr (fun _ => False) wr (wr.alloc (.cells #[.string x.1, .string x.2] 43)) := (Fr.refl _ _).alloc _
      have HF1 := hideIt hF1
      clear hF1
      go_wp2_with fail
      refine Calls.mono (hA.out _ (HROW.out.fr0 HF1.out)) ?_
      rintro e w1 ⟨rfl, hP⟩
      have HP := hideIt hP
      clear hP
      go_wp2_with fail
      go_roundw
      case measure => simp [intOf]; omega
      case rel =>
        obtain ⟨ao', cap', h1, h2, h3⟩ := HP.out
        have hl' := HL.out
        have hsz := HF.out.size
        refine ⟨k + 1, A', last', ao', cap', by go_num, by omega, by omega, h1, hideIt ?_, (HF.out.trans HF1.out (fun _ _ e => e)).trans h2 (fun i hi e => ?_), fun j hj => ?_⟩
        · rw [HJ'.out, ← HD.out, HJ.out]
        · rcases e with e | e
          · omega
          · have := HN.out i e
            omega
        · rcases h3 with h3 | h3
          · exact HN.out j (h3 ▸ hj)
          · have := h3 j hj
            simp at this
            omega
    · obtain rfl : k = l.length := by omega
      have HJ2 : Hid (A ++ [last] = jn first l) := hideIt (by have := HJ.out; rw [List.drop_length] at this; exact this)
      have c0 := cellH hrow.heap 0 rfl
      have c1 := cellH hrow.heap 1 rfl
      have c2 := cellH hrow.heap 2 rfl
      have hF2 : Fr (fun _ => False) wr (wr.alloc (.cells #[.string last.1, .string last.2] 43)) := (Fr.refl _ _).alloc _
      obtain ⟨ao', cap', w3, hrun, hrow3, hF3, hao⟩ := spans_append _ aoa capa A [last] (hrow.row.fr hF2 (fun _ _ e => e)) (some ⟨wr.heap.size, 0, none⟩) 1 (Or.inr (sps_one last wr)) (by simp; omega)
      rw [List.length_singleton] at hrun
      have HR := hideIt hrun
      have hsz := hF.size
      have hFF := (hF.trans hF2 (fun _ _ e => e)).trans hF3 (fun i hi e => by have := hn i e; omega)
      have HFIN := hideIt (show ∃ ao'' cap'', Ending.returned (.slice ao' (A.length + 1) cap') = .returned (.slice ao'' (jn first l).length cap'') ∧ SpRow w3 ao'' cap'' (jn first l) ∧ Fr (fun _ => False) w w3 ∧ ∀ k, blk ao'' k → w.heap.size ≤ k by
        rw [← HJ2.out]
        refine ⟨ao', cap', by rw [List.length_append]; rfl, hrow3, hFF, fun k hk => ?_⟩
        rcases hao with e | e
        · exact hn k (e ▸ hk)
        · obtain ⟨a, e1, e2⟩ := hk
          rw [e] at e1
          obtain rfl := Option.some.inj e1
          simp at e2
          omega)
      clear hrow hF hn hF2 hrun hrow3 hF3 hao hFF
      go_wp2_with (first | (at_builtin; refine wpList_append_run _ rfl (.tmp 21) (.tmp 25) 33 33 rfl _ _ _ _ rfl rfl HR.out ?_))
      go_ret
      exact HFIN.out

/-- Spans, joined. -/
def joinC (l : List Sp) : List Sp := jl (sortC (fulls l))

set_option maxHeartbeats 1000000 in
theorem join_any (ao : Option Addr) (cap : Nat) (l : List Sp) (w : World) (h : l = [] ∨ SpsAt w ao l) (hb : l.length ≤ 1099511627774) :
    Calls Try.prog 31 #[.slice ao l.length cap] w fun e w' => ∃ ao' cap', e = .returned (.slice ao' (joinC l).length cap') ∧ SpRow w' ao' cap' (joinC l) ∧ Fr (fun _ => False) w w' ∧ ∀ k, blk ao' k → w.heap.size ≤ k := by
  have hR := hideIt (rising_any ao cap l w h (by omega))
  unfold joinC
  have hlen : (sortC (fulls l)).length ≤ l.length := by rw [sortC_len]; exact fulls_len l
  generalize sortC (fulls l) = m at *
  clear h
  cases m with
  | nil =>
    go_enter Try.func31, Try.ntmps31
    go_wp2_with fail
    refine Calls.mono hR.out ?_
    rintro e w1 ⟨ao1, cap1, rfl, hat, hF, hle, hn⟩
    simp only [List.length_nil]
    go_wp2_with fail
    go_ret
    exact ⟨none, 0, rfl, SpRow.nil _, hF, fun _ ⟨_, e, _⟩ => by cases e⟩
  | cons x r =>
    have hJ := hideIt (fun ao' cap' w' (h : r = [] ∨ SpsAt w' ao' r) => joined_any x ao' cap' r w' h (by simp at hlen; omega))
    go_enter Try.func31, Try.ntmps31
    go_wp2_with fail
    refine Calls.mono hR.out ?_
    rintro e w1 ⟨ao1, cap1, rfl, hat, hF, hle, hn⟩
    have hat' : SpsAt w1 ao1 (x :: r) := hat.resolve_left (by simp)
    obtain ⟨b, off, rfl, hbl, c0, c1⟩ := SpsAt.get hat 0 (by simp)
    have hc0 : w1.cell? ⟨b, off, none⟩ = some (.string x.1) := by simpa using c0
    have hc1 : w1.cell? ⟨b, off + 1, none⟩ = some (.string x.2) := by simpa using c1
    have HC := hideIt (show ∀ w' : World, Fr (fun _ => False) w1 w' → w'.cell? ⟨b, off, none⟩ = some (.string x.1) ∧ w'.cell? ⟨b, off + 1, none⟩ = some (.string x.2) ∧ Fr (fun _ => False) w1 w' from fun w' h => ⟨h.cell0 hc0, h.cell0 hc1, h⟩)
    have HAT := hideIt hat'
    have HF := hideIt hF
    have HN := hideIt hn
    simp only [List.length_cons] at hle
    clear hat hat' hF hn c0 c1
    by_cases hcap : cap1 = 1
    · subst hcap
      obtain rfl : r = [] := List.eq_nil_of_length_eq_zero (by omega)
      simp only [List.length_cons, List.length_nil]
      go_wp2_with fail
      go_region_held3 (fun w' => w'.cell? ⟨b, off, none⟩ = some (.string x.1) ∧ w'.cell? ⟨b, off + 1, none⟩ = some (.string x.2) ∧ Fr (fun _ => False) w1 w')
        (first | exact HC.out _ (by assumption) | exact HC.out _ ((Fr.refl _ _).drew) | exact HC.out _ (Fr.refl _ _))
        (first | (go_at_call 44; refine Calls.mono (hJ.out _ _ _ (by first | exact Or.inl rfl | exact Or.inl trivial | trivial)) ?_; rintro e w2 ⟨ao2, cap2, rfl, hrow, hF2, hn2⟩; have hW2 := Fr.trans ((Fr.refl (fun _ => False) w1).drew) hF2 (fun _ _ e => e)))
      go_wp2_with fail
      go_ret
      exact ⟨ao2, cap2, rfl, hrow, HF.out.trans hW2 (fun _ _ e => e), fun k hk => by have h1 : w1.heap.size ≤ k := hn2 k hk; have h2 := HF.out.size; omega⟩
    · simp only [List.length_cons]
      have hl1 : (1 : Int) ≤ (r.length : Int) + 1 := by omega
      go_wp2_with fail
      go_region_held3 (fun w' => w'.cell? ⟨b, off, none⟩ = some (.string x.1) ∧ w'.cell? ⟨b, off + 1, none⟩ = some (.string x.2) ∧ Fr (fun _ => False) w1 w')
        (first | exact HC.out _ (by assumption) | exact HC.out _ ((Fr.refl _ _).drew) | exact HC.out _ (Fr.refl _ _))
        (first | (go_at_call 44; refine Calls.mono (hJ.out _ _ _ (Or.inr (HAT.out.tail.fr0 ((Fr.refl _ _).drew)))) ?_; rintro e w2 ⟨ao2, cap2, rfl, hrow, hF2, hn2⟩; have hW2 := Fr.trans ((Fr.refl (fun _ => False) w1).drew) hF2 (fun _ _ e => e)))
      go_wp2_with fail
      go_ret
      exact ⟨ao2, cap2, rfl, hrow, HF.out.trans hW2 (fun _ _ e => e), fun k hk => by have h1 : w1.heap.size ≤ k := hn2 k hk; have h2 := HF.out.size; omega⟩

end Go.Proofs.Ytnjogpojikjflaa

/- Spans: Has, Covers, how long lists are. -/
namespace Go.Proofs.Ytnjogpojikjflaa
open Go.RowKit Go.IntWalk
set_option linter.unusedSimpArgs false
set_option linter.unusedVariables false
set_option maxRecDepth 100000

/-- Neither end is longer than 100 bytes. -/
def Brief (x : Sp) : Prop := x.1.size ≤ 100 ∧ x.2.size ≤ 100

def LongPost (l : List Sp) (m : Nat) (w : World) (e : Ending) (w' : World) : Prop := ∃ b, e = .returned (.bool b) ∧ w' = w ∧ (b = false → l.length ≤ m ∧ ∀ x ∈ l, Brief x)

set_option maxRecDepth 100000 in
set_option maxHeartbeats 1000000 in
theorem long_any (ao : Option Addr) (cap : Nat) (l : List Sp) (m : Nat) (w : World) (h : l = [] ∨ SpsAt w ao l) (hl : l.length ≤ 9223372036854775807) (hm : m ≤ 1000000) :
    Calls Try.prog 22 #[.slice ao l.length cap, .int .i64 m] w (LongPost l m w) := by
  have HH := hideIt h
  clear h
  go_enter Try.func22, Try.ntmps22
  go_wp2_with fail
  go_loop [5] (fun i => ∃ k : Nat, i = .int .i64 k ∧ k ≤ l.length ∧ k ≤ m + 1 ∧ Hid (∀ x ∈ l.take k, Brief x)) (fun i => l.length - (intOf i).toNat)
  case atStart => exact ⟨0, rfl, Nat.zero_le _, Nat.zero_le _, hideIt (by simp)⟩
  case round =>
    obtain ⟨k, rfl, hk, hkm, HB⟩ := hrel
    by_cases hlt : k < l.length
    · by_cases hm1 : k ≤ m
      · obtain ⟨b, off, rfl, hbl, c0, c1⟩ := SpsAt.get HH.out k hlt
        have HT := hideIt (List.take_succ_eq_append_getElem hlt)
        generalize l[k] = x at *
        by_cases h0 : 100 < x.1.size
        · have h0' : (100 : Int) < (x.1.size : Int) := by omega
          go_wp2_with fail
          go_ret
          exact ⟨true, rfl, rfl, fun e => by cases e⟩
        · have h0' : ¬ (100 : Int) < (x.1.size : Int) := by omega
          by_cases h1 : 100 < x.2.size
          · have h1' : (100 : Int) < (x.2.size : Int) := by omega
            go_wp2_with fail
            go_ret
            exact ⟨true, rfl, rfl, fun e => by cases e⟩
          · have h1' : ¬ (100 : Int) < (x.2.size : Int) := by omega
            have HX := hideIt (show Brief x from ⟨by omega, by omega⟩)
            go_wp2_with fail
            go_round
            case rel => exact ⟨k + 1, by go_num, by omega, by omega, hideIt (fun y hy => by rw [HT.out] at hy; rcases List.mem_append.1 hy with e | e; exact HB.out y e; rw [List.mem_singleton.1 e]; exact HX.out)⟩
            case measure => simp [intOf]; omega
      · obtain rfl : k = m + 1 := by omega
        go_wp2_with fail
        go_ret
        exact ⟨_, rfl, rfl, fun e => absurd hlt (by have := of_decide_eq_false e; omega)⟩
    · obtain rfl : k = l.length := by omega
      go_wp2_with fail
      go_ret
      refine ⟨_, rfl, rfl, fun e => ⟨?_, ?_⟩⟩
      · have := of_decide_eq_false e
        omega
      · have := HB.out
        rwa [List.take_length] at this

/-- A key is in one of some. -/
def hasB (l : List Sp) (k : By) : Bool := l.any fun s => decide (KeyIn s k)

theorem hasB_iff (l : List Sp) (k : By) : hasB l k = true ↔ HasK l k := by
  unfold hasB HasK
  rw [List.any_eq_true]
  simp only [decide_eq_true_eq]

end Go.Proofs.Ytnjogpojikjflaa
