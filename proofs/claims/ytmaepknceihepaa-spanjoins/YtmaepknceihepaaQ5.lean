/- SpanJoins, part 5 of the road: what the program's functions do, each by its own walk. -/
import Derived.Test.YtmaepknceihepaaQ3
import Derived.Test.YtmaepknceihepaaQ4
import Derived.Deep.QuietTactic

/- Rows of spans: where they lie, appended to, held by a sort. -/
namespace Go.Proofs.Ytmaepknceihepaa
open Go.RowKit Go.IntWalk Go.Sort
set_option linter.unusedSimpArgs false
set_option linter.unusedVariables false
set_option maxRecDepth 100000

/-- append onto a row of the call's own, of whatever is appended: the row is the same, or a new one. -/
theorem append_rowE {P : Program} (w : World) (t tx ty e : TypeId) (i : TypeInfo) (z : Value) (ht : P.underlying t = some (.slice e)) (hi : P.info? e = some i) (hz : i.zero = some z) (size bytes : Nat) (hsize : i.size = size) (hby : i.bytes = bytes) (hzs : z.cells.size = size)
    (ao : Option Addr) (cap n m : Nat) (xs ys : List Value) (hown : w.ownsRow 0 e size (.slice ao n cap) n xs) (x : Value) (hs : Src P size tx x m ys w) (hm : n + m ≤ maxLen) (hb : (n + m) * bytes ≤ 140737488355328) :
    ∃ ao' cap' w', (Builtin.append_ #[t, tx] ty #[.slice ao n cap, x]).run P w = .ok (.slice ao' (n + m) cap') w' ∧ w'.ownsRow 0 e size (.slice ao' (n + m) cap') (n + m) (xs ++ ys) ∧ Fr (blk ao) w w' ∧ (ao' = ao ∨ ao' = some ⟨w.heap.size, 0, none⟩) := by
  subst hsize
  have hxl : xs.length = n * i.size := hown.1
  have hyl : ys.length = m * i.size := hs.newsLen
  have hall : (xs ++ ys).length = (n + m) * i.size := by rw [List.length_append, hxl, hyl, Nat.add_mul]
  have grow : cap < n + m → (Builtin.firstCells i.size n (.slice ao n cap)).run P w.drew = .ok xs.toArray w.drew →
      ∃ ao' cap' w', (Builtin.append_ #[t, tx] ty #[.slice ao n cap, x]).run P w = .ok (.slice ao' (n + m) cap') w' ∧ w'.ownsRow 0 e i.size (.slice ao' (n + m) cap') (n + m) (xs ++ ys) ∧ Fr (blk ao) w w' ∧ (ao' = ao ∨ ao' = some ⟨w.heap.size, 0, none⟩) := by
    intro hlt hold
    have hr := run_append_grow_src (P := P) w t tx ty e i z ht hi hz ao n cap xs hold x m ys hs hlt (by unfold maxLen at hm; omega) (growslice_fits hlt (by rw [hby]; omega))
    refine ⟨_, _, _, hr, ?_, (Fr.refl _ _).drew.alloc _, Or.inr rfl⟩
    have hge := grownCap_ge w (n + m) cap e
    have hcm := grownCap_le_maxLen w (n + m) cap e hm
    refine ⟨hall, Or.inr ⟨w.heap.size, _, _, rfl, Nat.zero_le _, heap_alloc_new w.drew _, hge, hcm, ?_, ?_⟩⟩
    · simp only [Array.size_append, List.size_toArray, size_zeroCells, hzs, hall]
      rw [← Nat.add_mul, Nat.add_sub_cancel' hge]
    · simp only [Array.toList_append]
      rw [← hall]
      exact List.take_left
  rcases hown.2 with ⟨hv, hn⟩ | ⟨g, c, cur, hv, _, hg, hle, hcm, hcs, htake⟩
  · obtain ⟨rfl, _, rfl⟩ := Value.slice.inj hv
    subst hn
    obtain rfl : xs = [] := List.eq_nil_of_length_eq_zero (by simpa using hxl)
    by_cases hc : m = 0
    · subst hc
      obtain rfl : ys = [] := List.eq_nil_of_length_eq_zero (by simpa using hyl)
      exact ⟨none, 0, w, run_append_nothing (P := P) w t tx ty e i ht hi none 0 0 (Nat.le_refl _) x hs, hown, Fr.refl _ _, Or.inl rfl⟩
    · exact grow (by omega) (run_firstCells_none w.drew i.size 0 0 0)
  · obtain ⟨rfl, _, rfl⟩ := Value.slice.inj hv
    by_cases hroom : n + m ≤ cap
    · have hfit : n * i.size + ys.length ≤ cur.size := by rw [hyl, hcs, ← Nat.add_mul]; exact Nat.mul_le_mul_right _ hroom
      have hst := run_storeCells_at P g (n * i.size) e ys 0 cur w hg (by simpa using hfit) hs.one
      simp only [Nat.add_zero] at hst
      refine ⟨some ⟨g, 0, none⟩, cap, w.setRow g (cur.toList.take (n * i.size) ++ ys ++ cur.toList.drop (n * i.size + ys.length)).toArray, ?_, ?_, ?_, Or.inl rfl⟩
      · rcases hs.kind with ⟨e', hk⟩ | hk <;> simp [Builtin.append_, run_underlying ht, run_underlying hk, sizeOf, typeInfo, hi, hs.len, hroom, hs.cells, Addr.add_lit, hst]
      · refine ⟨hall, Or.inr ⟨g, cap, _, rfl, Nat.zero_le _, setRow_heap w g cur _ e _ hg, hroom, hcm, ?_, ?_⟩⟩
        · simp only [List.size_toArray, List.length_append, List.length_take, List.length_drop, Array.length_toList]
          rw [← hcs]
          omega
        · simp only [htake]
          rw [← hall]
          exact List.take_left
      · exact ⟨rfl, rfl, rfl, by simp, fun k _ hk => setRow_other w g k _ (fun e => hk ⟨⟨g, 0, none⟩, rfl, by simp [e]⟩)⟩
    · refine grow (by omega) (run_firstCells_some w.drew i.size n ⟨g, 0, none⟩ n cap xs hxl (fun j u hu => ?_))
      have := hown.cells (g := g) rfl j u hu
      simpa using this

/-- A span's cells. -/
def spL (x : Sp) : List Value := [.string x.1, .string x.2]

theorem flat2_len (l : List Sp) : (l.flatMap spL).length = l.length * 2 := by
  induction l with
  | nil => rfl
  | cons x l ih => rw [List.flatMap_cons, List.length_append, ih, List.length_cons]; simp [spL]; omega

theorem flat2_get : ∀ (l : List Sp) (i j : Nat) (hi : i < l.length) (hj : j < 2), (l.flatMap spL)[i * 2 + j]? = (spL l[i])[j]?
  | [], i, _, hi, _ => absurd hi (by simp)
  | x :: l, i, j, hi, hj => by
    rw [List.flatMap_cons]
    cases i with
    | zero =>
      rw [Nat.zero_mul, Nat.zero_add, List.getElem?_append_left (by simpa [spL] using hj)]
      rfl
    | succ i =>
      rw [List.getElem?_append_right (by simp [spL]; omega), show (i + 1) * 2 + j - (spL x).length = i * 2 + j by simp [spL]; omega]
      exact flat2_get l i j (by simpa using hi) hj

/-- Spans, wherever they lie. -/
def SpsAt (w : World) (ao : Option Addr) (l : List Sp) : Prop :=
  (ao = none ∧ l = []) ∨ ∃ b off, ao = some ⟨b, off, none⟩ ∧ b < w.heap.size ∧ ∀ i (h : i < l.length), w.cell? ⟨b, off + i * 2, none⟩ = some (.string l[i].1) ∧ w.cell? ⟨b, off + i * 2 + 1, none⟩ = some (.string l[i].2)

theorem SpsAt.keep {w w' : World} {ao : Option Addr} {l : List Sp} (h : SpsAt w ao l) (hs : w.heap.size ≤ w'.heap.size) (hb : ∀ k, k < w.heap.size → blk ao k → w'.heap[k]? = w.heap[k]?) : SpsAt w' ao l := by
  rcases h with h | ⟨b, off, rfl, hlt, hc⟩
  · exact Or.inl h
  · refine Or.inr ⟨b, off, rfl, by omega, fun i hi => ?_⟩
    have e := hb b hlt ⟨_, rfl, rfl⟩
    exact ⟨(World.cell?_of_block (a := ⟨b, off + i * 2, none⟩) e).trans (hc i hi).1, (World.cell?_of_block (a := ⟨b, off + i * 2 + 1, none⟩) e).trans (hc i hi).2⟩

theorem SpsAt.fr {S : Nat → Prop} {w w' : World} {ao : Option Addr} {l : List Sp} (h : SpsAt w ao l) (hF : Fr S w w') (hS : ∀ k, blk ao k → ¬ S k) : SpsAt w' ao l :=
  h.keep hF.size fun k hk e => hF.block k hk (hS k e)

theorem SpsAt.fr0 {w w' : World} {ao : Option Addr} {l : List Sp} (h : SpsAt w ao l) (hF : Fr (fun _ => False) w w') : SpsAt w' ao l := h.fr hF (fun _ _ e => e)

/-- Spans in a row of the call's own. -/
def SpRow (w : World) (ao : Option Addr) (cap : Nat) (l : List Sp) : Prop := w.ownsRow 0 24 2 (.slice ao l.length cap) l.length (l.flatMap spL)

theorem SpRow.nil (w : World) : SpRow w none 0 [] := World.ownsRow_nil _ _ _ _

theorem SpRow.keep {w w' : World} {ao : Option Addr} {cap : Nat} {l : List Sp} (h : SpRow w ao cap l) (hb : ∀ k, k < w.heap.size → blk ao k → w'.heap[k]? = w.heap[k]?) : SpRow w' ao cap l := by
  refine ⟨h.1, ?_⟩
  rcases h.2 with hn | ⟨g, c, cur, hv, hg, hh, r⟩
  · exact Or.inl hn
  · refine Or.inr ⟨g, c, cur, hv, hg, ?_, r⟩
    have hlt : g < w.heap.size := (Array.getElem?_eq_some_iff.1 hh).1
    rw [hb g hlt ⟨⟨g, 0, none⟩, by simpa using (Value.slice.inj hv).1, rfl⟩]
    exact hh

theorem SpRow.fr {S : Nat → Prop} {w w' : World} {ao : Option Addr} {cap : Nat} {l : List Sp} (h : SpRow w ao cap l) (hF : Fr S w w') (hS : ∀ k, blk ao k → ¬ S k) : SpRow w' ao cap l :=
  h.keep fun k hk e => hF.block k hk (hS k e)

theorem SpRow.lt {w : World} {ao : Option Addr} {cap : Nat} {l : List Sp} (h : SpRow w ao cap l) {k : Nat} (hk : blk ao k) : k < w.heap.size := by
  obtain ⟨a, rfl, rfl⟩ := hk
  rcases h.2 with ⟨hv, hn⟩ | ⟨g, c, cur, hv, _, hg, _⟩
  · cases (Value.slice.inj hv).1
  · obtain rfl := Option.some.inj (Value.slice.inj hv).1
    exact (Array.getElem?_eq_some_iff.1 hg).1

/-- A row's cells, its block. -/
theorem SpRow.form {w : World} {ao : Option Addr} {cap : Nat} {l : List Sp} (h : SpRow w ao cap l) :
    (ao = none ∧ l = [] ∧ cap = 0) ∨ ∃ g cur, ao = some ⟨g, 0, none⟩ ∧ w.heap[g]? = some (.cells cur 24 (0, 0)) ∧ ∀ i (hi : i < l.length), cur[i * 2]? = some (.string l[i].1) ∧ cur[i * 2 + 1]? = some (.string l[i].2) := by
  rcases h.2 with ⟨hv, hn⟩ | ⟨g, c, cur, hv, _, hg, hle, hcm, hcs, htake⟩
  · obtain ⟨rfl, _, rfl⟩ := Value.slice.inj hv
    exact Or.inl ⟨rfl, List.eq_nil_of_length_eq_zero hn, rfl⟩
  · obtain ⟨rfl, _, rfl⟩ := Value.slice.inj hv
    refine Or.inr ⟨g, cur, rfl, hg, fun i hi => ?_⟩
    have e : ∀ j, j < 2 → cur[i * 2 + j]? = (spL l[i])[j]? := fun j hj => by
      rw [← flat2_get l i j hi hj, ← htake, List.getElem?_take, if_pos (by omega)]
      simp
    exact ⟨e 0 (by omega), e 1 (by omega)⟩

theorem SpRow.at {w : World} {ao : Option Addr} {cap : Nat} {l : List Sp} (h : SpRow w ao cap l) : SpsAt w ao l := by
  rcases h.form with ⟨rfl, rfl, _⟩ | ⟨g, cur, rfl, hg, hc⟩
  · exact Or.inl ⟨rfl, rfl⟩
  · refine Or.inr ⟨g, 0, rfl, (Array.getElem?_eq_some_iff.1 hg).1, fun i hi => ?_⟩
    rw [cell_of_row w g _ _ _ _ hg, cell_of_row w g _ _ _ _ hg]
    simpa using hc i hi

theorem Try.infoSp : (Try.prog.info? 24).map (fun i => (i.zero, i.size, i.bytes)) = some (some (.agg #[.string ⟨#[]⟩, .string ⟨#[]⟩]), 2, 32) := by kernel_rfl

theorem sp_src {w : World} {bo : Option Addr} {ys : List Sp} (h : ys = [] ∨ SpsAt w bo ys) (c : Nat) : Src Try.prog 2 22 (.slice bo ys.length c) ys.length (ys.flatMap spL) w := by
  have nil : ∀ bo, Src Try.prog 2 22 (.slice bo 0 c) 0 [] w := fun bo => by
    cases bo with
    | none => exact Src.ofNil w Try.underlying22 c
    | some a => exact Src.ofSlice w Try.underlying22 a 0 c [] (by simp) (fun j u hu => by cases hu) (fun u hu => by cases hu)
  rcases h with rfl | ⟨rfl, rfl⟩ | ⟨b, off, rfl, hb, hc⟩
  · exact nil bo
  · exact nil none
  · refine Src.ofSlice w Try.underlying22 ⟨b, off, none⟩ ys.length c (ys.flatMap spL) (flat2_len ys) (fun k u hu => ?_) (fun u hu => ?_)
    · have hk := (List.getElem?_eq_some_iff.1 hu).1
      rw [flat2_len ys] at hk
      have e : k = k / 2 * 2 + k % 2 := by omega
      have hi : k / 2 < ys.length := by omega
      rw [e, flat2_get ys _ _ hi (by omega)] at hu
      have := hc (k / 2) hi
      rw [Addr.add_lit, e, ← Nat.add_assoc]
      rcases Nat.mod_two_eq_zero_or_one k with h | h
      · rw [h] at hu ⊢
        obtain rfl := Option.some.inj hu
        exact this.1
      · rw [h] at hu ⊢
        obtain rfl := Option.some.inj hu
        exact this.2
    · obtain ⟨x, _, hx⟩ := List.mem_flatMap.1 hu
      simp only [spL, List.mem_cons, List.not_mem_nil, or_false] at hx
      rcases hx with rfl | rfl <;> rfl

theorem spans_append (w : World) (ao : Option Addr) (cap : Nat) (l ys : List Sp) (hrow : SpRow w ao cap l) (bo : Option Addr) (c : Nat) (hs : ys = [] ∨ SpsAt w bo ys) (hb : l.length + ys.length ≤ 1099511627776) :
    ∃ ao' cap' w', (Builtin.append_ #[22, 22] 22 #[.slice ao l.length cap, .slice bo ys.length c]).run Try.prog w = .ok (.slice ao' (l.length + ys.length) cap') w' ∧ SpRow w' ao' cap' (l ++ ys) ∧ Fr (blk ao) w w' ∧ (ao' = ao ∨ ao' = some ⟨w.heap.size, 0, none⟩) := by
  obtain ⟨i0, hi, hz0, hz1, hz2⟩ := info_parts Try.infoSp
  obtain ⟨ao', cap', w', h1, h2, h3, h4⟩ := append_rowE w 22 22 22 24 i0 _ Try.underlying22 hi hz0 2 32 hz1 hz2 rfl ao cap l.length ys.length _ _ hrow _ (sp_src hs c) (by unfold maxLen; omega) (by omega)
  refine ⟨ao', cap', w', h1, ?_, h3, h4⟩
  unfold SpRow
  rw [List.length_append, List.flatMap_append]
  exact h2

theorem sps_one (x : Sp) (w : World) : SpsAt (w.alloc (.cells #[.string x.1, .string x.2] 24)) (some ⟨w.heap.size, 0, none⟩) [x] := by
  refine Or.inr ⟨w.heap.size, 0, rfl, by simp, fun i hi => ?_⟩
  obtain rfl : i = 0 := by simpa using hi
  exact ⟨cellNew _ _ _ _ _ rfl, cellNew _ _ _ _ _ rfl⟩

theorem holdsK_of {w : World} {g : Nat} {cap : Nat} {l : List Sp} (h : SpRow w (some ⟨g, 0, none⟩) cap l) : HoldsK spL 2 w g 0 l.toArray := by
  rcases h.form with ⟨e, _⟩ | ⟨g', cur, e, hg, hc⟩
  · cases e
  · obtain ⟨rfl⟩ := Option.some.inj e
    intro t ht
    simp only [size_flatK, List.size_toArray] at ht
    rw [get_flatK _ _ _ _ (by simpa using ht), cell_of_row w g _ _ _ _ hg, frozen_of_row w g _ _ _ hg]
    refine ⟨?_, rfl⟩
    have hi : t / 2 < l.length := by omega
    have := hc (t / 2) hi
    have e2 : (l.toArray)[t / 2]! = l[t / 2] := by simp [hi]
    rw [e2, Nat.zero_add]
    obtain ⟨t0, t1⟩ := this
    rcases Nat.mod_two_eq_zero_or_one t with h | h
    · rw [show t / 2 * 2 = t by omega] at t0
      rw [h]
      simpa [spL] using t0
    · rw [show t / 2 * 2 + 1 = t by omega] at t1
      rw [h]
      simpa [spL] using t1

theorem sps_of_holdsK {w : World} {g : Nat} {l : List Sp} (h : HoldsK spL 2 w g 0 l.toArray) (hg : g < w.heap.size) : SpsAt w (some ⟨g, 0, none⟩) l := by
  refine Or.inr ⟨g, 0, rfl, hg, fun i hi => ?_⟩
  have h0 := (h (i * 2) (by simp; omega)).1
  have h1 := (h (i * 2 + 1) (by simp; omega)).1
  rw [get_flatK _ _ _ _ (by simp; omega)] at h0 h1
  rw [show i * 2 / 2 = i by omega, show i * 2 % 2 = 0 by omega] at h0
  rw [show (i * 2 + 1) / 2 = i by omega, show (i * 2 + 1) % 2 = 1 by omega] at h1
  have e2 : (l.toArray)[i]! = l[i] := by simp [hi]
  rw [e2] at h0 h1
  exact ⟨h0, by rw [Nat.add_assoc]; exact h1⟩

theorem fr_sorted {w : World} {g n : Nat} {d : Array Sp} {os : Array Obj} : Fr (fun k => k = g) w (sortWorldK spL 2 w g 0 n d os) := by
  refine ⟨rfl, rfl, rfl, size_sortWorldK_c spL 2 w g 0 n d os, fun k hk hne => ?_⟩
  show (grow (putRowK spL 2 (Sort.ahead w n) g 0 d) os).heap[k]? = _
  simp only [grow, putRowK, putRow, mapBlock, Sort.ahead]
  rw [Array.getElem?_append_left (by simpa using hk), Array.getElem?_modify, if_neg (fun e => hne e.symm)]

end Go.Proofs.Ytmaepknceihepaa

/- Spans: how they are sorted. -/
namespace Go.Proofs.Ytmaepknceihepaa
open Go.RowKit Go.IntWalk Go.Sort
set_option linter.unusedSimpArgs false
set_option linter.unusedVariables false
set_option maxRecDepth 100000

theorem or_any (b : Nat) (x y : Int) (w : World) (h0 : w.cell? ⟨b, 0, none⟩ = some (.int .i64 x)) (h1 : w.cell? ⟨b, 1, none⟩ = some (.int .i64 y)) :
    Calls Try.prog 29 #[.slice (some ⟨b, 0, none⟩) 2 2] w fun e w' => e = .returned (.int .i64 (if x = 0 then y else x)) ∧ w' = w := by
  by_cases hx : x = 0
  · subst hx
    by_cases hy : y = 0
    · subst hy
      go_enter Try.func29, Try.ntmps29
      go_wp2
      refine wp_loop_rounds 3 ?_
      rw [rounds_succ]
      go_wp2
      rw [rounds_succ]
      go_wp2
      rw [rounds_succ]
      go_wp2
      go_ret
      exact ⟨rfl, rfl⟩
    · have hy' : (y != 0) = true := by simpa using hy
      clear hy
      go_enter Try.func29, Try.ntmps29
      go_wp2
      refine wp_loop_rounds 3 ?_
      rw [rounds_succ]
      go_wp2
      rw [rounds_succ]
      go_wp2
      go_ret
      exact ⟨rfl, rfl⟩
  · have hx' : (x != 0) = true := by simpa using hx
    have e : (if x = 0 then y else x) = x := by simp [hx]
    rw [e]
    clear e hx
    go_enter Try.func29, Try.ntmps29
    go_wp2
    refine wp_loop_rounds 3 ?_
    rw [rounds_succ]
    go_wp2
    go_ret
    exact ⟨rfl, rfl⟩

/-- How a span stands to another one: by where they begin, then by where they end. -/
def cf (x y : Sp) : Int := if cmpS (lo x) (lo y) = 0 then cmpS (hi x) (hi y) else cmpS (lo x) (lo y)

/-- Blocks are laid, draws are made, no more. -/
def Gr (w w' : World) : Prop := ∃ q os', w' = grow (w.drewN q) os'

theorem Gr.refl (w : World) : Gr w w := ⟨0, #[], by rw [grow_empty]; rfl⟩
theorem Gr.drew {w w' : World} (h : Gr w w') : Gr w w'.drew := by
  obtain ⟨q, os, rfl⟩ := h
  exact ⟨q + 1, os, by simp [grow, World.drew, World.drewN, Nat.add_assoc]⟩
theorem Gr.alloc {w w' : World} (h : Gr w w') (o : Obj) : Gr w (w'.alloc o) := by
  obtain ⟨q, os, rfl⟩ := h
  exact ⟨q, os ++ #[o], by rw [alloc_eq_grow, grow_grow]⟩
theorem Gr.trans {a b c : World} (h : Gr a b) (k : Gr b c) : Gr a c := by
  obtain ⟨q, os, rfl⟩ := h
  obtain ⟨q', os', rfl⟩ := k
  exact ⟨q + q', os ++ os', by simp [grow, World.drewN, Nat.add_assoc, Array.append_assoc]⟩
theorem Gr.fr {w w' : World} (h : Gr w w') : Fr (fun _ => False) w w' := by
  obtain ⟨q, os, rfl⟩ := h
  refine ⟨rfl, rfl, rfl, by simp [grow, World.drewN], fun k hk _ => ?_⟩
  simp only [grow, World.drewN]
  rw [Array.getElem?_append_left hk]

theorem closure_any (x y : Sp) (w : World) : Calls Try.prog 28 #[.agg #[.string x.1, .string x.2], .agg #[.string y.1, .string y.2]] w fun e w' => e = .returned (.int .i64 (cf x y)) ∧ Gr w w' := by
  have ecf : cf x y = if cmpS x.1.toList y.1.toList = 0 then cmpS x.2.toList y.2.toList else cmpS x.1.toList y.1.toList := rfl
  rw [ecf]
  clear ecf
  obtain ⟨g, hg, HG⟩ : ∃ g : ByteArray → ByteArray → Int, (∀ a b, cmpS a.toList b.toList = g a b) ∧ Hid (∀ a b w, Calls Try.prog 30 #[.string a, .string b] w fun e w' => e = .returned (.int .i64 (g a b)) ∧ w' = w) := ⟨fun a b => cmpS a.toList b.toList, fun _ _ => rfl, hideIt (fun a b w => cmp_any a b w)⟩
  rw [hg, hg]
  clear hg
  have H3 := hideIt (fun b w h0 h1 => or_any b (g x.1 y.1) (g x.2 y.2) w h0 h1)
  generalize (if g x.1 y.1 = 0 then g x.2 y.2 else g x.1 y.1) = r at *
  have C : ∀ (w' : World), Gr ((w.alloc (.cells #[.string x.1, .string x.2] 24)).alloc (.cells #[.string y.1, .string y.2] 24)) w' → w'.cell? ⟨w.heap.size, 0, none⟩ = some (.string x.1) ∧ w'.cell? ⟨w.heap.size, 1, none⟩ = some (.string x.2) ∧ w'.cell? ⟨w.heap.size + 1, 0, none⟩ = some (.string y.1) ∧ w'.cell? ⟨w.heap.size + 1, 1, none⟩ = some (.string y.2) ∧ Gr ((w.alloc (.cells #[.string x.1, .string x.2] 24)).alloc (.cells #[.string y.1, .string y.2] 24)) w' := fun w' hg =>
    have h := hg.fr
    ⟨h.cell0 (cellA (cellNew w _ _ _ 0 rfl) _), h.cell0 (cellA (cellNew w _ _ _ 1 rfl) _), h.cell0 (cellNew _ _ _ _ 0 (by simp)), h.cell0 (cellNew _ _ _ _ 1 (by simp)), hg⟩
  have HC := hideIt C
  have HW := hideIt (((Gr.refl w).alloc (.cells #[.string x.1, .string x.2] 24)).alloc (.cells #[.string y.1, .string y.2] 24))
  clear C
  go_enter Try.func28, Try.ntmps28
  go_wp2_with fail
  generalize (w.alloc (.cells #[.string x.1, .string x.2] 24)).alloc (.cells #[.string y.1, .string y.2] 24) = W at *
  have HN0 := hideIt (show ((W.alloc (.cells #[.int .i64 (g x.1 y.1), .int .i64 (g x.2 y.2)] 3)).drew).cell? ⟨W.heap.size, 0, none⟩ = some (.int .i64 (g x.1 y.1)) from cellNew _ _ _ _ 0 rfl)
  have HN1 := hideIt (show ((W.alloc (.cells #[.int .i64 (g x.1 y.1), .int .i64 (g x.2 y.2)] 3)).drew).cell? ⟨W.heap.size, 1, none⟩ = some (.int .i64 (g x.2 y.2)) from cellNew _ _ _ _ 1 rfl)
  obtain ⟨c0, c1, c2, c3, -⟩ := HC.out W (Gr.refl W)
  go_region_held3 (fun w' => w'.cell? ⟨w.heap.size, 0, none⟩ = some (.string x.1) ∧ w'.cell? ⟨w.heap.size, 1, none⟩ = some (.string x.2) ∧ w'.cell? ⟨w.heap.size + 1, 0, none⟩ = some (.string y.1) ∧ w'.cell? ⟨w.heap.size + 1, 1, none⟩ = some (.string y.2) ∧ Gr W w')
    (first | exact HC.out _ ((Gr.refl _).drew) | exact HC.out _ (((Gr.refl _).alloc _).drew) | exact HC.out _ (Gr.refl _))
    (first | (go_at_call 30; refine Calls.mono (HG.out _ _ _) ?_; rintro e wX ⟨rfl, rfl⟩) | (go_at_call 29; refine Calls.mono (H3.out _ _ HN0.out HN1.out) ?_; rintro e wX ⟨rfl, rfl⟩))
  all_goals
    go_wp2_with fail
    go_ret
    exact ⟨rfl, HW.out.trans (((Gr.refl _).alloc _).drew)⟩

end Go.Proofs.Ytmaepknceihepaa

/- Spans: those that are not empty, by rising Lo. -/
namespace Go.Proofs.Ytmaepknceihepaa
open Go.RowKit Go.IntWalk Go.Sort Go.Shelf
set_option linter.unusedSimpArgs false
set_option linter.unusedVariables false
set_option maxRecDepth 100000

theorem cf_neg (x y : Sp) : cf x y < 0 ↔ lo x < lo y ∨ lo x = lo y ∧ hi x < hi y := by
  unfold cf cmpS
  by_cases h1 : lo x < lo y
  · simp [h1]
  · by_cases h2 : lo x = lo y
    · have h3 : ¬ lo y < lo y := List.lt_irrefl _
      simp only [h2, h3, if_false, if_true, false_or, true_and]
      by_cases h4 : hi x < hi y
      · simp [h4]
      · by_cases h5 : hi x = hi y
        · rw [h5] at h4 ⊢
          simp [h4]
        · simp [h4, h5]
    · simp [h1, h2]

theorem lt_cf (x y : Sp) : ltOf cf x y = decide (lo x < lo y ∨ lo x = lo y ∧ hi x < hi y) := by
  unfold ltOf
  exact decide_eq_decide.mpr (cf_neg x y)

theorem swo_cf : SWO (ltOf cf) where
  irrefl x := by rw [lt_cf]; simp [List.lt_irrefl]
  trans x y z h1 h2 := by
    simp only [lt_cf, decide_eq_true_eq] at *
    generalize lo x = a at *
    generalize lo y = b at *
    generalize lo z = c at *
    generalize hi x = d at *
    generalize hi y = e at *
    generalize hi z = f at *
    obtain ⟨g, hl, he⟩ := rank [a, b, c, d, e, f]
    simp only [hl, he, List.mem_cons, true_or, or_true] at *
    omega
  ntrans x y z h1 h2 := by
    simp only [lt_cf, decide_eq_false_iff_not] at *
    generalize lo x = a at *
    generalize lo y = b at *
    generalize lo z = c at *
    generalize hi x = d at *
    generalize hi y = e at *
    generalize hi z = f at *
    obtain ⟨g, hl, he⟩ := rank [a, b, c, d, e, f]
    simp only [hl, he, List.mem_cons, true_or, or_true] at *
    omega

theorem tot_cf (x y : Sp) (h1 : ltOf cf x y = false) (h2 : ltOf cf y x = false) : x = y := by
  simp only [lt_cf, decide_eq_false_iff_not] at *
  have h3 : lo x = lo y ∧ hi x = hi y := by
    generalize lo x = a at *
    generalize lo y = b at *
    generalize hi x = d at *
    generalize hi y = e at *
    obtain ⟨g, hl, he⟩ := rank [a, b, d, e]
    simp only [hl, he, List.mem_cons, true_or, or_true] at *
    omega
  exact sp_ext h3.1 h3.2

/-- Spans by where they begin, then by where they end. -/
def sortC (l : List Sp) : List Sp := l.mergeSort fun x y => !ltOf cf y x

theorem sortC_len (l : List Sp) : (sortC l).length = l.length := List.length_mergeSort l

theorem sortC_sorted (l : List Sp) : Sorted l (sortC (l.filter fun x => decide (NonE x))) := by
  refine ⟨fun s => ?_, ?_⟩
  · unfold sortC
    rw [List.mem_mergeSort, List.mem_filter, decide_eq_true_eq]
  · refine List.Pairwise.imp ?_ (List.pairwise_mergeSort (le := fun x y => !ltOf cf y x) ?_ ?_ _)
    · intro a b h
      simp only [lt_cf, Bool.not_eq_true', decide_eq_false_iff_not, not_or] at h
      exact h.1
    · intro a b c h1 h2
      simp only [Bool.not_eq_true'] at *
      exact swo_cf.ntrans _ _ _ h2 h1
    · intro a b
      simp only [Bool.or_eq_true, Bool.not_eq_true']
      cases h : ltOf cf b a with
      | false => exact Or.inl rfl
      | true =>
        right
        cases h' : ltOf cf a b with
        | false => rfl
        | true => have := swo_cf.trans _ _ _ h h'; rw [swo_cf.irrefl] at this; cases this

theorem sort_any (ao : Option Addr) (cap : Nat) (l : List Sp) (w : World) (h : SpRow w ao cap l) (hb : l.length ≤ 1099511627776) :
    Calls Try.prog 27 #[.slice ao l.length cap, .func (.func 28) #[] #[]] w fun e w' => e = .returned (.tuple #[]) ∧ (sortC l = [] ∨ SpsAt w' ao (sortC l)) ∧ Fr (blk ao) w w' := by
  rcases h.form with ⟨rfl, rfl, rfl⟩ | ⟨g, cur, rfl, hg, hc⟩
  · refine Calls.mono (AnyF.slices_SortFunc_none { Try.sortSp with } none 0 (.func (.func 28) #[] #[]) w) ?_
    rintro e w' ⟨rfl, rfl⟩
    exact ⟨rfl, Or.inl (by simp [sortC]), Fr.refl _ _⟩
  · have hlt : g < w.heap.size := (Array.getElem?_eq_some_iff.1 hg).1
    have hH := holdsK_of h
    have eg : ∀ args w, (callFunc 28 args).run Try.prog w = .ok (.enter 28 args) w := enters_of Try.func28 (by kernel_rfl) rfl
    have hcon := AnyQ.slices_SortFunc_total Try.sortSp 2 Try.isAgg24 Try.sizeOf24 spL (fun _ => rfl) (fun x v hv => by simp [spL] at hv; rcases hv with rfl | rfl <;> rfl) cf swo_cf 28 #[] g 0 cap l.toArray w eg (fun _ _ _ _ x y => closure_any x y _) hH hlt (by simp; omega) tot_cf
    refine Calls.mono hcon ?_
    rintro e w' ⟨rfl, n, os, rfl⟩
    refine ⟨rfl, Or.inr ?_, fr_sorted.mono fun k e => ⟨_, rfl, e.symm⟩⟩
    refine sps_of_holdsK ?_ (lt_sortWorldK spL 2 w g 0 n _ os hlt)
    exact holdsK_sortWorldK spL 2 w g 0 n l.toArray _ os hlt hH (by simp [List.length_mergeSort])

end Go.Proofs.Ytmaepknceihepaa

/- Spans: rising. -/
namespace Go.Proofs.Ytmaepknceihepaa
open Go.RowKit Go.IntWalk
set_option linter.unusedSimpArgs false
set_option linter.unusedVariables false
set_option maxRecDepth 100000

/-- Those that are not empty. -/
def fulls (l : List Sp) : List Sp := l.filter fun x => decide (NonE x)

theorem fulls_take (l : List Sp) (k : Nat) (h : k < l.length) : fulls (l.take (k + 1)) = if NonE l[k] then fulls (l.take k) ++ [l[k]] else fulls (l.take k) := by
  unfold fulls
  rw [List.take_succ_eq_append_getElem h, List.filter_append]
  by_cases e : NonE l[k]
  · simp [e]
  · rw [if_neg e]
    simp [e]

theorem fulls_len (l : List Sp) : (fulls l).length ≤ l.length := List.length_filter_le _ _

/-- The cells of one of the spans. -/
theorem SpsAt.get {w : World} {ao : Option Addr} {l : List Sp} (h : l = [] ∨ SpsAt w ao l) (k : Nat) (hk : k < l.length) : ∃ b off, ao = some ⟨b, off, none⟩ ∧ b < w.heap.size ∧ w.cell? ⟨b, off + k * 2, none⟩ = some (.string l[k].1) ∧ w.cell? ⟨b, off + k * 2 + 1, none⟩ = some (.string l[k].2) := by
  rcases h with h | ⟨_, h⟩ | ⟨b, off, h1, h2, h3⟩
  · rw [h] at hk; exact absurd hk (by simp)
  · rw [h] at hk; exact absurd hk (by simp)
  · exact ⟨b, off, h1, h2, h3 k hk⟩

theorem ats_fr0 {w w' : World} {ao : Option Addr} {l : List Sp} (h : l = [] ∨ SpsAt w ao l) (hF : Fr (fun _ => False) w w') : l = [] ∨ SpsAt w' ao l := h.imp_right fun h => h.fr0 hF

theorem SpRow.le {w : World} {ao : Option Addr} {cap : Nat} {l : List Sp} (h : SpRow w ao cap l) : l.length ≤ cap := by
  rcases h.2 with ⟨hv, hn⟩ | ⟨g, c, cur, hv, _, hg, hle, _⟩
  · omega
  · obtain ⟨_, _, rfl⟩ := Value.slice.inj hv
    exact hle

theorem SpsAt.tail {w : World} {b off : Nat} {x : Sp} {r : List Sp} (h : SpsAt w (some ⟨b, off, none⟩) (x :: r)) : SpsAt w (some ⟨b, off + 2, none⟩) r := by
  rcases h with ⟨e, _⟩ | ⟨b', off', e, h2, h3⟩
  · cases e
  · obtain ⟨rfl, rfl⟩ : b = b' ∧ off = off' := by simpa using e
    refine Or.inr ⟨b, off + 2, rfl, h2, fun i hi => ?_⟩
    have := h3 (i + 1) (by simpa using hi)
    rw [show off + (i + 1) * 2 = off + 2 + i * 2 by omega] at this
    exact this

set_option maxRecDepth 100000 in
set_option maxHeartbeats 1000000 in
theorem rising_any (ao : Option Addr) (cap : Nat) (l : List Sp) (w : World) (h : l = [] ∨ SpsAt w ao l) (hb : l.length ≤ 1099511627775) :
    Calls Try.prog 15 #[.slice ao l.length cap] w fun e w' => ∃ ao' cap', e = .returned (.slice ao' (sortC (fulls l)).length cap') ∧ (sortC (fulls l) = [] ∨ SpsAt w' ao' (sortC (fulls l))) ∧ Fr (fun _ => False) w w' ∧ (sortC (fulls l)).length ≤ cap' ∧ ∀ k, blk ao' k → w.heap.size ≤ k := by
  have HH := hideIt h
  clear h
  go_enter Try.func15, Try.ntmps15
  go_wp2_with fail
  go_loopw [3, 8] (fun v i wr => ∃ (k : Nat) (aor : Option Addr) (capr : Nat) (m : List Sp), i = .int .i64 k ∧ k ≤ l.length ∧ v = .slice aor m.length capr ∧ Hid (m = fulls (l.take k)) ∧ SpRow wr aor capr m ∧ Fr (fun _ => False) w wr ∧ ∀ j, blk aor j → w.heap.size ≤ j) (fun _ i _ => l.length - (intOf i).toNat)
  case atStart => exact ⟨0, none, 0, [], rfl, Nat.zero_le _, rfl, hideIt rfl, SpRow.nil _, Fr.refl _ _, fun _ ⟨_, e, _⟩ => by cases e⟩
  case round =>
    obtain ⟨k, aor, capr, m, rfl, hk, rfl, HM, hrow, hF, hn⟩ := hrel
    have hml : m.length ≤ k := by
      rw [HM.out]
      refine Nat.le_trans (fulls_len _) ?_
      simp
      omega
    by_cases hlt : k < l.length
    · obtain ⟨b, off, rfl, hbl, c0, c1⟩ := SpsAt.get (ats_fr0 HH.out hF) k hlt
      have HT := hideIt (fulls_take l k hlt)
      have HROW := hideIt hrow
      have HF := hideIt hF
      have HN := hideIt hn
      clear hrow hF hn
      generalize l[k] = x at *
      by_cases hx : NonE x
      · have hE := hideIt (fun w => by have := empty_any x w; rw [show decide (¬ NonE x) = false by simp [hx]] at this; exact this)
        rw [if_pos hx] at HT
        clear hx
        go_wp2_with fail
        refine Calls.mono (hE.out _) ?_
        rintro e w1 ⟨rfl, hF1⟩
        have d0 := hF1.cell0 (cellNew wr #[.string x.1, .string x.2] 24 wr.heap.size 0 rfl)
        have d1 := hF1.cell0 (cellNew wr #[.string x.1, .string x.2] 24 wr.heap.size 1 rfl)
        have hF2 : Fr (fun _ => False) wr (w1.alloc (.cells #[.string x.1, .string x.2] 24)) := (((Fr.refl _ _).alloc _).trans hF1 (fun _ _ e => e)).alloc _
        obtain ⟨ao', cap', w3, hrun, hrow3, hF3, hao⟩ := spans_append _ aor capr m [x] (HROW.out.fr hF2 (fun _ _ e => e)) (some ⟨w1.heap.size, 0, none⟩) 1 (Or.inr (sps_one x w1)) (by simp; omega)
        rw [List.length_singleton] at hrun
        have HR := hideIt hrun
        have HG := hideIt hF2
        have HROW3 := hideIt hrow3
        have HF3 := hideIt hF3
        have HAO := hideIt hao
        clear hrun hF2 hrow3 hF3 hao hF1
        go_wp2_with (first | (at_builtin; refine wpList_append_run _ rfl (.tmp 15) (.tmp 17) 22 22 rfl _ _ _ _ rfl rfl HR.out ?_))
        go_roundw
        case measure => simp [intOf]; omega
        case rel =>
          have hF0 := HF.out.trans HG.out (fun _ _ e => e)
          refine ⟨k + 1, ao', cap', m ++ [x], by go_num, by omega, by simp, hideIt (by rw [HT.out, HM.out]), HROW3.out, hF0.trans HF3.out (fun i hi ⟨a, e1, e2⟩ => ?_), fun j hj => ?_⟩
          · have := HN.out i ⟨a, e1, e2⟩
            omega
          · rcases HAO.out with e | e
            · exact HN.out j (e ▸ hj)
            · obtain ⟨a, e1, e2⟩ := hj
              rw [e] at e1
              obtain rfl := Option.some.inj e1
              have := hF0.size
              simp at this e2
              omega
      · have hE := hideIt (fun w => by have := empty_any x w; rw [show decide (¬ NonE x) = true by simp [hx]] at this; exact this)
        rw [if_neg hx] at HT
        clear hx
        go_wp2_with fail
        refine Calls.mono (hE.out _) ?_
        rintro e w1 ⟨rfl, hF1⟩
        have hF2 : Fr (fun _ => False) wr w1 := ((Fr.refl _ _).alloc _).trans hF1 (fun _ _ e => e)
        have HG := hideIt hF2
        clear hF1 hF2
        go_wp2_with fail
        go_roundw
        case measure => simp [intOf]; omega
        case rel => exact ⟨k + 1, aor, capr, m, by go_num, by omega, rfl, hideIt (by rw [HT.out, HM.out]), HROW.out.fr HG.out (fun _ _ e => e), HF.out.trans HG.out (fun _ _ e => e), HN.out⟩
    · obtain rfl : k = l.length := by omega
      have em : m = fulls l := by rw [HM.out, List.take_length]
      have hS := hideIt (fun w' (h : SpRow w' aor capr m) => sort_any aor capr m w' h (by omega))
      have HROW := hideIt hrow
      have HF := hideIt hF
      have HN := hideIt hn
      have HEM := hideIt em
      have HL := hideIt (sortC_len m)
      clear hrow hF hn em
      go_wp2_with fail
      refine Calls.mono (hS.out _ HROW.out) ?_
      rintro e w2 ⟨rfl, hat, hF2⟩
      have HAT := hideIt hat
      clear hat
      go_wp2_with fail
      go_ret
      rw [← HEM.out]
      exact ⟨aor, capr, by rw [HL.out]; rfl, HAT.out, HF.out.trans hF2 (fun i hi e => by have := HN.out i e; omega), by rw [HL.out]; exact HROW.out.le, HN.out⟩
end Go.Proofs.Ytmaepknceihepaa

/- Spans: a row that grows. -/
namespace Go.Proofs.Ytmaepknceihepaa
open Go.RowKit Go.IntWalk
set_option linter.unusedSimpArgs false
set_option linter.unusedVariables false
set_option maxRecDepth 100000

/-- Spans that are joined so far: the last one, and those ahead of it. -/
structure RowAt (w : World) (p : Nat) (last : Sp) (ao : Option Addr) (cap : Nat) (A : List Sp) : Prop where
  heap : w.heap[p]? = some (.cells #[.string last.1, .string last.2, .slice ao A.length cap] 46 (0, 0))
  row : SpRow w ao cap A
  apart : ¬ blk ao p

theorem RowAt.lt {w : World} {p : Nat} {last : Sp} {ao : Option Addr} {cap : Nat} {A : List Sp} (h : RowAt w p last ao cap A) : p < w.heap.size := (Array.getElem?_eq_some_iff.1 h.heap).1

theorem RowAt.fr {S : Nat → Prop} {w w' : World} {p : Nat} {last : Sp} {ao : Option Addr} {cap : Nat} {A : List Sp} (h : RowAt w p last ao cap A) (hF : Fr S w w') (h1 : ¬ S p) (h2 : ∀ k, blk ao k → ¬ S k) : RowAt w' p last ao cap A :=
  ⟨(hF.block p h.lt h1).trans h.heap, h.row.fr hF h2, h.apart⟩

theorem RowAt.fr0 {w w' : World} {p : Nat} {last : Sp} {ao : Option Addr} {cap : Nat} {A : List Sp} (h : RowAt w p last ao cap A) (hF : Fr (fun _ => False) w w') : RowAt w' p last ao cap A := h.fr hF (fun e => e) (fun _ _ e => e)

theorem cellH {w : World} {g : Nat} {cs : Array Value} {T : TypeId} (h : w.heap[g]? = some (.cells cs T (0, 0))) (i : Nat) {v : Value} (hv : cs[i]? = some v) : w.cell? ⟨g, i, none⟩ = some v := (cell_of_row w g i _ _ _ h).trans hv

/-- What becomes of a row by another span. -/
def addS (A : List Sp) (last s : Sp) : List Sp × Sp := if short last (lo s) then (A ++ [last], s) else (A, grow1 last s)

def AddPost (w : World) (p : Nat) (ao : Option Addr) (A' : List Sp) (last' : Sp) (w' : World) : Prop :=
  ∃ ao' cap', RowAt w' p last' ao' cap' A' ∧ Fr (fun k => k = p ∨ blk ao k) w w' ∧ (ao' = ao ∨ ∀ k, blk ao' k → w.heap.size ≤ k)

set_option maxHeartbeats 1000000 in
theorem add_short (p : Nat) (last s : Sp) (ao : Option Addr) (cap : Nat) (A : List Sp) (w : World) (hR : RowAt w p last ao cap A) (hs : short last (lo s)) (hb : A.length ≤ 1099511627775) :
    Calls Try.prog 31 #[.pointer (some ⟨p, 0, none⟩), .agg #[.string s.1, .string s.2]] w fun e w' => e = .returned (.tuple #[]) ∧ AddPost w p ao (A ++ [last]) s w' := by
  have hE := hideIt (fun w => end_any last s.1 w)
  have hneg : endS (hi last) s.1.toList < 0 := (endS_neg (hi last) (lo s)).2 hs
  generalize endS (hi last) s.1.toList = n at *
  have hRA := hR.fr0 ((Fr.refl (fun _ => False) w).alloc (.cells #[.string s.1, .string s.2] 24))
  have hlt := hR.lt
  have C : ∀ (w' : World), Fr (fun _ => False) (w.alloc (.cells #[.string s.1, .string s.2] 24)) w' → w'.cell? ⟨w.heap.size, 0, none⟩ = some (.string s.1) ∧ w'.cell? ⟨w.heap.size, 1, none⟩ = some (.string s.2) ∧ w'.cell? ⟨p, 0, none⟩ = some (.string last.1) ∧ w'.cell? ⟨p, 1, none⟩ = some (.string last.2) ∧ Fr (fun _ => False) (w.alloc (.cells #[.string s.1, .string s.2] 24)) w' := fun w' h =>
    have hq := hRA.fr0 h
    ⟨h.cell0 (cellNew w _ _ _ 0 rfl), h.cell0 (cellNew w _ _ _ 1 rfl), cellH hq.heap 0 rfl, cellH hq.heap 1 rfl, h⟩
  have HC := hideIt C
  have HRA := hideIt hRA
  have HFA := hideIt ((Fr.refl (fun _ => False) w).alloc (.cells #[.string s.1, .string s.2] 24))
  have hsA : (w.alloc (.cells #[.string s.1, .string s.2] 24)).heap.size = w.heap.size + 1 := by simp
  have HBN := hideIt (fun k (e : blk ao k) => hR.row.lt e)
  clear C hRA hs hR
  go_enter Try.func31, Try.ntmps31
  go_wp2_with fail
  generalize w.alloc (.cells #[.string s.1, .string s.2] 24) = W at *
  obtain ⟨c0, c1, c2, c3, -⟩ := HC.out W (Fr.refl _ W)
  go_region_held3 (fun w' => w'.cell? ⟨w.heap.size, 0, none⟩ = some (.string s.1) ∧ w'.cell? ⟨w.heap.size, 1, none⟩ = some (.string s.2) ∧ w'.cell? ⟨p, 0, none⟩ = some (.string last.1) ∧ w'.cell? ⟨p, 1, none⟩ = some (.string last.2) ∧ Fr (fun _ => False) W w')
    (first | exact HC.out _ (by assumption) | exact HC.out _ ((Fr.refl _ _).drew) | exact HC.out _ (Fr.refl _ _))
    (first | (go_at_call 33; refine Calls.mono (hE.out _) ?_; rintro e w1 ⟨rfl, hF1⟩; have hW1 := Fr.trans ((Fr.refl (fun _ => False) W).drew) hF1 (fun _ _ e => e)))
  obtain ⟨d0, d1, d2, d3, -⟩ := HC.out w1 hW1
  have hR1 := HRA.out.fr0 hW1
  have d4 := cellH hR1.heap 2 rfl
  have f2 : w1.frozen? ⟨p, 2, none⟩ = false := frozen_of_row w1 p _ _ _ hR1.heap
  have hF2 : Fr (fun _ => False) w1 ((w1.alloc (.cells #[.string last.1, .string last.2] 24)).drew) := ((Fr.refl _ _).alloc _).drew
  have hat : SpsAt ((w1.alloc (.cells #[.string last.1, .string last.2] 24)).drew) (some ⟨w1.heap.size, 0, none⟩) [last] := (sps_one last w1).keep (Nat.le_refl _) (fun _ _ _ => rfl)
  obtain ⟨ao', cap', w3, hrun, hrow3, hF3, hao⟩ := spans_append _ ao cap A [last] (hR1.row.fr hF2 (fun _ _ e => e)) (some ⟨w1.heap.size, 0, none⟩) 1 (Or.inr hat) (by simp; omega)
  rw [List.length_singleton] at hrun
  have HR := hideIt hrun
  have hp1 := hR1.lt
  have hb3 : w3.heap[p]? = some (.cells #[.string last.1, .string last.2, .slice ao A.length cap] 46 (0, 0)) := by
    rw [hF3.block p (by simp [World.drew]; omega) hR1.apart]
    exact (hF2.block p hp1 (fun e => e)).trans hR1.heap
  have b0 := cellH hb3 0 rfl
  have b1 := cellH hb3 1 rfl
  have b2 := cellH hb3 2 rfl
  have z2 : w3.frozen? ⟨p, 2, none⟩ = false := frozen_of_row w3 p _ _ _ hb3
  have hb4 : (w3.setCell ⟨p, 2, none⟩ (.slice ao' (A.length + 1) cap')).heap[p]? = some (.cells #[.string last.1, .string last.2, .slice ao' (A.length + 1) cap'] 46 (0, 0)) := by
    rw [heap_setCell_same w3 p 2 _ _ _ hb3]
    rfl
  have HS4 := hideIt (show (w3.setCell ⟨p, 2, none⟩ (.slice ao' (A.length + 1) cap')).cell? ⟨p, 0, none⟩ = some (.string last.1) ∧ (w3.setCell ⟨p, 2, none⟩ (.slice ao' (A.length + 1) cap')).cell? ⟨p, 1, none⟩ = some (.string last.2) from ⟨cellH hb4 0 rfl, cellH hb4 1 rfl⟩)
  have HS2 := hideIt (show ((w1.alloc (.cells #[.string last.1, .string last.2] 24)).drew).cell? ⟨p, 0, none⟩ = some (.string last.1) ∧ ((w1.alloc (.cells #[.string last.1, .string last.2] 24)).drew).cell? ⟨p, 1, none⟩ = some (.string last.2) from ⟨hF2.cell0 d2, hF2.cell0 d3⟩)
  have hsz1 := hW1.size
  have hbn : ¬ blk ao w.heap.size := fun e => by
    have h1 := HRA.out.row.lt e
    have h2 := HBN.out _ e
    omega
  have hFp : Fr (fun k => k = p ∨ blk ao k) w w3 := by
    refine ((HFA.out.mono (fun _ e => e.elim)).trans (hW1.trans hF2 (fun _ _ e => e)) (fun _ _ e => e.elim)).trans hF3 (fun _ _ e => Or.inr e)
  have q0 : (w3.setCell ⟨p, 2, none⟩ (.slice ao' (A.length + 1) cap')).cell? ⟨w.heap.size, 0, none⟩ = some (.string s.1) := by
    rw [World.cell?_of_block (a := ⟨w.heap.size, 0, none⟩) (heap_setCell_other w3 ⟨p, 2, none⟩ _ _ (by show w.heap.size ≠ p; omega))]
    rw [World.cell?_of_block (a := ⟨w.heap.size, 0, none⟩) (hF3.block w.heap.size (by simp [World.drew]; omega) hbn)]
    exact hF2.cell0 d0
  have q1 : (w3.setCell ⟨p, 2, none⟩ (.slice ao' (A.length + 1) cap')).cell? ⟨w.heap.size, 1, none⟩ = some (.string s.2) := by
    rw [World.cell?_of_block (a := ⟨w.heap.size, 1, none⟩) (heap_setCell_other w3 ⟨p, 2, none⟩ _ _ (by show w.heap.size ≠ p; omega))]
    rw [World.cell?_of_block (a := ⟨w.heap.size, 1, none⟩) (hF3.block w.heap.size (by simp [World.drew]; omega) hbn)]
    exact hF2.cell0 d1
  have HQ := hideIt (And.intro q0 q1)
  have HFIN := hideIt (show AddPost w p ao (A ++ [last]) s (((w3.setCell ⟨p, 2, none⟩ (.slice ao' (A.length + 1) cap')).setCell ⟨p, 0, none⟩ (.string s.1)).setCell ⟨p, 1, none⟩ (.string s.2)) by
    have hap' : ¬ blk ao' p := by
      rcases hao with rfl | rfl
      · exact hR1.apart
      · rintro ⟨a, e1, e2⟩
        obtain rfl := Option.some.inj e1
        simp [World.drew] at e2
        omega
    refine ⟨ao', cap', ⟨?_, ?_, hap'⟩, ?_, ?_⟩
    · rw [heap_setCell_same _ p 1 _ _ _ (heap_setCell_same _ p 0 _ _ _ hb4), List.length_append]
      rfl
    · refine hrow3.keep fun k hk hb => ?_
      have hne : k ≠ p := fun e => hap' (e ▸ hb)
      rw [heap_setCell_other _ _ _ _ hne, heap_setCell_other _ _ _ _ hne, heap_setCell_other _ _ _ _ hne]
    · exact Fr.setCell (Fr.setCell (Fr.setCell hFp (fun _ => Or.inl rfl) _) (fun _ => Or.inl rfl) _) (fun _ => Or.inl rfl) _
    · rcases hao with e | e
      · exact Or.inl e
      · refine Or.inr fun k hk => ?_
        obtain ⟨a, e1, e2⟩ := hk
        rw [e] at e1
        obtain rfl := Option.some.inj e1
        simp [World.drew] at e2
        omega)
  clear hF3 hF2 hat hrun hrow3 hR1 hF1 hW1 hFp q0 q1 hao
  go_wp2_with fail
  refine wp_region_held_drew (S := fun w' => w'.cell? ⟨p, 0, none⟩ = some (.string last.1) ∧ w'.cell? ⟨p, 1, none⟩ = some (.string last.2)) (by kernel_rfl) ?_ (fun hHeld => ?_)
  · exact ⟨d2, d3⟩
  refine wpAnyH_take (i := 0) (v := ?v1) rfl (by kernel_rfl) (by kernel_rfl) (by kernel_rfl) (fun _ _ _ h => h) (Or.inl ⟨by rfl, ?hy1⟩) (by assumption) ?rest1
  case hy1 => intro w hSw; (try dsimp only at hSw); go_simp; (try with_reducible rfl)
  try simp only [Act.put, List.setIfInBounds_toArray, List.set_cons_zero, List.set_cons_succ]
  refine wpAnyH_take (i := 1) (v := ?v2) rfl (by kernel_rfl) (by kernel_rfl) (by kernel_rfl) (fun _ _ _ h => h) (Or.inl ⟨by rfl, ?hy2⟩) (by assumption) ?rest2
  case hy2 => intro w hSw; (try dsimp only at hSw); go_simp; (try with_reducible rfl)
  try simp only [Act.put, List.setIfInBounds_toArray, List.set_cons_zero, List.set_cons_succ]
  refine wpAnyH_take (i := 2) (v := ?v3) rfl (by kernel_rfl) (by kernel_rfl) (by kernel_rfl) (fun _ _ _ h => h) (Or.inl ⟨by rfl, ?hy3⟩) (by assumption) ?rest3
  case hy3 => intro w hSw; (try dsimp only at hSw); go_simp; (try with_reducible rfl)
  try simp only [Act.put, List.setIfInBounds_toArray, List.set_cons_zero, List.set_cons_succ]
  refine wpAnyH_take (i := 3) (v := ?v4) rfl (by kernel_rfl) (by kernel_rfl) (by kernel_rfl) (fun _ _ _ h => h) (Or.inl ⟨by rfl, ?hy4⟩) (by assumption) ?rest4
  case hy4 => intro w hSw; (try dsimp only at hSw); go_simp; (try with_reducible rfl)
  try simp only [Act.put, List.setIfInBounds_toArray, List.set_cons_zero, List.set_cons_succ]
  refine wpAnyH_take (i := 5) (v := ?v5) rfl (by kernel_rfl) (by kernel_rfl) (by kernel_rfl) (fun _ _ _ h => h) (Or.inl ⟨by rfl, ?hy5⟩) (by assumption) ?rest5
  case hy5 => intro w hSw; (try dsimp only at hSw); go_simp; (try with_reducible rfl)
  try simp only [Act.put, List.setIfInBounds_toArray, List.set_cons_zero, List.set_cons_succ]
  refine wpAnyH_take (i := 6) (v := ?v6) rfl (by kernel_rfl) (by kernel_rfl) (by kernel_rfl) (fun _ _ _ h => h) (Or.inl ⟨by rfl, ?hy6⟩) (by assumption) ?rest6
  case hy6 => intro w hSw; (try dsimp only at hSw); go_simp; (try with_reducible rfl)
  try simp only [Act.put, List.setIfInBounds_toArray, List.set_cons_zero, List.set_cons_succ]
  refine wpAnyH_take (i := 7) (v := ?v7) rfl (by kernel_rfl) (by kernel_rfl) (by kernel_rfl) (fun _ _ _ h => h) (Or.inl ⟨by rfl, ?hy7⟩) (by assumption) ?rest7
  case hy7 => intro w hSw; (try dsimp only at hSw); go_simp; (try with_reducible rfl)
  try simp only [Act.put, List.setIfInBounds_toArray, List.set_cons_zero, List.set_cons_succ]
  refine wpAnyH_take (i := 8) (v := ?v8) rfl (by kernel_rfl) (by kernel_rfl) (by kernel_rfl) (fun _ _ _ h => h) (Or.inl ⟨by rfl, ?hy8⟩) (by assumption) ?rest8
  case hy8 => intro w hSw; (try dsimp only at hSw); go_simp; (try with_reducible rfl)
  try simp only [Act.put, List.setIfInBounds_toArray, List.set_cons_zero, List.set_cons_succ]
  refine wpAnyH_take (i := 9) (v := ?v9) rfl (by kernel_rfl) (by kernel_rfl) (by kernel_rfl) (fun _ _ _ h => h) (Or.inl ⟨by rfl, ?hy9⟩) (by assumption) ?rest9
  case hy9 => intro w hSw; (try dsimp only at hSw); go_simp; (try with_reducible rfl)
  try simp only [Act.put, List.setIfInBounds_toArray, List.set_cons_zero, List.set_cons_succ]
  refine wpAnyH_ready (rs := [4, 10]) (by kernel_rfl) (by simp) ?_
  refine AllReadyH.cons rfl (fun K hK => ?_) ?_
  · go_simp
    refine hK.out _ _ ?_ (fun hHeld => ?_)
    · exact hHeld
    clear hK K
    try simp only [Act.put, List.setIfInBounds_toArray, List.set_cons_zero, List.set_cons_succ]
    refine wpAnyH_ready (rs := [10]) (by kernel_rfl) (by simp) ?_
    refine AllReadyH.cons rfl (fun K hK => ?_) AllReadyH.nil
    go_simp
    refine hK.out _ _ ?_ (fun hHeld => ?_)
    · exact HS2.out
    clear hK K
    try simp only [Act.put, List.setIfInBounds_toArray, List.set_cons_zero, List.set_cons_succ]
    refine wpAnyH_ready (rs := [11]) (by kernel_rfl) (by simp) ?_
    refine AllReadyH.cons rfl (fun K hK => ?_) AllReadyH.nil
    refine step_append_run rfl (.tmp 17) (.tmp 23) 22 22 rfl _ _ _ _ rfl rfl HR.out ?_
    refine hK.out _ _ ?_ (fun hHeld => ?_)
    · exact ⟨b0, b1⟩
    clear hK K
    try simp only [Act.put, List.setIfInBounds_toArray, List.set_cons_zero, List.set_cons_succ]
    refine wpAnyH_take (i := 12) (v := ?v10) rfl (by kernel_rfl) (by kernel_rfl) (by kernel_rfl) (fun _ _ _ h => h) (Or.inl ⟨by rfl, ?hy10⟩) (by assumption) ?rest10
    case hy10 => intro w hSw; (try dsimp only at hSw); go_simp; (try with_reducible rfl)
    try simp only [Act.put, List.setIfInBounds_toArray, List.set_cons_zero, List.set_cons_succ]
    refine wpAnyH_take (i := 13) (v := ?v11) rfl (by kernel_rfl) (by kernel_rfl) (by kernel_rfl) (fun _ _ _ h => h) (Or.inl ⟨by rfl, ?hy11⟩) (by assumption) ?rest11
    case hy11 => intro w hSw; (try dsimp only at hSw); go_simp; (try with_reducible rfl)
    try simp only [Act.put, List.setIfInBounds_toArray, List.set_cons_zero, List.set_cons_succ]
    refine wpAnyH_ready (rs := [14]) (by kernel_rfl) (by simp) ?_
    refine AllReadyH.cons rfl (fun K hK => ?_) AllReadyH.nil
    go_simp
    refine hK.out _ _ ?_ (fun hHeld => ?_)
    · exact HS4.out
    clear hK K
    try simp only [Act.put, List.setIfInBounds_toArray, List.set_cons_zero, List.set_cons_succ]
    refine wpAnyH_done (by kernel_rfl) ?_ _
    have b4 := cellH hb4 0 rfl
    have b5 := cellH hb4 1 rfl
    have z4 := frozen_of_row _ p 0 _ _ hb4
    have z5 := frozen_of_row _ p 1 _ _ hb4
    obtain ⟨q0, q1⟩ := HQ.out
    clear HS4 HS2 hHeld HR
    go_wp2_with fail
    go_end0
    exact ⟨rfl, HFIN.out⟩
  refine AllReadyH.cons rfl (fun K hK => ?_) ?_
  · go_simp
    refine hK.out _ _ ?_ (fun hHeld => ?_)
    · exact HS2.out
    clear hK K
    try simp only [Act.put, List.setIfInBounds_toArray, List.set_cons_zero, List.set_cons_succ]
    refine wpAnyH_ready (rs := [4]) (by kernel_rfl) (by simp) ?_
    refine AllReadyH.cons rfl (fun K hK => ?_) AllReadyH.nil
    go_simp
    refine hK.out _ _ ?_ (fun hHeld => ?_)
    · exact HS2.out
    clear hK K
    try simp only [Act.put, List.setIfInBounds_toArray, List.set_cons_zero, List.set_cons_succ]
    refine wpAnyH_ready (rs := [11]) (by kernel_rfl) (by simp) ?_
    refine AllReadyH.cons rfl (fun K hK => ?_) AllReadyH.nil
    refine step_append_run rfl (.tmp 17) (.tmp 23) 22 22 rfl _ _ _ _ rfl rfl HR.out ?_
    refine hK.out _ _ ?_ (fun hHeld => ?_)
    · exact ⟨b0, b1⟩
    clear hK K
    try simp only [Act.put, List.setIfInBounds_toArray, List.set_cons_zero, List.set_cons_succ]
    refine wpAnyH_take (i := 12) (v := ?v12) rfl (by kernel_rfl) (by kernel_rfl) (by kernel_rfl) (fun _ _ _ h => h) (Or.inl ⟨by rfl, ?hy12⟩) (by assumption) ?rest12
    case hy12 => intro w hSw; (try dsimp only at hSw); go_simp; (try with_reducible rfl)
    try simp only [Act.put, List.setIfInBounds_toArray, List.set_cons_zero, List.set_cons_succ]
    refine wpAnyH_take (i := 13) (v := ?v13) rfl (by kernel_rfl) (by kernel_rfl) (by kernel_rfl) (fun _ _ _ h => h) (Or.inl ⟨by rfl, ?hy13⟩) (by assumption) ?rest13
    case hy13 => intro w hSw; (try dsimp only at hSw); go_simp; (try with_reducible rfl)
    try simp only [Act.put, List.setIfInBounds_toArray, List.set_cons_zero, List.set_cons_succ]
    refine wpAnyH_ready (rs := [14]) (by kernel_rfl) (by simp) ?_
    refine AllReadyH.cons rfl (fun K hK => ?_) AllReadyH.nil
    go_simp
    refine hK.out _ _ ?_ (fun hHeld => ?_)
    · exact HS4.out
    clear hK K
    try simp only [Act.put, List.setIfInBounds_toArray, List.set_cons_zero, List.set_cons_succ]
    refine wpAnyH_done (by kernel_rfl) ?_ _
    have b4 := cellH hb4 0 rfl
    have b5 := cellH hb4 1 rfl
    have z4 := frozen_of_row _ p 0 _ _ hb4
    have z5 := frozen_of_row _ p 1 _ _ hb4
    obtain ⟨q0, q1⟩ := HQ.out
    clear HS4 HS2 hHeld HR
    go_wp2_with fail
    go_end0
    exact ⟨rfl, HFIN.out⟩
  exact AllReadyH.nil

end Go.Proofs.Ytmaepknceihepaa

/- Spans: a row that grows, or stays. -/
namespace Go.Proofs.Ytmaepknceihepaa
open Go.RowKit Go.IntWalk
set_option linter.unusedSimpArgs false
set_option linter.unusedVariables false
set_option maxRecDepth 100000

set_option maxHeartbeats 1000000 in
theorem add_else (p : Nat) (last s : Sp) (ao : Option Addr) (cap : Nat) (A : List Sp) (w : World) (hR : RowAt w p last ao cap A) (hs : ¬ short last (lo s)) :
    Calls Try.prog 31 #[.pointer (some ⟨p, 0, none⟩), .agg #[.string s.1, .string s.2]] w fun e w' => e = .returned (.tuple #[]) ∧ AddPost w p ao A (grow1 last s) w' := by
  have hE := hideIt (fun w => end_any last s.1 w)
  have hneg : ¬ endS (hi last) s.1.toList < 0 := fun e => hs ((endS_neg (hi last) (lo s)).1 e)
  generalize endS (hi last) s.1.toList = n at *
  have hRA := hR.fr0 ((Fr.refl (fun _ => False) w).alloc (.cells #[.string s.1, .string s.2] 24))
  have hlt := hR.lt
  have C : ∀ (w' : World), Fr (fun _ => False) (w.alloc (.cells #[.string s.1, .string s.2] 24)) w' → w'.cell? ⟨w.heap.size, 0, none⟩ = some (.string s.1) ∧ w'.cell? ⟨w.heap.size, 1, none⟩ = some (.string s.2) ∧ w'.cell? ⟨p, 0, none⟩ = some (.string last.1) ∧ w'.cell? ⟨p, 1, none⟩ = some (.string last.2) ∧ Fr (fun _ => False) (w.alloc (.cells #[.string s.1, .string s.2] 24)) w' := fun w' h =>
    have hq := hRA.fr0 h
    ⟨h.cell0 (cellNew w _ _ _ 0 rfl), h.cell0 (cellNew w _ _ _ 1 rfl), cellH hq.heap 0 rfl, cellH hq.heap 1 rfl, h⟩
  have HC := hideIt C
  have HRA := hideIt hRA
  have HFA := hideIt ((Fr.refl (fun _ => False) w).alloc (.cells #[.string s.1, .string s.2] 24))
  have hO := hideIt (fun w => outlasts_any s last w)
  have HG : Hid (grow1 last s = if decide (outl s last) = true then (last.1, s.2) else last) := hideIt (by simp [grow1])
  generalize decide (outl s last) = o at *
  clear C hRA hs hR
  cases o
  · rw [if_neg (by decide)] at HG
    go_enter Try.func31, Try.ntmps31
    go_wp2_with fail
    generalize w.alloc (.cells #[.string s.1, .string s.2] 24) = W at *
    obtain ⟨c0, c1, c2, c3, -⟩ := HC.out W (Fr.refl _ W)
    go_region_held3 (fun w' => w'.cell? ⟨w.heap.size, 0, none⟩ = some (.string s.1) ∧ w'.cell? ⟨w.heap.size, 1, none⟩ = some (.string s.2) ∧ w'.cell? ⟨p, 0, none⟩ = some (.string last.1) ∧ w'.cell? ⟨p, 1, none⟩ = some (.string last.2) ∧ Fr (fun _ => False) W w')
      (first | exact HC.out _ (by assumption) | exact HC.out _ ((Fr.refl _ _).drew) | exact HC.out _ (Fr.refl _ _))
      (first | (go_at_call 33; refine Calls.mono (hE.out _) ?_; rintro e w1 ⟨rfl, hF1⟩; have hW1 := Fr.trans ((Fr.refl (fun _ => False) W).drew) hF1 (fun _ _ e => e)))
    obtain ⟨d0, d1, d2, d3, -⟩ := HC.out w1 hW1
    have HC1 := hideIt (show ∀ w' : World, Fr (fun _ => False) w1 w' → w'.cell? ⟨w.heap.size, 0, none⟩ = some (.string s.1) ∧ w'.cell? ⟨w.heap.size, 1, none⟩ = some (.string s.2) ∧ w'.cell? ⟨p, 0, none⟩ = some (.string last.1) ∧ w'.cell? ⟨p, 1, none⟩ = some (.string last.2) ∧ Fr (fun _ => False) w1 w' from fun w' h => by
      obtain ⟨q0, q1, q2, q3, -⟩ := HC.out w' (hW1.trans h (fun _ _ e => e))
      exact ⟨q0, q1, q2, q3, h⟩)
    have HW1 := hideIt hW1
    clear hW1 hF1 c0 c1 c2 c3
    go_wp2_with fail
    go_region_held3 (fun w' => w'.cell? ⟨w.heap.size, 0, none⟩ = some (.string s.1) ∧ w'.cell? ⟨w.heap.size, 1, none⟩ = some (.string s.2) ∧ w'.cell? ⟨p, 0, none⟩ = some (.string last.1) ∧ w'.cell? ⟨p, 1, none⟩ = some (.string last.2) ∧ Fr (fun _ => False) w1 w')
      (first | exact HC1.out _ (by assumption) | exact HC1.out _ ((Fr.refl _ _).drew) | exact HC1.out _ (Fr.refl _ _))
      (first | (go_at_call 23; refine Calls.mono (hO.out _) ?_; rintro e w2 ⟨rfl, hF2⟩; have hW2 := Fr.trans ((Fr.refl (fun _ => False) w1).drew) hF2 (fun _ _ e => e)))
    have hF := HFA.out.trans (HW1.out.trans hW2 (fun _ _ e => e)) (fun _ _ e => e)
    have HFIN := hideIt (show AddPost w p ao A (grow1 last s) w2 by
      rw [HG.out]
      exact ⟨ao, cap, HRA.out.fr0 (HW1.out.trans hW2 (fun _ _ e => e)), hF.mono (fun _ e => e.elim), Or.inl rfl⟩)
    clear hF hF2 hW2
    go_wp2_with fail
    go_end0
    exact ⟨rfl, HFIN.out⟩
  · rw [if_pos rfl] at HG
    go_enter Try.func31, Try.ntmps31
    go_wp2_with fail
    generalize w.alloc (.cells #[.string s.1, .string s.2] 24) = W at *
    obtain ⟨c0, c1, c2, c3, -⟩ := HC.out W (Fr.refl _ W)
    go_region_held3 (fun w' => w'.cell? ⟨w.heap.size, 0, none⟩ = some (.string s.1) ∧ w'.cell? ⟨w.heap.size, 1, none⟩ = some (.string s.2) ∧ w'.cell? ⟨p, 0, none⟩ = some (.string last.1) ∧ w'.cell? ⟨p, 1, none⟩ = some (.string last.2) ∧ Fr (fun _ => False) W w')
      (first | exact HC.out _ (by assumption) | exact HC.out _ ((Fr.refl _ _).drew) | exact HC.out _ (Fr.refl _ _))
      (first | (go_at_call 33; refine Calls.mono (hE.out _) ?_; rintro e w1 ⟨rfl, hF1⟩; have hW1 := Fr.trans ((Fr.refl (fun _ => False) W).drew) hF1 (fun _ _ e => e)))
    obtain ⟨d0, d1, d2, d3, -⟩ := HC.out w1 hW1
    have HC1 := hideIt (show ∀ w' : World, Fr (fun _ => False) w1 w' → w'.cell? ⟨w.heap.size, 0, none⟩ = some (.string s.1) ∧ w'.cell? ⟨w.heap.size, 1, none⟩ = some (.string s.2) ∧ w'.cell? ⟨p, 0, none⟩ = some (.string last.1) ∧ w'.cell? ⟨p, 1, none⟩ = some (.string last.2) ∧ Fr (fun _ => False) w1 w' from fun w' h => by
      obtain ⟨q0, q1, q2, q3, -⟩ := HC.out w' (hW1.trans h (fun _ _ e => e))
      exact ⟨q0, q1, q2, q3, h⟩)
    have HW1 := hideIt hW1
    clear hW1 hF1 c0 c1 c2 c3
    go_wp2_with fail
    go_region_held3 (fun w' => w'.cell? ⟨w.heap.size, 0, none⟩ = some (.string s.1) ∧ w'.cell? ⟨w.heap.size, 1, none⟩ = some (.string s.2) ∧ w'.cell? ⟨p, 0, none⟩ = some (.string last.1) ∧ w'.cell? ⟨p, 1, none⟩ = some (.string last.2) ∧ Fr (fun _ => False) w1 w')
      (first | exact HC1.out _ (by assumption) | exact HC1.out _ ((Fr.refl _ _).drew) | exact HC1.out _ (Fr.refl _ _))
      (first | (go_at_call 23; refine Calls.mono (hO.out _) ?_; rintro e w2 ⟨rfl, hF2⟩; have hW2 := Fr.trans ((Fr.refl (fun _ => False) w1).drew) hF2 (fun _ _ e => e)))
    have hF := HFA.out.trans (HW1.out.trans hW2 (fun _ _ e => e)) (fun _ _ e => e)
    have hR2 := HRA.out.fr0 (HW1.out.trans hW2 (fun _ _ e => e))
    obtain ⟨g0, g1, g2, g3, -⟩ := HC1.out w2 hW2
    have z1 := frozen_of_row w2 p 1 _ _ hR2.heap
    have HFIN := hideIt (show AddPost w p ao A (grow1 last s) (w2.setCell ⟨p, 1, none⟩ (.string s.2)) by
      rw [HG.out]
      refine ⟨ao, cap, ⟨?_, ?_, hR2.apart⟩, Fr.setCell (hF.mono (fun _ e => e.elim)) (fun _ => Or.inl rfl) _, Or.inl rfl⟩
      · rw [heap_setCell_same _ p 1 _ _ _ hR2.heap]
        rfl
      · refine hR2.row.keep fun k hk hb => ?_
        have hne : k ≠ p := fun e => hR2.apart (e ▸ hb)
        rw [heap_setCell_other _ _ _ _ hne])
    clear hF hF2 hW2 hR2
    go_wp2_with fail
    go_end0
    exact ⟨rfl, HFIN.out⟩

theorem add_any (p : Nat) (last s : Sp) (ao : Option Addr) (cap : Nat) (A : List Sp) (w : World) (hR : RowAt w p last ao cap A) (hb : A.length ≤ 1099511627775) :
    Calls Try.prog 31 #[.pointer (some ⟨p, 0, none⟩), .agg #[.string s.1, .string s.2]] w fun e w' => e = .returned (.tuple #[]) ∧ AddPost w p ao (addS A last s).1 (addS A last s).2 w' := by
  unfold addS
  by_cases h : short last (lo s)
  · rw [if_pos h]
    exact add_short p last s ao cap A w hR h hb
  · rw [if_neg h]
    exact add_else p last s ao cap A w hR h

end Go.Proofs.Ytmaepknceihepaa

/- Spans: joined, Join. -/
namespace Go.Proofs.Ytmaepknceihepaa
open Go.RowKit Go.IntWalk
set_option linter.unusedSimpArgs false
set_option linter.unusedVariables false
set_option maxRecDepth 100000

theorem addS_jn (A : List Sp) (last s : Sp) (r : List Sp) : (addS A last s).1 ++ jn (addS A last s).2 r = A ++ jn last (s :: r) := by
  unfold addS
  rw [jn]
  by_cases h : short last (lo s)
  · rw [if_pos h, if_pos h]
    simp
  · rw [if_neg h, if_neg h]

theorem addS_len (A : List Sp) (last s : Sp) : (addS A last s).1.length ≤ A.length + 1 := by
  unfold addS
  split <;> simp

set_option maxRecDepth 100000 in
set_option maxHeartbeats 1000000 in
theorem joined_any (first : Sp) (ao : Option Addr) (cap : Nat) (l : List Sp) (w : World) (h : l = [] ∨ SpsAt w ao l) (hb : l.length ≤ 1099511627774) :
    Calls Try.prog 16 #[.agg #[.string first.1, .string first.2], .slice ao l.length cap] w fun e w' => ∃ ao' cap', e = .returned (.slice ao' (jn first l).length cap') ∧ SpRow w' ao' cap' (jn first l) ∧ Fr (fun _ => False) w w' ∧ ∀ k, blk ao' k → w.heap.size ≤ k := by
  have HH := hideIt h
  clear h
  have hst : RowAt ((w.alloc (.cells #[.string first.1, .string first.2] 24)).alloc (.cells #[.string first.1, .string first.2, .slice none 0 0] 46)) (w.heap.size + 1) first none 0 [] := by
    refine ⟨?_, SpRow.nil _, fun ⟨_, e, _⟩ => by cases e⟩
    have := heap_alloc_new (w.alloc (.cells #[.string first.1, .string first.2] 24)) (.cells #[.string first.1, .string first.2, .slice none 0 0] 46)
    simpa using this
  have HST := hideIt hst
  clear hst
  go_enter Try.func16, Try.ntmps16
  go_wp2_with fail
  go_loopw [13] (fun i wr => ∃ (k : Nat) (A : List Sp) (last : Sp) (aoa : Option Addr) (capa : Nat), i = .int .i64 k ∧ k ≤ l.length ∧ A.length ≤ k ∧ RowAt wr (w.heap.size + 1) last aoa capa A ∧ Hid (A ++ jn last (l.drop k) = jn first l) ∧ Fr (fun _ => False) w wr ∧ ∀ j, blk aoa j → w.heap.size ≤ j) (fun i _ => l.length - (intOf i).toNat)
  case atStart => exact ⟨0, [], first, none, 0, rfl, Nat.zero_le _, Nat.zero_le _, HST.out, hideIt (by simp), ((Fr.refl _ _).alloc _).alloc _, fun _ ⟨_, e, _⟩ => by cases e⟩
  case round =>
    obtain ⟨k, A, last, aoa, capa, rfl, hk, hAk, hrow, HJ, hF, hn⟩ := hrel
    by_cases hlt : k < l.length
    · obtain ⟨b, off, rfl, hbl, c0, c1⟩ := SpsAt.get (ats_fr0 HH.out hF) k hlt
      have HD := hideIt (List.drop_eq_getElem_cons hlt)
      have HROW := hideIt hrow
      have HF := hideIt hF
      have HN := hideIt hn
      have hp := hrow.lt
      clear hrow hF hn
      generalize l[k] = x at *
      have hA := hideIt (fun w' (h : RowAt w' (w.heap.size + 1) last aoa capa A) => add_any (w.heap.size + 1) last x aoa capa A w' h (by omega))
      have HL := hideIt (addS_len A last x)
      have HJ' := hideIt (addS_jn A last x (l.drop (k + 1)))
      generalize (addS A last x).1 = A' at *
      generalize (addS A last x).2 = last' at *
      have hF1 : Fr (fun _ => False) wr (wr.alloc (.cells #[.string x.1, .string x.2] 24)) := (Fr.refl _ _).alloc _
      have HF1 := hideIt hF1
      clear hF1
      go_wp2_with fail
      refine Calls.mono (hA.out _ (HROW.out.fr0 HF1.out)) ?_
      rintro e w1 ⟨rfl, hP⟩
      have HP := hideIt hP
      clear hP
      go_wp2_with fail
      go_roundw
      case measure => simp [intOf]; omega
      case rel =>
        obtain ⟨ao', cap', h1, h2, h3⟩ := HP.out
        have hl' := HL.out
        have hsz := HF.out.size
        refine ⟨k + 1, A', last', ao', cap', by go_num, by omega, by omega, h1, hideIt ?_, (HF.out.trans HF1.out (fun _ _ e => e)).trans h2 (fun i hi e => ?_), fun j hj => ?_⟩
        · rw [HJ'.out, ← HD.out, HJ.out]
        · rcases e with e | e
          · omega
          · have := HN.out i e
            omega
        · rcases h3 with h3 | h3
          · exact HN.out j (h3 ▸ hj)
          · have := h3 j hj
            simp at this
            omega
    · obtain rfl : k = l.length := by omega
      have HJ2 : Hid (A ++ [last] = jn first l) := hideIt (by have := HJ.out; rw [List.drop_length] at this; exact this)
      have c0 := cellH hrow.heap 0 rfl
      have c1 := cellH hrow.heap 1 rfl
      have c2 := cellH hrow.heap 2 rfl
      have hF2 : Fr (fun _ => False) wr (wr.alloc (.cells #[.string last.1, .string last.2] 24)) := (Fr.refl _ _).alloc _
      obtain ⟨ao', cap', w3, hrun, hrow3, hF3, hao⟩ := spans_append _ aoa capa A [last] (hrow.row.fr hF2 (fun _ _ e => e)) (some ⟨wr.heap.size, 0, none⟩) 1 (Or.inr (sps_one last wr)) (by simp; omega)
      rw [List.length_singleton] at hrun
      have HR := hideIt hrun
      have hsz := hF.size
      have hFF := (hF.trans hF2 (fun _ _ e => e)).trans hF3 (fun i hi e => by have := hn i e; omega)
      have HFIN := hideIt (show ∃ ao'' cap'', Ending.returned (.slice ao' (A.length + 1) cap') = .returned (.slice ao'' (jn first l).length cap'') ∧ SpRow w3 ao'' cap'' (jn first l) ∧ Fr (fun _ => False) w w3 ∧ ∀ k, blk ao'' k → w.heap.size ≤ k by
        rw [← HJ2.out]
        refine ⟨ao', cap', by rw [List.length_append]; rfl, hrow3, hFF, fun k hk => ?_⟩
        rcases hao with e | e
        · exact hn k (e ▸ hk)
        · obtain ⟨a, e1, e2⟩ := hk
          rw [e] at e1
          obtain rfl := Option.some.inj e1
          simp at e2
          omega)
      clear hrow hF hn hF2 hrun hrow3 hF3 hao hFF
      go_wp2_with (first | (at_builtin; refine wpList_append_run _ rfl (.tmp 21) (.tmp 25) 22 22 rfl _ _ _ _ rfl rfl HR.out ?_))
      go_ret
      exact HFIN.out

/-- Spans, joined. -/
def joinC (l : List Sp) : List Sp := jl (sortC (fulls l))

set_option maxHeartbeats 1000000 in
theorem join_any (ao : Option Addr) (cap : Nat) (l : List Sp) (w : World) (h : l = [] ∨ SpsAt w ao l) (hb : l.length ≤ 1099511627774) :
    Calls Try.prog 6 #[.slice ao l.length cap] w fun e w' => ∃ ao' cap', e = .returned (.slice ao' (joinC l).length cap') ∧ SpRow w' ao' cap' (joinC l) ∧ Fr (fun _ => False) w w' ∧ ∀ k, blk ao' k → w.heap.size ≤ k := by
  have hR := hideIt (rising_any ao cap l w h (by omega))
  unfold joinC
  have hlen : (sortC (fulls l)).length ≤ l.length := by rw [sortC_len]; exact fulls_len l
  generalize sortC (fulls l) = m at *
  clear h
  cases m with
  | nil =>
    go_enter Try.func6, Try.ntmps6
    go_wp2_with fail
    refine Calls.mono hR.out ?_
    rintro e w1 ⟨ao1, cap1, rfl, hat, hF, hle, hn⟩
    simp only [List.length_nil]
    go_wp2_with fail
    go_ret
    exact ⟨none, 0, rfl, SpRow.nil _, hF, fun _ ⟨_, e, _⟩ => by cases e⟩
  | cons x r =>
    have hJ := hideIt (fun ao' cap' w' (h : r = [] ∨ SpsAt w' ao' r) => joined_any x ao' cap' r w' h (by simp at hlen; omega))
    go_enter Try.func6, Try.ntmps6
    go_wp2_with fail
    refine Calls.mono hR.out ?_
    rintro e w1 ⟨ao1, cap1, rfl, hat, hF, hle, hn⟩
    have hat' : SpsAt w1 ao1 (x :: r) := hat.resolve_left (by simp)
    obtain ⟨b, off, rfl, hbl, c0, c1⟩ := SpsAt.get hat 0 (by simp)
    have hc0 : w1.cell? ⟨b, off, none⟩ = some (.string x.1) := by simpa using c0
    have hc1 : w1.cell? ⟨b, off + 1, none⟩ = some (.string x.2) := by simpa using c1
    have HC := hideIt (show ∀ w' : World, Fr (fun _ => False) w1 w' → w'.cell? ⟨b, off, none⟩ = some (.string x.1) ∧ w'.cell? ⟨b, off + 1, none⟩ = some (.string x.2) ∧ Fr (fun _ => False) w1 w' from fun w' h => ⟨h.cell0 hc0, h.cell0 hc1, h⟩)
    have HAT := hideIt hat'
    have HF := hideIt hF
    have HN := hideIt hn
    simp only [List.length_cons] at hle
    clear hat hat' hF hn c0 c1
    by_cases hcap : cap1 = 1
    · subst hcap
      obtain rfl : r = [] := List.eq_nil_of_length_eq_zero (by omega)
      simp only [List.length_cons, List.length_nil]
      go_wp2_with fail
      go_region_held3 (fun w' => w'.cell? ⟨b, off, none⟩ = some (.string x.1) ∧ w'.cell? ⟨b, off + 1, none⟩ = some (.string x.2) ∧ Fr (fun _ => False) w1 w')
        (first | exact HC.out _ (by assumption) | exact HC.out _ ((Fr.refl _ _).drew) | exact HC.out _ (Fr.refl _ _))
        (first | (go_at_call 16; refine Calls.mono (hJ.out _ _ _ (by first | exact Or.inl rfl | exact Or.inl trivial | trivial)) ?_; rintro e w2 ⟨ao2, cap2, rfl, hrow, hF2, hn2⟩; have hW2 := Fr.trans ((Fr.refl (fun _ => False) w1).drew) hF2 (fun _ _ e => e)))
      go_wp2_with fail
      go_ret
      exact ⟨ao2, cap2, rfl, hrow, HF.out.trans hW2 (fun _ _ e => e), fun k hk => by have h1 : w1.heap.size ≤ k := hn2 k hk; have h2 := HF.out.size; omega⟩
    · simp only [List.length_cons]
      have hl1 : (1 : Int) ≤ (r.length : Int) + 1 := by omega
      go_wp2_with fail
      go_region_held3 (fun w' => w'.cell? ⟨b, off, none⟩ = some (.string x.1) ∧ w'.cell? ⟨b, off + 1, none⟩ = some (.string x.2) ∧ Fr (fun _ => False) w1 w')
        (first | exact HC.out _ (by assumption) | exact HC.out _ ((Fr.refl _ _).drew) | exact HC.out _ (Fr.refl _ _))
        (first | (go_at_call 16; refine Calls.mono (hJ.out _ _ _ (Or.inr (HAT.out.tail.fr0 ((Fr.refl _ _).drew)))) ?_; rintro e w2 ⟨ao2, cap2, rfl, hrow, hF2, hn2⟩; have hW2 := Fr.trans ((Fr.refl (fun _ => False) w1).drew) hF2 (fun _ _ e => e)))
      go_wp2_with fail
      go_ret
      exact ⟨ao2, cap2, rfl, hrow, HF.out.trans hW2 (fun _ _ e => e), fun k hk => by have h1 : w1.heap.size ≤ k := hn2 k hk; have h2 := HF.out.size; omega⟩

end Go.Proofs.Ytmaepknceihepaa

/- Spans: what the statements ask of lists. -/
namespace Go.Proofs.Ytmaepknceihepaa
open Go.RowKit Go.IntWalk
set_option linter.unusedSimpArgs false
set_option linter.unusedVariables false
set_option maxRecDepth 100000

theorem sp_eq (x y : Sp) : decide (x = y) = (x.1.toList == y.1.toList && x.2.toList == y.2.toList) := by
  rw [Bool.eq_iff_iff]
  simp only [decide_eq_true_eq, Bool.and_eq_true, beq_iff_eq]
  exact ⟨fun e => by rw [e]; exact ⟨rfl, rfl⟩, fun e => sp_ext e.1 e.2⟩

theorem eqIn_sp (x y : Sp) (w : World) : (Op.equalIn 10000 24 (.agg #[.string x.1, .string x.2]) (.agg #[.string y.1, .string y.2])).run Try.prog w = .ok (decide (x = y)) w := by
  have u3 := Try.underlying9
  have a3 := Try.isAgg9
  have z3 := Try.sizeOf9
  rw [sp_eq, show (10000 : Nat) = 9999 + 1 from rfl, run_equalIn_agg w 9999 24 _ _ (by kernel_rfl) (by kernel_rfl)]
  simp only [Program.fieldsOf, Try.underlying24]
  go_simp
  by_cases h1 : x.1.toList = y.1.toList <;> by_cases h2 : x.2.toList = y.2.toList <;> simp [h1, h2]

theorem eql_sp (x y : Sp) (w : World) : (binOp .eql 24 (.agg #[.string x.1, .string x.2]) (.agg #[.string y.1, .string y.2])).run Try.prog w = .ok (.bool (decide (x = y))) w := by
  rw [run_eql_struct, eqIn_sp]
  rfl

theorem neq_sp (x y : Sp) (w : World) : (binOp .neq 24 (.agg #[.string x.1, .string x.2]) (.agg #[.string y.1, .string y.2])).run Try.prog w = .ok (.bool (!decide (x = y))) w := by
  rw [run_neq_struct, eqIn_sp]
  rfl

theorem copy_any (ao : Option Addr) (cap : Nat) (l : List Sp) (w : World) (h : l = [] ∨ SpsAt w ao l) (hb : l.length ≤ 1099511627776) :
    Calls Try.prog 5 #[.slice ao l.length cap] w fun e w' => ∃ ao' cap', e = .returned (.slice ao' l.length cap') ∧ SpRow w' ao' cap' l ∧ Fr (fun _ => False) w w' ∧ ∀ k, blk ao' k → w.heap.size ≤ k := by
  have hF0 : Fr (fun _ => False) w (w.alloc (.cells #[] 24)) := (Fr.refl _ _).alloc _
  have hrow0 : SpRow (w.alloc (.cells #[] 24)) (some ⟨w.heap.size, 0, none⟩) 0 [] := World.ownsRow_made w #[] 0 (Nat.zero_le _) (by decide) rfl
  obtain ⟨ao', cap', w1, hrun, hrow, hF, hao⟩ := spans_append _ (some ⟨w.heap.size, 0, none⟩) 0 [] l hrow0 ao cap (ats_fr0 h hF0) (by simpa using hb)
  simp only [List.length_nil, Nat.zero_add, List.nil_append] at hrun hrow
  have HR := hideIt hrun
  have HFIN := hideIt (show ∃ ao'' cap'', Ending.returned (.slice ao' l.length cap') = .returned (.slice ao'' l.length cap'') ∧ SpRow w1 ao'' cap'' l ∧ Fr (fun _ => False) w w1 ∧ ∀ k, blk ao'' k → w.heap.size ≤ k from
    ⟨ao', cap', rfl, hrow, hF0.trans hF (fun i hi ⟨a, e1, e2⟩ => by obtain rfl := Option.some.inj e1; simp at e2; omega), fun k hk => by
      obtain ⟨a, e1, e2⟩ := hk
      rcases hao with e | e <;> rw [e] at e1 <;> obtain rfl := Option.some.inj e1 <;> simp at e2 <;> omega⟩)
  clear hrun hrow hF hao hrow0 hF0 h
  go_enter Try.func5, Try.ntmps5
  go_wp2_with (first | (at_builtin; refine wpList_append_run _ rfl (.tmp 3) (.tmp 4) 22 22 rfl _ _ _ _ rfl rfl HR.out ?_))
  go_ret
  exact HFIN.out

set_option maxRecDepth 100000 in
set_option maxHeartbeats 1000000 in
theorem sames_any (ao bo : Option Addr) (ca cb : Nat) (xs ys : List Sp) (w : World) (ha : xs = [] ∨ SpsAt w ao xs) (hb : ys = [] ∨ SpsAt w bo ys) (hx : xs.length ≤ 1099511627776) (hy : ys.length ≤ 1099511627776) :
    Calls Try.prog 7 #[.slice ao xs.length ca, .slice bo ys.length cb] w fun e w' => e = .returned (.bool (decide (xs = ys))) ∧ Fr (fun _ => False) w w' := by
  have HA := hideIt ha
  have HB := hideIt hb
  clear ha hb
  by_cases hl : xs.length = ys.length
  · have hne : ((xs.length : Int) != (ys.length : Int)) = false := by simp [hl]
    have HL := hideIt hl
    go_enter Try.func7, Try.ntmps7
    go_wp2_with fail
    go_loopw [5] (fun i wr => ∃ k : Nat, i = .int .i64 k ∧ k ≤ xs.length ∧ Hid (xs.take k = ys.take k) ∧ Fr (fun _ => False) w wr) (fun i _ => xs.length - (intOf i).toNat)
    case atStart => exact ⟨0, rfl, Nat.zero_le _, hideIt rfl, Fr.refl _ _⟩
    case round =>
      obtain ⟨k, rfl, hk, HT, hF⟩ := hrel
      by_cases hlt : k < xs.length
      · have hlt2 : k < ys.length := by have := HL.out; omega
        obtain ⟨b, off, rfl, hbl, c0, c1⟩ := SpsAt.get (ats_fr0 HA.out hF) k hlt
        obtain ⟨b2, off2, rfl, hbl2, c2, c3⟩ := SpsAt.get (ats_fr0 HB.out hF) k hlt2
        have HF := hideIt hF
        have HX := hideIt (List.take_succ_eq_append_getElem hlt)
        have HY := hideIt (List.take_succ_eq_append_getElem hlt2)
        have HDX := hideIt (List.getElem?_eq_getElem hlt)
        have HDY := hideIt (List.getElem?_eq_getElem hlt2)
        clear hF
        generalize xs[k] = x at *
        generalize ys[k] = y at *
        by_cases hxy : x = y
        · have hq := neq_sp x y
          rw [show decide (x = y) = true from decide_eq_true hxy] at hq
          have HXY := hideIt hxy
          clear hxy hl hne
          go_wp2_with fail
          go_quiet (fail)
          go_wp2_with fail
          go_roundw
          case measure => simp [intOf]; omega
          case rel => exact ⟨k + 1, by go_num, by omega, hideIt (by rw [HX.out, HY.out, HT.out, HXY.out]), HF.out.drewN _⟩
        · have hq := neq_sp x y
          rw [show decide (x = y) = false from decide_eq_false hxy] at hq
          have HXY : Hid (decide (xs = ys) = false) := hideIt (decide_eq_false fun e => hxy (by have h1 := HDX.out; have h2 := HDY.out; rw [e] at h1; exact Option.some.inj (h1.symm.trans h2)))
          clear hxy hl hne
          go_wp2_with fail
          go_quiet (fail)
          go_wp2_with fail
          go_ret
          exact ⟨by rw [HXY.out]; rfl, HF.out.drewN _⟩
      · obtain rfl : k = xs.length := by omega
        have HXY : Hid (decide (xs = ys) = true) := hideIt (decide_eq_true (by have h := HT.out; rw [List.take_length, HL.out, List.take_length] at h; exact h))
        have HF := hideIt hF
        clear hF hl hne
        go_wp2_with fail
        go_ret
        exact ⟨by rw [HXY.out]; rfl, HF.out⟩
  · have hne : ((xs.length : Int) != (ys.length : Int)) = true := by simp; omega
    have HXY : Hid (decide (xs = ys) = false) := hideIt (decide_eq_false fun e => hl (by rw [e]))
    clear hl
    go_enter Try.func7, Try.ntmps7
    go_wp2_with fail
    go_ret
    exact ⟨by rw [HXY.out]; rfl, Fr.refl _ _⟩

end Go.Proofs.Ytmaepknceihepaa

/- Spans: the document's examples. -/
namespace Go.Proofs.Ytmaepknceihepaa
open Go.RowKit Go.IntWalk
set_option linter.unusedSimpArgs false
set_option linter.unusedVariables false
set_option maxRecDepth 100000

theorem sps_arr (l : List Sp) (w : World) : SpsAt (w.alloc (.cells (l.flatMap spL).toArray 24)) (some ⟨w.heap.size, 0, none⟩) l := by
  refine Or.inr ⟨w.heap.size, 0, rfl, by simp, fun i hi => ?_⟩
  rw [cellNew w _ _ _ _ rfl, cellNew w _ _ _ _ rfl]
  have h0 := flat2_get l i 0 hi (by omega)
  have h1 := flat2_get l i 1 hi (by omega)
  simp only [List.getElem?_toArray, Nat.zero_add]
  exact ⟨h0, h1⟩

def litJ : List Sp := [(⟨#[99]⟩, ⟨#[100]⟩), (⟨#[97]⟩, ⟨#[98]⟩), (⟨#[98]⟩, ⟨#[99]⟩), (⟨#[101]⟩, ⟨#[101]⟩), (⟨#[102]⟩, ⟨#[]⟩)]
def litS : List Sp := [(⟨#[97]⟩, ⟨#[98]⟩), (⟨#[98]⟩, ⟨#[99]⟩), (⟨#[99]⟩, ⟨#[100]⟩), (⟨#[102]⟩, ⟨#[]⟩)]
def litR : List Sp := [(⟨#[97]⟩, ⟨#[100]⟩), (⟨#[102]⟩, ⟨#[]⟩)]

theorem litJ_sorted : Sorted litJ litS := by
  refine ⟨fun s => ?_, ?_⟩
  · constructor
    · intro h
      simp only [litS, List.mem_cons, List.not_mem_nil, or_false] at h
      rcases h with rfl | rfl | rfl | rfl <;> exact ⟨by simp [litJ], by simp only [NonE, hi, lo, Lib.toList_data]; decide⟩
    · rintro ⟨h, hn⟩
      simp only [litJ, List.mem_cons, List.not_mem_nil, or_false] at h
      rcases h with rfl | rfl | rfl | rfl | rfl
      · simp [litS]
      · simp [litS]
      · simp [litS]
      · exact absurd hn (by simp only [NonE, hi, lo, Lib.toList_data]; decide)
      · simp [litS]
  · simp only [litS, lo, Lib.toList_data]; decide

theorem litJ_join : joinC litJ = litR := by
  have h : joinC litJ = jl litS := (sortC_sorted litJ).one litJ_sorted (fun k => Iff.rfl)
  rw [h]
  simp only [litS, litR, jl, jn, short, grow1, outl, hi, lo, Lib.toList_data]
  decide +kernel

section
variable {w0 : World}
theorem of_fr (a b : ByteArray) {w : World} (h : Fr (fun _ => False) w0 w) : Calls Try.prog 25 #[.string a, .string b] w fun e w' => e = .returned (.agg #[.string a, .string b]) ∧ Fr (fun _ => False) w0 w' :=
  (of_any a b w).mono fun _ _ ⟨he, hF⟩ => ⟨he, h.trans hF (fun _ _ e => e)⟩
theorem in_fr (a b k : ByteArray) (v : Bool) (hv : decide (KeyIn (a, b) k.toList) = v) {w : World} (h : Fr (fun _ => False) w0 w) : Calls Try.prog 20 #[.agg #[.string a, .string b], .string k] w fun e w' => e = .returned (.bool v) ∧ Fr (fun _ => False) w0 w' :=
  (in_any (a, b) k w).mono fun _ _ ⟨he, hF⟩ => ⟨by rw [he, hv], h.trans hF (fun _ _ e => e)⟩
theorem empty_fr (a b : ByteArray) (v : Bool) (hv : decide (¬ NonE (a, b)) = v) {w : World} (h : Fr (fun _ => False) w0 w) : Calls Try.prog 22 #[.agg #[.string a, .string b]] w fun e w' => e = .returned (.bool v) ∧ Fr (fun _ => False) w0 w' :=
  (empty_any (a, b) w).mono fun _ _ ⟨he, hF⟩ => ⟨by rw [he, hv], h.trans hF (fun _ _ e => e)⟩
theorem meets_fr (a b c d : ByteArray) (v : Bool) (hv : (decide (KeyIn (a, b) (Lib.maxS a c).toList) && decide (KeyIn (c, d) (Lib.maxS a c).toList)) = v) {w : World} (h : Fr (fun _ => False) w0 w) : Calls Try.prog 26 #[.agg #[.string a, .string b], .agg #[.string c, .string d]] w fun e w' => e = .returned (.bool v) ∧ Fr (fun _ => False) w0 w' :=
  (meets_any (a, b) (c, d) w).mono fun _ _ ⟨he, hF⟩ => ⟨by rw [he, ← hv], h.trans hF (fun _ _ e => e)⟩
end

set_option maxRecDepth 100000 in
set_option maxHeartbeats 1000000 in
theorem awake_any (w : World) : Calls Try.prog 14 #[] w fun e w' => e = .returned (.bool true) ∧ Fr (fun _ => False) w w' := by
  have v1 : decide (KeyIn (⟨#[98]⟩, ⟨#[100]⟩) (⟨#[98]⟩ : ByteArray).toList) = true := by simp only [KeyIn, hi, lo, Lib.toList_data]; decide
  have v2 : decide (¬ NonE (⟨#[98]⟩, ⟨#[98]⟩)) = true := by simp only [NonE, hi, lo, Lib.toList_data]; decide
  have v3 : (decide (KeyIn (⟨#[97]⟩, ⟨#[99]⟩) (Lib.maxS ⟨#[97]⟩ ⟨#[98]⟩).toList) && decide (KeyIn (⟨#[98]⟩, ⟨#[100]⟩) (Lib.maxS ⟨#[97]⟩ ⟨#[98]⟩).toList)) = true := by
    have e : Lib.maxS ⟨#[97]⟩ ⟨#[98]⟩ = ⟨#[98]⟩ := by decide
    rw [e]
    simp only [KeyIn, hi, lo, Lib.toList_data]; decide
  have H1 := hideIt (fun (w' : World) (h : Fr (fun _ => False) w w') => in_fr _ _ _ _ v1 h)
  have H2 := hideIt (fun (w' : World) (h : Fr (fun _ => False) w w') => empty_fr _ _ _ v2 h)
  have H3 := hideIt (fun (w' : World) (h : Fr (fun _ => False) w w') => meets_fr _ _ _ _ _ v3 h)
  have HJ := hideIt (show ∀ w' : World, Fr (fun _ => False) w w' → Calls Try.prog 6 #[.slice (some ⟨w'.heap.size, 0, none⟩) 5 5] (w'.alloc (.cells #[.string ⟨#[99]⟩, .string ⟨#[100]⟩, .string ⟨#[97]⟩, .string ⟨#[98]⟩, .string ⟨#[98]⟩, .string ⟨#[99]⟩, .string ⟨#[101]⟩, .string ⟨#[101]⟩, .string ⟨#[102]⟩, .string ⟨#[]⟩] 24)) fun e w'' => ∃ ao' cap', e = .returned (.slice ao' 2 cap') ∧ SpRow w'' ao' cap' litR ∧ Fr (fun _ => False) w w'' from fun w' h => by
    have hj := join_any (some ⟨w'.heap.size, 0, none⟩) 5 litJ _ (Or.inr (sps_arr litJ w')) (by decide)
    rw [litJ_join] at hj
    refine Calls.mono hj ?_
    rintro e w'' ⟨ao', cap', rfl, hrow, hF, _⟩
    exact ⟨ao', cap', rfl, hrow, (h.alloc _).trans hF (fun _ _ e => e)⟩)
  have HS := hideIt (show ∀ (ao' : Option Addr) (cap' : Nat) (w' : World), SpRow w' ao' cap' litR → Calls Try.prog 7 #[.slice ao' 2 cap', .slice (some ⟨w'.heap.size, 0, none⟩) 2 2] (w'.alloc (.cells #[.string ⟨#[97]⟩, .string ⟨#[100]⟩, .string ⟨#[102]⟩, .string ⟨#[]⟩] 24)) fun e w'' => e = .returned (.bool true) ∧ Fr (fun _ => False) w' w'' from fun ao' cap' w' h => by
    have hF1 : Fr (fun _ => False) w' (w'.alloc (.cells #[.string ⟨#[97]⟩, .string ⟨#[100]⟩, .string ⟨#[102]⟩, .string ⟨#[]⟩] 24)) := (Fr.refl _ _).alloc _
    have hs := sames_any ao' (some ⟨w'.heap.size, 0, none⟩) cap' 2 litR litR _ (Or.inr ((h.fr hF1 (fun _ _ e => e)).at)) (Or.inr (sps_arr litR w')) (by decide) (by decide)
    refine Calls.mono hs ?_
    rintro e w'' ⟨rfl, hF⟩
    exact ⟨by simp, hF1.trans hF (fun _ _ e => e)⟩)
  have hF0 : Fr (fun _ => False) w w := Fr.refl _ _
  clear v1 v2 v3
  go_enter Try.func14, Try.ntmps14
  go_wp2_with (first | (go_at_call 25; refine (of_fr _ _ (by assumption)).mono ?_; rintro e w' ⟨rfl, hF⟩) | (go_at_call 20; refine (H1.out _ (by assumption)).mono ?_; rintro e w' ⟨rfl, hF⟩) | (go_at_call 22; refine (H2.out _ (by assumption)).mono ?_; rintro e w' ⟨rfl, hF⟩) | (go_at_call 26; refine (H3.out _ (by assumption)).mono ?_; rintro e w' ⟨rfl, hF⟩))
  refine Calls.mono (HJ.out _ (by assumption)) ?_
  rintro e w2 ⟨ao2, cap2, rfl, hrow2, hF2⟩
  go_wp2_with fail
  refine (of_any _ _ _).mono ?_
  rintro e w3 ⟨rfl, hF3⟩
  go_wp2_with fail
  refine (of_any _ _ _).mono ?_
  rintro e w4 ⟨rfl, hF4⟩
  have hF24 := hF3.trans hF4 (fun _ _ e => e)
  go_wp2_with fail
  refine Calls.mono (HS.out ao2 cap2 w4 (hrow2.fr hF24 (fun _ _ e => e))) ?_
  rintro e w5 ⟨rfl, hF5⟩
  go_wp2_with fail
  go_ret
  exact ⟨rfl, (hF2.trans hF24 (fun _ _ e => e)).trans hF5 (fun _ _ e => e)⟩

end Go.Proofs.Ytmaepknceihepaa

/- Spans: Has, Covers, how long lists are. -/
namespace Go.Proofs.Ytmaepknceihepaa
open Go.RowKit Go.IntWalk
set_option linter.unusedSimpArgs false
set_option linter.unusedVariables false
set_option maxRecDepth 100000

/-- Neither end is longer than 100 bytes. -/
def Brief (x : Sp) : Prop := x.1.size ≤ 100 ∧ x.2.size ≤ 100

def LongPost (l : List Sp) (m : Nat) (w : World) (e : Ending) (w' : World) : Prop := ∃ b, e = .returned (.bool b) ∧ w' = w ∧ (b = false → l.length ≤ m ∧ ∀ x ∈ l, Brief x)

set_option maxRecDepth 100000 in
set_option maxHeartbeats 1000000 in
theorem long_any (ao : Option Addr) (cap : Nat) (l : List Sp) (m : Nat) (w : World) (h : l = [] ∨ SpsAt w ao l) (hl : l.length ≤ 9223372036854775807) (hm : m ≤ 1000000) :
    Calls Try.prog 4 #[.slice ao l.length cap, .int .i64 m] w (LongPost l m w) := by
  have HH := hideIt h
  clear h
  go_enter Try.func4, Try.ntmps4
  go_wp2_with fail
  go_loop [5] (fun i => ∃ k : Nat, i = .int .i64 k ∧ k ≤ l.length ∧ k ≤ m + 1 ∧ Hid (∀ x ∈ l.take k, Brief x)) (fun i => l.length - (intOf i).toNat)
  case atStart => exact ⟨0, rfl, Nat.zero_le _, Nat.zero_le _, hideIt (by simp)⟩
  case round =>
    obtain ⟨k, rfl, hk, hkm, HB⟩ := hrel
    by_cases hlt : k < l.length
    · by_cases hm1 : k ≤ m
      · obtain ⟨b, off, rfl, hbl, c0, c1⟩ := SpsAt.get HH.out k hlt
        have HT := hideIt (List.take_succ_eq_append_getElem hlt)
        generalize l[k] = x at *
        by_cases h0 : 100 < x.1.size
        · have h0' : (100 : Int) < (x.1.size : Int) := by omega
          go_wp2_with fail
          go_ret
          exact ⟨true, rfl, rfl, fun e => by cases e⟩
        · have h0' : ¬ (100 : Int) < (x.1.size : Int) := by omega
          by_cases h1 : 100 < x.2.size
          · have h1' : (100 : Int) < (x.2.size : Int) := by omega
            go_wp2_with fail
            go_ret
            exact ⟨true, rfl, rfl, fun e => by cases e⟩
          · have h1' : ¬ (100 : Int) < (x.2.size : Int) := by omega
            have HX := hideIt (show Brief x from ⟨by omega, by omega⟩)
            go_wp2_with fail
            go_round
            case rel => exact ⟨k + 1, by go_num, by omega, by omega, hideIt (fun y hy => by rw [HT.out] at hy; rcases List.mem_append.1 hy with e | e; exact HB.out y e; rw [List.mem_singleton.1 e]; exact HX.out)⟩
            case measure => simp [intOf]; omega
      · obtain rfl : k = m + 1 := by omega
        go_wp2_with fail
        go_ret
        exact ⟨_, rfl, rfl, fun e => absurd hlt (by have := of_decide_eq_false e; omega)⟩
    · obtain rfl : k = l.length := by omega
      go_wp2_with fail
      go_ret
      refine ⟨_, rfl, rfl, fun e => ⟨?_, ?_⟩⟩
      · have := of_decide_eq_false e
        omega
      · have := HB.out
        rwa [List.take_length] at this

theorem has1_any (x : Sp) (pk : Nat) (k : ByteArray) (w : World) (hc : w.cell? ⟨pk, 0, none⟩ = some (.string k)) :
    Calls Try.prog 19 #[.agg #[.string x.1, .string x.2], .pointer (some ⟨pk, 0, none⟩)] w fun e w' => e = .returned (.bool (decide (KeyIn x k.toList))) ∧ Fr (fun _ => False) w w' := by
  have hI := hideIt (fun w => in_any x k w)
  generalize decide (KeyIn x k.toList) = v at *
  have hc' := cellA hc (.cells #[.string x.1, .string x.2] 24)
  clear hc
  go_enter Try.func19, Try.ntmps19
  go_wp2_with fail
  refine Calls.mono (hI.out _) ?_
  rintro e w1 ⟨rfl, hF⟩
  go_wp2_with fail
  go_ret
  exact ⟨rfl, ((Fr.refl _ _).alloc _).trans hF (fun _ _ e => e)⟩

/-- A key is in one of some. -/
def hasB (l : List Sp) (k : By) : Bool := l.any fun s => decide (KeyIn s k)

theorem hasB_iff (l : List Sp) (k : By) : hasB l k = true ↔ HasK l k := by
  unfold hasB HasK
  rw [List.any_eq_true]
  simp only [decide_eq_true_eq]

set_option maxRecDepth 100000 in
set_option maxHeartbeats 1000000 in
theorem idx_any (ao : Option Addr) (cap : Nat) (l : List Sp) (pk : Nat) (k : ByteArray) (w : World) (h : l = [] ∨ SpsAt w ao l) (hc : w.cell? ⟨pk, 0, none⟩ = some (.string k)) (hl : l.length ≤ 9223372036854775807) :
    Calls Try.prog 32 #[.slice ao l.length cap, .func (.func 19) #[] #[.pointer (some ⟨pk, 0, none⟩)]] w fun e w' => ∃ n : Int, e = .returned (.int .i64 n) ∧ decide (0 ≤ n) = hasB l k.toList ∧ Fr (fun _ => False) w w' := by
  have HH := hideIt h
  have HC := hideIt hc
  clear h hc
  go_enter Try.func32, Try.ntmps32
  go_wp2_with fail
  go_loopw [8] (fun i wr => ∃ j : Nat, i = .int .i64 j ∧ j ≤ l.length ∧ Hid (∀ x ∈ l.take j, decide (KeyIn x k.toList) = false) ∧ Fr (fun _ => False) w wr) (fun i _ => l.length - (intOf i).toNat)
  case atStart => exact ⟨0, rfl, Nat.zero_le _, hideIt (by simp), Fr.refl _ _⟩
  case round =>
    obtain ⟨j, rfl, hj, HB, hF⟩ := hrel
    by_cases hlt : j < l.length
    · obtain ⟨b, off, rfl, hbl, c0, c1⟩ := SpsAt.get (ats_fr0 HH.out hF) j hlt
      have HT := hideIt (List.take_succ_eq_append_getElem hlt)
      have HM := hideIt (List.getElem_mem hlt)
      have HF := hideIt hF
      have h1 := hideIt (fun w' (hF' : Fr (fun _ => False) w w') => has1_any l[j] pk k w' (hF'.cell0 HC.out))
      clear hF
      generalize l[j] = x at *
      by_cases hx : decide (KeyIn x k.toList) = true
      · rw [hx] at h1
        have HX := hideIt hx
        clear hx
        go_wp2_with fail
        refine Calls.mono (h1.out _ HF.out) ?_
        rintro e w1 ⟨rfl, hF1⟩
        go_wp2_with fail
        go_ret
        refine ⟨j, rfl, ?_, HF.out.trans hF1 (fun _ _ e => e)⟩
        have e1 : hasB l k.toList = true := List.any_eq_true.2 ⟨x, HM.out, HX.out⟩
        rw [e1]
        exact decide_eq_true (by omega)
      · have hx' : decide (KeyIn x k.toList) = false := by simpa using hx
        rw [hx'] at h1
        have HX := hideIt hx'
        clear hx hx'
        go_wp2_with fail
        refine Calls.mono (h1.out _ HF.out) ?_
        rintro e w1 ⟨rfl, hF1⟩
        have HF1 := hideIt hF1
        clear hF1
        go_wp2_with fail
        go_roundw
        case measure => simp [intOf]; omega
        case rel => exact ⟨j + 1, by go_num, by omega, hideIt (fun y hy => by rw [HT.out] at hy; rcases List.mem_append.1 hy with e | e; exact HB.out y e; rw [List.mem_singleton.1 e]; exact HX.out), HF.out.trans HF1.out (fun _ _ e => e)⟩
    · obtain rfl : j = l.length := by omega
      have HF := hideIt hF
      clear hF
      go_wp2_with fail
      go_ret
      refine ⟨-1, rfl, ?_, HF.out⟩
      have e1 : hasB l k.toList = false := List.any_eq_false.2 (fun x hx => by have := HB.out; rw [List.take_length] at this; simpa using this x hx)
      rw [e1]
      decide

theorem has_any (ao : Option Addr) (cap : Nat) (l : List Sp) (k : ByteArray) (w : World) (h : l = [] ∨ SpsAt w ao l) (hl : l.length ≤ 9223372036854775807) :
    Calls Try.prog 10 #[.slice ao l.length cap, .string k] w fun e w' => e = .returned (.bool (hasB l k.toList)) ∧ Fr (fun _ => False) w w' := by
  have hF0 : Fr (fun _ => False) w (w.alloc (.cells #[.string k] 9)) := (Fr.refl _ _).alloc _
  have hI := hideIt (idx_any ao cap l w.heap.size k _ (ats_fr0 h hF0) (cellNew w #[.string k] 9 _ 0 rfl) hl)
  have HF0 := hideIt hF0
  clear h hF0
  generalize hasB l k.toList = v at *
  go_enter Try.func10, Try.ntmps10
  go_wp2_with (first | (go_at_call 18; go_in) | (go_at_call 32; refine Calls.mono hI.out ?_; rintro e w1 ⟨n, rfl, hn, hF1⟩))
  go_ret
  first | exact ⟨rfl, HF0.out.trans hF1 (fun _ _ e => e)⟩ | exact ⟨rb hn, HF0.out.trans hF1 (fun _ _ e => e)⟩

end Go.Proofs.Ytmaepknceihepaa

/- Spans: Covers. -/
namespace Go.Proofs.Ytmaepknceihepaa
open Go.RowKit Go.IntWalk
set_option linter.unusedSimpArgs false
set_option linter.unusedVariables false
set_option maxRecDepth 100000

/-- The first one that has where a span begins reaches to its end. -/
def covB : List Sp → Sp → Bool
  | [], _ => false
  | j :: J, s => if KeyIn j (lo s) then !decide (outl s j) else covB J s

theorem covB_drop {J : List Sp} {k : Nat} (h : k < J.length) (s : Sp) : covB (J.drop k) s = if KeyIn J[k] (lo s) then !decide (outl s J[k]) else covB (J.drop (k + 1)) s := by
  rw [List.drop_eq_getElem_cons h, covB]

set_option maxRecDepth 100000 in
set_option maxHeartbeats 1000000 in
theorem covers_any (ao : Option Addr) (cap : Nat) (l : List Sp) (s : Sp) (w : World) (h : l = [] ∨ SpsAt w ao l) (hb : l.length ≤ 1099511627774) (hJ : (joinC l).length ≤ 1099511627774) :
    Calls Try.prog 12 #[.slice ao l.length cap, .agg #[.string s.1, .string s.2]] w fun e w' => e = .returned (.bool (if NonE s then covB (joinC l) s else true)) ∧ Fr (fun _ => False) w w' := by
  have hF0 : Fr (fun _ => False) w (w.alloc (.cells #[.string s.1, .string s.2] 24)) := (Fr.refl _ _).alloc _
  have HF0 := hideIt hF0
  by_cases hs : NonE s
  · rw [if_pos hs]
    have hE := hideIt (fun w => by have := empty_any s w; rw [show decide (¬ NonE s) = false by simp [hs]] at this; exact this)
    have hJn := hideIt (fun w' (hF : Fr (fun _ => False) w w') => join_any ao cap l w' (ats_fr0 h hF) hb)
    have HC := hideIt (show ∀ w' : World, Fr (fun _ => False) (w.alloc (.cells #[.string s.1, .string s.2] 24)) w' → w'.cell? ⟨w.heap.size, 0, none⟩ = some (.string s.1) ∧ w'.cell? ⟨w.heap.size, 1, none⟩ = some (.string s.2) from fun w' h => ⟨h.cell0 (cellNew w _ _ _ 0 rfl), h.cell0 (cellNew w _ _ _ 1 rfl)⟩)
    generalize joinC l = J at *
    clear hs h hF0
    go_enter Try.func12, Try.ntmps12
    go_wp2_with fail
    refine Calls.mono (hE.out _) ?_
    rintro e w1 ⟨rfl, hF1⟩
    have HF1 := hideIt hF1
    clear hF1
    go_wp2_with fail
    refine Calls.mono (hJn.out _ (HF0.out.trans HF1.out (fun _ _ e => e))) ?_
    rintro e w2 ⟨ao2, cap2, rfl, hrow2, hF2, hn2⟩
    have HF2 := hideIt (HF1.out.trans hF2 (fun _ _ e => e))
    have HROW := hideIt hrow2
    clear hF2 hn2 hrow2
    go_wp2_with fail
    go_loopw [12] (fun i wr => ∃ k : Nat, i = .int .i64 k ∧ k ≤ J.length ∧ Hid (covB (J.drop k) s = covB J s) ∧ Fr (fun _ => False) w2 wr) (fun i _ => J.length - (intOf i).toNat)
    case atStart => exact ⟨0, rfl, Nat.zero_le _, hideIt (by simp), Fr.refl _ _⟩
    case round =>
      obtain ⟨k, rfl, hk, HD, hF⟩ := hrel
      have hFw := HF2.out.trans hF (fun _ _ e => e)
      obtain ⟨s0, s1⟩ := HC.out wr hFw
      by_cases hlt : k < J.length
      · obtain ⟨b, off, rfl, hbl, c0, c1⟩ := SpsAt.get (Or.inr (HROW.out.at.fr0 hF)) k hlt
        have HDR := hideIt (covB_drop hlt s)
        have hI := hideIt (fun w => in_any J[k] s.1 w)
        have hO := hideIt (fun w => outlasts_any s J[k] w)
        have HF := hideIt hF
        have HFW := hideIt hFw
        clear hF hFw
        generalize J[k] = x at *
        have s0' := cellA s0 (.cells #[.string x.1, .string x.2] 24)
        by_cases hx : KeyIn x (lo s)
        · rw [if_pos hx] at HDR
          rw [show decide (KeyIn x s.1.toList) = true from decide_eq_true hx] at hI
          clear hx
          go_wp2_with fail
          refine Calls.mono (hI.out _) ?_
          rintro e w3 ⟨rfl, hF3⟩
          have hF3' : Fr (fun _ => False) wr w3 := ((Fr.refl _ _).alloc _).trans hF3 (fun _ _ e => e)
          obtain ⟨t0, t1⟩ := HC.out w3 (HFW.out.trans hF3' (fun _ _ e => e))
          have x0 := hF3.cell0 (cellNew wr #[.string x.1, .string x.2] 24 wr.heap.size 0 rfl)
          have x1 := hF3.cell0 (cellNew wr #[.string x.1, .string x.2] 24 wr.heap.size 1 rfl)
          have HF3 := hideIt hF3'
          clear hF3 hF3'
          go_wp2_with fail
          refine Calls.mono (hO.out _) ?_
          rintro e w4 ⟨rfl, hF4⟩
          have HFIN := hideIt (show (!decide (outl s x)) = covB J s from HDR.out.symm.trans HD.out)
          have HFF := hideIt (((HF0.out.trans HFW.out (fun _ _ e => e)).trans HF3.out (fun _ _ e => e)).trans hF4 (fun _ _ e => e))
          clear hF4 HDR HD
          generalize decide (outl s x) = o at *
          go_wp2_with fail
          go_ret
          exact ⟨rb HFIN.out, HFF.out⟩
        · rw [if_neg hx] at HDR
          rw [show decide (KeyIn x s.1.toList) = false from decide_eq_false hx] at hI
          clear hx
          go_wp2_with fail
          refine Calls.mono (hI.out _) ?_
          rintro e w3 ⟨rfl, hF3⟩
          have HF3 := hideIt (show Fr (fun _ => False) wr w3 from ((Fr.refl _ _).alloc _).trans hF3 (fun _ _ e => e))
          clear hF3
          go_wp2_with fail
          go_roundw
          case measure => simp [intOf]; omega
          case rel => exact ⟨k + 1, by go_num, by omega, hideIt (by rw [← HDR.out, HD.out]), HF.out.trans HF3.out (fun _ _ e => e)⟩
      · obtain rfl : k = J.length := by omega
        have HFIN := hideIt (show false = covB J s by rw [← HD.out, List.drop_length]; rfl)
        have HFF := hideIt (HF0.out.trans hFw (fun _ _ e => e))
        clear hF hFw HD
        go_wp2_with fail
        go_ret
        exact ⟨rb HFIN.out, HFF.out⟩
  · rw [if_neg hs]
    have hE := hideIt (fun w => by have := empty_any s w; rw [show decide (¬ NonE s) = true by simp [hs]] at this; exact this)
    clear hs h hF0
    go_enter Try.func12, Try.ntmps12
    go_wp2_with fail
    refine Calls.mono (hE.out _) ?_
    rintro e w1 ⟨rfl, hF1⟩
    have HFF := hideIt (HF0.out.trans hF1 (fun _ _ e => e))
    clear hF1
    go_wp2_with fail
    go_ret
    exact ⟨rfl, HFF.out⟩

end Go.Proofs.Ytmaepknceihepaa

/- SpanKnown: the chapter's examples are answered as it says. -/
namespace Go.Proofs.Ytmaepknceihepaa
open Go.RowKit Go.IntWalk
set_option linter.unusedSimpArgs false
set_option linter.unusedVariables false
set_option maxRecDepth 100000

theorem joinC_of {l m : List Sp} (h : Sorted l m) : joinC l = jl m := (sortC_sorted l).one h (fun _ => Iff.rfl)

theorem jn_len : ∀ (r : List Sp) (last : Sp), (jn last r).length ≤ r.length + 1
  | [], _ => by simp [jn]
  | s :: r, last => by
    rw [jn]
    split
    · have := jn_len r s
      simp only [List.length_cons]
      omega
    · have := jn_len r (grow1 last s)
      simp only [List.length_cons]
      omega

theorem joinC_len (l : List Sp) : (joinC l).length ≤ l.length := by
  have h : (sortC (fulls l)).length ≤ l.length := by rw [sortC_len]; exact fulls_len l
  unfold joinC
  generalize sortC (fulls l) = m at *
  cases m with
  | nil => simp [jl]
  | cons s r => exact Nat.le_trans (jn_len r s) h

/-- Spans that are not empty, and whose Lo rise, are in their order. -/
theorem sorted_self {l : List Sp} (h1 : ∀ s ∈ l, NonE s) (h2 : l.Pairwise (fun a b => ¬ lo b < lo a)) : Sorted l l := ⟨fun s => ⟨fun h => ⟨h, h1 s h⟩, fun h => h.1⟩, h2⟩

theorem covers_fr {w0 : World} (ao : Option Addr) (cap : Nat) (l : List Sp) (s : Sp) (v : Bool) {w : World} (hat : SpsAt w ao l) (hv : (if NonE s then covB (joinC l) s else true) = v) (hb : l.length ≤ 1099511627774) (h : Fr (fun _ => False) w0 w) :
    Calls Try.prog 12 #[.slice ao l.length cap, .agg #[.string s.1, .string s.2]] w fun e w' => e = .returned (.bool v) ∧ Fr (fun _ => False) w0 w' :=
  (covers_any ao cap l s w (Or.inr hat) hb (Nat.le_trans (joinC_len l) hb)).mono fun _ _ ⟨he, hF⟩ => ⟨by rw [he, hv], h.trans hF (fun _ _ e => e)⟩

theorem eql_ab (a b c d : ByteArray) (w : World) : (binOp .eql 24 (.agg #[.string a, .string b]) (.agg #[.string c, .string d])).run Try.prog w = .ok (.bool (decide ((a, b) = (c, d)))) w := eql_sp (a, b) (c, d) w

theorem cov1 : (if NonE (⟨#[97]⟩, ⟨#[99]⟩) then covB (joinC [(⟨#[97]⟩, ⟨#[98]⟩), (⟨#[98]⟩, ⟨#[99]⟩)]) (⟨#[97]⟩, ⟨#[99]⟩) else true) = true := by
  rw [joinC_of (sorted_self (l := [(⟨#[97]⟩, ⟨#[98]⟩), (⟨#[98]⟩, ⟨#[99]⟩)]) (by simp only [NonE, hi, lo, Lib.toList_data]; decide) (by simp only [lo, Lib.toList_data]; decide))]
  simp only [NonE, jl, jn, short, grow1, outl, covB, KeyIn, hi, lo, Lib.toList_data]
  decide +kernel

theorem cov2 : (if NonE (⟨#[97]⟩, ⟨#[100]⟩) then covB (joinC [(⟨#[97]⟩, ⟨#[98]⟩), (⟨#[99]⟩, ⟨#[100]⟩)]) (⟨#[97]⟩, ⟨#[100]⟩) else true) = false := by
  rw [joinC_of (sorted_self (l := [(⟨#[97]⟩, ⟨#[98]⟩), (⟨#[99]⟩, ⟨#[100]⟩)]) (by simp only [NonE, hi, lo, Lib.toList_data]; decide) (by simp only [lo, Lib.toList_data]; decide))]
  simp only [NonE, jl, jn, short, grow1, outl, covB, KeyIn, hi, lo, Lib.toList_data]
  decide +kernel

end Go.Proofs.Ytmaepknceihepaa

/- SpanSame: what follows of spans that are joined. -/
namespace Go.Proofs.Ytmaepknceihepaa
open Go.RowKit Go.IntWalk
set_option linter.unusedSimpArgs false
set_option linter.unusedVariables false
set_option maxRecDepth 100000

theorem joinC_jd (l : List Sp) : Jd (joinC l) := (sortC_sorted l).jd
theorem joinC_keys (l : List Sp) (k : By) : HasK (joinC l) k ↔ HasK l k := (sortC_sorted l).keys k
theorem joinC_same {l l' : List Sp} (h : ∀ k, HasK l k ↔ HasK l' k) : joinC l = joinC l' := (sortC_sorted l).one (sortC_sorted l') h
theorem joinC_own (l : List Sp) : joinC (joinC l) = joinC l := joinC_same (joinC_keys l)

theorem hasB_eq {l l' : List Sp} {k : By} (h : HasK l k ↔ HasK l' k) : hasB l k = hasB l' k := by
  rw [Bool.eq_iff_iff, hasB_iff, hasB_iff]
  exact h

theorem turned_same (l : List Sp) (f : Nat) : joinC (l.drop f ++ l.take f) = joinC l := by
  refine joinC_same fun k => ?_
  have e : ∀ s, s ∈ l.drop f ++ l.take f ↔ s ∈ l := fun s => by
    rw [List.mem_append, or_comm, ← List.mem_append, List.take_append_drop]
  simp only [HasK, e]

theorem Jd.all {J : List Sp} (h : Jd J) {s : Sp} (hs : s ∈ J) : NonE s := by
  cases J with
  | nil => simp at hs
  | cons t r =>
    rcases List.mem_cons.1 hs with rfl | hs
    · exact h.head
    · exact (h.behind r t s hs).2.2

theorem Jd.next : ∀ (J : List Sp), Jd J → ∀ i (h : i + 1 < J.length), hi J[i] ≠ [] ∧ hi J[i] < lo J[i + 1]
  | [], _, i, h => absurd h (by simp)
  | s :: r, hj, i, h => by
    cases i with
    | zero =>
      have h0 : 0 < r.length := by simpa using h
      have := hj.behind r s r[0] (List.getElem_mem h0)
      exact ⟨this.1, this.2.1⟩
    | succ i => exact Jd.next r hj.tail i (by simpa using h)

theorem Jd.gap : ∀ (J : List Sp), Jd J → ∀ s ∈ J, hi s ≠ [] → ¬ HasK J (hi s)
  | [], _, s, hs, _ => absurd hs (by simp)
  | t :: r, hj, s, hs, hn => by
    rcases List.mem_cons.1 hs with rfl | hs
    · exact hj.end_none hn
    · rw [HasK.cons]
      rintro (⟨_, h1⟩ | h1)
      · obtain ⟨h2, h3, h4⟩ := hj.behind r t s hs
        have h5 := h1.resolve_left h2
        have h6 := h4.resolve_left hn
        exact List.lt_irrefl _ (List.lt_trans (List.lt_trans h5 h3) h6)
      · exact Jd.gap r hj.tail s hs hn h1

theorem covB_true (s : Sp) : ∀ (J : List Sp), HasK J (lo s) → (∀ j ∈ J, KeyIn j (lo s) → ¬ outl s j) → covB J s = true
  | [], h, _ => absurd h HasK.nil
  | j :: J, h, ho => by
    rw [covB]
    by_cases hj : KeyIn j (lo s)
    · rw [if_pos hj]
      simp only [ho j (by simp) hj, decide_false, Bool.not_false]
    · rw [if_neg hj]
      exact covB_true s J ((HasK.cons.1 h).resolve_left hj) (fun x hx => ho x (by simp [hx]))

/-- Spans that are joined cover each span of which they have all keys. -/
theorem covers_own {J : List Sp} (hJ : Jd J) {s : Sp} (hs : NonE s) (hk : ∀ k, KeyIn s k → HasK J k) : covB J s = true := by
  refine covB_true s J (hk _ hs.lo_in) fun j hj h1 h2 => ?_
  refine Jd.gap J hJ j hj h2.1 (hk _ ⟨?_, h2.2⟩)
  have h3 := h1.2.resolve_left h2.1
  exact fun e => List.lt_irrefl _ (List.lt_trans e h3)

theorem cov_each (l : List Sp) {s : Sp} (hs : s ∈ l) : (if NonE s then covB (joinC l) s else true) = true := by
  split
  · rename_i h
    exact covers_own (joinC_jd l) h fun k hk => (joinC_keys l k).2 ⟨s, hs, hk⟩
  · rfl

theorem has_each (l : List Sp) {s : Sp} (hs : s ∈ l) (h : NonE s) : hasB (joinC l) (lo s) = true := by
  rw [hasB_iff, joinC_keys]
  exact ⟨s, hs, h.lo_in⟩

theorem gap_none (l : List Sp) {s : Sp} (hs : s ∈ joinC l) (hn : hi s ≠ []) : hasB l (hi s) = false := by
  rw [← Bool.not_eq_true, hasB_iff, ← joinC_keys]
  exact (joinC_jd l).gap _ s hs hn

theorem SpsAt.drop {w : World} {b off : Nat} {l : List Sp} (h : SpsAt w (some ⟨b, off, none⟩) l) (f : Nat) : SpsAt w (some ⟨b, off + f * 2, none⟩) (l.drop f) := by
  rcases h with ⟨e, _⟩ | ⟨b', off', e, h2, h3⟩
  · cases e
  · obtain ⟨rfl, rfl⟩ : b = b' ∧ off = off' := by simpa using e
    refine Or.inr ⟨b, off + f * 2, rfl, h2, fun i hi => ?_⟩
    have hlt : f + i < l.length := by rw [List.length_drop] at hi; omega
    have := h3 (f + i) hlt
    rw [show off + (f + i) * 2 = off + f * 2 + i * 2 by omega] at this
    rw [List.getElem_drop]
    exact this

theorem SpsAt.take {w : World} {ao : Option Addr} {l : List Sp} (h : SpsAt w ao l) (f : Nat) : SpsAt w ao (l.take f) := by
  rcases h with ⟨e, h⟩ | ⟨b, off, e, h2, h3⟩
  · exact Or.inl ⟨e, by rw [h]; simp⟩
  · refine Or.inr ⟨b, off, e, h2, fun i hi => ?_⟩
    have hlt : i < l.length := by rw [List.length_take] at hi; omega
    rw [List.getElem_take]
    exact h3 i hlt

end Go.Proofs.Ytmaepknceihepaa

/- Spans: the code's answers and the document's are one. -/
namespace Go.Proofs.Ytmaepknceihepaa
open Go.RowKit Go.IntWalk
set_option linter.unusedSimpArgs false
set_option linter.unusedVariables false
set_option maxRecDepth 100000

theorem maxS_toList (a b : ByteArray) : (Lib.maxS a b).toList = if a.toList < b.toList then b.toList else a.toList := by
  unfold Lib.maxS
  rw [Lib.toList_data a, Lib.toList_data b]
  split
  · exact Lib.toList_data b
  · exact Lib.toList_data a

theorem leastS_toList (a b : ByteArray) : (leastS a b).toList = if a.toList = [] ∨ b.toList ≠ [] ∧ b.toList < a.toList then b.toList else a.toList := by
  unfold leastS
  split <;> rfl

theorem meets_eq (a b : Sp) : (decide (KeyIn a (Lib.maxS a.1 b.1).toList) && decide (KeyIn b (Lib.maxS a.1 b.1).toList)) = decide (NonE (Lib.maxS a.1 b.1, leastS a.2 b.2)) := by
  rw [← Bool.decide_and]
  refine decide_eq_decide.mpr ?_
  unfold NonE KeyIn
  show _ ↔ (leastS a.2 b.2).toList = [] ∨ (Lib.maxS a.1 b.1).toList < (leastS a.2 b.2).toList
  rw [maxS_toList, leastS_toList]
  show (¬ (if lo a < lo b then lo b else lo a) < lo a ∧ (hi a = [] ∨ (if lo a < lo b then lo b else lo a) < hi a)) ∧ (¬ (if lo a < lo b then lo b else lo a) < lo b ∧ (hi b = [] ∨ (if lo a < lo b then lo b else lo a) < hi b)) ↔ (if hi a = [] ∨ hi b ≠ [] ∧ hi b < hi a then hi b else hi a) = [] ∨ (if lo a < lo b then lo b else lo a) < (if hi a = [] ∨ hi b ≠ [] ∧ hi b < hi a then hi b else hi a)
  generalize lo a = p
  generalize lo b = q
  generalize hi a = x
  generalize hi b = y
  have key : ∀ m : By, ¬ m < p → ¬ m < q → ((¬ m < p ∧ (x = [] ∨ m < x)) ∧ (¬ m < q ∧ (y = [] ∨ m < y)) ↔ (if x = [] ∨ y ≠ [] ∧ y < x then y else x) = [] ∨ m < (if x = [] ∨ y ≠ [] ∧ y < x then y else x)) := by
    intro m h1 h2
    by_cases hx : x = []
    · simp only [hx, true_or, if_true, h1, h2, not_false_eq_true, true_and]
    · by_cases hy : y = []
      · simp only [hx, hy, ne_eq, not_true_eq_false, false_and, or_self, if_false, false_or, true_or, h1, h2, not_false_eq_true, true_and, and_true]
      · simp only [hx, hy, ne_eq, not_false_eq_true, true_and, false_or, h1, h2]
        by_cases hyx : y < x
        · rw [if_pos hyx]
          simp only [hy, false_or]
          clear h1 h2 hx hy
          obtain ⟨f, hl, he⟩ := rank [m, x, y]
          simp only [hl, he, List.mem_cons, true_or, or_true] at *
          omega
        · rw [if_neg hyx]
          simp only [hx, false_or]
          clear h1 h2 hx hy
          obtain ⟨f, hl, he⟩ := rank [m, x, y]
          simp only [hl, he, List.mem_cons, true_or, or_true] at *
          omega
  by_cases hpq : p < q
  · rw [if_pos hpq]
    exact key q (fun e => List.lt_irrefl _ (List.lt_trans e hpq)) (List.lt_irrefl _)
  · rw [if_neg hpq]
    exact key p (List.lt_irrefl _) hpq

theorem upto_eq (s : Sp) (k : ByteArray) : uptoS s k = (s.1, leastS s.2 (bhd k)) := by
  unfold uptoS leastS
  have hp := endS_pos (hi s) (bhd k).toList
  have hb : (bhd k).toList ≠ [] := by rw [bhd_toList]; simp
  by_cases h : hi s = [] ∨ (bhd k).toList < hi s
  · rw [if_neg (by have := hp.2 h; omega), if_pos]
    rcases h with h | h
    · exact Or.inl h
    · exact Or.inr ⟨hb, h⟩
  · rw [if_pos (by have h1 : ¬ 0 < endS (hi s) (bhd k).toList := fun e => h (hp.1 e); omega), if_neg]
    rintro (e | e)
    · exact h (Or.inl e)
    · exact h (Or.inr e.2)

def litAB (a b : Sp) : Array Value := #[.string a.1, .string a.2, .string b.1, .string b.2]

theorem long2 (a b : Sp) (w : World) : Calls Try.prog 4 #[.slice (some ⟨w.heap.size, 0, none⟩) 2 2, .int .i64 2] (w.alloc (.cells #[.string a.1, .string a.2, .string b.1, .string b.2] 24)) fun e w' => (∃ v, e = .returned (.bool v)) ∧ w' = w.alloc (.cells #[.string a.1, .string a.2, .string b.1, .string b.2] 24) := by
  refine Calls.mono (long_any (some ⟨w.heap.size, 0, none⟩) 2 [a, b] 2 _ (Or.inr (sps_arr [a, b] w)) (by simp) (by decide)) ?_
  rintro e w' ⟨v, rfl, rfl, _⟩
  exact ⟨⟨v, rfl⟩, rfl⟩

end Go.Proofs.Ytmaepknceihepaa

/- Spans: the document's Has, and what it sorts. -/
namespace Go.Proofs.Ytmaepknceihepaa
open Go.RowKit Go.IntWalk
set_option linter.unusedSimpArgs false
set_option linter.unusedVariables false
set_option maxRecDepth 100000

set_option maxRecDepth 100000 in
set_option maxHeartbeats 1000000 in
theorem zhas_any (ao : Option Addr) (cap : Nat) (l : List Sp) (k : ByteArray) (w : World) (h : l = [] ∨ SpsAt w ao l) (hl : l.length ≤ 9223372036854775807) :
    Calls Try.prog 11 #[.slice ao l.length cap, .string k] w fun e w' => e = .returned (.bool (hasB l k.toList)) ∧ Fr (fun _ => False) w w' := by
  have HH := hideIt h
  clear h
  go_enter Try.func11, Try.ntmps11
  go_wp2_with fail
  go_loopw [5] (fun i wr => ∃ j : Nat, i = .int .i64 j ∧ j ≤ l.length ∧ Hid (∀ x ∈ l.take j, decide (KeyIn x k.toList) = false) ∧ Fr (fun _ => False) w wr) (fun i _ => l.length - (intOf i).toNat)
  case atStart => exact ⟨0, rfl, Nat.zero_le _, hideIt (by simp), Fr.refl _ _⟩
  case round =>
    obtain ⟨j, rfl, hj, HB, hF⟩ := hrel
    by_cases hlt : j < l.length
    · obtain ⟨b, off, rfl, hbl, c0, c1⟩ := SpsAt.get (ats_fr0 HH.out hF) j hlt
      have HT := hideIt (List.take_succ_eq_append_getElem hlt)
      have HM := hideIt (List.getElem_mem hlt)
      have HF := hideIt hF
      have h1 := hideIt (fun w => zin_any l[j] k w)
      clear hF
      generalize l[j] = x at *
      by_cases hx : decide (KeyIn x k.toList) = true
      · rw [hx] at h1
        have HX := hideIt hx
        clear hx
        go_wp2_with fail
        refine Calls.mono (h1.out _) ?_
        rintro e w1 ⟨rfl, hF1⟩
        go_wp2_with fail
        go_ret
        have e1 : hasB l k.toList = true := List.any_eq_true.2 ⟨x, HM.out, HX.out⟩
        exact ⟨by rw [e1]; rfl, HF.out.trans hF1 (fun _ _ e => e)⟩
      · have hx' : decide (KeyIn x k.toList) = false := by simpa using hx
        rw [hx'] at h1
        have HX := hideIt hx'
        clear hx hx'
        go_wp2_with fail
        refine Calls.mono (h1.out _) ?_
        rintro e w1 ⟨rfl, hF1⟩
        have HF1 := hideIt hF1
        clear hF1
        go_wp2_with fail
        go_roundw
        case measure => simp [intOf]; omega
        case rel => exact ⟨j + 1, by go_num, by omega, hideIt (fun y hy => by rw [HT.out] at hy; rcases List.mem_append.1 hy with e | e; exact HB.out y e; rw [List.mem_singleton.1 e]; exact HX.out), HF.out.trans HF1.out (fun _ _ e => e)⟩
    · obtain rfl : j = l.length := by omega
      have HF := hideIt hF
      clear hF
      go_wp2_with fail
      go_ret
      have e1 : hasB l k.toList = false := List.any_eq_false.2 (fun x hx => by have := HB.out; rw [List.take_length] at this; simpa using this x hx)
      exact ⟨by rw [e1]; rfl, HF.out⟩

set_option maxRecDepth 100000 in
set_option maxHeartbeats 1000000 in
theorem over_none (ao : Option Addr) (cap : Nat) (w : World) : Calls Try.prog 9 #[.slice ao 0 cap] w fun e w' => e = .returned (.tuple #[]) ∧ w' = w := by
  go_enter Try.func9, Try.ntmps9
  go_wp2
  refine wp_loop_rounds 1 ?_
  rw [rounds_succ]
  go_wp2
  go_end0
  exact ⟨rfl, rfl⟩

set_option maxRecDepth 100000 in
set_option maxHeartbeats 1000000 in
theorem over_some (g cap n : Nat) (cur : Array Value) (w : World) (hg : w.heap[g]? = some (.cells cur 24 (0, 0))) (hc : n * 2 ≤ cur.size) (hn : n ≤ 1099511627776) :
    Calls Try.prog 9 #[.slice (some ⟨g, 0, none⟩) n cap] w fun e w' => e = .returned (.tuple #[]) ∧ Fr (fun k => k = g) w w' := by
  have HG := hideIt hg
  clear hg
  go_enter Try.func9, Try.ntmps9
  go_wp2_with fail
  go_loopw [2] (fun i wr => ∃ (j : Nat) (q : Array Value), i = .int .i64 j ∧ j ≤ n ∧ q.size = cur.size ∧ wr.heap[g]? = some (.cells q 24 (0, 0)) ∧ Fr (fun k => k = g) w wr) (fun i _ => n - (intOf i).toNat)
  case atStart => exact ⟨0, cur, rfl, Nat.zero_le _, rfl, HG.out, Fr.refl _ _⟩
  case round =>
    obtain ⟨j, q, rfl, hj, hq, hgr, hF⟩ := hrel
    by_cases hlt : j < n
    · have hsz : j * 2 + 1 < q.size := by omega
      have c0 : wr.cell? ⟨g, j * 2, none⟩ = some q[j * 2] := (cell_of_row wr g _ _ _ _ hgr).trans (Array.getElem?_eq_getElem (by omega))
      have c1 : wr.cell? ⟨g, j * 2 + 1, none⟩ = some q[j * 2 + 1] := (cell_of_row wr g _ _ _ _ hgr).trans (Array.getElem?_eq_getElem hsz)
      have f0 : wr.frozen? ⟨g, j * 2, none⟩ = false := frozen_of_row wr g _ _ _ hgr
      have f1 : wr.frozen? ⟨g, j * 2 + 1, none⟩ = false := frozen_of_row wr g _ _ _ hgr
      have HB := hideIt (heap_setCell_same _ _ (j * 2 + 1) _ _ (.string ⟨#[63]⟩) (heap_setCell_same _ _ (j * 2) _ _ (.string ⟨#[63]⟩) hgr))
      have HF := hideIt (Fr.setCell (Fr.setCell hF (p := ⟨g, j * 2, none⟩) (fun _ => rfl) (.string ⟨#[63]⟩)) (p := ⟨g, j * 2 + 1, none⟩) (fun _ => rfl) (.string ⟨#[63]⟩))
      have HQ := hideIt (show ((q.setIfInBounds (j * 2) (.string ⟨#[63]⟩)).setIfInBounds (j * 2 + 1) (.string ⟨#[63]⟩)).size = cur.size by simp [hq])
      generalize q[j * 2] = u0 at *
      generalize q[j * 2 + 1] = u1 at *
      clear hgr hF
      go_wp2_with fail
      go_roundw
      case measure => simp [intOf]; omega
      case rel => exact ⟨j + 1, _, by go_num, by omega, HQ.out, HB.out, HF.out⟩
    · obtain rfl : j = n := by omega
      have HF := hideIt hF
      clear hgr hF
      go_wp2_with fail
      go_end0
      exact ⟨rfl, HF.out⟩

/-- What is told is written over: nothing else. -/
theorem over_any (ao : Option Addr) (cap : Nat) (l : List Sp) (w : World) (h : SpRow w ao cap l) (hl : l.length ≤ 1099511627776) :
    Calls Try.prog 9 #[.slice ao l.length cap] w fun e w' => e = .returned (.tuple #[]) ∧ Fr (blk ao) w w' := by
  rcases h.2 with ⟨hv, hn⟩ | ⟨g, c, cur, hv, hb0, hg, hle, hcm, hcs, htake⟩
  · obtain ⟨rfl, _, rfl⟩ := Value.slice.inj hv
    rw [hn]
    refine Calls.mono (over_none none 0 w) ?_
    rintro e w' ⟨rfl, rfl⟩
    exact ⟨rfl, Fr.refl _ _⟩
  · obtain ⟨rfl, _, rfl⟩ := Value.slice.inj hv
    refine Calls.mono (over_some g cap l.length cur w hg (by rw [hcs]; omega) hl) ?_
    rintro e w' ⟨rfl, hF⟩
    exact ⟨rfl, hF.mono fun k e => ⟨_, rfl, e.symm⟩⟩

end Go.Proofs.Ytmaepknceihepaa

/- Spans: the document's sorting, plain. -/
namespace Go.Proofs.Ytmaepknceihepaa
open Go.RowKit Go.IntWalk
set_option linter.unusedSimpArgs false
set_option linter.unusedVariables false
set_option maxRecDepth 100000

theorem sorted_skip {L m : List Sp} {x : Sp} (h : Sorted L m) (hx : ¬ NonE x) : Sorted (L ++ [x]) m := by
  refine ⟨fun s => ?_, h.up⟩
  rw [h.mem, List.mem_append, List.mem_singleton]
  constructor
  · rintro ⟨h1, h2⟩
    exact ⟨Or.inl h1, h2⟩
  · rintro ⟨h1 | h1, h2⟩
    · exact ⟨h1, h2⟩
    · exact absurd h2 (h1 ▸ hx)

theorem sorted_ins {L m : List Sp} {x : Sp} (h : Sorted L m) (hx : NonE x) (k : Nat) (h1 : ∀ y ∈ m.take k, ¬ lo x < lo y) (h2 : ∀ y ∈ m.drop k, ¬ lo y < lo x) : Sorted (L ++ [x]) (m.take k ++ [x] ++ m.drop k) := by
  have hp : (m.take k ++ m.drop k).Pairwise (fun a b => ¬ lo b < lo a) := by rw [List.take_append_drop]; exact h.up
  rw [List.pairwise_append] at hp
  refine ⟨fun s => ?_, ?_⟩
  · have e : s ∈ m.take k ++ [x] ++ m.drop k ↔ s ∈ m ∨ s = x := by
      rw [List.mem_append, List.mem_append, List.mem_singleton, or_assoc, or_comm (a := s = x), ← or_assoc, ← List.mem_append, List.take_append_drop]
    rw [e, h.mem, List.mem_append, List.mem_singleton]
    constructor
    · rintro (⟨a, b⟩ | rfl)
      · exact ⟨Or.inl a, b⟩
      · exact ⟨Or.inr rfl, hx⟩
    · rintro ⟨a | a, b⟩
      · exact Or.inl ⟨a, b⟩
      · exact Or.inr a
  · rw [List.append_assoc, List.pairwise_append]
    refine ⟨hp.1, ?_, fun a ha b hb => ?_⟩
    · rw [List.singleton_append, List.pairwise_cons]
      exact ⟨h2, hp.2.1⟩
    · rcases List.mem_append.1 hb with hb | hb
      · rw [List.mem_singleton.1 hb]
        exact h1 a ha
      · exact hp.2.2 a ha b hb

/-- Where the first one begins behind x, all behind it do. -/
theorem drop_up {L m : List Sp} {x : Sp} (h : Sorted L m) (k : Nat) (hk : ∀ (h : k < m.length), lo x < lo m[k]) : ∀ y ∈ m.drop k, ¬ lo y < lo x := by
  intro y hy
  by_cases hlt : k < m.length
  · have h0 := hk hlt
    rw [List.drop_eq_getElem_cons hlt] at hy
    have hp : (m.take k ++ m[k] :: m.drop (k + 1)).Pairwise (fun a b => ¬ lo b < lo a) := by rw [← List.drop_eq_getElem_cons hlt, List.take_append_drop]; exact h.up
    rw [List.pairwise_append] at hp
    have h3 := List.pairwise_cons.1 hp.2.1
    rcases List.mem_cons.1 hy with e | e
    · rw [e]
      exact fun e2 => List.lt_irrefl _ (List.lt_trans e2 h0)
    · have h4 := h3.1 y e
      intro e2
      exact h4 (List.lt_trans e2 h0)
  · rw [List.drop_eq_nil_of_le (by omega)] at hy
    simp at hy

theorem sorted_nil : Sorted [] [] := ⟨fun s => by simp, List.Pairwise.nil⟩

theorem sorted_len {L m : List Sp} (k : Nat) (x : Sp) (hk : k ≤ m.length) : (m.take k ++ [x] ++ m.drop k).length = m.length + 1 := by
  rw [List.length_append, List.length_append, List.length_take, List.length_drop, List.length_singleton, Nat.min_eq_left hk]
  omega

/-- A region's end: which temporaries it leaves, whatever the order. -/
def ViaV (F : (Nat → Value) → Act) (R : (Nat → Value) → World → Prop) : Exit → Act → World → Prop
  | .normal, a', w' => ∃ v, a' = F v ∧ R v w'
  | _, _, _ => False

theorem wp_viaV {P : Program} {c : Code} {Q : Exit → Act → World → Prop} {a : Act} {w : World} (F : Act → (Nat → Value) → Act) (R : (Nat → Value) → World → Prop) (h1 : c.wp P (ViaV (F a) R) a w) (h2 : ∀ v w', R v w' → Q .normal (F a v) w') : c.wp P Q a w :=
  Code.wp_mono (fun e a' w' h => by
    cases e <;> first | exact (h : False).elim | (obtain ⟨v, rfl, hr⟩ := h; exact h2 v w' hr)) h1

end Go.Proofs.Ytmaepknceihepaa

/- Spans: the document's Join. -/
namespace Go.Proofs.Ytmaepknceihepaa
open Go.RowKit Go.IntWalk
set_option linter.unusedSimpArgs false
set_option linter.unusedVariables false
set_option maxRecDepth 100000

/-- Where the last one's end is written over. -/
theorem SpRow.set_hi {w : World} {g cap : Nat} {A : List Sp} {last : Sp} (h : SpRow w (some ⟨g, 0, none⟩) cap (A ++ [last])) (v : ByteArray) :
    SpRow (w.setCell ⟨g, A.length * 2 + 1, none⟩ (.string v)) (some ⟨g, 0, none⟩) cap (A ++ [(last.1, v)]) := by
  have hlen : (A ++ [(last.1, v)]).length = (A ++ [last]).length := by simp
  rcases h.2 with ⟨hv, hn⟩ | ⟨g', c, cur, hv, hb0, hg, hle, hcm, hcs, htake⟩
  · cases (Value.slice.inj hv).1
  · obtain ⟨e1, _, rfl⟩ := Value.slice.inj hv
    obtain ⟨rfl⟩ : g = g' := by simpa using e1
    unfold SpRow
    rw [hlen]
    refine ⟨?_, Or.inr ⟨g, cap, _, rfl, hb0, heap_setCell_same _ _ _ _ _ _ hg, hle, hcm, by simpa using hcs, ?_⟩⟩
    · rw [flat2_len, hlen]
    · rw [Array.toList_setIfInBounds, List.take_set, htake, List.flatMap_append, List.flatMap_append]
      rw [List.set_append_right _ _ (by rw [flat2_len]; omega), flat2_len, show A.length * 2 + 1 - A.length * 2 = 1 by omega]
      rfl

/-- How far the joining has come. -/
def JInv (m : List Sp) (j : Nat) (o : List Sp) : Prop := (j = 0 ∧ o = []) ∨ ∃ A last, o = A ++ [last] ∧ A ++ jn last (m.drop j) = jl m

theorem jinv_first {m : List Sp} (h : 0 < m.length) : JInv m 1 [m[0]] := by
  cases m with
  | nil => simp at h
  | cons s r => exact Or.inr ⟨[], s, rfl, rfl⟩

theorem jinv_more {m : List Sp} {j : Nat} {A : List Sp} {last : Sp} (hj : j < m.length) (h : A ++ jn last (m.drop j) = jl m) (hs : short last (lo m[j])) : JInv m (j + 1) (A ++ [last] ++ [m[j]]) := by
  refine Or.inr ⟨A ++ [last], m[j], rfl, ?_⟩
  rw [← h, List.drop_eq_getElem_cons hj, jn, if_pos hs]
  simp

theorem jinv_grow {m : List Sp} {j : Nat} {A : List Sp} {last : Sp} (hj : j < m.length) (h : A ++ jn last (m.drop j) = jl m) (hs : ¬ short last (lo m[j])) : JInv m (j + 1) (A ++ [grow1 last m[j]]) := by
  refine Or.inr ⟨A, _, rfl, ?_⟩
  rw [← h, List.drop_eq_getElem_cons hj, jn, if_neg hs]

theorem jinv_end {m o : List Sp} (h : JInv m m.length o) : o = jl m := by
  rcases h with ⟨h1, h2⟩ | ⟨A, last, h1, h2⟩
  · rw [h2, List.eq_nil_of_length_eq_zero h1]
    rfl
  · rw [List.drop_length] at h2
    rw [h1, ← h2]
    rfl

theorem row_last {w : World} {ao : Option Addr} {cap : Nat} {A : List Sp} {last : Sp} (h : SpRow w ao cap (A ++ [last])) : ∃ g, ao = some ⟨g, 0, none⟩ ∧ w.cell? ⟨g, A.length * 2, none⟩ = some (.string last.1) ∧ w.cell? ⟨g, A.length * 2 + 1, none⟩ = some (.string last.2) ∧ w.frozen? ⟨g, A.length * 2 + 1, none⟩ = false := by
  rcases h.form with ⟨_, e, _⟩ | ⟨g, cur, rfl, hg, hc⟩
  · simp at e
  · have := hc A.length (by simp)
    rw [List.getElem_concat_length rfl] at this
    exact ⟨g, rfl, (cell_of_row w g _ _ _ _ hg).trans this.1, (cell_of_row w g _ _ _ _ hg).trans this.2, frozen_of_row w g _ _ _ hg⟩

end Go.Proofs.Ytmaepknceihepaa

/- Spans: the document's Join, walked. -/
namespace Go.Proofs.Ytmaepknceihepaa
open Go.RowKit Go.IntWalk
set_option linter.unusedSimpArgs false
set_option linter.unusedVariables false
set_option maxRecDepth 100000

/-- What the document's sorting tells. -/
def ZSorted (ao : Option Addr) (cap : Nat) (l : List Sp) (w : World) : Prop :=
  Calls Try.prog 17 #[.slice ao l.length cap] w fun e w' => ∃ ao' cap' m, e = .returned (.slice ao' m.length cap') ∧ Sorted l m ∧ m.length ≤ l.length ∧ SpRow w' ao' cap' m ∧ Fr (fun _ => False) w w' ∧ ∀ q, blk ao' q → w.heap.size ≤ q

set_option maxRecDepth 100000 in
set_option maxHeartbeats 8000000 in
theorem zjoin_of (ao : Option Addr) (cap : Nat) (l : List Sp) (w : World) (hZ : ZSorted ao cap l w) (hl : l.length ≤ 1000000) :
    Calls Try.prog 8 #[.slice ao l.length cap] w fun e w' => ∃ ao' cap', e = .returned (.slice ao' (joinC l).length cap') ∧ SpRow w' ao' cap' (joinC l) ∧ Fr (fun _ => False) w w' ∧ ∀ q, blk ao' q → w.heap.size ≤ q := by
  have HZ := hideIt hZ
  clear hZ
  go_enter Try.func8, Try.ntmps8
  go_wp2_with fail
  refine Calls.mono HZ.out ?_
  rintro e w1 ⟨aos, caps, m, rfl, hso, hml, hrows, hF1, hns⟩
  have HJ := hideIt (joinC_of hso)
  have HROWS := hideIt hrows
  have HF1 := hideIt hF1
  have HNS := hideIt hns
  have HLT := hideIt (fun q (hq : blk aos q) => hrows.lt hq)
  clear hso hrows hF1 hns
  go_wp2_with fail
  go_loopw [4, 5] (fun v i wr => ∃ (j : Nat) (aor : Option Addr) (capr : Nat) (o : List Sp), i = .int .i64 j ∧ j ≤ m.length ∧ v = .slice aor o.length capr ∧ o.length ≤ j ∧ Hid (JInv m j o) ∧ SpRow wr aor capr o ∧ Fr (fun _ => False) w1 wr ∧ ∀ q, blk aor q → w1.heap.size ≤ q) (fun _ i _ => m.length - (intOf i).toNat)
  case atStart => exact ⟨0, none, 0, [], rfl, Nat.zero_le _, rfl, Nat.zero_le _, hideIt (Or.inl ⟨rfl, rfl⟩), SpRow.nil _, Fr.refl _ _, fun _ ⟨_, e, _⟩ => by cases e⟩
  case round =>
    obtain ⟨j, aor, capr, o, rfl, hj, rfl, hoj, HI, hrow, hF, hn⟩ := hrel
    have HROW := hideIt hrow
    have HF := hideIt hF
    have HN := hideIt hn
    clear hrow hF hn
    by_cases hlt : j < m.length
    · obtain ⟨b, off, rfl, hbl, c0, c1⟩ := SpsAt.get (Or.inr (HROWS.out.at.fr0 HF.out)) j hlt
      rcases HI.out with ⟨rfl, rfl⟩ | ⟨A, last, rfl, hA⟩
      · have HNEXT := hideIt (jinv_first hlt)
        generalize m[0] = x at *
        have c0' : wr.cell? ⟨b, off, none⟩ = some (.string x.1) := by simpa using c0
        have c1' : wr.cell? ⟨b, off + 1, none⟩ = some (.string x.2) := by simpa using c1
        clear c0 c1
        have HFv := hideIt (Fr.refl (fun _ => False) wr)
        simp only [List.length_nil]
        go_wp2_with fail
        go_quiet (fail)
        have hq : Fr (fun _ => False) wr (wr.drewN nq) := (Fr.refl _ _).drewN _
        replace c0' := hq.cell0 c0'
        replace c1' := hq.cell0 c1'
        replace HFv := hideIt (HFv.out.trans hq (fun _ _ e => e))
        generalize wr.drewN nq = wv at *
        clear hq
        have hF2 : Fr (fun _ => False) wv (wv.alloc (.cells #[.string x.1, .string x.2] 24)) := (Fr.refl _ _).alloc _
        obtain ⟨ao3, c3, w3, hrun, row3, hF3, hao⟩ := spans_append _ aor capr [] [x] ((HROW.out.fr HFv.out (fun _ _ e => e)).fr hF2 (fun _ _ e => e)) (some ⟨wv.heap.size, 0, none⟩) 1 (Or.inr (sps_one x wv)) (by simp)
        simp only [List.length_nil, List.length_singleton, Nat.zero_add, List.nil_append] at hrun row3
        have HR := hideIt hrun
        have hFF := ((HF.out.trans HFv.out (fun _ _ e => e)).trans hF2 (fun _ _ e => e)).trans hF3 (fun i hi e => by have := HN.out i e; omega)
        have hszv := (HF.out.trans HFv.out (fun _ _ e => e)).size
        have HFF := hideIt hFF
        have HROW3 := hideIt row3
        have HN3 := hideIt (show ∀ q, blk ao3 q → w1.heap.size ≤ q by
          rintro q ⟨a, e1, e2⟩
          rcases hao with e | e
          · exact HN.out q (e ▸ ⟨a, e1, e2⟩)
          · rw [e] at e1
            obtain rfl := Option.some.inj e1
            simp at e2
            omega)
        clear hrun row3 hF3 hao hFF hF2
        go_wp2_with (first | (at_builtin; refine wpList_append_run _ rfl (.tmp 41) (.tmp 46) 22 22 rfl _ _ _ _ rfl rfl HR.out ?_))
        go_roundw
        case measure => simp [intOf]; omega
        case rel => exact ⟨1, ao3, c3, [x], by go_num, by omega, rfl, by simp, HNEXT, HROW3.out, HFF.out, HN3.out⟩
      · have HNEXT1 := hideIt (fun h => jinv_more hlt hA h)
        have HNEXT2 := hideIt (fun h => jinv_grow hlt hA h)
        obtain ⟨g, rfl, l0, l1, f1⟩ := row_last HROW.out
        generalize m[j] = x at *
        have HFv := hideIt (Fr.refl (fun _ => False) wr)
        have HLEN := hideIt (show (A ++ [last]).length = A.length + 1 by simp)
        have n1 : ¬ (A.length : Int) < 0 := by omega
        have n2 : (0 : Int) ≤ (A.length : Int) := by omega
        have n3 : (A.length : Int) < (A.length : Int) + 1 := by omega
        rw [HLEN.out] at hoj
        clear hA f1
        rw [HLEN.out]
        by_cases hs : short last (lo x)
        · have h0 : last.2.toList.isEmpty = false := by have := hs.1; simpa [hi] using this
          have h1 : Op.bytesLess last.2.toList x.1.toList = true := by rw [bytesLess_eq]; exact decide_eq_true hs.2
          have HNX := hideIt (HNEXT1.out hs)
          clear hs HNEXT1 HNEXT2
          go_wp2_with fail
          go_quiet (fail)
          have hq : Fr (fun _ => False) wr (wr.drewN nq) := (Fr.refl _ _).drewN _
          replace c0 := hq.cell0 c0
          replace c1 := hq.cell0 c1
          replace l0 := hq.cell0 l0
          replace l1 := hq.cell0 l1
          replace HFv := hideIt (HFv.out.trans hq (fun _ _ e => e))
          generalize wr.drewN nq = wv at *
          clear hq
          have hF2 : Fr (fun _ => False) wv (wv.alloc (.cells #[.string x.1, .string x.2] 24)) := (Fr.refl _ _).alloc _
          obtain ⟨ao3, c3, w3, hrun, row3, hF3, hao⟩ := spans_append _ (some ⟨g, 0, none⟩) capr (A ++ [last]) [x] ((HROW.out.fr HFv.out (fun _ _ e => e)).fr hF2 (fun _ _ e => e)) (some ⟨wv.heap.size, 0, none⟩) 1 (Or.inr (sps_one x wv)) (by rw [HLEN.out]; simp; omega)
          rw [HLEN.out, List.length_singleton] at hrun
          have HR := hideIt hrun
          have hFF := ((HF.out.trans HFv.out (fun _ _ e => e)).trans hF2 (fun _ _ e => e)).trans hF3 (fun i hi e => by have := HN.out i e; omega)
          have hszv := (HF.out.trans HFv.out (fun _ _ e => e)).size
          have HFF := hideIt hFF
          have HROW3 := hideIt row3
          have HN3 := hideIt (show ∀ q, blk ao3 q → w1.heap.size ≤ q by
            rintro q ⟨a, e1, e2⟩
            rcases hao with e | e
            · exact HN.out q (e ▸ ⟨a, e1, e2⟩)
            · rw [e] at e1
              obtain rfl := Option.some.inj e1
              simp at e2
              omega)
          clear hrun row3 hF3 hao hFF hF2
          go_wp2_with (first | (at_builtin; refine wpList_append_run _ rfl (.tmp 41) (.tmp 46) 22 22 rfl _ _ _ _ rfl rfl HR.out ?_))
          go_roundw
          case measure => simp [intOf]; omega
          case rel => exact ⟨j + 1, ao3, c3, A ++ [last] ++ [x], by go_num, by omega, by rw [List.length_append, HLEN.out]; rfl, by rw [List.length_append, HLEN.out, List.length_singleton]; omega, HNX, HROW3.out, HFF.out, HN3.out⟩
        · by_cases hh : hi last = []
          · have h0 : last.2.toList.isEmpty = true := by have := hh; simpa [hi] using this
            have HNX := hideIt (show JInv m (j + 1) (A ++ [last]) by have := HNEXT2.out hs; rwa [grow1, if_neg (fun e => e.1 hh)] at this)
            clear hs hh
            clear HNEXT1 HNEXT2
            have HCS := hideIt (show ∀ w' : World, Fr (fun _ => False) wr w' → w'.cell? ⟨b, off + j * 2, none⟩ = some (.string x.1) ∧ w'.cell? ⟨b, off + j * 2 + 1, none⟩ = some (.string x.2) ∧ w'.cell? ⟨g, A.length * 2, none⟩ = some (.string last.1) ∧ w'.cell? ⟨g, A.length * 2 + 1, none⟩ = some (.string last.2) from fun w' h => ⟨h.cell0 c0, h.cell0 c1, h.cell0 l0, h.cell0 l1⟩)
            go_wp2_with fail
            refine wp_region_held_drew (S := fun w' => w'.cell? ⟨b, off + j * 2, none⟩ = some (.string x.1) ∧ w'.cell? ⟨b, off + j * 2 + 1, none⟩ = some (.string x.2) ∧ w'.cell? ⟨g, A.length * 2, none⟩ = some (.string last.1) ∧ w'.cell? ⟨g, A.length * 2 + 1, none⟩ = some (.string last.2)) (by kernel_rfl) ?_ (fun hHeld => ?_)
            · exact HCS.out _ (HFv.out.drew)
            refine wpAnyH_take (i := 0) (v := ?v9) rfl (by kernel_rfl) (by kernel_rfl) (by kernel_rfl) (fun _ _ _ h => h) (Or.inl ⟨by kernel_rfl, ?hy9⟩) (by assumption) ?rest9
            case hy9 => intro w hSw; (try dsimp only at hSw); go_simp; (try with_reducible rfl)
            try simp only [Act.put, List.getElem_toArray, List.getElem_cons_zero, List.getElem_cons_succ, List.setIfInBounds_toArray, List.set_cons_zero, List.set_cons_succ]
            refine wpAnyH_take (i := 1) (v := ?v10) rfl (by kernel_rfl) (by kernel_rfl) (by kernel_rfl) (fun _ _ _ h => h) (Or.inl ⟨by kernel_rfl, ?hy10⟩) (by assumption) ?rest10
            case hy10 => intro w hSw; (try dsimp only at hSw); go_simp; (try with_reducible rfl)
            try simp only [Act.put, List.getElem_toArray, List.getElem_cons_zero, List.getElem_cons_succ, List.setIfInBounds_toArray, List.set_cons_zero, List.set_cons_succ]
            refine wpAnyH_take (i := 2) (v := ?v11) rfl (by kernel_rfl) (by kernel_rfl) (by kernel_rfl) (fun _ _ _ h => h) (Or.inl ⟨by kernel_rfl, ?hy11⟩) (by assumption) ?rest11
            case hy11 => intro w hSw; (try dsimp only at hSw); go_simp; (try with_reducible rfl)
            try simp only [Act.put, List.getElem_toArray, List.getElem_cons_zero, List.getElem_cons_succ, List.setIfInBounds_toArray, List.set_cons_zero, List.set_cons_succ]
            refine wpAnyH_take (i := 3) (v := ?v12) rfl (by kernel_rfl) (by kernel_rfl) (by kernel_rfl) (fun _ _ _ h => h) (Or.inl ⟨by kernel_rfl, ?hy12⟩) (by assumption) ?rest12
            case hy12 => intro w hSw; (try dsimp only at hSw); go_simp; (try with_reducible rfl)
            try simp only [Act.put, List.getElem_toArray, List.getElem_cons_zero, List.getElem_cons_succ, List.setIfInBounds_toArray, List.set_cons_zero, List.set_cons_succ]
            refine wpAnyH_take (i := 4) (v := ?v13) rfl (by kernel_rfl) (by kernel_rfl) (by kernel_rfl) (fun _ _ _ h => h) (Or.inl ⟨by kernel_rfl, ?hy13⟩) (by assumption) ?rest13
            case hy13 => intro w hSw; (try dsimp only at hSw); go_simp; (try with_reducible rfl)
            try simp only [Act.put, List.getElem_toArray, List.getElem_cons_zero, List.getElem_cons_succ, List.setIfInBounds_toArray, List.set_cons_zero, List.set_cons_succ]
            refine wpAnyH_take (i := 5) (v := ?v14) rfl (by kernel_rfl) (by kernel_rfl) (by kernel_rfl) (fun _ _ _ h => h) (Or.inl ⟨by kernel_rfl, ?hy14⟩) (by assumption) ?rest14
            case hy14 => intro w hSw; (try dsimp only at hSw); go_simp; (try with_reducible rfl)
            try simp only [Act.put, List.getElem_toArray, List.getElem_cons_zero, List.getElem_cons_succ, List.setIfInBounds_toArray, List.set_cons_zero, List.set_cons_succ]
            refine wpAnyH_take (i := 6) (v := ?v15) rfl (by kernel_rfl) (by kernel_rfl) (by kernel_rfl) (fun _ _ _ h => h) (Or.inl ⟨by kernel_rfl, ?hy15⟩) (by assumption) ?rest15
            case hy15 => intro w hSw; (try dsimp only at hSw); go_simp; (try with_reducible rfl)
            try simp only [Act.put, List.getElem_toArray, List.getElem_cons_zero, List.getElem_cons_succ, List.setIfInBounds_toArray, List.set_cons_zero, List.set_cons_succ]
            refine wpAnyH_take (i := 7) (v := ?v16) rfl (by kernel_rfl) (by kernel_rfl) (by kernel_rfl) (fun _ _ _ h => h) (Or.inl ⟨by kernel_rfl, ?hy16⟩) (by assumption) ?rest16
            case hy16 => intro w hSw; (try dsimp only at hSw); go_simp; (try with_reducible rfl)
            try simp only [Act.put, List.getElem_toArray, List.getElem_cons_zero, List.getElem_cons_succ, List.setIfInBounds_toArray, List.set_cons_zero, List.set_cons_succ]
            refine wpAnyH_take (i := 8) (v := ?v17) rfl (by kernel_rfl) (by kernel_rfl) (by kernel_rfl) (fun _ _ _ h => h) (Or.inl ⟨by kernel_rfl, ?hy17⟩) (by assumption) ?rest17
            case hy17 => intro w hSw; (try dsimp only at hSw); go_simp; (try with_reducible rfl)
            try simp only [Act.put, List.getElem_toArray, List.getElem_cons_zero, List.getElem_cons_succ, List.setIfInBounds_toArray, List.set_cons_zero, List.set_cons_succ]
            refine wpAnyH_take (i := 9) (v := ?v18) rfl (by kernel_rfl) (by kernel_rfl) (by kernel_rfl) (fun _ _ _ h => h) (Or.inl ⟨by kernel_rfl, ?hy18⟩) (by assumption) ?rest18
            case hy18 => intro w hSw; (try dsimp only at hSw); go_simp; (try with_reducible rfl)
            try simp only [Act.put, List.getElem_toArray, List.getElem_cons_zero, List.getElem_cons_succ, List.setIfInBounds_toArray, List.set_cons_zero, List.set_cons_succ]
            refine wpAnyH_take (i := 10) (v := undef) rfl (by kernel_rfl) (by kernel_rfl) (by kernel_rfl) (fun _ _ _ h => h) (Or.inr ⟨by kernel_rfl, rfl⟩) (by assumption) ?_
            try simp only [Act.put, List.getElem_toArray, List.getElem_cons_zero, List.getElem_cons_succ, List.setIfInBounds_toArray, List.set_cons_zero, List.set_cons_succ]
            refine wpAnyH_take (i := 11) (v := undef) rfl (by kernel_rfl) (by kernel_rfl) (by kernel_rfl) (fun _ _ _ h => h) (Or.inr ⟨by kernel_rfl, rfl⟩) (by assumption) ?_
            try simp only [Act.put, List.getElem_toArray, List.getElem_cons_zero, List.getElem_cons_succ, List.setIfInBounds_toArray, List.set_cons_zero, List.set_cons_succ]
            refine wpAnyH_take (i := 12) (v := undef) rfl (by kernel_rfl) (by kernel_rfl) (by kernel_rfl) (fun _ _ _ h => h) (Or.inr ⟨by kernel_rfl, rfl⟩) (by assumption) ?_
            try simp only [Act.put, List.getElem_toArray, List.getElem_cons_zero, List.getElem_cons_succ, List.setIfInBounds_toArray, List.set_cons_zero, List.set_cons_succ]
            refine wpAnyH_take (i := 13) (v := undef) rfl (by kernel_rfl) (by kernel_rfl) (by kernel_rfl) (fun _ _ _ h => h) (Or.inr ⟨by kernel_rfl, rfl⟩) (by assumption) ?_
            try simp only [Act.put, List.getElem_toArray, List.getElem_cons_zero, List.getElem_cons_succ, List.setIfInBounds_toArray, List.set_cons_zero, List.set_cons_succ]
            refine wpAnyH_take (i := 14) (v := undef) rfl (by kernel_rfl) (by kernel_rfl) (by kernel_rfl) (fun _ _ _ h => h) (Or.inr ⟨by kernel_rfl, rfl⟩) (by assumption) ?_
            try simp only [Act.put, List.getElem_toArray, List.getElem_cons_zero, List.getElem_cons_succ, List.setIfInBounds_toArray, List.set_cons_zero, List.set_cons_succ]
            refine wpAnyH_take (i := 15) (v := undef) rfl (by kernel_rfl) (by kernel_rfl) (by kernel_rfl) (fun _ _ _ h => h) (Or.inr ⟨by kernel_rfl, rfl⟩) (by assumption) ?_
            try simp only [Act.put, List.getElem_toArray, List.getElem_cons_zero, List.getElem_cons_succ, List.setIfInBounds_toArray, List.set_cons_zero, List.set_cons_succ]
            refine wpAnyH_take (i := 16) (v := undef) rfl (by kernel_rfl) (by kernel_rfl) (by kernel_rfl) (fun _ _ _ h => h) (Or.inr ⟨by kernel_rfl, rfl⟩) (by assumption) ?_
            try simp only [Act.put, List.getElem_toArray, List.getElem_cons_zero, List.getElem_cons_succ, List.setIfInBounds_toArray, List.set_cons_zero, List.set_cons_succ]
            refine wpAnyH_take (i := 17) (v := undef) rfl (by kernel_rfl) (by kernel_rfl) (by kernel_rfl) (fun _ _ _ h => h) (Or.inr ⟨by kernel_rfl, rfl⟩) (by assumption) ?_
            try simp only [Act.put, List.getElem_toArray, List.getElem_cons_zero, List.getElem_cons_succ, List.setIfInBounds_toArray, List.set_cons_zero, List.set_cons_succ]
            refine wpAnyH_take (i := 18) (v := undef) rfl (by kernel_rfl) (by kernel_rfl) (by kernel_rfl) (fun _ _ _ h => h) (Or.inr ⟨by kernel_rfl, rfl⟩) (by assumption) ?_
            try simp only [Act.put, List.getElem_toArray, List.getElem_cons_zero, List.getElem_cons_succ, List.setIfInBounds_toArray, List.set_cons_zero, List.set_cons_succ]
            refine wpAnyH_take (i := 19) (v := undef) rfl (by kernel_rfl) (by kernel_rfl) (by kernel_rfl) (fun _ _ _ h => h) (Or.inr ⟨by kernel_rfl, rfl⟩) (by assumption) ?_
            try simp only [Act.put, List.getElem_toArray, List.getElem_cons_zero, List.getElem_cons_succ, List.setIfInBounds_toArray, List.set_cons_zero, List.set_cons_succ]
            refine wpAnyH_take (i := 20) (v := undef) rfl (by kernel_rfl) (by kernel_rfl) (by kernel_rfl) (fun _ _ _ h => h) (Or.inr ⟨by kernel_rfl, rfl⟩) (by assumption) ?_
            try simp only [Act.put, List.getElem_toArray, List.getElem_cons_zero, List.getElem_cons_succ, List.setIfInBounds_toArray, List.set_cons_zero, List.set_cons_succ]
            refine wpAnyH_take (i := 21) (v := ?v19) rfl (by kernel_rfl) (by kernel_rfl) (by kernel_rfl) (fun _ _ _ h => h) (Or.inl ⟨by kernel_rfl, ?hy19⟩) (by assumption) ?rest19
            case hy19 => intro w hSw; (try dsimp only at hSw); go_simp; (try with_reducible rfl)
            try simp only [Act.put, List.getElem_toArray, List.getElem_cons_zero, List.getElem_cons_succ, List.setIfInBounds_toArray, List.set_cons_zero, List.set_cons_succ]
            refine wpAnyH_take (i := 22) (v := ?v20) rfl (by kernel_rfl) (by kernel_rfl) (by kernel_rfl) (fun _ _ _ h => h) (Or.inl ⟨by kernel_rfl, ?hy20⟩) (by assumption) ?rest20
            case hy20 => intro w hSw; (try dsimp only at hSw); go_simp; (try with_reducible rfl)
            try simp only [Act.put, List.getElem_toArray, List.getElem_cons_zero, List.getElem_cons_succ, List.setIfInBounds_toArray, List.set_cons_zero, List.set_cons_succ]
            refine wpAnyH_done (by kernel_rfl) ?_ _
            have hq : Fr (fun _ => False) wr wr.drew := (Fr.refl _ _).drew
            replace HFv := hideIt (HFv.out.trans hq (fun _ _ e => e))
            clear hHeld c0 c1 l0 l1
            generalize wr.drew = wv at *
            obtain ⟨c0, c1, l0, l1⟩ := HCS.out _ HFv.out
            clear hq
            go_wp2_with fail
            refine wp_region_held_drew (S := fun w' => w'.cell? ⟨b, off + j * 2, none⟩ = some (.string x.1) ∧ w'.cell? ⟨b, off + j * 2 + 1, none⟩ = some (.string x.2) ∧ w'.cell? ⟨g, A.length * 2, none⟩ = some (.string last.1) ∧ w'.cell? ⟨g, A.length * 2 + 1, none⟩ = some (.string last.2)) (by kernel_rfl) ?_ (fun hHeld => ?_)
            · exact HCS.out _ (HFv.out.drew)
            refine wpAnyH_take (i := 0) (v := ?v1) rfl (by kernel_rfl) (by kernel_rfl) (by kernel_rfl) (fun _ _ _ h => h) (Or.inl ⟨by kernel_rfl, ?hy1⟩) (by assumption) ?rest1
            case hy1 => intro w hSw; (try dsimp only at hSw); go_simp; (try with_reducible rfl)
            try simp only [Act.put, List.getElem_toArray, List.getElem_cons_zero, List.getElem_cons_succ, List.setIfInBounds_toArray, List.set_cons_zero, List.set_cons_succ]
            refine wpAnyH_take (i := 1) (v := ?v2) rfl (by kernel_rfl) (by kernel_rfl) (by kernel_rfl) (fun _ _ _ h => h) (Or.inl ⟨by kernel_rfl, ?hy2⟩) (by assumption) ?rest2
            case hy2 => intro w hSw; (try dsimp only at hSw); go_simp; (try with_reducible rfl)
            try simp only [Act.put, List.getElem_toArray, List.getElem_cons_zero, List.getElem_cons_succ, List.setIfInBounds_toArray, List.set_cons_zero, List.set_cons_succ]
            refine wpAnyH_take (i := 2) (v := ?v3) rfl (by kernel_rfl) (by kernel_rfl) (by kernel_rfl) (fun _ _ _ h => h) (Or.inl ⟨by kernel_rfl, ?hy3⟩) (by assumption) ?rest3
            case hy3 => intro w hSw; (try dsimp only at hSw); go_simp; (try with_reducible rfl)
            try simp only [Act.put, List.getElem_toArray, List.getElem_cons_zero, List.getElem_cons_succ, List.setIfInBounds_toArray, List.set_cons_zero, List.set_cons_succ]
            refine wpAnyH_take (i := 3) (v := ?v4) rfl (by kernel_rfl) (by kernel_rfl) (by kernel_rfl) (fun _ _ _ h => h) (Or.inl ⟨by kernel_rfl, ?hy4⟩) (by assumption) ?rest4
            case hy4 => intro w hSw; (try dsimp only at hSw); go_simp; (try with_reducible rfl)
            try simp only [Act.put, List.getElem_toArray, List.getElem_cons_zero, List.getElem_cons_succ, List.setIfInBounds_toArray, List.set_cons_zero, List.set_cons_succ]
            refine wpAnyH_take (i := 4) (v := ?v5) rfl (by kernel_rfl) (by kernel_rfl) (by kernel_rfl) (fun _ _ _ h => h) (Or.inl ⟨by kernel_rfl, ?hy5⟩) (by assumption) ?rest5
            case hy5 => intro w hSw; (try dsimp only at hSw); go_simp; (try with_reducible rfl)
            try simp only [Act.put, List.getElem_toArray, List.getElem_cons_zero, List.getElem_cons_succ, List.setIfInBounds_toArray, List.set_cons_zero, List.set_cons_succ]
            refine wpAnyH_take (i := 5) (v := ?v6) rfl (by kernel_rfl) (by kernel_rfl) (by kernel_rfl) (fun _ _ _ h => h) (Or.inl ⟨by kernel_rfl, ?hy6⟩) (by assumption) ?rest6
            case hy6 => intro w hSw; (try dsimp only at hSw); go_simp; (try with_reducible rfl)
            try simp only [Act.put, List.getElem_toArray, List.getElem_cons_zero, List.getElem_cons_succ, List.setIfInBounds_toArray, List.set_cons_zero, List.set_cons_succ]
            refine wpAnyH_take (i := 6) (v := ?v7) rfl (by kernel_rfl) (by kernel_rfl) (by kernel_rfl) (fun _ _ _ h => h) (Or.inl ⟨by kernel_rfl, ?hy7⟩) (by assumption) ?rest7
            case hy7 => intro w hSw; (try dsimp only at hSw); go_simp; (try with_reducible rfl)
            try simp only [Act.put, List.getElem_toArray, List.getElem_cons_zero, List.getElem_cons_succ, List.setIfInBounds_toArray, List.set_cons_zero, List.set_cons_succ]
            refine wpAnyH_take (i := 7) (v := undef) rfl (by kernel_rfl) (by kernel_rfl) (by kernel_rfl) (fun _ _ _ h => h) (Or.inr ⟨by kernel_rfl, rfl⟩) (by assumption) ?_
            try simp only [Act.put, List.getElem_toArray, List.getElem_cons_zero, List.getElem_cons_succ, List.setIfInBounds_toArray, List.set_cons_zero, List.set_cons_succ]
            refine wpAnyH_take (i := 8) (v := undef) rfl (by kernel_rfl) (by kernel_rfl) (by kernel_rfl) (fun _ _ _ h => h) (Or.inr ⟨by kernel_rfl, rfl⟩) (by assumption) ?_
            try simp only [Act.put, List.getElem_toArray, List.getElem_cons_zero, List.getElem_cons_succ, List.setIfInBounds_toArray, List.set_cons_zero, List.set_cons_succ]
            refine wpAnyH_take (i := 9) (v := undef) rfl (by kernel_rfl) (by kernel_rfl) (by kernel_rfl) (fun _ _ _ h => h) (Or.inr ⟨by kernel_rfl, rfl⟩) (by assumption) ?_
            try simp only [Act.put, List.getElem_toArray, List.getElem_cons_zero, List.getElem_cons_succ, List.setIfInBounds_toArray, List.set_cons_zero, List.set_cons_succ]
            refine wpAnyH_take (i := 10) (v := undef) rfl (by kernel_rfl) (by kernel_rfl) (by kernel_rfl) (fun _ _ _ h => h) (Or.inr ⟨by kernel_rfl, rfl⟩) (by assumption) ?_
            try simp only [Act.put, List.getElem_toArray, List.getElem_cons_zero, List.getElem_cons_succ, List.setIfInBounds_toArray, List.set_cons_zero, List.set_cons_succ]
            refine wpAnyH_take (i := 11) (v := undef) rfl (by kernel_rfl) (by kernel_rfl) (by kernel_rfl) (fun _ _ _ h => h) (Or.inr ⟨by kernel_rfl, rfl⟩) (by assumption) ?_
            try simp only [Act.put, List.getElem_toArray, List.getElem_cons_zero, List.getElem_cons_succ, List.setIfInBounds_toArray, List.set_cons_zero, List.set_cons_succ]
            refine wpAnyH_take (i := 12) (v := undef) rfl (by kernel_rfl) (by kernel_rfl) (by kernel_rfl) (fun _ _ _ h => h) (Or.inr ⟨by kernel_rfl, rfl⟩) (by assumption) ?_
            try simp only [Act.put, List.getElem_toArray, List.getElem_cons_zero, List.getElem_cons_succ, List.setIfInBounds_toArray, List.set_cons_zero, List.set_cons_succ]
            refine wpAnyH_take (i := 13) (v := undef) rfl (by kernel_rfl) (by kernel_rfl) (by kernel_rfl) (fun _ _ _ h => h) (Or.inr ⟨by kernel_rfl, rfl⟩) (by assumption) ?_
            try simp only [Act.put, List.getElem_toArray, List.getElem_cons_zero, List.getElem_cons_succ, List.setIfInBounds_toArray, List.set_cons_zero, List.set_cons_succ]
            refine wpAnyH_take (i := 14) (v := undef) rfl (by kernel_rfl) (by kernel_rfl) (by kernel_rfl) (fun _ _ _ h => h) (Or.inr ⟨by kernel_rfl, rfl⟩) (by assumption) ?_
            try simp only [Act.put, List.getElem_toArray, List.getElem_cons_zero, List.getElem_cons_succ, List.setIfInBounds_toArray, List.set_cons_zero, List.set_cons_succ]
            refine wpAnyH_take (i := 15) (v := undef) rfl (by kernel_rfl) (by kernel_rfl) (by kernel_rfl) (fun _ _ _ h => h) (Or.inr ⟨by kernel_rfl, rfl⟩) (by assumption) ?_
            try simp only [Act.put, List.getElem_toArray, List.getElem_cons_zero, List.getElem_cons_succ, List.setIfInBounds_toArray, List.set_cons_zero, List.set_cons_succ]
            refine wpAnyH_take (i := 16) (v := undef) rfl (by kernel_rfl) (by kernel_rfl) (by kernel_rfl) (fun _ _ _ h => h) (Or.inr ⟨by kernel_rfl, rfl⟩) (by assumption) ?_
            try simp only [Act.put, List.getElem_toArray, List.getElem_cons_zero, List.getElem_cons_succ, List.setIfInBounds_toArray, List.set_cons_zero, List.set_cons_succ]
            refine wpAnyH_take (i := 17) (v := undef) rfl (by kernel_rfl) (by kernel_rfl) (by kernel_rfl) (fun _ _ _ h => h) (Or.inr ⟨by kernel_rfl, rfl⟩) (by assumption) ?_
            try simp only [Act.put, List.getElem_toArray, List.getElem_cons_zero, List.getElem_cons_succ, List.setIfInBounds_toArray, List.set_cons_zero, List.set_cons_succ]
            refine wpAnyH_take (i := 18) (v := undef) rfl (by kernel_rfl) (by kernel_rfl) (by kernel_rfl) (fun _ _ _ h => h) (Or.inr ⟨by kernel_rfl, rfl⟩) (by assumption) ?_
            try simp only [Act.put, List.getElem_toArray, List.getElem_cons_zero, List.getElem_cons_succ, List.setIfInBounds_toArray, List.set_cons_zero, List.set_cons_succ]
            refine wpAnyH_take (i := 19) (v := undef) rfl (by kernel_rfl) (by kernel_rfl) (by kernel_rfl) (fun _ _ _ h => h) (Or.inr ⟨by kernel_rfl, rfl⟩) (by assumption) ?_
            try simp only [Act.put, List.getElem_toArray, List.getElem_cons_zero, List.getElem_cons_succ, List.setIfInBounds_toArray, List.set_cons_zero, List.set_cons_succ]
            refine wpAnyH_take (i := 20) (v := undef) rfl (by kernel_rfl) (by kernel_rfl) (by kernel_rfl) (fun _ _ _ h => h) (Or.inr ⟨by kernel_rfl, rfl⟩) (by assumption) ?_
            try simp only [Act.put, List.getElem_toArray, List.getElem_cons_zero, List.getElem_cons_succ, List.setIfInBounds_toArray, List.set_cons_zero, List.set_cons_succ]
            refine wpAnyH_take (i := 21) (v := undef) rfl (by kernel_rfl) (by kernel_rfl) (by kernel_rfl) (fun _ _ _ h => h) (Or.inr ⟨by kernel_rfl, rfl⟩) (by assumption) ?_
            try simp only [Act.put, List.getElem_toArray, List.getElem_cons_zero, List.getElem_cons_succ, List.setIfInBounds_toArray, List.set_cons_zero, List.set_cons_succ]
            refine wpAnyH_take (i := 22) (v := undef) rfl (by kernel_rfl) (by kernel_rfl) (by kernel_rfl) (fun _ _ _ h => h) (Or.inr ⟨by kernel_rfl, rfl⟩) (by assumption) ?_
            try simp only [Act.put, List.getElem_toArray, List.getElem_cons_zero, List.getElem_cons_succ, List.setIfInBounds_toArray, List.set_cons_zero, List.set_cons_succ]
            refine wpAnyH_take (i := 23) (v := undef) rfl (by kernel_rfl) (by kernel_rfl) (by kernel_rfl) (fun _ _ _ h => h) (Or.inr ⟨by kernel_rfl, rfl⟩) (by assumption) ?_
            try simp only [Act.put, List.getElem_toArray, List.getElem_cons_zero, List.getElem_cons_succ, List.setIfInBounds_toArray, List.set_cons_zero, List.set_cons_succ]
            refine wpAnyH_take (i := 24) (v := undef) rfl (by kernel_rfl) (by kernel_rfl) (by kernel_rfl) (fun _ _ _ h => h) (Or.inr ⟨by kernel_rfl, rfl⟩) (by assumption) ?_
            try simp only [Act.put, List.getElem_toArray, List.getElem_cons_zero, List.getElem_cons_succ, List.setIfInBounds_toArray, List.set_cons_zero, List.set_cons_succ]
            refine wpAnyH_take (i := 25) (v := undef) rfl (by kernel_rfl) (by kernel_rfl) (by kernel_rfl) (fun _ _ _ h => h) (Or.inr ⟨by kernel_rfl, rfl⟩) (by assumption) ?_
            try simp only [Act.put, List.getElem_toArray, List.getElem_cons_zero, List.getElem_cons_succ, List.setIfInBounds_toArray, List.set_cons_zero, List.set_cons_succ]
            refine wpAnyH_take (i := 26) (v := ?v8) rfl (by kernel_rfl) (by kernel_rfl) (by kernel_rfl) (fun _ _ _ h => h) (Or.inl ⟨by kernel_rfl, ?hy8⟩) (by assumption) ?rest8
            case hy8 => intro w hSw; (try dsimp only at hSw); go_simp; (try with_reducible rfl)
            try simp only [Act.put, List.getElem_toArray, List.getElem_cons_zero, List.getElem_cons_succ, List.setIfInBounds_toArray, List.set_cons_zero, List.set_cons_succ]
            refine wpAnyH_done (by kernel_rfl) ?_ _
            have hq : Fr (fun _ => False) wv wv.drew := (Fr.refl _ _).drew
            replace HFv := hideIt (HFv.out.trans hq (fun _ _ e => e))
            clear hHeld c0 c1 l0 l1
            generalize wv.drew = wu at *
            obtain ⟨c0, c1, l0, l1⟩ := HCS.out _ HFv.out
            clear hq
            go_wp2_with fail
            go_roundw
            case measure => simp [intOf]; omega
            case rel => exact ⟨j + 1, some ⟨g, 0, none⟩, capr, A ++ [last], by go_num, by omega, by rw [HLEN.out], by rw [HLEN.out]; omega, HNX, HROW.out.fr HFv.out (fun _ _ e => e), HF.out.trans HFv.out (fun _ _ e => e), HN.out⟩
          · have h0 : last.2.toList.isEmpty = false := by have := hh; simpa [hi] using this
            have h1 : Op.bytesLess last.2.toList x.1.toList = false := by rw [bytesLess_eq]; exact decide_eq_false (fun e => hs ⟨hh, e⟩)
            by_cases hx : hi x = []
            · have h2 : x.2.toList.isEmpty = true := by have := hx; simpa [hi] using this
              have HNX := hideIt (show JInv m (j + 1) (A ++ [(last.1, x.2)]) by have := HNEXT2.out hs; rwa [grow1, if_pos ⟨hh, Or.inl hx⟩] at this)
              clear hs hh hx
              clear HNEXT1 HNEXT2
              have HCS := hideIt (show ∀ w' : World, Fr (fun _ => False) wr w' → w'.cell? ⟨b, off + j * 2, none⟩ = some (.string x.1) ∧ w'.cell? ⟨b, off + j * 2 + 1, none⟩ = some (.string x.2) ∧ w'.cell? ⟨g, A.length * 2, none⟩ = some (.string last.1) ∧ w'.cell? ⟨g, A.length * 2 + 1, none⟩ = some (.string last.2) from fun w' h => ⟨h.cell0 c0, h.cell0 c1, h.cell0 l0, h.cell0 l1⟩)
              go_wp2_with fail
              refine wp_region_held_drew (S := fun w' => w'.cell? ⟨b, off + j * 2, none⟩ = some (.string x.1) ∧ w'.cell? ⟨b, off + j * 2 + 1, none⟩ = some (.string x.2) ∧ w'.cell? ⟨g, A.length * 2, none⟩ = some (.string last.1) ∧ w'.cell? ⟨g, A.length * 2 + 1, none⟩ = some (.string last.2)) (by kernel_rfl) ?_ (fun hHeld => ?_)
              · exact HCS.out _ (HFv.out.drew)
              refine wpAnyH_take (i := 0) (v := ?v37) rfl (by kernel_rfl) (by kernel_rfl) (by kernel_rfl) (fun _ _ _ h => h) (Or.inl ⟨by kernel_rfl, ?hy37⟩) (by assumption) ?rest37
              case hy37 => intro w hSw; (try dsimp only at hSw); go_simp; (try with_reducible rfl)
              try simp only [Act.put, List.getElem_toArray, List.getElem_cons_zero, List.getElem_cons_succ, List.setIfInBounds_toArray, List.set_cons_zero, List.set_cons_succ]
              refine wpAnyH_take (i := 1) (v := ?v38) rfl (by kernel_rfl) (by kernel_rfl) (by kernel_rfl) (fun _ _ _ h => h) (Or.inl ⟨by kernel_rfl, ?hy38⟩) (by assumption) ?rest38
              case hy38 => intro w hSw; (try dsimp only at hSw); go_simp; (try with_reducible rfl)
              try simp only [Act.put, List.getElem_toArray, List.getElem_cons_zero, List.getElem_cons_succ, List.setIfInBounds_toArray, List.set_cons_zero, List.set_cons_succ]
              refine wpAnyH_take (i := 2) (v := ?v39) rfl (by kernel_rfl) (by kernel_rfl) (by kernel_rfl) (fun _ _ _ h => h) (Or.inl ⟨by kernel_rfl, ?hy39⟩) (by assumption) ?rest39
              case hy39 => intro w hSw; (try dsimp only at hSw); go_simp; (try with_reducible rfl)
              try simp only [Act.put, List.getElem_toArray, List.getElem_cons_zero, List.getElem_cons_succ, List.setIfInBounds_toArray, List.set_cons_zero, List.set_cons_succ]
              refine wpAnyH_take (i := 3) (v := ?v40) rfl (by kernel_rfl) (by kernel_rfl) (by kernel_rfl) (fun _ _ _ h => h) (Or.inl ⟨by kernel_rfl, ?hy40⟩) (by assumption) ?rest40
              case hy40 => intro w hSw; (try dsimp only at hSw); go_simp; (try with_reducible rfl)
              try simp only [Act.put, List.getElem_toArray, List.getElem_cons_zero, List.getElem_cons_succ, List.setIfInBounds_toArray, List.set_cons_zero, List.set_cons_succ]
              refine wpAnyH_take (i := 4) (v := ?v41) rfl (by kernel_rfl) (by kernel_rfl) (by kernel_rfl) (fun _ _ _ h => h) (Or.inl ⟨by kernel_rfl, ?hy41⟩) (by assumption) ?rest41
              case hy41 => intro w hSw; (try dsimp only at hSw); go_simp; (try with_reducible rfl)
              try simp only [Act.put, List.getElem_toArray, List.getElem_cons_zero, List.getElem_cons_succ, List.setIfInBounds_toArray, List.set_cons_zero, List.set_cons_succ]
              refine wpAnyH_take (i := 5) (v := ?v42) rfl (by kernel_rfl) (by kernel_rfl) (by kernel_rfl) (fun _ _ _ h => h) (Or.inl ⟨by kernel_rfl, ?hy42⟩) (by assumption) ?rest42
              case hy42 => intro w hSw; (try dsimp only at hSw); go_simp; (try with_reducible rfl)
              try simp only [Act.put, List.getElem_toArray, List.getElem_cons_zero, List.getElem_cons_succ, List.setIfInBounds_toArray, List.set_cons_zero, List.set_cons_succ]
              refine wpAnyH_take (i := 6) (v := ?v43) rfl (by kernel_rfl) (by kernel_rfl) (by kernel_rfl) (fun _ _ _ h => h) (Or.inl ⟨by kernel_rfl, ?hy43⟩) (by assumption) ?rest43
              case hy43 => intro w hSw; (try dsimp only at hSw); go_simp; (try with_reducible rfl)
              try simp only [Act.put, List.getElem_toArray, List.getElem_cons_zero, List.getElem_cons_succ, List.setIfInBounds_toArray, List.set_cons_zero, List.set_cons_succ]
              refine wpAnyH_take (i := 7) (v := ?v44) rfl (by kernel_rfl) (by kernel_rfl) (by kernel_rfl) (fun _ _ _ h => h) (Or.inl ⟨by kernel_rfl, ?hy44⟩) (by assumption) ?rest44
              case hy44 => intro w hSw; (try dsimp only at hSw); go_simp; (try with_reducible rfl)
              try simp only [Act.put, List.getElem_toArray, List.getElem_cons_zero, List.getElem_cons_succ, List.setIfInBounds_toArray, List.set_cons_zero, List.set_cons_succ]
              refine wpAnyH_take (i := 8) (v := ?v45) rfl (by kernel_rfl) (by kernel_rfl) (by kernel_rfl) (fun _ _ _ h => h) (Or.inl ⟨by kernel_rfl, ?hy45⟩) (by assumption) ?rest45
              case hy45 => intro w hSw; (try dsimp only at hSw); go_simp; (try with_reducible rfl)
              try simp only [Act.put, List.getElem_toArray, List.getElem_cons_zero, List.getElem_cons_succ, List.setIfInBounds_toArray, List.set_cons_zero, List.set_cons_succ]
              refine wpAnyH_take (i := 9) (v := ?v46) rfl (by kernel_rfl) (by kernel_rfl) (by kernel_rfl) (fun _ _ _ h => h) (Or.inl ⟨by kernel_rfl, ?hy46⟩) (by assumption) ?rest46
              case hy46 => intro w hSw; (try dsimp only at hSw); go_simp; (try with_reducible rfl)
              try simp only [Act.put, List.getElem_toArray, List.getElem_cons_zero, List.getElem_cons_succ, List.setIfInBounds_toArray, List.set_cons_zero, List.set_cons_succ]
              refine wpAnyH_take (i := 10) (v := ?v47) rfl (by kernel_rfl) (by kernel_rfl) (by kernel_rfl) (fun _ _ _ h => h) (Or.inl ⟨by kernel_rfl, ?hy47⟩) (by assumption) ?rest47
              case hy47 => intro w hSw; (try dsimp only at hSw); go_simp; (try with_reducible rfl)
              try simp only [Act.put, List.getElem_toArray, List.getElem_cons_zero, List.getElem_cons_succ, List.setIfInBounds_toArray, List.set_cons_zero, List.set_cons_succ]
              refine wpAnyH_take (i := 11) (v := ?v48) rfl (by kernel_rfl) (by kernel_rfl) (by kernel_rfl) (fun _ _ _ h => h) (Or.inl ⟨by kernel_rfl, ?hy48⟩) (by assumption) ?rest48
              case hy48 => intro w hSw; (try dsimp only at hSw); go_simp; (try with_reducible rfl)
              try simp only [Act.put, List.getElem_toArray, List.getElem_cons_zero, List.getElem_cons_succ, List.setIfInBounds_toArray, List.set_cons_zero, List.set_cons_succ]
              refine wpAnyH_take (i := 12) (v := ?v49) rfl (by kernel_rfl) (by kernel_rfl) (by kernel_rfl) (fun _ _ _ h => h) (Or.inl ⟨by kernel_rfl, ?hy49⟩) (by assumption) ?rest49
              case hy49 => intro w hSw; (try dsimp only at hSw); go_simp; (try with_reducible rfl)
              try simp only [Act.put, List.getElem_toArray, List.getElem_cons_zero, List.getElem_cons_succ, List.setIfInBounds_toArray, List.set_cons_zero, List.set_cons_succ]
              refine wpAnyH_take (i := 13) (v := ?v50) rfl (by kernel_rfl) (by kernel_rfl) (by kernel_rfl) (fun _ _ _ h => h) (Or.inl ⟨by kernel_rfl, ?hy50⟩) (by assumption) ?rest50
              case hy50 => intro w hSw; (try dsimp only at hSw); go_simp; (try with_reducible rfl)
              try simp only [Act.put, List.getElem_toArray, List.getElem_cons_zero, List.getElem_cons_succ, List.setIfInBounds_toArray, List.set_cons_zero, List.set_cons_succ]
              refine wpAnyH_take (i := 14) (v := ?v51) rfl (by kernel_rfl) (by kernel_rfl) (by kernel_rfl) (fun _ _ _ h => h) (Or.inl ⟨by kernel_rfl, ?hy51⟩) (by assumption) ?rest51
              case hy51 => intro w hSw; (try dsimp only at hSw); go_simp; (try with_reducible rfl)
              try simp only [Act.put, List.getElem_toArray, List.getElem_cons_zero, List.getElem_cons_succ, List.setIfInBounds_toArray, List.set_cons_zero, List.set_cons_succ]
              refine wpAnyH_take (i := 15) (v := ?v52) rfl (by kernel_rfl) (by kernel_rfl) (by kernel_rfl) (fun _ _ _ h => h) (Or.inl ⟨by kernel_rfl, ?hy52⟩) (by assumption) ?rest52
              case hy52 => intro w hSw; (try dsimp only at hSw); go_simp; (try with_reducible rfl)
              try simp only [Act.put, List.getElem_toArray, List.getElem_cons_zero, List.getElem_cons_succ, List.setIfInBounds_toArray, List.set_cons_zero, List.set_cons_succ]
              refine wpAnyH_take (i := 16) (v := ?v53) rfl (by kernel_rfl) (by kernel_rfl) (by kernel_rfl) (fun _ _ _ h => h) (Or.inl ⟨by kernel_rfl, ?hy53⟩) (by assumption) ?rest53
              case hy53 => intro w hSw; (try dsimp only at hSw); go_simp; (try with_reducible rfl)
              try simp only [Act.put, List.getElem_toArray, List.getElem_cons_zero, List.getElem_cons_succ, List.setIfInBounds_toArray, List.set_cons_zero, List.set_cons_succ]
              refine wpAnyH_take (i := 17) (v := ?v54) rfl (by kernel_rfl) (by kernel_rfl) (by kernel_rfl) (fun _ _ _ h => h) (Or.inl ⟨by kernel_rfl, ?hy54⟩) (by assumption) ?rest54
              case hy54 => intro w hSw; (try dsimp only at hSw); go_simp; (try with_reducible rfl)
              try simp only [Act.put, List.getElem_toArray, List.getElem_cons_zero, List.getElem_cons_succ, List.setIfInBounds_toArray, List.set_cons_zero, List.set_cons_succ]
              refine wpAnyH_take (i := 18) (v := ?v55) rfl (by kernel_rfl) (by kernel_rfl) (by kernel_rfl) (fun _ _ _ h => h) (Or.inl ⟨by kernel_rfl, ?hy55⟩) (by assumption) ?rest55
              case hy55 => intro w hSw; (try dsimp only at hSw); go_simp; (try with_reducible rfl)
              try simp only [Act.put, List.getElem_toArray, List.getElem_cons_zero, List.getElem_cons_succ, List.setIfInBounds_toArray, List.set_cons_zero, List.set_cons_succ]
              refine wpAnyH_take (i := 19) (v := ?v56) rfl (by kernel_rfl) (by kernel_rfl) (by kernel_rfl) (fun _ _ _ h => h) (Or.inl ⟨by kernel_rfl, ?hy56⟩) (by assumption) ?rest56
              case hy56 => intro w hSw; (try dsimp only at hSw); go_simp; (try with_reducible rfl)
              try simp only [Act.put, List.getElem_toArray, List.getElem_cons_zero, List.getElem_cons_succ, List.setIfInBounds_toArray, List.set_cons_zero, List.set_cons_succ]
              refine wpAnyH_take (i := 20) (v := ?v57) rfl (by kernel_rfl) (by kernel_rfl) (by kernel_rfl) (fun _ _ _ h => h) (Or.inl ⟨by kernel_rfl, ?hy57⟩) (by assumption) ?rest57
              case hy57 => intro w hSw; (try dsimp only at hSw); go_simp; (try with_reducible rfl)
              try simp only [Act.put, List.getElem_toArray, List.getElem_cons_zero, List.getElem_cons_succ, List.setIfInBounds_toArray, List.set_cons_zero, List.set_cons_succ]
              refine wpAnyH_take (i := 21) (v := ?v58) rfl (by kernel_rfl) (by kernel_rfl) (by kernel_rfl) (fun _ _ _ h => h) (Or.inl ⟨by kernel_rfl, ?hy58⟩) (by assumption) ?rest58
              case hy58 => intro w hSw; (try dsimp only at hSw); go_simp; (try with_reducible rfl)
              try simp only [Act.put, List.getElem_toArray, List.getElem_cons_zero, List.getElem_cons_succ, List.setIfInBounds_toArray, List.set_cons_zero, List.set_cons_succ]
              refine wpAnyH_take (i := 22) (v := ?v59) rfl (by kernel_rfl) (by kernel_rfl) (by kernel_rfl) (fun _ _ _ h => h) (Or.inl ⟨by kernel_rfl, ?hy59⟩) (by assumption) ?rest59
              case hy59 => intro w hSw; (try dsimp only at hSw); go_simp; (try with_reducible rfl)
              try simp only [Act.put, List.getElem_toArray, List.getElem_cons_zero, List.getElem_cons_succ, List.setIfInBounds_toArray, List.set_cons_zero, List.set_cons_succ]
              refine wpAnyH_done (by kernel_rfl) ?_ _
              have hq : Fr (fun _ => False) wr wr.drew := (Fr.refl _ _).drew
              replace HFv := hideIt (HFv.out.trans hq (fun _ _ e => e))
              clear hHeld c0 c1 l0 l1
              generalize wr.drew = wv at *
              obtain ⟨c0, c1, l0, l1⟩ := HCS.out _ HFv.out
              clear hq
              go_wp2_with fail
              refine wp_region_held_drew (S := fun w' => w'.cell? ⟨b, off + j * 2, none⟩ = some (.string x.1) ∧ w'.cell? ⟨b, off + j * 2 + 1, none⟩ = some (.string x.2) ∧ w'.cell? ⟨g, A.length * 2, none⟩ = some (.string last.1) ∧ w'.cell? ⟨g, A.length * 2 + 1, none⟩ = some (.string last.2)) (by kernel_rfl) ?_ (fun hHeld => ?_)
              · exact HCS.out _ (HFv.out.drew)
              refine wpAnyH_take (i := 0) (v := ?v21) rfl (by kernel_rfl) (by kernel_rfl) (by kernel_rfl) (fun _ _ _ h => h) (Or.inl ⟨by kernel_rfl, ?hy21⟩) (by assumption) ?rest21
              case hy21 => intro w hSw; (try dsimp only at hSw); go_simp; (try with_reducible rfl)
              try simp only [Act.put, List.getElem_toArray, List.getElem_cons_zero, List.getElem_cons_succ, List.setIfInBounds_toArray, List.set_cons_zero, List.set_cons_succ]
              refine wpAnyH_take (i := 1) (v := ?v22) rfl (by kernel_rfl) (by kernel_rfl) (by kernel_rfl) (fun _ _ _ h => h) (Or.inl ⟨by kernel_rfl, ?hy22⟩) (by assumption) ?rest22
              case hy22 => intro w hSw; (try dsimp only at hSw); go_simp; (try with_reducible rfl)
              try simp only [Act.put, List.getElem_toArray, List.getElem_cons_zero, List.getElem_cons_succ, List.setIfInBounds_toArray, List.set_cons_zero, List.set_cons_succ]
              refine wpAnyH_take (i := 2) (v := ?v23) rfl (by kernel_rfl) (by kernel_rfl) (by kernel_rfl) (fun _ _ _ h => h) (Or.inl ⟨by kernel_rfl, ?hy23⟩) (by assumption) ?rest23
              case hy23 => intro w hSw; (try dsimp only at hSw); go_simp; (try with_reducible rfl)
              try simp only [Act.put, List.getElem_toArray, List.getElem_cons_zero, List.getElem_cons_succ, List.setIfInBounds_toArray, List.set_cons_zero, List.set_cons_succ]
              refine wpAnyH_take (i := 3) (v := ?v24) rfl (by kernel_rfl) (by kernel_rfl) (by kernel_rfl) (fun _ _ _ h => h) (Or.inl ⟨by kernel_rfl, ?hy24⟩) (by assumption) ?rest24
              case hy24 => intro w hSw; (try dsimp only at hSw); go_simp; (try with_reducible rfl)
              try simp only [Act.put, List.getElem_toArray, List.getElem_cons_zero, List.getElem_cons_succ, List.setIfInBounds_toArray, List.set_cons_zero, List.set_cons_succ]
              refine wpAnyH_take (i := 4) (v := ?v25) rfl (by kernel_rfl) (by kernel_rfl) (by kernel_rfl) (fun _ _ _ h => h) (Or.inl ⟨by kernel_rfl, ?hy25⟩) (by assumption) ?rest25
              case hy25 => intro w hSw; (try dsimp only at hSw); go_simp; (try with_reducible rfl)
              try simp only [Act.put, List.getElem_toArray, List.getElem_cons_zero, List.getElem_cons_succ, List.setIfInBounds_toArray, List.set_cons_zero, List.set_cons_succ]
              refine wpAnyH_take (i := 5) (v := ?v26) rfl (by kernel_rfl) (by kernel_rfl) (by kernel_rfl) (fun _ _ _ h => h) (Or.inl ⟨by kernel_rfl, ?hy26⟩) (by assumption) ?rest26
              case hy26 => intro w hSw; (try dsimp only at hSw); go_simp; (try with_reducible rfl)
              try simp only [Act.put, List.getElem_toArray, List.getElem_cons_zero, List.getElem_cons_succ, List.setIfInBounds_toArray, List.set_cons_zero, List.set_cons_succ]
              refine wpAnyH_take (i := 6) (v := ?v27) rfl (by kernel_rfl) (by kernel_rfl) (by kernel_rfl) (fun _ _ _ h => h) (Or.inl ⟨by kernel_rfl, ?hy27⟩) (by assumption) ?rest27
              case hy27 => intro w hSw; (try dsimp only at hSw); go_simp; (try with_reducible rfl)
              try simp only [Act.put, List.getElem_toArray, List.getElem_cons_zero, List.getElem_cons_succ, List.setIfInBounds_toArray, List.set_cons_zero, List.set_cons_succ]
              refine wpAnyH_take (i := 7) (v := ?v28) rfl (by kernel_rfl) (by kernel_rfl) (by kernel_rfl) (fun _ _ _ h => h) (Or.inl ⟨by kernel_rfl, ?hy28⟩) (by assumption) ?rest28
              case hy28 => intro w hSw; (try dsimp only at hSw); go_simp; (try with_reducible rfl)
              try simp only [Act.put, List.getElem_toArray, List.getElem_cons_zero, List.getElem_cons_succ, List.setIfInBounds_toArray, List.set_cons_zero, List.set_cons_succ]
              refine wpAnyH_take (i := 8) (v := ?v29) rfl (by kernel_rfl) (by kernel_rfl) (by kernel_rfl) (fun _ _ _ h => h) (Or.inl ⟨by kernel_rfl, ?hy29⟩) (by assumption) ?rest29
              case hy29 => intro w hSw; (try dsimp only at hSw); go_simp; (try with_reducible rfl)
              try simp only [Act.put, List.getElem_toArray, List.getElem_cons_zero, List.getElem_cons_succ, List.setIfInBounds_toArray, List.set_cons_zero, List.set_cons_succ]
              refine wpAnyH_take (i := 9) (v := ?v30) rfl (by kernel_rfl) (by kernel_rfl) (by kernel_rfl) (fun _ _ _ h => h) (Or.inl ⟨by kernel_rfl, ?hy30⟩) (by assumption) ?rest30
              case hy30 => intro w hSw; (try dsimp only at hSw); go_simp; (try with_reducible rfl)
              try simp only [Act.put, List.getElem_toArray, List.getElem_cons_zero, List.getElem_cons_succ, List.setIfInBounds_toArray, List.set_cons_zero, List.set_cons_succ]
              refine wpAnyH_take (i := 10) (v := ?v31) rfl (by kernel_rfl) (by kernel_rfl) (by kernel_rfl) (fun _ _ _ h => h) (Or.inl ⟨by kernel_rfl, ?hy31⟩) (by assumption) ?rest31
              case hy31 => intro w hSw; (try dsimp only at hSw); go_simp; (try with_reducible rfl)
              try simp only [Act.put, List.getElem_toArray, List.getElem_cons_zero, List.getElem_cons_succ, List.setIfInBounds_toArray, List.set_cons_zero, List.set_cons_succ]
              refine wpAnyH_take (i := 11) (v := ?v32) rfl (by kernel_rfl) (by kernel_rfl) (by kernel_rfl) (fun _ _ _ h => h) (Or.inl ⟨by kernel_rfl, ?hy32⟩) (by assumption) ?rest32
              case hy32 => intro w hSw; (try dsimp only at hSw); go_simp; (try with_reducible rfl)
              try simp only [Act.put, List.getElem_toArray, List.getElem_cons_zero, List.getElem_cons_succ, List.setIfInBounds_toArray, List.set_cons_zero, List.set_cons_succ]
              refine wpAnyH_take (i := 12) (v := ?v33) rfl (by kernel_rfl) (by kernel_rfl) (by kernel_rfl) (fun _ _ _ h => h) (Or.inl ⟨by kernel_rfl, ?hy33⟩) (by assumption) ?rest33
              case hy33 => intro w hSw; (try dsimp only at hSw); go_simp; (try with_reducible rfl)
              try simp only [Act.put, List.getElem_toArray, List.getElem_cons_zero, List.getElem_cons_succ, List.setIfInBounds_toArray, List.set_cons_zero, List.set_cons_succ]
              refine wpAnyH_take (i := 13) (v := ?v34) rfl (by kernel_rfl) (by kernel_rfl) (by kernel_rfl) (fun _ _ _ h => h) (Or.inl ⟨by kernel_rfl, ?hy34⟩) (by assumption) ?rest34
              case hy34 => intro w hSw; (try dsimp only at hSw); go_simp; (try with_reducible rfl)
              try simp only [Act.put, List.getElem_toArray, List.getElem_cons_zero, List.getElem_cons_succ, List.setIfInBounds_toArray, List.set_cons_zero, List.set_cons_succ]
              refine wpAnyH_take (i := 14) (v := undef) rfl (by kernel_rfl) (by kernel_rfl) (by kernel_rfl) (fun _ _ _ h => h) (Or.inr ⟨by kernel_rfl, rfl⟩) (by assumption) ?_
              try simp only [Act.put, List.getElem_toArray, List.getElem_cons_zero, List.getElem_cons_succ, List.setIfInBounds_toArray, List.set_cons_zero, List.set_cons_succ]
              refine wpAnyH_take (i := 15) (v := undef) rfl (by kernel_rfl) (by kernel_rfl) (by kernel_rfl) (fun _ _ _ h => h) (Or.inr ⟨by kernel_rfl, rfl⟩) (by assumption) ?_
              try simp only [Act.put, List.getElem_toArray, List.getElem_cons_zero, List.getElem_cons_succ, List.setIfInBounds_toArray, List.set_cons_zero, List.set_cons_succ]
              refine wpAnyH_take (i := 16) (v := undef) rfl (by kernel_rfl) (by kernel_rfl) (by kernel_rfl) (fun _ _ _ h => h) (Or.inr ⟨by kernel_rfl, rfl⟩) (by assumption) ?_
              try simp only [Act.put, List.getElem_toArray, List.getElem_cons_zero, List.getElem_cons_succ, List.setIfInBounds_toArray, List.set_cons_zero, List.set_cons_succ]
              refine wpAnyH_take (i := 17) (v := undef) rfl (by kernel_rfl) (by kernel_rfl) (by kernel_rfl) (fun _ _ _ h => h) (Or.inr ⟨by kernel_rfl, rfl⟩) (by assumption) ?_
              try simp only [Act.put, List.getElem_toArray, List.getElem_cons_zero, List.getElem_cons_succ, List.setIfInBounds_toArray, List.set_cons_zero, List.set_cons_succ]
              refine wpAnyH_take (i := 18) (v := undef) rfl (by kernel_rfl) (by kernel_rfl) (by kernel_rfl) (fun _ _ _ h => h) (Or.inr ⟨by kernel_rfl, rfl⟩) (by assumption) ?_
              try simp only [Act.put, List.getElem_toArray, List.getElem_cons_zero, List.getElem_cons_succ, List.setIfInBounds_toArray, List.set_cons_zero, List.set_cons_succ]
              refine wpAnyH_take (i := 19) (v := undef) rfl (by kernel_rfl) (by kernel_rfl) (by kernel_rfl) (fun _ _ _ h => h) (Or.inr ⟨by kernel_rfl, rfl⟩) (by assumption) ?_
              try simp only [Act.put, List.getElem_toArray, List.getElem_cons_zero, List.getElem_cons_succ, List.setIfInBounds_toArray, List.set_cons_zero, List.set_cons_succ]
              refine wpAnyH_take (i := 20) (v := undef) rfl (by kernel_rfl) (by kernel_rfl) (by kernel_rfl) (fun _ _ _ h => h) (Or.inr ⟨by kernel_rfl, rfl⟩) (by assumption) ?_
              try simp only [Act.put, List.getElem_toArray, List.getElem_cons_zero, List.getElem_cons_succ, List.setIfInBounds_toArray, List.set_cons_zero, List.set_cons_succ]
              refine wpAnyH_take (i := 21) (v := undef) rfl (by kernel_rfl) (by kernel_rfl) (by kernel_rfl) (fun _ _ _ h => h) (Or.inr ⟨by kernel_rfl, rfl⟩) (by assumption) ?_
              try simp only [Act.put, List.getElem_toArray, List.getElem_cons_zero, List.getElem_cons_succ, List.setIfInBounds_toArray, List.set_cons_zero, List.set_cons_succ]
              refine wpAnyH_take (i := 22) (v := undef) rfl (by kernel_rfl) (by kernel_rfl) (by kernel_rfl) (fun _ _ _ h => h) (Or.inr ⟨by kernel_rfl, rfl⟩) (by assumption) ?_
              try simp only [Act.put, List.getElem_toArray, List.getElem_cons_zero, List.getElem_cons_succ, List.setIfInBounds_toArray, List.set_cons_zero, List.set_cons_succ]
              refine wpAnyH_take (i := 23) (v := undef) rfl (by kernel_rfl) (by kernel_rfl) (by kernel_rfl) (fun _ _ _ h => h) (Or.inr ⟨by kernel_rfl, rfl⟩) (by assumption) ?_
              try simp only [Act.put, List.getElem_toArray, List.getElem_cons_zero, List.getElem_cons_succ, List.setIfInBounds_toArray, List.set_cons_zero, List.set_cons_succ]
              refine wpAnyH_take (i := 24) (v := undef) rfl (by kernel_rfl) (by kernel_rfl) (by kernel_rfl) (fun _ _ _ h => h) (Or.inr ⟨by kernel_rfl, rfl⟩) (by assumption) ?_
              try simp only [Act.put, List.getElem_toArray, List.getElem_cons_zero, List.getElem_cons_succ, List.setIfInBounds_toArray, List.set_cons_zero, List.set_cons_succ]
              refine wpAnyH_take (i := 25) (v := ?v35) rfl (by kernel_rfl) (by kernel_rfl) (by kernel_rfl) (fun _ _ _ h => h) (Or.inl ⟨by kernel_rfl, ?hy35⟩) (by assumption) ?rest35
              case hy35 => intro w hSw; (try dsimp only at hSw); go_simp; (try with_reducible rfl)
              try simp only [Act.put, List.getElem_toArray, List.getElem_cons_zero, List.getElem_cons_succ, List.setIfInBounds_toArray, List.set_cons_zero, List.set_cons_succ]
              refine wpAnyH_take (i := 26) (v := ?v36) rfl (by kernel_rfl) (by kernel_rfl) (by kernel_rfl) (fun _ _ _ h => h) (Or.inl ⟨by kernel_rfl, ?hy36⟩) (by assumption) ?rest36
              case hy36 => intro w hSw; (try dsimp only at hSw); go_simp; (try with_reducible rfl)
              try simp only [Act.put, List.getElem_toArray, List.getElem_cons_zero, List.getElem_cons_succ, List.setIfInBounds_toArray, List.set_cons_zero, List.set_cons_succ]
              refine wpAnyH_done (by kernel_rfl) ?_ _
              have hq : Fr (fun _ => False) wv wv.drew := (Fr.refl _ _).drew
              replace HFv := hideIt (HFv.out.trans hq (fun _ _ e => e))
              clear hHeld c0 c1 l0 l1
              generalize wv.drew = wu at *
              obtain ⟨c0, c1, l0, l1⟩ := HCS.out _ HFv.out
              clear hq
              have hrow4 := HROW.out.fr HFv.out (fun _ _ e => e)
              obtain ⟨g', eg, k0, k1, k2⟩ := row_last hrow4
              obtain ⟨rfl⟩ : g = g' := by simpa using eg
              have HROW4 := hideIt (hrow4.set_hi x.2)
              have HF4 := hideIt (Fr.setCell (HF.out.trans HFv.out (fun _ _ e => e)) (p := ⟨g, A.length * 2 + 1, none⟩) (fun e => by have h1 : w1.heap.size ≤ g := HN.out g ⟨_, rfl, rfl⟩; have h2 : g < w1.heap.size := e; omega) (.string x.2))
              clear hrow4 k0 k1
              go_wp2_with fail
              go_roundw
              case measure => simp [intOf]; omega
              case rel => exact ⟨j + 1, some ⟨g, 0, none⟩, capr, A ++ [(last.1, x.2)], by go_num, by omega, by simp, by simp; omega, HNX, HROW4.out, HF4.out, HN.out⟩
            · have h2 : x.2.toList.isEmpty = false := by have := hx; simpa [hi] using this
              by_cases ho : hi last < hi x
              · have h3 : (Op.bytesLess x.2.toList last.2.toList || x.2.toList == last.2.toList) = false := by rw [le_iff]; exact decide_eq_false (fun e => e ho)
                have HNX := hideIt (show JInv m (j + 1) (A ++ [(last.1, x.2)]) by have := HNEXT2.out hs; rwa [grow1, if_pos ⟨hh, Or.inr ho⟩] at this)
                clear hs hh hx ho
                clear HNEXT1 HNEXT2
                have HCS := hideIt (show ∀ w' : World, Fr (fun _ => False) wr w' → w'.cell? ⟨b, off + j * 2, none⟩ = some (.string x.1) ∧ w'.cell? ⟨b, off + j * 2 + 1, none⟩ = some (.string x.2) ∧ w'.cell? ⟨g, A.length * 2, none⟩ = some (.string last.1) ∧ w'.cell? ⟨g, A.length * 2 + 1, none⟩ = some (.string last.2) from fun w' h => ⟨h.cell0 c0, h.cell0 c1, h.cell0 l0, h.cell0 l1⟩)
                go_wp2_with fail
                refine wp_region_held_drew (S := fun w' => w'.cell? ⟨b, off + j * 2, none⟩ = some (.string x.1) ∧ w'.cell? ⟨b, off + j * 2 + 1, none⟩ = some (.string x.2) ∧ w'.cell? ⟨g, A.length * 2, none⟩ = some (.string last.1) ∧ w'.cell? ⟨g, A.length * 2 + 1, none⟩ = some (.string last.2)) (by kernel_rfl) ?_ (fun hHeld => ?_)
                · exact HCS.out _ (HFv.out.drew)
                refine wpAnyH_take (i := 0) (v := ?v87) rfl (by kernel_rfl) (by kernel_rfl) (by kernel_rfl) (fun _ _ _ h => h) (Or.inl ⟨by kernel_rfl, ?hy87⟩) (by assumption) ?rest87
                case hy87 => intro w hSw; (try dsimp only at hSw); go_simp; (try with_reducible rfl)
                try simp only [Act.put, List.getElem_toArray, List.getElem_cons_zero, List.getElem_cons_succ, List.setIfInBounds_toArray, List.set_cons_zero, List.set_cons_succ]
                refine wpAnyH_take (i := 1) (v := ?v88) rfl (by kernel_rfl) (by kernel_rfl) (by kernel_rfl) (fun _ _ _ h => h) (Or.inl ⟨by kernel_rfl, ?hy88⟩) (by assumption) ?rest88
                case hy88 => intro w hSw; (try dsimp only at hSw); go_simp; (try with_reducible rfl)
                try simp only [Act.put, List.getElem_toArray, List.getElem_cons_zero, List.getElem_cons_succ, List.setIfInBounds_toArray, List.set_cons_zero, List.set_cons_succ]
                refine wpAnyH_take (i := 2) (v := ?v89) rfl (by kernel_rfl) (by kernel_rfl) (by kernel_rfl) (fun _ _ _ h => h) (Or.inl ⟨by kernel_rfl, ?hy89⟩) (by assumption) ?rest89
                case hy89 => intro w hSw; (try dsimp only at hSw); go_simp; (try with_reducible rfl)
                try simp only [Act.put, List.getElem_toArray, List.getElem_cons_zero, List.getElem_cons_succ, List.setIfInBounds_toArray, List.set_cons_zero, List.set_cons_succ]
                refine wpAnyH_take (i := 3) (v := ?v90) rfl (by kernel_rfl) (by kernel_rfl) (by kernel_rfl) (fun _ _ _ h => h) (Or.inl ⟨by kernel_rfl, ?hy90⟩) (by assumption) ?rest90
                case hy90 => intro w hSw; (try dsimp only at hSw); go_simp; (try with_reducible rfl)
                try simp only [Act.put, List.getElem_toArray, List.getElem_cons_zero, List.getElem_cons_succ, List.setIfInBounds_toArray, List.set_cons_zero, List.set_cons_succ]
                refine wpAnyH_take (i := 4) (v := ?v91) rfl (by kernel_rfl) (by kernel_rfl) (by kernel_rfl) (fun _ _ _ h => h) (Or.inl ⟨by kernel_rfl, ?hy91⟩) (by assumption) ?rest91
                case hy91 => intro w hSw; (try dsimp only at hSw); go_simp; (try with_reducible rfl)
                try simp only [Act.put, List.getElem_toArray, List.getElem_cons_zero, List.getElem_cons_succ, List.setIfInBounds_toArray, List.set_cons_zero, List.set_cons_succ]
                refine wpAnyH_take (i := 5) (v := ?v92) rfl (by kernel_rfl) (by kernel_rfl) (by kernel_rfl) (fun _ _ _ h => h) (Or.inl ⟨by kernel_rfl, ?hy92⟩) (by assumption) ?rest92
                case hy92 => intro w hSw; (try dsimp only at hSw); go_simp; (try with_reducible rfl)
                try simp only [Act.put, List.getElem_toArray, List.getElem_cons_zero, List.getElem_cons_succ, List.setIfInBounds_toArray, List.set_cons_zero, List.set_cons_succ]
                refine wpAnyH_take (i := 6) (v := ?v93) rfl (by kernel_rfl) (by kernel_rfl) (by kernel_rfl) (fun _ _ _ h => h) (Or.inl ⟨by kernel_rfl, ?hy93⟩) (by assumption) ?rest93
                case hy93 => intro w hSw; (try dsimp only at hSw); go_simp; (try with_reducible rfl)
                try simp only [Act.put, List.getElem_toArray, List.getElem_cons_zero, List.getElem_cons_succ, List.setIfInBounds_toArray, List.set_cons_zero, List.set_cons_succ]
                refine wpAnyH_take (i := 7) (v := ?v94) rfl (by kernel_rfl) (by kernel_rfl) (by kernel_rfl) (fun _ _ _ h => h) (Or.inl ⟨by kernel_rfl, ?hy94⟩) (by assumption) ?rest94
                case hy94 => intro w hSw; (try dsimp only at hSw); go_simp; (try with_reducible rfl)
                try simp only [Act.put, List.getElem_toArray, List.getElem_cons_zero, List.getElem_cons_succ, List.setIfInBounds_toArray, List.set_cons_zero, List.set_cons_succ]
                refine wpAnyH_take (i := 8) (v := ?v95) rfl (by kernel_rfl) (by kernel_rfl) (by kernel_rfl) (fun _ _ _ h => h) (Or.inl ⟨by kernel_rfl, ?hy95⟩) (by assumption) ?rest95
                case hy95 => intro w hSw; (try dsimp only at hSw); go_simp; (try with_reducible rfl)
                try simp only [Act.put, List.getElem_toArray, List.getElem_cons_zero, List.getElem_cons_succ, List.setIfInBounds_toArray, List.set_cons_zero, List.set_cons_succ]
                refine wpAnyH_take (i := 9) (v := ?v96) rfl (by kernel_rfl) (by kernel_rfl) (by kernel_rfl) (fun _ _ _ h => h) (Or.inl ⟨by kernel_rfl, ?hy96⟩) (by assumption) ?rest96
                case hy96 => intro w hSw; (try dsimp only at hSw); go_simp; (try with_reducible rfl)
                try simp only [Act.put, List.getElem_toArray, List.getElem_cons_zero, List.getElem_cons_succ, List.setIfInBounds_toArray, List.set_cons_zero, List.set_cons_succ]
                refine wpAnyH_take (i := 10) (v := ?v97) rfl (by kernel_rfl) (by kernel_rfl) (by kernel_rfl) (fun _ _ _ h => h) (Or.inl ⟨by kernel_rfl, ?hy97⟩) (by assumption) ?rest97
                case hy97 => intro w hSw; (try dsimp only at hSw); go_simp; (try with_reducible rfl)
                try simp only [Act.put, List.getElem_toArray, List.getElem_cons_zero, List.getElem_cons_succ, List.setIfInBounds_toArray, List.set_cons_zero, List.set_cons_succ]
                refine wpAnyH_take (i := 11) (v := ?v98) rfl (by kernel_rfl) (by kernel_rfl) (by kernel_rfl) (fun _ _ _ h => h) (Or.inl ⟨by kernel_rfl, ?hy98⟩) (by assumption) ?rest98
                case hy98 => intro w hSw; (try dsimp only at hSw); go_simp; (try with_reducible rfl)
                try simp only [Act.put, List.getElem_toArray, List.getElem_cons_zero, List.getElem_cons_succ, List.setIfInBounds_toArray, List.set_cons_zero, List.set_cons_succ]
                refine wpAnyH_take (i := 12) (v := ?v99) rfl (by kernel_rfl) (by kernel_rfl) (by kernel_rfl) (fun _ _ _ h => h) (Or.inl ⟨by kernel_rfl, ?hy99⟩) (by assumption) ?rest99
                case hy99 => intro w hSw; (try dsimp only at hSw); go_simp; (try with_reducible rfl)
                try simp only [Act.put, List.getElem_toArray, List.getElem_cons_zero, List.getElem_cons_succ, List.setIfInBounds_toArray, List.set_cons_zero, List.set_cons_succ]
                refine wpAnyH_take (i := 13) (v := ?v100) rfl (by kernel_rfl) (by kernel_rfl) (by kernel_rfl) (fun _ _ _ h => h) (Or.inl ⟨by kernel_rfl, ?hy100⟩) (by assumption) ?rest100
                case hy100 => intro w hSw; (try dsimp only at hSw); go_simp; (try with_reducible rfl)
                try simp only [Act.put, List.getElem_toArray, List.getElem_cons_zero, List.getElem_cons_succ, List.setIfInBounds_toArray, List.set_cons_zero, List.set_cons_succ]
                refine wpAnyH_take (i := 14) (v := ?v101) rfl (by kernel_rfl) (by kernel_rfl) (by kernel_rfl) (fun _ _ _ h => h) (Or.inl ⟨by kernel_rfl, ?hy101⟩) (by assumption) ?rest101
                case hy101 => intro w hSw; (try dsimp only at hSw); go_simp; (try with_reducible rfl)
                try simp only [Act.put, List.getElem_toArray, List.getElem_cons_zero, List.getElem_cons_succ, List.setIfInBounds_toArray, List.set_cons_zero, List.set_cons_succ]
                refine wpAnyH_take (i := 15) (v := ?v102) rfl (by kernel_rfl) (by kernel_rfl) (by kernel_rfl) (fun _ _ _ h => h) (Or.inl ⟨by kernel_rfl, ?hy102⟩) (by assumption) ?rest102
                case hy102 => intro w hSw; (try dsimp only at hSw); go_simp; (try with_reducible rfl)
                try simp only [Act.put, List.getElem_toArray, List.getElem_cons_zero, List.getElem_cons_succ, List.setIfInBounds_toArray, List.set_cons_zero, List.set_cons_succ]
                refine wpAnyH_take (i := 16) (v := ?v103) rfl (by kernel_rfl) (by kernel_rfl) (by kernel_rfl) (fun _ _ _ h => h) (Or.inl ⟨by kernel_rfl, ?hy103⟩) (by assumption) ?rest103
                case hy103 => intro w hSw; (try dsimp only at hSw); go_simp; (try with_reducible rfl)
                try simp only [Act.put, List.getElem_toArray, List.getElem_cons_zero, List.getElem_cons_succ, List.setIfInBounds_toArray, List.set_cons_zero, List.set_cons_succ]
                refine wpAnyH_take (i := 17) (v := ?v104) rfl (by kernel_rfl) (by kernel_rfl) (by kernel_rfl) (fun _ _ _ h => h) (Or.inl ⟨by kernel_rfl, ?hy104⟩) (by assumption) ?rest104
                case hy104 => intro w hSw; (try dsimp only at hSw); go_simp; (try with_reducible rfl)
                try simp only [Act.put, List.getElem_toArray, List.getElem_cons_zero, List.getElem_cons_succ, List.setIfInBounds_toArray, List.set_cons_zero, List.set_cons_succ]
                refine wpAnyH_take (i := 18) (v := ?v105) rfl (by kernel_rfl) (by kernel_rfl) (by kernel_rfl) (fun _ _ _ h => h) (Or.inl ⟨by kernel_rfl, ?hy105⟩) (by assumption) ?rest105
                case hy105 => intro w hSw; (try dsimp only at hSw); go_simp; (try with_reducible rfl)
                try simp only [Act.put, List.getElem_toArray, List.getElem_cons_zero, List.getElem_cons_succ, List.setIfInBounds_toArray, List.set_cons_zero, List.set_cons_succ]
                refine wpAnyH_take (i := 19) (v := ?v106) rfl (by kernel_rfl) (by kernel_rfl) (by kernel_rfl) (fun _ _ _ h => h) (Or.inl ⟨by kernel_rfl, ?hy106⟩) (by assumption) ?rest106
                case hy106 => intro w hSw; (try dsimp only at hSw); go_simp; (try with_reducible rfl)
                try simp only [Act.put, List.getElem_toArray, List.getElem_cons_zero, List.getElem_cons_succ, List.setIfInBounds_toArray, List.set_cons_zero, List.set_cons_succ]
                refine wpAnyH_take (i := 20) (v := ?v107) rfl (by kernel_rfl) (by kernel_rfl) (by kernel_rfl) (fun _ _ _ h => h) (Or.inl ⟨by kernel_rfl, ?hy107⟩) (by assumption) ?rest107
                case hy107 => intro w hSw; (try dsimp only at hSw); go_simp; (try with_reducible rfl)
                try simp only [Act.put, List.getElem_toArray, List.getElem_cons_zero, List.getElem_cons_succ, List.setIfInBounds_toArray, List.set_cons_zero, List.set_cons_succ]
                refine wpAnyH_take (i := 21) (v := ?v108) rfl (by kernel_rfl) (by kernel_rfl) (by kernel_rfl) (fun _ _ _ h => h) (Or.inl ⟨by kernel_rfl, ?hy108⟩) (by assumption) ?rest108
                case hy108 => intro w hSw; (try dsimp only at hSw); go_simp; (try with_reducible rfl)
                try simp only [Act.put, List.getElem_toArray, List.getElem_cons_zero, List.getElem_cons_succ, List.setIfInBounds_toArray, List.set_cons_zero, List.set_cons_succ]
                refine wpAnyH_take (i := 22) (v := ?v109) rfl (by kernel_rfl) (by kernel_rfl) (by kernel_rfl) (fun _ _ _ h => h) (Or.inl ⟨by kernel_rfl, ?hy109⟩) (by assumption) ?rest109
                case hy109 => intro w hSw; (try dsimp only at hSw); go_simp; (try with_reducible rfl)
                try simp only [Act.put, List.getElem_toArray, List.getElem_cons_zero, List.getElem_cons_succ, List.setIfInBounds_toArray, List.set_cons_zero, List.set_cons_succ]
                refine wpAnyH_done (by kernel_rfl) ?_ _
                have hq : Fr (fun _ => False) wr wr.drew := (Fr.refl _ _).drew
                replace HFv := hideIt (HFv.out.trans hq (fun _ _ e => e))
                clear hHeld c0 c1 l0 l1
                generalize wr.drew = wv at *
                obtain ⟨c0, c1, l0, l1⟩ := HCS.out _ HFv.out
                clear hq
                go_wp2_with fail
                refine wp_region_held_drew (S := fun w' => w'.cell? ⟨b, off + j * 2, none⟩ = some (.string x.1) ∧ w'.cell? ⟨b, off + j * 2 + 1, none⟩ = some (.string x.2) ∧ w'.cell? ⟨g, A.length * 2, none⟩ = some (.string last.1) ∧ w'.cell? ⟨g, A.length * 2 + 1, none⟩ = some (.string last.2)) (by kernel_rfl) ?_ (fun hHeld => ?_)
                · exact HCS.out _ (HFv.out.drew)
                refine wpAnyH_take (i := 0) (v := ?v60) rfl (by kernel_rfl) (by kernel_rfl) (by kernel_rfl) (fun _ _ _ h => h) (Or.inl ⟨by kernel_rfl, ?hy60⟩) (by assumption) ?rest60
                case hy60 => intro w hSw; (try dsimp only at hSw); go_simp; (try with_reducible rfl)
                try simp only [Act.put, List.getElem_toArray, List.getElem_cons_zero, List.getElem_cons_succ, List.setIfInBounds_toArray, List.set_cons_zero, List.set_cons_succ]
                refine wpAnyH_take (i := 1) (v := ?v61) rfl (by kernel_rfl) (by kernel_rfl) (by kernel_rfl) (fun _ _ _ h => h) (Or.inl ⟨by kernel_rfl, ?hy61⟩) (by assumption) ?rest61
                case hy61 => intro w hSw; (try dsimp only at hSw); go_simp; (try with_reducible rfl)
                try simp only [Act.put, List.getElem_toArray, List.getElem_cons_zero, List.getElem_cons_succ, List.setIfInBounds_toArray, List.set_cons_zero, List.set_cons_succ]
                refine wpAnyH_take (i := 2) (v := ?v62) rfl (by kernel_rfl) (by kernel_rfl) (by kernel_rfl) (fun _ _ _ h => h) (Or.inl ⟨by kernel_rfl, ?hy62⟩) (by assumption) ?rest62
                case hy62 => intro w hSw; (try dsimp only at hSw); go_simp; (try with_reducible rfl)
                try simp only [Act.put, List.getElem_toArray, List.getElem_cons_zero, List.getElem_cons_succ, List.setIfInBounds_toArray, List.set_cons_zero, List.set_cons_succ]
                refine wpAnyH_take (i := 3) (v := ?v63) rfl (by kernel_rfl) (by kernel_rfl) (by kernel_rfl) (fun _ _ _ h => h) (Or.inl ⟨by kernel_rfl, ?hy63⟩) (by assumption) ?rest63
                case hy63 => intro w hSw; (try dsimp only at hSw); go_simp; (try with_reducible rfl)
                try simp only [Act.put, List.getElem_toArray, List.getElem_cons_zero, List.getElem_cons_succ, List.setIfInBounds_toArray, List.set_cons_zero, List.set_cons_succ]
                refine wpAnyH_take (i := 4) (v := ?v64) rfl (by kernel_rfl) (by kernel_rfl) (by kernel_rfl) (fun _ _ _ h => h) (Or.inl ⟨by kernel_rfl, ?hy64⟩) (by assumption) ?rest64
                case hy64 => intro w hSw; (try dsimp only at hSw); go_simp; (try with_reducible rfl)
                try simp only [Act.put, List.getElem_toArray, List.getElem_cons_zero, List.getElem_cons_succ, List.setIfInBounds_toArray, List.set_cons_zero, List.set_cons_succ]
                refine wpAnyH_take (i := 5) (v := ?v65) rfl (by kernel_rfl) (by kernel_rfl) (by kernel_rfl) (fun _ _ _ h => h) (Or.inl ⟨by kernel_rfl, ?hy65⟩) (by assumption) ?rest65
                case hy65 => intro w hSw; (try dsimp only at hSw); go_simp; (try with_reducible rfl)
                try simp only [Act.put, List.getElem_toArray, List.getElem_cons_zero, List.getElem_cons_succ, List.setIfInBounds_toArray, List.set_cons_zero, List.set_cons_succ]
                refine wpAnyH_take (i := 6) (v := ?v66) rfl (by kernel_rfl) (by kernel_rfl) (by kernel_rfl) (fun _ _ _ h => h) (Or.inl ⟨by kernel_rfl, ?hy66⟩) (by assumption) ?rest66
                case hy66 => intro w hSw; (try dsimp only at hSw); go_simp; (try with_reducible rfl)
                try simp only [Act.put, List.getElem_toArray, List.getElem_cons_zero, List.getElem_cons_succ, List.setIfInBounds_toArray, List.set_cons_zero, List.set_cons_succ]
                refine wpAnyH_take (i := 7) (v := ?v67) rfl (by kernel_rfl) (by kernel_rfl) (by kernel_rfl) (fun _ _ _ h => h) (Or.inl ⟨by kernel_rfl, ?hy67⟩) (by assumption) ?rest67
                case hy67 => intro w hSw; (try dsimp only at hSw); go_simp; (try with_reducible rfl)
                try simp only [Act.put, List.getElem_toArray, List.getElem_cons_zero, List.getElem_cons_succ, List.setIfInBounds_toArray, List.set_cons_zero, List.set_cons_succ]
                refine wpAnyH_take (i := 8) (v := ?v68) rfl (by kernel_rfl) (by kernel_rfl) (by kernel_rfl) (fun _ _ _ h => h) (Or.inl ⟨by kernel_rfl, ?hy68⟩) (by assumption) ?rest68
                case hy68 => intro w hSw; (try dsimp only at hSw); go_simp; (try with_reducible rfl)
                try simp only [Act.put, List.getElem_toArray, List.getElem_cons_zero, List.getElem_cons_succ, List.setIfInBounds_toArray, List.set_cons_zero, List.set_cons_succ]
                refine wpAnyH_take (i := 9) (v := ?v69) rfl (by kernel_rfl) (by kernel_rfl) (by kernel_rfl) (fun _ _ _ h => h) (Or.inl ⟨by kernel_rfl, ?hy69⟩) (by assumption) ?rest69
                case hy69 => intro w hSw; (try dsimp only at hSw); go_simp; (try with_reducible rfl)
                try simp only [Act.put, List.getElem_toArray, List.getElem_cons_zero, List.getElem_cons_succ, List.setIfInBounds_toArray, List.set_cons_zero, List.set_cons_succ]
                refine wpAnyH_take (i := 10) (v := ?v70) rfl (by kernel_rfl) (by kernel_rfl) (by kernel_rfl) (fun _ _ _ h => h) (Or.inl ⟨by kernel_rfl, ?hy70⟩) (by assumption) ?rest70
                case hy70 => intro w hSw; (try dsimp only at hSw); go_simp; (try with_reducible rfl)
                try simp only [Act.put, List.getElem_toArray, List.getElem_cons_zero, List.getElem_cons_succ, List.setIfInBounds_toArray, List.set_cons_zero, List.set_cons_succ]
                refine wpAnyH_take (i := 11) (v := ?v71) rfl (by kernel_rfl) (by kernel_rfl) (by kernel_rfl) (fun _ _ _ h => h) (Or.inl ⟨by kernel_rfl, ?hy71⟩) (by assumption) ?rest71
                case hy71 => intro w hSw; (try dsimp only at hSw); go_simp; (try with_reducible rfl)
                try simp only [Act.put, List.getElem_toArray, List.getElem_cons_zero, List.getElem_cons_succ, List.setIfInBounds_toArray, List.set_cons_zero, List.set_cons_succ]
                refine wpAnyH_take (i := 12) (v := ?v72) rfl (by kernel_rfl) (by kernel_rfl) (by kernel_rfl) (fun _ _ _ h => h) (Or.inl ⟨by kernel_rfl, ?hy72⟩) (by assumption) ?rest72
                case hy72 => intro w hSw; (try dsimp only at hSw); go_simp; (try with_reducible rfl)
                try simp only [Act.put, List.getElem_toArray, List.getElem_cons_zero, List.getElem_cons_succ, List.setIfInBounds_toArray, List.set_cons_zero, List.set_cons_succ]
                refine wpAnyH_take (i := 13) (v := ?v73) rfl (by kernel_rfl) (by kernel_rfl) (by kernel_rfl) (fun _ _ _ h => h) (Or.inl ⟨by kernel_rfl, ?hy73⟩) (by assumption) ?rest73
                case hy73 => intro w hSw; (try dsimp only at hSw); go_simp; (try with_reducible rfl)
                try simp only [Act.put, List.getElem_toArray, List.getElem_cons_zero, List.getElem_cons_succ, List.setIfInBounds_toArray, List.set_cons_zero, List.set_cons_succ]
                refine wpAnyH_take (i := 14) (v := ?v74) rfl (by kernel_rfl) (by kernel_rfl) (by kernel_rfl) (fun _ _ _ h => h) (Or.inl ⟨by kernel_rfl, ?hy74⟩) (by assumption) ?rest74
                case hy74 => intro w hSw; (try dsimp only at hSw); go_simp; (try with_reducible rfl)
                try simp only [Act.put, List.getElem_toArray, List.getElem_cons_zero, List.getElem_cons_succ, List.setIfInBounds_toArray, List.set_cons_zero, List.set_cons_succ]
                refine wpAnyH_take (i := 15) (v := ?v75) rfl (by kernel_rfl) (by kernel_rfl) (by kernel_rfl) (fun _ _ _ h => h) (Or.inl ⟨by kernel_rfl, ?hy75⟩) (by assumption) ?rest75
                case hy75 => intro w hSw; (try dsimp only at hSw); go_simp; (try with_reducible rfl)
                try simp only [Act.put, List.getElem_toArray, List.getElem_cons_zero, List.getElem_cons_succ, List.setIfInBounds_toArray, List.set_cons_zero, List.set_cons_succ]
                refine wpAnyH_take (i := 16) (v := ?v76) rfl (by kernel_rfl) (by kernel_rfl) (by kernel_rfl) (fun _ _ _ h => h) (Or.inl ⟨by kernel_rfl, ?hy76⟩) (by assumption) ?rest76
                case hy76 => intro w hSw; (try dsimp only at hSw); go_simp; (try with_reducible rfl)
                try simp only [Act.put, List.getElem_toArray, List.getElem_cons_zero, List.getElem_cons_succ, List.setIfInBounds_toArray, List.set_cons_zero, List.set_cons_succ]
                refine wpAnyH_take (i := 17) (v := ?v77) rfl (by kernel_rfl) (by kernel_rfl) (by kernel_rfl) (fun _ _ _ h => h) (Or.inl ⟨by kernel_rfl, ?hy77⟩) (by assumption) ?rest77
                case hy77 => intro w hSw; (try dsimp only at hSw); go_simp; (try with_reducible rfl)
                try simp only [Act.put, List.getElem_toArray, List.getElem_cons_zero, List.getElem_cons_succ, List.setIfInBounds_toArray, List.set_cons_zero, List.set_cons_succ]
                refine wpAnyH_take (i := 18) (v := ?v78) rfl (by kernel_rfl) (by kernel_rfl) (by kernel_rfl) (fun _ _ _ h => h) (Or.inl ⟨by kernel_rfl, ?hy78⟩) (by assumption) ?rest78
                case hy78 => intro w hSw; (try dsimp only at hSw); go_simp; (try with_reducible rfl)
                try simp only [Act.put, List.getElem_toArray, List.getElem_cons_zero, List.getElem_cons_succ, List.setIfInBounds_toArray, List.set_cons_zero, List.set_cons_succ]
                refine wpAnyH_take (i := 19) (v := ?v79) rfl (by kernel_rfl) (by kernel_rfl) (by kernel_rfl) (fun _ _ _ h => h) (Or.inl ⟨by kernel_rfl, ?hy79⟩) (by assumption) ?rest79
                case hy79 => intro w hSw; (try dsimp only at hSw); go_simp; (try with_reducible rfl)
                try simp only [Act.put, List.getElem_toArray, List.getElem_cons_zero, List.getElem_cons_succ, List.setIfInBounds_toArray, List.set_cons_zero, List.set_cons_succ]
                refine wpAnyH_take (i := 20) (v := ?v80) rfl (by kernel_rfl) (by kernel_rfl) (by kernel_rfl) (fun _ _ _ h => h) (Or.inl ⟨by kernel_rfl, ?hy80⟩) (by assumption) ?rest80
                case hy80 => intro w hSw; (try dsimp only at hSw); go_simp; (try with_reducible rfl)
                try simp only [Act.put, List.getElem_toArray, List.getElem_cons_zero, List.getElem_cons_succ, List.setIfInBounds_toArray, List.set_cons_zero, List.set_cons_succ]
                refine wpAnyH_take (i := 21) (v := ?v81) rfl (by kernel_rfl) (by kernel_rfl) (by kernel_rfl) (fun _ _ _ h => h) (Or.inl ⟨by kernel_rfl, ?hy81⟩) (by assumption) ?rest81
                case hy81 => intro w hSw; (try dsimp only at hSw); go_simp; (try with_reducible rfl)
                try simp only [Act.put, List.getElem_toArray, List.getElem_cons_zero, List.getElem_cons_succ, List.setIfInBounds_toArray, List.set_cons_zero, List.set_cons_succ]
                refine wpAnyH_take (i := 22) (v := ?v82) rfl (by kernel_rfl) (by kernel_rfl) (by kernel_rfl) (fun _ _ _ h => h) (Or.inl ⟨by kernel_rfl, ?hy82⟩) (by assumption) ?rest82
                case hy82 => intro w hSw; (try dsimp only at hSw); go_simp; (try with_reducible rfl)
                try simp only [Act.put, List.getElem_toArray, List.getElem_cons_zero, List.getElem_cons_succ, List.setIfInBounds_toArray, List.set_cons_zero, List.set_cons_succ]
                refine wpAnyH_take (i := 23) (v := ?v83) rfl (by kernel_rfl) (by kernel_rfl) (by kernel_rfl) (fun _ _ _ h => h) (Or.inl ⟨by kernel_rfl, ?hy83⟩) (by assumption) ?rest83
                case hy83 => intro w hSw; (try dsimp only at hSw); go_simp; (try with_reducible rfl)
                try simp only [Act.put, List.getElem_toArray, List.getElem_cons_zero, List.getElem_cons_succ, List.setIfInBounds_toArray, List.set_cons_zero, List.set_cons_succ]
                refine wpAnyH_take (i := 24) (v := ?v84) rfl (by kernel_rfl) (by kernel_rfl) (by kernel_rfl) (fun _ _ _ h => h) (Or.inl ⟨by kernel_rfl, ?hy84⟩) (by assumption) ?rest84
                case hy84 => intro w hSw; (try dsimp only at hSw); go_simp; (try with_reducible rfl)
                try simp only [Act.put, List.getElem_toArray, List.getElem_cons_zero, List.getElem_cons_succ, List.setIfInBounds_toArray, List.set_cons_zero, List.set_cons_succ]
                refine wpAnyH_take (i := 25) (v := ?v85) rfl (by kernel_rfl) (by kernel_rfl) (by kernel_rfl) (fun _ _ _ h => h) (Or.inl ⟨by kernel_rfl, ?hy85⟩) (by assumption) ?rest85
                case hy85 => intro w hSw; (try dsimp only at hSw); go_simp; (try with_reducible rfl)
                try simp only [Act.put, List.getElem_toArray, List.getElem_cons_zero, List.getElem_cons_succ, List.setIfInBounds_toArray, List.set_cons_zero, List.set_cons_succ]
                refine wpAnyH_take (i := 26) (v := ?v86) rfl (by kernel_rfl) (by kernel_rfl) (by kernel_rfl) (fun _ _ _ h => h) (Or.inl ⟨by kernel_rfl, ?hy86⟩) (by assumption) ?rest86
                case hy86 => intro w hSw; (try dsimp only at hSw); go_simp; (try with_reducible rfl)
                try simp only [Act.put, List.getElem_toArray, List.getElem_cons_zero, List.getElem_cons_succ, List.setIfInBounds_toArray, List.set_cons_zero, List.set_cons_succ]
                refine wpAnyH_done (by kernel_rfl) ?_ _
                have hq : Fr (fun _ => False) wv wv.drew := (Fr.refl _ _).drew
                replace HFv := hideIt (HFv.out.trans hq (fun _ _ e => e))
                clear hHeld c0 c1 l0 l1
                generalize wv.drew = wu at *
                obtain ⟨c0, c1, l0, l1⟩ := HCS.out _ HFv.out
                clear hq
                have hrow4 := HROW.out.fr HFv.out (fun _ _ e => e)
                obtain ⟨g', eg, k0, k1, k2⟩ := row_last hrow4
                obtain ⟨rfl⟩ : g = g' := by simpa using eg
                have HROW4 := hideIt (hrow4.set_hi x.2)
                have HF4 := hideIt (Fr.setCell (HF.out.trans HFv.out (fun _ _ e => e)) (p := ⟨g, A.length * 2 + 1, none⟩) (fun e => by have h1 : w1.heap.size ≤ g := HN.out g ⟨_, rfl, rfl⟩; have h2 : g < w1.heap.size := e; omega) (.string x.2))
                clear hrow4 k0 k1
                go_wp2_with fail
                go_roundw
                case measure => simp [intOf]; omega
                case rel => exact ⟨j + 1, some ⟨g, 0, none⟩, capr, A ++ [(last.1, x.2)], by go_num, by omega, by simp, by simp; omega, HNX, HROW4.out, HF4.out, HN.out⟩
              · have h3 : (Op.bytesLess x.2.toList last.2.toList || x.2.toList == last.2.toList) = true := by rw [le_iff]; exact decide_eq_true ho
                have HNX := hideIt (show JInv m (j + 1) (A ++ [last]) by have := HNEXT2.out hs; rwa [grow1, if_neg (fun e => e.2.elim hx ho)] at this)
                clear hs hh hx ho
                clear HNEXT1 HNEXT2
                have HCS := hideIt (show ∀ w' : World, Fr (fun _ => False) wr w' → w'.cell? ⟨b, off + j * 2, none⟩ = some (.string x.1) ∧ w'.cell? ⟨b, off + j * 2 + 1, none⟩ = some (.string x.2) ∧ w'.cell? ⟨g, A.length * 2, none⟩ = some (.string last.1) ∧ w'.cell? ⟨g, A.length * 2 + 1, none⟩ = some (.string last.2) from fun w' h => ⟨h.cell0 c0, h.cell0 c1, h.cell0 l0, h.cell0 l1⟩)
                go_wp2_with fail
                refine wp_region_held_drew (S := fun w' => w'.cell? ⟨b, off + j * 2, none⟩ = some (.string x.1) ∧ w'.cell? ⟨b, off + j * 2 + 1, none⟩ = some (.string x.2) ∧ w'.cell? ⟨g, A.length * 2, none⟩ = some (.string last.1) ∧ w'.cell? ⟨g, A.length * 2 + 1, none⟩ = some (.string last.2)) (by kernel_rfl) ?_ (fun hHeld => ?_)
                · exact HCS.out _ (HFv.out.drew)
                refine wpAnyH_take (i := 0) (v := ?v137) rfl (by kernel_rfl) (by kernel_rfl) (by kernel_rfl) (fun _ _ _ h => h) (Or.inl ⟨by kernel_rfl, ?hy137⟩) (by assumption) ?rest137
                case hy137 => intro w hSw; (try dsimp only at hSw); go_simp; (try with_reducible rfl)
                try simp only [Act.put, List.getElem_toArray, List.getElem_cons_zero, List.getElem_cons_succ, List.setIfInBounds_toArray, List.set_cons_zero, List.set_cons_succ]
                refine wpAnyH_take (i := 1) (v := ?v138) rfl (by kernel_rfl) (by kernel_rfl) (by kernel_rfl) (fun _ _ _ h => h) (Or.inl ⟨by kernel_rfl, ?hy138⟩) (by assumption) ?rest138
                case hy138 => intro w hSw; (try dsimp only at hSw); go_simp; (try with_reducible rfl)
                try simp only [Act.put, List.getElem_toArray, List.getElem_cons_zero, List.getElem_cons_succ, List.setIfInBounds_toArray, List.set_cons_zero, List.set_cons_succ]
                refine wpAnyH_take (i := 2) (v := ?v139) rfl (by kernel_rfl) (by kernel_rfl) (by kernel_rfl) (fun _ _ _ h => h) (Or.inl ⟨by kernel_rfl, ?hy139⟩) (by assumption) ?rest139
                case hy139 => intro w hSw; (try dsimp only at hSw); go_simp; (try with_reducible rfl)
                try simp only [Act.put, List.getElem_toArray, List.getElem_cons_zero, List.getElem_cons_succ, List.setIfInBounds_toArray, List.set_cons_zero, List.set_cons_succ]
                refine wpAnyH_take (i := 3) (v := ?v140) rfl (by kernel_rfl) (by kernel_rfl) (by kernel_rfl) (fun _ _ _ h => h) (Or.inl ⟨by kernel_rfl, ?hy140⟩) (by assumption) ?rest140
                case hy140 => intro w hSw; (try dsimp only at hSw); go_simp; (try with_reducible rfl)
                try simp only [Act.put, List.getElem_toArray, List.getElem_cons_zero, List.getElem_cons_succ, List.setIfInBounds_toArray, List.set_cons_zero, List.set_cons_succ]
                refine wpAnyH_take (i := 4) (v := ?v141) rfl (by kernel_rfl) (by kernel_rfl) (by kernel_rfl) (fun _ _ _ h => h) (Or.inl ⟨by kernel_rfl, ?hy141⟩) (by assumption) ?rest141
                case hy141 => intro w hSw; (try dsimp only at hSw); go_simp; (try with_reducible rfl)
                try simp only [Act.put, List.getElem_toArray, List.getElem_cons_zero, List.getElem_cons_succ, List.setIfInBounds_toArray, List.set_cons_zero, List.set_cons_succ]
                refine wpAnyH_take (i := 5) (v := ?v142) rfl (by kernel_rfl) (by kernel_rfl) (by kernel_rfl) (fun _ _ _ h => h) (Or.inl ⟨by kernel_rfl, ?hy142⟩) (by assumption) ?rest142
                case hy142 => intro w hSw; (try dsimp only at hSw); go_simp; (try with_reducible rfl)
                try simp only [Act.put, List.getElem_toArray, List.getElem_cons_zero, List.getElem_cons_succ, List.setIfInBounds_toArray, List.set_cons_zero, List.set_cons_succ]
                refine wpAnyH_take (i := 6) (v := ?v143) rfl (by kernel_rfl) (by kernel_rfl) (by kernel_rfl) (fun _ _ _ h => h) (Or.inl ⟨by kernel_rfl, ?hy143⟩) (by assumption) ?rest143
                case hy143 => intro w hSw; (try dsimp only at hSw); go_simp; (try with_reducible rfl)
                try simp only [Act.put, List.getElem_toArray, List.getElem_cons_zero, List.getElem_cons_succ, List.setIfInBounds_toArray, List.set_cons_zero, List.set_cons_succ]
                refine wpAnyH_take (i := 7) (v := ?v144) rfl (by kernel_rfl) (by kernel_rfl) (by kernel_rfl) (fun _ _ _ h => h) (Or.inl ⟨by kernel_rfl, ?hy144⟩) (by assumption) ?rest144
                case hy144 => intro w hSw; (try dsimp only at hSw); go_simp; (try with_reducible rfl)
                try simp only [Act.put, List.getElem_toArray, List.getElem_cons_zero, List.getElem_cons_succ, List.setIfInBounds_toArray, List.set_cons_zero, List.set_cons_succ]
                refine wpAnyH_take (i := 8) (v := ?v145) rfl (by kernel_rfl) (by kernel_rfl) (by kernel_rfl) (fun _ _ _ h => h) (Or.inl ⟨by kernel_rfl, ?hy145⟩) (by assumption) ?rest145
                case hy145 => intro w hSw; (try dsimp only at hSw); go_simp; (try with_reducible rfl)
                try simp only [Act.put, List.getElem_toArray, List.getElem_cons_zero, List.getElem_cons_succ, List.setIfInBounds_toArray, List.set_cons_zero, List.set_cons_succ]
                refine wpAnyH_take (i := 9) (v := ?v146) rfl (by kernel_rfl) (by kernel_rfl) (by kernel_rfl) (fun _ _ _ h => h) (Or.inl ⟨by kernel_rfl, ?hy146⟩) (by assumption) ?rest146
                case hy146 => intro w hSw; (try dsimp only at hSw); go_simp; (try with_reducible rfl)
                try simp only [Act.put, List.getElem_toArray, List.getElem_cons_zero, List.getElem_cons_succ, List.setIfInBounds_toArray, List.set_cons_zero, List.set_cons_succ]
                refine wpAnyH_take (i := 10) (v := ?v147) rfl (by kernel_rfl) (by kernel_rfl) (by kernel_rfl) (fun _ _ _ h => h) (Or.inl ⟨by kernel_rfl, ?hy147⟩) (by assumption) ?rest147
                case hy147 => intro w hSw; (try dsimp only at hSw); go_simp; (try with_reducible rfl)
                try simp only [Act.put, List.getElem_toArray, List.getElem_cons_zero, List.getElem_cons_succ, List.setIfInBounds_toArray, List.set_cons_zero, List.set_cons_succ]
                refine wpAnyH_take (i := 11) (v := ?v148) rfl (by kernel_rfl) (by kernel_rfl) (by kernel_rfl) (fun _ _ _ h => h) (Or.inl ⟨by kernel_rfl, ?hy148⟩) (by assumption) ?rest148
                case hy148 => intro w hSw; (try dsimp only at hSw); go_simp; (try with_reducible rfl)
                try simp only [Act.put, List.getElem_toArray, List.getElem_cons_zero, List.getElem_cons_succ, List.setIfInBounds_toArray, List.set_cons_zero, List.set_cons_succ]
                refine wpAnyH_take (i := 12) (v := ?v149) rfl (by kernel_rfl) (by kernel_rfl) (by kernel_rfl) (fun _ _ _ h => h) (Or.inl ⟨by kernel_rfl, ?hy149⟩) (by assumption) ?rest149
                case hy149 => intro w hSw; (try dsimp only at hSw); go_simp; (try with_reducible rfl)
                try simp only [Act.put, List.getElem_toArray, List.getElem_cons_zero, List.getElem_cons_succ, List.setIfInBounds_toArray, List.set_cons_zero, List.set_cons_succ]
                refine wpAnyH_take (i := 13) (v := ?v150) rfl (by kernel_rfl) (by kernel_rfl) (by kernel_rfl) (fun _ _ _ h => h) (Or.inl ⟨by kernel_rfl, ?hy150⟩) (by assumption) ?rest150
                case hy150 => intro w hSw; (try dsimp only at hSw); go_simp; (try with_reducible rfl)
                try simp only [Act.put, List.getElem_toArray, List.getElem_cons_zero, List.getElem_cons_succ, List.setIfInBounds_toArray, List.set_cons_zero, List.set_cons_succ]
                refine wpAnyH_take (i := 14) (v := ?v151) rfl (by kernel_rfl) (by kernel_rfl) (by kernel_rfl) (fun _ _ _ h => h) (Or.inl ⟨by kernel_rfl, ?hy151⟩) (by assumption) ?rest151
                case hy151 => intro w hSw; (try dsimp only at hSw); go_simp; (try with_reducible rfl)
                try simp only [Act.put, List.getElem_toArray, List.getElem_cons_zero, List.getElem_cons_succ, List.setIfInBounds_toArray, List.set_cons_zero, List.set_cons_succ]
                refine wpAnyH_take (i := 15) (v := ?v152) rfl (by kernel_rfl) (by kernel_rfl) (by kernel_rfl) (fun _ _ _ h => h) (Or.inl ⟨by kernel_rfl, ?hy152⟩) (by assumption) ?rest152
                case hy152 => intro w hSw; (try dsimp only at hSw); go_simp; (try with_reducible rfl)
                try simp only [Act.put, List.getElem_toArray, List.getElem_cons_zero, List.getElem_cons_succ, List.setIfInBounds_toArray, List.set_cons_zero, List.set_cons_succ]
                refine wpAnyH_take (i := 16) (v := ?v153) rfl (by kernel_rfl) (by kernel_rfl) (by kernel_rfl) (fun _ _ _ h => h) (Or.inl ⟨by kernel_rfl, ?hy153⟩) (by assumption) ?rest153
                case hy153 => intro w hSw; (try dsimp only at hSw); go_simp; (try with_reducible rfl)
                try simp only [Act.put, List.getElem_toArray, List.getElem_cons_zero, List.getElem_cons_succ, List.setIfInBounds_toArray, List.set_cons_zero, List.set_cons_succ]
                refine wpAnyH_take (i := 17) (v := ?v154) rfl (by kernel_rfl) (by kernel_rfl) (by kernel_rfl) (fun _ _ _ h => h) (Or.inl ⟨by kernel_rfl, ?hy154⟩) (by assumption) ?rest154
                case hy154 => intro w hSw; (try dsimp only at hSw); go_simp; (try with_reducible rfl)
                try simp only [Act.put, List.getElem_toArray, List.getElem_cons_zero, List.getElem_cons_succ, List.setIfInBounds_toArray, List.set_cons_zero, List.set_cons_succ]
                refine wpAnyH_take (i := 18) (v := ?v155) rfl (by kernel_rfl) (by kernel_rfl) (by kernel_rfl) (fun _ _ _ h => h) (Or.inl ⟨by kernel_rfl, ?hy155⟩) (by assumption) ?rest155
                case hy155 => intro w hSw; (try dsimp only at hSw); go_simp; (try with_reducible rfl)
                try simp only [Act.put, List.getElem_toArray, List.getElem_cons_zero, List.getElem_cons_succ, List.setIfInBounds_toArray, List.set_cons_zero, List.set_cons_succ]
                refine wpAnyH_take (i := 19) (v := ?v156) rfl (by kernel_rfl) (by kernel_rfl) (by kernel_rfl) (fun _ _ _ h => h) (Or.inl ⟨by kernel_rfl, ?hy156⟩) (by assumption) ?rest156
                case hy156 => intro w hSw; (try dsimp only at hSw); go_simp; (try with_reducible rfl)
                try simp only [Act.put, List.getElem_toArray, List.getElem_cons_zero, List.getElem_cons_succ, List.setIfInBounds_toArray, List.set_cons_zero, List.set_cons_succ]
                refine wpAnyH_take (i := 20) (v := ?v157) rfl (by kernel_rfl) (by kernel_rfl) (by kernel_rfl) (fun _ _ _ h => h) (Or.inl ⟨by kernel_rfl, ?hy157⟩) (by assumption) ?rest157
                case hy157 => intro w hSw; (try dsimp only at hSw); go_simp; (try with_reducible rfl)
                try simp only [Act.put, List.getElem_toArray, List.getElem_cons_zero, List.getElem_cons_succ, List.setIfInBounds_toArray, List.set_cons_zero, List.set_cons_succ]
                refine wpAnyH_take (i := 21) (v := ?v158) rfl (by kernel_rfl) (by kernel_rfl) (by kernel_rfl) (fun _ _ _ h => h) (Or.inl ⟨by kernel_rfl, ?hy158⟩) (by assumption) ?rest158
                case hy158 => intro w hSw; (try dsimp only at hSw); go_simp; (try with_reducible rfl)
                try simp only [Act.put, List.getElem_toArray, List.getElem_cons_zero, List.getElem_cons_succ, List.setIfInBounds_toArray, List.set_cons_zero, List.set_cons_succ]
                refine wpAnyH_take (i := 22) (v := ?v159) rfl (by kernel_rfl) (by kernel_rfl) (by kernel_rfl) (fun _ _ _ h => h) (Or.inl ⟨by kernel_rfl, ?hy159⟩) (by assumption) ?rest159
                case hy159 => intro w hSw; (try dsimp only at hSw); go_simp; (try with_reducible rfl)
                try simp only [Act.put, List.getElem_toArray, List.getElem_cons_zero, List.getElem_cons_succ, List.setIfInBounds_toArray, List.set_cons_zero, List.set_cons_succ]
                refine wpAnyH_done (by kernel_rfl) ?_ _
                have hq : Fr (fun _ => False) wr wr.drew := (Fr.refl _ _).drew
                replace HFv := hideIt (HFv.out.trans hq (fun _ _ e => e))
                clear hHeld c0 c1 l0 l1
                generalize wr.drew = wv at *
                obtain ⟨c0, c1, l0, l1⟩ := HCS.out _ HFv.out
                clear hq
                go_wp2_with fail
                refine wp_region_held_drew (S := fun w' => w'.cell? ⟨b, off + j * 2, none⟩ = some (.string x.1) ∧ w'.cell? ⟨b, off + j * 2 + 1, none⟩ = some (.string x.2) ∧ w'.cell? ⟨g, A.length * 2, none⟩ = some (.string last.1) ∧ w'.cell? ⟨g, A.length * 2 + 1, none⟩ = some (.string last.2)) (by kernel_rfl) ?_ (fun hHeld => ?_)
                · exact HCS.out _ (HFv.out.drew)
                refine wpAnyH_take (i := 0) (v := ?v110) rfl (by kernel_rfl) (by kernel_rfl) (by kernel_rfl) (fun _ _ _ h => h) (Or.inl ⟨by kernel_rfl, ?hy110⟩) (by assumption) ?rest110
                case hy110 => intro w hSw; (try dsimp only at hSw); go_simp; (try with_reducible rfl)
                try simp only [Act.put, List.getElem_toArray, List.getElem_cons_zero, List.getElem_cons_succ, List.setIfInBounds_toArray, List.set_cons_zero, List.set_cons_succ]
                refine wpAnyH_take (i := 1) (v := ?v111) rfl (by kernel_rfl) (by kernel_rfl) (by kernel_rfl) (fun _ _ _ h => h) (Or.inl ⟨by kernel_rfl, ?hy111⟩) (by assumption) ?rest111
                case hy111 => intro w hSw; (try dsimp only at hSw); go_simp; (try with_reducible rfl)
                try simp only [Act.put, List.getElem_toArray, List.getElem_cons_zero, List.getElem_cons_succ, List.setIfInBounds_toArray, List.set_cons_zero, List.set_cons_succ]
                refine wpAnyH_take (i := 2) (v := ?v112) rfl (by kernel_rfl) (by kernel_rfl) (by kernel_rfl) (fun _ _ _ h => h) (Or.inl ⟨by kernel_rfl, ?hy112⟩) (by assumption) ?rest112
                case hy112 => intro w hSw; (try dsimp only at hSw); go_simp; (try with_reducible rfl)
                try simp only [Act.put, List.getElem_toArray, List.getElem_cons_zero, List.getElem_cons_succ, List.setIfInBounds_toArray, List.set_cons_zero, List.set_cons_succ]
                refine wpAnyH_take (i := 3) (v := ?v113) rfl (by kernel_rfl) (by kernel_rfl) (by kernel_rfl) (fun _ _ _ h => h) (Or.inl ⟨by kernel_rfl, ?hy113⟩) (by assumption) ?rest113
                case hy113 => intro w hSw; (try dsimp only at hSw); go_simp; (try with_reducible rfl)
                try simp only [Act.put, List.getElem_toArray, List.getElem_cons_zero, List.getElem_cons_succ, List.setIfInBounds_toArray, List.set_cons_zero, List.set_cons_succ]
                refine wpAnyH_take (i := 4) (v := ?v114) rfl (by kernel_rfl) (by kernel_rfl) (by kernel_rfl) (fun _ _ _ h => h) (Or.inl ⟨by kernel_rfl, ?hy114⟩) (by assumption) ?rest114
                case hy114 => intro w hSw; (try dsimp only at hSw); go_simp; (try with_reducible rfl)
                try simp only [Act.put, List.getElem_toArray, List.getElem_cons_zero, List.getElem_cons_succ, List.setIfInBounds_toArray, List.set_cons_zero, List.set_cons_succ]
                refine wpAnyH_take (i := 5) (v := ?v115) rfl (by kernel_rfl) (by kernel_rfl) (by kernel_rfl) (fun _ _ _ h => h) (Or.inl ⟨by kernel_rfl, ?hy115⟩) (by assumption) ?rest115
                case hy115 => intro w hSw; (try dsimp only at hSw); go_simp; (try with_reducible rfl)
                try simp only [Act.put, List.getElem_toArray, List.getElem_cons_zero, List.getElem_cons_succ, List.setIfInBounds_toArray, List.set_cons_zero, List.set_cons_succ]
                refine wpAnyH_take (i := 6) (v := ?v116) rfl (by kernel_rfl) (by kernel_rfl) (by kernel_rfl) (fun _ _ _ h => h) (Or.inl ⟨by kernel_rfl, ?hy116⟩) (by assumption) ?rest116
                case hy116 => intro w hSw; (try dsimp only at hSw); go_simp; (try with_reducible rfl)
                try simp only [Act.put, List.getElem_toArray, List.getElem_cons_zero, List.getElem_cons_succ, List.setIfInBounds_toArray, List.set_cons_zero, List.set_cons_succ]
                refine wpAnyH_take (i := 7) (v := ?v117) rfl (by kernel_rfl) (by kernel_rfl) (by kernel_rfl) (fun _ _ _ h => h) (Or.inl ⟨by kernel_rfl, ?hy117⟩) (by assumption) ?rest117
                case hy117 => intro w hSw; (try dsimp only at hSw); go_simp; (try with_reducible rfl)
                try simp only [Act.put, List.getElem_toArray, List.getElem_cons_zero, List.getElem_cons_succ, List.setIfInBounds_toArray, List.set_cons_zero, List.set_cons_succ]
                refine wpAnyH_take (i := 8) (v := ?v118) rfl (by kernel_rfl) (by kernel_rfl) (by kernel_rfl) (fun _ _ _ h => h) (Or.inl ⟨by kernel_rfl, ?hy118⟩) (by assumption) ?rest118
                case hy118 => intro w hSw; (try dsimp only at hSw); go_simp; (try with_reducible rfl)
                try simp only [Act.put, List.getElem_toArray, List.getElem_cons_zero, List.getElem_cons_succ, List.setIfInBounds_toArray, List.set_cons_zero, List.set_cons_succ]
                refine wpAnyH_take (i := 9) (v := ?v119) rfl (by kernel_rfl) (by kernel_rfl) (by kernel_rfl) (fun _ _ _ h => h) (Or.inl ⟨by kernel_rfl, ?hy119⟩) (by assumption) ?rest119
                case hy119 => intro w hSw; (try dsimp only at hSw); go_simp; (try with_reducible rfl)
                try simp only [Act.put, List.getElem_toArray, List.getElem_cons_zero, List.getElem_cons_succ, List.setIfInBounds_toArray, List.set_cons_zero, List.set_cons_succ]
                refine wpAnyH_take (i := 10) (v := ?v120) rfl (by kernel_rfl) (by kernel_rfl) (by kernel_rfl) (fun _ _ _ h => h) (Or.inl ⟨by kernel_rfl, ?hy120⟩) (by assumption) ?rest120
                case hy120 => intro w hSw; (try dsimp only at hSw); go_simp; (try with_reducible rfl)
                try simp only [Act.put, List.getElem_toArray, List.getElem_cons_zero, List.getElem_cons_succ, List.setIfInBounds_toArray, List.set_cons_zero, List.set_cons_succ]
                refine wpAnyH_take (i := 11) (v := ?v121) rfl (by kernel_rfl) (by kernel_rfl) (by kernel_rfl) (fun _ _ _ h => h) (Or.inl ⟨by kernel_rfl, ?hy121⟩) (by assumption) ?rest121
                case hy121 => intro w hSw; (try dsimp only at hSw); go_simp; (try with_reducible rfl)
                try simp only [Act.put, List.getElem_toArray, List.getElem_cons_zero, List.getElem_cons_succ, List.setIfInBounds_toArray, List.set_cons_zero, List.set_cons_succ]
                refine wpAnyH_take (i := 12) (v := ?v122) rfl (by kernel_rfl) (by kernel_rfl) (by kernel_rfl) (fun _ _ _ h => h) (Or.inl ⟨by kernel_rfl, ?hy122⟩) (by assumption) ?rest122
                case hy122 => intro w hSw; (try dsimp only at hSw); go_simp; (try with_reducible rfl)
                try simp only [Act.put, List.getElem_toArray, List.getElem_cons_zero, List.getElem_cons_succ, List.setIfInBounds_toArray, List.set_cons_zero, List.set_cons_succ]
                refine wpAnyH_take (i := 13) (v := ?v123) rfl (by kernel_rfl) (by kernel_rfl) (by kernel_rfl) (fun _ _ _ h => h) (Or.inl ⟨by kernel_rfl, ?hy123⟩) (by assumption) ?rest123
                case hy123 => intro w hSw; (try dsimp only at hSw); go_simp; (try with_reducible rfl)
                try simp only [Act.put, List.getElem_toArray, List.getElem_cons_zero, List.getElem_cons_succ, List.setIfInBounds_toArray, List.set_cons_zero, List.set_cons_succ]
                refine wpAnyH_take (i := 14) (v := ?v124) rfl (by kernel_rfl) (by kernel_rfl) (by kernel_rfl) (fun _ _ _ h => h) (Or.inl ⟨by kernel_rfl, ?hy124⟩) (by assumption) ?rest124
                case hy124 => intro w hSw; (try dsimp only at hSw); go_simp; (try with_reducible rfl)
                try simp only [Act.put, List.getElem_toArray, List.getElem_cons_zero, List.getElem_cons_succ, List.setIfInBounds_toArray, List.set_cons_zero, List.set_cons_succ]
                refine wpAnyH_take (i := 15) (v := ?v125) rfl (by kernel_rfl) (by kernel_rfl) (by kernel_rfl) (fun _ _ _ h => h) (Or.inl ⟨by kernel_rfl, ?hy125⟩) (by assumption) ?rest125
                case hy125 => intro w hSw; (try dsimp only at hSw); go_simp; (try with_reducible rfl)
                try simp only [Act.put, List.getElem_toArray, List.getElem_cons_zero, List.getElem_cons_succ, List.setIfInBounds_toArray, List.set_cons_zero, List.set_cons_succ]
                refine wpAnyH_take (i := 16) (v := ?v126) rfl (by kernel_rfl) (by kernel_rfl) (by kernel_rfl) (fun _ _ _ h => h) (Or.inl ⟨by kernel_rfl, ?hy126⟩) (by assumption) ?rest126
                case hy126 => intro w hSw; (try dsimp only at hSw); go_simp; (try with_reducible rfl)
                try simp only [Act.put, List.getElem_toArray, List.getElem_cons_zero, List.getElem_cons_succ, List.setIfInBounds_toArray, List.set_cons_zero, List.set_cons_succ]
                refine wpAnyH_take (i := 17) (v := ?v127) rfl (by kernel_rfl) (by kernel_rfl) (by kernel_rfl) (fun _ _ _ h => h) (Or.inl ⟨by kernel_rfl, ?hy127⟩) (by assumption) ?rest127
                case hy127 => intro w hSw; (try dsimp only at hSw); go_simp; (try with_reducible rfl)
                try simp only [Act.put, List.getElem_toArray, List.getElem_cons_zero, List.getElem_cons_succ, List.setIfInBounds_toArray, List.set_cons_zero, List.set_cons_succ]
                refine wpAnyH_take (i := 18) (v := ?v128) rfl (by kernel_rfl) (by kernel_rfl) (by kernel_rfl) (fun _ _ _ h => h) (Or.inl ⟨by kernel_rfl, ?hy128⟩) (by assumption) ?rest128
                case hy128 => intro w hSw; (try dsimp only at hSw); go_simp; (try with_reducible rfl)
                try simp only [Act.put, List.getElem_toArray, List.getElem_cons_zero, List.getElem_cons_succ, List.setIfInBounds_toArray, List.set_cons_zero, List.set_cons_succ]
                refine wpAnyH_take (i := 19) (v := ?v129) rfl (by kernel_rfl) (by kernel_rfl) (by kernel_rfl) (fun _ _ _ h => h) (Or.inl ⟨by kernel_rfl, ?hy129⟩) (by assumption) ?rest129
                case hy129 => intro w hSw; (try dsimp only at hSw); go_simp; (try with_reducible rfl)
                try simp only [Act.put, List.getElem_toArray, List.getElem_cons_zero, List.getElem_cons_succ, List.setIfInBounds_toArray, List.set_cons_zero, List.set_cons_succ]
                refine wpAnyH_take (i := 20) (v := ?v130) rfl (by kernel_rfl) (by kernel_rfl) (by kernel_rfl) (fun _ _ _ h => h) (Or.inl ⟨by kernel_rfl, ?hy130⟩) (by assumption) ?rest130
                case hy130 => intro w hSw; (try dsimp only at hSw); go_simp; (try with_reducible rfl)
                try simp only [Act.put, List.getElem_toArray, List.getElem_cons_zero, List.getElem_cons_succ, List.setIfInBounds_toArray, List.set_cons_zero, List.set_cons_succ]
                refine wpAnyH_take (i := 21) (v := ?v131) rfl (by kernel_rfl) (by kernel_rfl) (by kernel_rfl) (fun _ _ _ h => h) (Or.inl ⟨by kernel_rfl, ?hy131⟩) (by assumption) ?rest131
                case hy131 => intro w hSw; (try dsimp only at hSw); go_simp; (try with_reducible rfl)
                try simp only [Act.put, List.getElem_toArray, List.getElem_cons_zero, List.getElem_cons_succ, List.setIfInBounds_toArray, List.set_cons_zero, List.set_cons_succ]
                refine wpAnyH_take (i := 22) (v := ?v132) rfl (by kernel_rfl) (by kernel_rfl) (by kernel_rfl) (fun _ _ _ h => h) (Or.inl ⟨by kernel_rfl, ?hy132⟩) (by assumption) ?rest132
                case hy132 => intro w hSw; (try dsimp only at hSw); go_simp; (try with_reducible rfl)
                try simp only [Act.put, List.getElem_toArray, List.getElem_cons_zero, List.getElem_cons_succ, List.setIfInBounds_toArray, List.set_cons_zero, List.set_cons_succ]
                refine wpAnyH_take (i := 23) (v := ?v133) rfl (by kernel_rfl) (by kernel_rfl) (by kernel_rfl) (fun _ _ _ h => h) (Or.inl ⟨by kernel_rfl, ?hy133⟩) (by assumption) ?rest133
                case hy133 => intro w hSw; (try dsimp only at hSw); go_simp; (try with_reducible rfl)
                try simp only [Act.put, List.getElem_toArray, List.getElem_cons_zero, List.getElem_cons_succ, List.setIfInBounds_toArray, List.set_cons_zero, List.set_cons_succ]
                refine wpAnyH_take (i := 24) (v := ?v134) rfl (by kernel_rfl) (by kernel_rfl) (by kernel_rfl) (fun _ _ _ h => h) (Or.inl ⟨by kernel_rfl, ?hy134⟩) (by assumption) ?rest134
                case hy134 => intro w hSw; (try dsimp only at hSw); go_simp; (try with_reducible rfl)
                try simp only [Act.put, List.getElem_toArray, List.getElem_cons_zero, List.getElem_cons_succ, List.setIfInBounds_toArray, List.set_cons_zero, List.set_cons_succ]
                refine wpAnyH_take (i := 25) (v := ?v135) rfl (by kernel_rfl) (by kernel_rfl) (by kernel_rfl) (fun _ _ _ h => h) (Or.inl ⟨by kernel_rfl, ?hy135⟩) (by assumption) ?rest135
                case hy135 => intro w hSw; (try dsimp only at hSw); go_simp; (try with_reducible rfl)
                try simp only [Act.put, List.getElem_toArray, List.getElem_cons_zero, List.getElem_cons_succ, List.setIfInBounds_toArray, List.set_cons_zero, List.set_cons_succ]
                refine wpAnyH_take (i := 26) (v := ?v136) rfl (by kernel_rfl) (by kernel_rfl) (by kernel_rfl) (fun _ _ _ h => h) (Or.inl ⟨by kernel_rfl, ?hy136⟩) (by assumption) ?rest136
                case hy136 => intro w hSw; (try dsimp only at hSw); go_simp; (try with_reducible rfl)
                try simp only [Act.put, List.getElem_toArray, List.getElem_cons_zero, List.getElem_cons_succ, List.setIfInBounds_toArray, List.set_cons_zero, List.set_cons_succ]
                refine wpAnyH_done (by kernel_rfl) ?_ _
                have hq : Fr (fun _ => False) wv wv.drew := (Fr.refl _ _).drew
                replace HFv := hideIt (HFv.out.trans hq (fun _ _ e => e))
                clear hHeld c0 c1 l0 l1
                generalize wv.drew = wu at *
                obtain ⟨c0, c1, l0, l1⟩ := HCS.out _ HFv.out
                clear hq
                go_wp2_with fail
                go_roundw
                case measure => simp [intOf]; omega
                case rel => exact ⟨j + 1, some ⟨g, 0, none⟩, capr, A ++ [last], by go_num, by omega, by rw [HLEN.out], by rw [HLEN.out]; omega, HNX, HROW.out.fr HFv.out (fun _ _ e => e), HF.out.trans HFv.out (fun _ _ e => e), HN.out⟩
    · obtain rfl : j = m.length := by omega
      have HE := hideIt (show o = joinC l by rw [jinv_end HI.out, HJ.out])
      go_wp2_with fail
      go_ret
      rw [← HE.out]
      exact ⟨aor, capr, rfl, HROW.out, HF1.out.trans HF.out (fun _ _ e => e), fun q hq => Nat.le_trans HF1.out.size (HN.out q hq)⟩

end Go.Proofs.Ytmaepknceihepaa
