/- Package hash, the document's: the constants, a block's words, walked. -/
import Derived.Test.YtgnpdnkmhjocjaaDoorSw5
import Derived.BigQuiet
import Derived.Deep.QuietTactic
namespace Go.Proofs.YtgnpdnkmhjocjaaDoor
open Go.RowKit Go.IntWalk
set_option linter.unusedSimpArgs false
set_option linter.unusedVariables false

theorem uv_append (a b : List Nat) : uv (a ++ b) = uv a ++ uv b := by simp [uv]
/-- A slice of words that lies in memory of its own. -/
def RowU (w : World) (e : TypeId) (ao : Option Addr) (cap : Nat) (bs : List Nat) : Prop := w.ownsRow 0 e 1 (.slice ao bs.length cap) bs.length (uv bs)

theorem RowU.keep {w w' : World} {e : TypeId} {ao : Option Addr} {cap : Nat} {bs : List Nat} (h : RowU w e ao cap bs) (hb : ∀ k, k < w.heap.size → blk ao k → w'.heap[k]? = w.heap[k]?) : RowU w' e ao cap bs := by
  refine ⟨h.1, ?_⟩
  rcases h.2 with hn | ⟨g, c, cur, hv, hg, hh, r⟩
  · exact Or.inl hn
  · refine Or.inr ⟨g, c, cur, hv, hg, ?_, r⟩
    have hlt : g < w.heap.size := (Array.getElem?_eq_some_iff.1 hh).1
    rw [hb g hlt ⟨⟨g, 0, none⟩, by simpa using (Value.slice.inj hv).1, rfl⟩]
    exact hh

theorem RowU.form {w : World} {e : TypeId} {ao : Option Addr} {cap : Nat} {bs : List Nat} (h : RowU w e ao cap bs) :
    (ao = none ∧ bs = [] ∧ cap = 0) ∨ ∃ g cur, ao = some ⟨g, 0, none⟩ ∧ w.heap[g]? = some (.cells cur e (0, 0)) ∧ bs.length ≤ cap ∧ cap ≤ maxLen ∧ cur.size = cap ∧ cur.toList.take bs.length = uv bs := by
  rcases h.2 with ⟨hv, hn⟩ | ⟨g, c, cur, hv, _, hh, h1, h2, h3, h4⟩
  · obtain ⟨rfl, _, rfl⟩ := Value.slice.inj hv
    exact Or.inl ⟨rfl, List.eq_nil_of_length_eq_zero hn, rfl⟩
  · obtain ⟨rfl, _, rfl⟩ := Value.slice.inj hv
    exact Or.inr ⟨g, cur, rfl, hh, h1, h2, by simpa using h3, by simpa using h4⟩

theorem RowU.lt {w : World} {e : TypeId} {ao : Option Addr} {cap : Nat} {bs : List Nat} (h : RowU w e ao cap bs) {k : Nat} (hk : blk ao k) : k < w.heap.size := by
  obtain ⟨a, rfl, rfl⟩ := hk
  rcases h.form with ⟨h0, _⟩ | ⟨g, cur, h0, hh, _⟩
  · cases h0
  · obtain rfl := Option.some.inj h0
    exact (Array.getElem?_eq_some_iff.1 hh).1

/-- append onto words, of whatever is appended: the row is the same, or a new one. -/
theorem append_rowU {P : Program} (w : World) (t tx ty e : TypeId) (i : TypeInfo) (z : Value) (ht : P.underlying t = some (.slice e)) (hi : P.info? e = some i) (hz : i.zero = some z) (hsize : i.size = 1) (hby : i.bytes = 4) (hzs : z.cells.size = 1)
    (ao : Option Addr) (cap : Nat) (bs cs : List Nat) (hown : RowU w e ao cap bs) (x : Value) (hs : Src P 1 tx x cs.length (uv cs) w) (hb : bs.length + cs.length ≤ 100000) :
    ∃ ao' cap' w', (Builtin.append_ #[t, tx] ty #[.slice ao bs.length cap, x]).run P w = .ok (.slice ao' (bs.length + cs.length) cap') w' ∧ RowU w' e ao' cap' (bs ++ cs) ∧ Fr (blk ao) w w' ∧ (ao' = ao ∨ ao' = some ⟨w.heap.size, 0, none⟩) ∧ (ao' = some ⟨w.heap.size, 0, none⟩ → Fr (fun _ => False) w w') := by
  have hm : bs.length + cs.length ≤ maxLen := by unfold maxLen; omega
  have hfr : ∀ (cur : Array Value), Fr (blk ao) w (w.drew.alloc (.cells cur e)) := fun cur => (Fr.refl _ _).drew.alloc _
  have grow : cap < bs.length + cs.length → (Builtin.firstCells i.size bs.length (.slice ao bs.length cap)).run P w.drew = .ok (uv bs).toArray w.drew →
      ∃ ao' cap' w', (Builtin.append_ #[t, tx] ty #[.slice ao bs.length cap, x]).run P w = .ok (.slice ao' (bs.length + cs.length) cap') w' ∧ RowU w' e ao' cap' (bs ++ cs) ∧ Fr (blk ao) w w' ∧ (ao' = ao ∨ ao' = some ⟨w.heap.size, 0, none⟩) ∧ (ao' = some ⟨w.heap.size, 0, none⟩ → Fr (fun _ => False) w w') := by
    intro hlt hold
    have hr := run_append_grow_src (P := P) w t tx ty e i z ht hi hz ao bs.length cap (uv bs) hold x cs.length (uv cs) (by rw [hsize]; exact hs) hlt (by unfold maxLen at hm; omega) (growslice_fits hlt (by rw [hby]; omega))
    refine ⟨_, _, _, hr, ?_, hfr _, Or.inr rfl, fun _ => (Fr.refl _ _).drew.alloc _⟩
    have hge := grownCap_ge w (bs.length + cs.length) cap e
    have hcm := grownCap_le_maxLen w (bs.length + cs.length) cap e hm
    refine ⟨by simp [uv_length], Or.inr ⟨w.heap.size, _, _, by simp, Nat.zero_le _, heap_alloc_new w.drew _, by simpa using hge, hcm, ?_, ?_⟩⟩
    · simp only [Array.size_append, List.size_toArray, size_zeroCells, hzs, List.length_append, uv_length, Nat.mul_one]
      omega
    · simp only [Array.toList_append, Nat.mul_one, uv_append]
      rw [show (bs ++ cs).length = (uv bs ++ uv cs).length by simp [uv_length]]
      exact List.take_left
  rcases hown.form with ⟨rfl, rfl, rfl⟩ | ⟨g, cur, rfl, hg, hle, hcm, hcs, htake⟩
  · by_cases hc : cs = []
    · subst hc
      refine ⟨none, 0, w, ?_, hown, Fr.refl _ _, Or.inl rfl, fun e => by cases e⟩
      exact run_append_nothing (P := P) w t tx ty e i ht hi none 0 0 (Nat.le_refl _) x (by rw [hsize]; exact hs)
    · exact grow (by have := List.length_pos_iff.2 hc; simpa using this) (run_firstCells_none w.drew i.size 0 0 0)
  · by_cases hroom : bs.length + cs.length ≤ cap
    · have hst := run_storeCells_at P g (bs.length * i.size) e (uv cs) 0 cur w hg (by rw [hsize, uv_length, hcs]; omega) (uv_one cs)
      simp only [Nat.add_zero] at hst
      have hcells := hs.cells
      rw [← hsize] at hcells
      refine ⟨some ⟨g, 0, none⟩, cap, w.setRow g (cur.toList.take (bs.length * i.size) ++ uv cs ++ cur.toList.drop (bs.length * i.size + (uv cs).length)).toArray, ?_, ?_, ?_, Or.inl rfl, fun e => by have h1 : g = w.heap.size := (by simpa using e); have h2 := (Array.getElem?_eq_some_iff.1 hg).1; omega⟩
      · rcases hs.kind with ⟨e', hk⟩ | hk <;> simp [Builtin.append_, run_underlying ht, run_underlying hk, sizeOf, typeInfo, hi, hs.len, hroom, hcells, Addr.add_lit, hst]
      · refine ⟨by simp [uv_length], Or.inr ⟨g, cap, _, by simp, Nat.zero_le _, setRow_heap w g cur _ e _ hg, by simpa using hroom, hcm, ?_, ?_⟩⟩
        · simp only [List.size_toArray, List.length_append, List.length_take, List.length_drop, Array.length_toList, uv_length, hsize]
          omega
        · simp only [hsize, Nat.mul_one, htake, uv_append]
          rw [show (bs ++ cs).length = (uv bs ++ uv cs).length by simp [uv_length]]
          exact List.take_left
      · exact ⟨rfl, rfl, rfl, by simp, fun k _ hk => setRow_other w g k _ (fun e => hk ⟨⟨g, 0, none⟩, rfl, by simp [e]⟩)⟩
    · refine grow (by omega) (run_firstCells_some w.drew i.size bs.length ⟨g, 0, none⟩ bs.length cap (uv bs) (by rw [hsize, uv_length]; omega) (fun j u hu => ?_))
      have := hown.cells (g := g) rfl j u hu
      simpa using this

theorem RowU.cell {w : World} {e : TypeId} {g : Nat} {cap : Nat} {bs : List Nat} (h : RowU w e (some ⟨g, 0, none⟩) cap bs) (j : Nat) (hj : j < bs.length) : w.cell? ⟨g, j, none⟩ = some (.int .u32 (bs.getD j 0 : Nat)) := by
  have := World.ownsRow.cellAt h j (by simpa using hj)
  rw [this]
  simp [uv, List.getD, hj]
theorem RowU.alloc {w : World} {e : TypeId} {ao : Option Addr} {cap : Nat} {bs : List Nat} (h : RowU w e ao cap bs) (o : Obj) : RowU (w.alloc o) e ao cap bs := h.keep (fun k hk _ => Below.heap_alloc w o k hk)
theorem RowU.fr0 {w w' : World} {e : TypeId} {ao : Option Addr} {cap : Nat} {bs : List Nat} (h : RowU w e ao cap bs) (hF : Fr (fun _ => False) w w') : RowU w' e ao cap bs := h.keep (fun k hk _ => hF.block k hk (fun e => e))
theorem rowU_nil (w : World) (e : TypeId) : RowU w e none 0 [] := ⟨rfl, Or.inl ⟨rfl, rfl⟩⟩
theorem Tryd.infoU32r : (Tryd.prog.info? 44).map (fun i => (i.zero, i.size, i.bytes)) = some (some (.int .u32 0), 1, 4) := by kernel_rfl
/-- One word appended, which lies in the newest block. -/
theorem app_one (w : World) (ao : Option Addr) (cap : Nat) (bs : List Nat) (v : Nat) (hown : RowU w 44 ao cap bs) (hb : bs.length ≤ 1000) :
    ∃ ao' cap' w', (Builtin.append_ #[60, 60] 60 #[.slice ao bs.length cap, .slice (some ⟨w.heap.size, 0, none⟩) 1 1]).run Tryd.prog (w.alloc (.cells #[.int .u32 (v : Int)] 44)) = .ok (.slice ao' (bs.length + 1) cap') w' ∧ RowU w' 44 ao' cap' (bs ++ [v]) ∧ Fr (blk ao) w w' ∧ (ao' = ao ∨ ao' = some ⟨w.heap.size + 1, 0, none⟩) ∧ (ao' = some ⟨w.heap.size + 1, 0, none⟩ → Fr (fun _ => False) w w') := by
  obtain ⟨i0, hi, hz0, hz1, hz2⟩ := info_parts Tryd.infoU32r
  have hsrc : Src Tryd.prog 1 60 (.slice (some ⟨w.heap.size, 0, none⟩) 1 1) [v].length (uv [v]) (w.alloc (.cells #[.int .u32 (v : Int)] 44)) :=
    Src.ofSlice _ Tryd.underlying60 ⟨w.heap.size, 0, none⟩ 1 1 (uv [v]) (by simp [uv]) (fun j u hu => by
      have hj : j < 1 := by have := (List.getElem?_eq_some_iff.1 hu).1; simpa [uv] using this
      obtain rfl : j = 0 := by omega
      have hu2 : u = .int .u32 (v : Int) := by simpa [uv] using hu.symm
      rw [hu2, Addr.add_lit]
      exact cellOfHeap (heap_new rfl) 0 rfl) (uv_one _)
  obtain ⟨a2, c2, w2, hr, hrow, hF, hn, hf0⟩ := append_rowU (w.alloc (.cells #[.int .u32 (v : Int)] 44)) 60 60 60 44 i0 (.int .u32 0) Tryd.underlying60 hi hz0 hz1 hz2 rfl ao cap bs [v] (hown.alloc _) _ hsrc (by simp; omega)
  refine ⟨a2, c2, w2, hr, hrow, ?_, by simpa using hn, fun e => ((Fr.refl _ w).alloc _).trans (hf0 (by simpa using e)) (fun _ _ e => e)⟩
  exact ((Fr.refl (blk ao) w).alloc _).trans hF (fun _ _ e => e)
namespace Sha
/-- A block's first t words. -/
def so (b : List UInt8) (t : Nat) : List Nat := if t ≤ 16 then (words 16 b).take t else grow (t - 16) (words 16 b)
theorem so_zero (b : List UInt8) : so b 0 = [] := by simp [so]
theorem so_len (b : List UInt8) (t : Nat) (h : t ≤ 64) : (so b t).length = t := by
  unfold so
  split
  · rw [List.length_take, words_len]; omega
  · rw [grow_len, words_len]; omega
theorem so_all (b : List UInt8) : so b 64 = sched b := by simp [so, sched]
theorem so_low (b : List UInt8) (t : Nat) (h : t < 16) : so b (t + 1) = so b t ++ [word ((b.drop (4 * t)).take 4)] := by
  unfold so
  rw [if_pos (by omega), if_pos (by omega), List.take_succ_eq_append_getElem (by rw [words_len]; exact h), words_get]
theorem so_high (b : List UInt8) (t : Nat) (h : 16 ≤ t) (h2 : t < 64) : so b (t + 1) = so b t ++ [add (add (add (loQ ((so b t).getD (t - 2) 0)) ((so b t).getD (t - 7) 0)) (loP ((so b t).getD (t - 15) 0))) ((so b t).getD (t - 16) 0)] := by
  have e : so b t = grow (t - 16) (words 16 b) := by
    unfold so
    split
    · obtain rfl : t = 16 := by omega
      rw [List.take_of_length_le (by rw [words_len]; omega)]
      rfl
    · rfl
  have hl := so_len b t (by omega)
  have e2 : so b (t + 1) = grow (t - 16) (words 16 b) ++ [more (grow (t - 16) (words 16 b))] := by
    unfold so
    rw [if_neg (by omega), show t + 1 - 16 = (t - 16) + 1 by omega, grow_succ]
  rw [e2, ← e]
  unfold more
  rw [hl]
theorem so_lt (b : List UInt8) (t : Nat) : ∀ x ∈ so b t, x < 4294967296 := by
  unfold so
  split
  · exact fun x hx => words_lt 16 b x (List.mem_of_mem_take hx)
  · exact grow_lt _ _ (words_lt 16 b)
end Sha
theorem getD_mem' {l : List Nat} {j : Nat} (h : j < l.length) : l.getD j 0 ∈ l := by simp [List.getD, h]

set_option maxRecDepth 100000 in
set_option maxHeartbeats 4000000 in
theorem xconsts_any (w : World) : Calls Tryd.prog 30 #[] w fun e w' => e = .returned (.slice (some ⟨w.heap.size, 0, none⟩) 64 64) ∧ Words w' w.heap.size 44 Sha.K ∧ Fr (fun _ => False) w w' := by
  go_enter Tryd.func30, Tryd.ntmps30
  go_wp2_with fail
  go_ret
  exact ⟨rfl, heap_new rfl, (Fr.refl _ _).alloc _⟩

end Go.Proofs.YtgnpdnkmhjocjaaDoor
