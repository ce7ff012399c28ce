/- Bytes that are told are new memory, all of it bytes; and they are written over. -/
import Derived.Test.YteihmonafdnicaaX3
namespace Go.Proofs.Yteihmonafdnicaa
open Go.RowKit Go.IntWalk
set_option linter.unusedSimpArgs false
set_option linter.unusedVariables false

/-- A slice whose whole room is bytes, of memory of its own. -/
def Full (w : World) (ao : Option Addr) (cap : Nat) (bs : List UInt8) : Prop :=
  (ao = none ∧ bs = [] ∧ cap = 0) ∨ ∃ g zs, ao = some ⟨g, 0, none⟩ ∧ w.heap[g]? = some (.cells (bv (bs ++ zs)).toArray 5 (0, 0)) ∧ cap = (bs ++ zs).length ∧ cap ≤ maxLen

theorem Full.bs {w : World} {ao : Option Addr} {cap : Nat} {bs : List UInt8} (h : Full w ao cap bs) : BsAt w ao bs := by
  rcases h with ⟨rfl, rfl, _⟩ | ⟨g, zs, rfl, hh, _⟩
  · exact Or.inl ⟨rfl, rfl⟩
  · refine Or.inr ⟨g, 0, rfl, fun j hj => ?_⟩
    rw [Nat.zero_add]
    refine cellOfHeap hh j ?_
    simp only [List.getElem?_toArray]
    rw [bv_get _ _ (by simp; omega), List.getElem_append_left hj]
theorem Full.lt {w : World} {ao : Option Addr} {cap : Nat} {bs : List UInt8} (h : Full w ao cap bs) {k : Nat} (hk : blk ao k) : k < w.heap.size := by
  obtain ⟨a, rfl, rfl⟩ := hk
  rcases h with ⟨h0, _⟩ | ⟨g, zs, h0, hh, _⟩
  · cases h0
  · obtain rfl := Option.some.inj h0
    exact (Array.getElem?_eq_some_iff.1 hh).1
theorem Full.fr {S : Nat → Prop} {w w' : World} {ao : Option Addr} {cap : Nat} {bs : List UInt8} (h : Full w ao cap bs) (hF : Fr S w w') (hS : ∀ k, blk ao k → ¬ S k) : Full w' ao cap bs := by
  rcases h with h | ⟨g, zs, rfl, hh, r⟩
  · exact Or.inl h
  · exact Or.inr ⟨g, zs, rfl, (hF.block g (Array.getElem?_eq_some_iff.1 hh).1 (hS g ⟨_, rfl, rfl⟩)).trans hh, r⟩

theorem zero_bytes (k : Nat) : Builtin.zeroCells #[.int .u8 0] k = (bv (List.replicate k 0)).toArray := by
  apply Array.ext'
  simp [Builtin.zeroCells, bv]
  apply List.ext_getElem
  · simp
  · intro i h1 h2
    simp [Nat.mod_one]

theorem clone_full (ao : Option Addr) (cap : Nat) (bs : List UInt8) (w : World) (h : BsAt w ao bs) (hcap : ao = none → cap = 0) (hb : bs.length ≤ 140737488355328) :
    Calls Try.prog 50 #[.slice ao bs.length cap] w fun e w' => ∃ ao' cap', e = .returned (.slice ao' bs.length cap') ∧ Full w' ao' cap' bs ∧ Fr (fun _ => False) w w' ∧ ∀ k, blk ao' k → w.heap.size ≤ k := by
  cases ao with
  | none =>
    obtain rfl := hcap rfl
    rcases h with ⟨_, rfl⟩ | ⟨_, _, e, _⟩
    · refine (clone_nil w).mono ?_
      rintro e w' ⟨rfl, rfl⟩
      exact ⟨none, 0, rfl, Or.inl ⟨rfl, rfl, rfl⟩, Fr.refl _ _, fun k ⟨_, e, _⟩ => by cases e⟩
    · cases e
  | some a =>
    have hF0 : Fr (fun _ => False) w (w.alloc (.cells #[] 5)) := (Fr.refl _ _).alloc _
    have h1 : BsAt (w.alloc (.cells #[] 5)) (some a) bs := h.fr hF0 (fun _ _ _ e => e)
    have hs := h1.src cap
    obtain ⟨i0, hi, hz0, hz1, hz2⟩ := info_parts Try.infoU8
    have hnil : ∀ (a : Option Addr) (n c : Nat) (w : World), (binOp .eql 28 (.slice a n c) (.slice none 0 0)).run Try.prog w = .ok (.bool a.isNone) w := fun a n c w => Lib.run_eql_slice_nil (P := Try.prog) w 28 5 a n c 0 0 Try.underlying28
    have key : ∃ ao' cap' w', (Builtin.append_ #[28, 28] 28 #[.slice (some ⟨w.heap.size, 0, none⟩) 0 0, .slice (some a) bs.length cap]).run Try.prog (w.alloc (.cells #[] 5)) = .ok (.slice ao' bs.length cap') w' ∧ Full w' ao' cap' bs ∧ Fr (fun _ => False) w w' ∧ ∀ k, blk ao' k → w.heap.size ≤ k := by
      by_cases he : bs = []
      · subst he
        refine ⟨some ⟨w.heap.size, 0, none⟩, 0, _, run_append_nothing (P := Try.prog) _ 28 28 28 5 i0 Try.underlying28 hi _ 0 0 (Nat.le_refl _) _ (by rw [hz1]; exact hs), Or.inr ⟨w.heap.size, [], rfl, heap_new rfl, rfl, Nat.zero_le _⟩, hF0, ?_⟩
        rintro k ⟨x, e1, rfl⟩
        obtain rfl := Option.some.inj e1
        exact Nat.le_refl _
      · have hpos : 0 < bs.length := List.length_pos_iff.2 he
        have hr := run_append_grow_src (P := Try.prog) (w.alloc (.cells #[] 5)) 28 28 28 5 i0 (.int .u8 0) Try.underlying28 hi hz0 (some ⟨w.heap.size, 0, none⟩) 0 0 [] (run_firstCells_some _ _ 0 _ 0 0 [] (by simp) (fun j u hu => by cases hu)) _ bs.length (bv bs) (by rw [hz1]; exact hs) (by omega) (by omega) (growslice_fits (by omega) (by rw [hz2]; omega))
        have hge := grownCap_ge (w.alloc (.cells #[] 5)) (0 + bs.length) 0 5
        have hcm := grownCap_le_maxLen (w.alloc (.cells #[] 5)) (0 + bs.length) 0 5 (by unfold maxLen; omega)
        refine ⟨_, _, _, by simpa using hr, Or.inr ⟨(w.alloc (.cells #[] 5)).heap.size, List.replicate (grownCap (w.alloc (.cells #[] 5)) (0 + bs.length) 0 5 - (0 + bs.length)) 0, rfl, ?_, ?_, by simpa using hcm⟩, (hF0.drew.alloc _), ?_⟩
        · rw [bv_append]
          have e : (Value.int .u8 0).cells = #[.int .u8 0] := rfl
          simp only [e, zero_bytes, List.nil_append, Nat.zero_add]
          have := heap_alloc_new ((w.alloc (.cells #[] 5)).drew) (.cells ((bv bs).toArray ++ (bv (List.replicate (grownCap (w.alloc (.cells #[] 5)) bs.length 0 5 - bs.length) 0)).toArray) 5)
          simpa using this
        · simp only [List.length_append, List.length_replicate, Nat.zero_add]
          simp only [Nat.zero_add] at hge
          omega
        · rintro k ⟨x, e1, rfl⟩
          obtain rfl := Option.some.inj e1
          simp
    obtain ⟨ao', cap', w1, hrun, hfull, hF, hn⟩ := key
    have HR := hideIt hrun
    clear hrun
    go_enter Try.func50, Try.ntmps50
    go_wp2_with (first | (at_builtin; refine wpList_append_run _ rfl (.tmp 5) (.tmp 6) 28 28 rfl _ _ _ _ rfl rfl HR.out ?_))
    go_ret
    exact ⟨ao', cap', rfl, hfull, hF, hn⟩

theorem out_full (p t : Nat) (ao : Option Addr) (cap : Nat) (bs : List UInt8) (at_ ea : Int) (w : World) (h : WAt w p t ao cap bs at_ 0 ea) (hb : bs.length ≤ 140737488355328) :
    Calls Try.prog 16 #[.pointer (some ⟨p, 0, none⟩)] w fun e w' => ∃ ao' cap', e = .returned (.tuple #[.slice ao' bs.length cap', .int .i64 0]) ∧ Full w' ao' cap' bs ∧ Fr (fun _ => False) w w' ∧ ∀ k, blk ao' k → w.heap.size ≤ k := by
  have hc := h.c
  have h0 := h.tp.c0
  have h2 := h.tp.c2
  go_enter Try.func16, Try.ntmps16
  go_wp2_with (go_at_call 49; refine (wnone_some p t _ hc).mono ?_; rintro e w' ⟨rfl, rfl⟩)
  refine (clone_full ao cap bs _ h.tp.row.bs h.tp.row.cap0 hb).mono ?_
  rintro e w' ⟨ao', cap', rfl, hrow, hF, hnew⟩
  go_wp2
  go_ret2
  exact ⟨ao', cap', rfl, hrow, hF, hnew⟩

theorem xor_fin : ∀ n : Fin 256, bits .xor .u8 (n.val : Int) 90 = (((UInt8.ofNat n.val) ^^^ 90).toNat : Int) := by decide +kernel

theorem over_nil (w : World) : Calls Try.prog 19 #[.slice none 0 0] w fun e w' => e = .returned (.tuple #[]) ∧ w' = w := by
  go_enter Try.func19, Try.ntmps19
  go_wp2_with fail
  go_loopw [3] (fun i wr => i = .int .i64 0 ∧ wr = w) (fun i _ => 0)
  case atStart => exact ⟨rfl, rfl⟩
  case round =>
    obtain ⟨rfl, rfl⟩ := hrel
    go_wp2_with fail
    go_end0
    exact ⟨rfl, rfl⟩

/-- Every byte of the room is written over: nothing else is touched. -/
theorem over_some (g n : Nat) (cs : List UInt8) (w : World) (h : w.heap[g]? = some (.cells (bv cs).toArray 5 (0, 0))) (hn : n ≤ cs.length) (hm : cs.length ≤ maxLen) :
    Calls Try.prog 19 #[.slice (some ⟨g, 0, none⟩) n cs.length] w fun e w' => e = .returned (.tuple #[]) ∧ Fr (fun k => k = g) w w' := by
  unfold maxLen at hm
  go_enter Try.func19, Try.ntmps19
  go_wp2_with fail
  go_loopw [3] (fun i wr => ∃ (k : Nat) (ds : List UInt8), i = .int .i64 k ∧ k ≤ cs.length ∧ ds.length = cs.length ∧ wr.heap[g]? = some (.cells (bv ds).toArray 5 (0, 0)) ∧ Fr (fun k => k = g) w wr) (fun i _ => cs.length - (intOf i).toNat)
  case atStart => exact ⟨0, cs, rfl, Nat.zero_le _, rfl, h, Fr.refl _ _⟩
  case round =>
    obtain ⟨k, ds, rfl, hk, hd, hg, hF⟩ := hrel
    by_cases hlt : k < cs.length
    · have hkd : k < ds.length := by omega
      have hc : wr.cell? ⟨g, k, none⟩ = some (.int .u8 ds[k].toNat) := cellOfHeap hg k (by simp [bv, hkd])
      have hz := frozen_of_row wr g k _ _ hg
      have hx : bits .xor .u8 (ds[k].toNat : Int) 90 = ((ds[k] ^^^ 90).toNat : Int) := by
        have := xor_fin ⟨ds[k].toNat, UInt8.toNat_lt _⟩
        simpa using this
      have hs := heap_setCell_same wr g k _ _ (.int .u8 ((ds[k] ^^^ 90).toNat : Int)) hg
      have hs2 : (bv ds).toArray.setIfInBounds k (.int .u8 ((ds[k] ^^^ 90).toNat : Int)) = (bv (ds.set k (ds[k] ^^^ 90))).toArray := by simp [bv, List.map_set]
      rw [hs2] at hs
      have HS := hideIt hs
      have HF := hideIt hF
      have HX := hideIt hx
      have HD := hideIt (show (ds.set k (ds[k] ^^^ 90)).length = cs.length by simp [hd])
      clear hs hs2 hg hF hx hd
      generalize hy : ds[k] ^^^ 90 = y at *
      clear hy
      generalize ds[k] = x at *
      go_wp2_with fail
      rw [HX.out]
      exact ⟨⟨k + 1, ds.set k y, by go_num, by omega, HD.out, HS.out, HF.out.setCell (p := ⟨g, k, none⟩) (fun _ => rfl) _⟩, by simp [intOf]; omega⟩
    · have HF := hideIt hF
      clear hF hg
      go_wp2_with fail
      go_end0
      exact ⟨rfl, HF.out⟩

theorem over_full (ao : Option Addr) (cap : Nat) (bs : List UInt8) (w : World) (h : Full w ao cap bs) : Calls Try.prog 19 #[.slice ao bs.length cap] w fun e w' => e = .returned (.tuple #[]) ∧ Fr (blk ao) w w' := by
  rcases h with ⟨rfl, rfl, rfl⟩ | ⟨g, zs, rfl, hh, rfl, hm⟩
  · refine (over_nil w).mono ?_
    rintro e w' ⟨rfl, rfl⟩
    exact ⟨rfl, Fr.refl _ _⟩
  · refine (over_some g bs.length (bs ++ zs) w hh (by simp) hm).mono ?_
    rintro e w' ⟨rfl, hF⟩
    exact ⟨rfl, hF.mono fun k e => ⟨_, rfl, e.symm⟩⟩

end Go.Proofs.Yteihmonafdnicaa
