/- The reader's ID. -/
import Derived.Test.YteihmonafdnicaaI
import Derived.Deep.MidRow
import Derived.Deep.Upon
namespace Go.Proofs.Yteihmonafdnicaa
open Go.RowKit Go.IntWalk
set_option linter.unusedSimpArgs false
set_option linter.unusedVariables false

theorem setCells_heap (b : Nat) (t : TypeId) : ∀ (vs : List Value) (o : Nat) (w : World) (cur : Array Value), w.heap[b]? = some (.cells cur t (0, 0)) → o + vs.length ≤ cur.size →
    ∃ A : Array Value, (w.setCells b o vs).heap[b]? = some (.cells A t (0, 0)) ∧ A.toList = cur.toList.take o ++ vs ++ cur.toList.drop (o + vs.length)
  | [], o, w, cur, h, _ => ⟨cur, h, by simp⟩
  | v :: vs, o, w, cur, h, hle => by
    simp only [List.length_cons] at hle
    obtain ⟨A, h1, h2⟩ := setCells_heap b t vs (o + 1) (w.setCell ⟨b, o, none⟩ v) (cur.setIfInBounds o v) (heap_setCell_same w b o cur t v h) (by simp; omega)
    refine ⟨A, h1, ?_⟩
    have ho : o < cur.toList.length := by simp; omega
    rw [h2, Array.toList_setIfInBounds]
    have e1 : (cur.toList.set o v).take (o + 1) = cur.toList.take o ++ [v] := by
      rw [List.set_eq_take_append_cons_drop, if_pos ho, List.take_append]
      have hl : (cur.toList.take o).length = o := by simp; omega
      rw [hl, List.take_of_length_le (by omega), show o + 1 - o = 1 by omega]
      simp
    have e2 : (cur.toList.set o v).drop (o + 1 + vs.length) = cur.toList.drop (o + (vs.length + 1)) := by
      rw [List.drop_set_of_lt (by omega), show o + 1 + vs.length = o + (vs.length + 1) by omega]
    rw [e1, e2]
    simp

theorem setCells_full (b : Nat) (t : TypeId) (vs : List Value) (w : World) (cur : Array Value) (h : w.heap[b]? = some (.cells cur t (0, 0))) (hl : vs.length = cur.size) : (w.setCells b 0 vs).heap[b]? = some (.cells vs.toArray t (0, 0)) := by
  obtain ⟨A, h1, h2⟩ := setCells_heap b t vs 0 w cur h (by omega)
  rw [h1]
  have e : A = vs.toArray := by
    apply Array.ext'
    rw [h2, List.drop_of_length_le (by simp; omega)]
    simp
  rw [e]

theorem tape_setCells (b : Nat) : ∀ (vs : List Value) (o : Nat) (w : World), (w.setCells b o vs).tape = w.tape ∧ (w.setCells b o vs).heap.size = w.heap.size
  | [], o, w => ⟨rfl, rfl⟩
  | v :: vs, o, w => by
    have := tape_setCells b vs (o + 1) (w.setCell ⟨b, o, none⟩ v)
    exact ⟨this.1, this.2.trans (by simp)⟩

theorem Fr.setCells (w : World) (b o : Nat) (vs : List Value) : Fr (fun k => k = b) w (w.setCells b o vs) :=
  ⟨World.os_setCells _ _ _ _, (tape_setCells b vs o w).1, World.output_setCells _ _ _ _, Nat.le_of_eq (tape_setCells b vs o w).2.symm, fun k hk hne => World.heap_setCells_other w b o vs hk hne⟩

/-- Thirty-two noughts. -/
def zeros32 : List UInt8 := List.replicate 32 0
def zA : Array Value := #[.int .u8 0, .int .u8 0, .int .u8 0, .int .u8 0, .int .u8 0, .int .u8 0, .int .u8 0, .int .u8 0, .int .u8 0, .int .u8 0, .int .u8 0, .int .u8 0, .int .u8 0, .int .u8 0, .int .u8 0, .int .u8 0, .int .u8 0, .int .u8 0, .int .u8 0, .int .u8 0, .int .u8 0, .int .u8 0, .int .u8 0, .int .u8 0, .int .u8 0, .int .u8 0, .int .u8 0, .int .u8 0, .int .u8 0, .int .u8 0, .int .u8 0, .int .u8 0]
theorem zA_eq : zA = (bv zeros32).toArray := rfl
theorem zA_size : zA.size = 32 := rfl

/-- The world in which ID's step is handed to do. -/
def rboxes3 (w : World) (p : Nat) : World := (((w.alloc (.cells #[.pointer (some ⟨p, 0, none⟩)] 47)).alloc (.cells zA 33)).alloc (.cells zA 33)).setCells (w.heap.size + 1 + 1) 0 zA.toList
theorem rboxes3_size (w : World) (p : Nat) : (rboxes3 w p).heap.size = w.heap.size + 3 := by unfold rboxes3; rw [(tape_setCells _ _ _ _).2]; simp
theorem Fr.rboxes3 (w : World) (p : Nat) (S : Nat → Prop) : Fr S w (Go.Proofs.Yteihmonafdnicaa.rboxes3 w p) :=
  ((((Fr.refl S w).alloc _).alloc _).alloc _).trans (Fr.setCells _ _ _ _) (fun i hi e => by omega)
theorem rboxes3_get (w : World) (p : Nat) :
    (rboxes3 w p).heap[w.heap.size]? = some (.cells #[.pointer (some ⟨p, 0, none⟩)] 47 (0, 0)) ∧ (rboxes3 w p).heap[w.heap.size + 1]? = some (.cells zA 33 (0, 0)) ∧ (rboxes3 w p).heap[w.heap.size + 1 + 1]? = some (.cells zA 33 (0, 0)) := by
  have hF := Fr.setCells (((w.alloc (.cells #[.pointer (some ⟨p, 0, none⟩)] 47)).alloc (.cells zA 33)).alloc (.cells zA 33)) (w.heap.size + 1 + 1) 0 zA.toList
  refine ⟨(hF.block _ (by simp; omega) (by omega)).trans (heap_old (heap_old (heap_new rfl))), (hF.block _ (by simp) (by omega)).trans (heap_old (heap_new (by simp))), ?_⟩
  exact setCells_full _ _ zA.toList _ zA (heap_new (by simp)) (by simp)

theorem one32 (v : List UInt8) : (bv v).toArray.all (·.oneCell') = true := all_oneCell_toArray (bv_one v)

theorem thereNew (w : World) (b : Nat) (A : Array Value) (t : TypeId) (h : w.heap[b]? = some (.cells A t (0, 0))) (n : Nat) (hn : n = A.size) : w.there b 0 n := by
  subst hn
  intro j hj
  rw [Nat.zero_add, cell_of_row w b j _ _ _ h, frozen_of_row w b j _ _ h]
  simp [hj]

end Go.Proofs.Yteihmonafdnicaa
