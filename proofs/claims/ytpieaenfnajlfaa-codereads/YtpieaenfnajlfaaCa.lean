/- Code: an instruction in memory, the things that letters stand for (find, fits, clear). -/
import Derived.Test.YtpieaenfnajlfaaY
import Derived.Lib.OthersKept
namespace Go.Proofs.Ytpieaenfnajlfaa
open Go.RowKit Go.IntWalk
set_option linter.unusedSimpArgs false
set_option linter.unusedVariables false

/-- An instruction. -/
structure Ins where
  op : Int
  a : Int
  b : Int
  c : Int
  n : Int
  s : ByteArray

/-- Its number at a place. -/
def Ins.get (i : Ins) (f : Nat) : Int := if f = 0 then i.op else if f = 1 then i.a else if f = 2 then i.b else if f = 3 then i.c else i.n
def Ins.put (i : Ins) (f : Nat) (v : Int) : Ins := if f = 1 then { i with a := v } else if f = 2 then { i with b := v } else if f = 3 then { i with c := v } else { i with n := v }

def icells (i : Ins) : Array Value := #[.int .i64 i.op, .int .i64 i.a, .int .i64 i.b, .int .i64 i.c, .int .i64 i.n, .string i.s]
def InsAt (w : World) (p : Nat) (i : Ins) : Prop := w.heap[p]? = some (.cells (icells i) 23)

section
variable {w w' : World} {p : Nat} {i : Ins}
theorem InsAt.lt (h : InsAt w p i) : p < w.heap.size := (Array.getElem?_eq_some_iff.1 h).1
theorem InsAt.c0 (h : InsAt w p i) : w.cell? ⟨p, 0, none⟩ = some (.int .i64 i.op) := by rw [cell_of_row w p 0 _ _ _ h]; rfl
theorem InsAt.c1 (h : InsAt w p i) : w.cell? ⟨p, 1, none⟩ = some (.int .i64 i.a) := by rw [cell_of_row w p 1 _ _ _ h]; rfl
theorem InsAt.c2 (h : InsAt w p i) : w.cell? ⟨p, 2, none⟩ = some (.int .i64 i.b) := by rw [cell_of_row w p 2 _ _ _ h]; rfl
theorem InsAt.c3 (h : InsAt w p i) : w.cell? ⟨p, 3, none⟩ = some (.int .i64 i.c) := by rw [cell_of_row w p 3 _ _ _ h]; rfl
theorem InsAt.c4 (h : InsAt w p i) : w.cell? ⟨p, 4, none⟩ = some (.int .i64 i.n) := by rw [cell_of_row w p 4 _ _ _ h]; rfl
theorem InsAt.c5 (h : InsAt w p i) : w.cell? ⟨p, 5, none⟩ = some (.string i.s) := by rw [cell_of_row w p 5 _ _ _ h]; rfl
theorem InsAt.fz (h : InsAt w p i) (j : Nat) : w.frozen? ⟨p, j, none⟩ = false := frozen_of_row w p j _ _ h
theorem InsAt.num (h : InsAt w p i) (f : Nat) (h1 : 1 ≤ f) (h4 : f ≤ 4) : w.cell? ⟨p, f, none⟩ = some (.int .i64 (i.get f)) := by
  obtain rfl | rfl | rfl | rfl : f = 1 ∨ f = 2 ∨ f = 3 ∨ f = 4 := by omega
  · exact h.c1
  · exact h.c2
  · exact h.c3
  · exact h.c4
theorem InsAt.keep (h : InsAt w p i) (hb : w'.heap[p]? = w.heap[p]?) : InsAt w' p i := hb.trans h
theorem InsAt.fr {S : Nat → Prop} (h : InsAt w p i) (hf : Fr S w w') (hS : ¬ S p) : InsAt w' p i := (hf.block p h.lt hS).trans h
theorem InsAt.putN (h : InsAt w p i) (f : Nat) (h1 : 1 ≤ f) (h4 : f ≤ 4) (v : Int) : InsAt (w.setCell ⟨p, f, none⟩ (.int .i64 v)) p (i.put f v) := by
  have := heap_setCell_same w p f (icells i) 23 (.int .i64 v) h
  obtain rfl | rfl | rfl | rfl : f = 1 ∨ f = 2 ∨ f = 3 ∨ f = 4 := by omega
  all_goals exact this
theorem InsAt.putS (h : InsAt w p i) (s : ByteArray) : InsAt (w.setCell ⟨p, 5, none⟩ (.string s)) p { i with s := s } :=
  heap_setCell_same w p 5 (icells i) 23 (.string s) h
end

/-- Which field a letter stands for; its bounds. -/
def fld (l : Nat) : Nat := if l = 65 then 1 else if l = 66 then 2 else if l = 67 then 3 else if l = 69 then 4 else if l = 80 then 4 else 5
def lowL (l : Nat) : Int := if l = 69 then 1 else if l = 80 then 1 else 0
def highL (l : Nat) : Int := if l = 69 then 16 else if l = 80 then 60 else 7
def numV (p f : Nat) (lo hi : Int) : Value := .agg #[.pointer (some ⟨p, f, none⟩), .int .i64 lo, .int .i64 hi, .pointer none]
def textV (p : Nat) : Value := .agg #[.pointer none, .int .i64 0, .int .i64 0, .pointer (some ⟨p, 5, none⟩)]
def partV (p l : Nat) : Value := if fld l = 5 then textV p else numV p (fld l) (lowL l) (highL l)
/-- A letter of the table. -/
abbrev Ltr (l : Nat) : Prop := l = 65 ∨ l = 66 ∨ l = 67 ∨ l = 69 ∨ l = 80 ∨ l = 83

theorem find_any (p l : Nat) (hl : Ltr l) (w : World) : Calls Try.prog 28 #[.pointer (some ⟨p, 0, none⟩), .int .i32 (l : Int)] w fun e w' => e = .returned (partV p l) ∧ Fr (fun _ => False) w w' := by
  rcases hl with rfl | rfl | rfl | rfl | rfl | rfl
  · go_enter Try.func28, Try.ntmps28
    go_wp2
    exact bodyPost_ret (v := numV p 1 0 7) (by simp [results, Try.results28, go_sem, numV]) rfl ⟨rfl, (Fr.refl _ _).alloc _⟩
  · go_enter Try.func28, Try.ntmps28
    go_wp2
    exact bodyPost_ret (v := numV p 2 0 7) (by simp [results, Try.results28, go_sem, numV]) rfl ⟨rfl, (Fr.refl _ _).alloc _⟩
  · go_enter Try.func28, Try.ntmps28
    go_wp2
    exact bodyPost_ret (v := numV p 3 0 7) (by simp [results, Try.results28, go_sem, numV]) rfl ⟨rfl, (Fr.refl _ _).alloc _⟩
  · go_enter Try.func28, Try.ntmps28
    go_wp2
    exact bodyPost_ret (v := numV p 4 1 16) (by simp [results, Try.results28, go_sem, numV]) rfl ⟨rfl, (Fr.refl _ _).alloc _⟩
  · go_enter Try.func28, Try.ntmps28
    go_wp2
    exact bodyPost_ret (v := numV p 4 1 60) (by simp [results, Try.results28, go_sem, numV]) rfl ⟨rfl, (Fr.refl _ _).alloc _⟩
  · go_enter Try.func28, Try.ntmps28
    go_wp2
    exact bodyPost_ret (v := textV p) (by simp [results, Try.results28, go_sem, textV]) rfl ⟨rfl, (Fr.refl _ _).alloc _⟩

end Go.Proofs.Ytpieaenfnajlfaa
