/- Package hash: a digest in memory; none, New, Len. -/
import Derived.Test.YtgnpdnkmhjocjaaDoorSd
namespace Go.Proofs.YtgnpdnkmhjocjaaDoor
open Go.RowKit Go.IntWalk
set_option linter.unusedSimpArgs false
set_option linter.unusedVariables false

/-- A digest's cells: made, the state, the block, the size. -/
def dgL (s : Sha.St) (blk : List UInt8) (n : Nat) : List Value := .bool true :: ((stA s).toList ++ (bv blk ++ [.int .i64 (n : Int)]))
def DgAt (w : World) (p : Nat) (s : Sha.St) (blk : List UInt8) (n : Nat) : Prop := w.heap[p]? = some (.cells (dgL s blk n).toArray 50 (0, 0)) ∧ blk.length = 64
theorem DgAt.lt {w : World} {p : Nat} {s : Sha.St} {blk : List UInt8} {n : Nat} (h : DgAt w p s blk n) : p < w.heap.size := (Array.getElem?_eq_some_iff.1 h.1).1
theorem DgAt.c0 {w : World} {p : Nat} {s : Sha.St} {blk : List UInt8} {n : Nat} (h : DgAt w p s blk n) : w.cell? ⟨p, 0, none⟩ = some (.bool true) := cellOfHeap h.1 0 rfl
theorem DgAt.size {w : World} {p : Nat} {s : Sha.St} {blk : List UInt8} {n : Nat} (h : DgAt w p s blk n) : w.cell? ⟨p, 73, none⟩ = some (.int .i64 (n : Int)) := cellOfHeap h.1 73 (by
  simp only [List.getElem?_toArray, dgL]
  rw [List.getElem?_cons_succ, List.getElem?_append_right (by show 8 ≤ 72; decide), List.getElem?_append_right (by rw [bv_length, h.2]; show 64 ≤ 72 - 8; decide)]
  rw [bv_length, h.2]
  rfl)
theorem DgAt.fr {S : Nat → Prop} {w w' : World} {p : Nat} {s : Sha.St} {blk : List UInt8} {n : Nat} (h : DgAt w p s blk n) (hF : Fr S w w') (hS : ¬ S p) : DgAt w' p s blk n := ⟨(hF.block p h.lt hS).trans h.1, h.2⟩

theorem dnone_some (p : Nat) (s : Sha.St) (blk : List UInt8) (n : Nat) (w : World) (h : DgAt w p s blk n) : Calls Tryd.prog 27 #[.pointer (some ⟨p, 0, none⟩)] w fun e w' => e = .returned (.bool false) ∧ w' = w := by
  have c0 := h.c0
  have hpl := h.lt
  clear h
  go_enter Tryd.func27, Tryd.ntmps27
  go_wp2_with fail
  go_ret
  exact ⟨rfl, rfl⟩

theorem dlen_any (p : Nat) (s : Sha.St) (blk : List UInt8) (n : Nat) (w : World) (h : DgAt w p s blk n) : Calls Tryd.prog 19 #[.pointer (some ⟨p, 0, none⟩)] w fun e w' => e = .returned (.int .i64 (n : Int)) ∧ w' = w := by
  have HN := hideIt (dnone_some p s blk n w h)
  have c73 := h.size
  have hpl := h.lt
  clear h
  go_enter Tryd.func19, Tryd.ntmps19
  go_wp2_with fail
  refine Calls.mono HN.out ?_
  rintro e w' ⟨rfl, rfl⟩
  go_wp2_with fail
  go_ret
  exact ⟨rfl, rfl⟩

def zeros64 : List UInt8 := List.replicate 64 0
set_option maxRecDepth 100000 in
theorem built_new : Tryd.prog.built 50 [(0, .bool true), (1, .agg (stA Sha.first))] = some (dgL Sha.first zeros64 0).toArray := by kernel_rfl

set_option maxRecDepth 100000 in
set_option maxHeartbeats 1000000 in
theorem hnew_any (w : World) (hG : Glob w) : Calls Tryd.prog 9 #[] w fun e w' => e = .returned (.pointer (some ⟨w.heap.size, 0, none⟩)) ∧ DgAt w' w.heap.size Sha.first zeros64 0 ∧ Fr (fun _ => False) w w' := by
  have g0 := hG.first 0 _ rfl
  have g1 := hG.first 1 _ rfl
  have g2 := hG.first 2 _ rfl
  have g3 := hG.first 3 _ rfl
  have g4 := hG.first 4 _ rfl
  have g5 := hG.first 5 _ rfl
  have g6 := hG.first 6 _ rfl
  have g7 := hG.first 7 _ rfl
  have HL := hideIt (show w.rangeAt 0 0 (stA Sha.first).toList from fun j v hv => by rw [Nat.zero_add]; exact hG.first j v (by simpa using hv))
  have HI := hideIt (show (Tryd.prog.info? 46).map (·.size) = some (stA Sha.first).toList.length by kernel_rfl)
  have HBN := hideIt built_new
  clear hG g0 g1 g2 g3 g4 g5 g6 g7
  go_enter Tryd.func9, Tryd.ntmps9
  go_wp2_with (first | (refine wpList_load_mid rfl 46 (.global 0) rfl 0 0 rfl (stA Sha.first).toList _ HL.out Tryd.underlying46 rfl HI.out ?_) | (refine wpList_build_eq rfl 50 #[(0, .const (.bool true)), (1, .tmp 1)] rfl [(0, .bool true), (1, .agg (stA Sha.first))] (by simp [Act.eval, Act.put]) (dgL Sha.first zeros64 0).toArray HBN.out ?_))
  go_ret
  exact ⟨rfl, ⟨heap_new rfl, by decide⟩, (Fr.refl _ _).alloc _⟩

end Go.Proofs.YtgnpdnkmhjocjaaDoor
