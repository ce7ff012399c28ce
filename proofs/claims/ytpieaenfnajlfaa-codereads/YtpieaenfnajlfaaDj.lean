/- Code: which instruction stands in bytes: the walk. -/
import Derived.Test.YtpieaenfnajlfaaDh
import Derived.Test.YtpieaenfnajlfaaDg
import Derived.Test.YtpieaenfnajlfaaCl
namespace Go.Proofs.Ytpieaenfnajlfaa
open Go.RowKit Go.IntWalk Go.Lib
set_option linter.unusedSimpArgs false
set_option linter.unusedVariables false

theorem creads_long (ao : Option Addr) (cap : Nat) (bs : List UInt8) (at_ : Int) (w : World) (h1 : 300 < bs.length) : Calls Try.prog 4 #[.slice ao bs.length cap, .int .i64 at_] w fun e w' => e = .returned (.bool true) ∧ Fr (fun _ => False) w w' := by
  have hd1 : decide (300 < (bs.length : Int)) = true := by simp; omega
  clear h1
  have HA := hideIt cawake_any
  go_enter Try.func4, Try.ntmps4
  go_wp2_with fail
  refine Calls.mono (HA.out _) ?_
  rintro e w1 ⟨rfl, hF1⟩
  have HF1 := hideIt hF1
  clear hF1 HA
  go_wp2_with fail
  go_ret
  exact ⟨rfl, HF1.out⟩

set_option maxRecDepth 100000 in
set_option maxHeartbeats 4000000 in
theorem creads_short (ao : Option Addr) (cap : Nat) (bs : List UInt8) (at_ : Int) (w : World) (h1 : bs.length ≤ 300) (hB : BsAt w ao bs) (hcap : ao = none → cap = 0) (hcl : bs.length ≤ cap) (hcm : cap ≤ maxLen) (hnb : ∀ k, blk ao k → k < w.heap.size) :
    Calls Try.prog 4 #[.slice ao bs.length cap, .int .i64 at_] w fun e w' => e = .returned (.bool true) ∧ Fr (fun _ => False) w w' := by
  have hd1 : decide (300 < (bs.length : Int)) = false := by simp; omega
  have HA := hideIt cawake_any
  have HL := hideIt (lent_any ao cap bs w hB hcap (by omega))
  have HRD := hideIt (fun (g : Nat) (w' : World) (h : Lent w' g bs) => read_any (some ⟨g, 0, none⟩) (bs.length + 3) bs at_ w' h.bs (fun e => by cases e) (by omega) (by omega))
  have HVR := hideIt (fun (w' : World) (hF : Fr (fun _ => False) w w') => vread_any ao cap bs at_ w' (hB.fr hF (fun _ _ _ e => e)) (by omega) hcl hcm (fun k hk => Nat.lt_of_lt_of_le (hnb k hk) hF.size))
  have HKP := hideIt (fun (g : Nat) (w' : World) (h : Lent w' g bs) (hF : Fr (fun _ => False) w w') => kept_any g ao cap bs w' h (hB.fr hF (fun _ _ _ e => e)) hcap (by omega))
  generalize readR bs at_ = rb at *
  obtain ⟨⟨op, a, b, c, n, s⟩, m, er, ea⟩ := rb
  unfold readV icells at *
  dsimp only at HRD HVR
  clear hB hcap hcl hcm hnb h1
  go_enter Try.func4, Try.ntmps4
  go_wp2_with fail
  refine Calls.mono HL.out ?_
  rintro e w1 ⟨g, rfl, hg, hF1, hgs⟩
  have HG1 := hideIt (show Lent w1 g bs from hg)
  have HF1 := hideIt hF1
  clear hg hF1 hgs HL
  go_wp2_with fail
  refine Calls.mono (HRD.out g w1 HG1.out) ?_
  rintro e w2 ⟨rfl, hF2⟩
  have hF12 := HF1.out.trans hF2 (fun _ _ e => e)
  have HG2 := hideIt (HG1.out.fr hF2 (fun e => e))
  have HF2 := hideIt ((hF12.alloc (.cells #[.int .i64 op, .int .i64 a, .int .i64 b, .int .i64 c, .int .i64 n, .string s] 23)).alloc (.cells #[.int .i64 er, .int .i64 ea] 36))
  clear hF2 hF12 HRD HG1
  go_wp2_with fail
  refine Calls.mono (HVR.out _ HF2.out) ?_
  rintro e w3 ⟨rfl, hF3⟩
  have hI := (hF3.block w2.heap.size (by simp; omega) (fun e => e)).trans (heap_old (heap_new rfl))
  have hX := (hF3.block (w2.heap.size + 1) (by simp) (fun e => e)).trans (heap_new (by simp))
  have hI0 := cellOfHeap hI 0 rfl
  have hI1 := cellOfHeap hI 1 rfl
  have hI2 := cellOfHeap hI 2 rfl
  have hI3 := cellOfHeap hI 3 rfl
  have hI4 := cellOfHeap hI 4 rfl
  have hI5 := cellOfHeap hI 5 rfl
  have hX0 := cellOfHeap hX 0 rfl
  have hX1 := cellOfHeap hX 1 rfl
  have hlt := (Array.getElem?_eq_some_iff.1 hX).1
  have hn1 : w2.heap.size ≠ w3.heap.size := by omega
  have hn2 : w2.heap.size ≠ w3.heap.size + 1 := by omega
  have hn3 : w2.heap.size + 1 ≠ w3.heap.size := by omega
  have hn4 : w2.heap.size + 1 ≠ w3.heap.size + 1 := by omega
  have hF23 : Fr (fun _ => False) w2 ((w3.alloc (.cells #[.int .i64 op, .int .i64 a, .int .i64 b, .int .i64 c, .int .i64 n, .string s] 23)).alloc (.cells #[.int .i64 er, .int .i64 ea] 36)) := ((((((Fr.refl (fun _ => False) w2).alloc _).alloc _).trans hF3 (fun _ _ e => e)).alloc _).alloc _)
  have HG3 := hideIt (HG2.out.fr hF23 (fun e => e))
  have HF3 := hideIt (((HF2.out.trans hF3 (fun _ _ e => e)).alloc (.cells #[.int .i64 op, .int .i64 a, .int .i64 b, .int .i64 c, .int .i64 n, .string s] 23)).alloc (.cells #[.int .i64 er, .int .i64 ea] 36))
  have hlt0 : w2.heap.size < w3.heap.size := by omega
  clear hI hX hF3 hF23 HVR HG2
  go_wp2_with fail
  refine Calls.mono (HKP.out g _ HG3.out HF3.out) ?_
  rintro e w4 ⟨rfl, hF4⟩
  have HF4 := hideIt (HF3.out.trans hF4 (fun _ _ e => e))
  clear hF4 HKP
  go_wp2_with fail
  refine Calls.mono (HA.out _) ?_
  rintro e w5 ⟨rfl, hF5⟩
  have HF5 := hideIt (HF4.out.trans hF5 (fun _ _ e => e))
  clear hF5 HA
  go_wp2_with fail
  go_ret
  exact ⟨rfl, HF5.out⟩

theorem creads_any (ao : Option Addr) (cap : Nat) (bs : List UInt8) (at_ : Int) (w : World) (hB : BsAt w ao bs) (hcap : ao = none → cap = 0) (hcl : bs.length ≤ cap) (hcm : cap ≤ maxLen) (hnb : ∀ k, blk ao k → k < w.heap.size) :
    Calls Try.prog 4 #[.slice ao bs.length cap, .int .i64 at_] w fun e w' => e = .returned (.bool true) ∧ Fr (fun _ => False) w w' := by
  by_cases h1 : 300 < bs.length
  · exact creads_long ao cap bs at_ w h1
  · exact creads_short ao cap bs at_ w (by omega) hB hcap hcl hcm hnb

end Go.Proofs.Ytpieaenfnajlfaa
