/- Keys: what the document's examples say (awake). -/
import Derived.Test.YtcejebelellemaaKd
namespace Go.Proofs.Ytcejebelellemaa
open Go.RowKit Go.IntWalk
set_option linter.unusedSimpArgs false
set_option linter.unusedVariables false

abbrev kA : ByteArray := ⟨#[97]⟩
abbrev kB : ByteArray := ⟨#[98]⟩

theorem ks_two (w : World) (x y : ByteArray) (t : TypeId) : KsAt (w.alloc (.cells #[.string x, .string y] t)) (some ⟨w.heap.size, 0, none⟩) [x, y] := ks_new w [x, y] t
theorem ks_three (w : World) (x y z : ByteArray) (t : TypeId) : KsAt (w.alloc (.cells #[.string x, .string y, .string z] t)) (some ⟨w.heap.size, 0, none⟩) [x, y, z] := ks_new w [x, y, z] t

set_option maxRecDepth 100000 in
set_option maxHeartbeats 2000000 in
theorem kawake_any (w : World) : Calls Try.prog 25 #[] w fun e w' => e = .returned (.bool true) ∧ Fr (fun _ => False) w w' := by
  have s1 : setL [kB, kA, kB] = [kA, kB] := by kernel_rfl
  have hS := hideIt (show Calls Try.prog 11 #[.slice (some ⟨w.heap.size, 0, none⟩) 3 3] (w.alloc (.cells #[.string kB, .string kA, .string kB] 9)) (RisePost [kA, kB] (w.alloc (.cells #[.string kB, .string kA, .string kB] 9))) from by
    rw [← s1]
    exact ksort_any (some ⟨w.heap.size, 0, none⟩) 3 [kB, kA, kB] _ (Or.inr (ks_three w kB kA kB _)) (by decide) (fun x hx => by simp only [List.mem_cons, List.not_mem_nil, or_false] at hx; rcases hx with rfl | rfl | rfl <;> decide))
  have HF0 := hideIt ((Fr.refl (fun _ => False) w).alloc (.cells #[.string kB, .string kA, .string kB] 9))
  have hN := hideIt (fun (u : World) (ao : Option Addr) (cap : Nat) (h : KsAt u ao [kA, kB]) => show Calls Try.prog 19 #[.slice ao 2 cap, .slice (some ⟨u.heap.size, 0, none⟩) 2 2] (u.alloc (.cells #[.string kA, .string kB] 9)) (fun e w' => e = .returned (.bool true) ∧ Fr (fun _ => False) (u.alloc (.cells #[.string kA, .string kB] 9)) w') from
    ksame_any ao (some ⟨u.heap.size, 0, none⟩) cap 2 [kA, kB] [kA, kB] _ (Or.inr (h.fr0 ((Fr.refl _ _).alloc _))) (Or.inr (ks_two u kA kB _)) (by decide) (by decide))
  have hC1 := hideIt (fun (u : World) => show Calls Try.prog 21 #[.slice (some ⟨u.heap.size, 0, none⟩) 2 2] (u.alloc (.cells #[.string kA, .string kB] 9)) (fun e w' => e = .returned (.bool true) ∧ Fr (fun _ => False) (u.alloc (.cells #[.string kA, .string kB] 9)) w') from by
    have := kcheck_any (some ⟨u.heap.size, 0, none⟩) 2 [kA, kB] _ (Or.inr (ks_two u kA kB 9)) (by decide)
    rw [show risesB [kA, kB] = true by kernel_rfl] at this
    exact this)
  have hC2 := hideIt (fun (u : World) => show Calls Try.prog 21 #[.slice (some ⟨u.heap.size, 0, none⟩) 2 2] (u.alloc (.cells #[.string kA, .string kA] 9)) (fun e w' => e = .returned (.bool false) ∧ Fr (fun _ => False) (u.alloc (.cells #[.string kA, .string kA] 9)) w') from by
    have := kcheck_any (some ⟨u.heap.size, 0, none⟩) 2 [kA, kA] _ (Or.inr (ks_two u kA kA 9)) (by decide)
    rw [show risesB [kA, kA] = false by kernel_rfl] at this
    exact this)
  have hH := hideIt (fun (u : World) => show Calls Try.prog 23 #[.slice (some ⟨u.heap.size, 0, none⟩) 2 2, .string kB] (u.alloc (.cells #[.string kA, .string kB] 9)) (fun e w' => e = .returned (.bool true) ∧ w' = u.alloc (.cells #[.string kA, .string kB] 9)) from by
    have := khas_any (some ⟨u.heap.size, 0, none⟩) 2 [kA, kB] kB _ (Or.inr (ks_two u kA kB 9)) (by decide)
    rw [show inL [kA, kB] kB = true by kernel_rfl] at this
    exact this)
  clear s1
  go_enter Try.func25, Try.ntmps25
  go_wp2_with fail
  refine Calls.mono hS.out ?_
  rintro e w1 ⟨ao1, cap1, rfl, hrow1, hF1, _⟩
  have HF1 := hideIt (HF0.out.trans hF1 (fun _ _ e => e))
  have HN := hideIt (hN.out w1 ao1 cap1 hrow1.at)
  clear hrow1 hF1 hN hS HF0
  go_wp2_with fail
  refine Calls.mono HN.out ?_
  rintro e w2 ⟨rfl, hF2⟩
  have HF2 := hideIt ((HF1.out.alloc _).trans hF2 (fun _ _ e => e))
  clear hF2 HN HF1
  go_wp2_with fail
  refine Calls.mono (hC1.out _) ?_
  rintro e w3 ⟨rfl, hF3⟩
  have HF3 := hideIt ((HF2.out.alloc _).trans hF3 (fun _ _ e => e))
  clear hF3 HF2 hC1
  go_wp2_with fail
  refine Calls.mono (hC2.out _) ?_
  rintro e w4 ⟨rfl, hF4⟩
  have HF4 := hideIt ((HF3.out.alloc _).trans hF4 (fun _ _ e => e))
  clear hF4 HF3 hC2
  go_wp2_with fail
  refine Calls.mono (hH.out _) ?_
  rintro e w5 ⟨rfl, rfl⟩
  clear hH
  go_wp2_with fail
  go_ret
  exact ⟨rfl, HF4.out.alloc _⟩

end Go.Proofs.Ytcejebelellemaa
