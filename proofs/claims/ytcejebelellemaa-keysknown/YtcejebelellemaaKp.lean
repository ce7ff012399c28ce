/- KeysKnown, walked. -/
import Derived.Test.YtcejebelellemaaKo
namespace Go.Proofs.Ytcejebelellemaa
open Go.RowKit Go.IntWalk
set_option linter.unusedSimpArgs false
set_option linter.unusedVariables false

abbrev kC : ByteArray := ⟨#[99]⟩
abbrev kD : ByteArray := ⟨#[100]⟩

theorem ks_1 (w : World) (x : ByteArray) (t : TypeId) : KsAt (w.alloc (.cells #[.string x] t)) (some ⟨w.heap.size, 0, none⟩) [x] := ks_new w [x] t

theorem brief1 {x : ByteArray} (h : x.size ≤ 100) : ∀ y ∈ [x], y.size ≤ maxLen := fun y hy => by rw [List.mem_singleton.1 hy]; exact le_maxLen h
theorem brief2 {x y : ByteArray} (h : x.size ≤ 100) (h' : y.size ≤ 100) : ∀ z ∈ [x, y], z.size ≤ maxLen := fun z hz => by
  simp only [List.mem_cons, List.not_mem_nil, or_false] at hz
  rcases hz with rfl | rfl
  · exact le_maxLen h
  · exact le_maxLen h'
theorem brief3 {x y u : ByteArray} (h : x.size ≤ 100) (h' : y.size ≤ 100) (h'' : u.size ≤ 100) : ∀ z ∈ [x, y, u], z.size ≤ maxLen := fun z hz => by
  simp only [List.mem_cons, List.not_mem_nil, or_false] at hz
  rcases hz with rfl | rfl | rfl
  · exact le_maxLen h
  · exact le_maxLen h'
  · exact le_maxLen h''

theorem among_ex : amongL [kA, kB, kC] [(kB, kC)] = [kB] := by kernel_rfl
theorem meets_ex1 : meetsB [kA] [kB] [(kA, kB)] = true := by kernel_rfl
theorem meets_ex2 : meetsB [kA] [kB] [] = false := by kernel_rfl
theorem union_ex : setL ([kA, kC] ++ [kB, kC]) = [kA, kB, kC] := by kernel_rfl
theorem minus_ex : siftL [kA, kC] [kC] false = [kA] := by kernel_rfl
theorem both_ex : siftL [kA, kC] [kC, kD] true = [kC] := by kernel_rfl

theorem ks_new' (w : World) (l : List ByteArray) (t : TypeId) (b : Nat) (hb : b = w.heap.size) : KsAt (w.alloc (.cells (l.map Value.string).toArray t)) (some ⟨b, 0, none⟩) l := by subst hb; exact ks_new w l t

theorem ka {w : World} {ao : Option Addr} {l : List ByteArray} (h : KsAt w ao l) (o : Obj) : KsAt (w.alloc o) ao l := h.fr0 ((Fr.refl _ _).alloc o)

theorem four (w : World) : ∃ W, (((w.alloc (.cells #[.string kA] 9)).alloc (.cells #[.string kC] 9)).alloc (.cells #[.string kA, .string kC] 9)).alloc (.cells #[.string kB, .string kC] 9) = W ∧
    KsAt W (some ⟨w.heap.size, 0, none⟩) [kA] ∧ KsAt W (some ⟨w.heap.size + 1, 0, none⟩) [kC] ∧ KsAt W (some ⟨w.heap.size + 1 + 1, 0, none⟩) [kA, kC] ∧ KsAt W (some ⟨w.heap.size + 1 + 1 + 1, 0, none⟩) [kB, kC] ∧ Fr (fun _ => False) w W :=
  ⟨_, rfl, ka (ka (ka (ks_new' w [kA] _ _ rfl) _) _) _, ka (ka (ks_new' (w.alloc (.cells #[.string kA] 9)) [kC] _ _ (by simp)) _) _, ka (ks_new' ((w.alloc (.cells #[.string kA] 9)).alloc (.cells #[.string kC] 9)) [kA, kC] _ _ (by simp)) _, ks_new' (((w.alloc (.cells #[.string kA] 9)).alloc (.cells #[.string kC] 9)).alloc (.cells #[.string kA, .string kC] 9)) [kB, kC] _ _ (by simp), ((((Fr.refl _ _).alloc _).alloc _).alloc _).alloc _⟩

theorem sp_new' (w : World) (x : Sp) (b : Nat) (hb : b = w.heap.size) : SpsAt (w.alloc (.cells #[.string x.1, .string x.2] 41)) (some ⟨b, 0, none⟩) [x] := by subst hb; exact sps_one x w

set_option maxRecDepth 100000 in
set_option maxHeartbeats 4000000 in
theorem kknown_any (w : World) : Calls Try.prog 8 #[] w fun e w' => e = .returned (.bool true) ∧ Fr (fun _ => False) w w' := by
  obtain ⟨W, hW, k1, k2, k3, k4, hF⟩ := four w
  have HW := hideIt hW
  have K1 := hideIt k1
  have K2 := hideIt k2
  have K3 := hideIt k3
  have HF := hideIt hF
  have hU := hideIt (by have := kunion_any (some ⟨w.heap.size + 1 + 1, 0, none⟩) (some ⟨w.heap.size + 1 + 1 + 1, 0, none⟩) 2 2 [kA, kC] [kB, kC] W (Or.inr k3) (Or.inr k4) (by decide) (fun z hz => (List.mem_append.1 hz).elim (brief2 (by decide) (by decide) z) (brief2 (by decide) (by decide) z)); rw [union_ex] at this; exact this)
  clear hW k1 k2 k3 k4 hF
  go_enter Try.func8, Try.ntmps8
  go_wp2_with fail
  rw [HW.out]
  clear HW
  generalize w.heap.size = N at *
  refine Calls.mono hU.out ?_
  rintro e w1 ⟨ao1, cap1, rfl, hrow, hF1, _⟩
  have G1 := hideIt hF1
  have hS := hideIt (ksame_any ao1 (some ⟨w1.heap.size, 0, none⟩) cap1 3 [kA, kB, kC] [kA, kB, kC] (w1.alloc (.cells #[.string kA, .string kB, .string kC] 9)) (Or.inr (ka hrow.at _)) (Or.inr (ks_new' w1 [kA, kB, kC] _ _ rfl)) (by decide) (by decide))
  rw [show decide ([kA, kB, kC] = [kA, kB, kC]) = true from decide_eq_true rfl] at hS
  clear hrow hF1 hU
  go_wp2_with fail
  refine Calls.mono hS.out ?_
  rintro e w2 ⟨rfl, hF2⟩
  have G2 := hideIt ((G1.out.alloc _).trans hF2 (fun _ _ e => e))
  clear hF2 hS G1
  have hM := hideIt (by have := kminus_any (some ⟨N + 1 + 1, 0, none⟩) (some ⟨N + 1, 0, none⟩) 2 1 [kA, kC] [kC] w2 (Or.inr (K3.out.fr0 G2.out)) (Or.inr (K2.out.fr0 G2.out)) (by decide) (by decide) (brief2 (by decide) (by decide)) (brief1 (by decide)); rw [minus_ex] at this; exact this)
  go_wp2_with fail
  refine Calls.mono hM.out ?_
  rintro e w3 ⟨ao3, cap3, rfl, hrow, hF3, _⟩
  have G3 := hideIt (G2.out.trans hF3 (fun _ _ e => e))
  have hS := hideIt (same_later hrow.at K1.out (by decide) cap3 1 w3 (Fr.refl _ _) G3.out)
  clear hrow hF3 hM G2
  go_wp2_with fail
  refine Calls.mono hS.out ?_
  rintro e w4 ⟨rfl, hF4⟩
  have G4 := hideIt ((G3.out.trans hF4 (fun _ _ e => e)).alloc (.cells #[.string kC, .string kD] 9))
  clear hF4 hS G3
  have hB := hideIt (by have := kboth_any (some ⟨N + 1 + 1, 0, none⟩) (some ⟨w4.heap.size, 0, none⟩) 2 2 [kA, kC] [kC, kD] (w4.alloc (.cells #[.string kC, .string kD] 9)) (Or.inr (K3.out.fr0 G4.out)) (Or.inr (ks_new' w4 [kC, kD] _ _ rfl)) (by decide) (by decide) (brief2 (by decide) (by decide)) (brief2 (by decide) (by decide)); rw [both_ex] at this; exact this)
  go_wp2_with fail
  refine Calls.mono hB.out ?_
  rintro e w5 ⟨ao5, cap5, rfl, hrow, hF5, _⟩
  have G5 := hideIt (G4.out.trans hF5 (fun _ _ e => e))
  have hS := hideIt (same_later hrow.at K2.out (by decide) cap5 1 w5 (Fr.refl _ _) G5.out)
  clear hrow hF5 hB G4
  go_wp2_with fail
  refine Calls.mono hS.out ?_
  rintro e w6 ⟨rfl, hF6⟩
  have G6 := hideIt (((G5.out.trans hF6 (fun _ _ e => e)).alloc (.cells #[.string kA, .string kB, .string kC] 9)).alloc (.cells #[.string kB, .string kC] 41))
  clear hF6 hS G5
  have hA := hideIt (by have := kamong_any (some ⟨w6.heap.size, 0, none⟩) (some ⟨w6.heap.size + 1, 0, none⟩) 3 1 [kA, kB, kC] [(kB, kC)] ((w6.alloc (.cells #[.string kA, .string kB, .string kC] 9)).alloc (.cells #[.string kB, .string kC] 41)) (Or.inr (ka (ks_new' w6 [kA, kB, kC] _ _ rfl) _)) (Or.inr (sp_new' (w6.alloc (.cells #[.string kA, .string kB, .string kC] 9)) (kB, kC) _ (by simp))) (by decide) (by decide) (brief3 (by decide) (by decide) (by decide)); rw [among_ex] at this; exact this)
  go_wp2_with fail
  refine Calls.mono hA.out ?_
  rintro e w7 ⟨ao7, cap7, rfl, hrow, hF7, _⟩
  have G7 := hideIt ((G6.out.trans hF7 (fun _ _ e => e)).alloc (.cells #[.string kB] 9))
  have hS := hideIt (ksame_any ao7 (some ⟨w7.heap.size, 0, none⟩) cap7 1 [kB] [kB] (w7.alloc (.cells #[.string kB] 9)) (Or.inr (ka hrow.at _)) (Or.inr (ks_new' w7 [kB] _ _ rfl)) (by decide) (by decide))
  rw [show decide ([kB] = [kB]) = true from decide_eq_true rfl] at hS
  clear hrow hF7 hA G6
  go_wp2_with fail
  refine Calls.mono hS.out ?_
  rintro e w8 ⟨rfl, hF8⟩
  have G8 := hideIt (((G7.out.trans hF8 (fun _ _ e => e)).alloc (.cells #[.string kB] 9)).alloc (.cells #[.string kA, .string kB] 41))
  clear hF8 hS G7
  have hMe := hideIt (by have := kmeets_any (some ⟨N, 0, none⟩) (some ⟨w8.heap.size, 0, none⟩) (some ⟨w8.heap.size + 1, 0, none⟩) 1 1 1 [kA] [kB] [(kA, kB)] ((w8.alloc (.cells #[.string kB] 9)).alloc (.cells #[.string kA, .string kB] 41)) (Or.inr (K1.out.fr0 G8.out)) (Or.inr (ka (ks_new' w8 [kB] _ _ rfl) _)) (Or.inr (sp_new' (w8.alloc (.cells #[.string kB] 9)) (kA, kB) _ (by simp))) (by decide) (by decide) (by decide) (brief1 (by decide)) (brief1 (by decide)); rw [meets_ex1] at this; exact this)
  go_wp2_with fail
  refine Calls.mono hMe.out ?_
  rintro e w9 ⟨rfl, hF9⟩
  have G9 := hideIt ((G8.out.trans hF9 (fun _ _ e => e)).alloc (.cells #[.string kB] 9))
  clear hF9 hMe G8
  have hMe := hideIt (by have := kmeets_any (some ⟨N, 0, none⟩) (some ⟨w9.heap.size, 0, none⟩) none 1 1 0 [kA] [kB] [] (w9.alloc (.cells #[.string kB] 9)) (Or.inr (K1.out.fr0 G9.out)) (Or.inr (ks_new' w9 [kB] _ _ rfl)) (Or.inl rfl) (by decide) (by decide) (by decide) (brief1 (by decide)) (brief1 (by decide)); rw [meets_ex2] at this; exact this)
  go_wp2_with fail
  refine Calls.mono hMe.out ?_
  rintro e w10 ⟨rfl, hF10⟩
  have G10 := hideIt (G9.out.trans hF10 (fun _ _ e => e))
  clear hF10 hMe G9
  go_wp2_with fail
  refine Calls.mono (kawake_any _) ?_
  rintro e w11 ⟨rfl, hF11⟩
  have G11 := hideIt (HF.out.trans (G10.out.trans hF11 (fun _ _ e => e)) (fun _ _ e => e))
  clear hF11 G10
  go_wp2_with fail
  go_ret
  exact ⟨rfl, G11.out⟩

end Go.Proofs.Ytcejebelellemaa
