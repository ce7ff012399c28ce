/- The examples that every statement of layer 1 asks for: is, wrong, awake. -/
import Derived.Test.YteihmonafdnicaaL
namespace Go.Proofs.Yteihmonafdnicaa
open Go.RowKit Go.IntWalk
set_option linter.unusedSimpArgs false
set_option linter.unusedVariables false

/-- A number, as a thing. -/
def thN (n : Int) : Th := ⟨0, n, ⟨#[]⟩, List.replicate 32 0⟩
theorem thN_ok (n : Int) (h : n ≤ 9223372036854775807) : ThOk (thN n) := ⟨by simp [thN], h, by show 0 ≤ 9223372036854775807; omega⟩

theorem thsAt_one (x : Th) (w : World) : ThsAt (w.alloc (.cells (thA x) 35)) (some ⟨w.heap.size, 0, none⟩) [x] := by
  refine Or.inr ⟨w.heap.size, 0, rfl, by simp, fun i hi j v hv => ?_⟩
  obtain rfl : i = 0 := by simpa using hi
  rw [World.cell?_alloc_at _ _ _ _ rfl]
  simpa [thA] using hv

theorem all_int (n : Nat) (hn : n ≤ 9223372036854775807) (w : World) :
    Calls Try.prog 38 #[.slice (some ⟨w.heap.size, 0, none⟩) 1 1] (w.alloc (.cells (thA (thN n)) 35)) fun e w' => ∃ ao' cap', e = .returned (.tuple #[.slice ao' (sevens n).length cap', .bool true]) ∧ Row w' 5 ao' cap' (sevens n) ∧ Fr (fun _ => False) w w' ∧ ∀ k, blk ao' k → w.heap.size ≤ k := by
  have h := all_any (some ⟨w.heap.size, 0, none⟩) 1 [thN n] _ (thsAt_one (thN n) w) (fun x hx => by obtain rfl := List.mem_singleton.1 hx; exact thN_ok n (by omega)) (by simp [thW, thN, ByteArray.size])
  have e : wAll [thN n] = (sevens n, false) := by simp [wAll, wTh, thN, wInt]
  rw [e] at h
  refine h.mono ?_
  rintro e w' ⟨ao', cap', rfl, hrow, hF, hn⟩
  exact ⟨ao', cap', rfl, hrow, ((Fr.refl _ w).alloc _).trans hF (fun _ _ e => e), fun k hk => by have := hn k hk; simp at this; omega⟩

set_option maxRecDepth 100000 in
theorem is_nat (n : Nat) (hn : n ≤ 9223372036854775807) (wo : Option Addr) (cap : Nat) (bs : List UInt8) (w : World) (hb : BsAt w wo bs) :
    Calls Try.prog 39 #[.int .i64 n, .slice wo bs.length cap] w fun e w' => e = .returned (.bool (sevens n == bs)) ∧ Fr (fun _ => False) w w' := by
  have HA := hideIt (all_int n hn w)
  go_enter Try.func39, Try.ntmps39
  go_wp2_with fail
  refine Calls.mono HA.out ?_
  rintro e w1 ⟨ao1, cap1, rfl, hrow, hF, hn1⟩
  have hb1 := hb.fr hF (fun _ _ _ e => e)
  have HS := hideIt (same_any ao1 wo cap1 cap (sevens n) bs w1 hrow.bs hb1)
  go_wp2_with fail
  refine Calls.mono HS.out ?_
  rintro e w2 ⟨rfl, rfl⟩
  go_wp2_with fail
  go_ret
  exact ⟨rfl, hF⟩

theorem wrong_true (wo : Option Addr) (cap : Nat) (bs : List UInt8) (e a : Int) (w : World) (hb : BsAt w wo bs) (hcap : wo = none → cap = 0) (hlen : bs.length ≤ 140737488355328) (hr : rInt bs 0 9223372036854775807 (0, 0, 0) = (0, (0, e, a))) :
    Calls Try.prog 40 #[.slice wo bs.length cap, .int .i64 e, .int .i64 a] w fun e' w' => e' = .returned (.bool true) ∧ Fr (fun _ => False) w w' := by
  have HR := hideIt hr
  clear hr
  go_enter Try.func40, Try.ntmps40
  go_wp2_with fail
  refine (open_any wo cap bs w hb hcap hlen).mono ?_
  rintro e1 w1 ⟨p, t, ao', cap', rfl, hRA, hF, hp, ht, hn⟩
  have HI := hideIt (rint_any p t ao' cap' bs (0, 0, 0) 0 9223372036854775807 w1 ⟨hRA, Nat.zero_le _⟩ hlen)
  rw [HR.out] at HI
  go_wp2_with fail
  refine Calls.mono HI.out ?_
  rintro e2 w2 ⟨rfl, hR2, hF2⟩
  have HF := hideIt (rfault_any p t ao' cap' bs _ w2 hR2)
  go_wp2_with fail
  refine Calls.mono HF.out ?_
  rintro e3 w3 ⟨rfl, hF3⟩
  go_wp2_with fail
  go_ret
  exact ⟨rfl, (hF.trans hF2 (fun i hi e => by omega)).trans hF3 (fun _ _ e => e)⟩

theorem bsAt_lit (bs : List UInt8) (w : World) : BsAt (w.alloc (.cells (bv bs).toArray 5)) (some ⟨w.heap.size, 0, none⟩) bs := by
  refine Or.inr ⟨w.heap.size, 0, rfl, fun j hj => ?_⟩
  rw [World.cell?_alloc_at _ _ _ _ rfl, Nat.zero_add]
  simp [bv_get bs j hj]

theorem is_lit (n : Nat) (hn : n ≤ 9223372036854775807) (bs : List UInt8) (h : (sevens n == bs) = true) (w : World) :
    Calls Try.prog 39 #[.int .i64 n, .slice (some ⟨w.heap.size, 0, none⟩) bs.length bs.length] (w.alloc (.cells (bv bs).toArray 5)) fun e w' => e = .returned (.bool true) ∧ Fr (fun _ => False) w w' := by
  refine (is_nat n hn _ bs.length bs _ (bsAt_lit bs w)).mono ?_
  rintro e w' ⟨rfl, hF⟩
  rw [h]
  exact ⟨rfl, ((Fr.refl _ w).alloc _).trans hF (fun _ _ e => e)⟩

theorem wrong_lit (bs : List UInt8) (e a : Int) (hlen : bs.length ≤ 140737488355328) (hr : rInt bs 0 9223372036854775807 (0, 0, 0) = (0, (0, e, a))) (w : World) :
    Calls Try.prog 40 #[.slice (some ⟨w.heap.size, 0, none⟩) bs.length bs.length, .int .i64 e, .int .i64 a] (w.alloc (.cells (bv bs).toArray 5)) fun e' w' => e' = .returned (.bool true) ∧ Fr (fun _ => False) w w' := by
  refine (wrong_true _ bs.length bs e a _ (bsAt_lit bs w) (fun e => by cases e) hlen hr).mono ?_
  rintro e w' ⟨rfl, hF⟩
  exact ⟨rfl, ((Fr.refl _ w).alloc _).trans hF (fun _ _ e => e)⟩

theorem awake_any (w : World) : Calls Try.prog 9 #[] w fun e w' => e = .returned (.bool true) ∧ Fr (fun _ => False) w w' := by
  have h1 := is_lit 0 (by decide) [0] (by decide)
  have h2 := is_lit 128 (by decide) [128, 1] (by decide)
  have h3 := wrong_lit [128, 0] 4 0 (by decide) (by decide)
  have h4 := wrong_lit [128] 4 1 (by decide) (by decide)
  have h5 : ∀ w, Calls Try.prog 14 #[.int .i64 16384] w fun e w' => e = .returned (.int .i64 3) ∧ w' = w := fun w => (size_nat 16384 w (by decide)).mono fun e w' hh => by
    rw [show (sevens 16384).length = 3 by decide] at hh
    exact hh
  have h6 : ∀ w, Calls Try.prog 43 #[.int .u64 258] w fun e w' => e = .returned (.string ⟨#[0, 0, 0, 0, 0, 0, 1, 2]⟩) ∧ Fr (fun _ => False) w w' := fun w => (val_any 258 (by decide) w).mono fun e w' hh => by
    rw [show valB 258 = [0, 0, 0, 0, 0, 0, 1, 2] by decide] at hh
    exact hh
  have H1 := hideIt h1
  have H2 := hideIt h2
  have H3 := hideIt h3
  have H4 := hideIt h4
  have H5 := hideIt h5
  have H6 := hideIt h6
  clear h1 h2 h3 h4 h5 h6
  go_enter Try.func9, Try.ntmps9
  go_wp2_with fail
  refine Calls.mono (H1.out w) ?_
  rintro e w1 ⟨rfl, hF1⟩
  go_wp2_with fail
  refine Calls.mono (H2.out w1) ?_
  rintro e w2 ⟨rfl, hF2⟩
  go_wp2_with fail
  refine Calls.mono (H3.out w2) ?_
  rintro e w3 ⟨rfl, hF3⟩
  go_wp2_with fail
  refine Calls.mono (H4.out w3) ?_
  rintro e w4 ⟨rfl, hF4⟩
  go_wp2_with fail
  refine Calls.mono (H5.out w4) ?_
  rintro e w5 ⟨rfl, rfl⟩
  go_wp2_with fail
  refine Calls.mono (H6.out _) ?_
  rintro e w6 ⟨rfl, hF6⟩
  go_wp2_with fail
  go_ret
  exact ⟨rfl, (((hF1.trans hF2 (fun _ _ e => e)).trans hF3 (fun _ _ e => e)).trans hF4 (fun _ _ e => e)).trans hF6 (fun _ _ e => e)⟩

end Go.Proofs.Yteihmonafdnicaa
