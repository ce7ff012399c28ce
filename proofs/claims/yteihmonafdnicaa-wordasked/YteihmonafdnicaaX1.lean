/- The document's own numbers by sevens (retconref01.Sevens, Size). -/
import Derived.Test.YteihmonafdnicaaD2
namespace Go.Proofs.Yteihmonafdnicaa
open Go.RowKit Go.IntWalk
set_option linter.unusedSimpArgs false
set_option linter.unusedVariables false

theorem Row.set {w : World} {e : TypeId} {g cap : Nat} {bs : List UInt8} (h : Row w e (some ⟨g, 0, none⟩) cap bs) (j : Nat) (b : UInt8) : Row (w.setCell ⟨g, j, none⟩ (.int .u8 b.toNat)) e (some ⟨g, 0, none⟩) cap (bs.set j b) := by
  rcases h.form with ⟨h0, _⟩ | ⟨g', cur, h0, hh, hle, hcm, hcs, htake⟩
  · cases h0
  · obtain rfl : g = g' := by simpa using h0
    refine ⟨by simp [bv_length], Or.inr ⟨g, cap, _, by simp, Nat.zero_le _, heap_setCell_same w g j cur e _ hh, by simpa using hle, hcm, by simpa using hcs, ?_⟩⟩
    rw [Array.toList_setIfInBounds, List.length_set, Nat.mul_one, List.take_set, htake]
    simp [bv, List.map_set]

theorem sevens_neg (n : Int) (w : World) (h : n < 0) : Calls Try.prog 47 #[.int .i64 n] w fun e w' => e = .returned (.slice none 0 0) ∧ w' = w := by
  go_enter Try.func47, Try.ntmps47
  go_wp2
  go_ret
  exact ⟨rfl, rfl⟩

/-- One step more. -/
theorem sevens_split (m : Nat) : sevens m = if m / 128 = 0 then [UInt8.ofNat (m % 128)] else UInt8.ofNat (m % 128 + 128) :: sevens (m / 128) := by
  by_cases h : m < 128
  · rw [sevens_lt h, if_pos (by omega), Nat.mod_eq_of_lt h]
  · rw [sevens_ge h, if_neg (by omega)]

theorem sevens_step (n b m : Nat) (pre : List UInt8) (hm : 0 < m) (h : sevens n = pre ++ (if m = 0 then [UInt8.ofNat b] else UInt8.ofNat (b + 128) :: sevens m)) :
    sevens n = (pre ++ [UInt8.ofNat (b + 128)]) ++ (if m / 128 = 0 then [UInt8.ofNat (m % 128)] else UInt8.ofNat (m % 128 + 128) :: sevens (m / 128)) := by
  rw [h, if_neg (by omega), ← sevens_split m]
  simp

theorem byte_row (w : World) (b : UInt8) : Row (w.alloc (.cells #[.int .u8 b.toNat] 5)) 5 (some ⟨w.heap.size, 0, none⟩) 1 [b] :=
  ⟨by simp [bv], Or.inr ⟨w.heap.size, 1, _, rfl, Nat.zero_le _, heap_new rfl, Nat.le_refl _, by decide, rfl, rfl⟩⟩

set_option maxRecDepth 100000 in
set_option maxHeartbeats 1000000 in
theorem sevens_nat (n : Nat) (hn : n ≤ 9223372036854775807) (w : World) :
    Calls Try.prog 47 #[.int .i64 (n : Int)] w fun e w' => ∃ ao cap, e = .returned (.slice ao (sevens n).length cap) ∧ Row w' 5 ao cap (sevens n) ∧ Fr (fun _ => False) w w' ∧ ∀ k, blk ao k → w.heap.size ≤ k := by
  have e0 : ((UInt8.ofNat (n % 128)).toNat : Int) = (n : Int) % 128 := by simp; omega
  have HR0 := hideIt (by have := byte_row w (UInt8.ofNat (n % 128)); rw [e0] at this; exact this)
  have HS0 := hideIt (show sevens n = [] ++ (if n / 128 = 0 then [UInt8.ofNat (n % 128)] else UInt8.ofNat (n % 128 + 128) :: sevens (n / 128)) from sevens_split n)
  have h9 := sevens_nine hn
  have H9 := hideIt h9
  clear e0 h9
  go_enter Try.func47, Try.ntmps47
  go_wp2_with fail
  go_loopw [0, 3] (fun v o wr => ∃ (m b : Nat) (pre : List UInt8) (ao : Option Addr) (cap : Nat), v = .int .i64 (m : Int) ∧ m ≤ 9223372036854775807 ∧ b < 128 ∧ o = .slice ao (pre.length + 1) cap ∧ Hid (sevens n = pre ++ (if m = 0 then [UInt8.ofNat b] else UInt8.ofNat (b + 128) :: sevens m)) ∧ Row wr 5 ao cap (pre ++ [UInt8.ofNat b]) ∧ Fr (fun _ => False) w wr ∧ ∀ k, blk ao k → w.heap.size ≤ k)
    (fun v _ _ => (intOf v).toNat)
  case atStart => exact ⟨n / 128, n % 128, [], some ⟨w.heap.size, 0, none⟩, 1, by simp, by omega, by omega, rfl, HS0, HR0.out, (Fr.refl _ _).alloc _, fun k ⟨_, e, e2⟩ => by obtain rfl := Option.some.inj e; exact Nat.le_of_eq e2⟩
  case round =>
    clear HR0 HS0
    obtain ⟨m, b, pre, ao, cap, rfl, hm, hb, rfl, HS, hrow, hF, hn1⟩ := hrel
    by_cases h0 : 0 < m
    · have h0' : (0 : Int) < (m : Int) := by omega
      have hpl : pre.length ≤ 9 := by
        have h1 := congrArg List.length HS.out
        have h2 := H9.out
        simp only [List.length_append] at h1
        omega
      obtain ⟨g, rfl⟩ : ∃ g, ao = some ⟨g, 0, none⟩ := by
        rcases hrow.form with ⟨_, h, _⟩ | ⟨g, _, h, _⟩
        · simp at h
        · exact ⟨g, h⟩
      have hc : wr.cell? ⟨g, pre.length, none⟩ = some (.int .u8 (b : Int)) := by
        have := hrow.cell pre.length (by simp)
        rw [this]
        simp
        omega
      have hfz : wr.frozen? ⟨g, pre.length, none⟩ = false := by
        rcases hrow.form with ⟨h, _⟩ | ⟨g', cur, h, hh, _⟩
        · cases h
        · obtain rfl : g = g' := by simpa using h
          exact frozen_of_row wr g _ _ _ hh
      have hset := hrow.set pre.length (UInt8.ofNat (b + 128))
      rw [List.set_append_right _ _ (Nat.le_refl _), Nat.sub_self, List.set_cons_zero] at hset
      have e1 : ((UInt8.ofNat (b + 128)).toNat : Int) = (b : Int) + 128 := by simp; omega
      have e2 : ((UInt8.ofNat (m % 128)).toNat : Int) = (m : Int) % 128 := by simp; omega
      rw [e1] at hset
      have hF1 : Fr (fun k => k = g) wr (wr.setCell ⟨g, pre.length, none⟩ (.int .u8 ((b : Int) + 128))) := (Fr.refl (fun k => k = g) wr).setCell (p := ⟨g, pre.length, none⟩) (fun _ => rfl) _
      have hF2 : Fr (fun _ => False) w ((wr.setCell ⟨g, pre.length, none⟩ (.int .u8 ((b : Int) + 128))).alloc (.cells #[.int .u8 ((m : Int) % 128)] 5)) := (hF.trans hF1 (fun i hi e => by have := hn1 g ⟨_, rfl, rfl⟩; omega)).alloc _
      have hsrc : BsAt ((wr.setCell ⟨g, pre.length, none⟩ (.int .u8 ((b : Int) + 128))).alloc (.cells #[.int .u8 ((m : Int) % 128)] 5)) (some ⟨wr.heap.size, 0, none⟩) [UInt8.ofNat (m % 128)] := by
        refine Or.inr ⟨wr.heap.size, 0, rfl, fun j hj => ?_⟩
        obtain rfl : j = 0 := by simpa using hj
        have hb : ((wr.setCell ⟨g, pre.length, none⟩ (.int .u8 ((b : Int) + 128))).alloc (.cells #[.int .u8 ((m : Int) % 128)] 5)).heap[wr.heap.size]? = some (.cells #[.int .u8 ((m : Int) % 128)] 5 (0, 0)) := heap_new (by simp)
        have := cellOfHeap hb 0 rfl
        rw [this]
        simp only [List.getElem_cons_zero, e2]
        rfl
      obtain ⟨ao', cap', w', hrun, hrow', hF3, hao'⟩ := app_row _ 28 (some ⟨g, 0, none⟩) cap (pre ++ [UInt8.ofNat (b + 128)]) [UInt8.ofNat (m % 128)] (hset.alloc (.cells #[.int .u8 ((m : Int) % 128)] 5)) _ (hsrc.src 1) (by simp; omega)
      have elen : (pre ++ [UInt8.ofNat (b + 128)]).length = pre.length + 1 := by simp
      rw [elen] at hrun
      have HRUN := hideIt hrun
      have HROW := hideIt hrow'
      have HFF := hideIt (hF2.trans hF3 (fun i hi e => by have := hn1 i e; omega))
      have HNB := hideIt (show ∀ k, blk ao' k → w.heap.size ≤ k by
        intro k hk
        rcases hao' with rfl | rfl
        · exact hn1 k hk
        · obtain ⟨_, e, rfl⟩ := hk
          obtain rfl := Option.some.inj e
          have := hF.size
          simp
          omega)
      have HSS := hideIt (sevens_step n b m pre h0 HS.out)
      clear hrun hrow' hF3 hao' hF2 hF1 hsrc hset e1 e2 hrow hF hn1 HS elen
      go_wp2_with (first | (at_builtin; refine wpList_append_run _ rfl (.tmp 28) (.tmp 32) 28 28 rfl _ _ _ _ rfl rfl HRUN.out ?_))
      exact ⟨⟨m / 128, m % 128, pre ++ [UInt8.ofNat (b + 128)], ao', cap', by simp, by omega, by omega, by simp, HSS, HROW.out, HFF.out, HNB.out⟩, by simp [intOf]; omega⟩
    · obtain rfl : m = 0 := by omega
      have hs : sevens n = pre ++ [UInt8.ofNat b] := by simpa using HS.out
      have HQ := hideIt (show (sevens n).length = pre.length + 1 by rw [hs]; simp)
      have HROW := hideIt (show Row wr 5 ao cap (sevens n) by rw [hs]; exact hrow)
      have HF := hideIt hF
      have HN := hideIt hn1
      clear hs hrow hF hn1 HS H9
      go_wp2_with fail
      go_ret
      exact ⟨ao, cap, by rw [HQ.out]; rfl, HROW.out, HF.out, HN.out⟩

theorem xsize_neg (n : Int) (w : World) (h : n < 0) : Calls Try.prog 15 #[.int .i64 n] w fun e w' => e = .returned (.int .i64 0) ∧ w' = w := by
  go_enter Try.func15, Try.ntmps15
  go_wp2_with (go_at_call 47; refine (sevens_neg n _ h).mono ?_; rintro e w' ⟨rfl, rfl⟩)
  go_ret
  exact ⟨rfl, rfl⟩
theorem xsize_nat (n : Nat) (hn : n ≤ 9223372036854775807) (w : World) : Calls Try.prog 15 #[.int .i64 (n : Int)] w fun e w' => e = .returned (.int .i64 ((sevens n).length : Nat)) ∧ Fr (fun _ => False) w w' := by
  have HC := hideIt (sevens_nat n hn w)
  go_enter Try.func15, Try.ntmps15
  go_wp2_with fail
  refine Calls.mono HC.out ?_
  rintro e w1 ⟨ao, cap, rfl, _, hF, _⟩
  have HF := hideIt hF
  clear hF
  go_wp2_with fail
  go_ret
  exact ⟨rfl, HF.out⟩

end Go.Proofs.Yteihmonafdnicaa
