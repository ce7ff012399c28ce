/- Spans: Has, Covers, how long lists are. -/
import Derived.Test.YtcejebelellemaaTl
namespace Go.Proofs.Ytcejebelellemaa
open Go.RowKit Go.IntWalk
set_option linter.unusedSimpArgs false
set_option linter.unusedVariables false

/-- Neither end is longer than 100 bytes. -/
def Brief (x : Sp) : Prop := x.1.size ≤ 100 ∧ x.2.size ≤ 100

def LongPost (l : List Sp) (m : Nat) (w : World) (e : Ending) (w' : World) : Prop := ∃ b, e = .returned (.bool b) ∧ w' = w ∧ (b = false → l.length ≤ m ∧ ∀ x ∈ l, Brief x)

set_option maxRecDepth 100000 in
set_option maxHeartbeats 1000000 in
theorem long_any (ao : Option Addr) (cap : Nat) (l : List Sp) (m : Nat) (w : World) (h : l = [] ∨ SpsAt w ao l) (hl : l.length ≤ 9223372036854775807) (hm : m ≤ 1000000) :
    Calls Try.prog 26 #[.slice ao l.length cap, .int .i64 m] w (LongPost l m w) := by
  have HH := hideIt h
  clear h
  go_enter Try.func26, Try.ntmps26
  go_wp2_with fail
  go_loop [5] (fun i => ∃ k : Nat, i = .int .i64 k ∧ k ≤ l.length ∧ k ≤ m + 1 ∧ Hid (∀ x ∈ l.take k, Brief x)) (fun i => l.length - (intOf i).toNat)
  case atStart => exact ⟨0, rfl, Nat.zero_le _, Nat.zero_le _, hideIt (by simp)⟩
  case round =>
    obtain ⟨k, rfl, hk, hkm, HB⟩ := hrel
    by_cases hlt : k < l.length
    · by_cases hm1 : k ≤ m
      · obtain ⟨b, off, rfl, hbl, c0, c1⟩ := SpsAt.get HH.out k hlt
        have HT := hideIt (List.take_succ_eq_append_getElem hlt)
        generalize l[k] = x at *
        by_cases h0 : 100 < x.1.size
        · have h0' : (100 : Int) < (x.1.size : Int) := by omega
          go_wp2_with fail
          go_ret
          exact ⟨true, rfl, rfl, fun e => by cases e⟩
        · have h0' : ¬ (100 : Int) < (x.1.size : Int) := by omega
          by_cases h1 : 100 < x.2.size
          · have h1' : (100 : Int) < (x.2.size : Int) := by omega
            go_wp2_with fail
            go_ret
            exact ⟨true, rfl, rfl, fun e => by cases e⟩
          · have h1' : ¬ (100 : Int) < (x.2.size : Int) := by omega
            have HX := hideIt (show Brief x from ⟨by omega, by omega⟩)
            go_wp2_with fail
            go_round
            case rel => exact ⟨k + 1, by go_num, by omega, by omega, hideIt (fun y hy => by rw [HT.out] at hy; rcases List.mem_append.1 hy with e | e; exact HB.out y e; rw [List.mem_singleton.1 e]; exact HX.out)⟩
            case measure => simp [intOf]; omega
      · obtain rfl : k = m + 1 := by omega
        go_wp2_with fail
        go_ret
        exact ⟨_, rfl, rfl, fun e => absurd hlt (by have := of_decide_eq_false e; omega)⟩
    · obtain rfl : k = l.length := by omega
      go_wp2_with fail
      go_ret
      refine ⟨_, rfl, rfl, fun e => ⟨?_, ?_⟩⟩
      · have := of_decide_eq_false e
        omega
      · have := HB.out
        rwa [List.take_length] at this

theorem has1_any (x : Sp) (pk : Nat) (k : ByteArray) (w : World) (hc : w.cell? ⟨pk, 0, none⟩ = some (.string k)) :
    Calls Try.prog 44 #[.agg #[.string x.1, .string x.2], .pointer (some ⟨pk, 0, none⟩)] w fun e w' => e = .returned (.bool (decide (KeyIn x k.toList))) ∧ Fr (fun _ => False) w w' := by
  have hI := hideIt (fun w => in_any x k w)
  generalize decide (KeyIn x k.toList) = v at *
  have hc' := cellA hc (.cells #[.string x.1, .string x.2] 41)
  clear hc
  go_enter Try.func44, Try.ntmps44
  go_wp2_with fail
  refine Calls.mono (hI.out _) ?_
  rintro e w1 ⟨rfl, hF⟩
  go_wp2_with fail
  go_ret
  exact ⟨rfl, ((Fr.refl _ _).alloc _).trans hF (fun _ _ e => e)⟩

/-- A key is in one of some. -/
def hasB (l : List Sp) (k : By) : Bool := l.any fun s => decide (KeyIn s k)

theorem hasB_iff (l : List Sp) (k : By) : hasB l k = true ↔ HasK l k := by
  unfold hasB HasK
  rw [List.any_eq_true]
  simp only [decide_eq_true_eq]

set_option maxRecDepth 100000 in
set_option maxHeartbeats 1000000 in
theorem idx_any (ao : Option Addr) (cap : Nat) (l : List Sp) (pk : Nat) (k : ByteArray) (w : World) (h : l = [] ∨ SpsAt w ao l) (hc : w.cell? ⟨pk, 0, none⟩ = some (.string k)) (hl : l.length ≤ 9223372036854775807) :
    Calls Try.prog 59 #[.slice ao l.length cap, .func (.func 44) #[] #[.pointer (some ⟨pk, 0, none⟩)]] w fun e w' => ∃ n : Int, e = .returned (.int .i64 n) ∧ decide (0 ≤ n) = hasB l k.toList ∧ Fr (fun _ => False) w w' := by
  have HH := hideIt h
  have HC := hideIt hc
  clear h hc
  go_enter Try.func59, Try.ntmps59
  go_wp2_with fail
  go_loopw [8] (fun i wr => ∃ j : Nat, i = .int .i64 j ∧ j ≤ l.length ∧ Hid (∀ x ∈ l.take j, decide (KeyIn x k.toList) = false) ∧ Fr (fun _ => False) w wr) (fun i _ => l.length - (intOf i).toNat)
  case atStart => exact ⟨0, rfl, Nat.zero_le _, hideIt (by simp), Fr.refl _ _⟩
  case round =>
    obtain ⟨j, rfl, hj, HB, hF⟩ := hrel
    by_cases hlt : j < l.length
    · obtain ⟨b, off, rfl, hbl, c0, c1⟩ := SpsAt.get (ats_fr0 HH.out hF) j hlt
      have HT := hideIt (List.take_succ_eq_append_getElem hlt)
      have HM := hideIt (List.getElem_mem hlt)
      have HF := hideIt hF
      have h1 := hideIt (fun w' (hF' : Fr (fun _ => False) w w') => has1_any l[j] pk k w' (hF'.cell0 HC.out))
      clear hF
      generalize l[j] = x at *
      by_cases hx : decide (KeyIn x k.toList) = true
      · rw [hx] at h1
        have HX := hideIt hx
        clear hx
        go_wp2_with fail
        refine Calls.mono (h1.out _ HF.out) ?_
        rintro e w1 ⟨rfl, hF1⟩
        go_wp2_with fail
        go_ret
        refine ⟨j, rfl, ?_, HF.out.trans hF1 (fun _ _ e => e)⟩
        have e1 : hasB l k.toList = true := List.any_eq_true.2 ⟨x, HM.out, HX.out⟩
        rw [e1]
        exact decide_eq_true (by omega)
      · have hx' : decide (KeyIn x k.toList) = false := by simpa using hx
        rw [hx'] at h1
        have HX := hideIt hx'
        clear hx hx'
        go_wp2_with fail
        refine Calls.mono (h1.out _ HF.out) ?_
        rintro e w1 ⟨rfl, hF1⟩
        have HF1 := hideIt hF1
        clear hF1
        go_wp2_with fail
        go_roundw
        case measure => simp [intOf]; omega
        case rel => exact ⟨j + 1, by go_num, by omega, hideIt (fun y hy => by rw [HT.out] at hy; rcases List.mem_append.1 hy with e | e; exact HB.out y e; rw [List.mem_singleton.1 e]; exact HX.out), HF.out.trans HF1.out (fun _ _ e => e)⟩
    · obtain rfl : j = l.length := by omega
      have HF := hideIt hF
      clear hF
      go_wp2_with fail
      go_ret
      refine ⟨-1, rfl, ?_, HF.out⟩
      have e1 : hasB l k.toList = false := List.any_eq_false.2 (fun x hx => by have := HB.out; rw [List.take_length] at this; simpa using this x hx)
      rw [e1]
      decide

theorem has_any (ao : Option Addr) (cap : Nat) (l : List Sp) (k : ByteArray) (w : World) (h : l = [] ∨ SpsAt w ao l) (hl : l.length ≤ 9223372036854775807) :
    Calls Try.prog 32 #[.slice ao l.length cap, .string k] w fun e w' => e = .returned (.bool (hasB l k.toList)) ∧ Fr (fun _ => False) w w' := by
  have hF0 : Fr (fun _ => False) w (w.alloc (.cells #[.string k] 9)) := (Fr.refl _ _).alloc _
  have hI := hideIt (idx_any ao cap l w.heap.size k _ (ats_fr0 h hF0) (cellNew w #[.string k] 9 _ 0 rfl) hl)
  have HF0 := hideIt hF0
  clear h hF0
  generalize hasB l k.toList = v at *
  go_enter Try.func32, Try.ntmps32
  go_wp2_with (first | (go_at_call 43; go_in) | (go_at_call 59; refine Calls.mono hI.out ?_; rintro e w1 ⟨n, rfl, hn, hF1⟩))
  go_ret
  first | exact ⟨rfl, HF0.out.trans hF1 (fun _ _ e => e)⟩ | exact ⟨rb hn, HF0.out.trans hF1 (fun _ _ e => e)⟩

end Go.Proofs.Ytcejebelellemaa
