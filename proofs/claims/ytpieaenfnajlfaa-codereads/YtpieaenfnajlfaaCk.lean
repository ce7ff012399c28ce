/- Code: Read; what the chapter's examples say (is, fails). -/
import Derived.Test.YtpieaenfnajlfaaCj1
import Derived.Test.YtpieaenfnajlfaaCj2
import Derived.Test.YtpieaenfnajlfaaCj3
import Derived.Test.YtpieaenfnajlfaaCg
namespace Go.Proofs.Ytpieaenfnajlfaa
open Go.RowKit Go.IntWalk Go.Lib
set_option linter.unusedSimpArgs false
set_option linter.unusedVariables false

theorem read_any (ao : Option Addr) (cap : Nat) (bs : List UInt8) (at_ : Int) (w : World) (h : BsAt w ao bs) (hcap0 : ao = none → cap = 0) (hcl : bs.length ≤ cap) (hb : bs.length ≤ 140737488355328) :
    Calls Try.prog 18 #[.slice ao bs.length cap, .int .i64 at_] w fun e w' => e = .returned (readV (readR bs at_)) ∧ Fr (fun _ => False) w w' := by
  by_cases hx : at_ < 0 ∨ (bs.length : Int) < at_
  · exact read_out ao cap bs at_ w hx
  · obtain ⟨a, rfl⟩ : ∃ a : Nat, at_ = a := ⟨at_.toNat, by omega⟩
    have hale : a ≤ bs.length := by omega
    by_cases h1 : cap = a
    · exact read_in1 ao cap bs a w h hcap0 hcl hb hale h1
    by_cases h2 : (bs.length : Int) ≤ (a : Int) + 67
    · exact read_in2 ao cap bs a w h hcap0 hcl hb hale h1 h2
    · exact read_in3 ao cap bs a w h hcap0 hcl hb hale h1 (by omega)

theorem is_good (i : Ins) (h0 : checkE i = 0) (bo : Option Addr) (cb : Nat) (bs : List UInt8) (w : World) (h : BsAt w bo bs) :
    Calls Try.prog 21 #[.agg (icells i), .slice bo bs.length cb] w fun e w' => e = .returned (.bool (codeI i == bs)) ∧ Fr (fun _ => False) w w' := by
  have HB := hideIt (fun w => by have := bytes_any i w; unfold BytesP at this; rw [h0] at this; exact this)
  clear h0
  obtain ⟨op, a, b, c, n, s⟩ := i
  unfold icells
  go_enter Try.func21, Try.ntmps21
  go_wp2_with fail
  refine Calls.mono (HB.out _) ?_
  rintro e w1 ⟨ao1, cap1, rfl, hfull, hF1, hnew⟩
  have HF1 := hideIt (((Fr.refl (fun _ => False) w).alloc _).trans hF1 (fun _ _ e => e))
  have HS := hideIt (same_any ao1 bo cap1 cb _ bs w1 hfull.bs (h.fr HF1.out (fun _ _ _ e => e)))
  clear hfull hF1 hnew HB
  generalize hX : codeI ⟨op, a, b, c, n, s⟩ = X at *
  go_wp2_with fail
  refine Calls.mono HS.out ?_
  rintro e w2 ⟨rfl, rfl⟩
  go_wp2_with fail
  go_ret
  exact ⟨by rw [hX]; rfl, HF1.out⟩

theorem bs_new (u : World) (bs : List UInt8) (C : Array Value) (hC : (bv bs).toArray = C) (hl : bs.length ≤ 100) : BsAt (u.alloc (.cells C 5)) (some ⟨u.heap.size, 0, none⟩) bs := by
  subst hC
  refine Full.bs (cap := bs.length) (Or.inr ⟨u.heap.size, [], rfl, by rw [List.append_nil]; exact heap_new rfl, by simp, ?_⟩)
  unfold maxLen
  omega

theorem is_new (i : Ins) (m : Nat) (hG : Good i m) (bs : List UInt8) (C : Array Value) (n : Nat) (hC : (bv bs).toArray = C) (hn : bs.length = n) (hc : codeL i = bs) (hl : n ≤ 100) (u : World) (k : Nat) (hk : k = u.heap.size) :
    Calls Try.prog 21 #[.agg (icells i), .slice (some ⟨k, 0, none⟩) n n] (u.alloc (.cells C 5)) fun e w' => e = .returned (.bool true) ∧ Fr (fun _ => False) (u.alloc (.cells C 5)) w' := by
  subst hn hk
  have := is_good i hG.check (some ⟨u.heap.size, 0, none⟩) bs.length bs _ (bs_new u bs C hC hl)
  have e : (codeI i == bs) = true := by unfold codeI; rw [if_pos hG.check, hc]; exact beq_self_eq_true bs
  rw [e] at this
  exact this

theorem zI : icells zeroI = #[.int .i64 0, .int .i64 0, .int .i64 0, .int .i64 0, .int .i64 0, .string ⟨#[]⟩] := rfl

set_option maxRecDepth 100000 in
set_option maxHeartbeats 2000000 in
theorem fails_true (ao : Option Addr) (cap : Nat) (bs : List UInt8) (at_ f1 f2 : Int) (w : World) (h : BsAt w ao bs) (hcap0 : ao = none → cap = 0) (hcl : bs.length ≤ cap) (hb : bs.length ≤ 140737488355328) (hr : readR bs at_ = (zeroI, 0, f1, f2)) :
    Calls Try.prog 22 #[.slice ao bs.length cap, .int .i64 at_, .agg #[.int .i64 f1, .int .i64 f2]] w fun e w' => e = .returned (.bool true) ∧ Fr (fun _ => False) w w' := by
  have HR := hideIt (fun w' (hF : Fr (fun _ => False) w w') => show Calls Try.prog 18 #[.slice ao bs.length cap, .int .i64 at_] w' (fun e w'' => e = .returned (.tuple #[.agg #[.int .i64 0, .int .i64 0, .int .i64 0, .int .i64 0, .int .i64 0, .string ⟨#[]⟩], .int .i64 0, .agg #[.int .i64 f1, .int .i64 f2]]) ∧ Fr (fun _ => False) w' w'') from by
    have := read_any ao cap bs at_ w' (h.fr hF (fun _ _ _ e => e)) hcap0 hcl hb
    rw [hr] at this
    exact this)
  clear h hr hcl hcap0 hb
  go_enter Try.func22, Try.ntmps22
  go_wp2_with fail
  refine Calls.mono (HR.out _ ((Fr.refl _ _).alloc _)) ?_
  rintro e w1 ⟨rfl, hF1⟩
  have HF1 := hideIt (((Fr.refl (fun _ => False) w).alloc (.cells #[.int .i64 f1, .int .i64 f2] 36)).trans hF1 (fun _ _ e => e))
  have hB := (hF1.block w.heap.size (by simp) (fun e => e)).trans (heap_new rfl)
  have hB0 := cellOfHeap hB 0 rfl
  have hB1 := cellOfHeap hB 1 rfl
  have hlt : w.heap.size < w1.heap.size := (Array.getElem?_eq_some_iff.1 hB).1
  have hne : w.heap.size ≠ w1.heap.size := by omega
  have hne2 : w.heap.size ≠ w1.heap.size + 1 := by omega
  clear hF1 HR
  go_wp2_with fail
  go_ret
  exact ⟨rfl, (HF1.out.alloc _).alloc _⟩

theorem read_new (bs : List UInt8) (C : Array Value) (n : Nat) (at_ : Int) (v : Value) (hC : (bv bs).toArray = C) (hn : bs.length = n) (hr : readV (readR bs at_) = v) (hl : n ≤ 100) (u : World) (k : Nat) (hk : k = u.heap.size) :
    Calls Try.prog 18 #[.slice (some ⟨k, 0, none⟩) n n, .int .i64 at_] (u.alloc (.cells C 5)) fun e w' => e = .returned v ∧ Fr (fun _ => False) (u.alloc (.cells C 5)) w' := by
  subst hn hr hk
  exact read_any (some ⟨u.heap.size, 0, none⟩) bs.length bs at_ _ (bs_new u bs C hC hl) (fun e => by cases e) (Nat.le_refl _) (by omega)

theorem fails_new (bs : List UInt8) (C : Array Value) (n : Nat) (at_ f1 f2 : Int) (hC : (bv bs).toArray = C) (hn : bs.length = n) (hr : readR bs at_ = (zeroI, 0, f1, f2)) (hl : n ≤ 100) (u : World) (k : Nat) (hk : k = u.heap.size) :
    Calls Try.prog 22 #[.slice (some ⟨k, 0, none⟩) n n, .int .i64 at_, .agg #[.int .i64 f1, .int .i64 f2]] (u.alloc (.cells C 5)) fun e w' => e = .returned (.bool true) ∧ Fr (fun _ => False) (u.alloc (.cells C 5)) w' := by
  subst hn hk
  exact fails_true (some ⟨u.heap.size, 0, none⟩) bs.length bs at_ f1 f2 _ (bs_new u bs C hC hl) (fun e => by cases e) (Nat.le_refl _) (by omega) hr

end Go.Proofs.Ytpieaenfnajlfaa
