/- ProgKnown, part 12 of the road: what the program's functions do, each by its own walk. -/
import Derived.Test.YtojgikaoiegmpaaQ6

/- Code: the document's Read. -/
namespace Go.Proofs.Ytojgikaoiegmpaa
open Go.RowKit Go.IntWalk Go.Lib
set_option linter.unusedSimpArgs false
set_option linter.unusedVariables false
set_option maxRecDepth 100000

theorem tkA {bs : List UInt8} {j : Ins} {s s' : Nat × Int × Int} {v : Int} (h : rInt bs 0 7 s = (v, s')) : tk bs 65 j s = (j.put 1 v, s') := by show (j.put 1 (rInt bs 0 7 s).1, (rInt bs 0 7 s).2) = _; rw [h]
theorem tkB {bs : List UInt8} {j : Ins} {s s' : Nat × Int × Int} {v : Int} (h : rInt bs 0 7 s = (v, s')) : tk bs 66 j s = (j.put 2 v, s') := by show (j.put 2 (rInt bs 0 7 s).1, (rInt bs 0 7 s).2) = _; rw [h]
theorem tkC {bs : List UInt8} {j : Ins} {s s' : Nat × Int × Int} {v : Int} (h : rInt bs 0 7 s = (v, s')) : tk bs 67 j s = (j.put 3 v, s') := by show (j.put 3 (rInt bs 0 7 s).1, (rInt bs 0 7 s).2) = _; rw [h]
theorem tkE {bs : List UInt8} {j : Ins} {s s' : Nat × Int × Int} {v : Int} (h : rInt bs 1 16 s = (v, s')) : tk bs 69 j s = (j.put 4 v, s') := by show (j.put 4 (rInt bs 1 16 s).1, (rInt bs 1 16 s).2) = _; rw [h]
theorem tkP {bs : List UInt8} {j : Ins} {s s' : Nat × Int × Int} {v : Int} (h : rInt bs 1 60 s = (v, s')) : tk bs 80 j s = (j.put 4 v, s') := by show (j.put 4 (rInt bs 1 60 s).1, (rInt bs 1 60 s).2) = _; rw [h]
theorem tkS {bs : List UInt8} {j : Ins} {s s' : Nat × Int × Int} {x : List UInt8} (h : rText bs 64 s = (x, s')) : tk bs 83 j s = ({ j with s := ⟨x.toArray⟩ }, s') := by show (({ j with s := ⟨(rText bs 64 s).1.toArray⟩ } : Ins), (rText bs 64 s).2) = _; rw [h]

theorem vread_out (ao : Option Addr) (cap : Nat) (bs : List UInt8) (at_ : Int) (w : World) (h : at_ < 0 ∨ (bs.length : Int) < at_) :
    Calls Try.prog 32 #[.slice ao bs.length cap, .int .i64 at_] w fun e w' => e = .returned (readV (readR bs at_)) ∧ Fr (fun _ => False) w w' := by
  have hr : readV (readR bs at_) = .tuple #[.agg (icells zeroI), .int .i64 0, .agg #[.int .i64 5, .int .i64 0]] := by unfold readR; rw [if_pos h]; rfl
  rw [hr]
  clear hr
  by_cases h1 : at_ < 0
  · have hd : decide (at_ < 0) = true := by simp [h1]
    clear h
    go_enter Try.func32, Try.ntmps32
    go_wp2_with fail
    refine bodyPost_ret (v := .tuple #[.agg (icells zeroI), .int .i64 0, .agg #[.int .i64 5, .int .i64 0]]) (by simp [results, Try.results32, go_sem, icells, zeroI]) rfl ⟨rfl, ?_⟩
    exact ((Fr.refl _ _).alloc _).alloc _
  · have h2 : (bs.length : Int) < at_ := h.resolve_left h1
    have hd : decide (at_ < 0) = false := by simp [h1]
    have hd2 : decide ((bs.length : Int) < at_) = true := by simp [h2]
    clear h
    go_enter Try.func32, Try.ntmps32
    go_wp2_with fail
    refine bodyPost_ret (v := .tuple #[.agg (icells zeroI), .int .i64 0, .agg #[.int .i64 5, .int .i64 0]]) (by simp [results, Try.results32, go_sem, icells, zeroI]) rfl ⟨rfl, ?_⟩
    exact ((Fr.refl _ _).alloc _).alloc _

section
variable (ao : Option Addr) (cap : Nat) (bs : List UInt8) (a : Nat) (w : World) (hB : BsAt w ao bs) (hb : bs.length ≤ 140737488355328) (hcl : bs.length ≤ cap) (hcm : cap ≤ maxLen) (hnb : ∀ k, blk ao k → k < w.heap.size) (ha : a ≤ bs.length)
include hB hb hcl hcm hnb ha
theorem vr0 (s0 : Nat × Int × Int) (h0 : rInt bs 1 15 (a, 0, 0) = (0, s0)) : Calls Try.prog 32 #[.slice ao bs.length cap, .int .i64 (a : Int)] w fun e w' => e = .returned (readV (refR bs a)) ∧ Fr (fun _ => False) w w' := by
  have ht : tks bs (ltrs 0) (⟨0, 0, 0, 0, 0, ⟨#[]⟩⟩, s0) = (⟨0, 0, 0, 0, 0, ⟨#[]⟩⟩, s0) := by
    rw [show ltrs 0 = [] from by decide]
    rfl
  have hR : refR bs a = endR ⟨0, 0, 0, 0, 0, ⟨#[]⟩⟩ s0 := by
    unfold refR
    rw [h0]
    show endR (tks bs (ltrs 0) (⟨0, 0, 0, 0, 0, ⟨#[]⟩⟩, s0)).1 (tks bs (ltrs 0) (⟨0, 0, 0, 0, 0, ⟨#[]⟩⟩, s0)).2 = _
    rw [ht]
  rw [hR]
  exact vread_O ao cap bs a w hB hb hcl hcm hnb ha 0 s0 h0  rfl

theorem vr1 (s0 : Nat × Int × Int) (h0 : rInt bs 1 15 (a, 0, 0) = (1, s0)) : Calls Try.prog 32 #[.slice ao bs.length cap, .int .i64 (a : Int)] w fun e w' => e = .returned (readV (refR bs a)) ∧ Fr (fun _ => False) w w' := by
  obtain ⟨vA, s1, h1⟩ : ∃ v s, rInt bs 0 7 s0 = (v, s) := ⟨_, _, rfl⟩
  obtain ⟨vS, s2, h2⟩ : ∃ v s, rText bs 64 s1 = (v, s) := ⟨_, _, rfl⟩
  have ht : tks bs (ltrs 1) (⟨1, 0, 0, 0, 0, ⟨#[]⟩⟩, s0) = (⟨1, vA, 0, 0, 0, ⟨vS.toArray⟩⟩, s2) := by
    rw [show ltrs 1 = [65, 83] from by decide]
    show tks bs [83] (tk bs 65 ⟨1, 0, 0, 0, 0, ⟨#[]⟩⟩ s0) = _
    rw [tkA h1]
    show tks bs [] (tk bs 83 ⟨1, vA, 0, 0, 0, ⟨#[]⟩⟩ s1) = _
    rw [tkS h2]
    rfl
  have hR : refR bs a = endR ⟨1, vA, 0, 0, 0, ⟨vS.toArray⟩⟩ s2 := by
    unfold refR
    rw [h0]
    show endR (tks bs (ltrs 1) (⟨1, 0, 0, 0, 0, ⟨#[]⟩⟩, s0)).1 (tks bs (ltrs 1) (⟨1, 0, 0, 0, 0, ⟨#[]⟩⟩, s0)).2 = _
    rw [ht]
  rw [hR]
  exact vread_AS ao cap bs a w hB hb hcl hcm hnb ha 1 vA vS s0 s1 s2 h0 h1 h2 rfl

theorem vr2 (s0 : Nat × Int × Int) (h0 : rInt bs 1 15 (a, 0, 0) = (2, s0)) : Calls Try.prog 32 #[.slice ao bs.length cap, .int .i64 (a : Int)] w fun e w' => e = .returned (readV (refR bs a)) ∧ Fr (fun _ => False) w w' := by
  obtain ⟨vA, s1, h1⟩ : ∃ v s, rInt bs 0 7 s0 = (v, s) := ⟨_, _, rfl⟩
  obtain ⟨vB, s2, h2⟩ : ∃ v s, rInt bs 0 7 s1 = (v, s) := ⟨_, _, rfl⟩
  have ht : tks bs (ltrs 2) (⟨2, 0, 0, 0, 0, ⟨#[]⟩⟩, s0) = (⟨2, vA, vB, 0, 0, ⟨#[]⟩⟩, s2) := by
    rw [show ltrs 2 = [65, 66] from by decide]
    show tks bs [66] (tk bs 65 ⟨2, 0, 0, 0, 0, ⟨#[]⟩⟩ s0) = _
    rw [tkA h1]
    show tks bs [] (tk bs 66 ⟨2, vA, 0, 0, 0, ⟨#[]⟩⟩ s1) = _
    rw [tkB h2]
    rfl
  have hR : refR bs a = endR ⟨2, vA, vB, 0, 0, ⟨#[]⟩⟩ s2 := by
    unfold refR
    rw [h0]
    show endR (tks bs (ltrs 2) (⟨2, 0, 0, 0, 0, ⟨#[]⟩⟩, s0)).1 (tks bs (ltrs 2) (⟨2, 0, 0, 0, 0, ⟨#[]⟩⟩, s0)).2 = _
    rw [ht]
  rw [hR]
  exact vread_AB ao cap bs a w hB hb hcl hcm hnb ha 2 vA vB s0 s1 s2 h0 h1 h2 rfl

theorem vr3 (s0 : Nat × Int × Int) (h0 : rInt bs 1 15 (a, 0, 0) = (3, s0)) : Calls Try.prog 32 #[.slice ao bs.length cap, .int .i64 (a : Int)] w fun e w' => e = .returned (readV (refR bs a)) ∧ Fr (fun _ => False) w w' := by
  obtain ⟨vA, s1, h1⟩ : ∃ v s, rInt bs 0 7 s0 = (v, s) := ⟨_, _, rfl⟩
  obtain ⟨vB, s2, h2⟩ : ∃ v s, rInt bs 0 7 s1 = (v, s) := ⟨_, _, rfl⟩
  obtain ⟨vC, s3, h3⟩ : ∃ v s, rInt bs 0 7 s2 = (v, s) := ⟨_, _, rfl⟩
  have ht : tks bs (ltrs 3) (⟨3, 0, 0, 0, 0, ⟨#[]⟩⟩, s0) = (⟨3, vA, vB, vC, 0, ⟨#[]⟩⟩, s3) := by
    rw [show ltrs 3 = [65, 66, 67] from by decide]
    show tks bs [66, 67] (tk bs 65 ⟨3, 0, 0, 0, 0, ⟨#[]⟩⟩ s0) = _
    rw [tkA h1]
    show tks bs [67] (tk bs 66 ⟨3, vA, 0, 0, 0, ⟨#[]⟩⟩ s1) = _
    rw [tkB h2]
    show tks bs [] (tk bs 67 ⟨3, vA, vB, 0, 0, ⟨#[]⟩⟩ s2) = _
    rw [tkC h3]
    rfl
  have hR : refR bs a = endR ⟨3, vA, vB, vC, 0, ⟨#[]⟩⟩ s3 := by
    unfold refR
    rw [h0]
    show endR (tks bs (ltrs 3) (⟨3, 0, 0, 0, 0, ⟨#[]⟩⟩, s0)).1 (tks bs (ltrs 3) (⟨3, 0, 0, 0, 0, ⟨#[]⟩⟩, s0)).2 = _
    rw [ht]
  rw [hR]
  exact vread_ABC ao cap bs a w hB hb hcl hcm hnb ha 3 vA vB vC s0 s1 s2 s3 h0 h1 h2 h3 rfl

theorem vr4 (s0 : Nat × Int × Int) (h0 : rInt bs 1 15 (a, 0, 0) = (4, s0)) : Calls Try.prog 32 #[.slice ao bs.length cap, .int .i64 (a : Int)] w fun e w' => e = .returned (readV (refR bs a)) ∧ Fr (fun _ => False) w w' := by
  obtain ⟨vA, s1, h1⟩ : ∃ v s, rInt bs 0 7 s0 = (v, s) := ⟨_, _, rfl⟩
  obtain ⟨vB, s2, h2⟩ : ∃ v s, rInt bs 0 7 s1 = (v, s) := ⟨_, _, rfl⟩
  have ht : tks bs (ltrs 4) (⟨4, 0, 0, 0, 0, ⟨#[]⟩⟩, s0) = (⟨4, vA, vB, 0, 0, ⟨#[]⟩⟩, s2) := by
    rw [show ltrs 4 = [65, 66] from by decide]
    show tks bs [66] (tk bs 65 ⟨4, 0, 0, 0, 0, ⟨#[]⟩⟩ s0) = _
    rw [tkA h1]
    show tks bs [] (tk bs 66 ⟨4, vA, 0, 0, 0, ⟨#[]⟩⟩ s1) = _
    rw [tkB h2]
    rfl
  have hR : refR bs a = endR ⟨4, vA, vB, 0, 0, ⟨#[]⟩⟩ s2 := by
    unfold refR
    rw [h0]
    show endR (tks bs (ltrs 4) (⟨4, 0, 0, 0, 0, ⟨#[]⟩⟩, s0)).1 (tks bs (ltrs 4) (⟨4, 0, 0, 0, 0, ⟨#[]⟩⟩, s0)).2 = _
    rw [ht]
  rw [hR]
  exact vread_AB ao cap bs a w hB hb hcl hcm hnb ha 4 vA vB s0 s1 s2 h0 h1 h2 rfl

theorem vr5 (s0 : Nat × Int × Int) (h0 : rInt bs 1 15 (a, 0, 0) = (5, s0)) : Calls Try.prog 32 #[.slice ao bs.length cap, .int .i64 (a : Int)] w fun e w' => e = .returned (readV (refR bs a)) ∧ Fr (fun _ => False) w w' := by
  obtain ⟨vA, s1, h1⟩ : ∃ v s, rInt bs 0 7 s0 = (v, s) := ⟨_, _, rfl⟩
  have ht : tks bs (ltrs 5) (⟨5, 0, 0, 0, 0, ⟨#[]⟩⟩, s0) = (⟨5, vA, 0, 0, 0, ⟨#[]⟩⟩, s1) := by
    rw [show ltrs 5 = [65] from by decide]
    show tks bs [] (tk bs 65 ⟨5, 0, 0, 0, 0, ⟨#[]⟩⟩ s0) = _
    rw [tkA h1]
    rfl
  have hR : refR bs a = endR ⟨5, vA, 0, 0, 0, ⟨#[]⟩⟩ s1 := by
    unfold refR
    rw [h0]
    show endR (tks bs (ltrs 5) (⟨5, 0, 0, 0, 0, ⟨#[]⟩⟩, s0)).1 (tks bs (ltrs 5) (⟨5, 0, 0, 0, 0, ⟨#[]⟩⟩, s0)).2 = _
    rw [ht]
  rw [hR]
  exact vread_A ao cap bs a w hB hb hcl hcm hnb ha 5 vA s0 s1 h0 h1 rfl

theorem vr6 (s0 : Nat × Int × Int) (h0 : rInt bs 1 15 (a, 0, 0) = (6, s0)) : Calls Try.prog 32 #[.slice ao bs.length cap, .int .i64 (a : Int)] w fun e w' => e = .returned (readV (refR bs a)) ∧ Fr (fun _ => False) w w' := by
  obtain ⟨vA, s1, h1⟩ : ∃ v s, rInt bs 0 7 s0 = (v, s) := ⟨_, _, rfl⟩
  obtain ⟨vB, s2, h2⟩ : ∃ v s, rInt bs 0 7 s1 = (v, s) := ⟨_, _, rfl⟩
  obtain ⟨vC, s3, h3⟩ : ∃ v s, rInt bs 0 7 s2 = (v, s) := ⟨_, _, rfl⟩
  obtain ⟨vE, s4, h4⟩ : ∃ v s, rInt bs 1 16 s3 = (v, s) := ⟨_, _, rfl⟩
  have ht : tks bs (ltrs 6) (⟨6, 0, 0, 0, 0, ⟨#[]⟩⟩, s0) = (⟨6, vA, vB, vC, vE, ⟨#[]⟩⟩, s4) := by
    rw [show ltrs 6 = [65, 66, 67, 69] from by decide]
    show tks bs [66, 67, 69] (tk bs 65 ⟨6, 0, 0, 0, 0, ⟨#[]⟩⟩ s0) = _
    rw [tkA h1]
    show tks bs [67, 69] (tk bs 66 ⟨6, vA, 0, 0, 0, ⟨#[]⟩⟩ s1) = _
    rw [tkB h2]
    show tks bs [69] (tk bs 67 ⟨6, vA, vB, 0, 0, ⟨#[]⟩⟩ s2) = _
    rw [tkC h3]
    show tks bs [] (tk bs 69 ⟨6, vA, vB, vC, 0, ⟨#[]⟩⟩ s3) = _
    rw [tkE h4]
    rfl
  have hR : refR bs a = endR ⟨6, vA, vB, vC, vE, ⟨#[]⟩⟩ s4 := by
    unfold refR
    rw [h0]
    show endR (tks bs (ltrs 6) (⟨6, 0, 0, 0, 0, ⟨#[]⟩⟩, s0)).1 (tks bs (ltrs 6) (⟨6, 0, 0, 0, 0, ⟨#[]⟩⟩, s0)).2 = _
    rw [ht]
  rw [hR]
  exact vread_ABCN ao cap bs a w hB hb hcl hcm hnb ha 6 vA vB vC vE 16 s0 s1 s2 s3 s4 h0 h1 h2 h3 h4 rfl rfl

theorem vr7 (s0 : Nat × Int × Int) (h0 : rInt bs 1 15 (a, 0, 0) = (7, s0)) : Calls Try.prog 32 #[.slice ao bs.length cap, .int .i64 (a : Int)] w fun e w' => e = .returned (readV (refR bs a)) ∧ Fr (fun _ => False) w w' := by
  obtain ⟨vA, s1, h1⟩ : ∃ v s, rInt bs 0 7 s0 = (v, s) := ⟨_, _, rfl⟩
  obtain ⟨vB, s2, h2⟩ : ∃ v s, rInt bs 0 7 s1 = (v, s) := ⟨_, _, rfl⟩
  obtain ⟨vC, s3, h3⟩ : ∃ v s, rInt bs 0 7 s2 = (v, s) := ⟨_, _, rfl⟩
  have ht : tks bs (ltrs 7) (⟨7, 0, 0, 0, 0, ⟨#[]⟩⟩, s0) = (⟨7, vA, vB, vC, 0, ⟨#[]⟩⟩, s3) := by
    rw [show ltrs 7 = [65, 66, 67] from by decide]
    show tks bs [66, 67] (tk bs 65 ⟨7, 0, 0, 0, 0, ⟨#[]⟩⟩ s0) = _
    rw [tkA h1]
    show tks bs [67] (tk bs 66 ⟨7, vA, 0, 0, 0, ⟨#[]⟩⟩ s1) = _
    rw [tkB h2]
    show tks bs [] (tk bs 67 ⟨7, vA, vB, 0, 0, ⟨#[]⟩⟩ s2) = _
    rw [tkC h3]
    rfl
  have hR : refR bs a = endR ⟨7, vA, vB, vC, 0, ⟨#[]⟩⟩ s3 := by
    unfold refR
    rw [h0]
    show endR (tks bs (ltrs 7) (⟨7, 0, 0, 0, 0, ⟨#[]⟩⟩, s0)).1 (tks bs (ltrs 7) (⟨7, 0, 0, 0, 0, ⟨#[]⟩⟩, s0)).2 = _
    rw [ht]
  rw [hR]
  exact vread_ABC ao cap bs a w hB hb hcl hcm hnb ha 7 vA vB vC s0 s1 s2 s3 h0 h1 h2 h3 rfl

theorem vr8 (s0 : Nat × Int × Int) (h0 : rInt bs 1 15 (a, 0, 0) = (8, s0)) : Calls Try.prog 32 #[.slice ao bs.length cap, .int .i64 (a : Int)] w fun e w' => e = .returned (readV (refR bs a)) ∧ Fr (fun _ => False) w w' := by
  obtain ⟨vA, s1, h1⟩ : ∃ v s, rInt bs 0 7 s0 = (v, s) := ⟨_, _, rfl⟩
  obtain ⟨vB, s2, h2⟩ : ∃ v s, rInt bs 0 7 s1 = (v, s) := ⟨_, _, rfl⟩
  obtain ⟨vC, s3, h3⟩ : ∃ v s, rInt bs 0 7 s2 = (v, s) := ⟨_, _, rfl⟩
  have ht : tks bs (ltrs 8) (⟨8, 0, 0, 0, 0, ⟨#[]⟩⟩, s0) = (⟨8, vA, vB, vC, 0, ⟨#[]⟩⟩, s3) := by
    rw [show ltrs 8 = [65, 66, 67] from by decide]
    show tks bs [66, 67] (tk bs 65 ⟨8, 0, 0, 0, 0, ⟨#[]⟩⟩ s0) = _
    rw [tkA h1]
    show tks bs [67] (tk bs 66 ⟨8, vA, 0, 0, 0, ⟨#[]⟩⟩ s1) = _
    rw [tkB h2]
    show tks bs [] (tk bs 67 ⟨8, vA, vB, 0, 0, ⟨#[]⟩⟩ s2) = _
    rw [tkC h3]
    rfl
  have hR : refR bs a = endR ⟨8, vA, vB, vC, 0, ⟨#[]⟩⟩ s3 := by
    unfold refR
    rw [h0]
    show endR (tks bs (ltrs 8) (⟨8, 0, 0, 0, 0, ⟨#[]⟩⟩, s0)).1 (tks bs (ltrs 8) (⟨8, 0, 0, 0, 0, ⟨#[]⟩⟩, s0)).2 = _
    rw [ht]
  rw [hR]
  exact vread_ABC ao cap bs a w hB hb hcl hcm hnb ha 8 vA vB vC s0 s1 s2 s3 h0 h1 h2 h3 rfl

theorem vr9 (s0 : Nat × Int × Int) (h0 : rInt bs 1 15 (a, 0, 0) = (9, s0)) : Calls Try.prog 32 #[.slice ao bs.length cap, .int .i64 (a : Int)] w fun e w' => e = .returned (readV (refR bs a)) ∧ Fr (fun _ => False) w w' := by
  obtain ⟨vA, s1, h1⟩ : ∃ v s, rInt bs 0 7 s0 = (v, s) := ⟨_, _, rfl⟩
  obtain ⟨vB, s2, h2⟩ : ∃ v s, rInt bs 0 7 s1 = (v, s) := ⟨_, _, rfl⟩
  obtain ⟨vC, s3, h3⟩ : ∃ v s, rInt bs 0 7 s2 = (v, s) := ⟨_, _, rfl⟩
  have ht : tks bs (ltrs 9) (⟨9, 0, 0, 0, 0, ⟨#[]⟩⟩, s0) = (⟨9, vA, vB, vC, 0, ⟨#[]⟩⟩, s3) := by
    rw [show ltrs 9 = [65, 66, 67] from by decide]
    show tks bs [66, 67] (tk bs 65 ⟨9, 0, 0, 0, 0, ⟨#[]⟩⟩ s0) = _
    rw [tkA h1]
    show tks bs [67] (tk bs 66 ⟨9, vA, 0, 0, 0, ⟨#[]⟩⟩ s1) = _
    rw [tkB h2]
    show tks bs [] (tk bs 67 ⟨9, vA, vB, 0, 0, ⟨#[]⟩⟩ s2) = _
    rw [tkC h3]
    rfl
  have hR : refR bs a = endR ⟨9, vA, vB, vC, 0, ⟨#[]⟩⟩ s3 := by
    unfold refR
    rw [h0]
    show endR (tks bs (ltrs 9) (⟨9, 0, 0, 0, 0, ⟨#[]⟩⟩, s0)).1 (tks bs (ltrs 9) (⟨9, 0, 0, 0, 0, ⟨#[]⟩⟩, s0)).2 = _
    rw [ht]
  rw [hR]
  exact vread_ABC ao cap bs a w hB hb hcl hcm hnb ha 9 vA vB vC s0 s1 s2 s3 h0 h1 h2 h3 rfl

theorem vr10 (s0 : Nat × Int × Int) (h0 : rInt bs 1 15 (a, 0, 0) = (10, s0)) : Calls Try.prog 32 #[.slice ao bs.length cap, .int .i64 (a : Int)] w fun e w' => e = .returned (readV (refR bs a)) ∧ Fr (fun _ => False) w w' := by
  obtain ⟨vA, s1, h1⟩ : ∃ v s, rInt bs 0 7 s0 = (v, s) := ⟨_, _, rfl⟩
  obtain ⟨vB, s2, h2⟩ : ∃ v s, rInt bs 0 7 s1 = (v, s) := ⟨_, _, rfl⟩
  obtain ⟨vC, s3, h3⟩ : ∃ v s, rInt bs 0 7 s2 = (v, s) := ⟨_, _, rfl⟩
  have ht : tks bs (ltrs 10) (⟨10, 0, 0, 0, 0, ⟨#[]⟩⟩, s0) = (⟨10, vA, vB, vC, 0, ⟨#[]⟩⟩, s3) := by
    rw [show ltrs 10 = [65, 66, 67] from by decide]
    show tks bs [66, 67] (tk bs 65 ⟨10, 0, 0, 0, 0, ⟨#[]⟩⟩ s0) = _
    rw [tkA h1]
    show tks bs [67] (tk bs 66 ⟨10, vA, 0, 0, 0, ⟨#[]⟩⟩ s1) = _
    rw [tkB h2]
    show tks bs [] (tk bs 67 ⟨10, vA, vB, 0, 0, ⟨#[]⟩⟩ s2) = _
    rw [tkC h3]
    rfl
  have hR : refR bs a = endR ⟨10, vA, vB, vC, 0, ⟨#[]⟩⟩ s3 := by
    unfold refR
    rw [h0]
    show endR (tks bs (ltrs 10) (⟨10, 0, 0, 0, 0, ⟨#[]⟩⟩, s0)).1 (tks bs (ltrs 10) (⟨10, 0, 0, 0, 0, ⟨#[]⟩⟩, s0)).2 = _
    rw [ht]
  rw [hR]
  exact vread_ABC ao cap bs a w hB hb hcl hcm hnb ha 10 vA vB vC s0 s1 s2 s3 h0 h1 h2 h3 rfl

theorem vr11 (s0 : Nat × Int × Int) (h0 : rInt bs 1 15 (a, 0, 0) = (11, s0)) : Calls Try.prog 32 #[.slice ao bs.length cap, .int .i64 (a : Int)] w fun e w' => e = .returned (readV (refR bs a)) ∧ Fr (fun _ => False) w w' := by
  obtain ⟨vA, s1, h1⟩ : ∃ v s, rInt bs 0 7 s0 = (v, s) := ⟨_, _, rfl⟩
  obtain ⟨vB, s2, h2⟩ : ∃ v s, rInt bs 0 7 s1 = (v, s) := ⟨_, _, rfl⟩
  obtain ⟨vC, s3, h3⟩ : ∃ v s, rInt bs 0 7 s2 = (v, s) := ⟨_, _, rfl⟩
  have ht : tks bs (ltrs 11) (⟨11, 0, 0, 0, 0, ⟨#[]⟩⟩, s0) = (⟨11, vA, vB, vC, 0, ⟨#[]⟩⟩, s3) := by
    rw [show ltrs 11 = [65, 66, 67] from by decide]
    show tks bs [66, 67] (tk bs 65 ⟨11, 0, 0, 0, 0, ⟨#[]⟩⟩ s0) = _
    rw [tkA h1]
    show tks bs [67] (tk bs 66 ⟨11, vA, 0, 0, 0, ⟨#[]⟩⟩ s1) = _
    rw [tkB h2]
    show tks bs [] (tk bs 67 ⟨11, vA, vB, 0, 0, ⟨#[]⟩⟩ s2) = _
    rw [tkC h3]
    rfl
  have hR : refR bs a = endR ⟨11, vA, vB, vC, 0, ⟨#[]⟩⟩ s3 := by
    unfold refR
    rw [h0]
    show endR (tks bs (ltrs 11) (⟨11, 0, 0, 0, 0, ⟨#[]⟩⟩, s0)).1 (tks bs (ltrs 11) (⟨11, 0, 0, 0, 0, ⟨#[]⟩⟩, s0)).2 = _
    rw [ht]
  rw [hR]
  exact vread_ABC ao cap bs a w hB hb hcl hcm hnb ha 11 vA vB vC s0 s1 s2 s3 h0 h1 h2 h3 rfl

theorem vr12 (s0 : Nat × Int × Int) (h0 : rInt bs 1 15 (a, 0, 0) = (12, s0)) : Calls Try.prog 32 #[.slice ao bs.length cap, .int .i64 (a : Int)] w fun e w' => e = .returned (readV (refR bs a)) ∧ Fr (fun _ => False) w w' := by
  obtain ⟨vA, s1, h1⟩ : ∃ v s, rInt bs 0 7 s0 = (v, s) := ⟨_, _, rfl⟩
  obtain ⟨vP, s2, h2⟩ : ∃ v s, rInt bs 1 60 s1 = (v, s) := ⟨_, _, rfl⟩
  have ht : tks bs (ltrs 12) (⟨12, 0, 0, 0, 0, ⟨#[]⟩⟩, s0) = (⟨12, vA, 0, 0, vP, ⟨#[]⟩⟩, s2) := by
    rw [show ltrs 12 = [65, 80] from by decide]
    show tks bs [80] (tk bs 65 ⟨12, 0, 0, 0, 0, ⟨#[]⟩⟩ s0) = _
    rw [tkA h1]
    show tks bs [] (tk bs 80 ⟨12, vA, 0, 0, 0, ⟨#[]⟩⟩ s1) = _
    rw [tkP h2]
    rfl
  have hR : refR bs a = endR ⟨12, vA, 0, 0, vP, ⟨#[]⟩⟩ s2 := by
    unfold refR
    rw [h0]
    show endR (tks bs (ltrs 12) (⟨12, 0, 0, 0, 0, ⟨#[]⟩⟩, s0)).1 (tks bs (ltrs 12) (⟨12, 0, 0, 0, 0, ⟨#[]⟩⟩, s0)).2 = _
    rw [ht]
  rw [hR]
  exact vread_AN ao cap bs a w hB hb hcl hcm hnb ha 12 vA vP 60 s0 s1 s2 h0 h1 h2 rfl rfl

theorem vr13 (s0 : Nat × Int × Int) (h0 : rInt bs 1 15 (a, 0, 0) = (13, s0)) : Calls Try.prog 32 #[.slice ao bs.length cap, .int .i64 (a : Int)] w fun e w' => e = .returned (readV (refR bs a)) ∧ Fr (fun _ => False) w w' := by
  obtain ⟨vP, s1, h1⟩ : ∃ v s, rInt bs 1 60 s0 = (v, s) := ⟨_, _, rfl⟩
  have ht : tks bs (ltrs 13) (⟨13, 0, 0, 0, 0, ⟨#[]⟩⟩, s0) = (⟨13, 0, 0, 0, vP, ⟨#[]⟩⟩, s1) := by
    rw [show ltrs 13 = [80] from by decide]
    show tks bs [] (tk bs 80 ⟨13, 0, 0, 0, 0, ⟨#[]⟩⟩ s0) = _
    rw [tkP h1]
    rfl
  have hR : refR bs a = endR ⟨13, 0, 0, 0, vP, ⟨#[]⟩⟩ s1 := by
    unfold refR
    rw [h0]
    show endR (tks bs (ltrs 13) (⟨13, 0, 0, 0, 0, ⟨#[]⟩⟩, s0)).1 (tks bs (ltrs 13) (⟨13, 0, 0, 0, 0, ⟨#[]⟩⟩, s0)).2 = _
    rw [ht]
  rw [hR]
  exact vread_N ao cap bs a w hB hb hcl hcm hnb ha 13 vP 60 s0 s1 h0 h1 rfl rfl

theorem vr14 (s0 : Nat × Int × Int) (h0 : rInt bs 1 15 (a, 0, 0) = (14, s0)) : Calls Try.prog 32 #[.slice ao bs.length cap, .int .i64 (a : Int)] w fun e w' => e = .returned (readV (refR bs a)) ∧ Fr (fun _ => False) w w' := by
  obtain ⟨vA, s1, h1⟩ : ∃ v s, rInt bs 0 7 s0 = (v, s) := ⟨_, _, rfl⟩
  have ht : tks bs (ltrs 14) (⟨14, 0, 0, 0, 0, ⟨#[]⟩⟩, s0) = (⟨14, vA, 0, 0, 0, ⟨#[]⟩⟩, s1) := by
    rw [show ltrs 14 = [65] from by decide]
    show tks bs [] (tk bs 65 ⟨14, 0, 0, 0, 0, ⟨#[]⟩⟩ s0) = _
    rw [tkA h1]
    rfl
  have hR : refR bs a = endR ⟨14, vA, 0, 0, 0, ⟨#[]⟩⟩ s1 := by
    unfold refR
    rw [h0]
    show endR (tks bs (ltrs 14) (⟨14, 0, 0, 0, 0, ⟨#[]⟩⟩, s0)).1 (tks bs (ltrs 14) (⟨14, 0, 0, 0, 0, ⟨#[]⟩⟩, s0)).2 = _
    rw [ht]
  rw [hR]
  exact vread_A ao cap bs a w hB hb hcl hcm hnb ha 14 vA s0 s1 h0 h1 rfl

theorem vr15 (s0 : Nat × Int × Int) (h0 : rInt bs 1 15 (a, 0, 0) = (15, s0)) : Calls Try.prog 32 #[.slice ao bs.length cap, .int .i64 (a : Int)] w fun e w' => e = .returned (readV (refR bs a)) ∧ Fr (fun _ => False) w w' := by
  have ht : tks bs (ltrs 15) (⟨15, 0, 0, 0, 0, ⟨#[]⟩⟩, s0) = (⟨15, 0, 0, 0, 0, ⟨#[]⟩⟩, s0) := by
    rw [show ltrs 15 = [] from by decide]
    rfl
  have hR : refR bs a = endR ⟨15, 0, 0, 0, 0, ⟨#[]⟩⟩ s0 := by
    unfold refR
    rw [h0]
    show endR (tks bs (ltrs 15) (⟨15, 0, 0, 0, 0, ⟨#[]⟩⟩, s0)).1 (tks bs (ltrs 15) (⟨15, 0, 0, 0, 0, ⟨#[]⟩⟩, s0)).2 = _
    rw [ht]
  rw [hR]
  exact vread_O ao cap bs a w hB hb hcl hcm hnb ha 15 s0 h0  rfl

theorem vread_in : Calls Try.prog 32 #[.slice ao bs.length cap, .int .i64 (a : Int)] w fun e w' => e = .returned (readV (readR bs a)) ∧ Fr (fun _ => False) w w' := by
  rw [← refR_eq bs a ha]
  obtain ⟨v, s0, h0⟩ : ∃ v s, rInt bs 1 15 (a, 0, 0) = (v, s) := ⟨_, _, rfl⟩
  have hr := rInt_rng bs 1 15 (a, 0, 0) (by decide)
  rw [h0] at hr
  dsimp only at hr
  obtain rfl | rfl | rfl | rfl | rfl | rfl | rfl | rfl | rfl | rfl | rfl | rfl | rfl | rfl | rfl | rfl : v = 0 ∨ v = 1 ∨ v = 2 ∨ v = 3 ∨ v = 4 ∨ v = 5 ∨ v = 6 ∨ v = 7 ∨ v = 8 ∨ v = 9 ∨ v = 10 ∨ v = 11 ∨ v = 12 ∨ v = 13 ∨ v = 14 ∨ v = 15 := by omega
  · exact vr0 ao cap bs a w hB hb hcl hcm hnb ha s0 h0
  · exact vr1 ao cap bs a w hB hb hcl hcm hnb ha s0 h0
  · exact vr2 ao cap bs a w hB hb hcl hcm hnb ha s0 h0
  · exact vr3 ao cap bs a w hB hb hcl hcm hnb ha s0 h0
  · exact vr4 ao cap bs a w hB hb hcl hcm hnb ha s0 h0
  · exact vr5 ao cap bs a w hB hb hcl hcm hnb ha s0 h0
  · exact vr6 ao cap bs a w hB hb hcl hcm hnb ha s0 h0
  · exact vr7 ao cap bs a w hB hb hcl hcm hnb ha s0 h0
  · exact vr8 ao cap bs a w hB hb hcl hcm hnb ha s0 h0
  · exact vr9 ao cap bs a w hB hb hcl hcm hnb ha s0 h0
  · exact vr10 ao cap bs a w hB hb hcl hcm hnb ha s0 h0
  · exact vr11 ao cap bs a w hB hb hcl hcm hnb ha s0 h0
  · exact vr12 ao cap bs a w hB hb hcl hcm hnb ha s0 h0
  · exact vr13 ao cap bs a w hB hb hcl hcm hnb ha s0 h0
  · exact vr14 ao cap bs a w hB hb hcl hcm hnb ha s0 h0
  · exact vr15 ao cap bs a w hB hb hcl hcm hnb ha s0 h0
end

theorem vread_any (ao : Option Addr) (cap : Nat) (bs : List UInt8) (at_ : Int) (w : World) (hB : BsAt w ao bs) (hb : bs.length ≤ 140737488355328) (hcl : bs.length ≤ cap) (hcm : cap ≤ maxLen) (hnb : ∀ k, blk ao k → k < w.heap.size) :
    Calls Try.prog 32 #[.slice ao bs.length cap, .int .i64 at_] w fun e w' => e = .returned (readV (readR bs at_)) ∧ Fr (fun _ => False) w w' := by
  by_cases hx : at_ < 0 ∨ (bs.length : Int) < at_
  · exact vread_out ao cap bs at_ w hx
  · obtain ⟨a, rfl⟩ : ∃ a : Nat, at_ = a := ⟨at_.toNat, by omega⟩
    exact vread_in ao cap bs a w hB hb hcl hcm hnb (by omega)

end Go.Proofs.Ytojgikaoiegmpaa
