/- ProgParts, part 13 of the road: what the program's functions do, each by its own walk. -/
import Derived.Test.YtojgikaoiegmpaaQ11
import Derived.Test.YtojgikaoiegmpaaQ12
import Derived.Test.YtojgikaoiegmpaaQ6
import Derived.Test.YtojgikaoiegmpaaQ2

/- Package prog: the document's Read, walked. -/
namespace Go.Proofs.Ytojgikaoiegmpaa
open Go.RowKit Go.IntWalk
set_option linter.unusedSimpArgs false
set_option linter.unusedVariables false
set_option maxRecDepth 100000

def encIns (i : Ins) : List Value := (icells i).toList
theorem encIns_len : ∀ i, (encIns i).length = 6 := fun _ => rfl
theorem encIns_one : ∀ i, ∀ u ∈ encIns i, u.oneCell' = true := fun i u hu => by
  have := icells_one i
  rw [Array.all_eq_true'] at this
  exact this u (by simpa [encIns] using hu)
def encNum (v : Int) : List Value := [.int .i64 v]
theorem encNum_len : ∀ v, (encNum v).length = 1 := fun _ => rfl
theorem encNum_one : ∀ v, ∀ u ∈ encNum v, u.oneCell' = true := fun v u hu => by simp [encNum] at hu; subst hu; rfl
theorem Try.infoNum : (Try.prog.info? 3).map (fun i => (i.zero, i.size, i.bytes)) = some (some (.int .i64 0), 1, 8) := by kernel_rfl

theorem one_at {α : Type} (enc : α → List Value) (size : Nat) (wr : World) (C : Array Value) (e : TypeId) (x : α) (hx : enc x = C.toList) : AtOf enc size (wr.alloc (.cells C e)) (some ⟨wr.heap.size, 0, none⟩) [x] := by
  refine Or.inr ⟨wr.heap.size, 0, rfl, by simp, fun i hi j v hv => ?_⟩
  obtain rfl : i = 0 := by simp at hi; exact hi
  simp only [Nat.zero_mul, Nat.zero_add]
  rw [cell_of_row _ _ _ _ _ _ (heap_alloc_new wr _), ← Array.getElem?_toList, ← hx]
  exact hv
theorem AtOf.ins {w : World} {ao : Option Addr} {l : List Ins} (h : AtOf encIns 6 w ao l) : InsRow w ao l := by
  rcases h with ⟨_, e⟩ | ⟨b, off, e, hb, hc⟩
  · exact Or.inl e
  · exact Or.inr ⟨b, off, e, hb, fun j hj t v hv => hc j hj t v hv⟩
theorem InsRow.atOf {w : World} {ao : Option Addr} {l : List Ins} (h : InsRow w ao l) : l = [] ∨ AtOf encIns 6 w ao l := by
  rcases h with e | ⟨b, off, e, hb, hc⟩
  · exact Or.inl e
  · exact Or.inr (Or.inr ⟨b, off, e, hb, fun j hj t v hv => hc j hj t v hv⟩)
theorem row_low {α : Type} {enc : α → List Value} {size : Nat} {e : TypeId} {w : World} {ao : Option Addr} {cap : Nat} {l : List α} (h : RowOf enc size e w ao cap l) : ∀ k, blk ao k → k < w.heap.size := fun k hk => h.lt hk

/-- Two rows that grow beside each other: instructions, and places. -/
structure Two (W0 wr : World) (ao : Option Addr) (cap : Nat) (acc : List Ins) (bo : Option Addr) (c : Nat) (pl : List Int) : Prop where
  a : RowOf encIns 6 40 wr ao cap acc
  b : RowOf encNum 1 3 wr bo c pl
  an : ∀ k, blk ao k → W0.heap.size ≤ k
  bn : ∀ k, blk bo k → W0.heap.size ≤ k
  ap : ∀ k, blk ao k → ¬ blk bo k
  fr : Fr (fun _ => False) W0 wr
section
variable {W0 wr : World} {ao : Option Addr} {cap : Nat} {acc : List Ins} {bo : Option Addr} {c : Nat} {pl : List Int}
theorem Two.start (hF : Fr (fun _ => False) W0 wr) : Two W0 wr none 0 [] none 0 [] :=
  ⟨RowOf.nil _, RowOf.nil _, fun k ⟨_, e, _⟩ => (by cases e), fun k ⟨_, e, _⟩ => (by cases e), fun k ⟨_, e, _⟩ => (by cases e), hF⟩
theorem Two.quiet {w' : World} (h : Two W0 wr ao cap acc bo c pl) (hF : Fr (fun _ => False) wr w') : Two W0 w' ao cap acc bo c pl :=
  ⟨h.a.fr hF (fun _ _ e => e), h.b.fr hF (fun _ _ e => e), h.an, h.bn, h.ap, h.fr.trans hF (fun _ _ e => e)⟩
theorem new_blk {w : World} {ao : Option Addr} {k : Nat} (e : ao = some ⟨w.heap.size, 0, none⟩) (hk : blk ao k) : k = w.heap.size := by
  obtain ⟨_, e1, e2⟩ := hk
  rw [e] at e1
  obtain rfl := Option.some.inj e1
  exact e2.symm
theorem Two.appA (h : Two W0 wr ao cap acc bo c pl) (hn : acc.length ≤ 1000) (i : Ins) (C : Array Value) (hC : encIns i = C.toList) :
    ∃ ao' cap' w', (Builtin.append_ #[25, 25] 25 #[.slice ao acc.length cap, .slice (some ⟨wr.heap.size, 0, none⟩) 1 1]).run Try.prog (wr.alloc (.cells C 40)) = .ok (.slice ao' (acc.length + 1) cap') w' ∧ Two W0 w' ao' cap' (acc ++ [i]) bo c pl := by
  obtain ⟨i0, hi, hz0, hz1, hz2⟩ := info_parts Try.infoIns
  have hF1 : Fr (fun _ => False) wr (wr.alloc (.cells C 40)) := (Fr.refl _ wr).alloc _
  have hq := h.quiet hF1
  obtain ⟨ao', cap', w', h1, h2, h3, h4⟩ := row_append Try.underlying25 hi hz0 56 hz1 hz2 rfl (by decide) (by decide) encIns_len encIns_one _ ao cap acc [i] hq.a (some ⟨wr.heap.size, 0, none⟩) 1 (Or.inr (one_at encIns 6 wr C 40 i hC)) (by simp; omega)
  refine ⟨ao', cap', w', h1, ⟨h2, hq.b.fr h3 (fun k hk e => h.ap k e hk), fun k hk => ?_, h.bn, fun k hk hk2 => ?_, hq.fr.trans h3 (fun k hk e => absurd (h.an k e) (by omega))⟩⟩
  · rcases h4 with e | e
    · rw [e] at hk; exact h.an k hk
    · have := new_blk e hk; have := hq.fr.size; omega
  · rcases h4 with e | e
    · rw [e] at hk; exact h.ap k hk hk2
    · have := new_blk e hk; have := row_low hq.b k hk2; omega
theorem Two.appB (h : Two W0 wr ao cap acc bo c pl) (hn : pl.length ≤ 1000) (v : Int) :
    ∃ bo' c' w', (Builtin.append_ #[55, 55] 55 #[.slice bo pl.length c, .slice (some ⟨wr.heap.size, 0, none⟩) 1 1]).run Try.prog (wr.alloc (.cells #[.int .i64 v] 3)) = .ok (.slice bo' (pl.length + 1) c') w' ∧ Two W0 w' ao cap acc bo' c' (pl ++ [v]) := by
  obtain ⟨i0, hi, hz0, hz1, hz2⟩ := info_parts Try.infoNum
  have hF1 : Fr (fun _ => False) wr (wr.alloc (.cells #[.int .i64 v] 3)) := (Fr.refl _ wr).alloc _
  have hq := h.quiet hF1
  obtain ⟨ao', cap', w', h1, h2, h3, h4⟩ := row_append Try.underlying55 hi hz0 8 hz1 hz2 rfl (by decide) (by decide) encNum_len encNum_one _ bo c pl [v] hq.b (some ⟨wr.heap.size, 0, none⟩) 1 (Or.inr (one_at encNum 1 wr #[.int .i64 v] 3 v rfl)) (by simp; omega)
  refine ⟨ao', cap', w', h1, ⟨hq.a.fr h3 (fun k hk e => h.ap k hk e), h2, h.an, fun k hk => ?_, fun k hk2 hk => ?_, hq.fr.trans h3 (fun k hk e => absurd (h.bn k e) (by omega))⟩⟩
  · rcases h4 with e | e
    · rw [e] at hk; exact h.bn k hk
    · have := new_blk e hk; have := hq.fr.size; omega
  · rcases h4 with e | e
    · rw [e] at hk; exact h.ap k hk2 hk
    · have := new_blk e hk; have := row_low hq.a k hk2; omega
end

set_option maxRecDepth 100000 in
theorem hbeyond_any (ao : Option Addr) (cap : Nat) (l : List Ins) (j : Nat) (hj : j < l.length) (hl : l.length ≤ 1000) (w : World) (hB : InsRow w ao l) : Calls Try.prog 33 #[.slice ao l.length cap, .int .i64 j] w fun e w' => e = .returned (.bool (beyb l j)) ∧ w' = w := by
  obtain ⟨b, off, rfl, hb, hR⟩ := hB.get j hj
  have h1 : (j : Int) < (l.length : Int) := by omega
  have hr : beyb l j = (decide (l[j].op = 12 ∨ l[j].op = 13) && decide ((l.length : Int) - 1 - j < l[j].n)) := by
    unfold beyb passI
    rw [List.getElem?_eq_getElem hj]
    by_cases h : l[j].op = 12 ∨ l[j].op = 13
    · simp [h]
    · simp only [if_neg h]
      rw [decide_eq_false h, Bool.false_and, decide_eq_false_iff_not]
      omega
  rw [hr]
  clear hr
  obtain ⟨x, hx⟩ : ∃ x, l[j] = x := ⟨_, rfl⟩
  rw [hx] at hR ⊢
  clear hx
  obtain ⟨op, a, bb, c, n, s⟩ := x
  have c0 : w.cell? ⟨b, off + j * 6, none⟩ = some (.int .i64 op) := hR 0 _ rfl
  have c4 : w.cell? ⟨b, off + j * 6 + 4, none⟩ = some (.int .i64 n) := hR 4 _ rfl
  have hw1 : IntKind.i64.wrap ((l.length : Int) - 1) = (l.length : Int) - 1 := by rw [IntKind.wrap_i64]; omega
  have hw2 : IntKind.i64.wrap ((l.length : Int) - 1 - j) = (l.length : Int) - 1 - j := by rw [IntKind.wrap_i64]; omega
  dsimp only at *
  by_cases h12 : op = 12
  · subst h12
    go_enter Try.func33, Try.ntmps33
    go_wp2_with fail
    go_ret
    simp
  · have e12 : (op == 12) = false := by simpa using h12
    by_cases h13 : op = 13
    · subst h13
      go_enter Try.func33, Try.ntmps33
      go_wp2_with fail
      go_ret
      simp
    · have e13 : (op == 13) = false := by simpa using h13
      go_enter Try.func33, Try.ntmps33
      go_wp2_with fail
      go_ret
      simp [h12, h13]

end Go.Proofs.Ytojgikaoiegmpaa

/- Package prog: parts of transactions: the walk. -/
namespace Go.Proofs.Ytojgikaoiegmpaa
open Go.RowKit Go.IntWalk
set_option linter.unusedSimpArgs false
set_option linter.unusedVariables false
set_option maxRecDepth 100000

def SameW (a b : World) : Prop := a = b
/-- What BigProg answers. -/
def BigP (l : List Ins) (w : World) (e : Ending) (w' : World) : Prop := ∃ b : Bool, e = .returned (.bool b) ∧ (b = false → l.length ≤ 70) ∧ w' = w
set_option maxRecDepth 100000 in
set_option maxHeartbeats 2000000 in
theorem bigprog_any (ao : Option Addr) (cap : Nat) (l : List Ins) (hl : l.length ≤ 9223372036854775807) (w : World) (hB : InsRow w ao l) : Calls Try.prog 20 #[.slice ao l.length cap, .int .i64 70, .int .i64 2000] w (BigP l w) := by
  have HB := hideIt hB
  clear hB
  go_enter Try.func20, Try.ntmps20
  go_wp2_with fail
  go_loopw [7, 8] (fun s7 s8 wr => ∃ (n : Int) (k : Nat), s7 = .int .i64 n ∧ s8 = .int .i64 k ∧ k ≤ l.length ∧ k ≤ 71 ∧ SameW wr w) (fun _ s8 _ => l.length - (intOf s8).toNat)
  case atStart => exact ⟨0, 0, rfl, rfl, by omega, by omega, rfl⟩
  case round =>
    obtain ⟨n, k, rfl, rfl, hk, hk71, HE⟩ := hrel
    have HE2 := hideIt HE
    obtain rfl : wr = w := HE
    by_cases hlt : k < l.length
    · have h1 : (k : Int) < (l.length : Int) := by omega
      by_cases h70 : k ≤ 70
      · have h2 : (k : Int) ≤ 70 := by omega
        obtain ⟨b, off, rfl, hb, hR⟩ := HB.out.get k hlt
        have c5 := hR 5 _ rfl
        clear hR
        go_wp2_with fail
        go_roundw
        case measure => simp [intOf]; omega
        case rel => exact ⟨_, k + 1, rfl, by go_num, by omega, by omega, HE2.out⟩
      · have h2 : ¬ (k : Int) ≤ 70 := by omega
        have h2d : decide ((k : Int) ≤ 70) = false := by simpa using h2
        have h3 : decide ((70 : Int) < (l.length : Int)) = true := by simp; omega
        go_wp2_with fail
        go_ret
        exact ⟨true, rfl, fun e => (by cases e), rfl⟩
    · have hjn : ¬ (k : Int) < (l.length : Int) := by omega
      have hkl : k = l.length := by omega
      by_cases h70 : l.length ≤ 70
      · have h3 : decide ((70 : Int) < (l.length : Int)) = false := by simp; omega
        go_wp2_with fail
        go_ret
        exact ⟨_, rfl, fun _ => h70, rfl⟩
      · have h3 : decide ((70 : Int) < (l.length : Int)) = true := by simp; omega
        go_wp2_with fail
        go_ret
        exact ⟨true, rfl, fun e => (by cases e), rfl⟩

theorem app_ins (w : World) (ao : Option Addr) (cap : Nat) (l m : List Ins) (hrow : RowOf encIns 6 40 w ao cap l) (bo : Option Addr) (c : Nat) (hs : InsRow w bo m) (hb : l.length + m.length ≤ 1099511627776) :
    ∃ ao' cap' w', (Builtin.append_ #[25, 25] 25 #[.slice ao l.length cap, .slice bo m.length c]).run Try.prog w = .ok (.slice ao' (l ++ m).length cap') w' ∧ RowOf encIns 6 40 w' ao' cap' (l ++ m) ∧ Fr (blk ao) w w' ∧ (ao' = ao ∨ ao' = some ⟨w.heap.size, 0, none⟩) := by
  obtain ⟨i0, hi, hz0, hz1, hz2⟩ := info_parts Try.infoIns
  obtain ⟨ao', cap', w', h1, h2, h3, h4⟩ := row_append Try.underlying25 hi hz0 56 hz1 hz2 rfl (by decide) (by decide) encIns_len encIns_one w ao cap l m hrow bo c hs.atOf hb
  exact ⟨ao', cap', w', by rw [h1, List.length_append], h2, h3, h4⟩

set_option maxRecDepth 100000 in
theorem copyprog_any (ao : Option Addr) (cap : Nat) (l : List Ins) (hl : l.length ≤ 1000) (w : World) (hB : InsRow w ao l) : Calls Try.prog 22 #[.slice ao l.length cap] w fun e w' => ∃ ao' cap', e = .returned (.slice ao' l.length cap') ∧ RowOf encIns 6 40 w' ao' cap' l ∧ Fr (fun _ => False) w w' ∧ ∀ k, blk ao' k → w.heap.size ≤ k := by
  have hF : Fr (fun _ => False) w (w.alloc (.cells #[] 40)) := (Fr.refl _ w).alloc _
  obtain ⟨ao', cap', w1, hrun, hrow, hf, hao⟩ := app_ins (w.alloc (.cells #[] 40)) (some ⟨w.heap.size, 0, none⟩) 0 [] l (World.ownsRow_made w #[] 0 (Nat.zero_le _) (by decide) rfl) ao cap (hB.fr hF (fun _ _ _ e => e)) (by simp; omega)
  have HR := hideIt hrun
  clear hrun
  dsimp only [List.length_nil, List.nil_append] at *
  go_enter Try.func22, Try.ntmps22
  go_wp2_with (first | (at_builtin; refine wpList_append_run _ rfl (.tmp 3) (.tmp 4) 25 25 rfl (.slice (some ⟨w.heap.size, 0, none⟩) 0 0) (.slice ao l.length cap) (.slice ao' l.length cap') w1 rfl rfl HR.out ?_))
  go_ret
  refine ⟨ao', cap', rfl, hrow, hF.trans hf (fun i hi e => ?_), fun k hk => ?_⟩
  · obtain ⟨_, e1, e2⟩ := e
    obtain rfl := Option.some.inj e1
    simp only at e2
    omega
  · rcases hao with rfl | rfl
    · obtain ⟨_, e1, e2⟩ := hk
      obtain rfl := Option.some.inj e1
      simp only at e2
      omega
    · obtain ⟨_, e1, e2⟩ := hk
      obtain rfl := Option.some.inj e1
      simp at e2
      omega

/-- What it means that Check says OK. -/
theorem chkF_zero {l : List Ins} (h : (chkF l).1 = 0) : chkF l = (0, 0) ∧ l.length ≤ 60 ∧ (∀ t, t < l.length → ¬ badB l t) ∧ (∀ t, t < l.length → ¬ beyB l t) ∧ (progB l).length ≤ 512 := by
  have hov : ∀ j, decide ((512 : Int) < (bgn l (j + 1) : Int)) = true ↔ ovrB l j := fun j => by rw [decide_eq_true_iff]; rfl
  unfold chkF at h ⊢
  by_cases h60 : 60 < l.length
  · rw [if_pos h60] at h; simp at h
  · rw [if_neg h60] at h ⊢
    split at h
    · simp at h
    · rename_i hb
      split at h
      · simp at h
      · rename_i hy
        split at h
        · simp at h
        · rename_i ho
          rw [List.find?_eq_none] at hb hy ho
          refine ⟨rfl, by omega, fun t ht hx => hb t (List.mem_range.2 ht) ((badb_iff l t).2 hx), fun t ht hx => hy t (List.mem_range.2 ht) ((beyb_iff l t).2 hx), ?_⟩
          rw [← bgn_all l (by omega)]
          by_cases h0 : l.length = 0
          · rw [h0, bgn_zero, h0]; decide
          · have := ho (l.length - 1) (List.mem_range.2 (by omega))
            rw [show l.length - 1 + 1 = l.length by omega] at this
            simp at this
            omega
theorem not_bad {l : List Ins} (h : ∀ t, t < l.length → ¬ badB l t) : ∀ i ∈ l, checkE i = 0 := fun i hi => by
  obtain ⟨t, ht, rfl⟩ := List.getElem_of_mem hi
  by_cases e : checkE l[t] = 0
  · exact e
  · exact absurd ⟨ht, e⟩ (h t ht)
theorem progB_len (l : List Ins) : (progB l).length = 1 + (l.flatMap codeI).length := by unfold progB; simp; omega
theorem flat_take (l : List Ins) (p : Nat) : ((l.take p).flatMap codeI).length ≤ (l.flatMap codeI).length := by
  have := congrArg (fun x => (List.flatMap codeI x).length) (List.take_append_drop p l)
  simp only [List.flatMap_append, List.length_append] at this
  omega
/-- A beginning of one that may be. -/
theorem part_chk {l : List Ins} (h : (chkF l).1 = 0) (p : Nat) (hp : p ≤ l.length) : ((chkF (l.take p)).1 = 0 ∧ (progB (l.take p)).length ≤ (progB l).length) ∨ ((chkF (l.take p)).1 = 5 ∧ 0 ≤ (chkF (l.take p)).2 ∧ (chkF (l.take p)).2 < p) := by
  obtain ⟨_, h60, hb, hy, ho⟩ := chkF_zero h
  have hlen : (l.take p).length = p := by simp; omega
  have hg := not_bad hb
  have hle : (progB (l.take p)).length ≤ (progB l).length := by rw [progB_len, progB_len]; have := flat_take l p; omega
  by_cases hbe : ∀ t, t < (l.take p).length → ¬ beyB (l.take p) t
  · left
    refine ⟨?_, hle⟩
    rw [chkF_ok (l.take p) (by omega) (fun i hi => hg i (List.mem_of_mem_take hi)) hbe (by omega)]
  · right
    have hb2 : ∀ t, t < (l.take p).length → ¬ badB (l.take p) t := fun t ht hx => by
      obtain ⟨h1, h2⟩ := hx
      exact h2 (hg _ (List.mem_of_mem_take (List.getElem_mem h1)))
    unfold chkF
    rw [if_neg (by omega), find_none' _ _ (badb_iff _) _ hb2]
    cases hf : (List.range (l.take p).length).find? (fun j => beyb (l.take p) j) with
    | some j =>
      have := List.mem_of_find?_eq_some hf
      rw [List.mem_range, hlen] at this
      dsimp only
      exact ⟨rfl, by omega, by omega⟩
    | none =>
      exfalso
      apply hbe
      intro t ht hx
      rw [List.find?_eq_none] at hf
      exact hf t (List.mem_range.2 ht) ((beyb_iff _ _).2 hx)
theorem both_chk {l m : List Ins} (h : (chkF l).1 = 0) (hm : (chkF m).1 = 0) (h60 : (l ++ m).length ≤ 60) (h5 : (progB l).length + (progB m).length ≤ 512) : (chkF (l ++ m)).1 = 0 := by
  obtain ⟨_, _, hb, hy, _⟩ := chkF_zero h
  obtain ⟨_, _, hb', hy', _⟩ := chkF_zero hm
  refine congrArg Prod.fst (chkF_ok (l ++ m) h60 (fun i hi => ?_) (fun t ht hx => ?_) ?_)
  · rcases List.mem_append.1 hi with hi | hi
    · exact not_bad hb i hi
    · exact not_bad hb' i hi
  · obtain ⟨h1, h2⟩ := hx
    by_cases hlt : t < l.length
    · rw [List.getElem_append_left hlt] at h2
      rw [List.length_append] at h2
      exact hy t hlt ⟨hlt, by omega⟩
    · rw [List.getElem_append_right (by omega)] at h2
      rw [List.length_append] at h1 h2
      exact hy' (t - l.length) (by omega) ⟨by omega, by omega⟩
  · rw [progB_len] at h5 ⊢
    rw [progB_len] at h5
    rw [List.flatMap_append, List.length_append]
    omega

end Go.Proofs.Ytojgikaoiegmpaa

/- Package prog: parts of transactions: the law's walk. -/
namespace Go.Proofs.Ytojgikaoiegmpaa
open Go.RowKit Go.IntWalk
set_option linter.unusedSimpArgs false
set_option linter.unusedVariables false
set_option maxRecDepth 100000

theorem take_row {w : World} {ao : Option Addr} {l : List Ins} (h : InsRow w ao l) (p : Nat) : InsRow w ao (l.take p) := by
  rcases h with rfl | ⟨b, off, e, hb, hc⟩
  · exact Or.inl (by simp)
  · refine Or.inr ⟨b, off, e, hb, fun j hj => ?_⟩
    have hj' : j < l.length := by simp at hj; omega
    rw [List.getElem_take]
    exact hc j hj'
theorem gsame_true (ao bo : Option Addr) (cap cap2 : Nat) (l : List Ins) (hl : l.length ≤ 1000) (w : World) (hA : InsRow w ao l) (hB : InsRow w bo l) : Calls Try.prog 23 #[.slice ao l.length cap, .slice bo l.length cap2] w fun e w' => e = .returned (.bool true) ∧ Fr (fun _ => False) w w' := by
  refine Calls.mono (gsame_any ao bo cap cap2 l l (by omega) (by omega) w hA hB) ?_
  rintro e w' ⟨r, rfl, hr, hF⟩
  exact ⟨by rw [hr.2 rfl], hF⟩
theorem gsame_both (ao bo : Option Addr) (cap cap2 : Nat) (l m : List Ins) (hl : l.length + m.length ≤ 1000) (w : World) (hA : InsRow w ao l) (hB : InsRow w bo (l ++ m)) : Calls Try.prog 23 #[.slice ao l.length cap, .slice bo (l ++ m).length cap2] w fun e w' => e = .returned (.bool ((m.length : Int) == 0)) ∧ Fr (fun _ => False) w w' := by
  refine Calls.mono (gsame_any ao bo cap cap2 l (l ++ m) (by omega) (by rw [List.length_append]; omega) w hA hB) ?_
  rintro e w' ⟨r, rfl, hr, hF⟩
  refine ⟨?_, hF⟩
  have : (r = true) ↔ (((m.length : Int) == 0) = true) := by
    rw [hr]
    constructor
    · intro h
      have := congrArg List.length h
      rw [List.length_append] at this
      exact beq_iff_eq.2 (by omega)
    · intro h
      have h0 : m = [] := List.eq_nil_of_length_eq_zero (by simpa using h)
      rw [h0, List.append_nil]
  rw [Bool.eq_iff_iff.2 this]

set_option maxRecDepth 100000 in
set_option maxHeartbeats 8000000 in
theorem pparts_any (ao : Option Addr) (cap : Nat) (l : List Ins) (bo : Option Addr) (cap2 : Nat) (m : List Ins) (x : Int) (w : World) (hA : InsRow w ao l) (hca : l.length ≤ cap) (hcn : ao = none → cap = 0) (hB : InsRow w bo m) (hl : l.length ≤ 9223372036854775807) (hm : m.length ≤ 9223372036854775807) :
    Calls Try.prog 5 #[.slice ao l.length cap, .slice bo m.length cap2, .int .i64 x] w fun e w' => e = .returned (.bool true) ∧ Fr (fun _ => False) w w' := by
  have HW := hideIt pawake_any
  have HA := hideIt (fun W (hF : Fr (fun _ => False) w W) => show InsRow W ao l from hA.fr hF (fun _ _ _ e => e))
  have HB := hideIt (fun W (hF : Fr (fun _ => False) w W) => show InsRow W bo m from hB.fr hF (fun _ _ _ e => e))
  have HBL := hideIt (fun W (hF : Fr (fun _ => False) w W) => bigprog_any ao cap l hl W (HA.out W hF))
  have HBM := hideIt (fun W (hF : Fr (fun _ => False) w W) => bigprog_any bo cap2 m hm W (HB.out W hF))
  clear hA hB hl hm
  go_enter Try.func5, Try.ntmps5
  go_wp2_with fail
  refine Calls.mono (HW.out _) ?_
  rintro e w1 ⟨rfl, hF1⟩
  have HF1 := hideIt hF1
  clear hF1 HW
  go_wp2_with fail
  refine Calls.mono (HBL.out _ HF1.out) ?_
  rintro e w1' ⟨b1, rfl, hb1, rfl⟩
  have HB1 := hideIt hb1
  clear hb1 HBL
  cases b1 with
  | true =>
    go_wp2_with fail
    go_ret
    exact ⟨rfl, HF1.out⟩
  | false =>
    go_wp2_with fail
    refine Calls.mono (HBM.out _ HF1.out) ?_
    rintro e w1'' ⟨b2, rfl, hb2, rfl⟩
    have HB2 := hideIt hb2
    clear hb2 HBM
    cases b2 with
    | true =>
      go_wp2_with fail
      go_ret
      exact ⟨rfl, HF1.out⟩
    | false =>
      have hl70 : l.length ≤ 70 := by have := HB1.out; simpa using this
      have hm70 : m.length ≤ 70 := by have := HB2.out; simpa using this
      clear HB1 HB2
      have HGL := hideIt (fun W (hF : Fr (fun _ => False) w W) => gchk ao cap l (by omega) W (HA.out W hF))
      have HGM := hideIt (fun W (hF : Fr (fun _ => False) w W) => gchk bo cap2 m (by omega) W (HB.out W hF))
      have HYL := hideIt (fun W (hF : Fr (fun _ => False) w W) => gbts ao cap l (by omega) W (HA.out W hF))
      have HYM := hideIt (fun W (hF : Fr (fun _ => False) w W) => gbts bo cap2 m (by omega) W (HB.out W hF))
      obtain ⟨cl1, hcl1⟩ : ∃ c, (chkF l).1 = c := ⟨_, rfl⟩
      obtain ⟨cl2, hcl2⟩ : ∃ c, (chkF l).2 = c := ⟨_, rfl⟩
      obtain ⟨cm1, hcm1⟩ : ∃ c, (chkF m).1 = c := ⟨_, rfl⟩
      obtain ⟨cm2, hcm2⟩ : ∃ c, (chkF m).2 = c := ⟨_, rfl⟩
      rw [hcl1, hcl2] at HGL
      rw [hcm1, hcm2] at HGM
      rw [hcl1] at HYL
      rw [hcm1] at HYM
      have HCL := hideIt hcl1
      have HCM := hideIt hcm1
      clear hcl1 hcl2 hcm1 hcm2
      go_wp2_with fail
      refine Calls.mono (HGL.out _ HF1.out) ?_
      rintro e w2 ⟨rfl, hF2⟩
      have HF2 := hideIt (HF1.out.trans hF2 (fun _ _ e => e))
      clear hF2 HF1
      go_wp2_with fail
      refine Calls.mono (HGM.out _ HF2.out) ?_
      rintro e w3 ⟨rfl, hF3⟩
      have HF3 := hideIt (HF2.out.trans hF3 (fun _ _ e => e))
      clear hF3 HF2
      by_cases hc : cl1 = 0
      · subst hc
        have HPK := hideIt (fun W => show Calls Try.prog 21 #[.int .i64 x, .int .i64 ((l.length : Int) + 1)] W (fun e w' => (∃ r : Nat, e = .returned (.int .i64 r) ∧ r < l.length + 1) ∧ w' = W) by
          rw [show ((l.length : Int) + 1) = ((l.length + 1 : Nat) : Int) by omega]
          exact pick_any x (l.length + 1) (by omega) (by omega) W)
        go_wp2_with fail
        refine Calls.mono (HPK.out _) ?_
        rintro e w3' ⟨⟨p, rfl, hp⟩, rfl⟩
        have hp0 : (0 : Int) ≤ (p : Int) := by omega
        have hpc : (p : Int) ≤ (cap : Int) := by omega
        have HPC := hideIt (part_chk HCL.out p (by omega))
        have hlen : (l.take p).length = p := by simp; omega
        have HGP := hideIt (fun W (hF : Fr (fun _ => False) w W) => by
          have := gchk ao cap (l.take p) (by omega) W (take_row (HA.out W hF) p)
          rw [hlen] at this
          exact this)
        have HYP := hideIt (fun W (hF : Fr (fun _ => False) w W) => by
          have := gbts ao cap (l.take p) (by omega) W (take_row (HA.out W hF) p)
          rw [hlen] at this
          exact this)
        obtain ⟨lb, hlb⟩ : ∃ c, (progC l).length = c := ⟨_, rfl⟩
        obtain ⟨pb, hpb⟩ : ∃ c, (progC (l.take p)).length = c := ⟨_, rfl⟩
        obtain ⟨mb, hmb⟩ : ∃ c, (progC m).length = c := ⟨_, rfl⟩
        rw [hlb] at HYL
        rw [hpb] at HYP
        rw [hmb] at HYM
        have HLB := hideIt (show (progB l).length = lb by rw [← hlb]; unfold progC; rw [if_pos HCL.out])
        obtain ⟨g1, hg1⟩ : ∃ c, (chkF (l.take p)).1 = c := ⟨_, rfl⟩
        obtain ⟨g2, hg2⟩ : ∃ c, (chkF (l.take p)).2 = c := ⟨_, rfl⟩
        have HPB := hideIt (show g1 = 0 → (progB (l.take p)).length = pb from fun e => by rw [← hpb]; unfold progC; rw [if_pos (by rw [hg1]; exact e)])
        have HMB := hideIt (show cm1 = 0 → (progB m).length = mb from fun e => by rw [← hmb]; unfold progC; rw [if_pos (by rw [HCM.out]; exact e)])
        have HPC2 := hideIt (show (g1 = 0 ∧ pb ≤ lb) ∨ (g1 = 5 ∧ 0 ≤ g2 ∧ g2 < p) by
          rcases HPC.out with ⟨h1, h2⟩ | ⟨h1, h2, h3⟩
          · left
            rw [hg1] at h1
            rw [HPB.out h1, HLB.out] at h2
            exact ⟨h1, h2⟩
          · right
            rw [hg1] at h1
            rw [hg2] at h2 h3
            exact ⟨h1, h2, h3⟩)
        rw [hg1, hg2] at HGP
        rw [hg1] at HYP
        have HLB2 := hideIt (show lb ≤ 512 by rw [← HLB.out]; exact (chkF_zero HCL.out).2.2.2.2)
        clear hlb hpb hmb hg1 hg2 HPC HGL HGM
        go_wp2_with fail
        refine Calls.mono (HGP.out _ HF3.out) ?_
        rintro e w4 ⟨rfl, hF4⟩
        have HF4 := hideIt (HF3.out.trans hF4 (fun _ _ e => e))
        clear hF4 HF3 HGP
        go_wp2_with fail
        refine Calls.mono (HYL.out _ HF4.out) ?_
        rintro e w5 ⟨a5, c5, rfl, _, hF5, _⟩
        have HF5 := hideIt (HF4.out.trans hF5 (fun _ _ e => e))
        clear hF5 HF4 HYL
        go_wp2_with fail
        refine Calls.mono (HYP.out _ HF5.out) ?_
        rintro e w6 ⟨a6, c6, rfl, _, hF6, _⟩
        have HF6 := hideIt (HF5.out.trans hF6 (fun _ _ e => e))
        clear hF6 HF5 HYP
        have HCP := hideIt (fun W (hF : Fr (fun _ => False) w W) => copyprog_any ao cap l (by omega) W (HA.out W hF))
        have HSL := hideIt (fun W (hF : Fr (fun _ => False) w W) => gsame_true ao ao cap cap l (by omega) W (HA.out W hF) (HA.out W hF))
        rcases HPC2.out with ⟨rfl, hpl⟩ | ⟨rfl, hg0, hgp⟩
        · have hd1 : decide ((lb : Int) < (pb : Int)) = false := by simp; omega
          go_wp2_with fail
          refine Calls.mono (HYM.out _ HF6.out) ?_
          rintro e w7 ⟨a7, c7, rfl, _, hF7, _⟩
          have HF7 := hideIt (HF6.out.trans hF7 (fun _ _ e => e))
          clear hF7 HF6 HYM
          go_wp2_with fail
          refine Calls.mono (HCP.out _ HF7.out) ?_
          rintro e w8 ⟨a8, c8, rfl, hrow8, hF8, hn8⟩
          have HF8 := hideIt (HF7.out.trans hF8 (fun _ _ e => e))
          obtain ⟨a9, c9, w9, hrun9, hrow9, hF9, ha9⟩ := app_ins w8 a8 c8 l m hrow8 bo cap2 (HB.out w8 HF8.out) (by omega)
          have HRUN := hideIt hrun9
          have HR9 := hideIt ((hrow9.at encIns_len).ins)
          have HF9 := hideIt (HF8.out.trans hF9 (fun i hi e => by have := hn8 i e; have := HF7.out.size; omega))
          clear hrow8 hF8 hn8 hrun9 hrow9 hF9 ha9 HF8 HF7 HCP
          have HBOTH := hideIt (show cm1 = 0 → (l ++ m).length ≤ 60 → lb + mb ≤ 512 → (chkF (l ++ m)).1 = 0 from fun e h1 h2 => both_chk HCL.out (by rw [HCM.out]; exact e) h1 (by rw [HLB.out, HMB.out e]; exact h2))
          have HG9 := hideIt (gchk a9 c9 (l ++ m) (by rw [List.length_append]; omega) w9 HR9.out)
          have HSB := hideIt (fun W (hF : Fr (fun _ => False) w9 W) => gsame_both ao a9 cap c9 l m (by omega) W (HA.out W (HF9.out.trans hF (fun _ _ e => e))) (HR9.out.fr hF (fun _ _ _ e => e)))
          obtain ⟨nb, hnb⟩ : ∃ c, (l ++ m).length = c := ⟨_, rfl⟩
          rw [hnb] at HRUN HBOTH HG9 HSB
          obtain ⟨h1, hh1⟩ : ∃ c, (chkF (l ++ m)).1 = c := ⟨_, rfl⟩
          obtain ⟨h2, hh2⟩ : ∃ c, (chkF (l ++ m)).2 = c := ⟨_, rfl⟩
          rw [hh1] at HBOTH HG9
          rw [hh2] at HG9
          have HMB2 := hideIt (show cm1 = 0 → mb ≤ 512 from fun e => by rw [← HMB.out e]; exact (chkF_zero (by rw [HCM.out]; exact e)).2.2.2.2)
          clear hh1 hh2 hnb
          go_wp2_with (first | (at_builtin; refine wpList_append_run _ rfl (.tmp 100) (.tmp 101) 25 25 rfl (.slice a8 l.length c8) (.slice bo m.length cap2) (.slice a9 nb c9) w9 rfl rfl HRUN.out ?_))
          refine Calls.mono HG9.out ?_
          rintro e w10 ⟨rfl, hF10⟩
          have HF10 := hideIt hF10
          clear hF10 HG9
          by_cases hcm : cm1 = 0
          · subst hcm
            have hmb5 := HMB2.out rfl
            have hlb5 := HLB2.out
            by_cases hn60 : nb ≤ 60
            · have e60 : decide ((nb : Int) ≤ 60) = true := by simp; omega
              by_cases h512 : lb + mb ≤ 512
              · have e512 : decide ((lb : Int) + (mb : Int) ≤ 512) = true := by simp; omega
                obtain rfl := HBOTH.out rfl hn60 h512
                go_wp2_with fail
                refine Calls.mono (HSL.out _ (HF9.out.trans HF10.out (fun _ _ e => e))) ?_
                rintro e w11 ⟨rfl, hF11⟩
                have HF11 := hideIt (HF10.out.trans hF11 (fun _ _ e => e))
                clear hF11
                go_wp2_with fail
                refine Calls.mono (HSB.out _ HF11.out) ?_
                rintro e w12 ⟨rfl, hF12⟩
                have HF12 := hideIt (HF9.out.trans (HF11.out.trans hF12 (fun _ _ e => e)) (fun _ _ e => e))
                clear hF12
                go_wp2_with fail
                go_ret
                exact ⟨by simp, HF12.out⟩
              · have e512 : decide ((lb : Int) + (mb : Int) ≤ 512) = false := by simp; omega
                go_wp2_with fail
                refine Calls.mono (HSL.out _ (HF9.out.trans HF10.out (fun _ _ e => e))) ?_
                rintro e w11 ⟨rfl, hF11⟩
                have HF11 := hideIt (HF10.out.trans hF11 (fun _ _ e => e))
                clear hF11
                go_wp2_with fail
                refine Calls.mono (HSB.out _ HF11.out) ?_
                rintro e w12 ⟨rfl, hF12⟩
                have HF12 := hideIt (HF9.out.trans (HF11.out.trans hF12 (fun _ _ e => e)) (fun _ _ e => e))
                clear hF12
                go_wp2_with fail
                go_ret
                exact ⟨by simp, HF12.out⟩
            · have e60 : decide ((nb : Int) ≤ 60) = false := by simp; omega
              go_wp2_with fail
              refine Calls.mono (HSL.out _ (HF9.out.trans HF10.out (fun _ _ e => e))) ?_
              rintro e w11 ⟨rfl, hF11⟩
              have HF11 := hideIt (HF10.out.trans hF11 (fun _ _ e => e))
              clear hF11
              go_wp2_with fail
              refine Calls.mono (HSB.out _ HF11.out) ?_
              rintro e w12 ⟨rfl, hF12⟩
              have HF12 := hideIt (HF9.out.trans (HF11.out.trans hF12 (fun _ _ e => e)) (fun _ _ e => e))
              clear hF12
              go_wp2_with fail
              go_ret
              exact ⟨by simp, HF12.out⟩
          · have ecm : (cm1 == 0) = false := by simpa using hcm
            go_wp2_with fail
            refine Calls.mono (HSL.out _ (HF9.out.trans HF10.out (fun _ _ e => e))) ?_
            rintro e w11 ⟨rfl, hF11⟩
            have HF11 := hideIt (HF10.out.trans hF11 (fun _ _ e => e))
            clear hF11
            go_wp2_with fail
            refine Calls.mono (HSB.out _ HF11.out) ?_
            rintro e w12 ⟨rfl, hF12⟩
            have HF12 := hideIt (HF9.out.trans (HF11.out.trans hF12 (fun _ _ e => e)) (fun _ _ e => e))
            clear hF12
            go_wp2_with fail
            go_ret
            exact ⟨by simp, HF12.out⟩
        · have hd1 : decide (g2 < 0) = false := by simp; omega
          have hd2 : decide ((p : Int) ≤ g2) = false := by simp; omega
          go_wp2_with fail
          refine Calls.mono (HYM.out _ HF6.out) ?_
          rintro e w7 ⟨a7, c7, rfl, _, hF7, _⟩
          have HF7 := hideIt (HF6.out.trans hF7 (fun _ _ e => e))
          clear hF7 HF6 HYM
          go_wp2_with fail
          refine Calls.mono (HCP.out _ HF7.out) ?_
          rintro e w8 ⟨a8, c8, rfl, hrow8, hF8, hn8⟩
          have HF8 := hideIt (HF7.out.trans hF8 (fun _ _ e => e))
          obtain ⟨a9, c9, w9, hrun9, hrow9, hF9, ha9⟩ := app_ins w8 a8 c8 l m hrow8 bo cap2 (HB.out w8 HF8.out) (by omega)
          have HRUN := hideIt hrun9
          have HR9 := hideIt ((hrow9.at encIns_len).ins)
          have HF9 := hideIt (HF8.out.trans hF9 (fun i hi e => by have := hn8 i e; have := HF7.out.size; omega))
          clear hrow8 hF8 hn8 hrun9 hrow9 hF9 ha9 HF8 HF7 HCP
          have HBOTH := hideIt (show cm1 = 0 → (l ++ m).length ≤ 60 → lb + mb ≤ 512 → (chkF (l ++ m)).1 = 0 from fun e h1 h2 => both_chk HCL.out (by rw [HCM.out]; exact e) h1 (by rw [HLB.out, HMB.out e]; exact h2))
          have HG9 := hideIt (gchk a9 c9 (l ++ m) (by rw [List.length_append]; omega) w9 HR9.out)
          have HSB := hideIt (fun W (hF : Fr (fun _ => False) w9 W) => gsame_both ao a9 cap c9 l m (by omega) W (HA.out W (HF9.out.trans hF (fun _ _ e => e))) (HR9.out.fr hF (fun _ _ _ e => e)))
          obtain ⟨nb, hnb⟩ : ∃ c, (l ++ m).length = c := ⟨_, rfl⟩
          rw [hnb] at HRUN HBOTH HG9 HSB
          obtain ⟨h1, hh1⟩ : ∃ c, (chkF (l ++ m)).1 = c := ⟨_, rfl⟩
          obtain ⟨h2, hh2⟩ : ∃ c, (chkF (l ++ m)).2 = c := ⟨_, rfl⟩
          rw [hh1] at HBOTH HG9
          rw [hh2] at HG9
          have HMB2 := hideIt (show cm1 = 0 → mb ≤ 512 from fun e => by rw [← HMB.out e]; exact (chkF_zero (by rw [HCM.out]; exact e)).2.2.2.2)
          clear hh1 hh2 hnb
          go_wp2_with (first | (at_builtin; refine wpList_append_run _ rfl (.tmp 100) (.tmp 101) 25 25 rfl (.slice a8 l.length c8) (.slice bo m.length cap2) (.slice a9 nb c9) w9 rfl rfl HRUN.out ?_))
          refine Calls.mono HG9.out ?_
          rintro e w10 ⟨rfl, hF10⟩
          have HF10 := hideIt hF10
          clear hF10 HG9
          by_cases hcm : cm1 = 0
          · subst hcm
            have hmb5 := HMB2.out rfl
            have hlb5 := HLB2.out
            by_cases hn60 : nb ≤ 60
            · have e60 : decide ((nb : Int) ≤ 60) = true := by simp; omega
              by_cases h512 : lb + mb ≤ 512
              · have e512 : decide ((lb : Int) + (mb : Int) ≤ 512) = true := by simp; omega
                obtain rfl := HBOTH.out rfl hn60 h512
                go_wp2_with fail
                refine Calls.mono (HSL.out _ (HF9.out.trans HF10.out (fun _ _ e => e))) ?_
                rintro e w11 ⟨rfl, hF11⟩
                have HF11 := hideIt (HF10.out.trans hF11 (fun _ _ e => e))
                clear hF11
                go_wp2_with fail
                refine Calls.mono (HSB.out _ HF11.out) ?_
                rintro e w12 ⟨rfl, hF12⟩
                have HF12 := hideIt (HF9.out.trans (HF11.out.trans hF12 (fun _ _ e => e)) (fun _ _ e => e))
                clear hF12
                go_wp2_with fail
                go_ret
                exact ⟨by simp, HF12.out⟩
              · have e512 : decide ((lb : Int) + (mb : Int) ≤ 512) = false := by simp; omega
                go_wp2_with fail
                refine Calls.mono (HSL.out _ (HF9.out.trans HF10.out (fun _ _ e => e))) ?_
                rintro e w11 ⟨rfl, hF11⟩
                have HF11 := hideIt (HF10.out.trans hF11 (fun _ _ e => e))
                clear hF11
                go_wp2_with fail
                refine Calls.mono (HSB.out _ HF11.out) ?_
                rintro e w12 ⟨rfl, hF12⟩
                have HF12 := hideIt (HF9.out.trans (HF11.out.trans hF12 (fun _ _ e => e)) (fun _ _ e => e))
                clear hF12
                go_wp2_with fail
                go_ret
                exact ⟨by simp, HF12.out⟩
            · have e60 : decide ((nb : Int) ≤ 60) = false := by simp; omega
              go_wp2_with fail
              refine Calls.mono (HSL.out _ (HF9.out.trans HF10.out (fun _ _ e => e))) ?_
              rintro e w11 ⟨rfl, hF11⟩
              have HF11 := hideIt (HF10.out.trans hF11 (fun _ _ e => e))
              clear hF11
              go_wp2_with fail
              refine Calls.mono (HSB.out _ HF11.out) ?_
              rintro e w12 ⟨rfl, hF12⟩
              have HF12 := hideIt (HF9.out.trans (HF11.out.trans hF12 (fun _ _ e => e)) (fun _ _ e => e))
              clear hF12
              go_wp2_with fail
              go_ret
              exact ⟨by simp, HF12.out⟩
          · have ecm : (cm1 == 0) = false := by simpa using hcm
            go_wp2_with fail
            refine Calls.mono (HSL.out _ (HF9.out.trans HF10.out (fun _ _ e => e))) ?_
            rintro e w11 ⟨rfl, hF11⟩
            have HF11 := hideIt (HF10.out.trans hF11 (fun _ _ e => e))
            clear hF11
            go_wp2_with fail
            refine Calls.mono (HSB.out _ HF11.out) ?_
            rintro e w12 ⟨rfl, hF12⟩
            have HF12 := hideIt (HF9.out.trans (HF11.out.trans hF12 (fun _ _ e => e)) (fun _ _ e => e))
            clear hF12
            go_wp2_with fail
            go_ret
            exact ⟨by simp, HF12.out⟩
      · have hne : (cl1 == 0) = false := by simpa using hc
        go_wp2_with fail
        go_ret
        exact ⟨rfl, HF3.out⟩

end Go.Proofs.Ytojgikaoiegmpaa
