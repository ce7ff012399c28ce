/- ProgKnown, part 13 of the road: what the program's functions do, each by its own walk. -/
import Derived.Test.YtojgikaoiegmpaaQ11
import Derived.Test.YtojgikaoiegmpaaQ12
import Derived.Test.YtojgikaoiegmpaaQ6
import Derived.Test.YtojgikaoiegmpaaQ2

/- Package prog: the document's Read, walked. -/
namespace Go.Proofs.Ytojgikaoiegmpaa
open Go.RowKit Go.IntWalk
set_option linter.unusedSimpArgs false
set_option linter.unusedVariables false
set_option maxRecDepth 100000

def encIns (i : Ins) : List Value := (icells i).toList
theorem encIns_len : ∀ i, (encIns i).length = 6 := fun _ => rfl
theorem encIns_one : ∀ i, ∀ u ∈ encIns i, u.oneCell' = true := fun i u hu => by
  have := icells_one i
  rw [Array.all_eq_true'] at this
  exact this u (by simpa [encIns] using hu)
def encNum (v : Int) : List Value := [.int .i64 v]
theorem encNum_len : ∀ v, (encNum v).length = 1 := fun _ => rfl
theorem encNum_one : ∀ v, ∀ u ∈ encNum v, u.oneCell' = true := fun v u hu => by simp [encNum] at hu; subst hu; rfl
theorem Try.infoNum : (Try.prog.info? 3).map (fun i => (i.zero, i.size, i.bytes)) = some (some (.int .i64 0), 1, 8) := by kernel_rfl

theorem one_at {α : Type} (enc : α → List Value) (size : Nat) (wr : World) (C : Array Value) (e : TypeId) (x : α) (hx : enc x = C.toList) : AtOf enc size (wr.alloc (.cells C e)) (some ⟨wr.heap.size, 0, none⟩) [x] := by
  refine Or.inr ⟨wr.heap.size, 0, rfl, by simp, fun i hi j v hv => ?_⟩
  obtain rfl : i = 0 := by simp at hi; exact hi
  simp only [Nat.zero_mul, Nat.zero_add]
  rw [cell_of_row _ _ _ _ _ _ (heap_alloc_new wr _), ← Array.getElem?_toList, ← hx]
  exact hv
theorem AtOf.ins {w : World} {ao : Option Addr} {l : List Ins} (h : AtOf encIns 6 w ao l) : InsRow w ao l := by
  rcases h with ⟨_, e⟩ | ⟨b, off, e, hb, hc⟩
  · exact Or.inl e
  · exact Or.inr ⟨b, off, e, hb, fun j hj t v hv => hc j hj t v hv⟩
theorem InsRow.atOf {w : World} {ao : Option Addr} {l : List Ins} (h : InsRow w ao l) : l = [] ∨ AtOf encIns 6 w ao l := by
  rcases h with e | ⟨b, off, e, hb, hc⟩
  · exact Or.inl e
  · exact Or.inr (Or.inr ⟨b, off, e, hb, fun j hj t v hv => hc j hj t v hv⟩)
theorem row_low {α : Type} {enc : α → List Value} {size : Nat} {e : TypeId} {w : World} {ao : Option Addr} {cap : Nat} {l : List α} (h : RowOf enc size e w ao cap l) : ∀ k, blk ao k → k < w.heap.size := fun k hk => h.lt hk

/-- Two rows that grow beside each other: instructions, and places. -/
structure Two (W0 wr : World) (ao : Option Addr) (cap : Nat) (acc : List Ins) (bo : Option Addr) (c : Nat) (pl : List Int) : Prop where
  a : RowOf encIns 6 40 wr ao cap acc
  b : RowOf encNum 1 3 wr bo c pl
  an : ∀ k, blk ao k → W0.heap.size ≤ k
  bn : ∀ k, blk bo k → W0.heap.size ≤ k
  ap : ∀ k, blk ao k → ¬ blk bo k
  fr : Fr (fun _ => False) W0 wr
section
variable {W0 wr : World} {ao : Option Addr} {cap : Nat} {acc : List Ins} {bo : Option Addr} {c : Nat} {pl : List Int}
theorem Two.start (hF : Fr (fun _ => False) W0 wr) : Two W0 wr none 0 [] none 0 [] :=
  ⟨RowOf.nil _, RowOf.nil _, fun k ⟨_, e, _⟩ => (by cases e), fun k ⟨_, e, _⟩ => (by cases e), fun k ⟨_, e, _⟩ => (by cases e), hF⟩
theorem Two.quiet {w' : World} (h : Two W0 wr ao cap acc bo c pl) (hF : Fr (fun _ => False) wr w') : Two W0 w' ao cap acc bo c pl :=
  ⟨h.a.fr hF (fun _ _ e => e), h.b.fr hF (fun _ _ e => e), h.an, h.bn, h.ap, h.fr.trans hF (fun _ _ e => e)⟩
theorem new_blk {w : World} {ao : Option Addr} {k : Nat} (e : ao = some ⟨w.heap.size, 0, none⟩) (hk : blk ao k) : k = w.heap.size := by
  obtain ⟨_, e1, e2⟩ := hk
  rw [e] at e1
  obtain rfl := Option.some.inj e1
  exact e2.symm
theorem Two.appA (h : Two W0 wr ao cap acc bo c pl) (hn : acc.length ≤ 1000) (i : Ins) (C : Array Value) (hC : encIns i = C.toList) :
    ∃ ao' cap' w', (Builtin.append_ #[25, 25] 25 #[.slice ao acc.length cap, .slice (some ⟨wr.heap.size, 0, none⟩) 1 1]).run Try.prog (wr.alloc (.cells C 40)) = .ok (.slice ao' (acc.length + 1) cap') w' ∧ Two W0 w' ao' cap' (acc ++ [i]) bo c pl := by
  obtain ⟨i0, hi, hz0, hz1, hz2⟩ := info_parts Try.infoIns
  have hF1 : Fr (fun _ => False) wr (wr.alloc (.cells C 40)) := (Fr.refl _ wr).alloc _
  have hq := h.quiet hF1
  obtain ⟨ao', cap', w', h1, h2, h3, h4⟩ := row_append Try.underlying25 hi hz0 56 hz1 hz2 rfl (by decide) (by decide) encIns_len encIns_one _ ao cap acc [i] hq.a (some ⟨wr.heap.size, 0, none⟩) 1 (Or.inr (one_at encIns 6 wr C 40 i hC)) (by simp; omega)
  refine ⟨ao', cap', w', h1, ⟨h2, hq.b.fr h3 (fun k hk e => h.ap k e hk), fun k hk => ?_, h.bn, fun k hk hk2 => ?_, hq.fr.trans h3 (fun k hk e => absurd (h.an k e) (by omega))⟩⟩
  · rcases h4 with e | e
    · rw [e] at hk; exact h.an k hk
    · have := new_blk e hk; have := hq.fr.size; omega
  · rcases h4 with e | e
    · rw [e] at hk; exact h.ap k hk hk2
    · have := new_blk e hk; have := row_low hq.b k hk2; omega
theorem Two.appB (h : Two W0 wr ao cap acc bo c pl) (hn : pl.length ≤ 1000) (v : Int) :
    ∃ bo' c' w', (Builtin.append_ #[55, 55] 55 #[.slice bo pl.length c, .slice (some ⟨wr.heap.size, 0, none⟩) 1 1]).run Try.prog (wr.alloc (.cells #[.int .i64 v] 3)) = .ok (.slice bo' (pl.length + 1) c') w' ∧ Two W0 w' ao cap acc bo' c' (pl ++ [v]) := by
  obtain ⟨i0, hi, hz0, hz1, hz2⟩ := info_parts Try.infoNum
  have hF1 : Fr (fun _ => False) wr (wr.alloc (.cells #[.int .i64 v] 3)) := (Fr.refl _ wr).alloc _
  have hq := h.quiet hF1
  obtain ⟨ao', cap', w', h1, h2, h3, h4⟩ := row_append Try.underlying55 hi hz0 8 hz1 hz2 rfl (by decide) (by decide) encNum_len encNum_one _ bo c pl [v] hq.b (some ⟨wr.heap.size, 0, none⟩) 1 (Or.inr (one_at encNum 1 wr #[.int .i64 v] 3 v rfl)) (by simp; omega)
  refine ⟨ao', cap', w', h1, ⟨hq.a.fr h3 (fun k hk e => h.ap k hk e), h2, h.an, fun k hk => ?_, fun k hk2 hk => ?_, hq.fr.trans h3 (fun k hk e => absurd (h.bn k e) (by omega))⟩⟩
  · rcases h4 with e | e
    · rw [e] at hk; exact h.bn k hk
    · have := new_blk e hk; have := hq.fr.size; omega
  · rcases h4 with e | e
    · rw [e] at hk; exact h.ap k hk2 hk
    · have := new_blk e hk; have := row_low hq.a k hk2; omega
end

set_option maxRecDepth 100000 in
theorem hbeyond_any (ao : Option Addr) (cap : Nat) (l : List Ins) (j : Nat) (hj : j < l.length) (hl : l.length ≤ 1000) (w : World) (hB : InsRow w ao l) : Calls Try.prog 33 #[.slice ao l.length cap, .int .i64 j] w fun e w' => e = .returned (.bool (beyb l j)) ∧ w' = w := by
  obtain ⟨b, off, rfl, hb, hR⟩ := hB.get j hj
  have h1 : (j : Int) < (l.length : Int) := by omega
  have hr : beyb l j = (decide (l[j].op = 12 ∨ l[j].op = 13) && decide ((l.length : Int) - 1 - j < l[j].n)) := by
    unfold beyb passI
    rw [List.getElem?_eq_getElem hj]
    by_cases h : l[j].op = 12 ∨ l[j].op = 13
    · simp [h]
    · simp only [if_neg h]
      rw [decide_eq_false h, Bool.false_and, decide_eq_false_iff_not]
      omega
  rw [hr]
  clear hr
  obtain ⟨x, hx⟩ : ∃ x, l[j] = x := ⟨_, rfl⟩
  rw [hx] at hR ⊢
  clear hx
  obtain ⟨op, a, bb, c, n, s⟩ := x
  have c0 : w.cell? ⟨b, off + j * 6, none⟩ = some (.int .i64 op) := hR 0 _ rfl
  have c4 : w.cell? ⟨b, off + j * 6 + 4, none⟩ = some (.int .i64 n) := hR 4 _ rfl
  have hw1 : IntKind.i64.wrap ((l.length : Int) - 1) = (l.length : Int) - 1 := by rw [IntKind.wrap_i64]; omega
  have hw2 : IntKind.i64.wrap ((l.length : Int) - 1 - j) = (l.length : Int) - 1 - j := by rw [IntKind.wrap_i64]; omega
  dsimp only at *
  by_cases h12 : op = 12
  · subst h12
    go_enter Try.func33, Try.ntmps33
    go_wp2_with fail
    go_ret
    simp
  · have e12 : (op == 12) = false := by simpa using h12
    by_cases h13 : op = 13
    · subst h13
      go_enter Try.func33, Try.ntmps33
      go_wp2_with fail
      go_ret
      simp
    · have e13 : (op == 13) = false := by simpa using h13
      go_enter Try.func33, Try.ntmps33
      go_wp2_with fail
      go_ret
      simp [h12, h13]

end Go.Proofs.Ytojgikaoiegmpaa

/- Package prog: the document's Read, walked. -/
namespace Go.Proofs.Ytojgikaoiegmpaa
open Go.RowKit Go.IntWalk
set_option linter.unusedSimpArgs false
set_option linter.unusedVariables false
set_option maxRecDepth 100000

/-- What the document's Read answers. -/
def PHReadP (r : List Ins × Int × Int) (w : World) (e : Ending) (w' : World) : Prop :=
  ∃ ao cap, e = .returned (.tuple #[.slice ao r.1.length cap, .agg #[.int .i64 r.2.1, .int .i64 r.2.2]]) ∧ InsRow w' ao r.1 ∧ Fr (fun _ => False) w w' ∧ ∀ k, blk ao k → w.heap.size ≤ k
theorem rdL_succ (bs : List UInt8) (a : Int) (k : Nat) : rdL bs a (k + 1) = rdL bs a k ++ [(rdR bs a k).1] := by
  unfold rdL
  rw [List.range_succ, List.map_append]
  rfl
/-- The first places. -/
def rdP (bs : List UInt8) (a : Int) (n : Nat) : List Int := (List.range n).map (rdAt bs a)
theorem rdP_len (bs : List UInt8) (a : Int) (n : Nat) : (rdP bs a n).length = n := by simp [rdP]
theorem rdP_succ (bs : List UInt8) (a : Int) (k : Nat) : rdP bs a (k + 1) = rdP bs a k ++ [rdAt bs a k] := by
  unfold rdP
  rw [List.range_succ, List.map_append]
  rfl
theorem rdP_get (bs : List UInt8) (a : Int) (n t : Nat) (h : t < (rdP bs a n).length) : (rdP bs a n)[t] = rdAt bs a t := by simp [rdP]

set_option maxRecDepth 100000 in
set_option maxHeartbeats 8000000 in
theorem hRead_any (ao : Option Addr) (cap : Nat) (bs : List UInt8) (w : World) (hB : BsAt w ao bs) (hcl : bs.length ≤ cap) (hcm : cap ≤ maxLen) (hnb : ∀ k, blk ao k → k < w.heap.size) :
    Calls Try.prog 9 #[.slice ao bs.length cap] w (PHReadP (readP bs) w) := by
  by_cases h512 : 512 < bs.length
  · have hd : decide ((512 : Int) < (bs.length : Int)) = true := by simp; omega
    have hr : readP bs = ([], 3, 512) := by unfold readP; rw [if_pos h512]
    rw [hr]
    clear hr h512
    go_enter Try.func9, Try.ntmps9
    go_wp2_with fail
    refine bodyPost_ret (v := .tuple #[.slice none 0 0, .agg #[.int .i64 3, .int .i64 512]]) (by simp [results, Try.results9, go_sem]) rfl ?_
    exact ⟨none, 0, rfl, Or.inl rfl, (Fr.refl _ _).alloc _, fun k hk => by obtain ⟨_, e, _⟩ := hk; cases e⟩
  · have hd : decide ((512 : Int) < (bs.length : Int)) = false := by simp; omega
    have hr : readP bs = if (rCount bs 60 (0, 0, 0)).2.2.1 = 0 then readN bs (rCount bs 60 (0, 0, 0)).1.toNat (rCount bs 60 (0, 0, 0)).2.1 else ([], (rCount bs 60 (0, 0, 0)).2.2.1, (rCount bs 60 (0, 0, 0)).2.2.2) := by unfold readP; rw [if_neg h512]
    rw [hr]
    clear hr
    have hl : bs.length ≤ 512 := by omega
    have HO := hideIt (fun W (hF : Fr (fun _ => False) w W) => yopen_any ao cap bs W (hB.fr hF (fun _ _ _ e => e)) (fun k hk => Nat.lt_of_lt_of_le (hnb k hk) hF.size))
    have HVR := hideIt (fun (W : World) (at_ : Int) (hF : Fr (fun _ => False) w W) => vread_any ao cap bs at_ W (hB.fr hF (fun _ _ _ e => e)) (by omega) hcl hcm (fun k hk => Nat.lt_of_lt_of_le (hnb k hk) hF.size))
    have HF0 := hideIt (show Fr (fun _ => False) w (w.alloc (.cells #[.int .i64 0, .int .i64 0] 28)) from (Fr.refl _ _).alloc _)
    obtain ⟨n, hn1, hn2⟩ := rCount_rng bs (0, 0, 0)
    have HN := hideIt hn2
    have HC := hideIt (fun p ao cap W (h : YOk W p ao cap bs (0, 0, 0)) => ycount_any p ao cap bs (0, 0, 0) 60 W h (by omega))
    generalize rCount bs 60 (0, 0, 0) = c at *
    obtain ⟨c1, at_, er, ea⟩ := c
    dsimp only at hn1 HC ⊢
    subst hn1
    rw [Int.toNat_natCast]
    obtain ⟨R, hR⟩ : ∃ R, (if er = 0 then readN bs n (at_ : Int) else ([], er, ea)) = R := ⟨_, rfl⟩
    rw [hR]
    have HR := hideIt hR
    clear hR hB hcl hcm hnb h512 hn2
    go_enter Try.func9, Try.ntmps9
    go_wp2_with fail
    refine Calls.mono (HO.out _ HF0.out) ?_
    rintro e w1 ⟨rfl, hY1, hF1, hs1⟩
    have HF1 := hideIt (HF0.out.trans hF1 (fun _ _ e => e))
    have HX1 := hideIt ((hF1.block w.heap.size (by simp) (fun e => e)).trans (heap_new rfl))
    have HY1 := hideIt (show YOk w1 (w.heap.size + 1) ao cap bs (0, 0, 0) by simpa using hY1)
    have HS1 := hideIt hs1
    clear hY1 hF1 hs1 HO HF0
    go_wp2_with fail
    refine Calls.mono (HC.out _ ao cap w1 HY1.out) ?_
    rintro e w2 ⟨rfl, hY2, hF2⟩
    have hX2 : w2.heap[w.heap.size]? = some (.cells #[.int .i64 0, .int .i64 0] 28 (0, 0)) := (hF2.block _ (Array.getElem?_eq_some_iff.1 HX1.out).1 (by omega)).trans HX1.out
    have HF2 := hideIt (HF1.out.trans hF2 (fun i hi e => by omega))
    have hbx := hY2.1.box
    dsimp only at hbx
    have b1 := cellOfHeap hbx 1 rfl
    have b2 := cellOfHeap hbx 2 rfl
    have b3 := cellOfHeap hbx 3 rfl
    have HX2 := hideIt hX2
    have hq0 := cellOfHeap hX2 0 rfl
    have hq1 := cellOfHeap hX2 1 rfl
    have g0 := frozen_of_row w2 w.heap.size 0 _ _ hX2
    have g1 := frozen_of_row w2 w.heap.size 1 _ _ hX2
    have hlt2 := (Array.getElem?_eq_some_iff.1 hX2).1
    have hlb2 := (Array.getElem?_eq_some_iff.1 hbx).1
    clear hY2 hF2 hX2 hbx HY1 HC HF1 HX1 HS1
    by_cases her : er = 0
    · subst her
      have HRN := hideIt (show readN bs n (at_ : Int) = R from by rw [← HR.out]; rfl)
      clear HR
      go_wp2_with fail
      have HT0 := hideIt (Two.start (Fr.refl (fun _ => False) w2))
      go_loopw [6, 7, 8, 9] (fun s6 s7 s8 s9 wr => ∃ (k : Nat) (ao2 : Option Addr) (cap2 : Nat) (bo : Option Addr) (c : Nat), s6 = .int .i64 (rdAt bs (at_ : Int) k) ∧ s7 = .slice ao2 k cap2 ∧ s8 = .slice bo k c ∧ s9 = .int .i64 k ∧ k ≤ n ∧ Hid (Two w2 wr ao2 cap2 (rdL bs (at_ : Int) k) bo c (rdP bs (at_ : Int) k)) ∧ Hid (∀ t, t < k → (rdR bs (at_ : Int) t).2.2.1 = 0)) (fun _ _ _ s9 _ => n - (intOf s9).toNat)
      case atStart => exact ⟨0, none, 0, none, 0, rfl, rfl, rfl, rfl, by omega, HT0, hideIt (fun t ht => absurd ht (by omega))⟩
      case round =>
        clear HT0 hq0 hq1 g0 g1 b1 b2 b3
        obtain ⟨k, ao2, cap2, bo, c, rfl, rfl, rfl, rfl, hk, HT, HE⟩ := hrel
        by_cases hlt : k < n
        · have h1 : (k : Int) < (n : Int) := by omega
          have hn60 := HN.out
          have HR1 := hideIt (HVR.out wr (rdAt bs (at_ : Int) k) (HF2.out.trans HT.out.fr (fun _ _ e => e)))
          obtain ⟨y, hy⟩ : ∃ y, readR bs (rdAt bs (at_ : Int) k) = y := ⟨_, rfl⟩
          have HY := hideIt (show rdR bs (at_ : Int) k = y from hy)
          have HYA := hideIt (show rdAt bs (at_ : Int) (k + 1) = y.2.1 from congrArg (·.2.1) hy)
          rw [hy] at HR1
          clear hy
          obtain ⟨⟨op, x1, x2, x3, x4, sx⟩, m, er, ea⟩ := y
          unfold readV icells at HR1
          dsimp only at HR1 HYA
          have HPS := hideIt (rdP_succ bs (at_ : Int) k)
          generalize rdAt bs (at_ : Int) k = ak at *
          go_wp2_with fail
          refine Calls.mono HR1.out ?_
          rintro e w3 ⟨rfl, hF3⟩
          have HF3 := hideIt hF3
          have HT3 := hideIt (HT.out.quiet hF3)
          clear hF3 HR1 HT
          have hX3 := (HT3.out.fr.block w.heap.size hlt2 (fun e => e)).trans HX2.out
          have hlt3 := (Array.getElem?_eq_some_iff.1 hX3).1
          by_cases her : er = 0
          · subst her
            clear hX3
            have HT4 := hideIt (HT3.out.quiet (((Fr.refl (fun _ => False) w3).alloc (.cells #[.int .i64 op, .int .i64 x1, .int .i64 x2, .int .i64 x3, .int .i64 x4, .string sx] 40)).alloc (.cells #[.int .i64 0, .int .i64 ea] 28)))
            obtain ⟨ao3, cap3, w4, hrun4, hT5⟩ := HT4.out.appA (by rw [rdL_len]; have := HN.out; omega) ⟨op, x1, x2, x3, x4, sx⟩ #[.int .i64 op, .int .i64 x1, .int .i64 x2, .int .i64 x3, .int .i64 x4, .string sx] rfl
            rw [rdL_len] at hrun4
            obtain ⟨bo3, c3, w5, hrun5, hT6⟩ := hT5.appB (by rw [rdP_len]; have := HN.out; omega) ak
            rw [rdP_len] at hrun5
            rw [show ((w3.alloc (.cells #[.int .i64 op, .int .i64 x1, .int .i64 x2, .int .i64 x3, .int .i64 x4, .string sx] 40)).alloc (.cells #[.int .i64 0, .int .i64 ea] 28)).heap.size = w3.heap.size + 1 + 1 by simp] at hrun4
            have HRUN4 := hideIt hrun4
            have HRUN5 := hideIt hrun5
            have HT6 := hideIt (show Two w2 w5 ao3 cap3 (rdL bs (at_ : Int) (k + 1)) bo3 c3 (rdP bs (at_ : Int) (k + 1)) by
              rw [rdL_succ, HPS.out, HY.out]; exact hT6)
            have HEE := hideIt (congrArg (fun y => y.2.2.1) HY.out)
            dsimp only at HEE
            clear hrun4 hrun5 hT5 hT6 HT3 HF3
            go_wp2_with (first | (at_builtin; refine wpList_append_run _ rfl (.tmp 52) (.tmp 54) 25 25 rfl (.slice ao2 k cap2) (.slice (some ⟨w3.heap.size + 1 + 1, 0, none⟩) 1 1) (.slice ao3 (k + 1) cap3) w4 rfl rfl HRUN4.out ?_) | (at_builtin; refine wpList_append_run _ rfl (.tmp 56) (.tmp 58) 55 55 rfl (.slice bo k c) (.slice (some ⟨w4.heap.size, 0, none⟩) 1 1) (.slice bo3 (k + 1) c3) w5 rfl rfl HRUN5.out ?_))
            go_roundw
            case measure => simp [intOf]; omega
            case rel => exact ⟨k + 1, ao3, cap3, bo3, c3, by rw [HYA.out], rfl, rfl, by go_num, by omega, HT6, hideIt (fun t ht => by
              by_cases e : t = k
              · subst e; exact HEE.out
              · exact HE.out t (by omega))⟩
          · have hne : (er == 0) = false := by simpa using her
            have hRk : R = ([], er, ea) := by
              rw [← HRN.out]
              unfold readN
              rw [find_first _ n k hlt (by rw [HY.out]; simpa using her) (fun t ht => by simpa using HE.out t ht)]
              dsimp only
              rw [HY.out]
            have HRk := hideIt hRk
            have HX3 := hideIt hX3
            have hq0 := cellOfHeap hX3 0 rfl
            have hq1 := cellOfHeap hX3 1 rfl
            have g0 := frozen_of_row w3 w.heap.size 0 _ _ hX3
            have g1 := frozen_of_row w3 w.heap.size 1 _ _ hX3
            clear hX3 hRk
            go_wp2_with fail
            have c0 : ((w3.alloc (.cells #[.int .i64 op, .int .i64 x1, .int .i64 x2, .int .i64 x3, .int .i64 x4, .string sx] 40)).alloc (.cells #[.int .i64 er, .int .i64 ea] 28)).cell? ⟨w3.heap.size + 1, 0, none⟩ = some (.int .i64 er) := cellOfHeap (heap_new (by simp)) 0 rfl
            go_region
            go_wp2_with fail
            obtain ⟨hb3, hfz⟩ := set_two w3 w.heap.size er ea HX3.out
            have hb4 : ((((w3.setCell ⟨w.heap.size, 0, none⟩ (.int .i64 er)).setCell ⟨w.heap.size, 1, none⟩ (.int .i64 ea)).alloc (.cells #[.int .i64 op, .int .i64 x1, .int .i64 x2, .int .i64 x3, .int .i64 x4, .string sx] 40)).alloc (.cells #[.int .i64 er, .int .i64 ea] 28)).heap[w.heap.size]? = _ := heap_old (heap_old hb3)
            have pp0 := cellOfHeap hb4 0 rfl
            have pp1 := cellOfHeap hb4 1 rfl
            have HFZ := hideIt (((((HF2.out.trans HT3.out.fr (fun _ _ e => e)).trans hfz (fun i hi e => absurd hi (by omega))).alloc (.cells #[.int .i64 op, .int .i64 x1, .int .i64 x2, .int .i64 x3, .int .i64 x4, .string sx] 40)).alloc (.cells #[.int .i64 er, .int .i64 ea] 28)).drew)
            clear hb3 hb4 hfz hq0 hq1 g0 g1
            refine bodyPost_ret (v := .tuple #[.slice none 0 0, .agg #[.int .i64 er, .int .i64 ea]]) (by simp [results, Try.results9, go_sem, pp0, pp1]) rfl ?_
            rw [HRk.out]
            exact ⟨none, 0, rfl, Or.inl rfl, HFZ.out, fun k hk => by obtain ⟨_, e, _⟩ := hk; cases e⟩
        · have hje : k = n := by omega
          have hjn : ¬ (k : Int) < (n : Int) := by omega
          subst hje
          have hnone : (List.range k).find? (fun t => (rdR bs (at_ : Int) t).2.2.1 != 0) = none := find_none _ k (fun t ht => by simpa using HE.out t ht)
          have HR2 := hideIt (show (if rdAt bs (at_ : Int) k < (bs.length : Int) then (([] : List Ins), (4 : Int), rdAt bs (at_ : Int) k) else match (List.range k).find? (fun t => beyb (rdL bs (at_ : Int) k) t) with | some t => ([], 5, rdAt bs (at_ : Int) t) | none => (rdL bs (at_ : Int) k, 0, 0)) = R by
            rw [← HRN.out]; unfold readN; rw [hnone]; try rfl)
          have hXr := (HT.out.fr.block w.heap.size hlt2 (fun e => e)).trans HX2.out
          have HXr := hideIt hXr
          have hltr := (Array.getElem?_eq_some_iff.1 hXr).1
          have HFr := hideIt (HF2.out.trans HT.out.fr (fun _ _ e => e))
          have HROW := hideIt ((HT.out.a.at encIns_len).ins)
          obtain ⟨en, hen⟩ : ∃ en, rdAt bs (at_ : Int) k = en := ⟨_, rfl⟩
          rw [hen] at HR2
          clear hnone HRN HVR HE
          by_cases hend : en < (bs.length : Int)
          · have hRk : R = ([], 4, en) := by rw [← HR2.out, if_pos hend]
            have HRk := hideIt hRk
            have hq0 := cellOfHeap hXr 0 rfl
            have hq1 := cellOfHeap hXr 1 rfl
            have g0 := frozen_of_row wr w.heap.size 0 _ _ hXr
            have g1 := frozen_of_row wr w.heap.size 1 _ _ hXr
            clear hRk HR2 hXr
            rw [hen]
            clear hen
            go_wp2_with fail
            obtain ⟨hb3, hfz⟩ := set_two wr w.heap.size 4 en HXr.out
            have pp0 := cellOfHeap hb3 0 rfl
            have pp1 := cellOfHeap hb3 1 rfl
            have HFZ := hideIt (HFr.out.trans hfz (fun i hi e => absurd hi (by omega)))
            clear hb3 hfz hq0 hq1 g0 g1
            refine bodyPost_ret (v := .tuple #[.slice none 0 0, .agg #[.int .i64 4, .int .i64 en]]) (by simp [results, Try.results9, go_sem, pp0, pp1]) rfl ?_
            rw [HRk.out]
            exact ⟨none, 0, rfl, Or.inl rfl, HFZ.out, fun k hk => by obtain ⟨_, e, _⟩ := hk; cases e⟩
          · have hd2 : decide (en < (bs.length : Int)) = false := by simpa using hend
            have HR3 := hideIt (show (match (List.range k).find? (fun t => beyb (rdL bs (at_ : Int) k) t) with | some t => (([] : List Ins), (5 : Int), rdAt bs (at_ : Int) t) | none => (rdL bs (at_ : Int) k, 0, 0)) = R by rw [← HR2.out, if_neg hend])
            clear HR2 hend hXr
            rw [hen]
            clear hen
            have HPL := hideIt (HT.out.b.at encNum_len)
            obtain ⟨wq, hwq⟩ : ∃ wq, wq = wr := ⟨_, rfl⟩
            subst hwq
            have HAN := hideIt HT.out.an
            have HLT2 := hideIt hlt2
            clear HT HF2 HX2 hlt2 hlb2
            go_wp2_with fail
            go_loopw [13] (fun s13 wr => ∃ j : Nat, s13 = .int .i64 j ∧ j ≤ k ∧ Hid (Fr (fun _ => False) wq wr) ∧ Hid (∀ t, t < j → beyb (rdL bs (at_ : Int) k) t = false)) (fun s13 _ => k - (intOf s13).toNat)
            case atStart => exact ⟨0, rfl, by omega, hideIt (Fr.refl _ _), hideIt (fun t ht => absurd ht (by omega))⟩
            case round =>
              obtain ⟨j, rfl, hj, HF4, HNB⟩ := hrel
              have hn60 := HN.out
              by_cases hlt : j < k
              · have h1 : (j : Int) < (k : Int) := by omega
                have HBY := hideIt (hbeyond_any ao2 cap2 (rdL bs (at_ : Int) k) j (by rw [rdL_len]; exact hlt) (by rw [rdL_len]; omega) wr (HROW.out.fr HF4.out (fun _ _ _ e => e)))
                rw [rdL_len] at HBY
                have hX4 := (HF4.out.block w.heap.size hltr (fun e => e)).trans HXr.out
                have HX4 := hideIt hX4
                have HFZ4 := hideIt (HFr.out.trans HF4.out (fun _ _ e => e))
                have hlt4 := (Array.getElem?_eq_some_iff.1 hX4).1
                by_cases hbey : beyb (rdL bs (at_ : Int) k) j = true
                · have hRk : R = ([], 5, rdAt bs (at_ : Int) j) := by
                    rw [← HR3.out, find_first _ k j hlt hbey HNB.out]
                  have hPL := HPL.out.fr HF4.out (fun _ _ e => e)
                  rcases hPL with ⟨_, e⟩ | ⟨b, off, rfl, hb, hcells⟩
                  · have := congrArg List.length e
                    rw [rdP_len] at this
                    simp at this
                    omega
                  have hcj := hcells j (by rw [rdP_len]; exact hlt) 0 _ rfl
                  rw [rdP_get, Nat.mul_one, Nat.add_zero] at hcj
                  generalize rdAt bs (at_ : Int) j = fa at *
                  have HRk := hideIt hRk
                  have hq0 := cellOfHeap hX4 0 rfl
                  have hq1 := cellOfHeap hX4 1 rfl
                  have g0 := frozen_of_row wr w.heap.size 0 _ _ hX4
                  have g1 := frozen_of_row wr w.heap.size 1 _ _ hX4
                  have hj0 : (0 : Int) ≤ (j : Int) := by omega
                  rw [hbey] at HBY
                  clear hcells hRk hX4 HR3 HNB HPL hbey
                  go_wp2_with fail
                  refine Calls.mono HBY.out ?_
                  rintro e w5 ⟨rfl, rfl⟩
                  go_wp2_with fail
                  go_region
                  go_wp2_with fail
                  obtain ⟨hb3, hfz⟩ := set_two w5 w.heap.size 5 fa HX4.out
                  have pp0 := cellOfHeap hb3 0 rfl
                  have pp1 := cellOfHeap hb3 1 rfl
                  have HFZ := hideIt ((HFZ4.out.trans hfz (fun i hi e => absurd hi (by omega))).drew)
                  clear hb3 hfz hq0 hq1 g0 g1
                  refine bodyPost_ret (v := .tuple #[.slice none 0 0, .agg #[.int .i64 5, .int .i64 fa]]) (by simp [results, Try.results9, go_sem, pp0, pp1]) rfl ?_
                  rw [HRk.out]
                  exact ⟨none, 0, rfl, Or.inl rfl, HFZ.out, fun k hk => by obtain ⟨_, e, _⟩ := hk; cases e⟩
                · have hbf : beyb (rdL bs (at_ : Int) k) j = false := by simpa using hbey
                  have HBF := hideIt hbf
                  rw [hbf] at HBY
                  clear hbey hbf hX4
                  go_wp2_with fail
                  refine Calls.mono HBY.out ?_
                  rintro e w5 ⟨rfl, rfl⟩
                  go_wp2_with fail
                  go_roundw
                  case measure => simp [intOf]; omega
                  case rel => exact ⟨j + 1, by go_num, by omega, HF4, hideIt (fun t ht => by
                    by_cases e : t = j
                    · subst e; exact HBF.out
                    · exact HNB.out t (by omega))⟩
              · have hjk : j = k := by omega
                have hjn2 : ¬ (j : Int) < (k : Int) := by omega
                have hRk : R = (rdL bs (at_ : Int) k, 0, 0) := by
                  rw [← HR3.out, find_none _ k (fun t ht => HNB.out t (by omega))]
                have HRk := hideIt hRk
                have hX4 := (HF4.out.block w.heap.size hltr (fun e => e)).trans HXr.out
                have HX4 := hideIt hX4
                have hlt4 := (Array.getElem?_eq_some_iff.1 hX4).1
                have HFZ4 := hideIt (HFr.out.trans HF4.out (fun _ _ e => e))
                have HROW4 := hideIt (HROW.out.fr HF4.out (fun _ _ _ e => e))
                have HLOW := hideIt (fun i (h : blk ao2 i) => show w2.heap.size ≤ i from HAN.out i h)
                have hq0 := cellOfHeap hX4 0 rfl
                have hq1 := cellOfHeap hX4 1 rfl
                have g0 := frozen_of_row wr w.heap.size 0 _ _ hX4
                have g1 := frozen_of_row wr w.heap.size 1 _ _ hX4
                clear hX4 hRk HR3 HNB HPL
                go_wp2_with fail
                obtain ⟨hb3, hfz⟩ := set_two wr w.heap.size 0 0 HX4.out
                have pp0 := cellOfHeap hb3 0 rfl
                have pp1 := cellOfHeap hb3 1 rfl
                have HFZ := hideIt (HFZ4.out.trans hfz (fun i hi e => absurd hi (by omega)))
                have HRZ := hideIt (HROW4.out.fr hfz (fun i _ hi e => by have := HLOW.out i hi; have := HLT2.out; omega))
                clear hb3 hfz hq0 hq1 g0 g1
                refine bodyPost_ret (v := .tuple #[.slice ao2 k cap2, .agg #[.int .i64 0, .int .i64 0]]) (by simp [results, Try.results9, go_sem, pp0, pp1]) rfl ?_
                rw [HRk.out]
                exact ⟨ao2, cap2, by rw [rdL_len], HRZ.out, HFZ.out, fun i hi => by have := HLOW.out i hi; have := HLT2.out; omega⟩
    · have hne : (er == 0) = false := by simpa using her
      have hRk : R = ([], er, ea) := by rw [← HR.out, if_neg her]
      have HRk := hideIt hRk
      clear hRk HR
      go_wp2_with fail
      go_region
      go_wp2_with fail
      obtain ⟨hb3, hfz⟩ := set_two w2 w.heap.size er ea HX2.out
      have pp0 := cellOfHeap hb3 0 rfl
      have pp1 := cellOfHeap hb3 1 rfl
      have HFZ := hideIt ((HF2.out.trans hfz (fun i hi e => absurd hi (by omega))).drew)
      clear hb3 hfz hq0 hq1 g0 g1
      refine bodyPost_ret (v := .tuple #[.slice none 0 0, .agg #[.int .i64 er, .int .i64 ea]]) (by simp [results, Try.results9, go_sem, pp0, pp1]) rfl ?_
      rw [HRk.out]
      exact ⟨none, 0, rfl, Or.inl rfl, HFZ.out, fun k hk => by obtain ⟨_, e, _⟩ := hk; cases e⟩

end Go.Proofs.Ytojgikaoiegmpaa
