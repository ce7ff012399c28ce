/- Keys: sift, Minus, Both. -/
import Derived.Test.YtcejebelellemaaKh
namespace Go.Proofs.Ytcejebelellemaa
open Go.RowKit Go.IntWalk
set_option linter.unusedSimpArgs false
set_option linter.unusedVariables false

/-- Those of a list that are in another one, or are not. -/
def siftL (a b : List ByteArray) (v : Bool) : List ByteArray := (setL a).filter fun k => inL b k == v

theorem boxes_one {w : World} (a1 a2 : Option Addr) (c1 c2 : Nat) (A B : List ByteArray) (h1 : KsRow w a1 c1 A) (h2 : KsRow w a2 c2 B) (t : TypeId) : WkAt ((w.alloc (.cells #[.slice a1 A.length c1] t)).alloc (.cells #[.slice a2 B.length c2] t)) w.heap.size w.heap.size A := by
  have hF : Fr (fun _ => False) w ((w.alloc (.cells #[.slice a1 A.length c1] t)).alloc (.cells #[.slice a2 B.length c2] t)) := ((Fr.refl _ _).alloc _).alloc _
  refine ⟨Nat.le_refl _, a1, c1, cellA (cellNew _ _ _ _ _ rfl) _, ?_, Or.inr (h1.at.fr0 hF), h1.cap, fun k hk => h1.lt hk⟩
  rw [Fr.frozen0 ((Fr.refl (fun _ => False) _).alloc _) (by simp)]
  exact frozenNew _ _ _ _ _ rfl

theorem boxes_two {w : World} (a1 a2 : Option Addr) (c1 c2 : Nat) (A B : List ByteArray) (h1 : KsRow w a1 c1 A) (h2 : KsRow w a2 c2 B) (t : TypeId) : WkAt ((w.alloc (.cells #[.slice a1 A.length c1] t)).alloc (.cells #[.slice a2 B.length c2] t)) w.heap.size (w.heap.size + 1) B := by
  have hF : Fr (fun _ => False) w ((w.alloc (.cells #[.slice a1 A.length c1] t)).alloc (.cells #[.slice a2 B.length c2] t)) := ((Fr.refl _ _).alloc _).alloc _
  refine ⟨by omega, a2, c2, cellNew _ _ _ _ _ (by simp), frozenNew _ _ _ _ _ (by simp), Or.inr (h2.at.fr0 hF), h2.cap, fun k hk => h2.lt hk⟩

/-- The loop of sift, in memory: what is told so far, what is left of either list. -/
structure SiftSt (M : Nat) (w wr : World) (tl rest l2 : List ByteArray) (ao : Option Addr) (cap : Nat) : Prop where
  row : KsRow wr ao cap tl
  new : ∀ k, blk ao k → M + 2 ≤ k
  mine : WkAt wr M M rest
  other : WkAt wr M (M + 1) l2
  fr : Fr (fun _ => False) w wr
  size : M + 2 ≤ wr.heap.size
  low : w.heap.size ≤ M

theorem SiftSt.reached {M : Nat} {w wr w' : World} {tl rest l2 l2' : List ByteArray} {ao : Option Addr} {cap : Nat} (h : SiftSt M w wr tl rest l2 ao cap) (hw : WkAt w' M (M + 1) l2') (hF : Fr (fun i => i = M + 1) wr w') : SiftSt M w w' tl rest l2' ao cap :=
  ⟨h.row.fr hF (fun k hk e => by have := h.new k hk; omega), h.new, h.mine.fr hF (by omega) (fun k hk e => by omega), hw, h.fr.trans hF (fun i hi e => by have := h.low; omega), Nat.le_trans h.size hF.size, h.low⟩

theorem SiftSt.stepped {M : Nat} {w wr w' : World} {tl rest rest' l2 : List ByteArray} {ao : Option Addr} {cap : Nat} (h : SiftSt M w wr tl rest l2 ao cap) (hw : WkAt w' M M rest') (hF : Fr (fun i => i = M) wr w') : SiftSt M w w' tl rest' l2 ao cap :=
  ⟨h.row.fr hF (fun k hk e => by have := h.new k hk; omega), h.new, hw, h.other.fr hF (by omega) (fun k hk e => by omega), h.fr.trans hF (fun i hi e => by have := h.low; omega), Nat.le_trans h.size hF.size, h.low⟩

theorem SiftSt.grown {M : Nat} {w wr w' : World} {tl tl' rest l2 : List ByteArray} {ao ao' : Option Addr} {cap cap' : Nat} {o : Obj} (h : SiftSt M w wr tl rest l2 ao cap) (hr : KsRow w' ao' cap' tl') (hF : Fr (blk ao) (wr.alloc o) w') (ha : ao' = ao ∨ ao' = some ⟨(wr.alloc o).heap.size, 0, none⟩) : SiftSt M w w' tl' rest l2 ao' cap' := by
  have hF0 : Fr (fun _ => False) wr (wr.alloc o) := (Fr.refl _ _).alloc _
  have hF1 : Fr (blk ao) wr w' := (hF0.mono (fun _ e => e.elim)).trans hF (fun _ _ e => e)
  have hb : ∀ k, blk ao k → M + 2 ≤ k := h.new
  refine ⟨hr, fun k hk => ?_, h.mine.fr hF1 (fun e => by have := hb _ e; omega) (fun k hk e => by have := hb _ e; omega), h.other.fr hF1 (fun e => by have := hb _ e; omega) (fun k hk e => by have := hb _ e; omega), h.fr.trans hF1 (fun i hi e => by have := hb _ e; have := h.low; omega), Nat.le_trans h.size hF1.size, h.low⟩
  rcases ha with e | e
  · subst e; exact hb k hk
  · subst e
    obtain ⟨a, e1, e2⟩ := hk
    obtain rfl := Option.some.inj e1
    have := h.size
    simp at e2
    omega

/-- .. and on paper. -/
def SiftP (A b : List ByteArray) (v : Bool) (rest l2 tl : List ByteArray) : Prop :=
  ∃ pre, A = pre ++ rest ∧ tl = pre.filter (fun k => inL b k == v) ∧ Rises l2 ∧ ∀ k ∈ rest, inL l2 k = inL b k

theorem SiftP.next {A b : List ByteArray} {v : Bool} {x : ByteArray} {r l2 tl tl' : List ByteArray} (h : SiftP A b v (x :: r) l2 tl) (hA : Rises A) (ht : tl' = tl ++ (if inL b x == v then [x] else [])) : SiftP A b v r (dropW x l2) tl' := by
  obtain ⟨pre, h1, h2, h3, h4⟩ := h
  have hr : Rises (x :: r) := by rw [h1] at hA; exact (List.pairwise_append.1 hA).2.1
  refine ⟨pre ++ [x], by rw [h1]; simp, ?_, dropW_rises h3, fun k hk => ?_⟩
  · rw [List.filter_append, ht, ← h2]
    congr 1
    rw [List.filter_cons]
    rfl
  · rw [← h4 k (List.mem_cons_of_mem _ hk)]
    exact inL_eq (dropW_mem x k (fun hkx => kLt_irrefl _ (kLt_trans hkx ((List.pairwise_cons.1 hr).1 k hk))) l2)

theorem SiftP.hit {A b : List ByteArray} {v : Bool} {x : ByteArray} {r l2 tl : List ByteArray} (h : SiftP A b v (x :: r) l2 tl) : hitB x l2 = inL b x := by
  obtain ⟨pre, h1, h2, h3, h4⟩ := h
  rw [hit_eq h3]
  exact h4 x (List.mem_cons_self ..)

theorem SiftP.short {A b : List ByteArray} {v : Bool} {rest l2 tl : List ByteArray} (h : SiftP A b v rest l2 tl) : tl.length ≤ A.length := by
  obtain ⟨pre, h1, h2, _⟩ := h
  rw [h2, h1, List.length_append]
  have := List.length_filter_le (fun k => inL b k == v) pre
  omega

set_option maxRecDepth 100000 in
set_option maxHeartbeats 2000000 in
theorem ksift_any (ao bo : Option Addr) (ca cb : Nat) (a b : List ByteArray) (v : Bool) (w : World) (ha : a = [] ∨ KsAt w ao a) (hb : b = [] ∨ KsAt w bo b) (hal : a.length ≤ 1000000) (hbl : b.length ≤ 1000000) (hak : ∀ x ∈ a, x.size ≤ maxLen) (hbk : ∀ x ∈ b, x.size ≤ maxLen) :
    Calls Try.prog 35 #[.slice ao a.length ca, .slice bo b.length cb, .bool v] w (RisePost (siftL a b v) w) := by
  have hS1 := hideIt (ksort_any ao ca a w ha (by omega) hak)
  have HB := hideIt hb
  have HBK := hideIt hbk
  have hlA := setL_len a
  have hlB := setL_len b
  have HRA := hideIt (setL_rises a)
  have HRB := hideIt (setL_rises b)
  have HMB := hideIt (fun k => inL_eq (mem_setL b k))
  clear ha hb hak hbk
  unfold siftL
  generalize setL a = A at *
  go_enter Try.func35, Try.ntmps35
  go_wp2_with fail
  refine Calls.mono hS1.out ?_
  rintro e w1 ⟨ao1, cap1, rfl, hrow1, hF1, hn1⟩
  have HF1 := hideIt hF1
  have HROW1 := hideIt hrow1
  have hS2 := hideIt (ksort_any bo cb b w1 (kats_fr0 HB.out hF1) (by omega) HBK.out)
  clear hF1 hrow1 hn1 hS1
  generalize setL b = B at *
  go_wp2_with fail
  refine Calls.mono hS2.out ?_
  rintro e w2 ⟨ao2, cap2, rfl, hrow2, hF2, hn2⟩
  have HF2 := hideIt (HF1.out.trans hF2 (fun _ _ e => e))
  have HROW1' := hideIt (HROW1.out.fr0 hF2)
  have HROW2 := hideIt hrow2
  clear hF2 hrow2 hn2 hS2 HROW1 HF1
  go_wp2_with fail
  have HW1 := hideIt (boxes_one ao1 ao2 cap1 cap2 A B HROW1'.out HROW2.out 61)
  have HW2 := hideIt (boxes_two ao1 ao2 cap1 cap2 A B HROW1'.out HROW2.out 61)
  have HF3 := hideIt ((HF2.out.alloc (.cells #[.slice ao1 A.length cap1] 61)).alloc (.cells #[.slice ao2 B.length cap2] 61))
  have HSZ := hideIt (show w2.heap.size + 2 ≤ ((w2.alloc (.cells #[.slice ao1 A.length cap1] 61)).alloc (.cells #[.slice ao2 B.length cap2] 61)).heap.size by simp)
  have HWM := hideIt HF2.out.size
  have hHd := hideIt (khead_any ao1 cap1 A _ (Or.inr (HROW1'.out.at.fr0 (((Fr.refl (fun _ => False) w2).alloc (.cells #[.slice ao1 A.length cap1] 61)).alloc (.cells #[.slice ao2 B.length cap2] 61)))))
  clear HROW1' HROW2 HF2
  generalize (w2.alloc (.cells #[.slice ao1 A.length cap1] 61)).alloc (.cells #[.slice ao2 B.length cap2] 61) = w3 at *
  generalize w2.heap.size = M at *
  refine Calls.mono hHd.out ?_
  rintro e w3' ⟨rfl, rfl⟩
  clear hHd
  go_wp2_with fail
  go_loopw [7, 10, 11] (fun t7 t10 t11 wr => ∃ tl rest l2 ao3 cap3, t7 = .slice ao3 tl.length cap3 ∧ t10 = .string (headK rest) ∧ t11 = .bool (!rest.isEmpty) ∧ Hid (SiftSt M w wr tl rest l2 ao3 cap3) ∧ Hid (SiftP A b v rest l2 tl)) (fun _ _ _ wr => wkLen wr M)
  case atStart => exact ⟨[], A, B, none, 0, rfl, rfl, rfl, hideIt ⟨KsRow.nil _, fun k hk => (by obtain ⟨a, e, _⟩ := hk; cases e), HW1.out, HW2.out, HF3.out, HSZ.out, HWM.out⟩, hideIt ⟨[], rfl, rfl, HRB.out, fun k _ => HMB.out k⟩⟩
  case round =>
    obtain ⟨tl, rest, l2, ao3, cap3, rfl, rfl, rfl, HI, HP⟩ := hrel
    cases rest with
    | nil =>
      have HFIN := hideIt (show RisePost (A.filter fun k => inL b k == v) w (.returned (.slice ao3 tl.length cap3)) wr from by
        obtain ⟨pre, h1, h2, _⟩ := HP.out
        rw [List.append_nil] at h1
        subst h1
        rw [← h2]
        exact ⟨ao3, cap3, rfl, HI.out.row, HI.out.fr, fun k hk => by have := HI.out.new k hk; have h2 := HI.out.low; omega⟩)
      simp only [headK_nil, List.isEmpty_nil, Bool.not_true]
      go_wp2_with fail
      go_ret
      exact HFIN.out
    | cons x r =>
      have HLN := hideIt (show wkLen wr M = r.length + 1 from HI.out.mine.len)
      have hRe := hideIt (by have := kreach_any M (M + 1) l2 x wr HI.out.other; unfold ReachPost at this; rw [HP.out.hit] at this; exact this)
      simp only [headK_cons, List.isEmpty_cons, Bool.not_false]
      have HLT := hideIt HP.out.short
      have HNX := hideIt (fun tl' => HP.out.next (tl' := tl') HRA.out)
      clear HP
      generalize inL b x = q at *
      by_cases hq : q = v
      · subst hq
        have hqq : (q == q) = true := by simp
        go_wp2_with fail
        refine Calls.mono hRe.out ?_
        rintro e w4 ⟨rfl, hw4, hf4⟩
        have HI4 := hideIt (HI.out.reached hw4 hf4)
        clear hRe hw4 hf4
        obtain ⟨ao5, cap5, w5, hrun, hrow5, hf5, hao5⟩ := ks_append (w4.alloc (.cells #[.string x] 9)) ao3 cap3 tl [x] (HI4.out.row.fr0 ((Fr.refl _ _).alloc _)) (some ⟨w4.heap.size, 0, none⟩) 1 (Or.inr (ks_new w4 [x] 9)) (by have := HLT.out; simp; omega)
        rw [← List.length_append] at hrun
        have HR := hideIt hrun
        have HI5 := hideIt (HI4.out.grown hrow5 hf5 hao5)
        have HP5 := hideIt (HNX.out (tl ++ [x]) (by simp))
        clear hrun hrow5 hf5 hao5 HNX HI4 HI
        generalize tl ++ [x] = tl' at *
        have HST := hideIt (kstep_any M M x r w5 HI5.out.mine)
        go_wp2_with (first | (at_builtin; refine wpList_append_run _ rfl (.tmp 35) (.tmp 37) 22 22 rfl _ _ _ _ rfl rfl HR.out ?_))
        refine Calls.mono HST.out ?_
        rintro e w6 ⟨rfl, hw6, hf6⟩
        have HI6 := hideIt (HI5.out.stepped hw6 hf6)
        obtain ⟨_, ao7, cap7, hc7, _, hk7, _, _⟩ := hw6
        have hHd := hideIt (khead_any ao7 cap7 r w6 hk7)
        clear hf6 HI5 HST hk7 HR
        go_wp2_with fail
        refine Calls.mono hHd.out ?_
        rintro e w7 ⟨rfl, rfl⟩
        clear hHd
        go_wp2_with fail
        go_roundw
        case measure => rw [HLN.out, HI6.out.mine.len]; exact Nat.lt_succ_self _
        case rel => exact ⟨tl', r, _, ao5, cap5, rfl, rfl, rfl, HI6, HP5⟩
      · have hqq : (q == v) = false := beq_eq_false_iff_ne.2 hq
        clear hq
        go_wp2_with fail
        refine Calls.mono hRe.out ?_
        rintro e w4 ⟨rfl, hw4, hf4⟩
        have HI4 := hideIt (HI.out.reached hw4 hf4)
        have HP5 := hideIt (HNX.out tl (by rw [hqq]; simp))
        clear hRe hw4 hf4 HNX HI
        have HST := hideIt (kstep_any M M x r w4 HI4.out.mine)
        go_wp2_with fail
        refine Calls.mono HST.out ?_
        rintro e w6 ⟨rfl, hw6, hf6⟩
        have HI6 := hideIt (HI4.out.stepped hw6 hf6)
        obtain ⟨_, ao7, cap7, hc7, _, hk7, _, _⟩ := hw6
        have hHd := hideIt (khead_any ao7 cap7 r w6 hk7)
        clear hf6 HI4 HST hk7
        go_wp2_with fail
        refine Calls.mono hHd.out ?_
        rintro e w7 ⟨rfl, rfl⟩
        clear hHd
        go_wp2_with fail
        go_roundw
        case measure => rw [HLN.out, HI6.out.mine.len]; exact Nat.lt_succ_self _
        case rel => exact ⟨tl, r, _, ao3, cap3, rfl, rfl, rfl, HI6, HP5⟩

theorem kminus_any (ao bo : Option Addr) (ca cb : Nat) (a b : List ByteArray) (w : World) (ha : a = [] ∨ KsAt w ao a) (hb : b = [] ∨ KsAt w bo b) (hal : a.length ≤ 1000000) (hbl : b.length ≤ 1000000) (hak : ∀ x ∈ a, x.size ≤ maxLen) (hbk : ∀ x ∈ b, x.size ≤ maxLen) :
    Calls Try.prog 13 #[.slice ao a.length ca, .slice bo b.length cb] w (RisePost (siftL a b false) w) := by
  have hS := hideIt (ksift_any ao bo ca cb a b false w ha hb hal hbl hak hbk)
  clear ha hb hak hbk
  generalize siftL a b false = s at *
  go_enter Try.func13, Try.ntmps13
  go_wp2_with fail
  refine Calls.mono hS.out ?_
  rintro e w1 ⟨ao1, cap1, rfl, hrow1, hF1, hn1⟩
  have HFIN := hideIt (show RisePost s w (.returned (.slice ao1 s.length cap1)) w1 from ⟨ao1, cap1, rfl, hrow1, hF1, hn1⟩)
  clear hS hrow1 hF1 hn1
  go_wp2_with fail
  go_ret
  exact HFIN.out

theorem kboth_any (ao bo : Option Addr) (ca cb : Nat) (a b : List ByteArray) (w : World) (ha : a = [] ∨ KsAt w ao a) (hb : b = [] ∨ KsAt w bo b) (hal : a.length ≤ 1000000) (hbl : b.length ≤ 1000000) (hak : ∀ x ∈ a, x.size ≤ maxLen) (hbk : ∀ x ∈ b, x.size ≤ maxLen) :
    Calls Try.prog 14 #[.slice ao a.length ca, .slice bo b.length cb] w (RisePost (siftL a b true) w) := by
  have hS := hideIt (ksift_any ao bo ca cb a b true w ha hb hal hbl hak hbk)
  clear ha hb hak hbk
  generalize siftL a b true = s at *
  go_enter Try.func14, Try.ntmps14
  go_wp2_with fail
  refine Calls.mono hS.out ?_
  rintro e w1 ⟨ao1, cap1, rfl, hrow1, hF1, hn1⟩
  have HFIN := hideIt (show RisePost s w (.returned (.slice ao1 s.length cap1)) w1 from ⟨ao1, cap1, rfl, hrow1, hF1, hn1⟩)
  clear hS hrow1 hF1 hn1
  go_wp2_with fail
  go_ret
  exact HFIN.out

theorem siftL_rises (a b : List ByteArray) (v : Bool) : Rises (siftL a b v) := List.Pairwise.filter _ (setL_rises a)
theorem mem_siftL (a b : List ByteArray) (v : Bool) (k : ByteArray) : k ∈ siftL a b v ↔ k ∈ a ∧ inL b k = v := by
  unfold siftL
  rw [List.mem_filter, mem_setL, beq_iff_eq]
theorem siftL_len (a b : List ByteArray) (v : Bool) : (siftL a b v).length ≤ a.length := Nat.le_trans (List.length_filter_le _ _) (setL_len a)

end Go.Proofs.Ytcejebelellemaa
