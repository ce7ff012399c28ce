/- WordAsked: what any asks tell of any bytes: the walk. -/
import Derived.Test.YteihmonafdnicaaY7
import Derived.Test.YteihmonafdnicaaDg
import Derived.Test.YteihmonafdnicaaO3
import Derived.Test.YteihmonafdnicaaP6
namespace Go.Proofs.Yteihmonafdnicaa
open Go.RowKit Go.IntWalk
set_option linter.unusedSimpArgs false
set_option linter.unusedVariables false

theorem asked_long (aob : Option Addr) (nb capb : Nat) (ao : Option Addr) (nl cap : Nat) (w : World) (hb : nb ≤ maxLen) (hl : nl ≤ maxLen) (h : 1500 < nb ∨ 30 < nl) :
    Calls Try.prog 4 #[.slice aob nb capb, .slice ao nl cap] w fun e w' => e = .returned (.bool true) ∧ Fr (fun _ => False) w w' := by
  unfold maxLen at hb hl
  have HK := hideIt (awake_any w)
  by_cases h1 : 1500 < nb
  · go_enter Try.func4, Try.ntmps4
    go_wp2_with fail
    refine Calls.mono HK.out ?_
    rintro e w1 ⟨rfl, hF1⟩
    have HF := hideIt hF1
    clear hF1
    go_wp2_with fail
    go_ret
    exact ⟨rfl, HF.out⟩
  · have h2 : 30 < nl := by omega
    go_enter Try.func4, Try.ntmps4
    go_wp2_with fail
    refine Calls.mono HK.out ?_
    rintro e w1 ⟨rfl, hF1⟩
    have HF := hideIt hF1
    clear hF1
    go_wp2_with fail
    go_ret
    exact ⟨rfl, HF.out⟩

/-- Both readers, side by side: the same place, the same fault. -/
structure Two (w wr : World) (p t : Nat) (ao1 : Option Addr) (cap1 : Nat) (px : Nat) (ao : Option Addr) (cap : Nat) (bs : List UInt8) (s : Nat × Int × Int) : Prop where
  r : ROk wr p t ao1 cap1 bs s
  y : YOk wr px ao cap bs s
  f : Fr (fun _ => False) w wr
  old : w.heap.size ≤ t ∧ w.heap.size ≤ px
  apart : p ≠ px ∧ ¬ wset t ao1 px
  low : ∀ k, blk ao k → k < w.heap.size

section
variable {w wr w' : World} {p t : Nat} {ao1 : Option Addr} {cap1 px : Nat} {ao : Option Addr} {cap : Nat} {bs : List UInt8} {s s' : Nat × Int × Int}
theorem Two.stay (h : Two w wr p t ao1 cap1 px ao cap bs s) (hF : Fr (fun _ => False) wr w') : Two w w' p t ao1 cap1 px ao cap bs s :=
  ⟨h.r.fr0 hF, ⟨h.y.1.fr hF (fun e => e) (fun _ _ _ e => e), h.y.2⟩, h.f.trans hF (fun _ _ e => e), h.old, h.apart, h.low⟩
/-- The code's reader went on: the other one stands as it did. -/
theorem Two.yKept (h : Two w wr p t ao1 cap1 px ao cap bs s) (hF : Fr (fun k => k = t) wr w') : YOk w' px ao cap bs s :=
  ⟨h.y.1.fr hF (fun e => h.apart.2 (Or.inl e)) (fun k _ hk e => by have := h.low k hk; have := h.old; omega), h.y.2⟩
theorem Two.both (h : Two w wr p t ao1 cap1 px ao cap bs s) {wA : World} (hr : ROk wA p t ao1 cap1 bs s') (hA : Fr (fun k => k = t) wr wA) (hy : YOk w' px ao cap bs s') (hB : Fr (fun k => k = px) wA w') : Two w w' p t ao1 cap1 px ao cap bs s' :=
  ⟨⟨hr.1.fr hB h.apart.1 (fun k hk e => h.apart.2 (by subst e; exact hk)), hr.2⟩, hy, (h.f.trans hA (fun k hk e => by have := h.old; omega)).trans hB (fun k hk e => by have := h.old; omega), h.old, h.apart, h.low⟩
end

set_option maxRecDepth 100000 in
set_option maxHeartbeats 16000000 in
theorem asked_any (ao : Option Addr) (cap : Nat) (bs : List UInt8) (aol : Option Addr) (capl : Nat) (l : List (Int × Int × Int)) (w : World) (hB : BsAt w ao bs) (hcb : ao = none → cap = 0) (hcl : bs.length ≤ cap) (hcm : cap ≤ maxLen) (hlow : ∀ k, blk ao k → k < w.heap.size) (hA : AsksAt w aol l) (hbl : bs.length ≤ 1500) (hll : l.length ≤ 30) :
    Calls Try.prog 4 #[.slice ao bs.length cap, .slice aol l.length capl] w fun e w' => e = .returned (.bool true) ∧ Fr (fun _ => False) w w' := by
  have hb : bs.length ≤ 140737488355328 := by omega
  have HCM := hideIt hcm
  have HLW := hideIt hlow
  have HAK := hideIt hA
  have HAW := hideIt awake_any
  have HL := hideIt (lent_any ao cap bs w hB hcb (by omega))
  have HOP := hideIt (fun (g : Nat) (w' : World) (h : Lent w' g bs) => open_any (some ⟨g, 0, none⟩) (bs.length + 3) bs w' h.bs (fun e => by cases e) hb)
  have HXO := hideIt (fun (w' : World) (hF : Fr (fun _ => False) w w') => yopen_any ao cap bs w' (hB.fr hF (fun _ _ _ e => e)) (fun k hk => Nat.lt_of_lt_of_le (hlow k hk) hF.size))
  have HKP := hideIt (fun (g : Nat) (w' : World) (h : Lent w' g bs) (hF : Fr (fun _ => False) w w') => kept_any g ao cap bs w' h (hB.fr hF (fun _ _ _ e => e)) hcb (by omega))
  have HOV := hideIt (fun (g : Nat) (w' : World) (h : Lent w' g bs) => over_full (some ⟨g, 0, none⟩) (bs.length + 3) bs w' (Or.inr ⟨g, marks bs.length, rfl, h, by simp [marks], by unfold maxLen; omega⟩))
  clear hB hcb hcm hlow hA
  go_enter Try.func4, Try.ntmps4
  go_wp2_with fail
  refine Calls.mono HL.out ?_
  rintro e w1 ⟨g, rfl, hg, hF1, hgs⟩
  have HG1 := hideIt (show Lent w1 g bs from hg)
  have HF1 := hideIt hF1
  have hg1 : g < w1.heap.size := (Array.getElem?_eq_some_iff.1 hg).1
  clear hg hF1 HL
  go_wp2_with fail
  refine Calls.mono (HOP.out g w1 HG1.out) ?_
  rintro e w2 ⟨p, t, ao1, cap1, rfl, hR, hF2, hp, ht, hn⟩
  have HG2 := hideIt (HG1.out.fr hF2 (fun e => e))
  have hlt2 : ∀ k, wset t ao1 k → k < w2.heap.size := fun k hk => hR.setlt hk
  have hp2 : p < w2.heap.size := hR.lt
  have HR2 := hideIt (show ROk w2 p t ao1 cap1 bs (0, 0, 0) from ⟨hR, Nat.zero_le _⟩)
  have HF2 := hideIt (HF1.out.trans hF2 (fun _ _ e => e))
  have HN := hideIt (show ∀ k, wset t ao1 k → w1.heap.size ≤ k from fun k hk => by
    rcases hk with e | e
    · omega
    · exact hn k e)
  have hw12 : w1.heap.size ≤ w2.heap.size := hF2.size
  clear hR hF2 HOP HG1 hn
  go_wp2_with fail
  refine Calls.mono (HXO.out w2 HF2.out) ?_
  rintro e w3 ⟨rfl, hY, hF3, hs3⟩
  have HT3 := hideIt (show Two w w3 p t ao1 cap1 w2.heap.size ao cap bs (0, 0, 0) from ⟨HR2.out.fr0 hF3, hY, HF2.out.trans hF3 (fun _ _ e => e), ⟨by have := HF1.out.size; omega, HF2.out.size⟩, ⟨by omega, fun e => by have := hlt2 _ e; omega⟩, HLW.out⟩)
  have HG3 := hideIt (HG2.out.fr hF3 (fun e => e))
  have hpx : w2.heap.size < w3.heap.size := by omega
  have htx : t < w2.heap.size := hlt2 t (Or.inl rfl)
  have HP := hideIt (And.intro hp (And.intro ht hgs))
  clear hY hF3 hs3 HXO HG2 HR2 HF2 HF1 hp ht hgs hlt2 hp2
  generalize w2.heap.size = px at *
  go_wp2_with fail
  refine Calls.mono (HKP.out g _ HG3.out HT3.out.f) ?_
  rintro e w4 ⟨rfl, hF4⟩
  have HT4 := hideIt (HT3.out.stay hF4)
  have HG4 := hideIt (HG3.out.fr hF4 (fun e => e))
  have hs4 := hF4.size
  clear hF4 HKP HG3 HT3
  go_wp2_with fail
  refine Calls.mono (HOV.out g _ HG4.out) ?_
  rintro e w5 ⟨rfl, hF5⟩
  have hgb : ∀ k, blk (some ⟨g, 0, none⟩) k → k = g := fun k ⟨x, e1, e2⟩ => by obtain rfl := Option.some.inj e1; exact e2.symm
  have HT5 := hideIt (show Two w w5 p t ao1 cap1 px ao cap bs (0, 0, 0) from by
    have h := HT4.out
    have hgl : w.heap.size ≤ g := HP.out.2.2
    have hnp : p ≠ g := by have := HP.out.1; omega
    have hnw : ∀ k, wset t ao1 k → k ≠ g := fun k hk => by have := HN.out k hk; omega
    refine ⟨⟨h.r.1.fr hF5 (fun e => hnp (hgb _ e)) (fun k hk e => hnw k hk (hgb _ e)), h.r.2⟩, ⟨h.y.1.fr hF5 (fun e => ?_) (fun k _ hk e => ?_), h.y.2⟩, h.f.trans hF5 (fun k hk e => ?_), h.old, h.apart, h.low⟩
    · have := hgb _ e; omega
    · have := hgb _ e; have := h.low k hk; omega
    · have := hgb _ e; omega)
  clear hF5 HOV HG4 HT4 hgb
  go_wp2_with fail
  go_loopw [8] (fun i wr => ∃ (k : Nat) (s : Nat × Int × Int), i = .int .i64 k ∧ k ≤ l.length ∧ Hid (Two w wr p t ao1 cap1 px ao cap bs s)) (fun i _ => (l.length - intOf i).toNat)
  case atStart => exact ⟨0, (0, 0, 0), rfl, Nat.zero_le _, HT5⟩
  case round =>
    clear HT5
    obtain ⟨k, s, rfl, hk, HT⟩ := hrel
    by_cases hlt : k < l.length
    · rcases HAK.out with h0 | ⟨b, off, rfl, hbl', hc⟩
      · rw [h0] at hlt
        exact absurd hlt (by simp)
      have HTH := hideIt (show wr.rangeAt b (off + k * 3) [.int .i64 l[k].1, .int .i64 l[k].2.1, .int .i64 l[k].2.2] from fun j v hv => (World.cell?_of_block (a := ⟨b, off + k * 3 + j, none⟩) (HT.out.f.block b hbl' (fun e => e))).trans (hc k hlt j v hv))
      have HTI := hideIt (show (Try.prog.info? 52).map (·.size) = some 3 by kernel_rfl)
      clear hc
      generalize l[k] = q at *
      obtain ⟨q1, q2, q3⟩ := q
      have HT1 := hideIt (HT.out.stay ((Fr.refl (fun _ => False) wr).alloc (.cells #[.int .i64 q1, .int .i64 q2, .int .i64 q3] 52)))
      have htr : t < wr.heap.size := HT.out.r.1.tp.lt
      have hpr : px < wr.heap.size := HT.out.y.1.lt
      clear HT
      by_cases k0 : q1 = 0
      · have k0b : (q1 == 0) = true := by simpa using k0
        clear k0
        have HRI := hideIt (fun w' (hF : Fr (fun _ => False) (wr.alloc (.cells #[.int .i64 q1, .int .i64 q2, .int .i64 q3] 52)) w') => rint_any p t ao1 cap1 bs s q2 q3 w' (HT1.out.stay hF).r hb)
        have HYI := hideIt (fun w' (hF : Fr (fun k => k = t) (wr.alloc (.cells #[.int .i64 q1, .int .i64 q2, .int .i64 q3] 52)) w') => yint_any px ao cap bs s q2 q3 w' (HT1.out.yKept hF) hb)
        generalize (rInt bs q2 q3 s) = rs at *
        obtain ⟨rv, pl, er, ea⟩ := rs
        dsimp only at HRI HYI
        have HSA := hideIt (show ∀ w', Fr (fun k => k = t ∨ k = px) (wr.alloc (.cells #[.int .i64 q1, .int .i64 q2, .int .i64 q3] 52)) w' → (w'.cell? ⟨wr.heap.size, 1, none⟩ = some (.int .i64 q2) ∧ w'.cell? ⟨wr.heap.size, 2, none⟩ = some (.int .i64 q3) ∧ Fr (fun k => k = t ∨ k = px) (wr.alloc (.cells #[.int .i64 q1, .int .i64 q2, .int .i64 q3] 52)) w') from fun w' hF => by
          have h := (hF.block wr.heap.size (by simp) (by omega)).trans (heap_new rfl)
          exact ⟨cellOfHeap h 1 rfl, cellOfHeap h 2 rfl, hF⟩)
        go_wp2_with (first | (refine wpList_load_mid rfl 52 (.tmp 44) rfl b (off + k * 3) rfl [.int .i64 q1, .int .i64 q2, .int .i64 q3] _ HTH.out Try.underlying52 rfl HTI.out ?_))
        refine wp_region_held_drew (S := fun w' => w'.cell? ⟨wr.heap.size, 1, none⟩ = some (.int .i64 q2) ∧ w'.cell? ⟨wr.heap.size, 2, none⟩ = some (.int .i64 q3) ∧ Fr (fun k => k = t ∨ k = px) (wr.alloc (.cells #[.int .i64 q1, .int .i64 q2, .int .i64 q3] 52)) w') (by kernel_rfl) ?_ (fun hHeld => ?_)
        · exact HSA.out _ (Fr.refl _ _).drew
        refine wpAnyH_take (i := 0) (v := ?v929) rfl (by kernel_rfl) (by kernel_rfl) (by kernel_rfl) (fun _ _ _ h => h) (Or.inl ⟨by rfl, ?hy929⟩) (by assumption) ?rest929
        case hy929 => intro w hSw; (try dsimp only at hSw); go_simp; (try with_reducible rfl)
        try simp only [Act.put, List.getElem_toArray, List.getElem_cons_zero, List.getElem_cons_succ, List.setIfInBounds_toArray, List.set_cons_zero, List.set_cons_succ]
        refine wpAnyH_take (i := 1) (v := ?v930) rfl (by kernel_rfl) (by kernel_rfl) (by kernel_rfl) (fun _ _ _ h => h) (Or.inl ⟨by rfl, ?hy930⟩) (by assumption) ?rest930
        case hy930 => intro w hSw; (try dsimp only at hSw); go_simp; (try with_reducible rfl)
        try simp only [Act.put, List.getElem_toArray, List.getElem_cons_zero, List.getElem_cons_succ, List.setIfInBounds_toArray, List.set_cons_zero, List.set_cons_succ]
        refine wpAnyH_take (i := 2) (v := ?v931) rfl (by kernel_rfl) (by kernel_rfl) (by kernel_rfl) (fun _ _ _ h => h) (Or.inl ⟨by rfl, ?hy931⟩) (by assumption) ?rest931
        case hy931 => intro w hSw; (try dsimp only at hSw); go_simp; (try with_reducible rfl)
        try simp only [Act.put, List.getElem_toArray, List.getElem_cons_zero, List.getElem_cons_succ, List.setIfInBounds_toArray, List.set_cons_zero, List.set_cons_succ]
        refine wpAnyH_take (i := 3) (v := ?v932) rfl (by kernel_rfl) (by kernel_rfl) (by kernel_rfl) (fun _ _ _ h => h) (Or.inl ⟨by rfl, ?hy932⟩) (by assumption) ?rest932
        case hy932 => intro w hSw; (try dsimp only at hSw); go_simp; (try with_reducible rfl)
        try simp only [Act.put, List.getElem_toArray, List.getElem_cons_zero, List.getElem_cons_succ, List.setIfInBounds_toArray, List.set_cons_zero, List.set_cons_succ]
        refine wpAnyH_take (i := 4) (v := ?v933) rfl (by kernel_rfl) (by kernel_rfl) (by kernel_rfl) (fun _ _ _ h => h) (Or.inl ⟨by rfl, ?hy933⟩) (by assumption) ?rest933
        case hy933 => intro w hSw; (try dsimp only at hSw); go_simp; (try with_reducible rfl)
        try simp only [Act.put, List.getElem_toArray, List.getElem_cons_zero, List.getElem_cons_succ, List.setIfInBounds_toArray, List.set_cons_zero, List.set_cons_succ]
        refine wpAnyH_take (i := 6) (v := ?v934) rfl (by kernel_rfl) (by kernel_rfl) (by kernel_rfl) (fun _ _ _ h => h) (Or.inl ⟨by rfl, ?hy934⟩) (by assumption) ?rest934
        case hy934 => intro w hSw; (try dsimp only at hSw); go_simp; (try with_reducible rfl)
        try simp only [Act.put, List.getElem_toArray, List.getElem_cons_zero, List.getElem_cons_succ, List.setIfInBounds_toArray, List.set_cons_zero, List.set_cons_succ]
        refine wpAnyH_take (i := 7) (v := ?v935) rfl (by kernel_rfl) (by kernel_rfl) (by kernel_rfl) (fun _ _ _ h => h) (Or.inl ⟨by rfl, ?hy935⟩) (by assumption) ?rest935
        case hy935 => intro w hSw; (try dsimp only at hSw); go_simp; (try with_reducible rfl)
        try simp only [Act.put, List.getElem_toArray, List.getElem_cons_zero, List.getElem_cons_succ, List.setIfInBounds_toArray, List.set_cons_zero, List.set_cons_succ]
        refine wpAnyH_take (i := 8) (v := ?v936) rfl (by kernel_rfl) (by kernel_rfl) (by kernel_rfl) (fun _ _ _ h => h) (Or.inl ⟨by rfl, ?hy936⟩) (by assumption) ?rest936
        case hy936 => intro w hSw; (try dsimp only at hSw); go_simp; (try with_reducible rfl)
        try simp only [Act.put, List.getElem_toArray, List.getElem_cons_zero, List.getElem_cons_succ, List.setIfInBounds_toArray, List.set_cons_zero, List.set_cons_succ]
        refine wpAnyH_take (i := 9) (v := ?v937) rfl (by kernel_rfl) (by kernel_rfl) (by kernel_rfl) (fun _ _ _ h => h) (Or.inl ⟨by rfl, ?hy937⟩) (by assumption) ?rest937
        case hy937 => intro w hSw; (try dsimp only at hSw); go_simp; (try with_reducible rfl)
        try simp only [Act.put, List.getElem_toArray, List.getElem_cons_zero, List.getElem_cons_succ, List.setIfInBounds_toArray, List.set_cons_zero, List.set_cons_succ]
        refine wpAnyH_take (i := 10) (v := ?v938) rfl (by kernel_rfl) (by kernel_rfl) (by kernel_rfl) (fun _ _ _ h => h) (Or.inl ⟨by rfl, ?hy938⟩) (by assumption) ?rest938
        case hy938 => intro w hSw; (try dsimp only at hSw); go_simp; (try with_reducible rfl)
        try simp only [Act.put, List.getElem_toArray, List.getElem_cons_zero, List.getElem_cons_succ, List.setIfInBounds_toArray, List.set_cons_zero, List.set_cons_succ]
        refine wpAnyH_ready (rs := [5]) (by kernel_rfl) (by simp) ?_
        refine AllReadyH.cons rfl (fun K hK => ?_) AllReadyH.nil
        go_simp
        refine Calls.mono (HRI.out _ (Fr.refl _ _).drew) ?_
        rintro e wA ⟨rfl, hRA, hXA⟩
        have hWA := (Fr.refl (fun k => k = t) (wr.alloc (.cells #[.int .i64 q1, .int .i64 q2, .int .i64 q3] 52))).drew.trans hXA (fun _ _ e => e)
        clear hXA
        refine hK.out _ _ ?_ (fun hHeld => ?_)
        · exact HSA.out _ (hWA.mono (fun _ e => Or.inl e))
        clear hK K
        try simp only [Act.put, List.getElem_toArray, List.getElem_cons_zero, List.getElem_cons_succ, List.setIfInBounds_toArray, List.set_cons_zero, List.set_cons_succ]
        refine wpAnyH_ready (rs := [11]) (by kernel_rfl) (by simp) ?_
        refine AllReadyH.cons rfl (fun K hK => ?_) AllReadyH.nil
        go_simp
        refine Calls.mono (HYI.out _ hWA) ?_
        rintro e wB ⟨rfl, hYB, hXB⟩
        have HT2 := hideIt (HT1.out.both hRA hWA hYB hXB)
        have hWB := (hWA.mono (S' := fun k => k = t ∨ k = px) (fun _ e => Or.inl e)).trans hXB (fun _ _ e => Or.inr e)
        clear hXB hYB hRA
        refine hK.out _ _ ?_ (fun hHeld => ?_)
        · exact HSA.out _ hWB
        clear hK K
        try simp only [Act.put, List.getElem_toArray, List.getElem_cons_zero, List.getElem_cons_succ, List.setIfInBounds_toArray, List.set_cons_zero, List.set_cons_succ]
        refine wpAnyH_take (i := 12) (v := ?v939) rfl (by kernel_rfl) (by kernel_rfl) (by kernel_rfl) (fun _ _ _ h => h) (Or.inl ⟨by rfl, ?hy939⟩) (by assumption) ?rest939
        case hy939 => intro w hSw; (try dsimp only at hSw); go_simp; (try with_reducible rfl)
        try simp only [Act.put, List.getElem_toArray, List.getElem_cons_zero, List.getElem_cons_succ, List.setIfInBounds_toArray, List.set_cons_zero, List.set_cons_succ]
        refine wpAnyH_take (i := 13) (v := ?v940) rfl (by kernel_rfl) (by kernel_rfl) (by kernel_rfl) (fun _ _ _ h => h) (Or.inl ⟨by rfl, ?hy940⟩) (by assumption) ?rest940
        case hy940 => intro w hSw; (try dsimp only at hSw); go_simp; (try with_reducible rfl)
        try simp only [Act.put, List.getElem_toArray, List.getElem_cons_zero, List.getElem_cons_succ, List.setIfInBounds_toArray, List.set_cons_zero, List.set_cons_succ]
        refine wpAnyH_done (by kernel_rfl) ?_ _
        clear hHeld hWA hWB HRI HYI HSA HT1
        have HAT := hideIt (fun w' (hF : Fr (fun _ => False) wB w') => rat_any p t ao1 cap1 bs (pl, er, ea) w' (HT2.out.stay hF).r)
        have HLF := hideIt (fun w' (hF : Fr (fun _ => False) wB w') => rleft_any p t ao1 cap1 bs (pl, er, ea) w' (HT2.out.stay hF).r hb)
        have HYL := hideIt (fun w' (hF : Fr (fun _ => False) wB w') => yleft_any px ao cap bs (pl, er, ea) w' (HT2.out.stay hF).y hb)
        have HFT := hideIt (fun w' (hF : Fr (fun _ => False) wB w') => rfault_any p t ao1 cap1 bs (pl, er, ea) w' (HT2.out.stay hF).r)
        have HED := hideIt (fun w' (hF : Fr (fun _ => False) wB w') => rend_any p t ao1 cap1 bs (pl, er, ea) w' (HT2.out.stay hF).r hb)
        have HYE := hideIt (fun w' (hF : Fr (fun _ => False) wB w') => yend_any px ao cap bs (pl, er, ea) w' (HT2.out.stay hF).y hb)
        generalize rEnd bs (pl, er, ea) = en at *
        obtain ⟨en1, en2⟩ := en
        generalize (bs.length : Int) - ((pl, er, ea) : Nat × Int × Int).1 = lf at *
        dsimp only at HAT HFT HED HYE
        have HS := hideIt (show ∀ w', Fr (fun _ => False) wB w' → (w'.cell? ⟨px, 1, none⟩ = some (.int .i64 (pl : Int)) ∧ w'.cell? ⟨px, 2, none⟩ = some (.int .i64 er) ∧ w'.cell? ⟨px, 3, none⟩ = some (.int .i64 ea) ∧ Fr (fun _ => False) wB w') from fun w' hF => by
          have h := (HT2.out.stay hF).y.1
          exact ⟨h.c1, h.c2, h.c3, hF⟩)
        go_wp2_with fail
        refine wp_region_held_drew (S := fun w' => w'.cell? ⟨px, 1, none⟩ = some (.int .i64 (pl : Int)) ∧ w'.cell? ⟨px, 2, none⟩ = some (.int .i64 er) ∧ w'.cell? ⟨px, 3, none⟩ = some (.int .i64 ea) ∧ Fr (fun _ => False) wB w') (by kernel_rfl) ?_ (fun hHeld => ?_)
        · exact HS.out _ (Fr.refl _ _).drew
        refine wpAnyH_take (i := 0) (v := ?v901) rfl (by kernel_rfl) (by kernel_rfl) (by kernel_rfl) (fun _ _ _ h => h) (Or.inl ⟨by kernel_rfl, ?hy901⟩) (by assumption) ?rest901
        case hy901 => intro w hSw; (try dsimp only at hSw); go_simp; (try with_reducible rfl)
        try simp only [Act.put, List.getElem_toArray, List.getElem_cons_zero, List.getElem_cons_succ, List.setIfInBounds_toArray, List.set_cons_zero, List.set_cons_succ]
        refine wpAnyH_take (i := 1) (v := ?v902) rfl (by kernel_rfl) (by kernel_rfl) (by kernel_rfl) (fun _ _ _ h => h) (Or.inl ⟨by kernel_rfl, ?hy902⟩) (by assumption) ?rest902
        case hy902 => intro w hSw; (try dsimp only at hSw); go_simp; (try with_reducible rfl)
        try simp only [Act.put, List.getElem_toArray, List.getElem_cons_zero, List.getElem_cons_succ, List.setIfInBounds_toArray, List.set_cons_zero, List.set_cons_succ]
        refine wpAnyH_take (i := 2) (v := ?v903) rfl (by kernel_rfl) (by kernel_rfl) (by kernel_rfl) (fun _ _ _ h => h) (Or.inl ⟨by kernel_rfl, ?hy903⟩) (by assumption) ?rest903
        case hy903 => intro w hSw; (try dsimp only at hSw); go_simp; (try with_reducible rfl)
        try simp only [Act.put, List.getElem_toArray, List.getElem_cons_zero, List.getElem_cons_succ, List.setIfInBounds_toArray, List.set_cons_zero, List.set_cons_succ]
        refine wpAnyH_take (i := 3) (v := ?v904) rfl (by kernel_rfl) (by kernel_rfl) (by kernel_rfl) (fun _ _ _ h => h) (Or.inl ⟨by kernel_rfl, ?hy904⟩) (by assumption) ?rest904
        case hy904 => intro w hSw; (try dsimp only at hSw); go_simp; (try with_reducible rfl)
        try simp only [Act.put, List.getElem_toArray, List.getElem_cons_zero, List.getElem_cons_succ, List.setIfInBounds_toArray, List.set_cons_zero, List.set_cons_succ]
        refine wpAnyH_take (i := 5) (v := ?v905) rfl (by kernel_rfl) (by kernel_rfl) (by kernel_rfl) (fun _ _ _ h => h) (Or.inl ⟨by kernel_rfl, ?hy905⟩) (by assumption) ?rest905
        case hy905 => intro w hSw; (try dsimp only at hSw); go_simp; (try with_reducible rfl)
        try simp only [Act.put, List.getElem_toArray, List.getElem_cons_zero, List.getElem_cons_succ, List.setIfInBounds_toArray, List.set_cons_zero, List.set_cons_succ]
        refine wpAnyH_take (i := 6) (v := ?v906) rfl (by kernel_rfl) (by kernel_rfl) (by kernel_rfl) (fun _ _ _ h => h) (Or.inl ⟨by kernel_rfl, ?hy906⟩) (by assumption) ?rest906
        case hy906 => intro w hSw; (try dsimp only at hSw); go_simp; (try with_reducible rfl)
        try simp only [Act.put, List.getElem_toArray, List.getElem_cons_zero, List.getElem_cons_succ, List.setIfInBounds_toArray, List.set_cons_zero, List.set_cons_succ]
        refine wpAnyH_take (i := 7) (v := ?v907) rfl (by kernel_rfl) (by kernel_rfl) (by kernel_rfl) (fun _ _ _ h => h) (Or.inl ⟨by kernel_rfl, ?hy907⟩) (by assumption) ?rest907
        case hy907 => intro w hSw; (try dsimp only at hSw); go_simp; (try with_reducible rfl)
        try simp only [Act.put, List.getElem_toArray, List.getElem_cons_zero, List.getElem_cons_succ, List.setIfInBounds_toArray, List.set_cons_zero, List.set_cons_succ]
        refine wpAnyH_take (i := 8) (v := ?v908) rfl (by kernel_rfl) (by kernel_rfl) (by kernel_rfl) (fun _ _ _ h => h) (Or.inl ⟨by kernel_rfl, ?hy908⟩) (by assumption) ?rest908
        case hy908 => intro w hSw; (try dsimp only at hSw); go_simp; (try with_reducible rfl)
        try simp only [Act.put, List.getElem_toArray, List.getElem_cons_zero, List.getElem_cons_succ, List.setIfInBounds_toArray, List.set_cons_zero, List.set_cons_succ]
        refine wpAnyH_ready (rs := [4]) (by kernel_rfl) (by simp) ?_
        refine AllReadyH.cons rfl (fun K hK => ?_) AllReadyH.nil
        go_simp
        refine Calls.mono (HAT.out _ (by first | exact hHeld.2.2.2 | exact (Fr.refl _ _).drewN _)) ?_
        rintro e w31 ⟨rfl, rfl⟩
        refine hK.out _ _ ?_ (fun hHeld => ?_)
        · exact hHeld
        clear hK K
        try simp only [Act.put, List.getElem_toArray, List.getElem_cons_zero, List.getElem_cons_succ, List.setIfInBounds_toArray, List.set_cons_zero, List.set_cons_succ]
        refine wpAnyH_take (i := 9) (v := ?v909) rfl (by kernel_rfl) (by kernel_rfl) (by kernel_rfl) (fun _ _ _ h => h) (Or.inl ⟨by kernel_rfl, ?hy909⟩) (by assumption) ?rest909
        case hy909 => intro w hSw; (try dsimp only at hSw); go_simp; (try with_reducible rfl)
        try simp only [Act.put, List.getElem_toArray, List.getElem_cons_zero, List.getElem_cons_succ, List.setIfInBounds_toArray, List.set_cons_zero, List.set_cons_succ]
        refine wpAnyH_take (i := 10) (v := ?v910) rfl (by kernel_rfl) (by kernel_rfl) (by kernel_rfl) (fun _ _ _ h => h) (Or.inl ⟨by kernel_rfl, ?hy910⟩) (by assumption) ?rest910
        case hy910 => intro w hSw; (try dsimp only at hSw); go_simp; (try with_reducible rfl)
        try simp only [Act.put, List.getElem_toArray, List.getElem_cons_zero, List.getElem_cons_succ, List.setIfInBounds_toArray, List.set_cons_zero, List.set_cons_succ]
        refine wpAnyH_take (i := 11) (v := ?v911) rfl (by kernel_rfl) (by kernel_rfl) (by kernel_rfl) (fun _ _ _ h => h) (Or.inl ⟨by kernel_rfl, ?hy911⟩) (by assumption) ?rest911
        case hy911 => intro w hSw; (try dsimp only at hSw); go_simp; (try with_reducible rfl)
        try simp only [Act.put, List.getElem_toArray, List.getElem_cons_zero, List.getElem_cons_succ, List.setIfInBounds_toArray, List.set_cons_zero, List.set_cons_succ]
        refine wpAnyH_take (i := 12) (v := ?v912) rfl (by kernel_rfl) (by kernel_rfl) (by kernel_rfl) (fun _ _ _ h => h) (Or.inl ⟨by kernel_rfl, ?hy912⟩) (by assumption) ?rest912
        case hy912 => intro w hSw; (try dsimp only at hSw); go_simp; (try with_reducible rfl)
        try simp only [Act.put, List.getElem_toArray, List.getElem_cons_zero, List.getElem_cons_succ, List.setIfInBounds_toArray, List.set_cons_zero, List.set_cons_succ]
        refine wpAnyH_take (i := 14) (v := ?v913) rfl (by kernel_rfl) (by kernel_rfl) (by kernel_rfl) (fun _ _ _ h => h) (Or.inl ⟨by kernel_rfl, ?hy913⟩) (by assumption) ?rest913
        case hy913 => intro w hSw; (try dsimp only at hSw); go_simp; (try with_reducible rfl)
        try simp only [Act.put, List.getElem_toArray, List.getElem_cons_zero, List.getElem_cons_succ, List.setIfInBounds_toArray, List.set_cons_zero, List.set_cons_succ]
        refine wpAnyH_ready (rs := [13]) (by kernel_rfl) (by simp) ?_
        refine AllReadyH.cons rfl (fun K hK => ?_) AllReadyH.nil
        go_simp
        refine Calls.mono (HLF.out _ (by first | exact hHeld.2.2.2 | exact (Fr.refl _ _).drewN _)) ?_
        rintro e w32 ⟨rfl, kd32, rfl⟩
        refine hK.out _ _ ?_ (fun hHeld => ?_)
        · first | exact HS.out _ (hHeld.2.2.2.drewN _) | exact HS.out _ ((Fr.refl _ _).drewN _) | exact HS.out _ (((Fr.refl _ _).drewN _).drewN _)
        clear hK K
        try simp only [Act.put, List.getElem_toArray, List.getElem_cons_zero, List.getElem_cons_succ, List.setIfInBounds_toArray, List.set_cons_zero, List.set_cons_succ]
        refine wpAnyH_ready (rs := [15]) (by kernel_rfl) (by simp) ?_
        refine AllReadyH.cons rfl (fun K hK => ?_) AllReadyH.nil
        go_simp
        refine Calls.mono (HYL.out _ (by first | exact hHeld.2.2.2 | exact (Fr.refl _ _).drewN _)) ?_
        rintro e w33 ⟨rfl, kd33, rfl⟩
        refine hK.out _ _ ?_ (fun hHeld => ?_)
        · first | exact HS.out _ (hHeld.2.2.2.drewN _) | exact HS.out _ ((Fr.refl _ _).drewN _) | exact HS.out _ (((Fr.refl _ _).drewN _).drewN _)
        clear hK K
        try simp only [Act.put, List.getElem_toArray, List.getElem_cons_zero, List.getElem_cons_succ, List.setIfInBounds_toArray, List.set_cons_zero, List.set_cons_succ]
        refine wpAnyH_take (i := 16) (v := ?v914) rfl (by kernel_rfl) (by kernel_rfl) (by kernel_rfl) (fun _ _ _ h => h) (Or.inl ⟨by kernel_rfl, ?hy914⟩) (by assumption) ?rest914
        case hy914 => intro w hSw; (try dsimp only at hSw); go_simp; (try with_reducible rfl)
        try simp only [Act.put, List.getElem_toArray, List.getElem_cons_zero, List.getElem_cons_succ, List.setIfInBounds_toArray, List.set_cons_zero, List.set_cons_succ]
        refine wpAnyH_take (i := 17) (v := ?v915) rfl (by kernel_rfl) (by kernel_rfl) (by kernel_rfl) (fun _ _ _ h => h) (Or.inl ⟨by kernel_rfl, ?hy915⟩) (by assumption) ?rest915
        case hy915 => intro w hSw; (try dsimp only at hSw); go_simp; (try with_reducible rfl)
        try simp only [Act.put, List.getElem_toArray, List.getElem_cons_zero, List.getElem_cons_succ, List.setIfInBounds_toArray, List.set_cons_zero, List.set_cons_succ]
        refine wpAnyH_take (i := 18) (v := ?v916) rfl (by kernel_rfl) (by kernel_rfl) (by kernel_rfl) (fun _ _ _ h => h) (Or.inl ⟨by kernel_rfl, ?hy916⟩) (by assumption) ?rest916
        case hy916 => intro w hSw; (try dsimp only at hSw); go_simp; (try with_reducible rfl)
        try simp only [Act.put, List.getElem_toArray, List.getElem_cons_zero, List.getElem_cons_succ, List.setIfInBounds_toArray, List.set_cons_zero, List.set_cons_succ]
        refine wpAnyH_take (i := 19) (v := ?v917) rfl (by kernel_rfl) (by kernel_rfl) (by kernel_rfl) (fun _ _ _ h => h) (Or.inl ⟨by kernel_rfl, ?hy917⟩) (by assumption) ?rest917
        case hy917 => intro w hSw; (try dsimp only at hSw); go_simp; (try with_reducible rfl)
        try simp only [Act.put, List.getElem_toArray, List.getElem_cons_zero, List.getElem_cons_succ, List.setIfInBounds_toArray, List.set_cons_zero, List.set_cons_succ]
        refine wpAnyH_take (i := 21) (v := ?v918) rfl (by kernel_rfl) (by kernel_rfl) (by kernel_rfl) (fun _ _ _ h => h) (Or.inl ⟨by kernel_rfl, ?hy918⟩) (by assumption) ?rest918
        case hy918 => intro w hSw; (try dsimp only at hSw); go_simp; (try with_reducible rfl)
        try simp only [Act.put, List.getElem_toArray, List.getElem_cons_zero, List.getElem_cons_succ, List.setIfInBounds_toArray, List.set_cons_zero, List.set_cons_succ]
        refine wpAnyH_take (i := 22) (v := ?v919) rfl (by kernel_rfl) (by kernel_rfl) (by kernel_rfl) (fun _ _ _ h => h) (Or.inl ⟨by kernel_rfl, ?hy919⟩) (by assumption) ?rest919
        case hy919 => intro w hSw; (try dsimp only at hSw); go_simp; (try with_reducible rfl)
        try simp only [Act.put, List.getElem_toArray, List.getElem_cons_zero, List.getElem_cons_succ, List.setIfInBounds_toArray, List.set_cons_zero, List.set_cons_succ]
        refine wpAnyH_take (i := 23) (v := ?v920) rfl (by kernel_rfl) (by kernel_rfl) (by kernel_rfl) (fun _ _ _ h => h) (Or.inl ⟨by kernel_rfl, ?hy920⟩) (by assumption) ?rest920
        case hy920 => intro w hSw; (try dsimp only at hSw); go_simp; (try with_reducible rfl)
        try simp only [Act.put, List.getElem_toArray, List.getElem_cons_zero, List.getElem_cons_succ, List.setIfInBounds_toArray, List.set_cons_zero, List.set_cons_succ]
        refine wpAnyH_take (i := 24) (v := ?v921) rfl (by kernel_rfl) (by kernel_rfl) (by kernel_rfl) (fun _ _ _ h => h) (Or.inl ⟨by kernel_rfl, ?hy921⟩) (by assumption) ?rest921
        case hy921 => intro w hSw; (try dsimp only at hSw); go_simp; (try with_reducible rfl)
        try simp only [Act.put, List.getElem_toArray, List.getElem_cons_zero, List.getElem_cons_succ, List.setIfInBounds_toArray, List.set_cons_zero, List.set_cons_succ]
        refine wpAnyH_ready (rs := [20]) (by kernel_rfl) (by simp) ?_
        refine AllReadyH.cons rfl (fun K hK => ?_) AllReadyH.nil
        go_simp
        refine Calls.mono (HFT.out _ (by first | exact hHeld.2.2.2 | exact (Fr.refl _ _).drewN _)) ?_
        rintro e w34 ⟨rfl, hX34⟩
        have hW34 : Fr (fun _ => False) wB w34 := Fr.trans (by first | exact hHeld.2.2.2 | exact (Fr.refl _ _).drewN _) hX34 (fun _ _ e => e)
        clear hX34
        refine hK.out _ _ ?_ (fun hHeld => ?_)
        · exact HS.out _ hW34
        clear hK K
        try simp only [Act.put, List.getElem_toArray, List.getElem_cons_zero, List.getElem_cons_succ, List.setIfInBounds_toArray, List.set_cons_zero, List.set_cons_succ]
        refine wpAnyH_take (i := 25) (v := ?v922) rfl (by kernel_rfl) (by kernel_rfl) (by kernel_rfl) (fun _ _ _ h => h) (Or.inl ⟨by kernel_rfl, ?hy922⟩) (by assumption) ?rest922
        case hy922 => intro w hSw; (try dsimp only at hSw); go_simp; (try with_reducible rfl)
        try simp only [Act.put, List.getElem_toArray, List.getElem_cons_zero, List.getElem_cons_succ, List.setIfInBounds_toArray, List.set_cons_zero, List.set_cons_succ]
        refine wpAnyH_take (i := 26) (v := ?v923) rfl (by kernel_rfl) (by kernel_rfl) (by kernel_rfl) (fun _ _ _ h => h) (Or.inl ⟨by kernel_rfl, ?hy923⟩) (by assumption) ?rest923
        case hy923 => intro w hSw; (try dsimp only at hSw); go_simp; (try with_reducible rfl)
        try simp only [Act.put, List.getElem_toArray, List.getElem_cons_zero, List.getElem_cons_succ, List.setIfInBounds_toArray, List.set_cons_zero, List.set_cons_succ]
        refine wpAnyH_take (i := 27) (v := ?v924) rfl (by kernel_rfl) (by kernel_rfl) (by kernel_rfl) (fun _ _ _ h => h) (Or.inl ⟨by kernel_rfl, ?hy924⟩) (by assumption) ?rest924
        case hy924 => intro w hSw; (try dsimp only at hSw); go_simp; (try with_reducible rfl)
        try simp only [Act.put, List.getElem_toArray, List.getElem_cons_zero, List.getElem_cons_succ, List.setIfInBounds_toArray, List.set_cons_zero, List.set_cons_succ]
        refine wpAnyH_take (i := 28) (v := ?v925) rfl (by kernel_rfl) (by kernel_rfl) (by kernel_rfl) (fun _ _ _ h => h) (Or.inl ⟨by kernel_rfl, ?hy925⟩) (by assumption) ?rest925
        case hy925 => intro w hSw; (try dsimp only at hSw); go_simp; (try with_reducible rfl)
        try simp only [Act.put, List.getElem_toArray, List.getElem_cons_zero, List.getElem_cons_succ, List.setIfInBounds_toArray, List.set_cons_zero, List.set_cons_succ]
        refine wpAnyH_take (i := 30) (v := ?v926) rfl (by kernel_rfl) (by kernel_rfl) (by kernel_rfl) (fun _ _ _ h => h) (Or.inl ⟨by kernel_rfl, ?hy926⟩) (by assumption) ?rest926
        case hy926 => intro w hSw; (try dsimp only at hSw); go_simp; (try with_reducible rfl)
        try simp only [Act.put, List.getElem_toArray, List.getElem_cons_zero, List.getElem_cons_succ, List.setIfInBounds_toArray, List.set_cons_zero, List.set_cons_succ]
        refine wpAnyH_ready (rs := [29]) (by kernel_rfl) (by simp) ?_
        refine AllReadyH.cons rfl (fun K hK => ?_) AllReadyH.nil
        go_simp
        refine Calls.mono (HED.out _ (by first | exact hHeld.2.2.2 | exact (Fr.refl _ _).drewN _)) ?_
        rintro e w35 ⟨rfl, hX35⟩
        have hW35 : Fr (fun _ => False) wB w35 := Fr.trans (by first | exact hHeld.2.2.2 | exact (Fr.refl _ _).drewN _) hX35 (fun _ _ e => e)
        clear hX35
        refine hK.out _ _ ?_ (fun hHeld => ?_)
        · exact HS.out _ hW35
        clear hK K
        try simp only [Act.put, List.getElem_toArray, List.getElem_cons_zero, List.getElem_cons_succ, List.setIfInBounds_toArray, List.set_cons_zero, List.set_cons_succ]
        refine wpAnyH_ready (rs := [31]) (by kernel_rfl) (by simp) ?_
        refine AllReadyH.cons rfl (fun K hK => ?_) AllReadyH.nil
        go_simp
        refine Calls.mono (HYE.out _ (by first | exact hHeld.2.2.2 | exact (Fr.refl _ _).drewN _)) ?_
        rintro e w36 ⟨rfl, hX36⟩
        have hW36 : Fr (fun _ => False) wB w36 := Fr.trans (by first | exact hHeld.2.2.2 | exact (Fr.refl _ _).drewN _) hX36 (fun _ _ e => e)
        clear hX36
        refine hK.out _ _ ?_ (fun hHeld => ?_)
        · exact HS.out _ hW36
        clear hK K
        try simp only [Act.put, List.getElem_toArray, List.getElem_cons_zero, List.getElem_cons_succ, List.setIfInBounds_toArray, List.set_cons_zero, List.set_cons_succ]
        refine wpAnyH_take (i := 32) (v := ?v927) rfl (by kernel_rfl) (by kernel_rfl) (by kernel_rfl) (fun _ _ _ h => h) (Or.inl ⟨by kernel_rfl, ?hy927⟩) (by assumption) ?rest927
        case hy927 => intro w hSw; (try dsimp only at hSw); go_simp; (try with_reducible rfl)
        try simp only [Act.put, List.getElem_toArray, List.getElem_cons_zero, List.getElem_cons_succ, List.setIfInBounds_toArray, List.set_cons_zero, List.set_cons_succ]
        refine wpAnyH_take (i := 33) (v := ?v928) rfl (by kernel_rfl) (by kernel_rfl) (by kernel_rfl) (fun _ _ _ h => h) (Or.inl ⟨by kernel_rfl, ?hy928⟩) (by assumption) ?rest928
        case hy928 => intro w hSw; (try dsimp only at hSw); go_simp; (try with_reducible rfl)
        try simp only [Act.put, List.getElem_toArray, List.getElem_cons_zero, List.getElem_cons_succ, List.setIfInBounds_toArray, List.set_cons_zero, List.set_cons_succ]
        refine wpAnyH_done (by kernel_rfl) ?_ _
        have hFin := hHeld.2.2.2
        have HFin := hideIt hFin
        clear hFin hHeld HAT HLF HYL HFT HED HYE HS
        go_wp2_with fail
        go_roundw
        case measure => simp [intOf]; omega
        case rel => exact ⟨k + 1, (pl, er, ea), by go_num, by omega, hideIt (HT2.out.stay HFin.out)⟩
      have k0b : (q1 == 0) = false := by simpa using k0
      by_cases k1 : q1 = 1
      · have k1b : (q1 == 1) = true := by simpa using k1
        clear k0 k1
        have HRI := hideIt (fun w' (hF : Fr (fun _ => False) (wr.alloc (.cells #[.int .i64 q1, .int .i64 q2, .int .i64 q3] 52)) w') => rcount_any p t ao1 cap1 bs s q3 w' (HT1.out.stay hF).r hb)
        have HYI := hideIt (fun w' (hF : Fr (fun k => k = t) (wr.alloc (.cells #[.int .i64 q1, .int .i64 q2, .int .i64 q3] 52)) w') => ycount_any px ao cap bs s q3 w' (HT1.out.yKept hF) hb)
        generalize (rCount bs q3 s) = rs at *
        obtain ⟨rv, pl, er, ea⟩ := rs
        dsimp only at HRI HYI
        have HSA := hideIt (show ∀ w', Fr (fun k => k = t ∨ k = px) (wr.alloc (.cells #[.int .i64 q1, .int .i64 q2, .int .i64 q3] 52)) w' → (w'.cell? ⟨wr.heap.size, 1, none⟩ = some (.int .i64 q2) ∧ w'.cell? ⟨wr.heap.size, 2, none⟩ = some (.int .i64 q3) ∧ Fr (fun k => k = t ∨ k = px) (wr.alloc (.cells #[.int .i64 q1, .int .i64 q2, .int .i64 q3] 52)) w') from fun w' hF => by
          have h := (hF.block wr.heap.size (by simp) (by omega)).trans (heap_new rfl)
          exact ⟨cellOfHeap h 1 rfl, cellOfHeap h 2 rfl, hF⟩)
        go_wp2_with (first | (refine wpList_load_mid rfl 52 (.tmp 44) rfl b (off + k * 3) rfl [.int .i64 q1, .int .i64 q2, .int .i64 q3] _ HTH.out Try.underlying52 rfl HTI.out ?_))
        refine wp_region_held_drew (S := fun w' => w'.cell? ⟨wr.heap.size, 1, none⟩ = some (.int .i64 q2) ∧ w'.cell? ⟨wr.heap.size, 2, none⟩ = some (.int .i64 q3) ∧ Fr (fun k => k = t ∨ k = px) (wr.alloc (.cells #[.int .i64 q1, .int .i64 q2, .int .i64 q3] 52)) w') (by kernel_rfl) ?_ (fun hHeld => ?_)
        · exact HSA.out _ (Fr.refl _ _).drew
        refine wpAnyH_take (i := 0) (v := ?v969) rfl (by kernel_rfl) (by kernel_rfl) (by kernel_rfl) (fun _ _ _ h => h) (Or.inl ⟨by rfl, ?hy969⟩) (by assumption) ?rest969
        case hy969 => intro w hSw; (try dsimp only at hSw); go_simp; (try with_reducible rfl)
        try simp only [Act.put, List.getElem_toArray, List.getElem_cons_zero, List.getElem_cons_succ, List.setIfInBounds_toArray, List.set_cons_zero, List.set_cons_succ]
        refine wpAnyH_take (i := 1) (v := ?v970) rfl (by kernel_rfl) (by kernel_rfl) (by kernel_rfl) (fun _ _ _ h => h) (Or.inl ⟨by rfl, ?hy970⟩) (by assumption) ?rest970
        case hy970 => intro w hSw; (try dsimp only at hSw); go_simp; (try with_reducible rfl)
        try simp only [Act.put, List.getElem_toArray, List.getElem_cons_zero, List.getElem_cons_succ, List.setIfInBounds_toArray, List.set_cons_zero, List.set_cons_succ]
        refine wpAnyH_take (i := 2) (v := ?v971) rfl (by kernel_rfl) (by kernel_rfl) (by kernel_rfl) (fun _ _ _ h => h) (Or.inl ⟨by rfl, ?hy971⟩) (by assumption) ?rest971
        case hy971 => intro w hSw; (try dsimp only at hSw); go_simp; (try with_reducible rfl)
        try simp only [Act.put, List.getElem_toArray, List.getElem_cons_zero, List.getElem_cons_succ, List.setIfInBounds_toArray, List.set_cons_zero, List.set_cons_succ]
        refine wpAnyH_take (i := 4) (v := ?v972) rfl (by kernel_rfl) (by kernel_rfl) (by kernel_rfl) (fun _ _ _ h => h) (Or.inl ⟨by rfl, ?hy972⟩) (by assumption) ?rest972
        case hy972 => intro w hSw; (try dsimp only at hSw); go_simp; (try with_reducible rfl)
        try simp only [Act.put, List.getElem_toArray, List.getElem_cons_zero, List.getElem_cons_succ, List.setIfInBounds_toArray, List.set_cons_zero, List.set_cons_succ]
        refine wpAnyH_take (i := 5) (v := ?v973) rfl (by kernel_rfl) (by kernel_rfl) (by kernel_rfl) (fun _ _ _ h => h) (Or.inl ⟨by rfl, ?hy973⟩) (by assumption) ?rest973
        case hy973 => intro w hSw; (try dsimp only at hSw); go_simp; (try with_reducible rfl)
        try simp only [Act.put, List.getElem_toArray, List.getElem_cons_zero, List.getElem_cons_succ, List.setIfInBounds_toArray, List.set_cons_zero, List.set_cons_succ]
        refine wpAnyH_take (i := 6) (v := ?v974) rfl (by kernel_rfl) (by kernel_rfl) (by kernel_rfl) (fun _ _ _ h => h) (Or.inl ⟨by rfl, ?hy974⟩) (by assumption) ?rest974
        case hy974 => intro w hSw; (try dsimp only at hSw); go_simp; (try with_reducible rfl)
        try simp only [Act.put, List.getElem_toArray, List.getElem_cons_zero, List.getElem_cons_succ, List.setIfInBounds_toArray, List.set_cons_zero, List.set_cons_succ]
        refine wpAnyH_ready (rs := [3]) (by kernel_rfl) (by simp) ?_
        refine AllReadyH.cons rfl (fun K hK => ?_) AllReadyH.nil
        go_simp
        refine Calls.mono (HRI.out _ (Fr.refl _ _).drew) ?_
        rintro e wA ⟨rfl, hRA, hXA⟩
        have hWA := (Fr.refl (fun k => k = t) (wr.alloc (.cells #[.int .i64 q1, .int .i64 q2, .int .i64 q3] 52))).drew.trans hXA (fun _ _ e => e)
        clear hXA
        refine hK.out _ _ ?_ (fun hHeld => ?_)
        · exact HSA.out _ (hWA.mono (fun _ e => Or.inl e))
        clear hK K
        try simp only [Act.put, List.getElem_toArray, List.getElem_cons_zero, List.getElem_cons_succ, List.setIfInBounds_toArray, List.set_cons_zero, List.set_cons_succ]
        refine wpAnyH_ready (rs := [7]) (by kernel_rfl) (by simp) ?_
        refine AllReadyH.cons rfl (fun K hK => ?_) AllReadyH.nil
        go_simp
        refine Calls.mono (HYI.out _ hWA) ?_
        rintro e wB ⟨rfl, hYB, hXB⟩
        have HT2 := hideIt (HT1.out.both hRA hWA hYB hXB)
        have hWB := (hWA.mono (S' := fun k => k = t ∨ k = px) (fun _ e => Or.inl e)).trans hXB (fun _ _ e => Or.inr e)
        clear hXB hYB hRA
        refine hK.out _ _ ?_ (fun hHeld => ?_)
        · exact HSA.out _ hWB
        clear hK K
        try simp only [Act.put, List.getElem_toArray, List.getElem_cons_zero, List.getElem_cons_succ, List.setIfInBounds_toArray, List.set_cons_zero, List.set_cons_succ]
        refine wpAnyH_take (i := 8) (v := ?v975) rfl (by kernel_rfl) (by kernel_rfl) (by kernel_rfl) (fun _ _ _ h => h) (Or.inl ⟨by rfl, ?hy975⟩) (by assumption) ?rest975
        case hy975 => intro w hSw; (try dsimp only at hSw); go_simp; (try with_reducible rfl)
        try simp only [Act.put, List.getElem_toArray, List.getElem_cons_zero, List.getElem_cons_succ, List.setIfInBounds_toArray, List.set_cons_zero, List.set_cons_succ]
        refine wpAnyH_take (i := 9) (v := ?v976) rfl (by kernel_rfl) (by kernel_rfl) (by kernel_rfl) (fun _ _ _ h => h) (Or.inl ⟨by rfl, ?hy976⟩) (by assumption) ?rest976
        case hy976 => intro w hSw; (try dsimp only at hSw); go_simp; (try with_reducible rfl)
        try simp only [Act.put, List.getElem_toArray, List.getElem_cons_zero, List.getElem_cons_succ, List.setIfInBounds_toArray, List.set_cons_zero, List.set_cons_succ]
        refine wpAnyH_done (by kernel_rfl) ?_ _
        clear hHeld hWA hWB HRI HYI HSA HT1
        have HAT := hideIt (fun w' (hF : Fr (fun _ => False) wB w') => rat_any p t ao1 cap1 bs (pl, er, ea) w' (HT2.out.stay hF).r)
        have HLF := hideIt (fun w' (hF : Fr (fun _ => False) wB w') => rleft_any p t ao1 cap1 bs (pl, er, ea) w' (HT2.out.stay hF).r hb)
        have HYL := hideIt (fun w' (hF : Fr (fun _ => False) wB w') => yleft_any px ao cap bs (pl, er, ea) w' (HT2.out.stay hF).y hb)
        have HFT := hideIt (fun w' (hF : Fr (fun _ => False) wB w') => rfault_any p t ao1 cap1 bs (pl, er, ea) w' (HT2.out.stay hF).r)
        have HED := hideIt (fun w' (hF : Fr (fun _ => False) wB w') => rend_any p t ao1 cap1 bs (pl, er, ea) w' (HT2.out.stay hF).r hb)
        have HYE := hideIt (fun w' (hF : Fr (fun _ => False) wB w') => yend_any px ao cap bs (pl, er, ea) w' (HT2.out.stay hF).y hb)
        generalize rEnd bs (pl, er, ea) = en at *
        obtain ⟨en1, en2⟩ := en
        generalize (bs.length : Int) - ((pl, er, ea) : Nat × Int × Int).1 = lf at *
        dsimp only at HAT HFT HED HYE
        have HS := hideIt (show ∀ w', Fr (fun _ => False) wB w' → (w'.cell? ⟨px, 1, none⟩ = some (.int .i64 (pl : Int)) ∧ w'.cell? ⟨px, 2, none⟩ = some (.int .i64 er) ∧ w'.cell? ⟨px, 3, none⟩ = some (.int .i64 ea) ∧ Fr (fun _ => False) wB w') from fun w' hF => by
          have h := (HT2.out.stay hF).y.1
          exact ⟨h.c1, h.c2, h.c3, hF⟩)
        go_wp2_with fail
        refine wp_region_held_drew (S := fun w' => w'.cell? ⟨px, 1, none⟩ = some (.int .i64 (pl : Int)) ∧ w'.cell? ⟨px, 2, none⟩ = some (.int .i64 er) ∧ w'.cell? ⟨px, 3, none⟩ = some (.int .i64 ea) ∧ Fr (fun _ => False) wB w') (by kernel_rfl) ?_ (fun hHeld => ?_)
        · exact HS.out _ (Fr.refl _ _).drew
        refine wpAnyH_take (i := 0) (v := ?v941) rfl (by kernel_rfl) (by kernel_rfl) (by kernel_rfl) (fun _ _ _ h => h) (Or.inl ⟨by kernel_rfl, ?hy941⟩) (by assumption) ?rest941
        case hy941 => intro w hSw; (try dsimp only at hSw); go_simp; (try with_reducible rfl)
        try simp only [Act.put, List.getElem_toArray, List.getElem_cons_zero, List.getElem_cons_succ, List.setIfInBounds_toArray, List.set_cons_zero, List.set_cons_succ]
        refine wpAnyH_take (i := 1) (v := ?v942) rfl (by kernel_rfl) (by kernel_rfl) (by kernel_rfl) (fun _ _ _ h => h) (Or.inl ⟨by kernel_rfl, ?hy942⟩) (by assumption) ?rest942
        case hy942 => intro w hSw; (try dsimp only at hSw); go_simp; (try with_reducible rfl)
        try simp only [Act.put, List.getElem_toArray, List.getElem_cons_zero, List.getElem_cons_succ, List.setIfInBounds_toArray, List.set_cons_zero, List.set_cons_succ]
        refine wpAnyH_take (i := 2) (v := ?v943) rfl (by kernel_rfl) (by kernel_rfl) (by kernel_rfl) (fun _ _ _ h => h) (Or.inl ⟨by kernel_rfl, ?hy943⟩) (by assumption) ?rest943
        case hy943 => intro w hSw; (try dsimp only at hSw); go_simp; (try with_reducible rfl)
        try simp only [Act.put, List.getElem_toArray, List.getElem_cons_zero, List.getElem_cons_succ, List.setIfInBounds_toArray, List.set_cons_zero, List.set_cons_succ]
        refine wpAnyH_take (i := 3) (v := ?v944) rfl (by kernel_rfl) (by kernel_rfl) (by kernel_rfl) (fun _ _ _ h => h) (Or.inl ⟨by kernel_rfl, ?hy944⟩) (by assumption) ?rest944
        case hy944 => intro w hSw; (try dsimp only at hSw); go_simp; (try with_reducible rfl)
        try simp only [Act.put, List.getElem_toArray, List.getElem_cons_zero, List.getElem_cons_succ, List.setIfInBounds_toArray, List.set_cons_zero, List.set_cons_succ]
        refine wpAnyH_take (i := 5) (v := ?v945) rfl (by kernel_rfl) (by kernel_rfl) (by kernel_rfl) (fun _ _ _ h => h) (Or.inl ⟨by kernel_rfl, ?hy945⟩) (by assumption) ?rest945
        case hy945 => intro w hSw; (try dsimp only at hSw); go_simp; (try with_reducible rfl)
        try simp only [Act.put, List.getElem_toArray, List.getElem_cons_zero, List.getElem_cons_succ, List.setIfInBounds_toArray, List.set_cons_zero, List.set_cons_succ]
        refine wpAnyH_take (i := 6) (v := ?v946) rfl (by kernel_rfl) (by kernel_rfl) (by kernel_rfl) (fun _ _ _ h => h) (Or.inl ⟨by kernel_rfl, ?hy946⟩) (by assumption) ?rest946
        case hy946 => intro w hSw; (try dsimp only at hSw); go_simp; (try with_reducible rfl)
        try simp only [Act.put, List.getElem_toArray, List.getElem_cons_zero, List.getElem_cons_succ, List.setIfInBounds_toArray, List.set_cons_zero, List.set_cons_succ]
        refine wpAnyH_take (i := 7) (v := ?v947) rfl (by kernel_rfl) (by kernel_rfl) (by kernel_rfl) (fun _ _ _ h => h) (Or.inl ⟨by kernel_rfl, ?hy947⟩) (by assumption) ?rest947
        case hy947 => intro w hSw; (try dsimp only at hSw); go_simp; (try with_reducible rfl)
        try simp only [Act.put, List.getElem_toArray, List.getElem_cons_zero, List.getElem_cons_succ, List.setIfInBounds_toArray, List.set_cons_zero, List.set_cons_succ]
        refine wpAnyH_take (i := 8) (v := ?v948) rfl (by kernel_rfl) (by kernel_rfl) (by kernel_rfl) (fun _ _ _ h => h) (Or.inl ⟨by kernel_rfl, ?hy948⟩) (by assumption) ?rest948
        case hy948 => intro w hSw; (try dsimp only at hSw); go_simp; (try with_reducible rfl)
        try simp only [Act.put, List.getElem_toArray, List.getElem_cons_zero, List.getElem_cons_succ, List.setIfInBounds_toArray, List.set_cons_zero, List.set_cons_succ]
        refine wpAnyH_ready (rs := [4]) (by kernel_rfl) (by simp) ?_
        refine AllReadyH.cons rfl (fun K hK => ?_) AllReadyH.nil
        go_simp
        refine Calls.mono (HAT.out _ (by first | exact hHeld.2.2.2 | exact (Fr.refl _ _).drewN _)) ?_
        rintro e w37 ⟨rfl, rfl⟩
        refine hK.out _ _ ?_ (fun hHeld => ?_)
        · exact hHeld
        clear hK K
        try simp only [Act.put, List.getElem_toArray, List.getElem_cons_zero, List.getElem_cons_succ, List.setIfInBounds_toArray, List.set_cons_zero, List.set_cons_succ]
        refine wpAnyH_take (i := 9) (v := ?v949) rfl (by kernel_rfl) (by kernel_rfl) (by kernel_rfl) (fun _ _ _ h => h) (Or.inl ⟨by kernel_rfl, ?hy949⟩) (by assumption) ?rest949
        case hy949 => intro w hSw; (try dsimp only at hSw); go_simp; (try with_reducible rfl)
        try simp only [Act.put, List.getElem_toArray, List.getElem_cons_zero, List.getElem_cons_succ, List.setIfInBounds_toArray, List.set_cons_zero, List.set_cons_succ]
        refine wpAnyH_take (i := 10) (v := ?v950) rfl (by kernel_rfl) (by kernel_rfl) (by kernel_rfl) (fun _ _ _ h => h) (Or.inl ⟨by kernel_rfl, ?hy950⟩) (by assumption) ?rest950
        case hy950 => intro w hSw; (try dsimp only at hSw); go_simp; (try with_reducible rfl)
        try simp only [Act.put, List.getElem_toArray, List.getElem_cons_zero, List.getElem_cons_succ, List.setIfInBounds_toArray, List.set_cons_zero, List.set_cons_succ]
        refine wpAnyH_take (i := 11) (v := ?v951) rfl (by kernel_rfl) (by kernel_rfl) (by kernel_rfl) (fun _ _ _ h => h) (Or.inl ⟨by kernel_rfl, ?hy951⟩) (by assumption) ?rest951
        case hy951 => intro w hSw; (try dsimp only at hSw); go_simp; (try with_reducible rfl)
        try simp only [Act.put, List.getElem_toArray, List.getElem_cons_zero, List.getElem_cons_succ, List.setIfInBounds_toArray, List.set_cons_zero, List.set_cons_succ]
        refine wpAnyH_take (i := 12) (v := ?v952) rfl (by kernel_rfl) (by kernel_rfl) (by kernel_rfl) (fun _ _ _ h => h) (Or.inl ⟨by kernel_rfl, ?hy952⟩) (by assumption) ?rest952
        case hy952 => intro w hSw; (try dsimp only at hSw); go_simp; (try with_reducible rfl)
        try simp only [Act.put, List.getElem_toArray, List.getElem_cons_zero, List.getElem_cons_succ, List.setIfInBounds_toArray, List.set_cons_zero, List.set_cons_succ]
        refine wpAnyH_take (i := 14) (v := ?v953) rfl (by kernel_rfl) (by kernel_rfl) (by kernel_rfl) (fun _ _ _ h => h) (Or.inl ⟨by kernel_rfl, ?hy953⟩) (by assumption) ?rest953
        case hy953 => intro w hSw; (try dsimp only at hSw); go_simp; (try with_reducible rfl)
        try simp only [Act.put, List.getElem_toArray, List.getElem_cons_zero, List.getElem_cons_succ, List.setIfInBounds_toArray, List.set_cons_zero, List.set_cons_succ]
        refine wpAnyH_ready (rs := [13]) (by kernel_rfl) (by simp) ?_
        refine AllReadyH.cons rfl (fun K hK => ?_) AllReadyH.nil
        go_simp
        refine Calls.mono (HLF.out _ (by first | exact hHeld.2.2.2 | exact (Fr.refl _ _).drewN _)) ?_
        rintro e w38 ⟨rfl, kd38, rfl⟩
        refine hK.out _ _ ?_ (fun hHeld => ?_)
        · first | exact HS.out _ (hHeld.2.2.2.drewN _) | exact HS.out _ ((Fr.refl _ _).drewN _) | exact HS.out _ (((Fr.refl _ _).drewN _).drewN _)
        clear hK K
        try simp only [Act.put, List.getElem_toArray, List.getElem_cons_zero, List.getElem_cons_succ, List.setIfInBounds_toArray, List.set_cons_zero, List.set_cons_succ]
        refine wpAnyH_ready (rs := [15]) (by kernel_rfl) (by simp) ?_
        refine AllReadyH.cons rfl (fun K hK => ?_) AllReadyH.nil
        go_simp
        refine Calls.mono (HYL.out _ (by first | exact hHeld.2.2.2 | exact (Fr.refl _ _).drewN _)) ?_
        rintro e w39 ⟨rfl, kd39, rfl⟩
        refine hK.out _ _ ?_ (fun hHeld => ?_)
        · first | exact HS.out _ (hHeld.2.2.2.drewN _) | exact HS.out _ ((Fr.refl _ _).drewN _) | exact HS.out _ (((Fr.refl _ _).drewN _).drewN _)
        clear hK K
        try simp only [Act.put, List.getElem_toArray, List.getElem_cons_zero, List.getElem_cons_succ, List.setIfInBounds_toArray, List.set_cons_zero, List.set_cons_succ]
        refine wpAnyH_take (i := 16) (v := ?v954) rfl (by kernel_rfl) (by kernel_rfl) (by kernel_rfl) (fun _ _ _ h => h) (Or.inl ⟨by kernel_rfl, ?hy954⟩) (by assumption) ?rest954
        case hy954 => intro w hSw; (try dsimp only at hSw); go_simp; (try with_reducible rfl)
        try simp only [Act.put, List.getElem_toArray, List.getElem_cons_zero, List.getElem_cons_succ, List.setIfInBounds_toArray, List.set_cons_zero, List.set_cons_succ]
        refine wpAnyH_take (i := 17) (v := ?v955) rfl (by kernel_rfl) (by kernel_rfl) (by kernel_rfl) (fun _ _ _ h => h) (Or.inl ⟨by kernel_rfl, ?hy955⟩) (by assumption) ?rest955
        case hy955 => intro w hSw; (try dsimp only at hSw); go_simp; (try with_reducible rfl)
        try simp only [Act.put, List.getElem_toArray, List.getElem_cons_zero, List.getElem_cons_succ, List.setIfInBounds_toArray, List.set_cons_zero, List.set_cons_succ]
        refine wpAnyH_take (i := 18) (v := ?v956) rfl (by kernel_rfl) (by kernel_rfl) (by kernel_rfl) (fun _ _ _ h => h) (Or.inl ⟨by kernel_rfl, ?hy956⟩) (by assumption) ?rest956
        case hy956 => intro w hSw; (try dsimp only at hSw); go_simp; (try with_reducible rfl)
        try simp only [Act.put, List.getElem_toArray, List.getElem_cons_zero, List.getElem_cons_succ, List.setIfInBounds_toArray, List.set_cons_zero, List.set_cons_succ]
        refine wpAnyH_take (i := 19) (v := ?v957) rfl (by kernel_rfl) (by kernel_rfl) (by kernel_rfl) (fun _ _ _ h => h) (Or.inl ⟨by kernel_rfl, ?hy957⟩) (by assumption) ?rest957
        case hy957 => intro w hSw; (try dsimp only at hSw); go_simp; (try with_reducible rfl)
        try simp only [Act.put, List.getElem_toArray, List.getElem_cons_zero, List.getElem_cons_succ, List.setIfInBounds_toArray, List.set_cons_zero, List.set_cons_succ]
        refine wpAnyH_take (i := 21) (v := ?v958) rfl (by kernel_rfl) (by kernel_rfl) (by kernel_rfl) (fun _ _ _ h => h) (Or.inl ⟨by kernel_rfl, ?hy958⟩) (by assumption) ?rest958
        case hy958 => intro w hSw; (try dsimp only at hSw); go_simp; (try with_reducible rfl)
        try simp only [Act.put, List.getElem_toArray, List.getElem_cons_zero, List.getElem_cons_succ, List.setIfInBounds_toArray, List.set_cons_zero, List.set_cons_succ]
        refine wpAnyH_take (i := 22) (v := ?v959) rfl (by kernel_rfl) (by kernel_rfl) (by kernel_rfl) (fun _ _ _ h => h) (Or.inl ⟨by kernel_rfl, ?hy959⟩) (by assumption) ?rest959
        case hy959 => intro w hSw; (try dsimp only at hSw); go_simp; (try with_reducible rfl)
        try simp only [Act.put, List.getElem_toArray, List.getElem_cons_zero, List.getElem_cons_succ, List.setIfInBounds_toArray, List.set_cons_zero, List.set_cons_succ]
        refine wpAnyH_take (i := 23) (v := ?v960) rfl (by kernel_rfl) (by kernel_rfl) (by kernel_rfl) (fun _ _ _ h => h) (Or.inl ⟨by kernel_rfl, ?hy960⟩) (by assumption) ?rest960
        case hy960 => intro w hSw; (try dsimp only at hSw); go_simp; (try with_reducible rfl)
        try simp only [Act.put, List.getElem_toArray, List.getElem_cons_zero, List.getElem_cons_succ, List.setIfInBounds_toArray, List.set_cons_zero, List.set_cons_succ]
        refine wpAnyH_take (i := 24) (v := ?v961) rfl (by kernel_rfl) (by kernel_rfl) (by kernel_rfl) (fun _ _ _ h => h) (Or.inl ⟨by kernel_rfl, ?hy961⟩) (by assumption) ?rest961
        case hy961 => intro w hSw; (try dsimp only at hSw); go_simp; (try with_reducible rfl)
        try simp only [Act.put, List.getElem_toArray, List.getElem_cons_zero, List.getElem_cons_succ, List.setIfInBounds_toArray, List.set_cons_zero, List.set_cons_succ]
        refine wpAnyH_ready (rs := [20]) (by kernel_rfl) (by simp) ?_
        refine AllReadyH.cons rfl (fun K hK => ?_) AllReadyH.nil
        go_simp
        refine Calls.mono (HFT.out _ (by first | exact hHeld.2.2.2 | exact (Fr.refl _ _).drewN _)) ?_
        rintro e w40 ⟨rfl, hX40⟩
        have hW40 : Fr (fun _ => False) wB w40 := Fr.trans (by first | exact hHeld.2.2.2 | exact (Fr.refl _ _).drewN _) hX40 (fun _ _ e => e)
        clear hX40
        refine hK.out _ _ ?_ (fun hHeld => ?_)
        · exact HS.out _ hW40
        clear hK K
        try simp only [Act.put, List.getElem_toArray, List.getElem_cons_zero, List.getElem_cons_succ, List.setIfInBounds_toArray, List.set_cons_zero, List.set_cons_succ]
        refine wpAnyH_take (i := 25) (v := ?v962) rfl (by kernel_rfl) (by kernel_rfl) (by kernel_rfl) (fun _ _ _ h => h) (Or.inl ⟨by kernel_rfl, ?hy962⟩) (by assumption) ?rest962
        case hy962 => intro w hSw; (try dsimp only at hSw); go_simp; (try with_reducible rfl)
        try simp only [Act.put, List.getElem_toArray, List.getElem_cons_zero, List.getElem_cons_succ, List.setIfInBounds_toArray, List.set_cons_zero, List.set_cons_succ]
        refine wpAnyH_take (i := 26) (v := ?v963) rfl (by kernel_rfl) (by kernel_rfl) (by kernel_rfl) (fun _ _ _ h => h) (Or.inl ⟨by kernel_rfl, ?hy963⟩) (by assumption) ?rest963
        case hy963 => intro w hSw; (try dsimp only at hSw); go_simp; (try with_reducible rfl)
        try simp only [Act.put, List.getElem_toArray, List.getElem_cons_zero, List.getElem_cons_succ, List.setIfInBounds_toArray, List.set_cons_zero, List.set_cons_succ]
        refine wpAnyH_take (i := 27) (v := ?v964) rfl (by kernel_rfl) (by kernel_rfl) (by kernel_rfl) (fun _ _ _ h => h) (Or.inl ⟨by kernel_rfl, ?hy964⟩) (by assumption) ?rest964
        case hy964 => intro w hSw; (try dsimp only at hSw); go_simp; (try with_reducible rfl)
        try simp only [Act.put, List.getElem_toArray, List.getElem_cons_zero, List.getElem_cons_succ, List.setIfInBounds_toArray, List.set_cons_zero, List.set_cons_succ]
        refine wpAnyH_take (i := 28) (v := ?v965) rfl (by kernel_rfl) (by kernel_rfl) (by kernel_rfl) (fun _ _ _ h => h) (Or.inl ⟨by kernel_rfl, ?hy965⟩) (by assumption) ?rest965
        case hy965 => intro w hSw; (try dsimp only at hSw); go_simp; (try with_reducible rfl)
        try simp only [Act.put, List.getElem_toArray, List.getElem_cons_zero, List.getElem_cons_succ, List.setIfInBounds_toArray, List.set_cons_zero, List.set_cons_succ]
        refine wpAnyH_take (i := 30) (v := ?v966) rfl (by kernel_rfl) (by kernel_rfl) (by kernel_rfl) (fun _ _ _ h => h) (Or.inl ⟨by kernel_rfl, ?hy966⟩) (by assumption) ?rest966
        case hy966 => intro w hSw; (try dsimp only at hSw); go_simp; (try with_reducible rfl)
        try simp only [Act.put, List.getElem_toArray, List.getElem_cons_zero, List.getElem_cons_succ, List.setIfInBounds_toArray, List.set_cons_zero, List.set_cons_succ]
        refine wpAnyH_ready (rs := [29]) (by kernel_rfl) (by simp) ?_
        refine AllReadyH.cons rfl (fun K hK => ?_) AllReadyH.nil
        go_simp
        refine Calls.mono (HED.out _ (by first | exact hHeld.2.2.2 | exact (Fr.refl _ _).drewN _)) ?_
        rintro e w41 ⟨rfl, hX41⟩
        have hW41 : Fr (fun _ => False) wB w41 := Fr.trans (by first | exact hHeld.2.2.2 | exact (Fr.refl _ _).drewN _) hX41 (fun _ _ e => e)
        clear hX41
        refine hK.out _ _ ?_ (fun hHeld => ?_)
        · exact HS.out _ hW41
        clear hK K
        try simp only [Act.put, List.getElem_toArray, List.getElem_cons_zero, List.getElem_cons_succ, List.setIfInBounds_toArray, List.set_cons_zero, List.set_cons_succ]
        refine wpAnyH_ready (rs := [31]) (by kernel_rfl) (by simp) ?_
        refine AllReadyH.cons rfl (fun K hK => ?_) AllReadyH.nil
        go_simp
        refine Calls.mono (HYE.out _ (by first | exact hHeld.2.2.2 | exact (Fr.refl _ _).drewN _)) ?_
        rintro e w42 ⟨rfl, hX42⟩
        have hW42 : Fr (fun _ => False) wB w42 := Fr.trans (by first | exact hHeld.2.2.2 | exact (Fr.refl _ _).drewN _) hX42 (fun _ _ e => e)
        clear hX42
        refine hK.out _ _ ?_ (fun hHeld => ?_)
        · exact HS.out _ hW42
        clear hK K
        try simp only [Act.put, List.getElem_toArray, List.getElem_cons_zero, List.getElem_cons_succ, List.setIfInBounds_toArray, List.set_cons_zero, List.set_cons_succ]
        refine wpAnyH_take (i := 32) (v := ?v967) rfl (by kernel_rfl) (by kernel_rfl) (by kernel_rfl) (fun _ _ _ h => h) (Or.inl ⟨by kernel_rfl, ?hy967⟩) (by assumption) ?rest967
        case hy967 => intro w hSw; (try dsimp only at hSw); go_simp; (try with_reducible rfl)
        try simp only [Act.put, List.getElem_toArray, List.getElem_cons_zero, List.getElem_cons_succ, List.setIfInBounds_toArray, List.set_cons_zero, List.set_cons_succ]
        refine wpAnyH_take (i := 33) (v := ?v968) rfl (by kernel_rfl) (by kernel_rfl) (by kernel_rfl) (fun _ _ _ h => h) (Or.inl ⟨by kernel_rfl, ?hy968⟩) (by assumption) ?rest968
        case hy968 => intro w hSw; (try dsimp only at hSw); go_simp; (try with_reducible rfl)
        try simp only [Act.put, List.getElem_toArray, List.getElem_cons_zero, List.getElem_cons_succ, List.setIfInBounds_toArray, List.set_cons_zero, List.set_cons_succ]
        refine wpAnyH_done (by kernel_rfl) ?_ _
        have hFin := hHeld.2.2.2
        have HFin := hideIt hFin
        clear hFin hHeld HAT HLF HYL HFT HED HYE HS
        go_wp2_with fail
        go_roundw
        case measure => simp [intOf]; omega
        case rel => exact ⟨k + 1, (pl, er, ea), by go_num, by omega, hideIt (HT2.out.stay HFin.out)⟩
      have k1b : (q1 == 1) = false := by simpa using k1
      by_cases k2 : q1 = 2
      · have k2b : (q1 == 2) = true := by simpa using k2
        clear k0 k1 k2
        have HRI := hideIt (fun w' (hF : Fr (fun _ => False) (wr.alloc (.cells #[.int .i64 q1, .int .i64 q2, .int .i64 q3] 52)) w') => rtext_any p t ao1 cap1 bs s q3 w' (HT1.out.stay hF).r hb)
        have HYI := hideIt (fun w' (hF : Fr (fun k => k = t) (wr.alloc (.cells #[.int .i64 q1, .int .i64 q2, .int .i64 q3] 52)) w') => ytext_any px ao cap bs s q3 w' (HT1.out.yKept hF) hb hcl HCM.out)
        generalize (rText bs q3 s) = rs at *
        obtain ⟨rv, pl, er, ea⟩ := rs
        dsimp only at HRI HYI
        generalize (⟨rv.toArray⟩ : ByteArray) = rv' at *
        have HSA := hideIt (show ∀ w', Fr (fun k => k = t ∨ k = px) (wr.alloc (.cells #[.int .i64 q1, .int .i64 q2, .int .i64 q3] 52)) w' → (w'.cell? ⟨wr.heap.size, 1, none⟩ = some (.int .i64 q2) ∧ w'.cell? ⟨wr.heap.size, 2, none⟩ = some (.int .i64 q3) ∧ Fr (fun k => k = t ∨ k = px) (wr.alloc (.cells #[.int .i64 q1, .int .i64 q2, .int .i64 q3] 52)) w') from fun w' hF => by
          have h := (hF.block wr.heap.size (by simp) (by omega)).trans (heap_new rfl)
          exact ⟨cellOfHeap h 1 rfl, cellOfHeap h 2 rfl, hF⟩)
        go_wp2_with (first | (refine wpList_load_mid rfl 52 (.tmp 44) rfl b (off + k * 3) rfl [.int .i64 q1, .int .i64 q2, .int .i64 q3] _ HTH.out Try.underlying52 rfl HTI.out ?_))
        refine wp_region_held_drew (S := fun w' => w'.cell? ⟨wr.heap.size, 1, none⟩ = some (.int .i64 q2) ∧ w'.cell? ⟨wr.heap.size, 2, none⟩ = some (.int .i64 q3) ∧ Fr (fun k => k = t ∨ k = px) (wr.alloc (.cells #[.int .i64 q1, .int .i64 q2, .int .i64 q3] 52)) w') (by kernel_rfl) ?_ (fun hHeld => ?_)
        · exact HSA.out _ (Fr.refl _ _).drew
        refine wpAnyH_take (i := 0) (v := ?v1005) rfl (by kernel_rfl) (by kernel_rfl) (by kernel_rfl) (fun _ _ _ h => h) (Or.inl ⟨by rfl, ?hy1005⟩) (by assumption) ?rest1005
        case hy1005 => intro w hSw; (try dsimp only at hSw); go_simp; (try with_reducible rfl)
        try simp only [Act.put, List.getElem_toArray, List.getElem_cons_zero, List.getElem_cons_succ, List.setIfInBounds_toArray, List.set_cons_zero, List.set_cons_succ]
        refine wpAnyH_take (i := 1) (v := ?v1006) rfl (by kernel_rfl) (by kernel_rfl) (by kernel_rfl) (fun _ _ _ h => h) (Or.inl ⟨by rfl, ?hy1006⟩) (by assumption) ?rest1006
        case hy1006 => intro w hSw; (try dsimp only at hSw); go_simp; (try with_reducible rfl)
        try simp only [Act.put, List.getElem_toArray, List.getElem_cons_zero, List.getElem_cons_succ, List.setIfInBounds_toArray, List.set_cons_zero, List.set_cons_succ]
        refine wpAnyH_take (i := 2) (v := ?v1007) rfl (by kernel_rfl) (by kernel_rfl) (by kernel_rfl) (fun _ _ _ h => h) (Or.inl ⟨by rfl, ?hy1007⟩) (by assumption) ?rest1007
        case hy1007 => intro w hSw; (try dsimp only at hSw); go_simp; (try with_reducible rfl)
        try simp only [Act.put, List.getElem_toArray, List.getElem_cons_zero, List.getElem_cons_succ, List.setIfInBounds_toArray, List.set_cons_zero, List.set_cons_succ]
        refine wpAnyH_take (i := 4) (v := ?v1008) rfl (by kernel_rfl) (by kernel_rfl) (by kernel_rfl) (fun _ _ _ h => h) (Or.inl ⟨by rfl, ?hy1008⟩) (by assumption) ?rest1008
        case hy1008 => intro w hSw; (try dsimp only at hSw); go_simp; (try with_reducible rfl)
        try simp only [Act.put, List.getElem_toArray, List.getElem_cons_zero, List.getElem_cons_succ, List.setIfInBounds_toArray, List.set_cons_zero, List.set_cons_succ]
        refine wpAnyH_take (i := 5) (v := ?v1009) rfl (by kernel_rfl) (by kernel_rfl) (by kernel_rfl) (fun _ _ _ h => h) (Or.inl ⟨by rfl, ?hy1009⟩) (by assumption) ?rest1009
        case hy1009 => intro w hSw; (try dsimp only at hSw); go_simp; (try with_reducible rfl)
        try simp only [Act.put, List.getElem_toArray, List.getElem_cons_zero, List.getElem_cons_succ, List.setIfInBounds_toArray, List.set_cons_zero, List.set_cons_succ]
        refine wpAnyH_take (i := 6) (v := ?v1010) rfl (by kernel_rfl) (by kernel_rfl) (by kernel_rfl) (fun _ _ _ h => h) (Or.inl ⟨by rfl, ?hy1010⟩) (by assumption) ?rest1010
        case hy1010 => intro w hSw; (try dsimp only at hSw); go_simp; (try with_reducible rfl)
        try simp only [Act.put, List.getElem_toArray, List.getElem_cons_zero, List.getElem_cons_succ, List.setIfInBounds_toArray, List.set_cons_zero, List.set_cons_succ]
        refine wpAnyH_ready (rs := [3]) (by kernel_rfl) (by simp) ?_
        refine AllReadyH.cons rfl (fun K hK => ?_) AllReadyH.nil
        go_simp
        refine Calls.mono (HRI.out _ (Fr.refl _ _).drew) ?_
        rintro e wA ⟨rfl, hRA, hXA⟩
        have hWA := (Fr.refl (fun k => k = t) (wr.alloc (.cells #[.int .i64 q1, .int .i64 q2, .int .i64 q3] 52))).drew.trans hXA (fun _ _ e => e)
        clear hXA
        refine hK.out _ _ ?_ (fun hHeld => ?_)
        · exact HSA.out _ (hWA.mono (fun _ e => Or.inl e))
        clear hK K
        try simp only [Act.put, List.getElem_toArray, List.getElem_cons_zero, List.getElem_cons_succ, List.setIfInBounds_toArray, List.set_cons_zero, List.set_cons_succ]
        refine wpAnyH_ready (rs := [7]) (by kernel_rfl) (by simp) ?_
        refine AllReadyH.cons rfl (fun K hK => ?_) AllReadyH.nil
        go_simp
        refine Calls.mono (HYI.out _ hWA) ?_
        rintro e wB ⟨rfl, hYB, hXB⟩
        have HT2 := hideIt (HT1.out.both hRA hWA hYB hXB)
        have hWB := (hWA.mono (S' := fun k => k = t ∨ k = px) (fun _ e => Or.inl e)).trans hXB (fun _ _ e => Or.inr e)
        clear hXB hYB hRA
        refine hK.out _ _ ?_ (fun hHeld => ?_)
        · exact HSA.out _ hWB
        clear hK K
        try simp only [Act.put, List.getElem_toArray, List.getElem_cons_zero, List.getElem_cons_succ, List.setIfInBounds_toArray, List.set_cons_zero, List.set_cons_succ]
        refine wpAnyH_take (i := 8) (v := ?v1011) rfl (by kernel_rfl) (by kernel_rfl) (by kernel_rfl) (fun _ _ _ h => h) (Or.inl ⟨by rfl, ?hy1011⟩) (by assumption) ?rest1011
        case hy1011 => intro w hSw; (try dsimp only at hSw); go_simp; (try with_reducible rfl)
        try simp only [Act.put, List.getElem_toArray, List.getElem_cons_zero, List.getElem_cons_succ, List.setIfInBounds_toArray, List.set_cons_zero, List.set_cons_succ]
        refine wpAnyH_take (i := 9) (v := ?v1012) rfl (by kernel_rfl) (by kernel_rfl) (by kernel_rfl) (fun _ _ _ h => h) (Or.inl ⟨by rfl, ?hy1012⟩) (by assumption) ?rest1012
        case hy1012 => intro w hSw; (try dsimp only at hSw); go_simp; (try with_reducible rfl)
        try simp only [Act.put, List.getElem_toArray, List.getElem_cons_zero, List.getElem_cons_succ, List.setIfInBounds_toArray, List.set_cons_zero, List.set_cons_succ]
        refine wpAnyH_done (by kernel_rfl) ?_ _
        clear hHeld hWA hWB HRI HYI HSA HT1
        have HAT := hideIt (fun w' (hF : Fr (fun _ => False) wB w') => rat_any p t ao1 cap1 bs (pl, er, ea) w' (HT2.out.stay hF).r)
        have HLF := hideIt (fun w' (hF : Fr (fun _ => False) wB w') => rleft_any p t ao1 cap1 bs (pl, er, ea) w' (HT2.out.stay hF).r hb)
        have HYL := hideIt (fun w' (hF : Fr (fun _ => False) wB w') => yleft_any px ao cap bs (pl, er, ea) w' (HT2.out.stay hF).y hb)
        have HFT := hideIt (fun w' (hF : Fr (fun _ => False) wB w') => rfault_any p t ao1 cap1 bs (pl, er, ea) w' (HT2.out.stay hF).r)
        have HED := hideIt (fun w' (hF : Fr (fun _ => False) wB w') => rend_any p t ao1 cap1 bs (pl, er, ea) w' (HT2.out.stay hF).r hb)
        have HYE := hideIt (fun w' (hF : Fr (fun _ => False) wB w') => yend_any px ao cap bs (pl, er, ea) w' (HT2.out.stay hF).y hb)
        generalize rEnd bs (pl, er, ea) = en at *
        obtain ⟨en1, en2⟩ := en
        generalize (bs.length : Int) - ((pl, er, ea) : Nat × Int × Int).1 = lf at *
        dsimp only at HAT HFT HED HYE
        have HS := hideIt (show ∀ w', Fr (fun _ => False) wB w' → (w'.cell? ⟨px, 1, none⟩ = some (.int .i64 (pl : Int)) ∧ w'.cell? ⟨px, 2, none⟩ = some (.int .i64 er) ∧ w'.cell? ⟨px, 3, none⟩ = some (.int .i64 ea) ∧ Fr (fun _ => False) wB w') from fun w' hF => by
          have h := (HT2.out.stay hF).y.1
          exact ⟨h.c1, h.c2, h.c3, hF⟩)
        go_wp2_with fail
        refine wp_region_held_drew (S := fun w' => w'.cell? ⟨px, 1, none⟩ = some (.int .i64 (pl : Int)) ∧ w'.cell? ⟨px, 2, none⟩ = some (.int .i64 er) ∧ w'.cell? ⟨px, 3, none⟩ = some (.int .i64 ea) ∧ Fr (fun _ => False) wB w') (by kernel_rfl) ?_ (fun hHeld => ?_)
        · exact HS.out _ (Fr.refl _ _).drew
        refine wpAnyH_take (i := 0) (v := ?v977) rfl (by kernel_rfl) (by kernel_rfl) (by kernel_rfl) (fun _ _ _ h => h) (Or.inl ⟨by kernel_rfl, ?hy977⟩) (by assumption) ?rest977
        case hy977 => intro w hSw; (try dsimp only at hSw); go_simp; (try with_reducible rfl)
        try simp only [Act.put, List.getElem_toArray, List.getElem_cons_zero, List.getElem_cons_succ, List.setIfInBounds_toArray, List.set_cons_zero, List.set_cons_succ]
        refine wpAnyH_take (i := 1) (v := ?v978) rfl (by kernel_rfl) (by kernel_rfl) (by kernel_rfl) (fun _ _ _ h => h) (Or.inl ⟨by kernel_rfl, ?hy978⟩) (by assumption) ?rest978
        case hy978 => intro w hSw; (try dsimp only at hSw); go_simp; (try with_reducible rfl)
        try simp only [Act.put, List.getElem_toArray, List.getElem_cons_zero, List.getElem_cons_succ, List.setIfInBounds_toArray, List.set_cons_zero, List.set_cons_succ]
        refine wpAnyH_take (i := 2) (v := ?v979) rfl (by kernel_rfl) (by kernel_rfl) (by kernel_rfl) (fun _ _ _ h => h) (Or.inl ⟨by kernel_rfl, ?hy979⟩) (by assumption) ?rest979
        case hy979 => intro w hSw; (try dsimp only at hSw); go_simp; (try with_reducible rfl)
        try simp only [Act.put, List.getElem_toArray, List.getElem_cons_zero, List.getElem_cons_succ, List.setIfInBounds_toArray, List.set_cons_zero, List.set_cons_succ]
        refine wpAnyH_take (i := 3) (v := ?v980) rfl (by kernel_rfl) (by kernel_rfl) (by kernel_rfl) (fun _ _ _ h => h) (Or.inl ⟨by kernel_rfl, ?hy980⟩) (by assumption) ?rest980
        case hy980 => intro w hSw; (try dsimp only at hSw); go_simp; (try with_reducible rfl)
        try simp only [Act.put, List.getElem_toArray, List.getElem_cons_zero, List.getElem_cons_succ, List.setIfInBounds_toArray, List.set_cons_zero, List.set_cons_succ]
        refine wpAnyH_take (i := 5) (v := ?v981) rfl (by kernel_rfl) (by kernel_rfl) (by kernel_rfl) (fun _ _ _ h => h) (Or.inl ⟨by kernel_rfl, ?hy981⟩) (by assumption) ?rest981
        case hy981 => intro w hSw; (try dsimp only at hSw); go_simp; (try with_reducible rfl)
        try simp only [Act.put, List.getElem_toArray, List.getElem_cons_zero, List.getElem_cons_succ, List.setIfInBounds_toArray, List.set_cons_zero, List.set_cons_succ]
        refine wpAnyH_take (i := 6) (v := ?v982) rfl (by kernel_rfl) (by kernel_rfl) (by kernel_rfl) (fun _ _ _ h => h) (Or.inl ⟨by kernel_rfl, ?hy982⟩) (by assumption) ?rest982
        case hy982 => intro w hSw; (try dsimp only at hSw); go_simp; (try with_reducible rfl)
        try simp only [Act.put, List.getElem_toArray, List.getElem_cons_zero, List.getElem_cons_succ, List.setIfInBounds_toArray, List.set_cons_zero, List.set_cons_succ]
        refine wpAnyH_take (i := 7) (v := ?v983) rfl (by kernel_rfl) (by kernel_rfl) (by kernel_rfl) (fun _ _ _ h => h) (Or.inl ⟨by kernel_rfl, ?hy983⟩) (by assumption) ?rest983
        case hy983 => intro w hSw; (try dsimp only at hSw); go_simp; (try with_reducible rfl)
        try simp only [Act.put, List.getElem_toArray, List.getElem_cons_zero, List.getElem_cons_succ, List.setIfInBounds_toArray, List.set_cons_zero, List.set_cons_succ]
        refine wpAnyH_take (i := 8) (v := ?v984) rfl (by kernel_rfl) (by kernel_rfl) (by kernel_rfl) (fun _ _ _ h => h) (Or.inl ⟨by kernel_rfl, ?hy984⟩) (by assumption) ?rest984
        case hy984 => intro w hSw; (try dsimp only at hSw); go_simp; (try with_reducible rfl)
        try simp only [Act.put, List.getElem_toArray, List.getElem_cons_zero, List.getElem_cons_succ, List.setIfInBounds_toArray, List.set_cons_zero, List.set_cons_succ]
        refine wpAnyH_ready (rs := [4]) (by kernel_rfl) (by simp) ?_
        refine AllReadyH.cons rfl (fun K hK => ?_) AllReadyH.nil
        go_simp
        refine Calls.mono (HAT.out _ (by first | exact hHeld.2.2.2 | exact (Fr.refl _ _).drewN _)) ?_
        rintro e w43 ⟨rfl, rfl⟩
        refine hK.out _ _ ?_ (fun hHeld => ?_)
        · exact hHeld
        clear hK K
        try simp only [Act.put, List.getElem_toArray, List.getElem_cons_zero, List.getElem_cons_succ, List.setIfInBounds_toArray, List.set_cons_zero, List.set_cons_succ]
        refine wpAnyH_take (i := 9) (v := ?v985) rfl (by kernel_rfl) (by kernel_rfl) (by kernel_rfl) (fun _ _ _ h => h) (Or.inl ⟨by kernel_rfl, ?hy985⟩) (by assumption) ?rest985
        case hy985 => intro w hSw; (try dsimp only at hSw); go_simp; (try with_reducible rfl)
        try simp only [Act.put, List.getElem_toArray, List.getElem_cons_zero, List.getElem_cons_succ, List.setIfInBounds_toArray, List.set_cons_zero, List.set_cons_succ]
        refine wpAnyH_take (i := 10) (v := ?v986) rfl (by kernel_rfl) (by kernel_rfl) (by kernel_rfl) (fun _ _ _ h => h) (Or.inl ⟨by kernel_rfl, ?hy986⟩) (by assumption) ?rest986
        case hy986 => intro w hSw; (try dsimp only at hSw); go_simp; (try with_reducible rfl)
        try simp only [Act.put, List.getElem_toArray, List.getElem_cons_zero, List.getElem_cons_succ, List.setIfInBounds_toArray, List.set_cons_zero, List.set_cons_succ]
        refine wpAnyH_take (i := 11) (v := ?v987) rfl (by kernel_rfl) (by kernel_rfl) (by kernel_rfl) (fun _ _ _ h => h) (Or.inl ⟨by kernel_rfl, ?hy987⟩) (by assumption) ?rest987
        case hy987 => intro w hSw; (try dsimp only at hSw); go_simp; (try with_reducible rfl)
        try simp only [Act.put, List.getElem_toArray, List.getElem_cons_zero, List.getElem_cons_succ, List.setIfInBounds_toArray, List.set_cons_zero, List.set_cons_succ]
        refine wpAnyH_take (i := 12) (v := ?v988) rfl (by kernel_rfl) (by kernel_rfl) (by kernel_rfl) (fun _ _ _ h => h) (Or.inl ⟨by kernel_rfl, ?hy988⟩) (by assumption) ?rest988
        case hy988 => intro w hSw; (try dsimp only at hSw); go_simp; (try with_reducible rfl)
        try simp only [Act.put, List.getElem_toArray, List.getElem_cons_zero, List.getElem_cons_succ, List.setIfInBounds_toArray, List.set_cons_zero, List.set_cons_succ]
        refine wpAnyH_take (i := 14) (v := ?v989) rfl (by kernel_rfl) (by kernel_rfl) (by kernel_rfl) (fun _ _ _ h => h) (Or.inl ⟨by kernel_rfl, ?hy989⟩) (by assumption) ?rest989
        case hy989 => intro w hSw; (try dsimp only at hSw); go_simp; (try with_reducible rfl)
        try simp only [Act.put, List.getElem_toArray, List.getElem_cons_zero, List.getElem_cons_succ, List.setIfInBounds_toArray, List.set_cons_zero, List.set_cons_succ]
        refine wpAnyH_ready (rs := [13]) (by kernel_rfl) (by simp) ?_
        refine AllReadyH.cons rfl (fun K hK => ?_) AllReadyH.nil
        go_simp
        refine Calls.mono (HLF.out _ (by first | exact hHeld.2.2.2 | exact (Fr.refl _ _).drewN _)) ?_
        rintro e w44 ⟨rfl, kd44, rfl⟩
        refine hK.out _ _ ?_ (fun hHeld => ?_)
        · first | exact HS.out _ (hHeld.2.2.2.drewN _) | exact HS.out _ ((Fr.refl _ _).drewN _) | exact HS.out _ (((Fr.refl _ _).drewN _).drewN _)
        clear hK K
        try simp only [Act.put, List.getElem_toArray, List.getElem_cons_zero, List.getElem_cons_succ, List.setIfInBounds_toArray, List.set_cons_zero, List.set_cons_succ]
        refine wpAnyH_ready (rs := [15]) (by kernel_rfl) (by simp) ?_
        refine AllReadyH.cons rfl (fun K hK => ?_) AllReadyH.nil
        go_simp
        refine Calls.mono (HYL.out _ (by first | exact hHeld.2.2.2 | exact (Fr.refl _ _).drewN _)) ?_
        rintro e w45 ⟨rfl, kd45, rfl⟩
        refine hK.out _ _ ?_ (fun hHeld => ?_)
        · first | exact HS.out _ (hHeld.2.2.2.drewN _) | exact HS.out _ ((Fr.refl _ _).drewN _) | exact HS.out _ (((Fr.refl _ _).drewN _).drewN _)
        clear hK K
        try simp only [Act.put, List.getElem_toArray, List.getElem_cons_zero, List.getElem_cons_succ, List.setIfInBounds_toArray, List.set_cons_zero, List.set_cons_succ]
        refine wpAnyH_take (i := 16) (v := ?v990) rfl (by kernel_rfl) (by kernel_rfl) (by kernel_rfl) (fun _ _ _ h => h) (Or.inl ⟨by kernel_rfl, ?hy990⟩) (by assumption) ?rest990
        case hy990 => intro w hSw; (try dsimp only at hSw); go_simp; (try with_reducible rfl)
        try simp only [Act.put, List.getElem_toArray, List.getElem_cons_zero, List.getElem_cons_succ, List.setIfInBounds_toArray, List.set_cons_zero, List.set_cons_succ]
        refine wpAnyH_take (i := 17) (v := ?v991) rfl (by kernel_rfl) (by kernel_rfl) (by kernel_rfl) (fun _ _ _ h => h) (Or.inl ⟨by kernel_rfl, ?hy991⟩) (by assumption) ?rest991
        case hy991 => intro w hSw; (try dsimp only at hSw); go_simp; (try with_reducible rfl)
        try simp only [Act.put, List.getElem_toArray, List.getElem_cons_zero, List.getElem_cons_succ, List.setIfInBounds_toArray, List.set_cons_zero, List.set_cons_succ]
        refine wpAnyH_take (i := 18) (v := ?v992) rfl (by kernel_rfl) (by kernel_rfl) (by kernel_rfl) (fun _ _ _ h => h) (Or.inl ⟨by kernel_rfl, ?hy992⟩) (by assumption) ?rest992
        case hy992 => intro w hSw; (try dsimp only at hSw); go_simp; (try with_reducible rfl)
        try simp only [Act.put, List.getElem_toArray, List.getElem_cons_zero, List.getElem_cons_succ, List.setIfInBounds_toArray, List.set_cons_zero, List.set_cons_succ]
        refine wpAnyH_take (i := 19) (v := ?v993) rfl (by kernel_rfl) (by kernel_rfl) (by kernel_rfl) (fun _ _ _ h => h) (Or.inl ⟨by kernel_rfl, ?hy993⟩) (by assumption) ?rest993
        case hy993 => intro w hSw; (try dsimp only at hSw); go_simp; (try with_reducible rfl)
        try simp only [Act.put, List.getElem_toArray, List.getElem_cons_zero, List.getElem_cons_succ, List.setIfInBounds_toArray, List.set_cons_zero, List.set_cons_succ]
        refine wpAnyH_take (i := 21) (v := ?v994) rfl (by kernel_rfl) (by kernel_rfl) (by kernel_rfl) (fun _ _ _ h => h) (Or.inl ⟨by kernel_rfl, ?hy994⟩) (by assumption) ?rest994
        case hy994 => intro w hSw; (try dsimp only at hSw); go_simp; (try with_reducible rfl)
        try simp only [Act.put, List.getElem_toArray, List.getElem_cons_zero, List.getElem_cons_succ, List.setIfInBounds_toArray, List.set_cons_zero, List.set_cons_succ]
        refine wpAnyH_take (i := 22) (v := ?v995) rfl (by kernel_rfl) (by kernel_rfl) (by kernel_rfl) (fun _ _ _ h => h) (Or.inl ⟨by kernel_rfl, ?hy995⟩) (by assumption) ?rest995
        case hy995 => intro w hSw; (try dsimp only at hSw); go_simp; (try with_reducible rfl)
        try simp only [Act.put, List.getElem_toArray, List.getElem_cons_zero, List.getElem_cons_succ, List.setIfInBounds_toArray, List.set_cons_zero, List.set_cons_succ]
        refine wpAnyH_take (i := 23) (v := ?v996) rfl (by kernel_rfl) (by kernel_rfl) (by kernel_rfl) (fun _ _ _ h => h) (Or.inl ⟨by kernel_rfl, ?hy996⟩) (by assumption) ?rest996
        case hy996 => intro w hSw; (try dsimp only at hSw); go_simp; (try with_reducible rfl)
        try simp only [Act.put, List.getElem_toArray, List.getElem_cons_zero, List.getElem_cons_succ, List.setIfInBounds_toArray, List.set_cons_zero, List.set_cons_succ]
        refine wpAnyH_take (i := 24) (v := ?v997) rfl (by kernel_rfl) (by kernel_rfl) (by kernel_rfl) (fun _ _ _ h => h) (Or.inl ⟨by kernel_rfl, ?hy997⟩) (by assumption) ?rest997
        case hy997 => intro w hSw; (try dsimp only at hSw); go_simp; (try with_reducible rfl)
        try simp only [Act.put, List.getElem_toArray, List.getElem_cons_zero, List.getElem_cons_succ, List.setIfInBounds_toArray, List.set_cons_zero, List.set_cons_succ]
        refine wpAnyH_ready (rs := [20]) (by kernel_rfl) (by simp) ?_
        refine AllReadyH.cons rfl (fun K hK => ?_) AllReadyH.nil
        go_simp
        refine Calls.mono (HFT.out _ (by first | exact hHeld.2.2.2 | exact (Fr.refl _ _).drewN _)) ?_
        rintro e w46 ⟨rfl, hX46⟩
        have hW46 : Fr (fun _ => False) wB w46 := Fr.trans (by first | exact hHeld.2.2.2 | exact (Fr.refl _ _).drewN _) hX46 (fun _ _ e => e)
        clear hX46
        refine hK.out _ _ ?_ (fun hHeld => ?_)
        · exact HS.out _ hW46
        clear hK K
        try simp only [Act.put, List.getElem_toArray, List.getElem_cons_zero, List.getElem_cons_succ, List.setIfInBounds_toArray, List.set_cons_zero, List.set_cons_succ]
        refine wpAnyH_take (i := 25) (v := ?v998) rfl (by kernel_rfl) (by kernel_rfl) (by kernel_rfl) (fun _ _ _ h => h) (Or.inl ⟨by kernel_rfl, ?hy998⟩) (by assumption) ?rest998
        case hy998 => intro w hSw; (try dsimp only at hSw); go_simp; (try with_reducible rfl)
        try simp only [Act.put, List.getElem_toArray, List.getElem_cons_zero, List.getElem_cons_succ, List.setIfInBounds_toArray, List.set_cons_zero, List.set_cons_succ]
        refine wpAnyH_take (i := 26) (v := ?v999) rfl (by kernel_rfl) (by kernel_rfl) (by kernel_rfl) (fun _ _ _ h => h) (Or.inl ⟨by kernel_rfl, ?hy999⟩) (by assumption) ?rest999
        case hy999 => intro w hSw; (try dsimp only at hSw); go_simp; (try with_reducible rfl)
        try simp only [Act.put, List.getElem_toArray, List.getElem_cons_zero, List.getElem_cons_succ, List.setIfInBounds_toArray, List.set_cons_zero, List.set_cons_succ]
        refine wpAnyH_take (i := 27) (v := ?v1000) rfl (by kernel_rfl) (by kernel_rfl) (by kernel_rfl) (fun _ _ _ h => h) (Or.inl ⟨by kernel_rfl, ?hy1000⟩) (by assumption) ?rest1000
        case hy1000 => intro w hSw; (try dsimp only at hSw); go_simp; (try with_reducible rfl)
        try simp only [Act.put, List.getElem_toArray, List.getElem_cons_zero, List.getElem_cons_succ, List.setIfInBounds_toArray, List.set_cons_zero, List.set_cons_succ]
        refine wpAnyH_take (i := 28) (v := ?v1001) rfl (by kernel_rfl) (by kernel_rfl) (by kernel_rfl) (fun _ _ _ h => h) (Or.inl ⟨by kernel_rfl, ?hy1001⟩) (by assumption) ?rest1001
        case hy1001 => intro w hSw; (try dsimp only at hSw); go_simp; (try with_reducible rfl)
        try simp only [Act.put, List.getElem_toArray, List.getElem_cons_zero, List.getElem_cons_succ, List.setIfInBounds_toArray, List.set_cons_zero, List.set_cons_succ]
        refine wpAnyH_take (i := 30) (v := ?v1002) rfl (by kernel_rfl) (by kernel_rfl) (by kernel_rfl) (fun _ _ _ h => h) (Or.inl ⟨by kernel_rfl, ?hy1002⟩) (by assumption) ?rest1002
        case hy1002 => intro w hSw; (try dsimp only at hSw); go_simp; (try with_reducible rfl)
        try simp only [Act.put, List.getElem_toArray, List.getElem_cons_zero, List.getElem_cons_succ, List.setIfInBounds_toArray, List.set_cons_zero, List.set_cons_succ]
        refine wpAnyH_ready (rs := [29]) (by kernel_rfl) (by simp) ?_
        refine AllReadyH.cons rfl (fun K hK => ?_) AllReadyH.nil
        go_simp
        refine Calls.mono (HED.out _ (by first | exact hHeld.2.2.2 | exact (Fr.refl _ _).drewN _)) ?_
        rintro e w47 ⟨rfl, hX47⟩
        have hW47 : Fr (fun _ => False) wB w47 := Fr.trans (by first | exact hHeld.2.2.2 | exact (Fr.refl _ _).drewN _) hX47 (fun _ _ e => e)
        clear hX47
        refine hK.out _ _ ?_ (fun hHeld => ?_)
        · exact HS.out _ hW47
        clear hK K
        try simp only [Act.put, List.getElem_toArray, List.getElem_cons_zero, List.getElem_cons_succ, List.setIfInBounds_toArray, List.set_cons_zero, List.set_cons_succ]
        refine wpAnyH_ready (rs := [31]) (by kernel_rfl) (by simp) ?_
        refine AllReadyH.cons rfl (fun K hK => ?_) AllReadyH.nil
        go_simp
        refine Calls.mono (HYE.out _ (by first | exact hHeld.2.2.2 | exact (Fr.refl _ _).drewN _)) ?_
        rintro e w48 ⟨rfl, hX48⟩
        have hW48 : Fr (fun _ => False) wB w48 := Fr.trans (by first | exact hHeld.2.2.2 | exact (Fr.refl _ _).drewN _) hX48 (fun _ _ e => e)
        clear hX48
        refine hK.out _ _ ?_ (fun hHeld => ?_)
        · exact HS.out _ hW48
        clear hK K
        try simp only [Act.put, List.getElem_toArray, List.getElem_cons_zero, List.getElem_cons_succ, List.setIfInBounds_toArray, List.set_cons_zero, List.set_cons_succ]
        refine wpAnyH_take (i := 32) (v := ?v1003) rfl (by kernel_rfl) (by kernel_rfl) (by kernel_rfl) (fun _ _ _ h => h) (Or.inl ⟨by kernel_rfl, ?hy1003⟩) (by assumption) ?rest1003
        case hy1003 => intro w hSw; (try dsimp only at hSw); go_simp; (try with_reducible rfl)
        try simp only [Act.put, List.getElem_toArray, List.getElem_cons_zero, List.getElem_cons_succ, List.setIfInBounds_toArray, List.set_cons_zero, List.set_cons_succ]
        refine wpAnyH_take (i := 33) (v := ?v1004) rfl (by kernel_rfl) (by kernel_rfl) (by kernel_rfl) (fun _ _ _ h => h) (Or.inl ⟨by kernel_rfl, ?hy1004⟩) (by assumption) ?rest1004
        case hy1004 => intro w hSw; (try dsimp only at hSw); go_simp; (try with_reducible rfl)
        try simp only [Act.put, List.getElem_toArray, List.getElem_cons_zero, List.getElem_cons_succ, List.setIfInBounds_toArray, List.set_cons_zero, List.set_cons_succ]
        refine wpAnyH_done (by kernel_rfl) ?_ _
        have hFin := hHeld.2.2.2
        have HFin := hideIt hFin
        clear hFin hHeld HAT HLF HYL HFT HED HYE HS
        go_wp2_with fail
        go_roundw
        case measure => simp [intOf]; omega
        case rel => exact ⟨k + 1, (pl, er, ea), by go_num, by omega, hideIt (HT2.out.stay HFin.out)⟩
      have k2b : (q1 == 2) = false := by simpa using k2
      by_cases k3 : q1 = 3
      · have k3b : (q1 == 3) = true := by simpa using k3
        clear k0 k1 k2 k3
        have HRI := hideIt (rid_any p t ao1 cap1 bs s _ HT1.out.r hb)
        have HYI := hideIt (fun w' (hF : Fr (fun k => k = t) (wr.alloc (.cells #[.int .i64 q1, .int .i64 q2, .int .i64 q3] 52)) w') => yid_any px ao cap bs s w' (HT1.out.yKept hF) (fun k hk => Nat.lt_of_lt_of_le (HT1.out.low k hk) (Nat.le_trans HT1.out.f.size hF.size)) hb hcl HCM.out)
        have hl32 : (rID bs s).1.length = 32 := rID_len bs s
        have heq := fun w => ids_eq w (rID bs s).1 (rID bs s).1 hl32 hl32
        have heql := fun w => ids_eql w (rID bs s).1 (rID bs s).1 hl32 hl32
        rw [beq_self_eq_true] at heq heql
        generalize rID bs s = rs at *
        obtain ⟨rv, pl, er, ea⟩ := rs
        dsimp only at HRI HYI heq heql
        clear hl32
        generalize (bv rv).toArray = X at *
        go_wp2_with (first | (refine wpList_load_mid rfl 52 (.tmp 44) rfl b (off + k * 3) rfl [.int .i64 q1, .int .i64 q2, .int .i64 q3] _ HTH.out Try.underlying52 rfl HTI.out ?_))
        refine Calls.mono HRI.out ?_
        rintro e wA ⟨rfl, hRA, hWA⟩
        have HRA := hideIt hRA
        have HWA := hideIt hWA
        clear hRA hWA
        go_wp2_with fail
        refine Calls.mono (HYI.out _ HWA.out) ?_
        rintro e wB ⟨rfl, hYB, hXB⟩
        have HT2 := hideIt (HT1.out.both HRA.out HWA.out hYB hXB)
        clear hXB hYB HRA HWA HRI HYI HT1
        have HAT := hideIt (fun w' (hF : Fr (fun _ => False) wB w') => rat_any p t ao1 cap1 bs (pl, er, ea) w' (HT2.out.stay hF).r)
        have HLF := hideIt (fun w' (hF : Fr (fun _ => False) wB w') => rleft_any p t ao1 cap1 bs (pl, er, ea) w' (HT2.out.stay hF).r hb)
        have HYL := hideIt (fun w' (hF : Fr (fun _ => False) wB w') => yleft_any px ao cap bs (pl, er, ea) w' (HT2.out.stay hF).y hb)
        have HFT := hideIt (fun w' (hF : Fr (fun _ => False) wB w') => rfault_any p t ao1 cap1 bs (pl, er, ea) w' (HT2.out.stay hF).r)
        have HED := hideIt (fun w' (hF : Fr (fun _ => False) wB w') => rend_any p t ao1 cap1 bs (pl, er, ea) w' (HT2.out.stay hF).r hb)
        have HYE := hideIt (fun w' (hF : Fr (fun _ => False) wB w') => yend_any px ao cap bs (pl, er, ea) w' (HT2.out.stay hF).y hb)
        generalize rEnd bs (pl, er, ea) = en at *
        obtain ⟨en1, en2⟩ := en
        generalize (bs.length : Int) - ((pl, er, ea) : Nat × Int × Int).1 = lf at *
        dsimp only at HAT HFT HED HYE
        have HS := hideIt (show ∀ w', Fr (fun _ => False) wB w' → (w'.cell? ⟨px, 1, none⟩ = some (.int .i64 (pl : Int)) ∧ w'.cell? ⟨px, 2, none⟩ = some (.int .i64 er) ∧ w'.cell? ⟨px, 3, none⟩ = some (.int .i64 ea) ∧ Fr (fun _ => False) wB w') from fun w' hF => by
          have h := (HT2.out.stay hF).y.1
          exact ⟨h.c1, h.c2, h.c3, hF⟩)
        go_wp2_with fail
        refine wp_region_held_drew (S := fun w' => w'.cell? ⟨px, 1, none⟩ = some (.int .i64 (pl : Int)) ∧ w'.cell? ⟨px, 2, none⟩ = some (.int .i64 er) ∧ w'.cell? ⟨px, 3, none⟩ = some (.int .i64 ea) ∧ Fr (fun _ => False) wB w') (by kernel_rfl) ?_ (fun hHeld => ?_)
        · exact HS.out _ (Fr.refl _ _).drew
        refine wpAnyH_take (i := 0) (v := ?v1013) rfl (by kernel_rfl) (by kernel_rfl) (by kernel_rfl) (fun _ _ _ h => h) (Or.inl ⟨by kernel_rfl, ?hy1013⟩) (by assumption) ?rest1013
        case hy1013 => intro w hSw; (try dsimp only at hSw); go_simp; (try with_reducible rfl)
        try simp only [Act.put, List.getElem_toArray, List.getElem_cons_zero, List.getElem_cons_succ, List.setIfInBounds_toArray, List.set_cons_zero, List.set_cons_succ]
        refine wpAnyH_take (i := 1) (v := ?v1014) rfl (by kernel_rfl) (by kernel_rfl) (by kernel_rfl) (fun _ _ _ h => h) (Or.inl ⟨by kernel_rfl, ?hy1014⟩) (by assumption) ?rest1014
        case hy1014 => intro w hSw; (try dsimp only at hSw); go_simp; (try with_reducible rfl)
        try simp only [Act.put, List.getElem_toArray, List.getElem_cons_zero, List.getElem_cons_succ, List.setIfInBounds_toArray, List.set_cons_zero, List.set_cons_succ]
        refine wpAnyH_take (i := 2) (v := ?v1015) rfl (by kernel_rfl) (by kernel_rfl) (by kernel_rfl) (fun _ _ _ h => h) (Or.inl ⟨by kernel_rfl, ?hy1015⟩) (by assumption) ?rest1015
        case hy1015 => intro w hSw; (try dsimp only at hSw); go_simp; (try with_reducible rfl)
        try simp only [Act.put, List.getElem_toArray, List.getElem_cons_zero, List.getElem_cons_succ, List.setIfInBounds_toArray, List.set_cons_zero, List.set_cons_succ]
        refine wpAnyH_take (i := 3) (v := ?v1016) rfl (by kernel_rfl) (by kernel_rfl) (by kernel_rfl) (fun _ _ _ h => h) (Or.inl ⟨by kernel_rfl, ?hy1016⟩) (by assumption) ?rest1016
        case hy1016 => intro w hSw; (try dsimp only at hSw); go_simp; (try with_reducible rfl)
        try simp only [Act.put, List.getElem_toArray, List.getElem_cons_zero, List.getElem_cons_succ, List.setIfInBounds_toArray, List.set_cons_zero, List.set_cons_succ]
        refine wpAnyH_take (i := 5) (v := ?v1017) rfl (by kernel_rfl) (by kernel_rfl) (by kernel_rfl) (fun _ _ _ h => h) (Or.inl ⟨by kernel_rfl, ?hy1017⟩) (by assumption) ?rest1017
        case hy1017 => intro w hSw; (try dsimp only at hSw); go_simp; (try with_reducible rfl)
        try simp only [Act.put, List.getElem_toArray, List.getElem_cons_zero, List.getElem_cons_succ, List.setIfInBounds_toArray, List.set_cons_zero, List.set_cons_succ]
        refine wpAnyH_take (i := 6) (v := ?v1018) rfl (by kernel_rfl) (by kernel_rfl) (by kernel_rfl) (fun _ _ _ h => h) (Or.inl ⟨by kernel_rfl, ?hy1018⟩) (by assumption) ?rest1018
        case hy1018 => intro w hSw; (try dsimp only at hSw); go_simp; (try with_reducible rfl)
        try simp only [Act.put, List.getElem_toArray, List.getElem_cons_zero, List.getElem_cons_succ, List.setIfInBounds_toArray, List.set_cons_zero, List.set_cons_succ]
        refine wpAnyH_take (i := 7) (v := ?v1019) rfl (by kernel_rfl) (by kernel_rfl) (by kernel_rfl) (fun _ _ _ h => h) (Or.inl ⟨by kernel_rfl, ?hy1019⟩) (by assumption) ?rest1019
        case hy1019 => intro w hSw; (try dsimp only at hSw); go_simp; (try with_reducible rfl)
        try simp only [Act.put, List.getElem_toArray, List.getElem_cons_zero, List.getElem_cons_succ, List.setIfInBounds_toArray, List.set_cons_zero, List.set_cons_succ]
        refine wpAnyH_take (i := 8) (v := ?v1020) rfl (by kernel_rfl) (by kernel_rfl) (by kernel_rfl) (fun _ _ _ h => h) (Or.inl ⟨by kernel_rfl, ?hy1020⟩) (by assumption) ?rest1020
        case hy1020 => intro w hSw; (try dsimp only at hSw); go_simp; (try with_reducible rfl)
        try simp only [Act.put, List.getElem_toArray, List.getElem_cons_zero, List.getElem_cons_succ, List.setIfInBounds_toArray, List.set_cons_zero, List.set_cons_succ]
        refine wpAnyH_ready (rs := [4]) (by kernel_rfl) (by simp) ?_
        refine AllReadyH.cons rfl (fun K hK => ?_) AllReadyH.nil
        go_simp
        refine Calls.mono (HAT.out _ (by first | exact hHeld.2.2.2 | exact (Fr.refl _ _).drewN _)) ?_
        rintro e w49 ⟨rfl, rfl⟩
        refine hK.out _ _ ?_ (fun hHeld => ?_)
        · exact hHeld
        clear hK K
        try simp only [Act.put, List.getElem_toArray, List.getElem_cons_zero, List.getElem_cons_succ, List.setIfInBounds_toArray, List.set_cons_zero, List.set_cons_succ]
        refine wpAnyH_take (i := 9) (v := ?v1021) rfl (by kernel_rfl) (by kernel_rfl) (by kernel_rfl) (fun _ _ _ h => h) (Or.inl ⟨by kernel_rfl, ?hy1021⟩) (by assumption) ?rest1021
        case hy1021 => intro w hSw; (try dsimp only at hSw); go_simp; (try with_reducible rfl)
        try simp only [Act.put, List.getElem_toArray, List.getElem_cons_zero, List.getElem_cons_succ, List.setIfInBounds_toArray, List.set_cons_zero, List.set_cons_succ]
        refine wpAnyH_take (i := 10) (v := ?v1022) rfl (by kernel_rfl) (by kernel_rfl) (by kernel_rfl) (fun _ _ _ h => h) (Or.inl ⟨by kernel_rfl, ?hy1022⟩) (by assumption) ?rest1022
        case hy1022 => intro w hSw; (try dsimp only at hSw); go_simp; (try with_reducible rfl)
        try simp only [Act.put, List.getElem_toArray, List.getElem_cons_zero, List.getElem_cons_succ, List.setIfInBounds_toArray, List.set_cons_zero, List.set_cons_succ]
        refine wpAnyH_take (i := 11) (v := ?v1023) rfl (by kernel_rfl) (by kernel_rfl) (by kernel_rfl) (fun _ _ _ h => h) (Or.inl ⟨by kernel_rfl, ?hy1023⟩) (by assumption) ?rest1023
        case hy1023 => intro w hSw; (try dsimp only at hSw); go_simp; (try with_reducible rfl)
        try simp only [Act.put, List.getElem_toArray, List.getElem_cons_zero, List.getElem_cons_succ, List.setIfInBounds_toArray, List.set_cons_zero, List.set_cons_succ]
        refine wpAnyH_take (i := 12) (v := ?v1024) rfl (by kernel_rfl) (by kernel_rfl) (by kernel_rfl) (fun _ _ _ h => h) (Or.inl ⟨by kernel_rfl, ?hy1024⟩) (by assumption) ?rest1024
        case hy1024 => intro w hSw; (try dsimp only at hSw); go_simp; (try with_reducible rfl)
        try simp only [Act.put, List.getElem_toArray, List.getElem_cons_zero, List.getElem_cons_succ, List.setIfInBounds_toArray, List.set_cons_zero, List.set_cons_succ]
        refine wpAnyH_take (i := 14) (v := ?v1025) rfl (by kernel_rfl) (by kernel_rfl) (by kernel_rfl) (fun _ _ _ h => h) (Or.inl ⟨by kernel_rfl, ?hy1025⟩) (by assumption) ?rest1025
        case hy1025 => intro w hSw; (try dsimp only at hSw); go_simp; (try with_reducible rfl)
        try simp only [Act.put, List.getElem_toArray, List.getElem_cons_zero, List.getElem_cons_succ, List.setIfInBounds_toArray, List.set_cons_zero, List.set_cons_succ]
        refine wpAnyH_ready (rs := [13]) (by kernel_rfl) (by simp) ?_
        refine AllReadyH.cons rfl (fun K hK => ?_) AllReadyH.nil
        go_simp
        refine Calls.mono (HLF.out _ (by first | exact hHeld.2.2.2 | exact (Fr.refl _ _).drewN _)) ?_
        rintro e w50 ⟨rfl, kd50, rfl⟩
        refine hK.out _ _ ?_ (fun hHeld => ?_)
        · first | exact HS.out _ (hHeld.2.2.2.drewN _) | exact HS.out _ ((Fr.refl _ _).drewN _) | exact HS.out _ (((Fr.refl _ _).drewN _).drewN _)
        clear hK K
        try simp only [Act.put, List.getElem_toArray, List.getElem_cons_zero, List.getElem_cons_succ, List.setIfInBounds_toArray, List.set_cons_zero, List.set_cons_succ]
        refine wpAnyH_ready (rs := [15]) (by kernel_rfl) (by simp) ?_
        refine AllReadyH.cons rfl (fun K hK => ?_) AllReadyH.nil
        go_simp
        refine Calls.mono (HYL.out _ (by first | exact hHeld.2.2.2 | exact (Fr.refl _ _).drewN _)) ?_
        rintro e w51 ⟨rfl, kd51, rfl⟩
        refine hK.out _ _ ?_ (fun hHeld => ?_)
        · first | exact HS.out _ (hHeld.2.2.2.drewN _) | exact HS.out _ ((Fr.refl _ _).drewN _) | exact HS.out _ (((Fr.refl _ _).drewN _).drewN _)
        clear hK K
        try simp only [Act.put, List.getElem_toArray, List.getElem_cons_zero, List.getElem_cons_succ, List.setIfInBounds_toArray, List.set_cons_zero, List.set_cons_succ]
        refine wpAnyH_take (i := 16) (v := ?v1026) rfl (by kernel_rfl) (by kernel_rfl) (by kernel_rfl) (fun _ _ _ h => h) (Or.inl ⟨by kernel_rfl, ?hy1026⟩) (by assumption) ?rest1026
        case hy1026 => intro w hSw; (try dsimp only at hSw); go_simp; (try with_reducible rfl)
        try simp only [Act.put, List.getElem_toArray, List.getElem_cons_zero, List.getElem_cons_succ, List.setIfInBounds_toArray, List.set_cons_zero, List.set_cons_succ]
        refine wpAnyH_take (i := 17) (v := ?v1027) rfl (by kernel_rfl) (by kernel_rfl) (by kernel_rfl) (fun _ _ _ h => h) (Or.inl ⟨by kernel_rfl, ?hy1027⟩) (by assumption) ?rest1027
        case hy1027 => intro w hSw; (try dsimp only at hSw); go_simp; (try with_reducible rfl)
        try simp only [Act.put, List.getElem_toArray, List.getElem_cons_zero, List.getElem_cons_succ, List.setIfInBounds_toArray, List.set_cons_zero, List.set_cons_succ]
        refine wpAnyH_take (i := 18) (v := ?v1028) rfl (by kernel_rfl) (by kernel_rfl) (by kernel_rfl) (fun _ _ _ h => h) (Or.inl ⟨by kernel_rfl, ?hy1028⟩) (by assumption) ?rest1028
        case hy1028 => intro w hSw; (try dsimp only at hSw); go_simp; (try with_reducible rfl)
        try simp only [Act.put, List.getElem_toArray, List.getElem_cons_zero, List.getElem_cons_succ, List.setIfInBounds_toArray, List.set_cons_zero, List.set_cons_succ]
        refine wpAnyH_take (i := 19) (v := ?v1029) rfl (by kernel_rfl) (by kernel_rfl) (by kernel_rfl) (fun _ _ _ h => h) (Or.inl ⟨by kernel_rfl, ?hy1029⟩) (by assumption) ?rest1029
        case hy1029 => intro w hSw; (try dsimp only at hSw); go_simp; (try with_reducible rfl)
        try simp only [Act.put, List.getElem_toArray, List.getElem_cons_zero, List.getElem_cons_succ, List.setIfInBounds_toArray, List.set_cons_zero, List.set_cons_succ]
        refine wpAnyH_take (i := 21) (v := ?v1030) rfl (by kernel_rfl) (by kernel_rfl) (by kernel_rfl) (fun _ _ _ h => h) (Or.inl ⟨by kernel_rfl, ?hy1030⟩) (by assumption) ?rest1030
        case hy1030 => intro w hSw; (try dsimp only at hSw); go_simp; (try with_reducible rfl)
        try simp only [Act.put, List.getElem_toArray, List.getElem_cons_zero, List.getElem_cons_succ, List.setIfInBounds_toArray, List.set_cons_zero, List.set_cons_succ]
        refine wpAnyH_take (i := 22) (v := ?v1031) rfl (by kernel_rfl) (by kernel_rfl) (by kernel_rfl) (fun _ _ _ h => h) (Or.inl ⟨by kernel_rfl, ?hy1031⟩) (by assumption) ?rest1031
        case hy1031 => intro w hSw; (try dsimp only at hSw); go_simp; (try with_reducible rfl)
        try simp only [Act.put, List.getElem_toArray, List.getElem_cons_zero, List.getElem_cons_succ, List.setIfInBounds_toArray, List.set_cons_zero, List.set_cons_succ]
        refine wpAnyH_take (i := 23) (v := ?v1032) rfl (by kernel_rfl) (by kernel_rfl) (by kernel_rfl) (fun _ _ _ h => h) (Or.inl ⟨by kernel_rfl, ?hy1032⟩) (by assumption) ?rest1032
        case hy1032 => intro w hSw; (try dsimp only at hSw); go_simp; (try with_reducible rfl)
        try simp only [Act.put, List.getElem_toArray, List.getElem_cons_zero, List.getElem_cons_succ, List.setIfInBounds_toArray, List.set_cons_zero, List.set_cons_succ]
        refine wpAnyH_take (i := 24) (v := ?v1033) rfl (by kernel_rfl) (by kernel_rfl) (by kernel_rfl) (fun _ _ _ h => h) (Or.inl ⟨by kernel_rfl, ?hy1033⟩) (by assumption) ?rest1033
        case hy1033 => intro w hSw; (try dsimp only at hSw); go_simp; (try with_reducible rfl)
        try simp only [Act.put, List.getElem_toArray, List.getElem_cons_zero, List.getElem_cons_succ, List.setIfInBounds_toArray, List.set_cons_zero, List.set_cons_succ]
        refine wpAnyH_ready (rs := [20]) (by kernel_rfl) (by simp) ?_
        refine AllReadyH.cons rfl (fun K hK => ?_) AllReadyH.nil
        go_simp
        refine Calls.mono (HFT.out _ (by first | exact hHeld.2.2.2 | exact (Fr.refl _ _).drewN _)) ?_
        rintro e w52 ⟨rfl, hX52⟩
        have hW52 : Fr (fun _ => False) wB w52 := Fr.trans (by first | exact hHeld.2.2.2 | exact (Fr.refl _ _).drewN _) hX52 (fun _ _ e => e)
        clear hX52
        refine hK.out _ _ ?_ (fun hHeld => ?_)
        · exact HS.out _ hW52
        clear hK K
        try simp only [Act.put, List.getElem_toArray, List.getElem_cons_zero, List.getElem_cons_succ, List.setIfInBounds_toArray, List.set_cons_zero, List.set_cons_succ]
        refine wpAnyH_take (i := 25) (v := ?v1034) rfl (by kernel_rfl) (by kernel_rfl) (by kernel_rfl) (fun _ _ _ h => h) (Or.inl ⟨by kernel_rfl, ?hy1034⟩) (by assumption) ?rest1034
        case hy1034 => intro w hSw; (try dsimp only at hSw); go_simp; (try with_reducible rfl)
        try simp only [Act.put, List.getElem_toArray, List.getElem_cons_zero, List.getElem_cons_succ, List.setIfInBounds_toArray, List.set_cons_zero, List.set_cons_succ]
        refine wpAnyH_take (i := 26) (v := ?v1035) rfl (by kernel_rfl) (by kernel_rfl) (by kernel_rfl) (fun _ _ _ h => h) (Or.inl ⟨by kernel_rfl, ?hy1035⟩) (by assumption) ?rest1035
        case hy1035 => intro w hSw; (try dsimp only at hSw); go_simp; (try with_reducible rfl)
        try simp only [Act.put, List.getElem_toArray, List.getElem_cons_zero, List.getElem_cons_succ, List.setIfInBounds_toArray, List.set_cons_zero, List.set_cons_succ]
        refine wpAnyH_take (i := 27) (v := ?v1036) rfl (by kernel_rfl) (by kernel_rfl) (by kernel_rfl) (fun _ _ _ h => h) (Or.inl ⟨by kernel_rfl, ?hy1036⟩) (by assumption) ?rest1036
        case hy1036 => intro w hSw; (try dsimp only at hSw); go_simp; (try with_reducible rfl)
        try simp only [Act.put, List.getElem_toArray, List.getElem_cons_zero, List.getElem_cons_succ, List.setIfInBounds_toArray, List.set_cons_zero, List.set_cons_succ]
        refine wpAnyH_take (i := 28) (v := ?v1037) rfl (by kernel_rfl) (by kernel_rfl) (by kernel_rfl) (fun _ _ _ h => h) (Or.inl ⟨by kernel_rfl, ?hy1037⟩) (by assumption) ?rest1037
        case hy1037 => intro w hSw; (try dsimp only at hSw); go_simp; (try with_reducible rfl)
        try simp only [Act.put, List.getElem_toArray, List.getElem_cons_zero, List.getElem_cons_succ, List.setIfInBounds_toArray, List.set_cons_zero, List.set_cons_succ]
        refine wpAnyH_take (i := 30) (v := ?v1038) rfl (by kernel_rfl) (by kernel_rfl) (by kernel_rfl) (fun _ _ _ h => h) (Or.inl ⟨by kernel_rfl, ?hy1038⟩) (by assumption) ?rest1038
        case hy1038 => intro w hSw; (try dsimp only at hSw); go_simp; (try with_reducible rfl)
        try simp only [Act.put, List.getElem_toArray, List.getElem_cons_zero, List.getElem_cons_succ, List.setIfInBounds_toArray, List.set_cons_zero, List.set_cons_succ]
        refine wpAnyH_ready (rs := [29]) (by kernel_rfl) (by simp) ?_
        refine AllReadyH.cons rfl (fun K hK => ?_) AllReadyH.nil
        go_simp
        refine Calls.mono (HED.out _ (by first | exact hHeld.2.2.2 | exact (Fr.refl _ _).drewN _)) ?_
        rintro e w53 ⟨rfl, hX53⟩
        have hW53 : Fr (fun _ => False) wB w53 := Fr.trans (by first | exact hHeld.2.2.2 | exact (Fr.refl _ _).drewN _) hX53 (fun _ _ e => e)
        clear hX53
        refine hK.out _ _ ?_ (fun hHeld => ?_)
        · exact HS.out _ hW53
        clear hK K
        try simp only [Act.put, List.getElem_toArray, List.getElem_cons_zero, List.getElem_cons_succ, List.setIfInBounds_toArray, List.set_cons_zero, List.set_cons_succ]
        refine wpAnyH_ready (rs := [31]) (by kernel_rfl) (by simp) ?_
        refine AllReadyH.cons rfl (fun K hK => ?_) AllReadyH.nil
        go_simp
        refine Calls.mono (HYE.out _ (by first | exact hHeld.2.2.2 | exact (Fr.refl _ _).drewN _)) ?_
        rintro e w54 ⟨rfl, hX54⟩
        have hW54 : Fr (fun _ => False) wB w54 := Fr.trans (by first | exact hHeld.2.2.2 | exact (Fr.refl _ _).drewN _) hX54 (fun _ _ e => e)
        clear hX54
        refine hK.out _ _ ?_ (fun hHeld => ?_)
        · exact HS.out _ hW54
        clear hK K
        try simp only [Act.put, List.getElem_toArray, List.getElem_cons_zero, List.getElem_cons_succ, List.setIfInBounds_toArray, List.set_cons_zero, List.set_cons_succ]
        refine wpAnyH_take (i := 32) (v := ?v1039) rfl (by kernel_rfl) (by kernel_rfl) (by kernel_rfl) (fun _ _ _ h => h) (Or.inl ⟨by kernel_rfl, ?hy1039⟩) (by assumption) ?rest1039
        case hy1039 => intro w hSw; (try dsimp only at hSw); go_simp; (try with_reducible rfl)
        try simp only [Act.put, List.getElem_toArray, List.getElem_cons_zero, List.getElem_cons_succ, List.setIfInBounds_toArray, List.set_cons_zero, List.set_cons_succ]
        refine wpAnyH_take (i := 33) (v := ?v1040) rfl (by kernel_rfl) (by kernel_rfl) (by kernel_rfl) (fun _ _ _ h => h) (Or.inl ⟨by kernel_rfl, ?hy1040⟩) (by assumption) ?rest1040
        case hy1040 => intro w hSw; (try dsimp only at hSw); go_simp; (try with_reducible rfl)
        try simp only [Act.put, List.getElem_toArray, List.getElem_cons_zero, List.getElem_cons_succ, List.setIfInBounds_toArray, List.set_cons_zero, List.set_cons_succ]
        refine wpAnyH_done (by kernel_rfl) ?_ _
        have hFin := hHeld.2.2.2
        have HFin := hideIt hFin
        clear hFin hHeld HAT HLF HYL HFT HED HYE HS
        go_wp2_with fail
        go_roundw
        case measure => simp [intOf]; omega
        case rel => exact ⟨k + 1, (pl, er, ea), by go_num, by omega, hideIt (HT2.out.stay HFin.out)⟩
      have k3b : (q1 == 3) = false := by simpa using k3
      clear k0 k1 k2 k3
      obtain ⟨pl, er, ea⟩ := s
      have HT2 := HT1
      generalize hwb : wr.alloc (.cells #[.int .i64 q1, .int .i64 q2, .int .i64 q3] 52) = wB at HT2
      have HWB := hideIt hwb
      clear hwb
      have HAT := hideIt (fun w' (hF : Fr (fun _ => False) wB w') => rat_any p t ao1 cap1 bs (pl, er, ea) w' (HT2.out.stay hF).r)
      have HLF := hideIt (fun w' (hF : Fr (fun _ => False) wB w') => rleft_any p t ao1 cap1 bs (pl, er, ea) w' (HT2.out.stay hF).r hb)
      have HYL := hideIt (fun w' (hF : Fr (fun _ => False) wB w') => yleft_any px ao cap bs (pl, er, ea) w' (HT2.out.stay hF).y hb)
      have HFT := hideIt (fun w' (hF : Fr (fun _ => False) wB w') => rfault_any p t ao1 cap1 bs (pl, er, ea) w' (HT2.out.stay hF).r)
      have HED := hideIt (fun w' (hF : Fr (fun _ => False) wB w') => rend_any p t ao1 cap1 bs (pl, er, ea) w' (HT2.out.stay hF).r hb)
      have HYE := hideIt (fun w' (hF : Fr (fun _ => False) wB w') => yend_any px ao cap bs (pl, er, ea) w' (HT2.out.stay hF).y hb)
      generalize rEnd bs (pl, er, ea) = en at *
      obtain ⟨en1, en2⟩ := en
      generalize (bs.length : Int) - ((pl, er, ea) : Nat × Int × Int).1 = lf at *
      dsimp only at HAT HFT HED HYE
      have HS := hideIt (show ∀ w', Fr (fun _ => False) wB w' → (w'.cell? ⟨px, 1, none⟩ = some (.int .i64 (pl : Int)) ∧ w'.cell? ⟨px, 2, none⟩ = some (.int .i64 er) ∧ w'.cell? ⟨px, 3, none⟩ = some (.int .i64 ea) ∧ Fr (fun _ => False) wB w') from fun w' hF => by
        have h := (HT2.out.stay hF).y.1
        exact ⟨h.c1, h.c2, h.c3, hF⟩)
      go_wp2_with (first | (refine wpList_load_mid rfl 52 (.tmp 44) rfl b (off + k * 3) rfl [.int .i64 q1, .int .i64 q2, .int .i64 q3] _ HTH.out Try.underlying52 rfl HTI.out ?_))
      rw [HWB.out]
      refine wp_region_held_drew (S := fun w' => w'.cell? ⟨px, 1, none⟩ = some (.int .i64 (pl : Int)) ∧ w'.cell? ⟨px, 2, none⟩ = some (.int .i64 er) ∧ w'.cell? ⟨px, 3, none⟩ = some (.int .i64 ea) ∧ Fr (fun _ => False) wB w') (by kernel_rfl) ?_ (fun hHeld => ?_)
      · exact HS.out _ (Fr.refl _ _).drew
      refine wpAnyH_take (i := 0) (v := ?v1041) rfl (by kernel_rfl) (by kernel_rfl) (by kernel_rfl) (fun _ _ _ h => h) (Or.inl ⟨by kernel_rfl, ?hy1041⟩) (by assumption) ?rest1041
      case hy1041 => intro w hSw; (try dsimp only at hSw); go_simp; (try with_reducible rfl)
      try simp only [Act.put, List.getElem_toArray, List.getElem_cons_zero, List.getElem_cons_succ, List.setIfInBounds_toArray, List.set_cons_zero, List.set_cons_succ]
      refine wpAnyH_take (i := 1) (v := ?v1042) rfl (by kernel_rfl) (by kernel_rfl) (by kernel_rfl) (fun _ _ _ h => h) (Or.inl ⟨by kernel_rfl, ?hy1042⟩) (by assumption) ?rest1042
      case hy1042 => intro w hSw; (try dsimp only at hSw); go_simp; (try with_reducible rfl)
      try simp only [Act.put, List.getElem_toArray, List.getElem_cons_zero, List.getElem_cons_succ, List.setIfInBounds_toArray, List.set_cons_zero, List.set_cons_succ]
      refine wpAnyH_take (i := 2) (v := ?v1043) rfl (by kernel_rfl) (by kernel_rfl) (by kernel_rfl) (fun _ _ _ h => h) (Or.inl ⟨by kernel_rfl, ?hy1043⟩) (by assumption) ?rest1043
      case hy1043 => intro w hSw; (try dsimp only at hSw); go_simp; (try with_reducible rfl)
      try simp only [Act.put, List.getElem_toArray, List.getElem_cons_zero, List.getElem_cons_succ, List.setIfInBounds_toArray, List.set_cons_zero, List.set_cons_succ]
      refine wpAnyH_take (i := 3) (v := ?v1044) rfl (by kernel_rfl) (by kernel_rfl) (by kernel_rfl) (fun _ _ _ h => h) (Or.inl ⟨by kernel_rfl, ?hy1044⟩) (by assumption) ?rest1044
      case hy1044 => intro w hSw; (try dsimp only at hSw); go_simp; (try with_reducible rfl)
      try simp only [Act.put, List.getElem_toArray, List.getElem_cons_zero, List.getElem_cons_succ, List.setIfInBounds_toArray, List.set_cons_zero, List.set_cons_succ]
      refine wpAnyH_take (i := 5) (v := ?v1045) rfl (by kernel_rfl) (by kernel_rfl) (by kernel_rfl) (fun _ _ _ h => h) (Or.inl ⟨by kernel_rfl, ?hy1045⟩) (by assumption) ?rest1045
      case hy1045 => intro w hSw; (try dsimp only at hSw); go_simp; (try with_reducible rfl)
      try simp only [Act.put, List.getElem_toArray, List.getElem_cons_zero, List.getElem_cons_succ, List.setIfInBounds_toArray, List.set_cons_zero, List.set_cons_succ]
      refine wpAnyH_take (i := 6) (v := ?v1046) rfl (by kernel_rfl) (by kernel_rfl) (by kernel_rfl) (fun _ _ _ h => h) (Or.inl ⟨by kernel_rfl, ?hy1046⟩) (by assumption) ?rest1046
      case hy1046 => intro w hSw; (try dsimp only at hSw); go_simp; (try with_reducible rfl)
      try simp only [Act.put, List.getElem_toArray, List.getElem_cons_zero, List.getElem_cons_succ, List.setIfInBounds_toArray, List.set_cons_zero, List.set_cons_succ]
      refine wpAnyH_take (i := 7) (v := ?v1047) rfl (by kernel_rfl) (by kernel_rfl) (by kernel_rfl) (fun _ _ _ h => h) (Or.inl ⟨by kernel_rfl, ?hy1047⟩) (by assumption) ?rest1047
      case hy1047 => intro w hSw; (try dsimp only at hSw); go_simp; (try with_reducible rfl)
      try simp only [Act.put, List.getElem_toArray, List.getElem_cons_zero, List.getElem_cons_succ, List.setIfInBounds_toArray, List.set_cons_zero, List.set_cons_succ]
      refine wpAnyH_take (i := 8) (v := ?v1048) rfl (by kernel_rfl) (by kernel_rfl) (by kernel_rfl) (fun _ _ _ h => h) (Or.inl ⟨by kernel_rfl, ?hy1048⟩) (by assumption) ?rest1048
      case hy1048 => intro w hSw; (try dsimp only at hSw); go_simp; (try with_reducible rfl)
      try simp only [Act.put, List.getElem_toArray, List.getElem_cons_zero, List.getElem_cons_succ, List.setIfInBounds_toArray, List.set_cons_zero, List.set_cons_succ]
      refine wpAnyH_ready (rs := [4]) (by kernel_rfl) (by simp) ?_
      refine AllReadyH.cons rfl (fun K hK => ?_) AllReadyH.nil
      go_simp
      refine Calls.mono (HAT.out _ (by first | exact hHeld.2.2.2 | exact (Fr.refl _ _).drewN _)) ?_
      rintro e w55 ⟨rfl, rfl⟩
      refine hK.out _ _ ?_ (fun hHeld => ?_)
      · exact hHeld
      clear hK K
      try simp only [Act.put, List.getElem_toArray, List.getElem_cons_zero, List.getElem_cons_succ, List.setIfInBounds_toArray, List.set_cons_zero, List.set_cons_succ]
      refine wpAnyH_take (i := 9) (v := ?v1049) rfl (by kernel_rfl) (by kernel_rfl) (by kernel_rfl) (fun _ _ _ h => h) (Or.inl ⟨by kernel_rfl, ?hy1049⟩) (by assumption) ?rest1049
      case hy1049 => intro w hSw; (try dsimp only at hSw); go_simp; (try with_reducible rfl)
      try simp only [Act.put, List.getElem_toArray, List.getElem_cons_zero, List.getElem_cons_succ, List.setIfInBounds_toArray, List.set_cons_zero, List.set_cons_succ]
      refine wpAnyH_take (i := 10) (v := ?v1050) rfl (by kernel_rfl) (by kernel_rfl) (by kernel_rfl) (fun _ _ _ h => h) (Or.inl ⟨by kernel_rfl, ?hy1050⟩) (by assumption) ?rest1050
      case hy1050 => intro w hSw; (try dsimp only at hSw); go_simp; (try with_reducible rfl)
      try simp only [Act.put, List.getElem_toArray, List.getElem_cons_zero, List.getElem_cons_succ, List.setIfInBounds_toArray, List.set_cons_zero, List.set_cons_succ]
      refine wpAnyH_take (i := 11) (v := ?v1051) rfl (by kernel_rfl) (by kernel_rfl) (by kernel_rfl) (fun _ _ _ h => h) (Or.inl ⟨by kernel_rfl, ?hy1051⟩) (by assumption) ?rest1051
      case hy1051 => intro w hSw; (try dsimp only at hSw); go_simp; (try with_reducible rfl)
      try simp only [Act.put, List.getElem_toArray, List.getElem_cons_zero, List.getElem_cons_succ, List.setIfInBounds_toArray, List.set_cons_zero, List.set_cons_succ]
      refine wpAnyH_take (i := 12) (v := ?v1052) rfl (by kernel_rfl) (by kernel_rfl) (by kernel_rfl) (fun _ _ _ h => h) (Or.inl ⟨by kernel_rfl, ?hy1052⟩) (by assumption) ?rest1052
      case hy1052 => intro w hSw; (try dsimp only at hSw); go_simp; (try with_reducible rfl)
      try simp only [Act.put, List.getElem_toArray, List.getElem_cons_zero, List.getElem_cons_succ, List.setIfInBounds_toArray, List.set_cons_zero, List.set_cons_succ]
      refine wpAnyH_take (i := 14) (v := ?v1053) rfl (by kernel_rfl) (by kernel_rfl) (by kernel_rfl) (fun _ _ _ h => h) (Or.inl ⟨by kernel_rfl, ?hy1053⟩) (by assumption) ?rest1053
      case hy1053 => intro w hSw; (try dsimp only at hSw); go_simp; (try with_reducible rfl)
      try simp only [Act.put, List.getElem_toArray, List.getElem_cons_zero, List.getElem_cons_succ, List.setIfInBounds_toArray, List.set_cons_zero, List.set_cons_succ]
      refine wpAnyH_ready (rs := [13]) (by kernel_rfl) (by simp) ?_
      refine AllReadyH.cons rfl (fun K hK => ?_) AllReadyH.nil
      go_simp
      refine Calls.mono (HLF.out _ (by first | exact hHeld.2.2.2 | exact (Fr.refl _ _).drewN _)) ?_
      rintro e w56 ⟨rfl, kd56, rfl⟩
      refine hK.out _ _ ?_ (fun hHeld => ?_)
      · first | exact HS.out _ (hHeld.2.2.2.drewN _) | exact HS.out _ ((Fr.refl _ _).drewN _) | exact HS.out _ (((Fr.refl _ _).drewN _).drewN _)
      clear hK K
      try simp only [Act.put, List.getElem_toArray, List.getElem_cons_zero, List.getElem_cons_succ, List.setIfInBounds_toArray, List.set_cons_zero, List.set_cons_succ]
      refine wpAnyH_ready (rs := [15]) (by kernel_rfl) (by simp) ?_
      refine AllReadyH.cons rfl (fun K hK => ?_) AllReadyH.nil
      go_simp
      refine Calls.mono (HYL.out _ (by first | exact hHeld.2.2.2 | exact (Fr.refl _ _).drewN _)) ?_
      rintro e w57 ⟨rfl, kd57, rfl⟩
      refine hK.out _ _ ?_ (fun hHeld => ?_)
      · first | exact HS.out _ (hHeld.2.2.2.drewN _) | exact HS.out _ ((Fr.refl _ _).drewN _) | exact HS.out _ (((Fr.refl _ _).drewN _).drewN _)
      clear hK K
      try simp only [Act.put, List.getElem_toArray, List.getElem_cons_zero, List.getElem_cons_succ, List.setIfInBounds_toArray, List.set_cons_zero, List.set_cons_succ]
      refine wpAnyH_take (i := 16) (v := ?v1054) rfl (by kernel_rfl) (by kernel_rfl) (by kernel_rfl) (fun _ _ _ h => h) (Or.inl ⟨by kernel_rfl, ?hy1054⟩) (by assumption) ?rest1054
      case hy1054 => intro w hSw; (try dsimp only at hSw); go_simp; (try with_reducible rfl)
      try simp only [Act.put, List.getElem_toArray, List.getElem_cons_zero, List.getElem_cons_succ, List.setIfInBounds_toArray, List.set_cons_zero, List.set_cons_succ]
      refine wpAnyH_take (i := 17) (v := ?v1055) rfl (by kernel_rfl) (by kernel_rfl) (by kernel_rfl) (fun _ _ _ h => h) (Or.inl ⟨by kernel_rfl, ?hy1055⟩) (by assumption) ?rest1055
      case hy1055 => intro w hSw; (try dsimp only at hSw); go_simp; (try with_reducible rfl)
      try simp only [Act.put, List.getElem_toArray, List.getElem_cons_zero, List.getElem_cons_succ, List.setIfInBounds_toArray, List.set_cons_zero, List.set_cons_succ]
      refine wpAnyH_take (i := 18) (v := ?v1056) rfl (by kernel_rfl) (by kernel_rfl) (by kernel_rfl) (fun _ _ _ h => h) (Or.inl ⟨by kernel_rfl, ?hy1056⟩) (by assumption) ?rest1056
      case hy1056 => intro w hSw; (try dsimp only at hSw); go_simp; (try with_reducible rfl)
      try simp only [Act.put, List.getElem_toArray, List.getElem_cons_zero, List.getElem_cons_succ, List.setIfInBounds_toArray, List.set_cons_zero, List.set_cons_succ]
      refine wpAnyH_take (i := 19) (v := ?v1057) rfl (by kernel_rfl) (by kernel_rfl) (by kernel_rfl) (fun _ _ _ h => h) (Or.inl ⟨by kernel_rfl, ?hy1057⟩) (by assumption) ?rest1057
      case hy1057 => intro w hSw; (try dsimp only at hSw); go_simp; (try with_reducible rfl)
      try simp only [Act.put, List.getElem_toArray, List.getElem_cons_zero, List.getElem_cons_succ, List.setIfInBounds_toArray, List.set_cons_zero, List.set_cons_succ]
      refine wpAnyH_take (i := 21) (v := ?v1058) rfl (by kernel_rfl) (by kernel_rfl) (by kernel_rfl) (fun _ _ _ h => h) (Or.inl ⟨by kernel_rfl, ?hy1058⟩) (by assumption) ?rest1058
      case hy1058 => intro w hSw; (try dsimp only at hSw); go_simp; (try with_reducible rfl)
      try simp only [Act.put, List.getElem_toArray, List.getElem_cons_zero, List.getElem_cons_succ, List.setIfInBounds_toArray, List.set_cons_zero, List.set_cons_succ]
      refine wpAnyH_take (i := 22) (v := ?v1059) rfl (by kernel_rfl) (by kernel_rfl) (by kernel_rfl) (fun _ _ _ h => h) (Or.inl ⟨by kernel_rfl, ?hy1059⟩) (by assumption) ?rest1059
      case hy1059 => intro w hSw; (try dsimp only at hSw); go_simp; (try with_reducible rfl)
      try simp only [Act.put, List.getElem_toArray, List.getElem_cons_zero, List.getElem_cons_succ, List.setIfInBounds_toArray, List.set_cons_zero, List.set_cons_succ]
      refine wpAnyH_take (i := 23) (v := ?v1060) rfl (by kernel_rfl) (by kernel_rfl) (by kernel_rfl) (fun _ _ _ h => h) (Or.inl ⟨by kernel_rfl, ?hy1060⟩) (by assumption) ?rest1060
      case hy1060 => intro w hSw; (try dsimp only at hSw); go_simp; (try with_reducible rfl)
      try simp only [Act.put, List.getElem_toArray, List.getElem_cons_zero, List.getElem_cons_succ, List.setIfInBounds_toArray, List.set_cons_zero, List.set_cons_succ]
      refine wpAnyH_take (i := 24) (v := ?v1061) rfl (by kernel_rfl) (by kernel_rfl) (by kernel_rfl) (fun _ _ _ h => h) (Or.inl ⟨by kernel_rfl, ?hy1061⟩) (by assumption) ?rest1061
      case hy1061 => intro w hSw; (try dsimp only at hSw); go_simp; (try with_reducible rfl)
      try simp only [Act.put, List.getElem_toArray, List.getElem_cons_zero, List.getElem_cons_succ, List.setIfInBounds_toArray, List.set_cons_zero, List.set_cons_succ]
      refine wpAnyH_ready (rs := [20]) (by kernel_rfl) (by simp) ?_
      refine AllReadyH.cons rfl (fun K hK => ?_) AllReadyH.nil
      go_simp
      refine Calls.mono (HFT.out _ (by first | exact hHeld.2.2.2 | exact (Fr.refl _ _).drewN _)) ?_
      rintro e w58 ⟨rfl, hX58⟩
      have hW58 : Fr (fun _ => False) wB w58 := Fr.trans (by first | exact hHeld.2.2.2 | exact (Fr.refl _ _).drewN _) hX58 (fun _ _ e => e)
      clear hX58
      refine hK.out _ _ ?_ (fun hHeld => ?_)
      · exact HS.out _ hW58
      clear hK K
      try simp only [Act.put, List.getElem_toArray, List.getElem_cons_zero, List.getElem_cons_succ, List.setIfInBounds_toArray, List.set_cons_zero, List.set_cons_succ]
      refine wpAnyH_take (i := 25) (v := ?v1062) rfl (by kernel_rfl) (by kernel_rfl) (by kernel_rfl) (fun _ _ _ h => h) (Or.inl ⟨by kernel_rfl, ?hy1062⟩) (by assumption) ?rest1062
      case hy1062 => intro w hSw; (try dsimp only at hSw); go_simp; (try with_reducible rfl)
      try simp only [Act.put, List.getElem_toArray, List.getElem_cons_zero, List.getElem_cons_succ, List.setIfInBounds_toArray, List.set_cons_zero, List.set_cons_succ]
      refine wpAnyH_take (i := 26) (v := ?v1063) rfl (by kernel_rfl) (by kernel_rfl) (by kernel_rfl) (fun _ _ _ h => h) (Or.inl ⟨by kernel_rfl, ?hy1063⟩) (by assumption) ?rest1063
      case hy1063 => intro w hSw; (try dsimp only at hSw); go_simp; (try with_reducible rfl)
      try simp only [Act.put, List.getElem_toArray, List.getElem_cons_zero, List.getElem_cons_succ, List.setIfInBounds_toArray, List.set_cons_zero, List.set_cons_succ]
      refine wpAnyH_take (i := 27) (v := ?v1064) rfl (by kernel_rfl) (by kernel_rfl) (by kernel_rfl) (fun _ _ _ h => h) (Or.inl ⟨by kernel_rfl, ?hy1064⟩) (by assumption) ?rest1064
      case hy1064 => intro w hSw; (try dsimp only at hSw); go_simp; (try with_reducible rfl)
      try simp only [Act.put, List.getElem_toArray, List.getElem_cons_zero, List.getElem_cons_succ, List.setIfInBounds_toArray, List.set_cons_zero, List.set_cons_succ]
      refine wpAnyH_take (i := 28) (v := ?v1065) rfl (by kernel_rfl) (by kernel_rfl) (by kernel_rfl) (fun _ _ _ h => h) (Or.inl ⟨by kernel_rfl, ?hy1065⟩) (by assumption) ?rest1065
      case hy1065 => intro w hSw; (try dsimp only at hSw); go_simp; (try with_reducible rfl)
      try simp only [Act.put, List.getElem_toArray, List.getElem_cons_zero, List.getElem_cons_succ, List.setIfInBounds_toArray, List.set_cons_zero, List.set_cons_succ]
      refine wpAnyH_take (i := 30) (v := ?v1066) rfl (by kernel_rfl) (by kernel_rfl) (by kernel_rfl) (fun _ _ _ h => h) (Or.inl ⟨by kernel_rfl, ?hy1066⟩) (by assumption) ?rest1066
      case hy1066 => intro w hSw; (try dsimp only at hSw); go_simp; (try with_reducible rfl)
      try simp only [Act.put, List.getElem_toArray, List.getElem_cons_zero, List.getElem_cons_succ, List.setIfInBounds_toArray, List.set_cons_zero, List.set_cons_succ]
      refine wpAnyH_ready (rs := [29]) (by kernel_rfl) (by simp) ?_
      refine AllReadyH.cons rfl (fun K hK => ?_) AllReadyH.nil
      go_simp
      refine Calls.mono (HED.out _ (by first | exact hHeld.2.2.2 | exact (Fr.refl _ _).drewN _)) ?_
      rintro e w59 ⟨rfl, hX59⟩
      have hW59 : Fr (fun _ => False) wB w59 := Fr.trans (by first | exact hHeld.2.2.2 | exact (Fr.refl _ _).drewN _) hX59 (fun _ _ e => e)
      clear hX59
      refine hK.out _ _ ?_ (fun hHeld => ?_)
      · exact HS.out _ hW59
      clear hK K
      try simp only [Act.put, List.getElem_toArray, List.getElem_cons_zero, List.getElem_cons_succ, List.setIfInBounds_toArray, List.set_cons_zero, List.set_cons_succ]
      refine wpAnyH_ready (rs := [31]) (by kernel_rfl) (by simp) ?_
      refine AllReadyH.cons rfl (fun K hK => ?_) AllReadyH.nil
      go_simp
      refine Calls.mono (HYE.out _ (by first | exact hHeld.2.2.2 | exact (Fr.refl _ _).drewN _)) ?_
      rintro e w60 ⟨rfl, hX60⟩
      have hW60 : Fr (fun _ => False) wB w60 := Fr.trans (by first | exact hHeld.2.2.2 | exact (Fr.refl _ _).drewN _) hX60 (fun _ _ e => e)
      clear hX60
      refine hK.out _ _ ?_ (fun hHeld => ?_)
      · exact HS.out _ hW60
      clear hK K
      try simp only [Act.put, List.getElem_toArray, List.getElem_cons_zero, List.getElem_cons_succ, List.setIfInBounds_toArray, List.set_cons_zero, List.set_cons_succ]
      refine wpAnyH_take (i := 32) (v := ?v1067) rfl (by kernel_rfl) (by kernel_rfl) (by kernel_rfl) (fun _ _ _ h => h) (Or.inl ⟨by kernel_rfl, ?hy1067⟩) (by assumption) ?rest1067
      case hy1067 => intro w hSw; (try dsimp only at hSw); go_simp; (try with_reducible rfl)
      try simp only [Act.put, List.getElem_toArray, List.getElem_cons_zero, List.getElem_cons_succ, List.setIfInBounds_toArray, List.set_cons_zero, List.set_cons_succ]
      refine wpAnyH_take (i := 33) (v := ?v1068) rfl (by kernel_rfl) (by kernel_rfl) (by kernel_rfl) (fun _ _ _ h => h) (Or.inl ⟨by kernel_rfl, ?hy1068⟩) (by assumption) ?rest1068
      case hy1068 => intro w hSw; (try dsimp only at hSw); go_simp; (try with_reducible rfl)
      try simp only [Act.put, List.getElem_toArray, List.getElem_cons_zero, List.getElem_cons_succ, List.setIfInBounds_toArray, List.set_cons_zero, List.set_cons_succ]
      refine wpAnyH_done (by kernel_rfl) ?_ _
      have hFin := hHeld.2.2.2
      have HFin := hideIt hFin
      clear hFin hHeld HAT HLF HYL HFT HED HYE HS
      go_wp2_with fail
      go_roundw
      case measure => simp [intOf]; omega
      case rel => exact ⟨k + 1, (pl, er, ea), by go_num, by omega, hideIt (HT2.out.stay HFin.out)⟩
    · have HFR := hideIt HT.out.f
      clear HT
      go_wp2_with fail
      refine Calls.mono (HAW.out _) ?_
      rintro e w6 ⟨rfl, hF6⟩
      have HF6 := hideIt (HFR.out.trans hF6 (fun _ _ e => e))
      clear hF6
      go_wp2_with fail
      go_ret
      exact ⟨rfl, HF6.out⟩

end Go.Proofs.Yteihmonafdnicaa
