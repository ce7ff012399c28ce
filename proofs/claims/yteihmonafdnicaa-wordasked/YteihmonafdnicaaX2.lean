/- The document's own writer (retconref01.Writer). -/
import Derived.Test.YteihmonafdnicaaX1
import Derived.Test.YteihmonafdnicaaP6
namespace Go.Proofs.Yteihmonafdnicaa
open Go.RowKit Go.IntWalk
set_option linter.unusedSimpArgs false
set_option linter.unusedVariables false

/-- The document's writer in memory: its bytes, in a row of its own, and whether a number below 0 was to be written. -/
structure XWAt (w : World) (p : Nat) (ao : Option Addr) (cap : Nat) (bs : List UInt8) (bad : Bool) : Prop where
  box : w.heap[p]? = some (.cells #[.slice ao bs.length cap, .bool bad] 30 (0, 0))
  row : Row w 5 ao cap bs
  apart : ¬ blk ao p

section
variable {w w' : World} {p : Nat} {ao : Option Addr} {cap : Nat} {bs : List UInt8} {bad : Bool}
theorem XWAt.lt (h : XWAt w p ao cap bs bad) : p < w.heap.size := (Array.getElem?_eq_some_iff.1 h.box).1
theorem XWAt.c0 (h : XWAt w p ao cap bs bad) : w.cell? ⟨p, 0, none⟩ = some (.slice ao bs.length cap) := cellOfHeap h.box 0 rfl
theorem XWAt.c1 (h : XWAt w p ao cap bs bad) : w.cell? ⟨p, 1, none⟩ = some (.bool bad) := cellOfHeap h.box 1 rfl
theorem XWAt.fr {S : Nat → Prop} (h : XWAt w p ao cap bs bad) (hf : Fr S w w') (hp : ¬ S p) (hS : ∀ k, blk ao k → ¬ S k) : XWAt w' p ao cap bs bad :=
  ⟨(hf.block p h.lt hp).trans h.box, h.row.keep fun k hk hb => hf.block k hk (hS k hb), h.apart⟩
end
/-- What the document's writer is behind a call: the same one, its row the same or a new one. -/
def XPost (w : World) (p : Nat) (ao : Option Addr) (bs : List UInt8) (bad : Bool) (w' : World) : Prop :=
  ∃ ao' cap', XWAt w' p ao' cap' bs bad ∧ Fr (fun k => k = p ∨ blk ao k) w w' ∧ (ao' = ao ∨ ∀ k, blk ao' k → w.heap.size ≤ k)

/-- A new slice and a new flag are laid into the writer. -/
theorem XWAt.laid {w w1 : World} {p : Nat} {ao ao1 : Option Addr} {cap cap1 : Nat} {bs cs : List UInt8} {bad b1 : Bool} (h : XWAt w p ao cap bs bad) (hF : Fr (fun k => k = p ∨ blk ao k) w w1) (hb : w1.heap[p]? = some (.cells #[.slice ao bs.length cap, .bool b1] 30 (0, 0)))
    (hrow : Row w1 5 ao1 cap1 cs) (hao : ao1 = ao ∨ ∀ k, blk ao1 k → w.heap.size ≤ k) : XPost w p ao cs b1 (w1.setCell ⟨p, 0, none⟩ (.slice ao1 cs.length cap1)) := by
  have hap : ¬ blk ao1 p := by
    rcases hao with rfl | hn
    · exact h.apart
    · intro e
      have := hn p e
      have := h.lt
      omega
  have hF1 : Fr (fun k => k = p) w1 (w1.setCell ⟨p, 0, none⟩ (.slice ao1 cs.length cap1)) := (Fr.refl (fun k => k = p) w1).setCell (p := ⟨p, 0, none⟩) (fun _ => rfl) _
  refine ⟨ao1, cap1, ⟨?_, hrow.keep fun k hk hb1 => hF1.block k hk (fun e => hap (by subst e; exact hb1)), hap⟩, hF.trans hF1 (fun _ _ e => Or.inl e), hao⟩
  rw [heap_setCell_same w1 p 0 _ _ _ hb]
  rfl

/-- Sevens, of any number. -/
theorem sevens_any (n : Int) (hn : n ≤ 9223372036854775807) (w : World) : Calls Try.prog 47 #[.int .i64 n] w fun e w' => ∃ ao cap xs, xs = (if n < 0 then [] else sevens n.toNat) ∧ e = .returned (.slice ao xs.length cap) ∧ BsAt w' ao xs ∧ Fr (fun _ => False) w w' := by
  by_cases h : n < 0
  · refine (sevens_neg n w h).mono ?_
    rintro e w' ⟨rfl, rfl⟩
    exact ⟨none, 0, [], by rw [if_pos h], rfl, Or.inl ⟨rfl, rfl⟩, Fr.refl _ _⟩
  · obtain ⟨m, rfl⟩ := Int.eq_ofNat_of_zero_le (Int.not_lt.1 h)
    refine (sevens_nat m (by omega) w).mono ?_
    rintro e w' ⟨ao, cap, rfl, hr, hF, _⟩
    exact ⟨ao, cap, sevens m, by rw [if_neg h, Int.toNat_natCast], rfl, hr.bs, hF⟩

set_option maxRecDepth 100000 in
set_option maxHeartbeats 1000000 in
theorem xint_any (p : Nat) (ao : Option Addr) (cap : Nat) (bs xs : List UInt8) (bad : Bool) (n : Int) (w : World) (h : XWAt w p ao cap bs bad) (hn : n ≤ 9223372036854775807) (hxs : xs = (if n < 0 then [] else sevens n.toNat)) (hlen : bs.length + xs.length ≤ 140737488355328) :
    Calls Try.prog 11 #[.pointer (some ⟨p, 0, none⟩), .int .i64 n] w fun e w' => e = .returned (.tuple #[]) ∧ XPost w p ao (bs ++ xs) (bad || decide (n < 0)) w' := by
  have HXS := hideIt hxs
  have c0' := h.c0
  have c1 := h.c1
  have hz := frozen_of_row w p 1 _ _ h.box
  have hpl0 := h.lt
  have hap : ¬ blk ao p := h.apart
  have hbx : ∀ b1 : Bool, (w.setCell ⟨p, 1, none⟩ (.bool b1)).heap[p]? = some (.cells #[.slice ao bs.length cap, .bool b1] 30 (0, 0)) := fun b1 => by rw [heap_setCell_same w p 1 _ _ _ h.box]; rfl
  have hf0 : ∀ b1 : Bool, Fr (fun k => k = p ∨ blk ao k) w (w.setCell ⟨p, 1, none⟩ (.bool b1)) := fun b1 => (Fr.refl (fun k => k = p ∨ blk ao k) w).setCell (p := ⟨p, 1, none⟩) (fun _ => Or.inl rfl) _
  have hx1 : ∀ b1 : Bool, Row (w.setCell ⟨p, 1, none⟩ (.bool b1)) 5 ao cap bs := fun b1 => h.row.keep fun k hk hb => by
    have hne : k ≠ p := fun e => hap (by subst e; exact hb)
    exact heap_setCell_other _ _ _ _ hne
  clear hxs
  cases bad with
  | true =>
    have HBX := hideIt (hbx true)
    have HF0 := hideIt (hf0 true)
    have HX1 := hideIt (hx1 true)
    have hpl : p < (w.setCell ⟨p, 1, none⟩ (.bool true)).heap.size := by simpa using hpl0
    have c0 : (w.setCell ⟨p, 1, none⟩ (.bool true)).cell? ⟨p, 0, none⟩ = some (.slice ao bs.length cap) := cellOfHeap HBX.out 0 rfl
    clear hbx hf0 hx1
    go_enter Try.func11, Try.ntmps11
    go_wp2_with fail
    refine wp_region_held_drew (S := fun _ => True) (by kernel_rfl) trivial (fun hHeld => ?_)
    refine wpAnyH_take (i := 0) (v := ?v1) rfl (by kernel_rfl) (by kernel_rfl) (by kernel_rfl) (fun _ _ _ h => h) (Or.inl ⟨by rfl, ?hy1⟩) (by assumption) ?rest1
    case hy1 => intro w hSw; (try dsimp only at hSw); go_simp; (try with_reducible rfl)
    try simp only [Act.put, List.setIfInBounds_toArray, List.set_cons_zero, List.set_cons_succ]
    refine wpAnyH_take (i := 1) (v := ?v2) rfl (by kernel_rfl) (by kernel_rfl) (by kernel_rfl) (fun _ _ _ h => h) (Or.inl ⟨by rfl, ?hy2⟩) (by assumption) ?rest2
    case hy2 => intro w hSw; (try dsimp only at hSw); go_simp; (try with_reducible rfl)
    try simp only [Act.put, List.setIfInBounds_toArray, List.set_cons_zero, List.set_cons_succ]
    refine wpAnyH_take (i := 2) (v := ?v3) rfl (by kernel_rfl) (by kernel_rfl) (by kernel_rfl) (fun _ _ _ h => h) (Or.inl ⟨by rfl, ?hy3⟩) (by assumption) ?rest3
    case hy3 => intro w hSw; (try dsimp only at hSw); go_simp; (try with_reducible rfl)
    try simp only [Act.put, List.setIfInBounds_toArray, List.set_cons_zero, List.set_cons_succ]
    refine wpAnyH_take (i := 3) (v := ?v4) rfl (by kernel_rfl) (by kernel_rfl) (by kernel_rfl) (fun _ _ _ h => h) (Or.inl ⟨by rfl, ?hy4⟩) (by assumption) ?rest4
    case hy4 => intro w hSw; (try dsimp only at hSw); go_simp; (try with_reducible rfl)
    try simp only [Act.put, List.setIfInBounds_toArray, List.set_cons_zero, List.set_cons_succ]
    refine wpAnyH_take (i := 5) (v := ?v5) rfl (by kernel_rfl) (by kernel_rfl) (by kernel_rfl) (fun _ _ _ h => h) (Or.inl ⟨by rfl, ?hy5⟩) (by assumption) ?rest5
    case hy5 => intro w hSw; (try dsimp only at hSw); go_simp; (try with_reducible rfl)
    try simp only [Act.put, List.setIfInBounds_toArray, List.set_cons_zero, List.set_cons_succ]
    refine wpAnyH_ready (rs := [4, 6]) (by kernel_rfl) (by simp) ?_
    refine AllReadyH.cons rfl (fun K hK => ?_) ?_
    · go_simp
      refine hK.out _ _ trivial (fun hHeld => ?_)
      clear hK K
      try simp only [Act.put, List.setIfInBounds_toArray, List.set_cons_zero, List.set_cons_succ]
      refine wpAnyH_ready (rs := [6]) (by kernel_rfl) (by simp) ?_
      refine AllReadyH.cons rfl (fun K hK => ?_) AllReadyH.nil
      go_simp
      refine Calls.mono (sevens_any n hn _) ?_
      rintro e w2 ⟨aoS, capS, xs, hxs, rfl, hbS, hFS⟩
      obtain ⟨rfl⟩ := hxs.trans HXS.out.symm
      obtain ⟨ao3, cap3, w3, hrun, hrow3, hF3, hao3⟩ := app_row w2 28 ao cap bs _ ((HX1.out).keep fun k hk _ => hFS.block k hk (fun e => e)) _ (hbS.src capS) hlen
      have HRUN := hideIt hrun
      have hc2 : w2.cell? ⟨p, 0, none⟩ = some (.slice ao bs.length cap) := (World.cell?_of_block (a := ⟨p, 0, none⟩) (hFS.block p hpl (fun e => e))).trans c0
      have hb2 := (hFS.block p hpl (fun e => e)).trans HBX.out
      have hb3 := (hF3.block p (Nat.lt_of_lt_of_le hpl hFS.size) hap).trans hb2
      have hc3 : w3.cell? ⟨p, 0, none⟩ = some (.slice ao bs.length cap) := cellOfHeap hb3 0 rfl
      have hz3 := frozen_of_row w3 p 0 _ _ hb3
      have HFIN := hideIt (show XPost w p ao (bs ++ xs) true (w3.setCell ⟨p, 0, none⟩ (.slice ao3 (bs.length + xs.length) cap3)) by
        have := h.laid ((HF0.out.drew.trans (S' := fun _ => False) hFS (fun _ _ e => e.elim)).trans hF3 (fun _ _ e => Or.inr e)) hb3 hrow3 (hao3.imp id fun e k hk => by subst e; obtain ⟨_, e1, rfl⟩ := hk; obtain rfl := Option.some.inj e1; exact Nat.le_trans HF0.out.size hFS.size)
        rw [List.length_append] at this
        exact this)
      clear hrun hrow3 hF3 hao3 hFS hbS hxs hb2 hb3
      refine hK.out _ _ trivial (fun hHeld => ?_)
      clear hK K
      try simp only [Act.put, List.setIfInBounds_toArray, List.set_cons_zero, List.set_cons_succ]
      refine wpAnyH_ready (rs := [7]) (by kernel_rfl) (by simp) ?_
      refine AllReadyH.cons rfl (fun K hK => ?_) AllReadyH.nil
      refine step_append_run rfl (.tmp 19) (.tmp 21) 28 28 rfl _ _ _ _ rfl rfl HRUN.out ?_
      refine hK.out _ _ trivial (fun hHeld => ?_)
      clear hK K
      try simp only [Act.put, List.setIfInBounds_toArray, List.set_cons_zero, List.set_cons_succ]
      refine wpAnyH_take (i := 8) (v := ?v6) rfl (by kernel_rfl) (by kernel_rfl) (by kernel_rfl) (fun _ _ _ h => h) (Or.inl ⟨by rfl, ?hy6⟩) (by assumption) ?rest6
      case hy6 => intro w hSw; (try dsimp only at hSw); go_simp; (try with_reducible rfl)
      try simp only [Act.put, List.setIfInBounds_toArray, List.set_cons_zero, List.set_cons_succ]
      refine wpAnyH_take (i := 9) (v := ?v7) rfl (by kernel_rfl) (by kernel_rfl) (by kernel_rfl) (fun _ _ _ h => h) (Or.inl ⟨by rfl, ?hy7⟩) (by assumption) ?rest7
      case hy7 => intro w hSw; (try dsimp only at hSw); go_simp; (try with_reducible rfl)
      try simp only [Act.put, List.setIfInBounds_toArray, List.set_cons_zero, List.set_cons_succ]
      refine wpAnyH_ready (rs := [10]) (by kernel_rfl) (by simp) ?_
      refine AllReadyH.cons rfl (fun K hK => ?_) AllReadyH.nil
      go_simp
      refine hK.out _ _ trivial (fun hHeld => ?_)
      clear hK K
      try simp only [Act.put, List.setIfInBounds_toArray, List.set_cons_zero, List.set_cons_succ]
      refine wpAnyH_done (by kernel_rfl) ?_ _
      go_wp2_with fail
      go_end0
      exact ⟨rfl, HFIN.out⟩
    refine AllReadyH.cons rfl (fun K hK => ?_) ?_
    · go_simp
      refine Calls.mono (sevens_any n hn _) ?_
      rintro e w2 ⟨aoS, capS, xs, hxs, rfl, hbS, hFS⟩
      obtain ⟨rfl⟩ := hxs.trans HXS.out.symm
      obtain ⟨ao3, cap3, w3, hrun, hrow3, hF3, hao3⟩ := app_row w2 28 ao cap bs _ ((HX1.out).keep fun k hk _ => hFS.block k hk (fun e => e)) _ (hbS.src capS) hlen
      have HRUN := hideIt hrun
      have hc2 : w2.cell? ⟨p, 0, none⟩ = some (.slice ao bs.length cap) := (World.cell?_of_block (a := ⟨p, 0, none⟩) (hFS.block p hpl (fun e => e))).trans c0
      have hb2 := (hFS.block p hpl (fun e => e)).trans HBX.out
      have hb3 := (hF3.block p (Nat.lt_of_lt_of_le hpl hFS.size) hap).trans hb2
      have hc3 : w3.cell? ⟨p, 0, none⟩ = some (.slice ao bs.length cap) := cellOfHeap hb3 0 rfl
      have hz3 := frozen_of_row w3 p 0 _ _ hb3
      have HFIN := hideIt (show XPost w p ao (bs ++ xs) true (w3.setCell ⟨p, 0, none⟩ (.slice ao3 (bs.length + xs.length) cap3)) by
        have := h.laid ((HF0.out.drew.trans (S' := fun _ => False) hFS (fun _ _ e => e.elim)).trans hF3 (fun _ _ e => Or.inr e)) hb3 hrow3 (hao3.imp id fun e k hk => by subst e; obtain ⟨_, e1, rfl⟩ := hk; obtain rfl := Option.some.inj e1; exact Nat.le_trans HF0.out.size hFS.size)
        rw [List.length_append] at this
        exact this)
      clear hrun hrow3 hF3 hao3 hFS hbS hxs hb2 hb3
      refine hK.out _ _ trivial (fun hHeld => ?_)
      clear hK K
      try simp only [Act.put, List.setIfInBounds_toArray, List.set_cons_zero, List.set_cons_succ]
      refine wpAnyH_ready (rs := [4]) (by kernel_rfl) (by simp) ?_
      refine AllReadyH.cons rfl (fun K hK => ?_) AllReadyH.nil
      go_simp
      refine hK.out _ _ trivial (fun hHeld => ?_)
      clear hK K
      try simp only [Act.put, List.setIfInBounds_toArray, List.set_cons_zero, List.set_cons_succ]
      refine wpAnyH_ready (rs := [7]) (by kernel_rfl) (by simp) ?_
      refine AllReadyH.cons rfl (fun K hK => ?_) AllReadyH.nil
      refine step_append_run rfl (.tmp 19) (.tmp 21) 28 28 rfl _ _ _ _ rfl rfl HRUN.out ?_
      refine hK.out _ _ trivial (fun hHeld => ?_)
      clear hK K
      try simp only [Act.put, List.setIfInBounds_toArray, List.set_cons_zero, List.set_cons_succ]
      refine wpAnyH_take (i := 8) (v := ?v8) rfl (by kernel_rfl) (by kernel_rfl) (by kernel_rfl) (fun _ _ _ h => h) (Or.inl ⟨by rfl, ?hy8⟩) (by assumption) ?rest8
      case hy8 => intro w hSw; (try dsimp only at hSw); go_simp; (try with_reducible rfl)
      try simp only [Act.put, List.setIfInBounds_toArray, List.set_cons_zero, List.set_cons_succ]
      refine wpAnyH_take (i := 9) (v := ?v9) rfl (by kernel_rfl) (by kernel_rfl) (by kernel_rfl) (fun _ _ _ h => h) (Or.inl ⟨by rfl, ?hy9⟩) (by assumption) ?rest9
      case hy9 => intro w hSw; (try dsimp only at hSw); go_simp; (try with_reducible rfl)
      try simp only [Act.put, List.setIfInBounds_toArray, List.set_cons_zero, List.set_cons_succ]
      refine wpAnyH_ready (rs := [10]) (by kernel_rfl) (by simp) ?_
      refine AllReadyH.cons rfl (fun K hK => ?_) AllReadyH.nil
      go_simp
      refine hK.out _ _ trivial (fun hHeld => ?_)
      clear hK K
      try simp only [Act.put, List.setIfInBounds_toArray, List.set_cons_zero, List.set_cons_succ]
      refine wpAnyH_done (by kernel_rfl) ?_ _
      go_wp2_with fail
      go_end0
      exact ⟨rfl, HFIN.out⟩
    exact AllReadyH.nil
  | false =>
    by_cases hneg : n < 0
    · have e : (false || decide (n < 0)) = true := by simp [hneg]
      rw [e]
      have HBX := hideIt (hbx true)
      have HF0 := hideIt (hf0 true)
      have HX1 := hideIt (hx1 true)
      have hpl : p < (w.setCell ⟨p, 1, none⟩ (.bool true)).heap.size := by simpa using hpl0
      have c0 : (w.setCell ⟨p, 1, none⟩ (.bool true)).cell? ⟨p, 0, none⟩ = some (.slice ao bs.length cap) := cellOfHeap HBX.out 0 rfl
      clear hbx hf0 hx1 e
      go_enter Try.func11, Try.ntmps11
      go_wp2_with fail
      refine wp_region_held_drew (S := fun _ => True) (by kernel_rfl) trivial (fun hHeld => ?_)
      refine wpAnyH_take (i := 0) (v := ?v10) rfl (by kernel_rfl) (by kernel_rfl) (by kernel_rfl) (fun _ _ _ h => h) (Or.inl ⟨by rfl, ?hy10⟩) (by assumption) ?rest10
      case hy10 => intro w hSw; (try dsimp only at hSw); go_simp; (try with_reducible rfl)
      try simp only [Act.put, List.setIfInBounds_toArray, List.set_cons_zero, List.set_cons_succ]
      refine wpAnyH_take (i := 1) (v := ?v11) rfl (by kernel_rfl) (by kernel_rfl) (by kernel_rfl) (fun _ _ _ h => h) (Or.inl ⟨by rfl, ?hy11⟩) (by assumption) ?rest11
      case hy11 => intro w hSw; (try dsimp only at hSw); go_simp; (try with_reducible rfl)
      try simp only [Act.put, List.setIfInBounds_toArray, List.set_cons_zero, List.set_cons_succ]
      refine wpAnyH_take (i := 2) (v := ?v12) rfl (by kernel_rfl) (by kernel_rfl) (by kernel_rfl) (fun _ _ _ h => h) (Or.inl ⟨by rfl, ?hy12⟩) (by assumption) ?rest12
      case hy12 => intro w hSw; (try dsimp only at hSw); go_simp; (try with_reducible rfl)
      try simp only [Act.put, List.setIfInBounds_toArray, List.set_cons_zero, List.set_cons_succ]
      refine wpAnyH_take (i := 3) (v := ?v13) rfl (by kernel_rfl) (by kernel_rfl) (by kernel_rfl) (fun _ _ _ h => h) (Or.inl ⟨by rfl, ?hy13⟩) (by assumption) ?rest13
      case hy13 => intro w hSw; (try dsimp only at hSw); go_simp; (try with_reducible rfl)
      try simp only [Act.put, List.setIfInBounds_toArray, List.set_cons_zero, List.set_cons_succ]
      refine wpAnyH_take (i := 5) (v := ?v14) rfl (by kernel_rfl) (by kernel_rfl) (by kernel_rfl) (fun _ _ _ h => h) (Or.inl ⟨by rfl, ?hy14⟩) (by assumption) ?rest14
      case hy14 => intro w hSw; (try dsimp only at hSw); go_simp; (try with_reducible rfl)
      try simp only [Act.put, List.setIfInBounds_toArray, List.set_cons_zero, List.set_cons_succ]
      refine wpAnyH_ready (rs := [4, 6]) (by kernel_rfl) (by simp) ?_
      refine AllReadyH.cons rfl (fun K hK => ?_) ?_
      · go_simp
        refine hK.out _ _ trivial (fun hHeld => ?_)
        clear hK K
        try simp only [Act.put, List.setIfInBounds_toArray, List.set_cons_zero, List.set_cons_succ]
        refine wpAnyH_ready (rs := [6]) (by kernel_rfl) (by simp) ?_
        refine AllReadyH.cons rfl (fun K hK => ?_) AllReadyH.nil
        go_simp
        refine Calls.mono (sevens_any n hn _) ?_
        rintro e w2 ⟨aoS, capS, xs, hxs, rfl, hbS, hFS⟩
        obtain ⟨rfl⟩ := hxs.trans HXS.out.symm
        obtain ⟨ao3, cap3, w3, hrun, hrow3, hF3, hao3⟩ := app_row w2 28 ao cap bs _ ((HX1.out).keep fun k hk _ => hFS.block k hk (fun e => e)) _ (hbS.src capS) hlen
        have HRUN := hideIt hrun
        have hc2 : w2.cell? ⟨p, 0, none⟩ = some (.slice ao bs.length cap) := (World.cell?_of_block (a := ⟨p, 0, none⟩) (hFS.block p hpl (fun e => e))).trans c0
        have hb2 := (hFS.block p hpl (fun e => e)).trans HBX.out
        have hb3 := (hF3.block p (Nat.lt_of_lt_of_le hpl hFS.size) hap).trans hb2
        have hc3 : w3.cell? ⟨p, 0, none⟩ = some (.slice ao bs.length cap) := cellOfHeap hb3 0 rfl
        have hz3 := frozen_of_row w3 p 0 _ _ hb3
        have HFIN := hideIt (show XPost w p ao (bs ++ xs) true (w3.setCell ⟨p, 0, none⟩ (.slice ao3 (bs.length + xs.length) cap3)) by
          have := h.laid ((HF0.out.drew.trans (S' := fun _ => False) hFS (fun _ _ e => e.elim)).trans hF3 (fun _ _ e => Or.inr e)) hb3 hrow3 (hao3.imp id fun e k hk => by subst e; obtain ⟨_, e1, rfl⟩ := hk; obtain rfl := Option.some.inj e1; exact Nat.le_trans HF0.out.size hFS.size)
          rw [List.length_append] at this
          exact this)
        clear hrun hrow3 hF3 hao3 hFS hbS hxs hb2 hb3
        refine hK.out _ _ trivial (fun hHeld => ?_)
        clear hK K
        try simp only [Act.put, List.setIfInBounds_toArray, List.set_cons_zero, List.set_cons_succ]
        refine wpAnyH_ready (rs := [7]) (by kernel_rfl) (by simp) ?_
        refine AllReadyH.cons rfl (fun K hK => ?_) AllReadyH.nil
        refine step_append_run rfl (.tmp 19) (.tmp 21) 28 28 rfl _ _ _ _ rfl rfl HRUN.out ?_
        refine hK.out _ _ trivial (fun hHeld => ?_)
        clear hK K
        try simp only [Act.put, List.setIfInBounds_toArray, List.set_cons_zero, List.set_cons_succ]
        refine wpAnyH_take (i := 8) (v := ?v15) rfl (by kernel_rfl) (by kernel_rfl) (by kernel_rfl) (fun _ _ _ h => h) (Or.inl ⟨by rfl, ?hy15⟩) (by assumption) ?rest15
        case hy15 => intro w hSw; (try dsimp only at hSw); go_simp; (try with_reducible rfl)
        try simp only [Act.put, List.setIfInBounds_toArray, List.set_cons_zero, List.set_cons_succ]
        refine wpAnyH_take (i := 9) (v := ?v16) rfl (by kernel_rfl) (by kernel_rfl) (by kernel_rfl) (fun _ _ _ h => h) (Or.inl ⟨by rfl, ?hy16⟩) (by assumption) ?rest16
        case hy16 => intro w hSw; (try dsimp only at hSw); go_simp; (try with_reducible rfl)
        try simp only [Act.put, List.setIfInBounds_toArray, List.set_cons_zero, List.set_cons_succ]
        refine wpAnyH_ready (rs := [10]) (by kernel_rfl) (by simp) ?_
        refine AllReadyH.cons rfl (fun K hK => ?_) AllReadyH.nil
        go_simp
        refine hK.out _ _ trivial (fun hHeld => ?_)
        clear hK K
        try simp only [Act.put, List.setIfInBounds_toArray, List.set_cons_zero, List.set_cons_succ]
        refine wpAnyH_done (by kernel_rfl) ?_ _
        go_wp2_with fail
        go_end0
        exact ⟨rfl, HFIN.out⟩
      refine AllReadyH.cons rfl (fun K hK => ?_) ?_
      · go_simp
        refine Calls.mono (sevens_any n hn _) ?_
        rintro e w2 ⟨aoS, capS, xs, hxs, rfl, hbS, hFS⟩
        obtain ⟨rfl⟩ := hxs.trans HXS.out.symm
        obtain ⟨ao3, cap3, w3, hrun, hrow3, hF3, hao3⟩ := app_row w2 28 ao cap bs _ ((HX1.out).keep fun k hk _ => hFS.block k hk (fun e => e)) _ (hbS.src capS) hlen
        have HRUN := hideIt hrun
        have hc2 : w2.cell? ⟨p, 0, none⟩ = some (.slice ao bs.length cap) := (World.cell?_of_block (a := ⟨p, 0, none⟩) (hFS.block p hpl (fun e => e))).trans c0
        have hb2 := (hFS.block p hpl (fun e => e)).trans HBX.out
        have hb3 := (hF3.block p (Nat.lt_of_lt_of_le hpl hFS.size) hap).trans hb2
        have hc3 : w3.cell? ⟨p, 0, none⟩ = some (.slice ao bs.length cap) := cellOfHeap hb3 0 rfl
        have hz3 := frozen_of_row w3 p 0 _ _ hb3
        have HFIN := hideIt (show XPost w p ao (bs ++ xs) true (w3.setCell ⟨p, 0, none⟩ (.slice ao3 (bs.length + xs.length) cap3)) by
          have := h.laid ((HF0.out.drew.trans (S' := fun _ => False) hFS (fun _ _ e => e.elim)).trans hF3 (fun _ _ e => Or.inr e)) hb3 hrow3 (hao3.imp id fun e k hk => by subst e; obtain ⟨_, e1, rfl⟩ := hk; obtain rfl := Option.some.inj e1; exact Nat.le_trans HF0.out.size hFS.size)
          rw [List.length_append] at this
          exact this)
        clear hrun hrow3 hF3 hao3 hFS hbS hxs hb2 hb3
        refine hK.out _ _ trivial (fun hHeld => ?_)
        clear hK K
        try simp only [Act.put, List.setIfInBounds_toArray, List.set_cons_zero, List.set_cons_succ]
        refine wpAnyH_ready (rs := [4]) (by kernel_rfl) (by simp) ?_
        refine AllReadyH.cons rfl (fun K hK => ?_) AllReadyH.nil
        go_simp
        refine hK.out _ _ trivial (fun hHeld => ?_)
        clear hK K
        try simp only [Act.put, List.setIfInBounds_toArray, List.set_cons_zero, List.set_cons_succ]
        refine wpAnyH_ready (rs := [7]) (by kernel_rfl) (by simp) ?_
        refine AllReadyH.cons rfl (fun K hK => ?_) AllReadyH.nil
        refine step_append_run rfl (.tmp 19) (.tmp 21) 28 28 rfl _ _ _ _ rfl rfl HRUN.out ?_
        refine hK.out _ _ trivial (fun hHeld => ?_)
        clear hK K
        try simp only [Act.put, List.setIfInBounds_toArray, List.set_cons_zero, List.set_cons_succ]
        refine wpAnyH_take (i := 8) (v := ?v17) rfl (by kernel_rfl) (by kernel_rfl) (by kernel_rfl) (fun _ _ _ h => h) (Or.inl ⟨by rfl, ?hy17⟩) (by assumption) ?rest17
        case hy17 => intro w hSw; (try dsimp only at hSw); go_simp; (try with_reducible rfl)
        try simp only [Act.put, List.setIfInBounds_toArray, List.set_cons_zero, List.set_cons_succ]
        refine wpAnyH_take (i := 9) (v := ?v18) rfl (by kernel_rfl) (by kernel_rfl) (by kernel_rfl) (fun _ _ _ h => h) (Or.inl ⟨by rfl, ?hy18⟩) (by assumption) ?rest18
        case hy18 => intro w hSw; (try dsimp only at hSw); go_simp; (try with_reducible rfl)
        try simp only [Act.put, List.setIfInBounds_toArray, List.set_cons_zero, List.set_cons_succ]
        refine wpAnyH_ready (rs := [10]) (by kernel_rfl) (by simp) ?_
        refine AllReadyH.cons rfl (fun K hK => ?_) AllReadyH.nil
        go_simp
        refine hK.out _ _ trivial (fun hHeld => ?_)
        clear hK K
        try simp only [Act.put, List.setIfInBounds_toArray, List.set_cons_zero, List.set_cons_succ]
        refine wpAnyH_done (by kernel_rfl) ?_ _
        go_wp2_with fail
        go_end0
        exact ⟨rfl, HFIN.out⟩
      exact AllReadyH.nil
    · have e : (false || decide (n < 0)) = false := by simp [hneg]
      rw [e]
      have HBX := hideIt (hbx false)
      have HF0 := hideIt (hf0 false)
      have HX1 := hideIt (hx1 false)
      have hpl : p < (w.setCell ⟨p, 1, none⟩ (.bool false)).heap.size := by simpa using hpl0
      have c0 : (w.setCell ⟨p, 1, none⟩ (.bool false)).cell? ⟨p, 0, none⟩ = some (.slice ao bs.length cap) := cellOfHeap HBX.out 0 rfl
      clear hbx hf0 hx1 e
      go_enter Try.func11, Try.ntmps11
      go_wp2_with fail
      refine wp_region_held_drew (S := fun _ => True) (by kernel_rfl) trivial (fun hHeld => ?_)
      refine wpAnyH_take (i := 0) (v := ?v19) rfl (by kernel_rfl) (by kernel_rfl) (by kernel_rfl) (fun _ _ _ h => h) (Or.inl ⟨by rfl, ?hy19⟩) (by assumption) ?rest19
      case hy19 => intro w hSw; (try dsimp only at hSw); go_simp; (try with_reducible rfl)
      try simp only [Act.put, List.setIfInBounds_toArray, List.set_cons_zero, List.set_cons_succ]
      refine wpAnyH_take (i := 1) (v := ?v20) rfl (by kernel_rfl) (by kernel_rfl) (by kernel_rfl) (fun _ _ _ h => h) (Or.inl ⟨by rfl, ?hy20⟩) (by assumption) ?rest20
      case hy20 => intro w hSw; (try dsimp only at hSw); go_simp; (try with_reducible rfl)
      try simp only [Act.put, List.setIfInBounds_toArray, List.set_cons_zero, List.set_cons_succ]
      refine wpAnyH_take (i := 2) (v := ?v21) rfl (by kernel_rfl) (by kernel_rfl) (by kernel_rfl) (fun _ _ _ h => h) (Or.inl ⟨by rfl, ?hy21⟩) (by assumption) ?rest21
      case hy21 => intro w hSw; (try dsimp only at hSw); go_simp; (try with_reducible rfl)
      try simp only [Act.put, List.setIfInBounds_toArray, List.set_cons_zero, List.set_cons_succ]
      refine wpAnyH_take (i := 3) (v := ?v22) rfl (by kernel_rfl) (by kernel_rfl) (by kernel_rfl) (fun _ _ _ h => h) (Or.inl ⟨by rfl, ?hy22⟩) (by assumption) ?rest22
      case hy22 => intro w hSw; (try dsimp only at hSw); go_simp; (try with_reducible rfl)
      try simp only [Act.put, List.setIfInBounds_toArray, List.set_cons_zero, List.set_cons_succ]
      refine wpAnyH_take (i := 5) (v := ?v23) rfl (by kernel_rfl) (by kernel_rfl) (by kernel_rfl) (fun _ _ _ h => h) (Or.inl ⟨by rfl, ?hy23⟩) (by assumption) ?rest23
      case hy23 => intro w hSw; (try dsimp only at hSw); go_simp; (try with_reducible rfl)
      try simp only [Act.put, List.setIfInBounds_toArray, List.set_cons_zero, List.set_cons_succ]
      refine wpAnyH_ready (rs := [4, 6]) (by kernel_rfl) (by simp) ?_
      refine AllReadyH.cons rfl (fun K hK => ?_) ?_
      · go_simp
        refine hK.out _ _ trivial (fun hHeld => ?_)
        clear hK K
        try simp only [Act.put, List.setIfInBounds_toArray, List.set_cons_zero, List.set_cons_succ]
        refine wpAnyH_ready (rs := [6]) (by kernel_rfl) (by simp) ?_
        refine AllReadyH.cons rfl (fun K hK => ?_) AllReadyH.nil
        go_simp
        refine Calls.mono (sevens_any n hn _) ?_
        rintro e w2 ⟨aoS, capS, xs, hxs, rfl, hbS, hFS⟩
        obtain ⟨rfl⟩ := hxs.trans HXS.out.symm
        obtain ⟨ao3, cap3, w3, hrun, hrow3, hF3, hao3⟩ := app_row w2 28 ao cap bs _ ((HX1.out).keep fun k hk _ => hFS.block k hk (fun e => e)) _ (hbS.src capS) hlen
        have HRUN := hideIt hrun
        have hc2 : w2.cell? ⟨p, 0, none⟩ = some (.slice ao bs.length cap) := (World.cell?_of_block (a := ⟨p, 0, none⟩) (hFS.block p hpl (fun e => e))).trans c0
        have hb2 := (hFS.block p hpl (fun e => e)).trans HBX.out
        have hb3 := (hF3.block p (Nat.lt_of_lt_of_le hpl hFS.size) hap).trans hb2
        have hc3 : w3.cell? ⟨p, 0, none⟩ = some (.slice ao bs.length cap) := cellOfHeap hb3 0 rfl
        have hz3 := frozen_of_row w3 p 0 _ _ hb3
        have HFIN := hideIt (show XPost w p ao (bs ++ xs) false (w3.setCell ⟨p, 0, none⟩ (.slice ao3 (bs.length + xs.length) cap3)) by
          have := h.laid ((HF0.out.drew.trans (S' := fun _ => False) hFS (fun _ _ e => e.elim)).trans hF3 (fun _ _ e => Or.inr e)) hb3 hrow3 (hao3.imp id fun e k hk => by subst e; obtain ⟨_, e1, rfl⟩ := hk; obtain rfl := Option.some.inj e1; exact Nat.le_trans HF0.out.size hFS.size)
          rw [List.length_append] at this
          exact this)
        clear hrun hrow3 hF3 hao3 hFS hbS hxs hb2 hb3
        refine hK.out _ _ trivial (fun hHeld => ?_)
        clear hK K
        try simp only [Act.put, List.setIfInBounds_toArray, List.set_cons_zero, List.set_cons_succ]
        refine wpAnyH_ready (rs := [7]) (by kernel_rfl) (by simp) ?_
        refine AllReadyH.cons rfl (fun K hK => ?_) AllReadyH.nil
        refine step_append_run rfl (.tmp 19) (.tmp 21) 28 28 rfl _ _ _ _ rfl rfl HRUN.out ?_
        refine hK.out _ _ trivial (fun hHeld => ?_)
        clear hK K
        try simp only [Act.put, List.setIfInBounds_toArray, List.set_cons_zero, List.set_cons_succ]
        refine wpAnyH_take (i := 8) (v := ?v24) rfl (by kernel_rfl) (by kernel_rfl) (by kernel_rfl) (fun _ _ _ h => h) (Or.inl ⟨by rfl, ?hy24⟩) (by assumption) ?rest24
        case hy24 => intro w hSw; (try dsimp only at hSw); go_simp; (try with_reducible rfl)
        try simp only [Act.put, List.setIfInBounds_toArray, List.set_cons_zero, List.set_cons_succ]
        refine wpAnyH_take (i := 9) (v := ?v25) rfl (by kernel_rfl) (by kernel_rfl) (by kernel_rfl) (fun _ _ _ h => h) (Or.inl ⟨by rfl, ?hy25⟩) (by assumption) ?rest25
        case hy25 => intro w hSw; (try dsimp only at hSw); go_simp; (try with_reducible rfl)
        try simp only [Act.put, List.setIfInBounds_toArray, List.set_cons_zero, List.set_cons_succ]
        refine wpAnyH_ready (rs := [10]) (by kernel_rfl) (by simp) ?_
        refine AllReadyH.cons rfl (fun K hK => ?_) AllReadyH.nil
        go_simp
        refine hK.out _ _ trivial (fun hHeld => ?_)
        clear hK K
        try simp only [Act.put, List.setIfInBounds_toArray, List.set_cons_zero, List.set_cons_succ]
        refine wpAnyH_done (by kernel_rfl) ?_ _
        go_wp2_with fail
        go_end0
        exact ⟨rfl, HFIN.out⟩
      refine AllReadyH.cons rfl (fun K hK => ?_) ?_
      · go_simp
        refine Calls.mono (sevens_any n hn _) ?_
        rintro e w2 ⟨aoS, capS, xs, hxs, rfl, hbS, hFS⟩
        obtain ⟨rfl⟩ := hxs.trans HXS.out.symm
        obtain ⟨ao3, cap3, w3, hrun, hrow3, hF3, hao3⟩ := app_row w2 28 ao cap bs _ ((HX1.out).keep fun k hk _ => hFS.block k hk (fun e => e)) _ (hbS.src capS) hlen
        have HRUN := hideIt hrun
        have hc2 : w2.cell? ⟨p, 0, none⟩ = some (.slice ao bs.length cap) := (World.cell?_of_block (a := ⟨p, 0, none⟩) (hFS.block p hpl (fun e => e))).trans c0
        have hb2 := (hFS.block p hpl (fun e => e)).trans HBX.out
        have hb3 := (hF3.block p (Nat.lt_of_lt_of_le hpl hFS.size) hap).trans hb2
        have hc3 : w3.cell? ⟨p, 0, none⟩ = some (.slice ao bs.length cap) := cellOfHeap hb3 0 rfl
        have hz3 := frozen_of_row w3 p 0 _ _ hb3
        have HFIN := hideIt (show XPost w p ao (bs ++ xs) false (w3.setCell ⟨p, 0, none⟩ (.slice ao3 (bs.length + xs.length) cap3)) by
          have := h.laid ((HF0.out.drew.trans (S' := fun _ => False) hFS (fun _ _ e => e.elim)).trans hF3 (fun _ _ e => Or.inr e)) hb3 hrow3 (hao3.imp id fun e k hk => by subst e; obtain ⟨_, e1, rfl⟩ := hk; obtain rfl := Option.some.inj e1; exact Nat.le_trans HF0.out.size hFS.size)
          rw [List.length_append] at this
          exact this)
        clear hrun hrow3 hF3 hao3 hFS hbS hxs hb2 hb3
        refine hK.out _ _ trivial (fun hHeld => ?_)
        clear hK K
        try simp only [Act.put, List.setIfInBounds_toArray, List.set_cons_zero, List.set_cons_succ]
        refine wpAnyH_ready (rs := [4]) (by kernel_rfl) (by simp) ?_
        refine AllReadyH.cons rfl (fun K hK => ?_) AllReadyH.nil
        go_simp
        refine hK.out _ _ trivial (fun hHeld => ?_)
        clear hK K
        try simp only [Act.put, List.setIfInBounds_toArray, List.set_cons_zero, List.set_cons_succ]
        refine wpAnyH_ready (rs := [7]) (by kernel_rfl) (by simp) ?_
        refine AllReadyH.cons rfl (fun K hK => ?_) AllReadyH.nil
        refine step_append_run rfl (.tmp 19) (.tmp 21) 28 28 rfl _ _ _ _ rfl rfl HRUN.out ?_
        refine hK.out _ _ trivial (fun hHeld => ?_)
        clear hK K
        try simp only [Act.put, List.setIfInBounds_toArray, List.set_cons_zero, List.set_cons_succ]
        refine wpAnyH_take (i := 8) (v := ?v26) rfl (by kernel_rfl) (by kernel_rfl) (by kernel_rfl) (fun _ _ _ h => h) (Or.inl ⟨by rfl, ?hy26⟩) (by assumption) ?rest26
        case hy26 => intro w hSw; (try dsimp only at hSw); go_simp; (try with_reducible rfl)
        try simp only [Act.put, List.setIfInBounds_toArray, List.set_cons_zero, List.set_cons_succ]
        refine wpAnyH_take (i := 9) (v := ?v27) rfl (by kernel_rfl) (by kernel_rfl) (by kernel_rfl) (fun _ _ _ h => h) (Or.inl ⟨by rfl, ?hy27⟩) (by assumption) ?rest27
        case hy27 => intro w hSw; (try dsimp only at hSw); go_simp; (try with_reducible rfl)
        try simp only [Act.put, List.setIfInBounds_toArray, List.set_cons_zero, List.set_cons_succ]
        refine wpAnyH_ready (rs := [10]) (by kernel_rfl) (by simp) ?_
        refine AllReadyH.cons rfl (fun K hK => ?_) AllReadyH.nil
        go_simp
        refine hK.out _ _ trivial (fun hHeld => ?_)
        clear hK K
        try simp only [Act.put, List.setIfInBounds_toArray, List.set_cons_zero, List.set_cons_succ]
        refine wpAnyH_done (by kernel_rfl) ?_ _
        go_wp2_with fail
        go_end0
        exact ⟨rfl, HFIN.out⟩
      exact AllReadyH.nil

end Go.Proofs.Yteihmonafdnicaa
