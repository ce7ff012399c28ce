/- The document's own writer: texts, IDs, what it tells. -/
import Derived.Test.YteihmonafdnicaaX2
namespace Go.Proofs.Yteihmonafdnicaa
open Go.RowKit Go.IntWalk
set_option linter.unusedSimpArgs false
set_option linter.unusedVariables false

theorem str_src (w : World) (x : ByteArray) : Src Try.prog 1 9 (.string x) x.data.toList.length (bv x.data.toList) w := by
  have := Src.ofString (P := Try.prog) w Try.underlying9 x
  simpa [byteCells, bv] using this

/-- A new row is new, behind whatever was made ahead of it. -/
theorem new_or {w w2 : World} {ao ao3 : Option Addr} (hs : w.heap.size ≤ w2.heap.size) (h : ao3 = ao ∨ ao3 = some ⟨w2.heap.size, 0, none⟩) : ao3 = ao ∨ ∀ k, blk ao3 k → w.heap.size ≤ k :=
  h.imp id fun e k hk => by
    subst e
    obtain ⟨_, e1, rfl⟩ := hk
    obtain rfl := Option.some.inj e1
    exact hs

set_option maxRecDepth 100000 in
set_option maxHeartbeats 1000000 in
theorem xtext_any (p : Nat) (ao : Option Addr) (cap : Nat) (bs xs : List UInt8) (bad : Bool) (x : ByteArray) (w : World) (h : XWAt w p ao cap bs bad) (hxm : (x.size : Int) ≤ 9223372036854775807) (hxs : xs = sevens x.size) (hlen : bs.length + xs.length + x.size ≤ 140737488355328) :
    Calls Try.prog 12 #[.pointer (some ⟨p, 0, none⟩), .string x] w fun e w' => e = .returned (.tuple #[]) ∧ XPost w p ao (bs ++ xs ++ x.data.toList) bad w' := by
  have HXS := hideIt (show xs = (if (x.size : Int) < 0 then [] else sevens (x.size : Int).toNat) by rw [if_neg (by omega), Int.toNat_natCast]; exact hxs)
  have c0 := h.c0
  have hpl := h.lt
  have hap : ¬ blk ao p := h.apart
  have HBX := hideIt h.box
  have HX1 := hideIt h.row
  clear hxs
  go_enter Try.func12, Try.ntmps12
  go_wp2_with fail
  refine wp_region_held_drew (S := fun _ => True) (by kernel_rfl) trivial (fun hHeld => ?_)
  refine wpAnyH_take (i := 0) (v := ?v1) rfl (by kernel_rfl) (by kernel_rfl) (by kernel_rfl) (fun _ _ _ h => h) (Or.inl ⟨by rfl, ?hy1⟩) (by assumption) ?rest1
  case hy1 => intro w hSw; (try dsimp only at hSw); go_simp; (try with_reducible rfl)
  try simp only [Act.put, List.setIfInBounds_toArray, List.set_cons_zero, List.set_cons_succ]
  refine wpAnyH_take (i := 1) (v := ?v2) rfl (by kernel_rfl) (by kernel_rfl) (by kernel_rfl) (fun _ _ _ h => h) (Or.inl ⟨by rfl, ?hy2⟩) (by assumption) ?rest2
  case hy2 => intro w hSw; (try dsimp only at hSw); go_simp; (try with_reducible rfl)
  try simp only [Act.put, List.setIfInBounds_toArray, List.set_cons_zero, List.set_cons_succ]
  refine wpAnyH_take (i := 2) (v := ?v3) rfl (by kernel_rfl) (by kernel_rfl) (by kernel_rfl) (fun _ _ _ h => h) (Or.inl ⟨by rfl, ?hy3⟩) (by assumption) ?rest3
  case hy3 => intro w hSw; (try dsimp only at hSw); go_simp; (try with_reducible rfl)
  try simp only [Act.put, List.setIfInBounds_toArray, List.set_cons_zero, List.set_cons_succ]
  refine wpAnyH_take (i := 3) (v := ?v4) rfl (by kernel_rfl) (by kernel_rfl) (by kernel_rfl) (fun _ _ _ h => h) (Or.inl ⟨by rfl, ?hy4⟩) (by assumption) ?rest4
  case hy4 => intro w hSw; (try dsimp only at hSw); go_simp; (try with_reducible rfl)
  try simp only [Act.put, List.setIfInBounds_toArray, List.set_cons_zero, List.set_cons_succ]
  refine wpAnyH_take (i := 5) (v := ?v5) rfl (by kernel_rfl) (by kernel_rfl) (by kernel_rfl) (fun _ _ _ h => h) (Or.inl ⟨by rfl, ?hy5⟩) (by assumption) ?rest5
  case hy5 => intro w hSw; (try dsimp only at hSw); go_simp; (try with_reducible rfl)
  try simp only [Act.put, List.setIfInBounds_toArray, List.set_cons_zero, List.set_cons_succ]
  refine wpAnyH_take (i := 6) (v := ?v6) rfl (by kernel_rfl) (by kernel_rfl) (by kernel_rfl) (fun _ _ _ h => h) (Or.inl ⟨by rfl, ?hy6⟩) (by assumption) ?rest6
  case hy6 => intro w hSw; (try dsimp only at hSw); go_simp; (try with_reducible rfl)
  try simp only [Act.put, List.setIfInBounds_toArray, List.set_cons_zero, List.set_cons_succ]
  refine wpAnyH_take (i := 9) (v := ?v7) rfl (by kernel_rfl) (by kernel_rfl) (by kernel_rfl) (fun _ _ _ h => h) (Or.inl ⟨by rfl, ?hy7⟩) (by assumption) ?rest7
  case hy7 => intro w hSw; (try dsimp only at hSw); go_simp; (try with_reducible rfl)
  try simp only [Act.put, List.setIfInBounds_toArray, List.set_cons_zero, List.set_cons_succ]
  refine wpAnyH_ready (rs := [4, 7]) (by kernel_rfl) (by simp) ?_
  refine AllReadyH.cons rfl (fun K hK => ?_) ?_
  · go_simp
    refine hK.out _ _ trivial (fun hHeld => ?_)
    clear hK K
    try simp only [Act.put, List.setIfInBounds_toArray, List.set_cons_zero, List.set_cons_succ]
    refine wpAnyH_ready (rs := [7]) (by kernel_rfl) (by simp) ?_
    refine AllReadyH.cons rfl (fun K hK => ?_) AllReadyH.nil
    go_simp
    refine Calls.mono (sevens_any (x.size : Int) hxm _) ?_
    rintro e w2 ⟨aoS, capS, xs, hxs, rfl, hbS, hFS⟩
    obtain ⟨rfl⟩ := hxs.trans HXS.out.symm
    obtain ⟨ao3, cap3, w3, hrun, hrow3, hF3, hao3⟩ := app_row w2 28 ao cap bs _ ((HX1.out).keep fun k hk _ => hFS.block k hk (fun e => e)) _ (hbS.src capS) (by omega)
    have hao3' := new_or (Nat.le_refl _) hao3
    obtain ⟨ao4, cap4, w4, hrun4, hrow4, hF4, hao4⟩ := app_row w3 9 ao3 cap3 (bs ++ xs) x.data.toList hrow3 _ (str_src w3 x) (by simp; omega)
    rw [show (bs ++ xs).length = bs.length + xs.length by simp, show x.data.toList.length = x.size by simp] at hrun4
    have HRUN := hideIt hrun
    have HRUN4 := hideIt hrun4
    have hb2 := (hFS.block p hpl (fun e => e)).trans HBX.out
    have hc2 : w2.cell? ⟨p, 0, none⟩ = some (.slice ao bs.length cap) := cellOfHeap hb2 0 rfl
    have hp2 := Nat.lt_of_lt_of_le hpl hFS.size
    have hb3 := (hF3.block p hp2 hap).trans hb2
    have hap3 : ¬ blk ao3 p := by
      rcases hao3' with rfl | hn
      · exact hap
      · intro e
        have := hn p e
        omega
    have hb4 := (hF4.block p (Nat.lt_of_lt_of_le hp2 hF3.size) hap3).trans hb3
    have hc4 : w4.cell? ⟨p, 0, none⟩ = some (.slice ao bs.length cap) := cellOfHeap hb4 0 rfl
    have hz4 := frozen_of_row w4 p 0 _ _ hb4
    have hF24 : Fr (fun k => k = p ∨ blk ao k) w2 w4 := (hF3.mono (fun _ e => Or.inr e)).trans hF4 (fun i hi e => by
      rcases hao3' with rfl | hn
      · exact Or.inr e
      · have := hn i e
        omega)
    have hao4' : ao4 = ao ∨ ∀ k, blk ao4 k → w.heap.size ≤ k := by
      have hs2 : w.heap.size ≤ w2.heap.size := hFS.size
      rcases new_or (Nat.le_refl _) hao4 with rfl | hn
      · rcases hao3' with rfl | hn3
        · exact Or.inl rfl
        · exact Or.inr fun k hk => Nat.le_trans hs2 (hn3 k hk)
      · exact Or.inr fun k hk => Nat.le_trans hs2 (Nat.le_trans hF3.size (hn k hk))
    have HFIN := hideIt (show XPost w p ao (bs ++ xs ++ x.data.toList) bad (w4.setCell ⟨p, 0, none⟩ (.slice ao4 (bs.length + xs.length + x.size) cap4)) by
      have := h.laid (((Fr.refl (fun k => k = p ∨ blk ao k) w).drew.trans (S' := fun _ => False) hFS (fun _ _ e => e.elim)).trans hF24 (fun _ _ e => e)) hb4 hrow4 hao4'
      rw [show (bs ++ xs ++ x.data.toList).length = bs.length + xs.length + x.size by simp; omega] at this
      exact this)
    clear hrun hrun4 hrow3 hrow4 hF3 hF4 hao3 hao4 hFS hbS hxs hb2 hb3 hb4 hao3' hao4' hF24
    refine hK.out _ _ trivial (fun hHeld => ?_)
    clear hK K
    try simp only [Act.put, List.setIfInBounds_toArray, List.set_cons_zero, List.set_cons_succ]
    refine wpAnyH_ready (rs := [8]) (by kernel_rfl) (by simp) ?_
    refine AllReadyH.cons rfl (fun K hK => ?_) AllReadyH.nil
    refine step_append_run rfl (.tmp 8) (.tmp 11) 28 28 rfl _ _ _ _ rfl rfl HRUN.out ?_
    refine hK.out _ _ trivial (fun hHeld => ?_)
    clear hK K
    try simp only [Act.put, List.setIfInBounds_toArray, List.set_cons_zero, List.set_cons_succ]
    refine wpAnyH_ready (rs := [10]) (by kernel_rfl) (by simp) ?_
    refine AllReadyH.cons rfl (fun K hK => ?_) AllReadyH.nil
    refine step_append_run rfl (.tmp 12) (.tmp 13) 28 9 rfl _ _ _ _ rfl rfl HRUN4.out ?_
    refine hK.out _ _ trivial (fun hHeld => ?_)
    clear hK K
    try simp only [Act.put, List.setIfInBounds_toArray, List.set_cons_zero, List.set_cons_succ]
    refine wpAnyH_take (i := 11) (v := ?v8) rfl (by kernel_rfl) (by kernel_rfl) (by kernel_rfl) (fun _ _ _ h => h) (Or.inl ⟨by rfl, ?hy8⟩) (by assumption) ?rest8
    case hy8 => intro w hSw; (try dsimp only at hSw); go_simp; (try with_reducible rfl)
    try simp only [Act.put, List.setIfInBounds_toArray, List.set_cons_zero, List.set_cons_succ]
    refine wpAnyH_take (i := 12) (v := ?v9) rfl (by kernel_rfl) (by kernel_rfl) (by kernel_rfl) (fun _ _ _ h => h) (Or.inl ⟨by rfl, ?hy9⟩) (by assumption) ?rest9
    case hy9 => intro w hSw; (try dsimp only at hSw); go_simp; (try with_reducible rfl)
    try simp only [Act.put, List.setIfInBounds_toArray, List.set_cons_zero, List.set_cons_succ]
    refine wpAnyH_ready (rs := [13]) (by kernel_rfl) (by simp) ?_
    refine AllReadyH.cons rfl (fun K hK => ?_) AllReadyH.nil
    go_simp
    refine hK.out _ _ trivial (fun hHeld => ?_)
    clear hK K
    try simp only [Act.put, List.setIfInBounds_toArray, List.set_cons_zero, List.set_cons_succ]
    refine wpAnyH_done (by kernel_rfl) ?_ _
    go_wp2_with fail
    go_end0
    exact ⟨rfl, HFIN.out⟩
  refine AllReadyH.cons rfl (fun K hK => ?_) ?_
  · go_simp
    refine Calls.mono (sevens_any (x.size : Int) hxm _) ?_
    rintro e w2 ⟨aoS, capS, xs, hxs, rfl, hbS, hFS⟩
    obtain ⟨rfl⟩ := hxs.trans HXS.out.symm
    obtain ⟨ao3, cap3, w3, hrun, hrow3, hF3, hao3⟩ := app_row w2 28 ao cap bs _ ((HX1.out).keep fun k hk _ => hFS.block k hk (fun e => e)) _ (hbS.src capS) (by omega)
    have hao3' := new_or (Nat.le_refl _) hao3
    obtain ⟨ao4, cap4, w4, hrun4, hrow4, hF4, hao4⟩ := app_row w3 9 ao3 cap3 (bs ++ xs) x.data.toList hrow3 _ (str_src w3 x) (by simp; omega)
    rw [show (bs ++ xs).length = bs.length + xs.length by simp, show x.data.toList.length = x.size by simp] at hrun4
    have HRUN := hideIt hrun
    have HRUN4 := hideIt hrun4
    have hb2 := (hFS.block p hpl (fun e => e)).trans HBX.out
    have hc2 : w2.cell? ⟨p, 0, none⟩ = some (.slice ao bs.length cap) := cellOfHeap hb2 0 rfl
    have hp2 := Nat.lt_of_lt_of_le hpl hFS.size
    have hb3 := (hF3.block p hp2 hap).trans hb2
    have hap3 : ¬ blk ao3 p := by
      rcases hao3' with rfl | hn
      · exact hap
      · intro e
        have := hn p e
        omega
    have hb4 := (hF4.block p (Nat.lt_of_lt_of_le hp2 hF3.size) hap3).trans hb3
    have hc4 : w4.cell? ⟨p, 0, none⟩ = some (.slice ao bs.length cap) := cellOfHeap hb4 0 rfl
    have hz4 := frozen_of_row w4 p 0 _ _ hb4
    have hF24 : Fr (fun k => k = p ∨ blk ao k) w2 w4 := (hF3.mono (fun _ e => Or.inr e)).trans hF4 (fun i hi e => by
      rcases hao3' with rfl | hn
      · exact Or.inr e
      · have := hn i e
        omega)
    have hao4' : ao4 = ao ∨ ∀ k, blk ao4 k → w.heap.size ≤ k := by
      have hs2 : w.heap.size ≤ w2.heap.size := hFS.size
      rcases new_or (Nat.le_refl _) hao4 with rfl | hn
      · rcases hao3' with rfl | hn3
        · exact Or.inl rfl
        · exact Or.inr fun k hk => Nat.le_trans hs2 (hn3 k hk)
      · exact Or.inr fun k hk => Nat.le_trans hs2 (Nat.le_trans hF3.size (hn k hk))
    have HFIN := hideIt (show XPost w p ao (bs ++ xs ++ x.data.toList) bad (w4.setCell ⟨p, 0, none⟩ (.slice ao4 (bs.length + xs.length + x.size) cap4)) by
      have := h.laid (((Fr.refl (fun k => k = p ∨ blk ao k) w).drew.trans (S' := fun _ => False) hFS (fun _ _ e => e.elim)).trans hF24 (fun _ _ e => e)) hb4 hrow4 hao4'
      rw [show (bs ++ xs ++ x.data.toList).length = bs.length + xs.length + x.size by simp; omega] at this
      exact this)
    clear hrun hrun4 hrow3 hrow4 hF3 hF4 hao3 hao4 hFS hbS hxs hb2 hb3 hb4 hao3' hao4' hF24
    refine hK.out _ _ trivial (fun hHeld => ?_)
    clear hK K
    try simp only [Act.put, List.setIfInBounds_toArray, List.set_cons_zero, List.set_cons_succ]
    refine wpAnyH_ready (rs := [4]) (by kernel_rfl) (by simp) ?_
    refine AllReadyH.cons rfl (fun K hK => ?_) AllReadyH.nil
    go_simp
    refine hK.out _ _ trivial (fun hHeld => ?_)
    clear hK K
    try simp only [Act.put, List.setIfInBounds_toArray, List.set_cons_zero, List.set_cons_succ]
    refine wpAnyH_ready (rs := [8]) (by kernel_rfl) (by simp) ?_
    refine AllReadyH.cons rfl (fun K hK => ?_) AllReadyH.nil
    refine step_append_run rfl (.tmp 8) (.tmp 11) 28 28 rfl _ _ _ _ rfl rfl HRUN.out ?_
    refine hK.out _ _ trivial (fun hHeld => ?_)
    clear hK K
    try simp only [Act.put, List.setIfInBounds_toArray, List.set_cons_zero, List.set_cons_succ]
    refine wpAnyH_ready (rs := [10]) (by kernel_rfl) (by simp) ?_
    refine AllReadyH.cons rfl (fun K hK => ?_) AllReadyH.nil
    refine step_append_run rfl (.tmp 12) (.tmp 13) 28 9 rfl _ _ _ _ rfl rfl HRUN4.out ?_
    refine hK.out _ _ trivial (fun hHeld => ?_)
    clear hK K
    try simp only [Act.put, List.setIfInBounds_toArray, List.set_cons_zero, List.set_cons_succ]
    refine wpAnyH_take (i := 11) (v := ?v10) rfl (by kernel_rfl) (by kernel_rfl) (by kernel_rfl) (fun _ _ _ h => h) (Or.inl ⟨by rfl, ?hy10⟩) (by assumption) ?rest10
    case hy10 => intro w hSw; (try dsimp only at hSw); go_simp; (try with_reducible rfl)
    try simp only [Act.put, List.setIfInBounds_toArray, List.set_cons_zero, List.set_cons_succ]
    refine wpAnyH_take (i := 12) (v := ?v11) rfl (by kernel_rfl) (by kernel_rfl) (by kernel_rfl) (fun _ _ _ h => h) (Or.inl ⟨by rfl, ?hy11⟩) (by assumption) ?rest11
    case hy11 => intro w hSw; (try dsimp only at hSw); go_simp; (try with_reducible rfl)
    try simp only [Act.put, List.setIfInBounds_toArray, List.set_cons_zero, List.set_cons_succ]
    refine wpAnyH_ready (rs := [13]) (by kernel_rfl) (by simp) ?_
    refine AllReadyH.cons rfl (fun K hK => ?_) AllReadyH.nil
    go_simp
    refine hK.out _ _ trivial (fun hHeld => ?_)
    clear hK K
    try simp only [Act.put, List.setIfInBounds_toArray, List.set_cons_zero, List.set_cons_succ]
    refine wpAnyH_done (by kernel_rfl) ?_ _
    go_wp2_with fail
    go_end0
    exact ⟨rfl, HFIN.out⟩
  exact AllReadyH.nil

set_option maxRecDepth 100000 in
set_option maxHeartbeats 1000000 in
theorem xid_any (p : Nat) (ao : Option Addr) (cap : Nat) (bs id : List UInt8) (bad : Bool) (w : World) (h : XWAt w p ao cap bs bad) (h32 : id.length = 32) (hlen : bs.length + 32 ≤ 140737488355328) :
    Calls Try.prog 13 #[.pointer (some ⟨p, 0, none⟩), .agg (bv id).toArray] w fun e w' => e = .returned (.tuple #[]) ∧ XPost w p ao (bs ++ id) bad w' := by
  have hF0 : Fr (fun _ => False) w (w.alloc (.cells (bv id).toArray 33)) := (Fr.refl _ _).alloc _
  have hX := h.fr hF0 (fun e => e) (fun _ _ e => e)
  have hsrc : BsAt ((w.alloc (.cells (bv id).toArray 33)).drew) (some ⟨w.heap.size, 0, none⟩) id := Or.inr ⟨w.heap.size, 0, rfl, fun j hj => by
    have hb : ((w.alloc (.cells (bv id).toArray 33)).drew).heap[w.heap.size]? = some (.cells (bv id).toArray 33 (0, 0)) := heap_new rfl
    rw [Nat.zero_add]
    exact cellOfHeap hb j (by simp [bv, hj])⟩
  obtain ⟨ao3, cap3, w3, hrun, hrow3, hF3, hao3⟩ := app_row ((w.alloc (.cells (bv id).toArray 33)).drew) 28 ao cap bs id hX.row.drew _ (hsrc.src 32) (by omega)
  have c0 := hX.c0
  have hpl := hX.lt
  have hap : ¬ blk ao p := h.apart
  have hb3 := (hF3.block p hpl hap).trans hX.box
  have hc3 : w3.cell? ⟨p, 0, none⟩ = some (.slice ao bs.length cap) := cellOfHeap hb3 0 rfl
  have hz3 := frozen_of_row w3 p 0 _ _ hb3
  have HFIN := hideIt (show XPost w p ao (bs ++ id) bad (w3.setCell ⟨p, 0, none⟩ (.slice ao3 (bs.length + 32) cap3)) by
    have := h.laid (((hF0.mono (S' := fun k => k = p ∨ blk ao k) (fun _ e => e.elim)).drew).trans hF3 (fun _ _ e => Or.inr e)) hb3 hrow3 (new_or hF0.size hao3)
    rw [show (bs ++ id).length = bs.length + 32 by simp [h32]] at this
    exact this)
  rw [h32] at hrun
  have HRUN := hideIt hrun
  clear hrun hrow3 hF3 hao3 hsrc hF0 hX hb3
  generalize (bv id).toArray = V at *
  go_enter Try.func13, Try.ntmps13
  go_wp2_with fail
  refine wp_region_held_drew (S := fun _ => True) (by kernel_rfl) trivial (fun hHeld => ?_)
  refine wpAnyH_take (i := 0) (v := ?v12) rfl (by kernel_rfl) (by kernel_rfl) (by kernel_rfl) (fun _ _ _ h => h) (Or.inl ⟨by rfl, ?hy12⟩) (by assumption) ?rest12
  case hy12 => intro w hSw; (try dsimp only at hSw); go_simp; (try with_reducible rfl)
  try simp only [Act.put, List.setIfInBounds_toArray, List.set_cons_zero, List.set_cons_succ]
  refine wpAnyH_take (i := 1) (v := ?v13) rfl (by kernel_rfl) (by kernel_rfl) (by kernel_rfl) (fun _ _ _ h => h) (Or.inl ⟨by rfl, ?hy13⟩) (by assumption) ?rest13
  case hy13 => intro w hSw; (try dsimp only at hSw); go_simp; (try with_reducible rfl)
  try simp only [Act.put, List.setIfInBounds_toArray, List.set_cons_zero, List.set_cons_succ]
  refine wpAnyH_take (i := 2) (v := ?v14) rfl (by kernel_rfl) (by kernel_rfl) (by kernel_rfl) (fun _ _ _ h => h) (Or.inl ⟨by rfl, ?hy14⟩) (by assumption) ?rest14
  case hy14 => intro w hSw; (try dsimp only at hSw); go_simp; (try with_reducible rfl)
  try simp only [Act.put, List.setIfInBounds_toArray, List.set_cons_zero, List.set_cons_succ]
  refine wpAnyH_take (i := 3) (v := ?v15) rfl (by kernel_rfl) (by kernel_rfl) (by kernel_rfl) (fun _ _ _ h => h) (Or.inl ⟨by rfl, ?hy15⟩) (by assumption) ?rest15
  case hy15 => intro w hSw; (try dsimp only at hSw); go_simp; (try with_reducible rfl)
  try simp only [Act.put, List.setIfInBounds_toArray, List.set_cons_zero, List.set_cons_succ]
  refine wpAnyH_take (i := 5) (v := ?v16) rfl (by kernel_rfl) (by kernel_rfl) (by kernel_rfl) (fun _ _ _ h => h) (Or.inl ⟨by rfl, ?hy16⟩) (by assumption) ?rest16
  case hy16 => intro w hSw; (try dsimp only at hSw); go_simp; (try with_reducible rfl)
  try simp only [Act.put, List.setIfInBounds_toArray, List.set_cons_zero, List.set_cons_succ]
  refine wpAnyH_ready (rs := [4]) (by kernel_rfl) (by simp) ?_
  refine AllReadyH.cons rfl (fun K hK => ?_) AllReadyH.nil
  go_simp
  refine hK.out _ _ trivial (fun hHeld => ?_)
  clear hK K
  try simp only [Act.put, List.setIfInBounds_toArray, List.set_cons_zero, List.set_cons_succ]
  refine wpAnyH_ready (rs := [6]) (by kernel_rfl) (by simp) ?_
  refine AllReadyH.cons rfl (fun K hK => ?_) AllReadyH.nil
  refine step_append_run rfl (.tmp 8) (.tmp 9) 28 28 rfl _ _ _ _ rfl rfl HRUN.out ?_
  refine hK.out _ _ trivial (fun hHeld => ?_)
  clear hK K
  try simp only [Act.put, List.setIfInBounds_toArray, List.set_cons_zero, List.set_cons_succ]
  refine wpAnyH_take (i := 7) (v := ?v17) rfl (by kernel_rfl) (by kernel_rfl) (by kernel_rfl) (fun _ _ _ h => h) (Or.inl ⟨by rfl, ?hy17⟩) (by assumption) ?rest17
  case hy17 => intro w hSw; (try dsimp only at hSw); go_simp; (try with_reducible rfl)
  try simp only [Act.put, List.setIfInBounds_toArray, List.set_cons_zero, List.set_cons_succ]
  refine wpAnyH_take (i := 8) (v := ?v18) rfl (by kernel_rfl) (by kernel_rfl) (by kernel_rfl) (fun _ _ _ h => h) (Or.inl ⟨by rfl, ?hy18⟩) (by assumption) ?rest18
  case hy18 => intro w hSw; (try dsimp only at hSw); go_simp; (try with_reducible rfl)
  try simp only [Act.put, List.setIfInBounds_toArray, List.set_cons_zero, List.set_cons_succ]
  refine wpAnyH_ready (rs := [9]) (by kernel_rfl) (by simp) ?_
  refine AllReadyH.cons rfl (fun K hK => ?_) AllReadyH.nil
  go_simp
  refine hK.out _ _ trivial (fun hHeld => ?_)
  clear hK K
  try simp only [Act.put, List.setIfInBounds_toArray, List.set_cons_zero, List.set_cons_succ]
  refine wpAnyH_done (by kernel_rfl) ?_ _
  go_wp2_with fail
  go_end0
  exact ⟨rfl, HFIN.out⟩

theorem xout_bad (p : Nat) (ao : Option Addr) (cap : Nat) (bs : List UInt8) (w : World) (h : XWAt w p ao cap bs true) : Calls Try.prog 17 #[.pointer (some ⟨p, 0, none⟩)] w fun e w' => e = .returned (.tuple #[.slice none 0 0, .int .i64 5]) ∧ w' = w := by
  have c1 := h.c1
  go_enter Try.func17, Try.ntmps17
  go_wp2
  go_ret2
  exact ⟨rfl, rfl⟩

theorem xout_ok (p : Nat) (ao : Option Addr) (cap : Nat) (bs : List UInt8) (w : World) (h : XWAt w p ao cap bs false) (hb : bs.length ≤ 140737488355328) :
    Calls Try.prog 17 #[.pointer (some ⟨p, 0, none⟩)] w fun e w' => ∃ ao' cap', e = .returned (.tuple #[.slice ao' bs.length cap', .int .i64 0]) ∧ Row w' 5 ao' cap' bs ∧ Fr (fun _ => False) w w' ∧ ∀ k, blk ao' k → w.heap.size ≤ k := by
  have c1 := h.c1
  have c0 := h.c0
  have hpl := h.lt
  have h1 : BsAt (w.alloc (.cells #[] 5)) ao bs := h.row.bs.fr ((Fr.refl (fun _ => False) w).alloc _) (fun _ _ _ e => e)
  obtain ⟨ao', cap', w1, hrun, hrow, hf, hao⟩ := app_row (w.alloc (.cells #[] 5)) 28 (some ⟨w.heap.size, 0, none⟩) 0 [] bs (World.ownsRow_made w #[] 0 (Nat.zero_le _) (by decide) rfl) _ (h1.src cap) (by simpa using hb)
  have HR := hideIt hrun
  clear hrun
  go_enter Try.func17, Try.ntmps17
  go_wp2_with (first | (at_builtin; refine wpList_append_run _ rfl (.tmp 8) (.tmp 12) 28 28 rfl _ _ _ _ rfl rfl HR.out ?_))
  go_ret2
  refine ⟨ao', cap', rfl, hrow, (((Fr.refl (fun _ => False) w).alloc _).trans (hf.mono (S' := fun k => k = w.heap.size) ?_) ?_), ?_⟩
  · rintro k ⟨x, e1, e2⟩
    obtain rfl := Option.some.inj e1
    exact e2.symm
  · intro i hi e
    omega
  · rintro k ⟨x, e1, e2⟩
    rcases hao with rfl | rfl
    · obtain rfl := Option.some.inj e1
      simp only at e2
      omega
    · obtain rfl := Option.some.inj e1
      simp at e2
      omega

end Go.Proofs.Yteihmonafdnicaa
