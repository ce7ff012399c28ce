/- The reader's ID. -/
import Derived.Test.YteihmonafdnicaaY
import Derived.Deep.MidRow
namespace Go.Proofs.Yteihmonafdnicaa
open Go.RowKit Go.IntWalk
set_option linter.unusedSimpArgs false
set_option linter.unusedVariables false

/-- copy, by its run, as one step of a region that draws its order. -/
theorem step_copy_run {P : Program} {ops : Array Oper} {o : Oper} {a : Act} {w : World} {K : Act → World → Prop} {Q : Exit → Act → World → Prop} {E : Prop}
    (hg : o.guard = none) (s x : Operand) (t tx : TypeId) (hop : o.op = Op.call { callee := Callee.builtin Builtin.copy, args := #[s, x], argTypes := #[t, tx] })
    (v y v' : Value) (w' : World) (hs : a.eval s = v) (hx : a.eval x = y) (hrun : (Builtin.copy_ #[t, tx] o.type #[v, y]).run P w = .ok v' w') (hK : K (a.put o.dst v') w') :
    if Region.wanted o (yielded ops a.tmps) = true then Oper.wp P o a w K Q else E := by
  have hw : Region.wanted o (yielded ops a.tmps) = true := by simp [Region.wanted, hg]
  rw [if_pos hw]
  unfold Oper.wp
  simp [execOp, hop, resolve, invoke, builtin, hs, hx, hrun, Result.andThen]
  exact hK

theorem RAt.drew {w : World} {p t : Nat} {ao : Option Addr} {cap : Nat} {bs : List UInt8} {at_ er ea : Int} (h : RAt w p t ao cap bs at_ er ea) : RAt w.drew p t ao cap bs at_ er ea := h.fr ((Fr.refl (fun _ => False) w).drew) (fun e => e) (fun _ _ e => e)

theorem rid1_bad (p t a d : Nat) (ao : Option Addr) (cap : Nat) (bs : List UInt8) (at_ : Nat) (er ea : Int) (w : World) (h : RAt w p t ao cap bs at_ er ea) (hb : bs.length ≤ 140737488355328) (hat : at_ ≤ bs.length) (hlt : bs.length < at_ + 32)
    (ha : w.cell? ⟨a, 0, none⟩ = some (.pointer (some ⟨p, 0, none⟩))) :
    Calls Try.prog 62 #[.pointer (some ⟨a, 0, none⟩), .pointer (some ⟨d, 0, none⟩)] w fun e w' => e = .panicked (gu 4 bs.length) ∧ ∃ k, w' = w.drewN k := by
  have hc := h.c
  have h1 := h.tp.c1
  have HB := hideIt (show Calls Try.prog 60 #[.pointer (some ⟨p, 0, none⟩), .int .i64 at_, .int .i64 32] w.drew fun e w' => (e = .panicked (gu 4 bs.length) ∧ ∃ k, w' = w.drew.drewN k) ∨ (e = .returned (.int .i64 0) ∧ w' = w.drew ∧ Hid False) from
    (behind_bad p t ao cap bs at_ er ea at_ 32 w.drew h.drew hb (by omega) (by omega) (by omega) (by omega)).mono fun _ _ hh => Or.inl hh)
  go_enter Try.func62, Try.ntmps62
  go_wp2_with fail
  go_region_held2 (fun w' => w'.cell? ⟨a, 0, none⟩ = some (.pointer (some ⟨p, 0, none⟩)) ∧ w'.cell? ⟨p, 0, none⟩ = some (.pointer (some ⟨t, 0, none⟩)) ∧ w'.cell? ⟨t, 1, none⟩ = some (.int .i64 at_)) (go_keep)
    (first | (go_at_call 60; refine Calls.mono HB.out ?_; rintro e w' (⟨rfl, k, rfl⟩ | ⟨rfl, rfl, hF⟩); exact ⟨rfl, rfl, 1 + k, drewN_drewN w 1 k⟩; skip))
  all_goals exact hF.out.elim

theorem Try.infoU8s : (Try.prog.info? 5).map (·.size) = some 1 := by kernel_rfl

set_option maxRecDepth 100000 in
set_option maxHeartbeats 1000000 in
theorem rid1_ok (p t a d : Nat) (ao : Option Addr) (cap : Nat) (bs : List UInt8) (at_ : Nat) (er ea : Int) (cur : Array Value) (w : World) (h : RAt w p t ao cap bs at_ er ea) (hb : bs.length ≤ 140737488355328) (hle : at_ + 32 ≤ bs.length)
    (ha : w.cell? ⟨a, 0, none⟩ = some (.pointer (some ⟨p, 0, none⟩))) (hd : w.heap[d]? = some (.cells cur 33 (0, 0))) (hcur : cur.size = 32) (hda : d ≠ a) (hdp : d ≠ p) (hdt : d ≠ t) (hdg : ¬ blk ao d) :
    Calls Try.prog 62 #[.pointer (some ⟨a, 0, none⟩), .pointer (some ⟨d, 0, none⟩)] w fun e w' => e = .returned (.int .i64 (at_ + 32 : Nat)) ∧ w'.heap[d]? = some (.cells (bv ((bs.drop at_).take 32)).toArray 33 (0, 0)) ∧ Fr (fun k => k = d) w w' := by
  have hc := h.c
  have h0 := h.tp.c0
  have h1 := h.tp.c1
  obtain ⟨g, rfl⟩ : ∃ g, ao = some ⟨g, 0, none⟩ := by
    rcases h.tp.row.form with ⟨_, rfl, _⟩ | ⟨g, _, rfl, _⟩
    · simp at hle
    · exact ⟨g, rfl⟩
  have hcap : bs.length ≤ cap ∧ cap ≤ maxLen := by
    rcases h.tp.row.form with ⟨e, _⟩ | ⟨_, _, _, _, h1, h2, _⟩
    · cases e
    · exact ⟨h1, h2⟩
  have hcm := hcap.2
  have hcl := hcap.1
  unfold maxLen at hcm
  have hxl : (bv ((bs.drop at_).take 32)).length = 32 := by rw [bv_length]; simp; omega
  have hsub : ∀ j v, (bv ((bs.drop at_).take 32))[j]? = some v → w.cell? ((⟨g, at_, none⟩ : Addr).add j) = some v := fun j v hv => by
    have hj : j < ((bs.drop at_).take 32).length := by have := (List.getElem?_eq_some_iff.1 hv).1; rwa [bv_length] at this
    rw [bv_get _ _ hj] at hv
    obtain rfl := Option.some.inj hv
    rw [Addr.add_lit]
    rcases BsAt.sub h.tp.row at_ 32 hle with ⟨e, _⟩ | ⟨b', o', e, hcc⟩
    · cases e
    · obtain ⟨rfl, rfl⟩ : g = b' ∧ at_ = o' := by simpa using e
      exact hcc j hj
  have hrun := fun k => run_copy_row (P := Try.prog) (w.drewN k) 28 28 3 5 d 0 32 32 ⟨g, at_, none⟩ 32 (cap - at_) cur 33 (bv ((bs.drop at_).take 32)) Try.underlying28 Try.infoU8s hd (by rw [hxl]; rfl) hsub (by rw [hxl, hcur]; exact Nat.le_refl _) (bv_one _)
  have e32 : ((cur.toList.take 0 ++ bv ((bs.drop at_).take 32) ++ cur.toList.drop (0 + (bv ((bs.drop at_).take 32)).length)).toArray) = (bv ((bs.drop at_).take 32)).toArray := by
    have hdr : cur.toList.drop (0 + 32) = [] := List.drop_of_length_le (by rw [Array.length_toList, hcur]; exact Nat.le_refl _)
    rw [hxl, hdr]
    simp
  rw [e32, hxl] at hrun
  have HR := hideIt hrun
  have HF := hideIt (show ∀ k, ((w.drewN k).setRow d (bv ((bs.drop at_).take 32)).toArray).heap[d]? = some (.cells (bv ((bs.drop at_).take 32)).toArray 33 (0, 0)) ∧ Fr (fun k => k = d) w ((w.drewN k).setRow d (bv ((bs.drop at_).take 32)).toArray) from fun k =>
    ⟨setRow_heap (w.drewN k) d cur _ 33 _ hd, ((Fr.refl (fun k => k = d) w).drewN k).trans (S' := fun k => k = d) ⟨rfl, rfl, rfl, by simp, fun j _ hj => setRow_other (w.drewN k) d j _ hj⟩ (fun _ _ e => e)⟩)
  have HB := hideIt (fun k => behind_ok p t _ cap bs at_ er ea at_ 32 (w.drewN k) (h.drewN k) hb (by omega) (by omega) (by omega))
  clear hrun hsub hxl e32
  generalize (bv ((bs.drop at_).take 32)).toArray = arr at *
  have hrow : ∀ (q o : Nat) (v : Value), q ≠ d → w.cell? ⟨q, o, none⟩ = some v → ((w.drewN 2).setRow d arr).cell? ⟨q, o, none⟩ = some v := fun q o v hq hv =>
    (World.cell?_of_block (a := ⟨q, o, none⟩) ((HF.out 2).2.block q (block_lt_of_cell hv) hq)).trans hv
  have HK := hideIt (show ((w.drewN 2).setRow d arr).cell? ⟨a, 0, none⟩ = some (.pointer (some ⟨p, 0, none⟩)) ∧ ((w.drewN 2).setRow d arr).cell? ⟨p, 0, none⟩ = some (.pointer (some ⟨t, 0, none⟩)) ∧ ((w.drewN 2).setRow d arr).cell? ⟨t, 0, none⟩ = some (.slice (some ⟨g, 0, none⟩) bs.length cap) ∧ ((w.drewN 2).setRow d arr).cell? ⟨t, 1, none⟩ = some (.int .i64 at_) from
    ⟨hrow a 0 _ (fun e => hda e.symm) ha, hrow p 0 _ (fun e => hdp e.symm) hc, hrow t 0 _ (fun e => hdt e.symm) h0, hrow t 1 _ (fun e => hdt e.symm) h1⟩)
  have hatc : ¬ cap = at_ := by omega
  have s1 : 0 ≤ (at_ : Int) + 32 := by omega
  have s2 : (at_ : Int) + 32 ≤ cap := by omega
  have s3 : at_ ≤ ((at_ : Int) + 32).toNat := by omega
  have s4 : ((at_ : Int) + 32).toNat - at_ = 32 := by omega
  clear hrow
  go_enter Try.func62, Try.ntmps62
  go_wp2_with fail
  go_region_held2 (fun w' => w'.cell? ⟨a, 0, none⟩ = some (.pointer (some ⟨p, 0, none⟩)) ∧ w'.cell? ⟨p, 0, none⟩ = some (.pointer (some ⟨t, 0, none⟩)) ∧ w'.cell? ⟨t, 1, none⟩ = some (.int .i64 at_)) (go_keep)
    (first | (go_at_call 60; refine Calls.mono (HB.out 1) ?_; rintro e w' ⟨rfl, rfl⟩))
  go_wp2_with fail
  refine wp_region_held_drew (S := fun w' => w'.cell? ⟨a, 0, none⟩ = some (.pointer (some ⟨p, 0, none⟩)) ∧ w'.cell? ⟨p, 0, none⟩ = some (.pointer (some ⟨t, 0, none⟩)) ∧ w'.cell? ⟨t, 0, none⟩ = some (.slice (some ⟨g, 0, none⟩) bs.length cap) ∧ w'.cell? ⟨t, 1, none⟩ = some (.int .i64 at_)) (by kernel_rfl) ?_ (fun hHeld => ?_)
  · exact ⟨ha, hc, h0, h1⟩
  refine wpAnyH_take (i := 0) (v := ?v1) rfl (by kernel_rfl) (by kernel_rfl) (by kernel_rfl) (fun _ _ _ h => h) (Or.inl ⟨by rfl, ?hy1⟩) (by assumption) ?rest1
  case hy1 => intro w hSw; (try dsimp only at hSw); go_simp; (try with_reducible rfl)
  try simp only [Act.put, List.setIfInBounds_toArray, List.set_cons_zero, List.set_cons_succ]
  refine wpAnyH_take (i := 1) (v := ?v2) rfl (by kernel_rfl) (by kernel_rfl) (by kernel_rfl) (fun _ _ _ h => h) (Or.inl ⟨by rfl, ?hy2⟩) (by assumption) ?rest2
  case hy2 => intro w hSw; (try dsimp only at hSw); go_simp; (try with_reducible rfl)
  try simp only [Act.put, List.setIfInBounds_toArray, List.set_cons_zero, List.set_cons_succ]
  refine wpAnyH_take (i := 2) (v := ?v3) rfl (by kernel_rfl) (by kernel_rfl) (by kernel_rfl) (fun _ _ _ h => h) (Or.inl ⟨by rfl, ?hy3⟩) (by assumption) ?rest3
  case hy3 => intro w hSw; (try dsimp only at hSw); go_simp; (try with_reducible rfl)
  try simp only [Act.put, List.setIfInBounds_toArray, List.set_cons_zero, List.set_cons_succ]
  refine wpAnyH_take (i := 3) (v := ?v4) rfl (by kernel_rfl) (by kernel_rfl) (by kernel_rfl) (fun _ _ _ h => h) (Or.inl ⟨by rfl, ?hy4⟩) (by assumption) ?rest4
  case hy4 => intro w hSw; (try dsimp only at hSw); go_simp; (try with_reducible rfl)
  try simp only [Act.put, List.setIfInBounds_toArray, List.set_cons_zero, List.set_cons_succ]
  refine wpAnyH_take (i := 4) (v := ?v5) rfl (by kernel_rfl) (by kernel_rfl) (by kernel_rfl) (fun _ _ _ h => h) (Or.inl ⟨by rfl, ?hy5⟩) (by assumption) ?rest5
  case hy5 => intro w hSw; (try dsimp only at hSw); go_simp; (try with_reducible rfl)
  try simp only [Act.put, List.setIfInBounds_toArray, List.set_cons_zero, List.set_cons_succ]
  refine wpAnyH_take (i := 5) (v := ?v6) rfl (by kernel_rfl) (by kernel_rfl) (by kernel_rfl) (fun _ _ _ h => h) (Or.inl ⟨by rfl, ?hy6⟩) (by assumption) ?rest6
  case hy6 => intro w hSw; (try dsimp only at hSw); go_simp; (try with_reducible rfl)
  try simp only [Act.put, List.setIfInBounds_toArray, List.set_cons_zero, List.set_cons_succ]
  refine wpAnyH_take (i := 6) (v := ?v7) rfl (by kernel_rfl) (by kernel_rfl) (by kernel_rfl) (fun _ _ _ h => h) (Or.inl ⟨by rfl, ?hy7⟩) (by assumption) ?rest7
  case hy7 => intro w hSw; (try dsimp only at hSw); go_simp; (try with_reducible rfl)
  try simp only [Act.put, List.setIfInBounds_toArray, List.set_cons_zero, List.set_cons_succ]
  refine wpAnyH_take (i := 7) (v := ?v8) rfl (by kernel_rfl) (by kernel_rfl) (by kernel_rfl) (fun _ _ _ h => h) (Or.inl ⟨by rfl, ?hy8⟩) (by assumption) ?rest8
  case hy8 => intro w hSw; (try dsimp only at hSw); go_simp; (try with_reducible rfl)
  try simp only [Act.put, List.setIfInBounds_toArray, List.set_cons_zero, List.set_cons_succ]
  refine wpAnyH_take (i := 8) (v := ?v9) rfl (by kernel_rfl) (by kernel_rfl) (by kernel_rfl) (fun _ _ _ h => h) (Or.inl ⟨by rfl, ?hy9⟩) (by assumption) ?rest9
  case hy9 => intro w hSw; (try dsimp only at hSw); go_simp; (try with_reducible rfl)
  try simp only [Act.put, List.setIfInBounds_toArray, List.set_cons_zero, List.set_cons_succ]
  refine wpAnyH_take (i := 9) (v := ?v10) rfl (by kernel_rfl) (by kernel_rfl) (by kernel_rfl) (fun _ _ _ h => h) (Or.inl ⟨by rfl, ?hy10⟩) (by assumption) ?rest10
  case hy10 => intro w hSw; (try dsimp only at hSw); go_simp; (try with_reducible rfl)
  try simp only [Act.put, List.setIfInBounds_toArray, List.set_cons_zero, List.set_cons_succ]
  refine wpAnyH_take (i := 10) (v := ?v11) rfl (by kernel_rfl) (by kernel_rfl) (by kernel_rfl) (fun _ _ _ h => h) (Or.inl ⟨by rfl, ?hy11⟩) (by assumption) ?rest11
  case hy11 => intro w hSw; (try dsimp only at hSw); go_simp; (try with_reducible rfl)
  try simp only [Act.put, List.setIfInBounds_toArray, List.set_cons_zero, List.set_cons_succ]
  refine wpAnyH_take (i := 11) (v := ?v12) rfl (by kernel_rfl) (by kernel_rfl) (by kernel_rfl) (fun _ _ _ h => h) (Or.inl ⟨by rfl, ?hy12⟩) (by assumption) ?rest12
  case hy12 => intro w hSw; (try dsimp only at hSw); go_simp; (try with_reducible rfl)
  try simp only [Act.put, List.setIfInBounds_toArray, List.set_cons_zero, List.set_cons_succ]
  refine wpAnyH_take (i := 12) (v := ?v13) rfl (by kernel_rfl) (by kernel_rfl) (by kernel_rfl) (fun _ _ _ h => h) (Or.inl ⟨by rfl, ?hy13⟩) (by assumption) ?rest13
  case hy13 => intro w hSw; (try dsimp only at hSw); go_simp; (try with_reducible rfl)
  try simp only [Act.put, List.setIfInBounds_toArray, List.set_cons_zero, List.set_cons_succ]
  refine wpAnyH_take (i := 13) (v := ?v14) rfl (by kernel_rfl) (by kernel_rfl) (by kernel_rfl) (fun _ _ _ h => h) (Or.inl ⟨by rfl, ?hy14⟩) (by assumption) ?rest14
  case hy14 => intro w hSw; (try dsimp only at hSw); go_simp; (try with_reducible rfl)
  try simp only [Act.put, List.setIfInBounds_toArray, List.set_cons_zero, List.set_cons_succ]
  refine wpAnyH_take (i := 14) (v := ?v15) rfl (by kernel_rfl) (by kernel_rfl) (by kernel_rfl) (fun _ _ _ h => h) (Or.inl ⟨by rfl, ?hy15⟩) (by assumption) ?rest15
  case hy15 => intro w hSw; (try dsimp only at hSw); go_simp; (try with_reducible rfl)
  try simp only [Act.put, List.setIfInBounds_toArray, List.set_cons_zero, List.set_cons_succ]
  refine wpAnyH_take (i := 15) (v := ?v16) rfl (by kernel_rfl) (by kernel_rfl) (by kernel_rfl) (fun _ _ _ h => h) (Or.inl ⟨by rfl, ?hy16⟩) (by assumption) ?rest16
  case hy16 => intro w hSw; (try dsimp only at hSw); go_simp; (try with_reducible rfl)
  try simp only [Act.put, List.setIfInBounds_toArray, List.set_cons_zero, List.set_cons_succ]
  refine wpAnyH_ready (rs := [16]) (by kernel_rfl) (by simp) ?_
  refine AllReadyH.cons rfl (fun K hK => ?_) AllReadyH.nil
  go_simp
  refine hK.out _ _ ?_ (fun hHeld => ?_)
  · exact ⟨ha, hc, h0, h1⟩
  clear hK K
  try simp only [Act.put, List.setIfInBounds_toArray, List.set_cons_zero, List.set_cons_succ]
  refine wpAnyH_ready (rs := [17]) (by kernel_rfl) (by simp) ?_
  refine AllReadyH.cons rfl (fun K hK => ?_) AllReadyH.nil
  refine step_copy_run rfl (.tmp 13) (.tmp 29) 28 28 rfl _ _ _ _ rfl rfl (HR.out 2) ?_
  refine hK.out _ _ ?_ (fun hHeld => ?_)
  · exact HK.out
  clear hK K
  try simp only [Act.put, List.setIfInBounds_toArray, List.set_cons_zero, List.set_cons_succ]
  refine wpAnyH_done (by kernel_rfl) ?_ _
  go_wp2_with fail
  go_ret
  exact ⟨by simp, (HF.out 2).1, (HF.out 2).2⟩

end Go.Proofs.Yteihmonafdnicaa
