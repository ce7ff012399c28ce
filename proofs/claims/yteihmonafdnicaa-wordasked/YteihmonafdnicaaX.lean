/- The writer's Text and ID. -/
import Derived.Test.YteihmonafdnicaaV
import Derived.Test.YteihmonafdnicaaK
namespace Go.Proofs.Yteihmonafdnicaa
open Go.RowKit Go.IntWalk
set_option linter.unusedSimpArgs false
set_option linter.unusedVariables false

theorem wset_old {w wr : World} {t k : Nat} {a b : Option Addr} (hs : w.heap.size ≤ wr.heap.size) (hk : k < w.heap.size) (hb : b = a ∨ ∀ k, blk b k → w.heap.size ≤ k) (h : ¬ wset t a k) : ¬ wset t b k := by
  rintro (e | e)
  · exact h (Or.inl e)
  · rcases hb with rfl | hb
    · exact h (Or.inr e)
    · have := hb k e; omega

set_option maxRecDepth 100000 in
set_option maxHeartbeats 4000000 in
theorem wtext1_any (p t a b : Nat) (ao : Option Addr) (cap : Nat) (bs : List UInt8) (at_ er ea : Int) (x : ByteArray) (w : World) (h : WAt w p t ao cap bs at_ er ea) (hb : bs.length + 20 + x.size ≤ 140737488355328)
    (ha : w.cell? ⟨a, 0, none⟩ = some (.pointer (some ⟨p, 0, none⟩))) (hbx : w.cell? ⟨b, 0, none⟩ = some (.string x)) (hS : ¬ wset t ao a) (hS2 : ¬ wset t ao b) :
    Calls Try.prog 65 #[.pointer (some ⟨a, 0, none⟩), .pointer (some ⟨b, 0, none⟩)] w fun e w' =>
      e = .returned (.int .i64 (bs ++ (sevens x.size ++ x.data.toList)).length) ∧ ∃ ao' cap', WAt w' p t ao' cap' (bs ++ (sevens x.size ++ x.data.toList)) at_ er ea ∧ Fr (wset t ao) w w' ∧ (ao' = ao ∨ ∀ k, blk ao' k → w.heap.size ≤ k) := by
  have h9 := sevens_nine (n := x.size) (by omega)
  have hal := block_lt_of_cell ha
  have hbl := block_lt_of_cell hbx
  have HN := hideIt (number_nat p t ao cap bs at_ er ea x.size w h (by omega) (by omega))
  generalize hfs : bs ++ (sevens x.size ++ x.data.toList) = fs
  have HFS := hideIt hfs
  clear hfs
  go_enter Try.func65, Try.ntmps65
  go_wp2_with fail
  refine Calls.mono HN.out ?_
  rintro e w1 ⟨rfl, ao1, cap1, hW, hF, hao⟩
  have ha1 : w1.cell? ⟨a, 0, none⟩ = _ := (World.cell?_of_block (a := ⟨a, 0, none⟩) (hF.block a hal hS)).trans ha
  have hb1 : w1.cell? ⟨b, 0, none⟩ = _ := (World.cell?_of_block (a := ⟨b, 0, none⟩) (hF.block b hbl hS2)).trans hbx
  have hlen : (bs ++ sevens x.size).length ≤ bs.length + 9 := by simp; omega
  have HL := hideIt (List.append_assoc bs (sevens x.size) x.data.toList)
  generalize bs ++ sevens x.size = cs at hW hlen HL
  have hsrc : Src Try.prog 1 9 (.string x) x.data.toList.length (bv x.data.toList) w1.drew := by have := Src.ofString (P := Try.prog) w1.drew Try.underlying9 x; simpa [byteCells, bv] using this
  obtain ⟨ao2, cap2, w2, hrun, hrow, hf, hao2⟩ := app_row w1.drew 9 ao1 cap1 cs x.data.toList hW.tp.row.drew (.string x) hsrc (by simp; omega)
  have hf2 : Fr (blk ao1) w1 w2 := (Fr.refl (blk ao1) w1).drew.trans hf (fun _ _ e => e)
  have hao3 : ao2 = ao1 ∨ ∀ k, blk ao2 k → w1.heap.size ≤ k := hao2.imp id fun e k ⟨y, e1, e2⟩ => by
    rw [e] at e1
    obtain rfl := Option.some.inj e1
    simp at e2
    omega
  have hst := hW.stored hf2 hrow hao3
  have hal1 := block_lt_of_cell ha1
  have hbl1 := block_lt_of_cell hb1
  have hSa : ¬ wset t ao1 a := wset_old hF.size hal hao hS
  have hSb : ¬ wset t ao1 b := wset_old hF.size hbl hao hS2
  have ha2 : w2.cell? ⟨a, 0, none⟩ = some (.pointer (some ⟨p, 0, none⟩)) := (World.cell?_of_block (a := ⟨a, 0, none⟩) (hf2.block a hal1 (fun e => hSa (Or.inr e)))).trans ha1
  have hb2 : w2.cell? ⟨b, 0, none⟩ = some (.string x) := (World.cell?_of_block (a := ⟨b, 0, none⟩) (hf2.block b hbl1 (fun e => hSb (Or.inr e)))).trans hb1
  have hc1 := hW.c
  have h01 := hW.tp.c0
  have hc2 : w2.cell? ⟨p, 0, none⟩ = some (.pointer (some ⟨t, 0, none⟩)) := (World.cell?_of_block (a := ⟨p, 0, none⟩) (hf2.block p hW.lt hW.apart)).trans hc1
  have h02 : w2.cell? ⟨t, 0, none⟩ = some (.slice ao1 cs.length cap1) := (World.cell?_of_block (a := ⟨t, 0, none⟩) (hf2.block t hW.tp.lt hW.tp.apart)).trans h01
  have hz2 : w2.frozen? ⟨t, 0, none⟩ = false := (World.frozen?_of_block (a := ⟨t, 0, none⟩) (hf2.block t hW.tp.lt hW.tp.apart)).trans (hW.tp.fz 0)
  have elen : (cs ++ x.data.toList).length = cs.length + x.size := by simp
  rw [elen] at hst
  have ha3 : (w2.setCell ⟨t, 0, none⟩ (.slice ao2 (cs.length + x.size) cap2)).cell? ⟨a, 0, none⟩ = some (.pointer (some ⟨p, 0, none⟩)) := (World.cell?_of_block (a := ⟨a, 0, none⟩) (hst.2.block a hal1 hSa)).trans ha1
  have hb3 : (w2.setCell ⟨t, 0, none⟩ (.slice ao2 (cs.length + x.size) cap2)).cell? ⟨b, 0, none⟩ = some (.string x) := (World.cell?_of_block (a := ⟨b, 0, none⟩) (hst.2.block b hbl1 hSb)).trans hb1
  have hc3 := hst.1.c
  have h03 := hst.1.tp.c0
  have HR := hideIt hrun
  have HST := hideIt hst
  have HLE := hideIt elen
  clear hrun hst elen hsrc
  rw [show x.data.toList.length = x.size by simp] at HR
  rw [HL.out, HFS.out] at HST HLE h03
  rw [HLE.out] at h03
  go_wp2_with fail
  refine wp_region_held_drew (S := fun w' => w'.cell? ⟨a, 0, none⟩ = some (.pointer (some ⟨p, 0, none⟩)) ∧ w'.cell? ⟨p, 0, none⟩ = some (.pointer (some ⟨t, 0, none⟩)) ∧ w'.cell? ⟨b, 0, none⟩ = some (.string x)) (by kernel_rfl) ?_ (fun hHeld => ?_)
  · exact ⟨ha1, hc1, hb1⟩
  refine wpAnyH_take (i := 0) (v := ?v0) rfl (by kernel_rfl) (by kernel_rfl) (by kernel_rfl) (fun _ _ _ h => h) (Or.inl ⟨by rfl, ?hy0⟩) (by assumption) ?rest0
  case hy0 => intro w hSw; (try dsimp only at hSw); go_simp; (try with_reducible rfl)
  try simp only [Act.put, List.setIfInBounds_toArray, List.set_cons_zero, List.set_cons_succ]
  refine wpAnyH_take (i := 1) (v := ?v1) rfl (by kernel_rfl) (by kernel_rfl) (by kernel_rfl) (fun _ _ _ h => h) (Or.inl ⟨by rfl, ?hy1⟩) (by assumption) ?rest1
  case hy1 => intro w hSw; (try dsimp only at hSw); go_simp; (try with_reducible rfl)
  try simp only [Act.put, List.setIfInBounds_toArray, List.set_cons_zero, List.set_cons_succ]
  refine wpAnyH_take (i := 2) (v := ?v2) rfl (by kernel_rfl) (by kernel_rfl) (by kernel_rfl) (fun _ _ _ h => h) (Or.inl ⟨by rfl, ?hy2⟩) (by assumption) ?rest2
  case hy2 => intro w hSw; (try dsimp only at hSw); go_simp; (try with_reducible rfl)
  try simp only [Act.put, List.setIfInBounds_toArray, List.set_cons_zero, List.set_cons_succ]
  refine wpAnyH_take (i := 3) (v := ?v3) rfl (by kernel_rfl) (by kernel_rfl) (by kernel_rfl) (fun _ _ _ h => h) (Or.inl ⟨by rfl, ?hy3⟩) (by assumption) ?rest3
  case hy3 => intro w hSw; (try dsimp only at hSw); go_simp; (try with_reducible rfl)
  try simp only [Act.put, List.setIfInBounds_toArray, List.set_cons_zero, List.set_cons_succ]
  refine wpAnyH_take (i := 4) (v := ?v4) rfl (by kernel_rfl) (by kernel_rfl) (by kernel_rfl) (fun _ _ _ h => h) (Or.inl ⟨by rfl, ?hy4⟩) (by assumption) ?rest4
  case hy4 => intro w hSw; (try dsimp only at hSw); go_simp; (try with_reducible rfl)
  try simp only [Act.put, List.setIfInBounds_toArray, List.set_cons_zero, List.set_cons_succ]
  refine wpAnyH_take (i := 5) (v := ?v5) rfl (by kernel_rfl) (by kernel_rfl) (by kernel_rfl) (fun _ _ _ h => h) (Or.inl ⟨by rfl, ?hy5⟩) (by assumption) ?rest5
  case hy5 => intro w hSw; (try dsimp only at hSw); go_simp; (try with_reducible rfl)
  try simp only [Act.put, List.setIfInBounds_toArray, List.set_cons_zero, List.set_cons_succ]
  refine wpAnyH_take (i := 6) (v := ?v6) rfl (by kernel_rfl) (by kernel_rfl) (by kernel_rfl) (fun _ _ _ h => h) (Or.inl ⟨by rfl, ?hy6⟩) (by assumption) ?rest6
  case hy6 => intro w hSw; (try dsimp only at hSw); go_simp; (try with_reducible rfl)
  try simp only [Act.put, List.setIfInBounds_toArray, List.set_cons_zero, List.set_cons_succ]
  refine wpAnyH_take (i := 7) (v := ?v7) rfl (by kernel_rfl) (by kernel_rfl) (by kernel_rfl) (fun _ _ _ h => h) (Or.inl ⟨by rfl, ?hy7⟩) (by assumption) ?rest7
  case hy7 => intro w hSw; (try dsimp only at hSw); go_simp; (try with_reducible rfl)
  try simp only [Act.put, List.setIfInBounds_toArray, List.set_cons_zero, List.set_cons_succ]
  refine wpAnyH_take (i := 8) (v := ?v8) rfl (by kernel_rfl) (by kernel_rfl) (by kernel_rfl) (fun _ _ _ h => h) (Or.inl ⟨by rfl, ?hy8⟩) (by assumption) ?rest8
  case hy8 => intro w hSw; (try dsimp only at hSw); go_simp; (try with_reducible rfl)
  try simp only [Act.put, List.setIfInBounds_toArray, List.set_cons_zero, List.set_cons_succ]
  refine wpAnyH_take (i := 9) (v := ?v9) rfl (by kernel_rfl) (by kernel_rfl) (by kernel_rfl) (fun _ _ _ h => h) (Or.inl ⟨by rfl, ?hy9⟩) (by assumption) ?rest9
  case hy9 => intro w hSw; (try dsimp only at hSw); go_simp; (try with_reducible rfl)
  try simp only [Act.put, List.setIfInBounds_toArray, List.set_cons_zero, List.set_cons_succ]
  refine wpAnyH_take (i := 11) (v := ?v11) rfl (by kernel_rfl) (by kernel_rfl) (by kernel_rfl) (fun _ _ _ h => h) (Or.inl ⟨by rfl, ?hy11⟩) (by assumption) ?rest11
  case hy11 => intro w hSw; (try dsimp only at hSw); go_simp; (try with_reducible rfl)
  try simp only [Act.put, List.setIfInBounds_toArray, List.set_cons_zero, List.set_cons_succ]
  refine wpAnyH_ready (rs := [10]) (by kernel_rfl) (by simp) ?_
  refine AllReadyH.cons rfl (fun K hK => ?_) AllReadyH.nil
  go_simp
  refine hK.out _ _ ?_ (fun hHeld => ?_)
  · exact ⟨ha1, hc1, hb1⟩
  clear hK K
  try simp only [Act.put, List.setIfInBounds_toArray, List.set_cons_zero, List.set_cons_succ]
  refine wpAnyH_ready (rs := [12]) (by kernel_rfl) (by simp) ?_
  refine AllReadyH.cons rfl (fun K hK => ?_) AllReadyH.nil
  refine step_append_run rfl (.tmp 17) (.tmp 18) 28 9 rfl _ _ _ _ rfl rfl HR.out ?_
  refine hK.out _ _ ?_ (fun hHeld => ?_)
  · exact ⟨ha2, hc2, hb2⟩
  clear hK K
  try simp only [Act.put, List.setIfInBounds_toArray, List.set_cons_zero, List.set_cons_succ]
  refine wpAnyH_take (i := 13) (v := ?v13) rfl (by kernel_rfl) (by kernel_rfl) (by kernel_rfl) (fun _ _ _ h => h) (Or.inl ⟨by rfl, ?hy13⟩) (by assumption) ?rest13
  case hy13 => intro w hSw; (try dsimp only at hSw); go_simp; (try with_reducible rfl)
  try simp only [Act.put, List.setIfInBounds_toArray, List.set_cons_zero, List.set_cons_succ]
  refine wpAnyH_take (i := 14) (v := ?v14) rfl (by kernel_rfl) (by kernel_rfl) (by kernel_rfl) (fun _ _ _ h => h) (Or.inl ⟨by rfl, ?hy14⟩) (by assumption) ?rest14
  case hy14 => intro w hSw; (try dsimp only at hSw); go_simp; (try with_reducible rfl)
  try simp only [Act.put, List.setIfInBounds_toArray, List.set_cons_zero, List.set_cons_succ]
  refine wpAnyH_ready (rs := [15]) (by kernel_rfl) (by simp) ?_
  refine AllReadyH.cons rfl (fun K hK => ?_) AllReadyH.nil
  go_simp
  refine hK.out _ _ ?_ (fun hHeld => ?_)
  · exact ⟨ha3, hc3, hb3⟩
  clear hK K
  try simp only [Act.put, List.setIfInBounds_toArray, List.set_cons_zero, List.set_cons_succ]
  refine wpAnyH_done (by kernel_rfl) ?_ _
  generalize hw3 : w2.setCell ⟨t, 0, none⟩ (.slice ao2 (cs.length + x.size) cap2) = w3 at *
  go_wp2_with fail
  go_ret
  exact ⟨congrArg Ending.returned (congrArg (Value.int IntKind.i64) (by rw [HLE.out]; simp)), ao2, cap2, HST.out.1, wset_trans hF hao HST.out.2, fresh_trans hF.size hao hao3⟩

theorem wtext_any (p t : Nat) (ao : Option Addr) (cap : Nat) (s : List UInt8 × Bool) (x : ByteArray) (w : World) (h : WOk w p t ao cap s) (hb : s.1.length + 20 + x.size ≤ 140737488355328) :
    Calls Try.prog 45 #[.pointer (some ⟨p, 0, none⟩), .string x] w fun e w' => e = .returned (.tuple #[]) ∧ WPost w p t ao (wText x.data.toList s) w' := by
  obtain ⟨at_, ea, hW⟩ := h
  obtain ⟨bs, bad⟩ := s
  refine wtext_via p t x w _ hW.c hW.lt ?_
  have hlt := hW.tp.lt
  have hrlt : ∀ k, blk ao k → k < w.heap.size := fun k e => hW.tp.row.lt e
  have hno : ∀ k, w.heap.size ≤ k → ¬ wset t ao k := by
    rintro k hk (e | e)
    · omega
    · have := hrlt _ e; omega
  cases bad with
  | true => exact wdo_shut p t _ _ ao cap bs at_ ea w hW
  | false =>
    have hB := hW.boxes (.cells #[.pointer (some ⟨p, 0, none⟩)] 23) (.cells #[.string x] 9)
    rw [show wText x.data.toList (bs, false) = (bs ++ (sevens x.size ++ x.data.toList), false) by simp [wText]]
    exact wdo_ok 65 p t _ ao cap bs _ at_ ea w hW (fun _ => by kernel_rfl) (wtext1_any p t _ _ ao cap bs at_ 0 ea x _ hB hb (cell_box1 w p _ t) (cell_box2 w p _ _ t 0) (hno _ (Nat.le_refl _)) (hno _ (by omega)))

theorem wid_via (p t : Nat) (id : List UInt8) (w : World) (R : World → Prop) (hc : w.cell? ⟨p, 0, none⟩ = some (.pointer (some ⟨t, 0, none⟩))) (hpl : p < w.heap.size)
    (hdo : Calls Try.prog 52 #[.pointer (some ⟨t, 0, none⟩), .func (.func 66) #[] #[.pointer (some ⟨w.heap.size, 0, none⟩), .pointer (some ⟨w.heap.size + 1, 0, none⟩)]] (wboxes w p (.cells (bv id).toArray 33)) fun e w' => e = .returned (.tuple #[]) ∧ R w') :
    Calls Try.prog 46 #[.pointer (some ⟨p, 0, none⟩), .agg (bv id).toArray] w fun e w' => e = .returned (.tuple #[]) ∧ R w' := by
  have hmf : ∀ (fn : Fn) (first cap : Array Value) (w : World), (Instr.makeFunc fn first cap).run Try.prog w = .ok (.func fn first cap) w := fun _ _ _ _ => rfl
  have HD := hideIt hdo
  clear hdo
  generalize (bv id).toArray = arr at *
  go_enter Try.func46, Try.ntmps46
  go_wp2_with (go_at_call 49; refine (wnone_some p t _ ?_).mono ?_; go_simp; rintro e w' ⟨rfl, rfl⟩)
  refine Calls.mono HD.out ?_
  rintro e w' ⟨rfl, hr⟩
  have HR := hideIt hr
  clear hr
  go_wp2_with fail
  go_end0
  exact ⟨rfl, HR.out⟩

set_option maxRecDepth 100000 in
set_option maxHeartbeats 4000000 in
theorem wid1_any (p t a b : Nat) (ao : Option Addr) (cap : Nat) (bs : List UInt8) (at_ er ea : Int) (id : List UInt8) (h32 : id.length = 32) (w : World) (h : WAt w p t ao cap bs at_ er ea) (hb : bs.length + 32 ≤ 140737488355328)
    (ha : w.cell? ⟨a, 0, none⟩ = some (.pointer (some ⟨p, 0, none⟩))) (hbx : ∀ j (hj : j < id.length), w.cell? ⟨b, j, none⟩ = some (.int .u8 id[j].toNat)) (hS : ¬ wset t ao a) :
    Calls Try.prog 66 #[.pointer (some ⟨a, 0, none⟩), .pointer (some ⟨b, 0, none⟩)] w fun e w' =>
      e = .returned (.int .i64 (bs ++ id).length) ∧ ∃ ao' cap', WAt w' p t ao' cap' (bs ++ id) at_ er ea ∧ Fr (wset t ao) w w' ∧ (ao' = ao ∨ ∀ k, blk ao' k → w.heap.size ≤ k) := by
  have hal := block_lt_of_cell ha
  have hsrc := BsAt.src (w := w.drew) (ao := some ⟨b, 0, none⟩) (bs := id) (Or.inr ⟨b, 0, rfl, fun j hj => by rw [Nat.zero_add]; exact hbx j hj⟩) 32
  obtain ⟨ao2, cap2, w2, hrun, hrow, hf, hao2⟩ := app_row w.drew 28 ao cap bs id h.tp.row.drew _ hsrc (by omega)
  have hf2 : Fr (blk ao) w w2 := (Fr.refl (blk ao) w).drew.trans hf (fun _ _ e => e)
  have hao3 : ao2 = ao ∨ ∀ k, blk ao2 k → w.heap.size ≤ k := hao2.imp (fun e => e) fun e k ⟨y, e1, e2⟩ => by
    rw [e] at e1
    obtain rfl := Option.some.inj e1
    simp at e2
    omega
  have hst := h.stored hf2 hrow hao3
  have hc := h.c
  have h0 := h.tp.c0
  have ha2 : w2.cell? ⟨a, 0, none⟩ = some (.pointer (some ⟨p, 0, none⟩)) := (World.cell?_of_block (a := ⟨a, 0, none⟩) (hf2.block a hal (fun e => hS (Or.inr e)))).trans ha
  have hc2 : w2.cell? ⟨p, 0, none⟩ = some (.pointer (some ⟨t, 0, none⟩)) := (World.cell?_of_block (a := ⟨p, 0, none⟩) (hf2.block p h.lt h.apart)).trans hc
  have h02 : w2.cell? ⟨t, 0, none⟩ = some (.slice ao bs.length cap) := (World.cell?_of_block (a := ⟨t, 0, none⟩) (hf2.block t h.tp.lt h.tp.apart)).trans h0
  have hz2 : w2.frozen? ⟨t, 0, none⟩ = false := (World.frozen?_of_block (a := ⟨t, 0, none⟩) (hf2.block t h.tp.lt h.tp.apart)).trans (h.tp.fz 0)
  have elen : (bs ++ id).length = bs.length + 32 := by simp [h32]
  rw [elen] at hst
  have ha3 : (w2.setCell ⟨t, 0, none⟩ (.slice ao2 (bs.length + 32) cap2)).cell? ⟨a, 0, none⟩ = some (.pointer (some ⟨p, 0, none⟩)) := (World.cell?_of_block (a := ⟨a, 0, none⟩) (hst.2.block a hal hS)).trans ha
  have hc3 := hst.1.c
  have h03 := hst.1.tp.c0
  rw [elen] at h03
  rw [h32] at hrun
  have HR := hideIt hrun
  have HST := hideIt hst
  have HLE := hideIt elen
  clear hrun hst elen hsrc hbx hrow
  generalize bs ++ id = fs at *
  go_enter Try.func66, Try.ntmps66
  go_wp2_with fail
  refine wp_region_held_drew (S := fun w' => w'.cell? ⟨a, 0, none⟩ = some (.pointer (some ⟨p, 0, none⟩)) ∧ w'.cell? ⟨p, 0, none⟩ = some (.pointer (some ⟨t, 0, none⟩))) (by kernel_rfl) ?_ (fun hHeld => ?_)
  · exact ⟨ha, hc⟩
  refine wpAnyH_take (i := 0) (v := ?v0) rfl (by kernel_rfl) (by kernel_rfl) (by kernel_rfl) (fun _ _ _ h => h) (Or.inl ⟨by rfl, ?hy0⟩) (by assumption) ?rest0
  case hy0 => intro w hSw; (try dsimp only at hSw); go_simp; (try with_reducible rfl)
  try simp only [Act.put, List.setIfInBounds_toArray, List.set_cons_zero, List.set_cons_succ]
  refine wpAnyH_take (i := 1) (v := ?v1) rfl (by kernel_rfl) (by kernel_rfl) (by kernel_rfl) (fun _ _ _ h => h) (Or.inl ⟨by rfl, ?hy1⟩) (by assumption) ?rest1
  case hy1 => intro w hSw; (try dsimp only at hSw); go_simp; (try with_reducible rfl)
  try simp only [Act.put, List.setIfInBounds_toArray, List.set_cons_zero, List.set_cons_succ]
  refine wpAnyH_take (i := 2) (v := ?v2) rfl (by kernel_rfl) (by kernel_rfl) (by kernel_rfl) (fun _ _ _ h => h) (Or.inl ⟨by rfl, ?hy2⟩) (by assumption) ?rest2
  case hy2 => intro w hSw; (try dsimp only at hSw); go_simp; (try with_reducible rfl)
  try simp only [Act.put, List.setIfInBounds_toArray, List.set_cons_zero, List.set_cons_succ]
  refine wpAnyH_take (i := 3) (v := ?v3) rfl (by kernel_rfl) (by kernel_rfl) (by kernel_rfl) (fun _ _ _ h => h) (Or.inl ⟨by rfl, ?hy3⟩) (by assumption) ?rest3
  case hy3 => intro w hSw; (try dsimp only at hSw); go_simp; (try with_reducible rfl)
  try simp only [Act.put, List.setIfInBounds_toArray, List.set_cons_zero, List.set_cons_succ]
  refine wpAnyH_take (i := 4) (v := ?v4) rfl (by kernel_rfl) (by kernel_rfl) (by kernel_rfl) (fun _ _ _ h => h) (Or.inl ⟨by rfl, ?hy4⟩) (by assumption) ?rest4
  case hy4 => intro w hSw; (try dsimp only at hSw); go_simp; (try with_reducible rfl)
  try simp only [Act.put, List.setIfInBounds_toArray, List.set_cons_zero, List.set_cons_succ]
  refine wpAnyH_take (i := 5) (v := ?v5) rfl (by kernel_rfl) (by kernel_rfl) (by kernel_rfl) (fun _ _ _ h => h) (Or.inl ⟨by rfl, ?hy5⟩) (by assumption) ?rest5
  case hy5 => intro w hSw; (try dsimp only at hSw); go_simp; (try with_reducible rfl)
  try simp only [Act.put, List.setIfInBounds_toArray, List.set_cons_zero, List.set_cons_succ]
  refine wpAnyH_take (i := 6) (v := ?v6) rfl (by kernel_rfl) (by kernel_rfl) (by kernel_rfl) (fun _ _ _ h => h) (Or.inl ⟨by rfl, ?hy6⟩) (by assumption) ?rest6
  case hy6 => intro w hSw; (try dsimp only at hSw); go_simp; (try with_reducible rfl)
  try simp only [Act.put, List.setIfInBounds_toArray, List.set_cons_zero, List.set_cons_succ]
  refine wpAnyH_take (i := 7) (v := ?v7) rfl (by kernel_rfl) (by kernel_rfl) (by kernel_rfl) (fun _ _ _ h => h) (Or.inl ⟨by rfl, ?hy7⟩) (by assumption) ?rest7
  case hy7 => intro w hSw; (try dsimp only at hSw); go_simp; (try with_reducible rfl)
  try simp only [Act.put, List.setIfInBounds_toArray, List.set_cons_zero, List.set_cons_succ]
  refine wpAnyH_take (i := 8) (v := ?v8) rfl (by kernel_rfl) (by kernel_rfl) (by kernel_rfl) (fun _ _ _ h => h) (Or.inl ⟨by rfl, ?hy8⟩) (by assumption) ?rest8
  case hy8 => intro w hSw; (try dsimp only at hSw); go_simp; (try with_reducible rfl)
  try simp only [Act.put, List.setIfInBounds_toArray, List.set_cons_zero, List.set_cons_succ]
  refine wpAnyH_take (i := 9) (v := ?v9) rfl (by kernel_rfl) (by kernel_rfl) (by kernel_rfl) (fun _ _ _ h => h) (Or.inl ⟨by rfl, ?hy9⟩) (by assumption) ?rest9
  case hy9 => intro w hSw; (try dsimp only at hSw); go_simp; (try with_reducible rfl)
  try simp only [Act.put, List.setIfInBounds_toArray, List.set_cons_zero, List.set_cons_succ]
  refine wpAnyH_take (i := 11) (v := ?v11) rfl (by kernel_rfl) (by kernel_rfl) (by kernel_rfl) (fun _ _ _ h => h) (Or.inl ⟨by rfl, ?hy11⟩) (by assumption) ?rest11
  case hy11 => intro w hSw; (try dsimp only at hSw); go_simp; (try with_reducible rfl)
  try simp only [Act.put, List.setIfInBounds_toArray, List.set_cons_zero, List.set_cons_succ]
  refine wpAnyH_ready (rs := [10]) (by kernel_rfl) (by simp) ?_
  refine AllReadyH.cons rfl (fun K hK => ?_) AllReadyH.nil
  go_simp
  refine hK.out _ _ ?_ (fun hHeld => ?_)
  · exact ⟨ha, hc⟩
  clear hK K
  try simp only [Act.put, List.setIfInBounds_toArray, List.set_cons_zero, List.set_cons_succ]
  refine wpAnyH_ready (rs := [12]) (by kernel_rfl) (by simp) ?_
  refine AllReadyH.cons rfl (fun K hK => ?_) AllReadyH.nil
  refine step_append_run rfl (.tmp 13) (.tmp 14) 28 28 rfl _ _ _ _ rfl rfl HR.out ?_
  refine hK.out _ _ ?_ (fun hHeld => ?_)
  · exact ⟨ha2, hc2⟩
  clear hK K
  try simp only [Act.put, List.setIfInBounds_toArray, List.set_cons_zero, List.set_cons_succ]
  refine wpAnyH_take (i := 13) (v := ?v13) rfl (by kernel_rfl) (by kernel_rfl) (by kernel_rfl) (fun _ _ _ h => h) (Or.inl ⟨by rfl, ?hy13⟩) (by assumption) ?rest13
  case hy13 => intro w hSw; (try dsimp only at hSw); go_simp; (try with_reducible rfl)
  try simp only [Act.put, List.setIfInBounds_toArray, List.set_cons_zero, List.set_cons_succ]
  refine wpAnyH_take (i := 14) (v := ?v14) rfl (by kernel_rfl) (by kernel_rfl) (by kernel_rfl) (fun _ _ _ h => h) (Or.inl ⟨by rfl, ?hy14⟩) (by assumption) ?rest14
  case hy14 => intro w hSw; (try dsimp only at hSw); go_simp; (try with_reducible rfl)
  try simp only [Act.put, List.setIfInBounds_toArray, List.set_cons_zero, List.set_cons_succ]
  refine wpAnyH_ready (rs := [15]) (by kernel_rfl) (by simp) ?_
  refine AllReadyH.cons rfl (fun K hK => ?_) AllReadyH.nil
  go_simp
  refine hK.out _ _ ?_ (fun hHeld => ?_)
  · exact ⟨ha3, hc3⟩
  clear hK K
  try simp only [Act.put, List.setIfInBounds_toArray, List.set_cons_zero, List.set_cons_succ]
  refine wpAnyH_done (by kernel_rfl) ?_ _
  generalize hw3 : w2.setCell ⟨t, 0, none⟩ (.slice ao2 (bs.length + 32) cap2) = w3 at *
  go_wp2_with fail
  go_ret
  exact ⟨congrArg Ending.returned (congrArg (Value.int IntKind.i64) (by rw [HLE.out]; simp)), ao2, cap2, HST.out.1, HST.out.2, hao3⟩

theorem wid_any (p t : Nat) (ao : Option Addr) (cap : Nat) (s : List UInt8 × Bool) (id : List UInt8) (h32 : id.length = 32) (w : World) (h : WOk w p t ao cap s) (hb : s.1.length + 32 ≤ 140737488355328) :
    Calls Try.prog 46 #[.pointer (some ⟨p, 0, none⟩), .agg (bv id).toArray] w fun e w' => e = .returned (.tuple #[]) ∧ WPost w p t ao (wID id s) w' := by
  obtain ⟨at_, ea, hW⟩ := h
  obtain ⟨bs, bad⟩ := s
  refine wid_via p t id w _ hW.c hW.lt ?_
  have hlt := hW.tp.lt
  have hrlt : ∀ k, blk ao k → k < w.heap.size := fun k e => hW.tp.row.lt e
  have hno : ∀ k, w.heap.size ≤ k → ¬ wset t ao k := by
    rintro k hk (e | e)
    · omega
    · have := hrlt _ e; omega
  cases bad with
  | true => exact wdo_shut p t _ _ ao cap bs at_ ea w hW
  | false =>
    have hB := hW.boxes (.cells #[.pointer (some ⟨p, 0, none⟩)] 23) (.cells (bv id).toArray 33)
    rw [show wID id (bs, false) = (bs ++ id, false) by simp [wID]]
    exact wdo_ok 66 p t _ ao cap bs _ at_ ea w hW (fun _ => by kernel_rfl) (wid1_any p t _ _ ao cap bs at_ 0 ea id h32 _ hB hb (cell_box1 w p _ t) (fun j hj => (cell_box2 w p _ _ t j).trans (by simp [bv_get id j hj])) (hno _ (Nat.le_refl _)))

end Go.Proofs.Yteihmonafdnicaa
