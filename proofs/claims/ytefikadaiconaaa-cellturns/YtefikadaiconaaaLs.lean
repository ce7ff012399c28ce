/- CellKnown, walked. -/
import Derived.Test.YtefikadaiconaaaLo
import Derived.Test.YtefikadaiconaaaLl
namespace Go.Proofs.Ytefikadaiconaaa
open Go.RowKit Go.IntWalk
set_option linter.unusedSimpArgs false
set_option linter.unusedVariables false

theorem wr_eq (x y : Wr) : decide (x = y) = (x.1.toList == y.1.toList && (x.2.1.toList == y.2.1.toList && x.2.2 == y.2.2)) := by
  obtain ⟨a, b, c⟩ := x
  obtain ⟨a', b', c'⟩ := y
  rw [Bool.eq_iff_iff]
  simp only [decide_eq_true_eq, Bool.and_eq_true, beq_iff_eq, Prod.mk.injEq]
  exact ⟨fun ⟨e1, e2, e3⟩ => ⟨by rw [e1], by rw [e2], e3⟩, fun ⟨e1, e2, e3⟩ => ⟨toList_inj e1, toList_inj e2, e3⟩⟩
theorem eqIn_wr (x y : Wr) (w : World) : (Op.equalIn 10000 52 (.agg #[.string x.1, .string x.2.1, .bool x.2.2]) (.agg #[.string y.1, .string y.2.1, .bool y.2.2])).run Try.prog w = .ok (decide (x = y)) w := by
  have u3 := Try.underlying9
  have a3 := Try.isAgg9
  have z3 := Try.sizeOf9
  have u4 := Try.underlying4
  have a4 := Try.isAgg4
  have z4 := Try.sizeOf4
  rw [wr_eq, show (10000 : Nat) = 9999 + 1 from rfl, run_equalIn_agg w 9999 52 _ _ (by kernel_rfl) (by kernel_rfl)]
  simp only [Program.fieldsOf, Try.underlying52]
  go_simp
  by_cases h1 : x.1.toList = y.1.toList <;> by_cases h2 : x.2.1.toList = y.2.1.toList <;> by_cases h3 : x.2.2 = y.2.2 <;> simp [h1, h2, h3]
theorem neq_wr (x y : Wr) (w : World) : (binOp .neq 52 (.agg #[.string x.1, .string x.2.1, .bool x.2.2]) (.agg #[.string y.1, .string y.2.1, .bool y.2.2])).run Try.prog w = .ok (.bool (!decide (x = y))) w := by
  rw [run_neq_struct, eqIn_wr]
  rfl

set_option maxRecDepth 100000 in
set_option maxHeartbeats 1000000 in
theorem samew_any (ao bo : Option Addr) (ca cb : Nat) (xs ys : List Wr) (w : World) (ha : xs = [] ∨ WsAt w ao xs) (hb : ys = [] ∨ WsAt w bo ys) (hx : xs.length ≤ 1099511627776) (hy : ys.length ≤ 1099511627776) :
    Calls Try.prog 28 #[.slice ao xs.length ca, .slice bo ys.length cb] w fun e w' => e = .returned (.bool (decide (xs = ys))) ∧ Fr (fun _ => False) w w' := by
  have HA := hideIt ha
  have HB := hideIt hb
  clear ha hb
  by_cases hl : xs.length = ys.length
  · have hne : ((xs.length : Int) != (ys.length : Int)) = false := by simp [hl]
    have HL := hideIt hl
    go_enter Try.func28, Try.ntmps28
    go_wp2_with fail
    go_loopw [5] (fun i wr => ∃ k : Nat, i = .int .i64 k ∧ k ≤ xs.length ∧ Hid (xs.take k = ys.take k) ∧ Fr (fun _ => False) w wr) (fun i _ => xs.length - (intOf i).toNat)
    case atStart => exact ⟨0, rfl, Nat.zero_le _, hideIt rfl, Fr.refl _ _⟩
    case round =>
      obtain ⟨k, rfl, hk, HT, hF⟩ := hrel
      by_cases hlt : k < xs.length
      · have hlt2 : k < ys.length := by have := HL.out; omega
        obtain ⟨b, off, rfl, hbl, c0, c1, c1x⟩ := ws_get (wats_fr0 HA.out hF) k hlt
        obtain ⟨b2, off2, rfl, hbl2, c2, c3, c3x⟩ := ws_get (wats_fr0 HB.out hF) k hlt2
        have HF := hideIt hF
        have HX := hideIt (List.take_succ_eq_append_getElem hlt)
        have HY := hideIt (List.take_succ_eq_append_getElem hlt2)
        have HDX := hideIt (List.getElem?_eq_getElem hlt)
        have HDY := hideIt (List.getElem?_eq_getElem hlt2)
        clear hF
        generalize xs[k] = x at *
        generalize ys[k] = y at *
        by_cases hxy : x = y
        · have hq := neq_wr x y
          rw [show decide (x = y) = true from decide_eq_true hxy] at hq
          have HXY := hideIt hxy
          clear hxy hl hne
          go_wp2_with fail
          go_quiet (fail)
          go_wp2_with fail
          go_roundw
          case measure => simp [intOf]; omega
          case rel => exact ⟨k + 1, by go_num, by omega, hideIt (by rw [HX.out, HY.out, HT.out, HXY.out]), HF.out.drewN _⟩
        · have hq := neq_wr x y
          rw [show decide (x = y) = false from decide_eq_false hxy] at hq
          have HXY : Hid (decide (xs = ys) = false) := hideIt (decide_eq_false fun e => hxy (by have h1 := HDX.out; have h2 := HDY.out; rw [e] at h1; exact Option.some.inj (h1.symm.trans h2)))
          clear hxy hl hne
          go_wp2_with fail
          go_quiet (fail)
          go_wp2_with fail
          go_ret
          exact ⟨by rw [HXY.out]; rfl, HF.out.drewN _⟩
      · obtain rfl : k = xs.length := by omega
        have HXY : Hid (decide (xs = ys) = true) := hideIt (decide_eq_true (by have h := HT.out; rw [List.take_length, HL.out, List.take_length] at h; exact h))
        have HF := hideIt hF
        clear hF hl hne
        go_wp2_with fail
        go_ret
        exact ⟨by rw [HXY.out]; rfl, HF.out⟩
  · have hne : ((xs.length : Int) != (ys.length : Int)) = true := by simp; omega
    have HXY : Hid (decide (xs = ys) = false) := hideIt (decide_eq_false fun e => hl (by rw [e]))
    clear hl
    go_enter Try.func28, Try.ntmps28
    go_wp2_with fail
    go_ret
    exact ⟨by rw [HXY.out]; rfl, Fr.refl _ _⟩


abbrev v5 : ByteArray := ⟨#[53]⟩
abbrev eE : ByteArray := ⟨#[]⟩
abbrev toS : List Sp := [(kB, v2), (kC, v3), (kD, v5)]
theorem get_ex2 : getL smp kC = (eE, false) := by kernel_rfl
theorem ap_ex3 : apE smp [wr0] = 2 := by kernel_rfl
theorem scan_ex1 : scanL smp (kB, eE) 5 = [(kB, v2), (kD, v4)] := by kernel_rfl
theorem scan_ex2 : scanL smp (eE, eE) 1 = [(kA, v1)] := by kernel_rfl
theorem diff_ex : diffL smp toS = [(kA, eE, true), (kC, v3, false), (kD, v5, false)] := by kernel_rfl
theorem chk_ex : chkE [(kB, eE), (kA, eE)] = 2 := by kernel_rfl
theorem key_ex : keyB eE = false := by kernel_rfl

theorem ws_new1 (w : World) (x : Wr) (t : TypeId) (b : Nat) (hb : b = w.heap.size) : WsAt (w.alloc (.cells #[.string x.1, .string x.2.1, .bool x.2.2] t)) (some ⟨b, 0, none⟩) [x] := by
  subst hb
  refine Or.inr ⟨w.heap.size, 0, rfl, by simp, fun i hi => ?_⟩
  obtain rfl : i = 0 := by simpa using hi
  exact ⟨cellNew _ _ _ _ _ rfl, cellNew _ _ _ _ _ rfl, cellNew _ _ _ _ _ rfl⟩
theorem ws_new3 (w : World) (x y z : Wr) (t : TypeId) (b : Nat) (hb : b = w.heap.size) : WsAt (w.alloc (.cells #[.string x.1, .string x.2.1, .bool x.2.2, .string y.1, .string y.2.1, .bool y.2.2, .string z.1, .string z.2.1, .bool z.2.2] t)) (some ⟨b, 0, none⟩) [x, y, z] := by
  subst hb
  refine Or.inr ⟨w.heap.size, 0, rfl, by simp, fun i hi => ?_⟩
  have h3 : i < 3 := hi
  obtain rfl | rfl | rfl : i = 0 ∨ i = 1 ∨ i = 2 := by omega
  all_goals exact ⟨cellNew _ _ _ _ _ rfl, cellNew _ _ _ _ _ rfl, cellNew _ _ _ _ _ rfl⟩
theorem sps_new2 (w : World) (x y : Sp) (t : TypeId) (b : Nat) (hb : b = w.heap.size) : SpsAt (w.alloc (.cells #[.string x.1, .string x.2, .string y.1, .string y.2] t)) (some ⟨b, 0, none⟩) [x, y] := by
  subst hb
  refine Or.inr ⟨w.heap.size, 0, rfl, by simp, fun i hi => ?_⟩
  have h3 : i < 2 := hi
  obtain rfl | rfl : i = 0 ∨ i = 1 := by omega
  all_goals exact ⟨cellNew _ _ _ _ _ rfl, cellNew _ _ _ _ _ rfl⟩

set_option maxRecDepth 100000 in
set_option maxHeartbeats 8000000 in
theorem known_any (w : World) : Calls Try.prog 8 #[] w fun e w' => e = .returned (.bool true) ∧ Fr (fun _ => False) w w' := by
  go_enter Try.func8, Try.ntmps8
  go_wp2_with fail
  refine Calls.mono (smp_any _) ?_
  rintro e w1 ⟨g, rfl, hS1, hF1⟩
  have HS := hideIt hS1
  have HF1 := hideIt hF1
  have hG := hideIt (by have := eget_any (some ⟨g, 0, none⟩) 3 smp kC (by decide) w1 (Or.inr hS1); rw [get_ex2] at this; exact this)
  clear hS1 hF1
  go_wp2_with fail
  refine Calls.mono hG.out ?_
  rintro e w2 ⟨rfl, hF2⟩
  have G2 := hideIt hF2
  have hA := hideIt (by have := eapply_any (some ⟨g, 0, none⟩) (some ⟨w2.heap.size, 0, none⟩) 3 1 smp [wr0] (w2.alloc (.cells #[.string eE, .string eE, .bool false] 52)) (Or.inr (HS.out.fr0 (hF2.alloc _))) (Or.inr (ws_new1 w2 wr0 52 _ rfl)) (by decide) (by decide) (by decide); exact this)
  clear hF2 hG
  go_wp2_with fail
  refine Calls.mono hA.out ?_
  rintro e w3 ⟨a3, c3, rfl, _, hF3, _⟩
  rw [ap_ex3]
  have G4 := hideIt (((G2.out.alloc (.cells #[.string eE, .string eE, .bool false] 52)).trans hF3 (fun _ _ e => e)).alloc (.cells #[.string kB, .string v2, .string kC, .string v3, .string kD, .string v5] 60))
  have HT := hideIt (sps_new3 w3 (kB, v2) (kC, v3) (kD, v5) 60 _ rfl)
  have hSc1 := hideIt (fun v (hF : Fr (fun _ => False) w1 v) => by have := escan_any (some ⟨g, 0, none⟩) 3 smp (kB, eE) 5 v (Or.inr (HS.out.fr0 hF)) (by decide) (by decide); rw [scan_ex1] at this; exact this)
  have hSc2 := hideIt (fun v (hF : Fr (fun _ => False) w1 v) => by have := escan_any (some ⟨g, 0, none⟩) 3 smp (eE, eE) 1 v (Or.inr (HS.out.fr0 hF)) (by decide) (by decide); rw [scan_ex2] at this; exact this)
  have HS1 := hideIt (show SpsAt w1 (some ⟨g, 2, none⟩) [(kB, v2), (kD, v4)] from by have := HS.out.drop2 1; simpa using this)
  have HS2 := hideIt (show SpsAt w1 (some ⟨g, 0, none⟩) [(kA, v1)] from HS.out.take2 1)
  have hSm1 := hideIt (fun v ao cap (hF : Fr (fun _ => False) w1 v) (h : SpsAt v ao [(kB, v2), (kD, v4)]) => by have := samep_any ao (some ⟨g, 2, none⟩) cap 2 [(kB, v2), (kD, v4)] [(kB, v2), (kD, v4)] v (Or.inr h) (Or.inr (HS1.out.fr0 hF)) (by decide) (by decide); rw [show decide ([(kB, v2), (kD, v4)] = [(kB, v2), (kD, v4)]) = true from decide_eq_true rfl] at this; exact this)
  have hSm2 := hideIt (fun v ao cap (hF : Fr (fun _ => False) w1 v) (h : SpsAt v ao [(kA, v1)]) => by have := samep_any ao (some ⟨g, 0, none⟩) cap 3 [(kA, v1)] [(kA, v1)] v (Or.inr h) (Or.inr (HS2.out.fr0 hF)) (by decide) (by decide); rw [show decide ([(kA, v1)] = [(kA, v1)]) = true from decide_eq_true rfl] at this; exact this)
  clear hF3 hA G2
  go_wp2_with fail
  generalize w3.alloc (.cells #[.string kB, .string v2, .string kC, .string v3, .string kD, .string v5] 60) = W4 at *
  generalize w3.heap.size = b3 at *
  refine wp_region_held_drew (S := fun w' => Fr (fun _ => False) w1 w') (by kernel_rfl) ?_ (fun hHeld => ?_)
  · exact G4.out.drew
  refine wpAnyH_take (i := 0) (v := ?v1) rfl (by kernel_rfl) (by kernel_rfl) (by kernel_rfl) (fun _ _ _ h => h) (Or.inl ⟨by kernel_rfl, ?hy1⟩) (by assumption) ?rest1
  case hy1 => intro w hSw; (try dsimp only at hSw); go_simp; (try with_reducible rfl)
  try simp only [Act.put, List.getElem_toArray, List.getElem_cons_zero, List.getElem_cons_succ, List.setIfInBounds_toArray, List.set_cons_zero, List.set_cons_succ]
  refine wpAnyH_take (i := 1) (v := ?v2) rfl (by kernel_rfl) (by kernel_rfl) (by kernel_rfl) (fun _ _ _ h => h) (Or.inl ⟨by kernel_rfl, ?hy2⟩) (by assumption) ?rest2
  case hy2 => intro w hSw; (try dsimp only at hSw); go_simp; (try with_reducible rfl)
  try simp only [Act.put, List.getElem_toArray, List.getElem_cons_zero, List.getElem_cons_succ, List.setIfInBounds_toArray, List.set_cons_zero, List.set_cons_succ]
  refine wpAnyH_take (i := 2) (v := ?v3) rfl (by kernel_rfl) (by kernel_rfl) (by kernel_rfl) (fun _ _ _ h => h) (Or.inl ⟨by kernel_rfl, ?hy3⟩) (by assumption) ?rest3
  case hy3 => intro w hSw; (try dsimp only at hSw); go_simp; (try with_reducible rfl)
  try simp only [Act.put, List.getElem_toArray, List.getElem_cons_zero, List.getElem_cons_succ, List.setIfInBounds_toArray, List.set_cons_zero, List.set_cons_succ]
  refine wpAnyH_take (i := 3) (v := ?v4) rfl (by kernel_rfl) (by kernel_rfl) (by kernel_rfl) (fun _ _ _ h => h) (Or.inl ⟨by kernel_rfl, ?hy4⟩) (by assumption) ?rest4
  case hy4 => intro w hSw; (try dsimp only at hSw); go_simp; (try with_reducible rfl)
  try simp only [Act.put, List.getElem_toArray, List.getElem_cons_zero, List.getElem_cons_succ, List.setIfInBounds_toArray, List.set_cons_zero, List.set_cons_succ]
  refine wpAnyH_take (i := 4) (v := ?v5) rfl (by kernel_rfl) (by kernel_rfl) (by kernel_rfl) (fun _ _ _ h => h) (Or.inl ⟨by kernel_rfl, ?hy5⟩) (by assumption) ?rest5
  case hy5 => intro w hSw; (try dsimp only at hSw); go_simp; (try with_reducible rfl)
  try simp only [Act.put, List.getElem_toArray, List.getElem_cons_zero, List.getElem_cons_succ, List.setIfInBounds_toArray, List.set_cons_zero, List.set_cons_succ]
  refine wpAnyH_take (i := 6) (v := ?v6) rfl (by kernel_rfl) (by kernel_rfl) (by kernel_rfl) (fun _ _ _ h => h) (Or.inl ⟨by kernel_rfl, ?hy6⟩) (by assumption) ?rest6
  case hy6 => intro w hSw; (try dsimp only at hSw); go_simp; (try with_reducible rfl)
  try simp only [Act.put, List.getElem_toArray, List.getElem_cons_zero, List.getElem_cons_succ, List.setIfInBounds_toArray, List.set_cons_zero, List.set_cons_succ]
  refine wpAnyH_take (i := 7) (v := ?v7) rfl (by kernel_rfl) (by kernel_rfl) (by kernel_rfl) (fun _ _ _ h => h) (Or.inl ⟨by kernel_rfl, ?hy7⟩) (by assumption) ?rest7
  case hy7 => intro w hSw; (try dsimp only at hSw); go_simp; (try with_reducible rfl)
  try simp only [Act.put, List.getElem_toArray, List.getElem_cons_zero, List.getElem_cons_succ, List.setIfInBounds_toArray, List.set_cons_zero, List.set_cons_succ]
  refine wpAnyH_ready (rs := [5]) (by kernel_rfl) (by simp) ?_
  refine AllReadyH.cons rfl (fun K hK => ?_) AllReadyH.nil
  go_simp
  refine Calls.mono (hSc1.out _ hHeld) ?_
  rintro e x5 ⟨a5, c5, rfl, r5, f5, _⟩
  have h5 : Fr (fun _ => False) w1 x5 := hHeld.trans f5 (fun _ _ e => e)
  have k5 : Fr (fun _ => False) W4 x5 := by first | exact f5 | exact (Fr.refl _ _).drew.trans f5 (fun _ _ e => e)
  have R5 := hideIt r5.at
  clear r5
  refine hK.out _ _ ?_ (fun hHeld => ?_)
  · exact h5
  clear hK K
  try simp only [Act.put, List.getElem_toArray, List.getElem_cons_zero, List.getElem_cons_succ, List.setIfInBounds_toArray, List.set_cons_zero, List.set_cons_succ]
  refine wpAnyH_ready (rs := [8]) (by kernel_rfl) (by simp) ?_
  refine AllReadyH.cons rfl (fun K hK => ?_) AllReadyH.nil
  go_simp
  refine Calls.mono (hSm1.out _ a5 c5 hHeld (by first | exact R5.out | exact R5.out.fr0 ((Fr.refl _ _).drew))) ?_
  rintro e x6 ⟨rfl, f6⟩
  have k6 : Fr (fun _ => False) W4 x6 := by first | exact k5.trans f6 (fun _ _ e => e) | exact k5.drew.trans f6 (fun _ _ e => e)
  have h6 : Fr (fun _ => False) w1 x6 := hHeld.trans f6 (fun _ _ e => e)
  refine hK.out _ _ ?_ (fun hHeld => ?_)
  · exact h6
  clear hK K
  try simp only [Act.put, List.getElem_toArray, List.getElem_cons_zero, List.getElem_cons_succ, List.setIfInBounds_toArray, List.set_cons_zero, List.set_cons_succ]
  refine wpAnyH_take (i := 9) (v := ?v8) rfl (by kernel_rfl) (by kernel_rfl) (by kernel_rfl) (fun _ _ _ h => h) (Or.inl ⟨by kernel_rfl, ?hy8⟩) (by assumption) ?rest8
  case hy8 => intro w hSw; (try dsimp only at hSw); go_simp; (try with_reducible rfl)
  try simp only [Act.put, List.getElem_toArray, List.getElem_cons_zero, List.getElem_cons_succ, List.setIfInBounds_toArray, List.set_cons_zero, List.set_cons_succ]
  refine wpAnyH_take (i := 10) (v := ?v9) rfl (by kernel_rfl) (by kernel_rfl) (by kernel_rfl) (fun _ _ _ h => h) (Or.inl ⟨by kernel_rfl, ?hy9⟩) (by assumption) ?rest9
  case hy9 => intro w hSw; (try dsimp only at hSw); go_simp; (try with_reducible rfl)
  try simp only [Act.put, List.getElem_toArray, List.getElem_cons_zero, List.getElem_cons_succ, List.setIfInBounds_toArray, List.set_cons_zero, List.set_cons_succ]
  refine wpAnyH_take (i := 11) (v := ?v10) rfl (by kernel_rfl) (by kernel_rfl) (by kernel_rfl) (fun _ _ _ h => h) (Or.inl ⟨by kernel_rfl, ?hy10⟩) (by assumption) ?rest10
  case hy10 => intro w hSw; (try dsimp only at hSw); go_simp; (try with_reducible rfl)
  try simp only [Act.put, List.getElem_toArray, List.getElem_cons_zero, List.getElem_cons_succ, List.setIfInBounds_toArray, List.set_cons_zero, List.set_cons_succ]
  refine wpAnyH_take (i := 12) (v := ?v11) rfl (by kernel_rfl) (by kernel_rfl) (by kernel_rfl) (fun _ _ _ h => h) (Or.inl ⟨by kernel_rfl, ?hy11⟩) (by assumption) ?rest11
  case hy11 => intro w hSw; (try dsimp only at hSw); go_simp; (try with_reducible rfl)
  try simp only [Act.put, List.getElem_toArray, List.getElem_cons_zero, List.getElem_cons_succ, List.setIfInBounds_toArray, List.set_cons_zero, List.set_cons_succ]
  refine wpAnyH_take (i := 14) (v := ?v12) rfl (by kernel_rfl) (by kernel_rfl) (by kernel_rfl) (fun _ _ _ h => h) (Or.inl ⟨by kernel_rfl, ?hy12⟩) (by assumption) ?rest12
  case hy12 => intro w hSw; (try dsimp only at hSw); go_simp; (try with_reducible rfl)
  try simp only [Act.put, List.getElem_toArray, List.getElem_cons_zero, List.getElem_cons_succ, List.setIfInBounds_toArray, List.set_cons_zero, List.set_cons_succ]
  refine wpAnyH_take (i := 15) (v := ?v13) rfl (by kernel_rfl) (by kernel_rfl) (by kernel_rfl) (fun _ _ _ h => h) (Or.inl ⟨by kernel_rfl, ?hy13⟩) (by assumption) ?rest13
  case hy13 => intro w hSw; (try dsimp only at hSw); go_simp; (try with_reducible rfl)
  try simp only [Act.put, List.getElem_toArray, List.getElem_cons_zero, List.getElem_cons_succ, List.setIfInBounds_toArray, List.set_cons_zero, List.set_cons_succ]
  refine wpAnyH_ready (rs := [13]) (by kernel_rfl) (by simp) ?_
  refine AllReadyH.cons rfl (fun K hK => ?_) AllReadyH.nil
  go_simp
  refine Calls.mono (hSc2.out _ hHeld) ?_
  rintro e x7 ⟨a7, c7, rfl, r7, f7, _⟩
  have k7 : Fr (fun _ => False) W4 x7 := by first | exact k6.trans f7 (fun _ _ e => e) | exact k6.drew.trans f7 (fun _ _ e => e)
  have h7 : Fr (fun _ => False) w1 x7 := hHeld.trans f7 (fun _ _ e => e)
  have R7 := hideIt r7.at
  clear r7
  refine hK.out _ _ ?_ (fun hHeld => ?_)
  · exact h7
  clear hK K
  try simp only [Act.put, List.getElem_toArray, List.getElem_cons_zero, List.getElem_cons_succ, List.setIfInBounds_toArray, List.set_cons_zero, List.set_cons_succ]
  refine wpAnyH_ready (rs := [16]) (by kernel_rfl) (by simp) ?_
  refine AllReadyH.cons rfl (fun K hK => ?_) AllReadyH.nil
  go_simp
  refine Calls.mono (hSm2.out _ a7 c7 hHeld (by first | exact R7.out | exact R7.out.fr0 ((Fr.refl _ _).drew))) ?_
  rintro e x8 ⟨rfl, f8⟩
  have h8 : Fr (fun _ => False) w1 x8 := hHeld.trans f8 (fun _ _ e => e)
  have k8 : Fr (fun _ => False) W4 x8 := by first | exact k7.trans f8 (fun _ _ e => e) | exact k7.drew.trans f8 (fun _ _ e => e)
  refine hK.out _ _ ?_ (fun hHeld => ?_)
  · exact h8
  clear hK K
  try simp only [Act.put, List.getElem_toArray, List.getElem_cons_zero, List.getElem_cons_succ, List.setIfInBounds_toArray, List.set_cons_zero, List.set_cons_succ]
  refine wpAnyH_take (i := 17) (v := ?v14) rfl (by kernel_rfl) (by kernel_rfl) (by kernel_rfl) (fun _ _ _ h => h) (Or.inl ⟨by kernel_rfl, ?hy14⟩) (by assumption) ?rest14
  case hy14 => intro w hSw; (try dsimp only at hSw); go_simp; (try with_reducible rfl)
  try simp only [Act.put, List.getElem_toArray, List.getElem_cons_zero, List.getElem_cons_succ, List.setIfInBounds_toArray, List.set_cons_zero, List.set_cons_succ]
  refine wpAnyH_take (i := 18) (v := ?v15) rfl (by kernel_rfl) (by kernel_rfl) (by kernel_rfl) (fun _ _ _ h => h) (Or.inl ⟨by kernel_rfl, ?hy15⟩) (by assumption) ?rest15
  case hy15 => intro w hSw; (try dsimp only at hSw); go_simp; (try with_reducible rfl)
  try simp only [Act.put, List.getElem_toArray, List.getElem_cons_zero, List.getElem_cons_succ, List.setIfInBounds_toArray, List.set_cons_zero, List.set_cons_succ]
  refine wpAnyH_take (i := 19) (v := ?v16) rfl (by kernel_rfl) (by kernel_rfl) (by kernel_rfl) (fun _ _ _ h => h) (Or.inl ⟨by kernel_rfl, ?hy16⟩) (by assumption) ?rest16
  case hy16 => intro w hSw; (try dsimp only at hSw); go_simp; (try with_reducible rfl)
  try simp only [Act.put, List.getElem_toArray, List.getElem_cons_zero, List.getElem_cons_succ, List.setIfInBounds_toArray, List.set_cons_zero, List.set_cons_succ]
  refine wpAnyH_take (i := 20) (v := ?v17) rfl (by kernel_rfl) (by kernel_rfl) (by kernel_rfl) (fun _ _ _ h => h) (Or.inl ⟨by kernel_rfl, ?hy17⟩) (by assumption) ?rest17
  case hy17 => intro w hSw; (try dsimp only at hSw); go_simp; (try with_reducible rfl)
  try simp only [Act.put, List.getElem_toArray, List.getElem_cons_zero, List.getElem_cons_succ, List.setIfInBounds_toArray, List.set_cons_zero, List.set_cons_succ]
  refine wpAnyH_take (i := 21) (v := ?v18) rfl (by kernel_rfl) (by kernel_rfl) (by kernel_rfl) (fun _ _ _ h => h) (Or.inl ⟨by kernel_rfl, ?hy18⟩) (by assumption) ?rest18
  case hy18 => intro w hSw; (try dsimp only at hSw); go_simp; (try with_reducible rfl)
  try simp only [Act.put, List.getElem_toArray, List.getElem_cons_zero, List.getElem_cons_succ, List.setIfInBounds_toArray, List.set_cons_zero, List.set_cons_succ]
  refine wpAnyH_take (i := 22) (v := ?v19) rfl (by kernel_rfl) (by kernel_rfl) (by kernel_rfl) (fun _ _ _ h => h) (Or.inl ⟨by kernel_rfl, ?hy19⟩) (by assumption) ?rest19
  case hy19 => intro w hSw; (try dsimp only at hSw); go_simp; (try with_reducible rfl)
  try simp only [Act.put, List.getElem_toArray, List.getElem_cons_zero, List.getElem_cons_succ, List.setIfInBounds_toArray, List.set_cons_zero, List.set_cons_succ]
  refine wpAnyH_done (by kernel_rfl) ?_ _
  have G8 := hideIt h8
  have K8 := hideIt k8
  clear hHeld f5 f6 f7 f8 h5 h6 h7 h8 k5 k6 k7 k8 R5 R7 hSc1 hSc2 hSm1 hSm2 HS1 HS2 G4
  have hD := hideIt (by have := ediff_any (some ⟨g, 0, none⟩) (some ⟨b3, 0, none⟩) 3 3 smp toS x8 (Or.inr (HS.out.fr0 G8.out)) (Or.inr (HT.out.fr0 K8.out)) (by decide) (by decide) (by decide) (by decide); rw [diff_ex] at this; exact this)
  go_wp2_with fail
  refine Calls.mono hD.out ?_
  rintro e x9 ⟨a9, c9, rfl, hG9⟩
  have HW9 := hideIt hG9.wsAt
  have hF10 : Fr (fun _ => False) x8 (x9.alloc (.cells #[.string kA, .string eE, .bool true, .string kC, .string v3, .bool false, .string kD, .string v5, .bool false] 52)) := hG9.fr.alloc _
  have hSW := hideIt (by have := samew_any a9 (some ⟨x9.heap.size, 0, none⟩) c9 3 [(kA, eE, true), (kC, v3, false), (kD, v5, false)] [(kA, eE, true), (kC, v3, false), (kD, v5, false)] (x9.alloc (.cells #[.string kA, .string eE, .bool true, .string kC, .string v3, .bool false, .string kD, .string v5, .bool false] 52)) (Or.inr (HW9.out.fr0 ((Fr.refl _ _).alloc _))) (Or.inr (ws_new3 x9 (kA, eE, true) (kC, v3, false) (kD, v5, false) 52 _ rfl)) (by decide) (by decide); rw [show decide ([(kA, eE, true), (kC, v3, false), (kD, v5, false)] = [(kA, eE, true), (kC, v3, false), (kD, v5, false)]) = true from decide_eq_true rfl] at this; exact this)
  have G10 := hideIt (G8.out.trans hF10 (fun _ _ e => e))
  have K10 := hideIt (K8.out.trans hF10 (fun _ _ e => e))
  clear hG9 hD hF10 HW9
  go_wp2_with fail
  refine Calls.mono hSW.out ?_
  rintro e x11 ⟨rfl, hF11⟩
  have G11 := hideIt (G10.out.trans hF11 (fun _ _ e => e))
  have K11 := hideIt (K10.out.trans hF11 (fun _ _ e => e))
  have hCh := hideIt (by have := echanged_any (some ⟨g, 0, none⟩) (some ⟨b3, 0, none⟩) 3 3 smp toS x11 (Or.inr (HS.out.fr0 G11.out)) (Or.inr (HT.out.fr0 K11.out)) (by decide) (by decide) (by decide) (by decide); rw [diff_ex] at this; exact this)
  clear hF11 hSW G10 K10
  go_wp2_with fail
  refine Calls.mono hCh.out ?_
  rintro e x12 ⟨a12, c12, rfl, hG12⟩
  have HK12 := hideIt hG12.ksAt
  have G12 := hideIt ((G11.out.trans hG12.fr (fun _ _ e => e)).alloc (.cells #[.string kA, .string kC, .string kD] 9))
  have hST := hideIt (by have := ksame_any a12 (some ⟨x12.heap.size, 0, none⟩) c12 3 [kA, kC, kD] [kA, kC, kD] (x12.alloc (.cells #[.string kA, .string kC, .string kD] 9)) (Or.inr (HK12.out.fr0 ((Fr.refl _ _).alloc _))) (Or.inr (ks_new x12 [kA, kC, kD] 9)) (by decide) (by decide); rw [show decide ([kA, kC, kD] = [kA, kC, kD]) = true from decide_eq_true rfl] at this; exact this)
  clear hG12 hCh G11 K11 HK12
  go_wp2_with fail
  refine Calls.mono hST.out ?_
  rintro e x13 ⟨rfl, hF13⟩
  have G13 := hideIt (G12.out.trans hF13 (fun _ _ e => e))
  clear hF13 hST G12
  go_wp2_with fail
  refine Calls.mono (eawake_any _) ?_
  rintro e x14 ⟨rfl, hF14⟩
  have G14 := hideIt ((G13.out.trans hF14 (fun _ _ e => e)).alloc (.cells #[.string kB, .string eE, .string kA, .string eE] 60))
  have hCk := hideIt (by have := echeck_any (some ⟨x14.heap.size, 0, none⟩) 2 [(kB, eE), (kA, eE)] (by decide) (x14.alloc (.cells #[.string kB, .string eE, .string kA, .string eE] 60)) (Or.inr (sps_new2 x14 (kB, eE) (kA, eE) 60 _ rfl)); rw [chk_ex] at this; exact this)
  have hKy := hideIt (fun v => by have := ekey_any eE v; rw [key_ex] at this; exact this)
  clear hF14 G13
  go_wp2_with fail
  refine Calls.mono hCk.out ?_
  rintro e x15 ⟨rfl, hF15⟩
  have G15 := hideIt (HF1.out.trans (G14.out.trans hF15 (fun _ _ e => e)) (fun _ _ e => e))
  clear hF15
  go_wp2_with fail
  refine Calls.mono (hKy.out _) ?_
  rintro e x16 ⟨rfl, rfl⟩
  go_wp2_with fail
  go_ret
  exact ⟨rfl, G15.out⟩

end Go.Proofs.Ytefikadaiconaaa
