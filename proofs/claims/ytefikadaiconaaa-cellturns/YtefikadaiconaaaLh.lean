/- Cell: what the statements ask of lists; awake. -/
import Derived.Test.YtefikadaiconaaaLg
namespace Go.Proofs.Ytefikadaiconaaa
open Go.RowKit Go.IntWalk
set_option linter.unusedSimpArgs false
set_option linter.unusedVariables false

theorem sp_eq (x y : Sp) : decide (x = y) = (x.1.toList == y.1.toList && x.2.toList == y.2.toList) := by
  rw [Bool.eq_iff_iff]
  simp only [decide_eq_true_eq, Bool.and_eq_true, beq_iff_eq]
  exact ⟨fun e => by rw [e]; exact ⟨rfl, rfl⟩, fun e => sp_ext e.1 e.2⟩

theorem eqIn_sp (x y : Sp) (w : World) : (Op.equalIn 10000 60 (.agg #[.string x.1, .string x.2]) (.agg #[.string y.1, .string y.2])).run Try.prog w = .ok (decide (x = y)) w := by
  have u3 := Try.underlying9
  have a3 := Try.isAgg9
  have z3 := Try.sizeOf9
  rw [sp_eq, show (10000 : Nat) = 9999 + 1 from rfl, run_equalIn_agg w 9999 60 _ _ (by kernel_rfl) (by kernel_rfl)]
  simp only [Program.fieldsOf, Try.underlying60]
  go_simp
  by_cases h1 : x.1.toList = y.1.toList <;> by_cases h2 : x.2.toList = y.2.toList <;> simp [h1, h2]

theorem eql_sp (x y : Sp) (w : World) : (binOp .eql 60 (.agg #[.string x.1, .string x.2]) (.agg #[.string y.1, .string y.2])).run Try.prog w = .ok (.bool (decide (x = y))) w := by
  rw [run_eql_struct, eqIn_sp]
  rfl

theorem neq_sp (x y : Sp) (w : World) : (binOp .neq 60 (.agg #[.string x.1, .string x.2]) (.agg #[.string y.1, .string y.2])).run Try.prog w = .ok (.bool (!decide (x = y))) w := by
  rw [run_neq_struct, eqIn_sp]
  rfl

theorem copyp_any (ao : Option Addr) (cap : Nat) (l : List Sp) (w : World) (h : l = [] ∨ SpsAt w ao l) (hb : l.length ≤ 1099511627776) :
    Calls Try.prog 11 #[.slice ao l.length cap] w fun e w' => ∃ ao' cap', e = .returned (.slice ao' l.length cap') ∧ SpRow w' ao' cap' l ∧ Fr (fun _ => False) w w' ∧ ∀ k, blk ao' k → w.heap.size ≤ k := by
  have hF0 : Fr (fun _ => False) w (w.alloc (.cells #[] 60)) := (Fr.refl _ _).alloc _
  have hrow0 : SpRow (w.alloc (.cells #[] 60)) (some ⟨w.heap.size, 0, none⟩) 0 [] := World.ownsRow_made w #[] 0 (Nat.zero_le _) (by decide) rfl
  obtain ⟨ao', cap', w1, hrun, hrow, hF, hao⟩ := spans_append _ (some ⟨w.heap.size, 0, none⟩) 0 [] l hrow0 ao cap (sats_fr0 h hF0) (by simpa using hb)
  simp only [List.length_nil, Nat.zero_add, List.nil_append] at hrun hrow
  have HR := hideIt hrun
  have HFIN := hideIt (show ∃ ao'' cap'', Ending.returned (.slice ao' l.length cap') = .returned (.slice ao'' l.length cap'') ∧ SpRow w1 ao'' cap'' l ∧ Fr (fun _ => False) w w1 ∧ ∀ k, blk ao'' k → w.heap.size ≤ k from
    ⟨ao', cap', rfl, hrow, hF0.trans hF (fun i hi ⟨a, e1, e2⟩ => by obtain rfl := Option.some.inj e1; simp at e2; omega), fun k hk => by
      obtain ⟨a, e1, e2⟩ := hk
      rcases hao with e | e <;> rw [e] at e1 <;> obtain rfl := Option.some.inj e1 <;> simp at e2 <;> omega⟩)
  clear hrun hrow hF hao hrow0 hF0 h
  go_enter Try.func11, Try.ntmps11
  go_wp2_with (first | (at_builtin; refine wpList_append_run _ rfl (.tmp 3) (.tmp 4) 22 22 rfl _ _ _ _ rfl rfl HR.out ?_))
  go_ret
  exact HFIN.out

set_option maxRecDepth 100000 in
set_option maxHeartbeats 1000000 in
theorem samep_any (ao bo : Option Addr) (ca cb : Nat) (xs ys : List Sp) (w : World) (ha : xs = [] ∨ SpsAt w ao xs) (hb : ys = [] ∨ SpsAt w bo ys) (hx : xs.length ≤ 1099511627776) (hy : ys.length ≤ 1099511627776) :
    Calls Try.prog 15 #[.slice ao xs.length ca, .slice bo ys.length cb] w fun e w' => e = .returned (.bool (decide (xs = ys))) ∧ Fr (fun _ => False) w w' := by
  have HA := hideIt ha
  have HB := hideIt hb
  clear ha hb
  by_cases hl : xs.length = ys.length
  · have hne : ((xs.length : Int) != (ys.length : Int)) = false := by simp [hl]
    have HL := hideIt hl
    go_enter Try.func15, Try.ntmps15
    go_wp2_with fail
    go_loopw [5] (fun i wr => ∃ k : Nat, i = .int .i64 k ∧ k ≤ xs.length ∧ Hid (xs.take k = ys.take k) ∧ Fr (fun _ => False) w wr) (fun i _ => xs.length - (intOf i).toNat)
    case atStart => exact ⟨0, rfl, Nat.zero_le _, hideIt rfl, Fr.refl _ _⟩
    case round =>
      obtain ⟨k, rfl, hk, HT, hF⟩ := hrel
      by_cases hlt : k < xs.length
      · have hlt2 : k < ys.length := by have := HL.out; omega
        obtain ⟨b, off, rfl, hbl, c0, c1⟩ := sps_get (sats_fr0 HA.out hF) k hlt
        obtain ⟨b2, off2, rfl, hbl2, c2, c3⟩ := sps_get (sats_fr0 HB.out hF) k hlt2
        have HF := hideIt hF
        have HX := hideIt (List.take_succ_eq_append_getElem hlt)
        have HY := hideIt (List.take_succ_eq_append_getElem hlt2)
        have HDX := hideIt (List.getElem?_eq_getElem hlt)
        have HDY := hideIt (List.getElem?_eq_getElem hlt2)
        clear hF
        generalize xs[k] = x at *
        generalize ys[k] = y at *
        by_cases hxy : x = y
        · have hq := neq_sp x y
          rw [show decide (x = y) = true from decide_eq_true hxy] at hq
          have HXY := hideIt hxy
          clear hxy hl hne
          go_wp2_with fail
          go_quiet (fail)
          go_wp2_with fail
          go_roundw
          case measure => simp [intOf]; omega
          case rel => exact ⟨k + 1, by go_num, by omega, hideIt (by rw [HX.out, HY.out, HT.out, HXY.out]), HF.out.drewN _⟩
        · have hq := neq_sp x y
          rw [show decide (x = y) = false from decide_eq_false hxy] at hq
          have HXY : Hid (decide (xs = ys) = false) := hideIt (decide_eq_false fun e => hxy (by have h1 := HDX.out; have h2 := HDY.out; rw [e] at h1; exact Option.some.inj (h1.symm.trans h2)))
          clear hxy hl hne
          go_wp2_with fail
          go_quiet (fail)
          go_wp2_with fail
          go_ret
          exact ⟨by rw [HXY.out]; rfl, HF.out.drewN _⟩
      · obtain rfl : k = xs.length := by omega
        have HXY : Hid (decide (xs = ys) = true) := hideIt (decide_eq_true (by have h := HT.out; rw [List.take_length, HL.out, List.take_length] at h; exact h))
        have HF := hideIt hF
        clear hF hl hne
        go_wp2_with fail
        go_ret
        exact ⟨by rw [HXY.out]; rfl, HF.out⟩
  · have hne : ((xs.length : Int) != (ys.length : Int)) = true := by simp; omega
    have HXY : Hid (decide (xs = ys) = false) := hideIt (decide_eq_false fun e => hl (by rw [e]))
    clear hl
    go_enter Try.func15, Try.ntmps15
    go_wp2_with fail
    go_ret
    exact ⟨by rw [HXY.out]; rfl, Fr.refl _ _⟩

/-- Neither end is longer than 100 bytes. -/
def Brief (x : Sp) : Prop := x.1.size ≤ 100 ∧ x.2.size ≤ 100

def LongPost (l : List Sp) (m : Nat) (w : World) (e : Ending) (w' : World) : Prop := ∃ b, e = .returned (.bool b) ∧ w' = w ∧ (b = false → l.length ≤ m ∧ ∀ x ∈ l, Brief x)

set_option maxRecDepth 100000 in
set_option maxHeartbeats 1000000 in
theorem longp_any (ao : Option Addr) (cap : Nat) (l : List Sp) (m : Nat) (w : World) (h : l = [] ∨ SpsAt w ao l) (hl : l.length ≤ 9223372036854775807) (hm : m ≤ 1000000) :
    Calls Try.prog 9 #[.slice ao l.length cap, .int .i64 m] w (LongPost l m w) := by
  have HH := hideIt h
  clear h
  go_enter Try.func9, Try.ntmps9
  go_wp2_with fail
  go_loop [5] (fun i => ∃ k : Nat, i = .int .i64 k ∧ k ≤ l.length ∧ k ≤ m + 1 ∧ Hid (∀ x ∈ l.take k, Brief x)) (fun i => l.length - (intOf i).toNat)
  case atStart => exact ⟨0, rfl, Nat.zero_le _, Nat.zero_le _, hideIt (by simp)⟩
  case round =>
    obtain ⟨k, rfl, hk, hkm, HB⟩ := hrel
    by_cases hlt : k < l.length
    · by_cases hm1 : k ≤ m
      · obtain ⟨b, off, rfl, hbl, c0, c1⟩ := sps_get HH.out k hlt
        have HT := hideIt (List.take_succ_eq_append_getElem hlt)
        generalize l[k] = x at *
        by_cases h0 : 100 < x.1.size
        · have h0' : (100 : Int) < (x.1.size : Int) := by omega
          go_wp2_with fail
          go_ret
          exact ⟨true, rfl, rfl, fun e => by cases e⟩
        · have h0' : ¬ (100 : Int) < (x.1.size : Int) := by omega
          by_cases h1 : 100 < x.2.size
          · have h1' : (100 : Int) < (x.2.size : Int) := by omega
            go_wp2_with fail
            go_ret
            exact ⟨true, rfl, rfl, fun e => by cases e⟩
          · have h1' : ¬ (100 : Int) < (x.2.size : Int) := by omega
            have HX := hideIt (show Brief x from ⟨by omega, by omega⟩)
            go_wp2_with fail
            go_round
            case rel => exact ⟨k + 1, by go_num, by omega, by omega, hideIt (fun y hy => by rw [HT.out] at hy; rcases List.mem_append.1 hy with e | e; exact HB.out y e; rw [List.mem_singleton.1 e]; exact HX.out)⟩
            case measure => simp [intOf]; omega
      · obtain rfl : k = m + 1 := by omega
        go_wp2_with fail
        go_ret
        exact ⟨_, rfl, rfl, fun e => absurd hlt (by have := of_decide_eq_false e; omega)⟩
    · obtain rfl : k = l.length := by omega
      go_wp2_with fail
      go_ret
      refine ⟨_, rfl, rfl, fun e => ⟨?_, ?_⟩⟩
      · have := of_decide_eq_false e
        omega
      · have := HB.out
        rwa [List.take_length] at this

set_option maxRecDepth 100000 in
set_option maxHeartbeats 1000000 in
theorem longs_any (ao : Option Addr) (cap : Nat) (l : List Sp) (m : Nat) (w : World) (h : l = [] ∨ SpsAt w ao l) (hl : l.length ≤ 9223372036854775807) (hm : m ≤ 1000000) :
    Calls Try.prog 10 #[.slice ao l.length cap, .int .i64 m] w (LongPost l m w) := by
  have HH := hideIt h
  clear h
  go_enter Try.func10, Try.ntmps10
  go_wp2_with fail
  go_loop [5] (fun i => ∃ k : Nat, i = .int .i64 k ∧ k ≤ l.length ∧ k ≤ m + 1 ∧ Hid (∀ x ∈ l.take k, Brief x)) (fun i => l.length - (intOf i).toNat)
  case atStart => exact ⟨0, rfl, Nat.zero_le _, Nat.zero_le _, hideIt (by simp)⟩
  case round =>
    obtain ⟨k, rfl, hk, hkm, HB⟩ := hrel
    by_cases hlt : k < l.length
    · by_cases hm1 : k ≤ m
      · obtain ⟨b, off, rfl, hbl, c0, c1⟩ := sps_get HH.out k hlt
        have HT := hideIt (List.take_succ_eq_append_getElem hlt)
        generalize l[k] = x at *
        by_cases h0 : 100 < x.1.size
        · have h0' : (100 : Int) < (x.1.size : Int) := by omega
          go_wp2_with fail
          go_ret
          exact ⟨true, rfl, rfl, fun e => by cases e⟩
        · have h0' : ¬ (100 : Int) < (x.1.size : Int) := by omega
          by_cases h1 : 100 < x.2.size
          · have h1' : (100 : Int) < (x.2.size : Int) := by omega
            go_wp2_with fail
            go_ret
            exact ⟨true, rfl, rfl, fun e => by cases e⟩
          · have h1' : ¬ (100 : Int) < (x.2.size : Int) := by omega
            have HX := hideIt (show Brief x from ⟨by omega, by omega⟩)
            go_wp2_with fail
            go_round
            case rel => exact ⟨k + 1, by go_num, by omega, by omega, hideIt (fun y hy => by rw [HT.out] at hy; rcases List.mem_append.1 hy with e | e; exact HB.out y e; rw [List.mem_singleton.1 e]; exact HX.out)⟩
            case measure => simp [intOf]; omega
      · obtain rfl : k = m + 1 := by omega
        go_wp2_with fail
        go_ret
        exact ⟨_, rfl, rfl, fun e => absurd hlt (by have := of_decide_eq_false e; omega)⟩
    · obtain rfl : k = l.length := by omega
      go_wp2_with fail
      go_ret
      refine ⟨_, rfl, rfl, fun e => ⟨?_, ?_⟩⟩
      · have := of_decide_eq_false e
        omega
      · have := HB.out
        rwa [List.take_length] at this

/-- Neither text is longer than 100 bytes. -/
def BriefW (x : Wr) : Prop := x.1.size ≤ 100 ∧ x.2.1.size ≤ 100

def LongWPost (l : List Wr) (m : Nat) (w : World) (e : Ending) (w' : World) : Prop := ∃ b, e = .returned (.bool b) ∧ w' = w ∧ (b = false → l.length ≤ m ∧ ∀ x ∈ l, BriefW x)

set_option maxRecDepth 100000 in
set_option maxHeartbeats 1000000 in
theorem longw_any (ao : Option Addr) (cap : Nat) (l : List Wr) (m : Nat) (w : World) (h : l = [] ∨ WsAt w ao l) (hl : l.length ≤ 9223372036854775807) (hm : m ≤ 1000000) :
    Calls Try.prog 23 #[.slice ao l.length cap, .int .i64 m] w (LongWPost l m w) := by
  have HH := hideIt h
  clear h
  go_enter Try.func23, Try.ntmps23
  go_wp2_with fail
  go_loop [5] (fun i => ∃ k : Nat, i = .int .i64 k ∧ k ≤ l.length ∧ k ≤ m + 1 ∧ Hid (∀ x ∈ l.take k, BriefW x)) (fun i => l.length - (intOf i).toNat)
  case atStart => exact ⟨0, rfl, Nat.zero_le _, Nat.zero_le _, hideIt (by simp)⟩
  case round =>
    obtain ⟨k, rfl, hk, hkm, HB⟩ := hrel
    by_cases hlt : k < l.length
    · by_cases hm1 : k ≤ m
      · obtain ⟨b, off, rfl, hbl, c0, c1, c2⟩ := ws_get HH.out k hlt
        have HT := hideIt (List.take_succ_eq_append_getElem hlt)
        generalize l[k] = x at *
        by_cases h0 : 100 < x.1.size
        · have h0' : (100 : Int) < (x.1.size : Int) := by omega
          go_wp2_with fail
          go_ret
          exact ⟨true, rfl, rfl, fun e => by cases e⟩
        · have h0' : ¬ (100 : Int) < (x.1.size : Int) := by omega
          by_cases h1 : 100 < x.2.1.size
          · have h1' : (100 : Int) < (x.2.1.size : Int) := by omega
            go_wp2_with fail
            go_ret
            exact ⟨true, rfl, rfl, fun e => by cases e⟩
          · have h1' : ¬ (100 : Int) < (x.2.1.size : Int) := by omega
            have HX := hideIt (show BriefW x from ⟨by omega, by omega⟩)
            go_wp2_with fail
            go_round
            case rel => exact ⟨k + 1, by go_num, by omega, by omega, hideIt (fun y hy => by rw [HT.out] at hy; rcases List.mem_append.1 hy with e | e; exact HB.out y e; rw [List.mem_singleton.1 e]; exact HX.out)⟩
            case measure => simp [intOf]; omega
      · obtain rfl : k = m + 1 := by omega
        go_wp2_with fail
        go_ret
        exact ⟨_, rfl, rfl, fun e => absurd hlt (by have := of_decide_eq_false e; omega)⟩
    · obtain rfl : k = l.length := by omega
      go_wp2_with fail
      go_ret
      refine ⟨_, rfl, rfl, fun e => ⟨?_, ?_⟩⟩
      · have := of_decide_eq_false e
        omega
      · have := HB.out
        rwa [List.take_length] at this


abbrev kA : ByteArray := ⟨#[97]⟩
abbrev kB : ByteArray := ⟨#[98]⟩
abbrev kC : ByteArray := ⟨#[99]⟩
abbrev kD : ByteArray := ⟨#[100]⟩
abbrev v1 : ByteArray := ⟨#[49]⟩
abbrev v2 : ByteArray := ⟨#[50]⟩
abbrev v3 : ByteArray := ⟨#[51]⟩
abbrev v4 : ByteArray := ⟨#[52]⟩
/-- The chapter's state. -/
abbrev smp : List Sp := [(kA, v1), (kB, v2), (kD, v4)]
theorem smp_len : smp.length = 3 := rfl

theorem sps_new3 (w : World) (x y z : Sp) (t : TypeId) (b : Nat) (hb : b = w.heap.size) : SpsAt (w.alloc (.cells #[.string x.1, .string x.2, .string y.1, .string y.2, .string z.1, .string z.2] t)) (some ⟨b, 0, none⟩) [x, y, z] := by
  subst hb
  refine Or.inr ⟨w.heap.size, 0, rfl, by simp, fun i hi => ?_⟩
  have h3 : i < 3 := hi
  obtain rfl | rfl | rfl : i = 0 ∨ i = 1 ∨ i = 2 := by omega
  all_goals exact ⟨cellNew _ _ _ _ _ rfl, cellNew _ _ _ _ _ rfl⟩
theorem ws_new2 (w : World) (x y : Wr) (t : TypeId) (b : Nat) (hb : b = w.heap.size) : WsAt (w.alloc (.cells #[.string x.1, .string x.2.1, .bool x.2.2, .string y.1, .string y.2.1, .bool y.2.2] t)) (some ⟨b, 0, none⟩) [x, y] := by
  subst hb
  refine Or.inr ⟨w.heap.size, 0, rfl, by simp, fun i hi => ?_⟩
  have h3 : i < 2 := hi
  obtain rfl | rfl : i = 0 ∨ i = 1 := by omega
  all_goals exact ⟨cellNew _ _ _ _ _ rfl, cellNew _ _ _ _ _ rfl, cellNew _ _ _ _ _ rfl⟩

def SmpPost (w : World) (e : Ending) (w' : World) : Prop := ∃ g, e = .returned (.slice (some ⟨g, 0, none⟩) 3 3) ∧ SpsAt w' (some ⟨g, 0, none⟩) smp ∧ Fr (fun _ => False) w w'
theorem smp_any (w : World) : Calls Try.prog 38 #[] w (SmpPost w) := by
  have HS := hideIt (sps_new3 w (kA, v1) (kB, v2) (kD, v4) 60 _ rfl)
  have HF := hideIt ((Fr.refl (fun _ => False) w).alloc (.cells #[.string kA, .string v1, .string kB, .string v2, .string kD, .string v4] 60))
  go_enter Try.func38, Try.ntmps38
  go_wp2_with fail
  go_ret
  exact ⟨w.heap.size, rfl, HS.out, HF.out⟩

theorem get_ex : getL smp kB = (v2, true) := by kernel_rfl
theorem ap_ex1 : apE smp [(kC, v3, false), (kA, ⟨#[]⟩, true)] = 0 := by kernel_rfl
theorem ap_ex2 : apR smp [(kC, v3, false), (kA, ⟨#[]⟩, true)] = [(kB, v2), (kC, v3), (kD, v4)] := by kernel_rfl

set_option maxRecDepth 100000 in
set_option maxHeartbeats 2000000 in
theorem eawake_any (w : World) : Calls Try.prog 22 #[] w fun e w' => e = .returned (.bool true) ∧ Fr (fun _ => False) w w' := by
  go_enter Try.func22, Try.ntmps22
  go_wp2_with fail
  refine Calls.mono (smp_any _) ?_
  rintro e w1 ⟨g, rfl, hS1, hF1⟩
  have hG := hideIt (by have := eget_any (some ⟨g, 0, none⟩) 3 smp kB (by decide) w1 (Or.inr hS1); rw [get_ex] at this; exact this)
  have HF1 := hideIt hF1
  clear hS1 hF1
  go_wp2_with fail
  refine Calls.mono hG.out ?_
  rintro e w2 ⟨rfl, hF2⟩
  have HF2 := hideIt (HF1.out.trans hF2 (fun _ _ e => e))
  clear hF2 hG HF1
  go_wp2_with fail
  refine Calls.mono (smp_any _) ?_
  rintro e w3 ⟨g3, rfl, hS3, hF3⟩
  have hA0 : Fr (fun _ => False) w3 (w3.alloc (.cells #[.string kC, .string v3, .bool false, .string kA, .string ⟨#[]⟩, .bool true] 52)) := (Fr.refl _ _).alloc _
  have hA := hideIt (eapply_any (some ⟨g3, 0, none⟩) (some ⟨w3.heap.size, 0, none⟩) 3 2 smp [(kC, v3, false), (kA, ⟨#[]⟩, true)] (w3.alloc (.cells #[.string kC, .string v3, .bool false, .string kA, .string ⟨#[]⟩, .bool true] 52)) (Or.inr (hS3.fr0 hA0)) (Or.inr (ws_new2 w3 (kC, v3, false) (kA, ⟨#[]⟩, true) 52 _ rfl)) (by decide) (by decide) (by decide))
  have HF3 := hideIt (HF2.out.trans (hF3.trans hA0 (fun _ _ e => e)) (fun _ _ e => e))
  clear hS3 hF3 HF2 hA0
  go_wp2_with fail
  refine Calls.mono hA.out ?_
  rintro e w4 ⟨ao, cap, rfl, hrow, hF4, hnew⟩
  rw [ap_ex2] at hrow
  rw [ap_ex1, ap_ex2]
  have hB0 : Fr (fun _ => False) w4 (w4.alloc (.cells #[.string kB, .string v2, .string kC, .string v3, .string kD, .string v4] 60)) := (Fr.refl _ _).alloc _
  have hS := hideIt (samep_any ao (some ⟨w4.heap.size, 0, none⟩) cap 3 [(kB, v2), (kC, v3), (kD, v4)] [(kB, v2), (kC, v3), (kD, v4)] _ (Or.inr (hrow.at.fr0 hB0)) (Or.inr (sps_new3 w4 (kB, v2) (kC, v3) (kD, v4) 60 _ rfl)) (by decide) (by decide))
  rw [show decide ([(kB, v2), (kC, v3), (kD, v4)] = [(kB, v2), (kC, v3), (kD, v4)]) = true from decide_eq_true rfl] at hS
  have HF4 := hideIt (HF3.out.trans (hF4.trans hB0 (fun _ _ e => e)) (fun _ _ e => e))
  clear hrow hF4 hnew hB0 HF3 hA
  go_wp2_with fail
  refine Calls.mono hS.out ?_
  rintro e w5 ⟨rfl, hF5⟩
  have HF5 := hideIt (HF4.out.trans hF5 (fun _ _ e => e))
  clear hF5
  go_wp2_with fail
  go_ret
  exact ⟨rfl, HF5.out⟩

end Go.Proofs.Ytefikadaiconaaa
