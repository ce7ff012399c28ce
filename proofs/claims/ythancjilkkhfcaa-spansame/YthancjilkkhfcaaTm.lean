/- Spans: what the statements ask of lists. -/
import Derived.Test.YthancjilkkhfcaaTl
import Derived.Deep.QuietTactic
namespace Go.Proofs.Ythancjilkkhfcaa
open Go.RowKit Go.IntWalk
set_option linter.unusedSimpArgs false
set_option linter.unusedVariables false

theorem sp_eq (x y : Sp) : decide (x = y) = (x.1.toList == y.1.toList && x.2.toList == y.2.toList) := by
  rw [Bool.eq_iff_iff]
  simp only [decide_eq_true_eq, Bool.and_eq_true, beq_iff_eq]
  exact ⟨fun e => by rw [e]; exact ⟨rfl, rfl⟩, fun e => sp_ext e.1 e.2⟩

theorem eqIn_sp (x y : Sp) (w : World) : (Op.equalIn 10000 23 (.agg #[.string x.1, .string x.2]) (.agg #[.string y.1, .string y.2])).run Try.prog w = .ok (decide (x = y)) w := by
  have u3 := Try.underlying9
  have a3 := Try.isAgg9
  have z3 := Try.sizeOf9
  rw [sp_eq, show (10000 : Nat) = 9999 + 1 from rfl, run_equalIn_agg w 9999 23 _ _ (by kernel_rfl) (by kernel_rfl)]
  simp only [Program.fieldsOf, Try.underlying23]
  go_simp
  by_cases h1 : x.1.toList = y.1.toList <;> by_cases h2 : x.2.toList = y.2.toList <;> simp [h1, h2]

theorem eql_sp (x y : Sp) (w : World) : (binOp .eql 23 (.agg #[.string x.1, .string x.2]) (.agg #[.string y.1, .string y.2])).run Try.prog w = .ok (.bool (decide (x = y))) w := by
  rw [run_eql_struct, eqIn_sp]
  rfl

theorem neq_sp (x y : Sp) (w : World) : (binOp .neq 23 (.agg #[.string x.1, .string x.2]) (.agg #[.string y.1, .string y.2])).run Try.prog w = .ok (.bool (!decide (x = y))) w := by
  rw [run_neq_struct, eqIn_sp]
  rfl

theorem copy_any (ao : Option Addr) (cap : Nat) (l : List Sp) (w : World) (h : l = [] ∨ SpsAt w ao l) (hb : l.length ≤ 1099511627776) :
    Calls Try.prog 21 #[.slice ao l.length cap] w fun e w' => ∃ ao' cap', e = .returned (.slice ao' l.length cap') ∧ SpRow w' ao' cap' l ∧ Fr (fun _ => False) w w' ∧ ∀ k, blk ao' k → w.heap.size ≤ k := by
  have hF0 : Fr (fun _ => False) w (w.alloc (.cells #[] 23)) := (Fr.refl _ _).alloc _
  have hrow0 : SpRow (w.alloc (.cells #[] 23)) (some ⟨w.heap.size, 0, none⟩) 0 [] := World.ownsRow_made w #[] 0 (Nat.zero_le _) (by decide) rfl
  obtain ⟨ao', cap', w1, hrun, hrow, hF, hao⟩ := spans_append _ (some ⟨w.heap.size, 0, none⟩) 0 [] l hrow0 ao cap (ats_fr0 h hF0) (by simpa using hb)
  simp only [List.length_nil, Nat.zero_add, List.nil_append] at hrun hrow
  have HR := hideIt hrun
  have HFIN := hideIt (show ∃ ao'' cap'', Ending.returned (.slice ao' l.length cap') = .returned (.slice ao'' l.length cap'') ∧ SpRow w1 ao'' cap'' l ∧ Fr (fun _ => False) w w1 ∧ ∀ k, blk ao'' k → w.heap.size ≤ k from
    ⟨ao', cap', rfl, hrow, hF0.trans hF (fun i hi ⟨a, e1, e2⟩ => by obtain rfl := Option.some.inj e1; simp at e2; omega), fun k hk => by
      obtain ⟨a, e1, e2⟩ := hk
      rcases hao with e | e <;> rw [e] at e1 <;> obtain rfl := Option.some.inj e1 <;> simp at e2 <;> omega⟩)
  clear hrun hrow hF hao hrow0 hF0 h
  go_enter Try.func21, Try.ntmps21
  go_wp2_with (first | (at_builtin; refine wpList_append_run _ rfl (.tmp 3) (.tmp 4) 25 25 rfl _ _ _ _ rfl rfl HR.out ?_))
  go_ret
  exact HFIN.out

set_option maxRecDepth 100000 in
set_option maxHeartbeats 1000000 in
theorem sames_any (ao bo : Option Addr) (ca cb : Nat) (xs ys : List Sp) (w : World) (ha : xs = [] ∨ SpsAt w ao xs) (hb : ys = [] ∨ SpsAt w bo ys) (hx : xs.length ≤ 1099511627776) (hy : ys.length ≤ 1099511627776) :
    Calls Try.prog 23 #[.slice ao xs.length ca, .slice bo ys.length cb] w fun e w' => e = .returned (.bool (decide (xs = ys))) ∧ Fr (fun _ => False) w w' := by
  have HA := hideIt ha
  have HB := hideIt hb
  clear ha hb
  by_cases hl : xs.length = ys.length
  · have hne : ((xs.length : Int) != (ys.length : Int)) = false := by simp [hl]
    have HL := hideIt hl
    go_enter Try.func23, Try.ntmps23
    go_wp2_with fail
    go_loopw [5] (fun i wr => ∃ k : Nat, i = .int .i64 k ∧ k ≤ xs.length ∧ Hid (xs.take k = ys.take k) ∧ Fr (fun _ => False) w wr) (fun i _ => xs.length - (intOf i).toNat)
    case atStart => exact ⟨0, rfl, Nat.zero_le _, hideIt rfl, Fr.refl _ _⟩
    case round =>
      obtain ⟨k, rfl, hk, HT, hF⟩ := hrel
      by_cases hlt : k < xs.length
      · have hlt2 : k < ys.length := by have := HL.out; omega
        obtain ⟨b, off, rfl, hbl, c0, c1⟩ := SpsAt.get (ats_fr0 HA.out hF) k hlt
        obtain ⟨b2, off2, rfl, hbl2, c2, c3⟩ := SpsAt.get (ats_fr0 HB.out hF) k hlt2
        have HF := hideIt hF
        have HX := hideIt (List.take_succ_eq_append_getElem hlt)
        have HY := hideIt (List.take_succ_eq_append_getElem hlt2)
        have HDX := hideIt (List.getElem?_eq_getElem hlt)
        have HDY := hideIt (List.getElem?_eq_getElem hlt2)
        clear hF
        generalize xs[k] = x at *
        generalize ys[k] = y at *
        by_cases hxy : x = y
        · have hq := neq_sp x y
          rw [show decide (x = y) = true from decide_eq_true hxy] at hq
          have HXY := hideIt hxy
          clear hxy hl hne
          go_wp2_with fail
          go_quiet (fail)
          go_wp2_with fail
          go_roundw
          case measure => simp [intOf]; omega
          case rel => exact ⟨k + 1, by go_num, by omega, hideIt (by rw [HX.out, HY.out, HT.out, HXY.out]), HF.out.drewN _⟩
        · have hq := neq_sp x y
          rw [show decide (x = y) = false from decide_eq_false hxy] at hq
          have HXY : Hid (decide (xs = ys) = false) := hideIt (decide_eq_false fun e => hxy (by have h1 := HDX.out; have h2 := HDY.out; rw [e] at h1; exact Option.some.inj (h1.symm.trans h2)))
          clear hxy hl hne
          go_wp2_with fail
          go_quiet (fail)
          go_wp2_with fail
          go_ret
          exact ⟨by rw [HXY.out]; rfl, HF.out.drewN _⟩
      · obtain rfl : k = xs.length := by omega
        have HXY : Hid (decide (xs = ys) = true) := hideIt (decide_eq_true (by have h := HT.out; rw [List.take_length, HL.out, List.take_length] at h; exact h))
        have HF := hideIt hF
        clear hF hl hne
        go_wp2_with fail
        go_ret
        exact ⟨by rw [HXY.out]; rfl, HF.out⟩
  · have hne : ((xs.length : Int) != (ys.length : Int)) = true := by simp; omega
    have HXY : Hid (decide (xs = ys) = false) := hideIt (decide_eq_false fun e => hl (by rw [e]))
    clear hl
    go_enter Try.func23, Try.ntmps23
    go_wp2_with fail
    go_ret
    exact ⟨by rw [HXY.out]; rfl, Fr.refl _ _⟩

end Go.Proofs.Ythancjilkkhfcaa
