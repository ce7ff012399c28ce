/- ProgTells, part 15 of the road: what the program's functions do, each by its own walk. -/
import Derived.Test.YtojgikaoiegmpaaGreatDoorQ14
import Derived.Lib.Strings
import Derived.Test.YtojgikaoiegmpaaGreatDoorQ13
import Derived.Test.YtojgikaoiegmpaaGreatDoorQ6
import Derived.Test.YtojgikaoiegmpaaGreatDoorQ2

/- Package prog: Same, walked. -/
namespace Go.Proofs.YtojgikaoiegmpaaGreatDoor
open Go.RowKit Go.IntWalk
set_option linter.unusedSimpArgs false
set_option linter.unusedVariables false
set_option maxRecDepth 100000

/-- Whether two instructions are one. -/
def insQ (i k : Ins) : Bool := i.op == k.op && (i.a == k.a && (i.b == k.b && (i.c == k.c && (i.n == k.n && i.s.toList == k.s.toList))))
theorem insQ_iff (i k : Ins) : insQ i k = true ↔ i = k := by
  constructor
  · intro h
    simp only [insQ, Bool.and_eq_true, beq_iff_eq] at h
    obtain ⟨e0, e1, e2, e3, e4, e5⟩ := h
    have e6 : i.s = k.s := by
      rw [Lib.toList_data, Lib.toList_data] at e5
      cases hi : i.s; cases hk : k.s
      rw [hi, hk] at e5
      simp only [ByteArray.mk.injEq]
      exact Array.ext' e5
    clear e5
    cases i; cases k
    simp only at e0 e1 e2 e3 e4 e6
    subst e0 e1 e2 e3 e4 e6
    rfl
  · rintro rfl
    simp [insQ]
theorem eqInQ (i k : Ins) (w : World) : (Op.equalIn 10000 40 (.agg (icells i)) (.agg (icells k))).run Tryz.prog w = .ok (insQ i k) w := by
  obtain ⟨op, a, b, c, n, s⟩ := i
  obtain ⟨op', a', b', c', n', s'⟩ := k
  have u3 := Tryz.underlying9
  have a3 := Tryz.isAgg9
  have z3 := Tryz.sizeOf9
  have u4 := Tryz.underlying3
  have a4 := Tryz.isAgg3
  have z4 := Tryz.sizeOf3
  rw [show (10000 : Nat) = 9999 + 1 from rfl, run_equalIn_agg w 9999 40 _ _ (by kernel_rfl) (by kernel_rfl)]
  unfold icells insQ
  simp only [Program.fieldsOf, Tryz.underlying40]
  go_simp
  by_cases h0 : op = op' <;> by_cases h1 : a = a' <;> by_cases h2 : b = b' <;> by_cases h3 : c = c' <;> by_cases h4 : n = n' <;> by_cases h5 : s.toList = s'.toList <;> simp [h0, h1, h2, h3, h4, h5]
theorem neqQ (i k : Ins) (w : World) : (binOp .neq 40 (.agg (icells i)) (.agg (icells k))).run Tryz.prog w = .ok (.bool (!insQ i k)) w := by
  rw [run_neq_struct, eqInQ]
  rfl
theorem yields_binQ {P : Program} {o : Oper} {a : Act} {w : World} (op : BinOp) (t t' : TypeId) (x y : Operand) (ho : o.op = .binOp op t x y t') (v1 v2 v : Value) (hx : a.eval x = v1) (hy : a.eval y = v2)
    (hrun : (binOp op t v1 v2).run P w = .ok v w) (hg : (eqGuard op t x y v1 v2).run P w = .ok () w) : (execOp a.eval o).run P w = .ok (.value v) w := by
  unfold execOp
  simp only [ho, hx, hy, Sem.run_bind, hg, hrun, Result.andThen_ok, Sem.run_pure]
theorem grdQ (w : World) (op : BinOp) (x y : Operand) (i k : Ins) : (eqGuard op 40 x y (.agg (icells i)) (.agg (icells k))).run Tryz.prog w = .ok () w := run_eqGuard_agg w op 40 x y _ _ (by kernel_rfl)

/-- Whether two lists are one. -/
def SameP (l m : List Ins) (w : World) (e : Ending) (w' : World) : Prop := ∃ r : Bool, e = .returned (.bool r) ∧ (r = true ↔ l = m) ∧ Fr (fun _ => False) w w'
set_option maxRecDepth 100000 in
set_option maxHeartbeats 2000000 in
theorem geql_any (ao bo : Option Addr) (cap cap2 : Nat) (l m : List Ins) (hl : l.length ≤ 1099511627776) (hm : m.length ≤ 1099511627776) (w : World) (hA : InsRow w ao l) (hB : InsRow w bo m) : Calls Tryz.prog 36 #[.slice ao l.length cap, .slice bo m.length cap2] w (SameP l m w) := by
  have HA := hideIt (fun W (hF : Fr (fun _ => False) w W) => hA.fr hF (fun _ _ _ e => e))
  have HB := hideIt (fun W (hF : Fr (fun _ => False) w W) => hB.fr hF (fun _ _ _ e => e))
  clear hA hB
  by_cases hne : l.length = m.length
  · have hml : ((m.length : Nat) : Int) = ((l.length : Nat) : Int) := by omega
    have HNE := hideIt hne
    rw [show m.length = l.length from hne.symm]
    clear hne hml
    go_enter Tryz.func36, Tryz.ntmps36
    go_wp2_with fail
    go_loopw [13] (fun s13 wr => ∃ k : Nat, s13 = .int .i64 k ∧ k ≤ l.length ∧ Hid (l.take k = m.take k) ∧ Hid (Fr (fun _ => False) w wr)) (fun s13 _ => l.length - (intOf s13).toNat)
    case atStart => exact ⟨0, rfl, by omega, hideIt (by simp), hideIt (Fr.refl _ _)⟩
    case round =>
      obtain ⟨k, rfl, hk, HT, HF⟩ := hrel
      by_cases hlt : k < l.length
      · have h1 : (k : Int) < (l.length : Int) := by omega
        have hlt2 : k < m.length := by have := HNE.out; omega
        obtain ⟨b, off, rfl, hb, hR⟩ := (HA.out wr HF.out).get k hlt
        obtain ⟨b2, off2, rfl, hb2, hR2⟩ := (HB.out wr HF.out).get k hlt2
        have HR := hideIt hR
        have HR2 := hideIt hR2
        have HIJ := hideIt (insSize l[k])
        have HIJ2 := hideIt (insSize m[k])
        have HQN := hideIt (fun w => neqQ l[k] m[k] w)
        have HQG := hideIt (fun w (x y : Operand) => grdQ w .neq x y l[k] m[k])
        have HQI := hideIt (insQ_iff l[k] m[k])
        clear hR hR2
        generalize insQ l[k] m[k] = q at *
        generalize icells l[k] = C at *
        generalize icells m[k] = D at *
        have n0 : (0 : Int) ≤ (k : Int) := by omega
        go_wp2_with fail
        refine wp_region_held_drew (S := (fun w' => w'.rangeAt b (off + k * 6) C.toList ∧ w'.rangeAt b2 (off2 + k * 6) D.toList)) (by kernel_rfl) ?_ (fun hHeld => ?_)
        · exact ⟨HR.out, HR2.out⟩
        refine wpAnyH_take (i := 0) (v := ?v1) rfl (by kernel_rfl) (by kernel_rfl) (by kernel_rfl) (fun _ _ _ h => h) (Or.inl ⟨by kernel_rfl, ?hy1⟩) (by assumption) ?rest1
        case hy1 => intro w hSw; (try dsimp only at hSw); go_simp; (try with_reducible rfl)
        try simp only [Act.put, List.getElem_toArray, List.getElem_cons_zero, List.getElem_cons_succ, List.setIfInBounds_toArray, List.set_cons_zero, List.set_cons_succ]
        refine wpAnyH_take (i := 1) (v := ?v2) rfl (by kernel_rfl) (by kernel_rfl) (by kernel_rfl) (fun _ _ _ h => h) (Or.inl ⟨by kernel_rfl, ?hy2⟩) (by assumption) ?rest2
        case hy2 => intro w hSw; (try dsimp only at hSw); go_simp; (try with_reducible rfl)
        try simp only [Act.put, List.getElem_toArray, List.getElem_cons_zero, List.getElem_cons_succ, List.setIfInBounds_toArray, List.set_cons_zero, List.set_cons_succ]
        refine wpAnyH_take (i := 2) (v := ?v3) rfl (by kernel_rfl) (by kernel_rfl) (by kernel_rfl) (fun _ _ _ h => h) (Or.inl ⟨by kernel_rfl, ?hy3⟩) (by assumption) ?rest3
        case hy3 => intro w hSw; (try dsimp only at hSw); go_simp; (try with_reducible rfl)
        try simp only [Act.put, List.getElem_toArray, List.getElem_cons_zero, List.getElem_cons_succ, List.setIfInBounds_toArray, List.set_cons_zero, List.set_cons_succ]
        refine wpAnyH_take (i := 4) (v := ?v4) rfl (by kernel_rfl) (by kernel_rfl) (by kernel_rfl) (fun _ _ _ h => h) (Or.inl ⟨by kernel_rfl, ?hy4⟩) (by assumption) ?rest4
        case hy4 => intro w hSw; (try dsimp only at hSw); go_simp; (try with_reducible rfl)
        try simp only [Act.put, List.getElem_toArray, List.getElem_cons_zero, List.getElem_cons_succ, List.setIfInBounds_toArray, List.set_cons_zero, List.set_cons_succ]
        refine wpAnyH_take (i := 5) (v := ?v5) rfl (by kernel_rfl) (by kernel_rfl) (by kernel_rfl) (fun _ _ _ h => h) (Or.inl ⟨by kernel_rfl, ?hy5⟩) (by assumption) ?rest5
        case hy5 => intro w hSw; (try dsimp only at hSw); go_simp; (try with_reducible rfl)
        try simp only [Act.put, List.getElem_toArray, List.getElem_cons_zero, List.getElem_cons_succ, List.setIfInBounds_toArray, List.set_cons_zero, List.set_cons_succ]
        refine wpAnyH_take (i := 6) (v := ?v6) rfl (by kernel_rfl) (by kernel_rfl) (by kernel_rfl) (fun _ _ _ h => h) (Or.inl ⟨by kernel_rfl, ?hy6⟩) (by assumption) ?rest6
        case hy6 => intro w hSw; (try dsimp only at hSw); go_simp; (try with_reducible rfl)
        try simp only [Act.put, List.getElem_toArray, List.getElem_cons_zero, List.getElem_cons_succ, List.setIfInBounds_toArray, List.set_cons_zero, List.set_cons_succ]
        refine wpAnyH_take (i := 3) (v := (.agg C)) rfl (by kernel_rfl) (by kernel_rfl) (by kernel_rfl) (fun _ _ _ h => h) (Or.inl ⟨by kernel_rfl, fun w0 hSw => ylm 40 (.tmp 18) rfl b (off + k * 6) rfl C _ hSw.1 Tryz.underlying40 rfl HIJ.out⟩) (by assumption) ?_
        try simp only [Act.put, List.getElem_toArray, List.getElem_cons_zero, List.getElem_cons_succ, List.setIfInBounds_toArray, List.set_cons_zero, List.set_cons_succ]
        refine wpAnyH_take (i := 7) (v := (.agg D)) rfl (by kernel_rfl) (by kernel_rfl) (by kernel_rfl) (fun _ _ _ h => h) (Or.inl ⟨by kernel_rfl, fun w0 hSw => ylm 40 (.tmp 22) rfl b2 (off2 + k * 6) rfl D _ hSw.2 Tryz.underlying40 rfl HIJ2.out⟩) (by assumption) ?_
        try simp only [Act.put, List.getElem_toArray, List.getElem_cons_zero, List.getElem_cons_succ, List.setIfInBounds_toArray, List.set_cons_zero, List.set_cons_succ]
        refine wpAnyH_take (i := 8) (v := .bool (!q)) rfl (by kernel_rfl) (by kernel_rfl) (by kernel_rfl) (fun _ _ _ h => h) (Or.inl ⟨by kernel_rfl, fun w0 hSw => yields_binQ .neq 40 40 (.tmp 19) (.tmp 23) rfl (.agg C) (.agg D) (.bool (!q)) rfl rfl (HQN.out _) (HQG.out _ _ _)⟩) (by assumption) ?_
        try simp only [Act.put, List.getElem_toArray, List.getElem_cons_zero, List.getElem_cons_succ, List.setIfInBounds_toArray, List.set_cons_zero, List.set_cons_succ]
        refine wpAnyH_done (by kernel_rfl) ?_ _
        have HF2 := hideIt (HF.out.trans ((Fr.refl (fun _ => False) wr).drew) (fun _ _ e => e))
        clear hHeld HF
        by_cases hq : q = true
        · have HT2 := hideIt (show l.take (k + 1) = m.take (k + 1) by
            rw [List.take_succ_eq_append_getElem hlt, List.take_succ_eq_append_getElem hlt2, HT.out, HQI.out.1 hq])
          subst hq
          go_wp2_with fail
          go_roundw
          case measure => simp [intOf]; omega
          case rel => exact ⟨k + 1, by go_num, by omega, HT2, HF2⟩
        · have HX := hideIt (show ¬ l = m from fun h => hq (HQI.out.2 (by subst h; rfl)))
          have hq2 : q = false := by simpa using hq
          subst hq2
          go_wp2_with fail
          go_ret
          exact ⟨false, rfl, ⟨fun h => (by cases h), fun h => absurd h HX.out⟩, HF2.out⟩
      · have hje : k = l.length := by omega
        have hjn : ¬ (k : Int) < (l.length : Int) := by omega
        have HLM := hideIt (show l = m by
          have h := HT.out
          rwa [List.take_of_length_le (by omega), List.take_of_length_le (by have := HNE.out; omega)] at h)
        go_wp2_with fail
        go_ret
        exact ⟨true, rfl, ⟨fun _ => HLM.out, fun _ => rfl⟩, HF.out⟩
  · have hne2 : ¬ ((l.length : Nat) : Int) = ((m.length : Nat) : Int) := by omega
    have hne3 : (((l.length : Nat) : Int) == ((m.length : Nat) : Int)) = false := beq_eq_false_iff_ne.2 hne2
    have HNE := hideIt hne
    go_enter Tryz.func36, Tryz.ntmps36
    go_wp2_with fail
    go_ret
    exact ⟨false, rfl, ⟨fun h => (by cases h), fun h => absurd (by rw [h]) HNE.out⟩, Fr.refl _ _⟩

theorem gsame_any (ao bo : Option Addr) (cap cap2 : Nat) (l m : List Ins) (hl : l.length ≤ 1099511627776) (hm : m.length ≤ 1099511627776) (w : World) (hA : InsRow w ao l) (hB : InsRow w bo m) : Calls Tryz.prog 14 #[.slice ao l.length cap, .slice bo m.length cap2] w (SameP l m w) := by
  have HC := hideIt (geql_any ao bo cap cap2 l m hl hm w hA hB)
  clear hA hB
  go_enter Tryz.func14, Tryz.ntmps14
  go_wp2_with fail
  refine Calls.mono HC.out ?_
  rintro e w1 ⟨r, rfl, hr, hF⟩
  have HR := hideIt (And.intro hr hF)
  clear hr hF
  go_wp2_with fail
  go_ret
  exact ⟨r, rfl, HR.out.1, HR.out.2⟩

end Go.Proofs.YtojgikaoiegmpaaGreatDoor

/- Package prog: what the laws ask besides: SameProg, fails, awake. -/
namespace Go.Proofs.YtojgikaoiegmpaaGreatDoor
open Go.RowKit Go.IntWalk
set_option linter.unusedSimpArgs false
set_option linter.unusedVariables false
set_option maxRecDepth 100000

set_option maxRecDepth 100000 in
set_option maxHeartbeats 2000000 in
theorem ksameprog_any (ao bo : Option Addr) (cap cap2 : Nat) (l m : List Ins) (hl : l.length ≤ 1099511627776) (hm : m.length ≤ 1099511627776) (w : World) (hA : InsRow w ao l) (hB : InsRow w bo m) : Calls Tryz.prog 17 #[.slice ao l.length cap, .slice bo m.length cap2] w (SameP l m w) := by
  have HA := hideIt (fun W (hF : Fr (fun _ => False) w W) => hA.fr hF (fun _ _ _ e => e))
  have HB := hideIt (fun W (hF : Fr (fun _ => False) w W) => hB.fr hF (fun _ _ _ e => e))
  clear hA hB
  by_cases hne : l.length = m.length
  · have hml : ((m.length : Nat) : Int) = ((l.length : Nat) : Int) := by omega
    have HNE := hideIt hne
    rw [show m.length = l.length from hne.symm]
    clear hne hml
    go_enter Tryz.func17, Tryz.ntmps17
    go_wp2_with fail
    go_loopw [5] (fun s5 wr => ∃ k : Nat, s5 = .int .i64 k ∧ k ≤ l.length ∧ Hid (l.take k = m.take k) ∧ Hid (Fr (fun _ => False) w wr)) (fun s5 _ => l.length - (intOf s5).toNat)
    case atStart => exact ⟨0, rfl, by omega, hideIt (by simp), hideIt (Fr.refl _ _)⟩
    case round =>
      obtain ⟨k, rfl, hk, HT, HF⟩ := hrel
      by_cases hlt : k < l.length
      · have h1 : (k : Int) < (l.length : Int) := by omega
        have hlt2 : k < m.length := by have := HNE.out; omega
        obtain ⟨b, off, rfl, hb, hR⟩ := (HA.out wr HF.out).get k hlt
        obtain ⟨b2, off2, rfl, hb2, hR2⟩ := (HB.out wr HF.out).get k hlt2
        have HR := hideIt hR
        have HR2 := hideIt hR2
        have HIJ := hideIt (insSize l[k])
        have HIJ2 := hideIt (insSize m[k])
        have HQN := hideIt (fun w => neqQ l[k] m[k] w)
        have HQG := hideIt (fun w (x y : Operand) => grdQ w .neq x y l[k] m[k])
        have HQI := hideIt (insQ_iff l[k] m[k])
        clear hR hR2
        generalize insQ l[k] m[k] = q at *
        generalize icells l[k] = C at *
        generalize icells m[k] = D at *
        have n0 : (0 : Int) ≤ (k : Int) := by omega
        go_wp2_with fail
        refine wp_region_held_drew (S := (fun w' => w'.rangeAt b (off + k * 6) C.toList ∧ w'.rangeAt b2 (off2 + k * 6) D.toList)) (by kernel_rfl) ?_ (fun hHeld => ?_)
        · exact ⟨HR.out, HR2.out⟩
        refine wpAnyH_take (i := 0) (v := ?v1) rfl (by kernel_rfl) (by kernel_rfl) (by kernel_rfl) (fun _ _ _ h => h) (Or.inl ⟨by kernel_rfl, ?hy1⟩) (by assumption) ?rest1
        case hy1 => intro w hSw; (try dsimp only at hSw); go_simp; (try with_reducible rfl)
        try simp only [Act.put, List.getElem_toArray, List.getElem_cons_zero, List.getElem_cons_succ, List.setIfInBounds_toArray, List.set_cons_zero, List.set_cons_succ]
        refine wpAnyH_take (i := 1) (v := ?v2) rfl (by kernel_rfl) (by kernel_rfl) (by kernel_rfl) (fun _ _ _ h => h) (Or.inl ⟨by kernel_rfl, ?hy2⟩) (by assumption) ?rest2
        case hy2 => intro w hSw; (try dsimp only at hSw); go_simp; (try with_reducible rfl)
        try simp only [Act.put, List.getElem_toArray, List.getElem_cons_zero, List.getElem_cons_succ, List.setIfInBounds_toArray, List.set_cons_zero, List.set_cons_succ]
        refine wpAnyH_take (i := 2) (v := ?v3) rfl (by kernel_rfl) (by kernel_rfl) (by kernel_rfl) (fun _ _ _ h => h) (Or.inl ⟨by kernel_rfl, ?hy3⟩) (by assumption) ?rest3
        case hy3 => intro w hSw; (try dsimp only at hSw); go_simp; (try with_reducible rfl)
        try simp only [Act.put, List.getElem_toArray, List.getElem_cons_zero, List.getElem_cons_succ, List.setIfInBounds_toArray, List.set_cons_zero, List.set_cons_succ]
        refine wpAnyH_take (i := 4) (v := ?v4) rfl (by kernel_rfl) (by kernel_rfl) (by kernel_rfl) (fun _ _ _ h => h) (Or.inl ⟨by kernel_rfl, ?hy4⟩) (by assumption) ?rest4
        case hy4 => intro w hSw; (try dsimp only at hSw); go_simp; (try with_reducible rfl)
        try simp only [Act.put, List.getElem_toArray, List.getElem_cons_zero, List.getElem_cons_succ, List.setIfInBounds_toArray, List.set_cons_zero, List.set_cons_succ]
        refine wpAnyH_take (i := 5) (v := ?v5) rfl (by kernel_rfl) (by kernel_rfl) (by kernel_rfl) (fun _ _ _ h => h) (Or.inl ⟨by kernel_rfl, ?hy5⟩) (by assumption) ?rest5
        case hy5 => intro w hSw; (try dsimp only at hSw); go_simp; (try with_reducible rfl)
        try simp only [Act.put, List.getElem_toArray, List.getElem_cons_zero, List.getElem_cons_succ, List.setIfInBounds_toArray, List.set_cons_zero, List.set_cons_succ]
        refine wpAnyH_take (i := 6) (v := ?v6) rfl (by kernel_rfl) (by kernel_rfl) (by kernel_rfl) (fun _ _ _ h => h) (Or.inl ⟨by kernel_rfl, ?hy6⟩) (by assumption) ?rest6
        case hy6 => intro w hSw; (try dsimp only at hSw); go_simp; (try with_reducible rfl)
        try simp only [Act.put, List.getElem_toArray, List.getElem_cons_zero, List.getElem_cons_succ, List.setIfInBounds_toArray, List.set_cons_zero, List.set_cons_succ]
        refine wpAnyH_take (i := 3) (v := (.agg C)) rfl (by kernel_rfl) (by kernel_rfl) (by kernel_rfl) (fun _ _ _ h => h) (Or.inl ⟨by kernel_rfl, fun w0 hSw => ylm 40 (.tmp 19) rfl b (off + k * 6) rfl C _ hSw.1 Tryz.underlying40 rfl HIJ.out⟩) (by assumption) ?_
        try simp only [Act.put, List.getElem_toArray, List.getElem_cons_zero, List.getElem_cons_succ, List.setIfInBounds_toArray, List.set_cons_zero, List.set_cons_succ]
        refine wpAnyH_take (i := 7) (v := (.agg D)) rfl (by kernel_rfl) (by kernel_rfl) (by kernel_rfl) (fun _ _ _ h => h) (Or.inl ⟨by kernel_rfl, fun w0 hSw => ylm 40 (.tmp 23) rfl b2 (off2 + k * 6) rfl D _ hSw.2 Tryz.underlying40 rfl HIJ2.out⟩) (by assumption) ?_
        try simp only [Act.put, List.getElem_toArray, List.getElem_cons_zero, List.getElem_cons_succ, List.setIfInBounds_toArray, List.set_cons_zero, List.set_cons_succ]
        refine wpAnyH_take (i := 8) (v := .bool (!q)) rfl (by kernel_rfl) (by kernel_rfl) (by kernel_rfl) (fun _ _ _ h => h) (Or.inl ⟨by kernel_rfl, fun w0 hSw => yields_binQ .neq 40 40 (.tmp 20) (.tmp 24) rfl (.agg C) (.agg D) (.bool (!q)) rfl rfl (HQN.out _) (HQG.out _ _ _)⟩) (by assumption) ?_
        try simp only [Act.put, List.getElem_toArray, List.getElem_cons_zero, List.getElem_cons_succ, List.setIfInBounds_toArray, List.set_cons_zero, List.set_cons_succ]
        refine wpAnyH_done (by kernel_rfl) ?_ _
        have HF2 := hideIt (HF.out.trans ((Fr.refl (fun _ => False) wr).drew) (fun _ _ e => e))
        clear hHeld HF
        by_cases hq : q = true
        · have HT2 := hideIt (show l.take (k + 1) = m.take (k + 1) by
            rw [List.take_succ_eq_append_getElem hlt, List.take_succ_eq_append_getElem hlt2, HT.out, HQI.out.1 hq])
          subst hq
          go_wp2_with fail
          go_roundw
          case measure => simp [intOf]; omega
          case rel => exact ⟨k + 1, by go_num, by omega, HT2, HF2⟩
        · have HX := hideIt (show ¬ l = m from fun h => hq (HQI.out.2 (by subst h; rfl)))
          have hq2 : q = false := by simpa using hq
          subst hq2
          go_wp2_with fail
          go_ret
          exact ⟨false, rfl, ⟨fun h => (by cases h), fun h => absurd h HX.out⟩, HF2.out⟩
      · have hje : k = l.length := by omega
        have hjn : ¬ (k : Int) < (l.length : Int) := by omega
        have HLM := hideIt (show l = m by
          have h := HT.out
          rwa [List.take_of_length_le (by omega), List.take_of_length_le (by have := HNE.out; omega)] at h)
        go_wp2_with fail
        go_ret
        exact ⟨true, rfl, ⟨fun _ => HLM.out, fun _ => rfl⟩, HF.out⟩
  · have hne2 : ¬ ((l.length : Nat) : Int) = ((m.length : Nat) : Int) := by omega
    have hne3 : (((l.length : Nat) : Int) == ((m.length : Nat) : Int)) = false := beq_eq_false_iff_ne.2 hne2
    have HNE := hideIt hne
    go_enter Tryz.func17, Tryz.ntmps17
    go_wp2_with fail
    go_ret
    exact ⟨false, rfl, ⟨fun h => (by cases h), fun h => absurd (by rw [h]) HNE.out⟩, Fr.refl _ _⟩

/-- What Check tells, as a pair. -/
noncomputable def chkF (l : List Ins) : Int × Int :=
  if 60 < l.length then (3, 60)
  else match (List.range l.length).find? (fun j => match l[j]? with | some i => !(checkE i == 0) | none => false) with
    | some j => (2, (j : Int))
    | none => match (List.range l.length).find? (fun j => beyb l j) with
      | some j => (5, (j : Int))
      | none => match (List.range l.length).find? (fun j => decide ((512 : Int) < (bgn l (j + 1) : Int))) with
        | some j => (3, (j : Int))
        | none => (0, 0)
theorem badb_iff (l : List Ins) (j : Nat) : (match l[j]? with | some i => !(checkE i == 0) | none => false) = true ↔ badB l j := by
  unfold badB
  cases h : l[j]? with
  | none =>
    have := List.getElem?_eq_none_iff.1 h
    simp
    omega
  | some i =>
    obtain ⟨hj, e⟩ := List.getElem?_eq_some_iff.1 h
    simp [hj, e]
theorem find_first' (p : Nat → Bool) (q : Nat → Prop) (hq : ∀ j, p j = true ↔ q j) (n j : Nat) (hj : j < n) (hp : q j) (h : ∀ t, t < j → ¬ q t) : (List.range n).find? p = some j :=
  find_first p n j hj ((hq j).2 hp) (fun t ht => Bool.eq_false_iff.2 (fun e => h t ht ((hq t).1 e)))
theorem find_none' (p : Nat → Bool) (q : Nat → Prop) (hq : ∀ j, p j = true ↔ q j) (n : Nat) (h : ∀ t, t < n → ¬ q t) : (List.range n).find? p = none :=
  find_none p n (fun t ht => Bool.eq_false_iff.2 (fun e => h t ht ((hq t).1 e)))
theorem ChkP.eq {l : List Ins} {err at_ : Int} (h : ChkP l err at_) : chkF l = (err, at_) := by
  have hov : ∀ j, decide ((512 : Int) < (bgn l (j + 1) : Int)) = true ↔ ovrB l j := fun j => by rw [decide_eq_true_iff]; rfl
  unfold chkF
  rcases h with ⟨h, rfl, rfl⟩ | ⟨h60, ⟨j, hj, rfl, rfl, hb, ht⟩ | ⟨hnb, ⟨j, hj, rfl, rfl, hb, ht⟩ | ⟨hny, ⟨j, hj, rfl, rfl, hb, ht⟩ | ⟨hno, rfl, rfl⟩⟩⟩⟩
  · rw [if_pos h]
  · rw [if_neg (by omega), find_first' _ _ (badb_iff l) _ j hj hb ht]
  · rw [if_neg (by omega), find_none' _ _ (badb_iff l) _ hnb, find_first' _ _ (beyb_iff l) _ j hj hb ht]
  · rw [if_neg (by omega), find_none' _ _ (badb_iff l) _ hnb, find_none' _ _ (beyb_iff l) _ hny, find_first' _ _ hov _ j hj hb ht]
  · rw [if_neg (by omega), find_none' _ _ (badb_iff l) _ hnb, find_none' _ _ (beyb_iff l) _ hny, find_none' _ _ hov _ hno]
/-- What Check answers, by its pair. -/
theorem gchk (ao : Option Addr) (cap : Nat) (l : List Ins) (hl : l.length ≤ 140737488355328) (w : World) (hB : InsRow w ao l) : Calls Tryz.prog 7 #[.slice ao l.length cap] w fun e w' => e = .returned (.tuple #[.int .i64 (chkF l).1, .int .i64 (chkF l).2]) ∧ Fr (fun _ => False) w w' := by
  refine Calls.mono (gcheck_any ao cap l hl w hB) ?_
  rintro e w' ⟨⟨err, at_, rfl, h⟩, hF⟩
  rw [h.eq]
  exact ⟨rfl, hF⟩
noncomputable def progC (l : List Ins) : List UInt8 := if (chkF l).1 = 0 then progB l else []
theorem gbts (ao : Option Addr) (cap : Nat) (l : List Ins) (hl : l.length ≤ 140737488355328) (w : World) (hB : InsRow w ao l) : Calls Tryz.prog 9 #[.slice ao l.length cap] w fun e w' => ∃ ao' cap', e = .returned (.tuple #[.slice ao' (progC l).length cap', .int .i64 (chkF l).1]) ∧ Full w' ao' cap' (progC l) ∧ Fr (fun _ => False) w w' ∧ ∀ k, blk ao' k → w.heap.size ≤ k := by
  refine Calls.mono (gbytes_any ao cap l hl w hB) ?_
  rintro e w' ⟨ao', cap', err, at_, bs, h, rfl, rfl, hf, hF, hn⟩
  have e1 : (chkF l).1 = err := by rw [h.eq]
  unfold progC
  rw [e1]
  exact ⟨ao', cap', rfl, hf, hF, hn⟩

theorem phalt_any (w : World) : Calls Tryz.prog 19 #[] w fun e w' => e = .returned (.agg #[.int .i64 15, .int .i64 0, .int .i64 0, .int .i64 0, .int .i64 0, .string ⟨#[]⟩]) ∧ Fr (fun _ => False) w w' := by
  go_enter Tryz.func19, Tryz.ntmps19
  go_wp2_with fail
  refine bodyPost_ret (v := .agg #[.int .i64 15, .int .i64 0, .int .i64 0, .int .i64 0, .int .i64 0, .string ⟨#[]⟩]) (by simp [results, Tryz.results19, go_sem]) rfl ⟨rfl, ?_⟩
  exact (Fr.refl _ _).alloc _
theorem pjump_any (n : Int) (w : World) : Calls Tryz.prog 18 #[.int .i64 n] w fun e w' => e = .returned (.agg #[.int .i64 13, .int .i64 0, .int .i64 0, .int .i64 0, .int .i64 n, .string ⟨#[]⟩]) ∧ Fr (fun _ => False) w w' := by
  go_enter Tryz.func18, Tryz.ntmps18
  go_wp2_with fail
  refine bodyPost_ret (v := .agg #[.int .i64 13, .int .i64 0, .int .i64 0, .int .i64 0, .int .i64 n, .string ⟨#[]⟩]) (by simp [results, Tryz.results18, go_sem]) rfl ⟨rfl, ?_⟩
  exact (Fr.refl _ _).alloc _

set_option maxRecDepth 100000 in
set_option maxHeartbeats 2000000 in
theorem pfails_true (ao : Option Addr) (cap : Nat) (bs : List UInt8) (f1 f2 : Int) (w : World) (h : BsAt w ao bs) (hcap0 : ao = none → cap = 0) (hcl : bs.length ≤ cap) (hnb : ∀ k, blk ao k → k < w.heap.size) (hr : readP bs = ([], f1, f2)) :
    Calls Tryz.prog 20 #[.slice ao bs.length cap, .agg #[.int .i64 f1, .int .i64 f2]] w fun e w' => e = .returned (.bool true) ∧ Fr (fun _ => False) w w' := by
  have HR := hideIt (fun w' (hF : Fr (fun _ => False) w w') => by
    have := gRead_any ao cap bs w' (h.fr hF (fun _ _ _ e => e)) hcap0 hcl (fun k hk => Nat.lt_of_lt_of_le (hnb k hk) hF.size)
    rw [hr] at this
    exact this)
  clear h hr hcl hcap0 hnb
  go_enter Tryz.func20, Tryz.ntmps20
  go_wp2_with fail
  refine Calls.mono (HR.out _ ((Fr.refl _ _).alloc _)) ?_
  rintro e w1 ⟨a1, c1, rfl, _, hF1, _⟩
  dsimp only [List.length_nil] at *
  have HF1 := hideIt (((Fr.refl (fun _ => False) w).alloc (.cells #[.int .i64 f1, .int .i64 f2] 45)).trans hF1 (fun _ _ e => e))
  have hB := (hF1.block w.heap.size (by simp) (fun e => e)).trans (heap_new rfl)
  have hB0 := cellOfHeap hB 0 rfl
  have hB1 := cellOfHeap hB 1 rfl
  have hlt : w.heap.size < w1.heap.size := (Array.getElem?_eq_some_iff.1 hB).1
  have hne : w.heap.size ≠ w1.heap.size := by omega
  clear hF1 HR hB
  go_wp2_with fail
  go_ret
  exact ⟨rfl, HF1.out.alloc _⟩

theorem pfails_new (bs : List UInt8) (C : Array Value) (n : Nat) (f1 f2 : Int) (hC : (bv bs).toArray = C) (hn : bs.length = n) (hr : readP bs = ([], f1, f2)) (hl : n ≤ 100) (u : World) (k : Nat) (hk : k = u.heap.size) :
    Calls Tryz.prog 20 #[.slice (some ⟨k, 0, none⟩) n n, .agg #[.int .i64 f1, .int .i64 f2]] (u.alloc (.cells C 5)) fun e w' => e = .returned (.bool true) ∧ Fr (fun _ => False) (u.alloc (.cells C 5)) w' := by
  subst hn hk
  exact pfails_true (some ⟨u.heap.size, 0, none⟩) bs.length bs f1 f2 _ (bs_new u bs C hC hl) (fun e => by cases e) (Nat.le_refl _) (fun j hj => by
    obtain ⟨_, e1, e2⟩ := hj
    obtain rfl := Option.some.inj e1
    simp at e2 ⊢
    omega) hr

def I13 (n : Int) : Ins := ⟨13, 0, 0, 0, n, ⟨#[]⟩⟩
def I15 : Ins := ⟨15, 0, 0, 0, 0, ⟨#[]⟩⟩
theorem rp1 : readP [1, 13, 1] = ([], 5, 1) := by kernel_rfl
theorem g13 : Good (I13 1) 13 := ⟨rfl, by decide, by decide, by decide, ⟨13, 0, 0, 0, 0, ⟨#[]⟩⟩, by kernel_rfl, rfl, rfl, rfl, rfl, rfl⟩
theorem g15 : Good I15 15 := gx2

theorem bgn_mono1 (l : List Ins) (k : Nat) : bgn l k ≤ bgn l (k + 1) := by
  by_cases h : k < l.length
  · rw [bgn_succ l k h]; omega
  · unfold bgn
    rw [List.take_of_length_le (by omega), List.take_of_length_le (by omega)]
    omega
theorem bgn_mono (l : List Ins) (j k : Nat) (h : j ≤ k) : bgn l j ≤ bgn l k := by
  induction k with
  | zero => obtain rfl : j = 0 := by omega
            omega
  | succ k ih =>
    by_cases e : j = k + 1
    · subst e; omega
    · have := ih (by omega)
      have := bgn_mono1 l k
      omega
theorem sevens_one (n : Nat) (h : n ≤ 60) : (sevens n).length = 1 := by
  have : ∀ n, n ≤ 60 → (sevens n).length = 1 := by decide
  exact this n h
theorem bgn_all (l : List Ins) (h : l.length ≤ 60) : bgn l l.length = (progB l).length := by
  unfold bgn progB
  rw [sevens_one _ h, List.take_length, List.length_append, List.length_flatMap]
  simp
/-- One that may be. -/
theorem chkF_ok (l : List Ins) (h60 : l.length ≤ 60) (hg : ∀ i ∈ l, checkE i = 0) (hb : ∀ t, t < l.length → ¬ beyB l t) (ho : (progB l).length ≤ 512) : chkF l = (0, 0) := by
  refine ChkP.eq (Or.inr ⟨h60, Or.inr ⟨fun t _ hx => ?_, Or.inr ⟨hb, Or.inr ⟨fun t ht hx => ?_, rfl, rfl⟩⟩⟩⟩)
  · obtain ⟨hlt, hx⟩ := hx
    exact hx (hg _ (List.getElem_mem hlt))
  · have h1 := bgn_mono l (t + 1) l.length (by omega)
    rw [bgn_all l h60] at h1
    change (512 : Int) < (bgn l (t + 1) : Int) at hx
    omega
theorem pb1 : progB [I13 1, I15] = [2, 13, 1, 15] := by
  show [UInt8.ofNat 2] ++ (codeI (I13 1) ++ (codeI I15 ++ [])) = _
  rw [g13.code, g15.code]
  kernel_rfl
theorem cf1 : chkF [I13 1, I15] = (0, 0) := by
  refine chkF_ok _ (by decide) (fun i hi => ?_) (fun t ht => ?_) (by rw [pb1]; decide)
  · rcases List.mem_cons.1 hi with rfl | hi
    · exact g13.check
    · rcases List.mem_cons.1 hi with rfl | hi
      · exact g15.check
      · cases hi
  · rw [← beyb_iff]
    have : ∀ t, t < 2 → ¬ beyb [I13 1, I15] t = true := by decide
    exact this t ht
theorem cf2 : chkF [I13 1] = (5, 0) := by
  refine ChkP.eq (Or.inr ⟨by decide, Or.inr ⟨fun t ht hx => ?_, Or.inl ⟨0, by decide, rfl, rfl, (beyb_iff _ _).1 (by decide), fun t ht => absurd ht (by omega)⟩⟩⟩)
  obtain ⟨hlt, hx⟩ := hx
  obtain rfl : t = 0 := by simp at ht; exact ht
  exact hx g13.check
theorem pc1 : progC [I13 1, I15] = [2, 13, 1, 15] := by unfold progC; rw [cf1, if_pos rfl, pb1]

theorem flat6 : ∀ (l : List Ins) (j t : Nat) (h : j < l.length), t < 6 → (l.flatMap fun i => (icells i).toList)[j * 6 + t]? = (icells l[j]).toList[t]?
  | i :: l, 0, t, _, ht => by
    rw [List.flatMap_cons, Nat.zero_mul, Nat.zero_add, List.getElem?_append_left (by rw [ic6]; exact ht)]
    rfl
  | i :: l, j + 1, t, h, ht => by
    rw [List.flatMap_cons, List.getElem?_append_right (by rw [ic6]; omega), ic6, show (j + 1) * 6 + t - 6 = j * 6 + t by omega]
    exact flat6 l j t (by simpa using h) ht
theorem ins_new (u : World) (l : List Ins) (C : Array Value) (hC : (l.flatMap fun i => (icells i).toList) = C.toList) (k : Nat) (hk : k = u.heap.size) : InsRow (u.alloc (.cells C 40)) (some ⟨k, 0, none⟩) l := by
  subst hk
  refine Or.inr ⟨u.heap.size, 0, rfl, by simp, fun j hj t v hv => ?_⟩
  have ht : t < 6 := by have := (List.getElem?_eq_some_iff.1 hv).1; rw [ic6] at this; exact this
  rw [Nat.zero_add, cell_of_row _ _ _ _ _ _ (heap_alloc_new u _), ← Array.getElem?_toList, ← hC, flat6 l j t hj ht]
  exact hv
theorem gbts_new (l : List Ins) (C : Array Value) (n : Nat) (hC : (l.flatMap fun i => (icells i).toList) = C.toList) (hn : l.length = n) (hl : n ≤ 100) (u : World) (k : Nat) (hk : k = u.heap.size) (bs : List UInt8) (hb : progC l = bs) (er : Int) (he : (chkF l).1 = er) :
    Calls Tryz.prog 9 #[.slice (some ⟨k, 0, none⟩) n n] (u.alloc (.cells C 40)) fun e w' => ∃ ao' cap', e = .returned (.tuple #[.slice ao' bs.length cap', .int .i64 er]) ∧ Full w' ao' cap' bs ∧ Fr (fun _ => False) (u.alloc (.cells C 40)) w' := by
  subst hn hb he
  refine Calls.mono (gbts _ l.length l (by omega) _ (ins_new u l C hC k hk)) ?_
  rintro e w' ⟨a, c, h1, h2, h3, _⟩
  exact ⟨a, c, h1, h2, h3⟩
theorem gchk_new (l : List Ins) (C : Array Value) (n : Nat) (hC : (l.flatMap fun i => (icells i).toList) = C.toList) (hn : l.length = n) (hl : n ≤ 100) (u : World) (k : Nat) (hk : k = u.heap.size) (er at_ : Int) (he : chkF l = (er, at_)) :
    Calls Tryz.prog 7 #[.slice (some ⟨k, 0, none⟩) n n] (u.alloc (.cells C 40)) fun e w' => e = .returned (.tuple #[.int .i64 er, .int .i64 at_]) ∧ Fr (fun _ => False) (u.alloc (.cells C 40)) w' := by
  subst hn
  have := gchk _ l.length l (by omega) _ (ins_new u l C hC k hk)
  rw [he] at this
  exact this
theorem same_lit (a : Option Addr) (c : Nat) (bs : List UInt8) (u : World) (hA : BsAt u a bs) (C : Array Value) (hC : (bv bs).toArray = C) (n : Nat) (hn : bs.length = n) (hl : n ≤ 100) (k : Nat) (hk : k = u.heap.size) :
    Calls Tryz.prog 13 #[.slice a n c, .slice (some ⟨k, 0, none⟩) n n] (u.alloc (.cells C 5)) fun e w' => e = .returned (.bool true) ∧ w' = u.alloc (.cells C 5) := by
  subst hk hn
  have := same_any a (some ⟨u.heap.size, 0, none⟩) c bs.length bs bs (u.alloc (.cells C 5)) (hA.fr ((Fr.refl (fun _ => False) u).alloc _) (fun _ _ _ e => e)) (bs_new u bs C hC hl)
  rwa [beq_self_eq_true bs] at this

set_option maxRecDepth 100000 in
set_option maxHeartbeats 2000000 in
theorem pawake_any (w : World) : Calls Tryz.prog 5 #[] w fun e w' => e = .returned (.bool true) ∧ Fr (fun _ => False) w w' := by
  have HJ := hideIt pjump_any
  have HH := hideIt phalt_any
  go_enter Tryz.func5, Tryz.ntmps5
  go_wp2_with fail
  refine Calls.mono (HJ.out _ _) ?_
  rintro e w1 ⟨rfl, hF1⟩
  go_wp2_with fail
  refine Calls.mono (HH.out _) ?_
  rintro e w2 ⟨rfl, hF2⟩
  have HF2 := hideIt (hF1.trans hF2 (fun _ _ e => e))
  clear hF1 hF2
  go_wp2_with fail
  refine Calls.mono (gbts_new [I13 1, I15] _ 2 (by rfl) rfl (by decide) w2 _ (by simp) _ pc1 _ (by rw [cf1])) ?_
  rintro e w3 ⟨a3, c3, rfl, hf3, hF3⟩
  have HF3 := hideIt ((HF2.out.alloc _).trans hF3 (fun _ _ e => e))
  have HB3 := hideIt hf3.bs
  clear hf3 hF3 HF2
  dsimp only [List.length_cons, List.length_nil] at *
  go_wp2_with fail
  refine Calls.mono (HJ.out _ _) ?_
  rintro e w4 ⟨rfl, hF4⟩
  have HB4 := hideIt (HB3.out.fr hF4 (fun _ _ _ e => e))
  have HF4 := hideIt (HF3.out.trans hF4 (fun _ _ e => e))
  clear hF4 HB3 HF3
  go_wp2_with fail
  refine Calls.mono (gbts_new [I13 1] _ 1 (by rfl) rfl (by decide) w4 _ (by simp) [] (by unfold progC; rw [cf2]; rfl) _ (by rw [cf2])) ?_
  rintro e w5 ⟨a5, c5, rfl, _, hF5⟩
  have HB5 := hideIt (HB4.out.fr (((Fr.refl (fun _ => False) w4).alloc _).trans hF5 (fun _ _ e => e)) (fun _ _ _ e => e))
  have HF5 := hideIt ((HF4.out.alloc _).trans hF5 (fun _ _ e => e))
  clear hF5 HB4 HF4
  go_wp2_with fail
  refine Calls.mono (same_lit a3 c3 [2, 13, 1, 15] w5 HB5.out _ (by rfl) 4 rfl (by decide) _ (by simp)) ?_
  rintro e w6 ⟨rfl, rfl⟩
  go_wp2_with fail
  refine Calls.mono (pfails_new [1, 13, 1] _ 3 5 1 (by rfl) rfl rp1 (by decide) _ _ (by simp)) ?_
  rintro e w7 ⟨rfl, hF7⟩
  have HF7 := hideIt (((HF5.out.alloc _).alloc _).trans hF7 (fun _ _ e => e))
  go_wp2_with fail
  go_ret
  exact ⟨rfl, HF7.out⟩

end Go.Proofs.YtojgikaoiegmpaaGreatDoor

/- Package prog: rows of instructions as rows of elements. -/
namespace Go.Proofs.YtojgikaoiegmpaaGreatDoor
open Go.RowKit Go.IntWalk
set_option linter.unusedSimpArgs false
set_option linter.unusedVariables false
set_option maxRecDepth 100000

def encIns (i : Ins) : List Value := (icells i).toList
theorem encIns_len : ∀ i, (encIns i).length = 6 := fun _ => rfl
theorem encIns_one : ∀ i, ∀ u ∈ encIns i, u.oneCell' = true := fun i u hu => by
  have := icells_one i
  rw [Array.all_eq_true'] at this
  exact this u (by simpa [encIns] using hu)
def encNum (v : Int) : List Value := [.int .i64 v]
theorem encNum_len : ∀ v, (encNum v).length = 1 := fun _ => rfl
theorem encNum_one : ∀ v, ∀ u ∈ encNum v, u.oneCell' = true := fun v u hu => by simp [encNum] at hu; subst hu; rfl
theorem Tryz.infoNum : (Tryz.prog.info? 3).map (fun i => (i.zero, i.size, i.bytes)) = some (some (.int .i64 0), 1, 8) := by kernel_rfl

theorem one_at {α : Type} (enc : α → List Value) (size : Nat) (wr : World) (C : Array Value) (e : TypeId) (x : α) (hx : enc x = C.toList) : AtOf enc size (wr.alloc (.cells C e)) (some ⟨wr.heap.size, 0, none⟩) [x] := by
  refine Or.inr ⟨wr.heap.size, 0, rfl, by simp, fun i hi j v hv => ?_⟩
  obtain rfl : i = 0 := by simp at hi; exact hi
  simp only [Nat.zero_mul, Nat.zero_add]
  rw [cell_of_row _ _ _ _ _ _ (heap_alloc_new wr _), ← Array.getElem?_toList, ← hx]
  exact hv
theorem AtOf.ins {w : World} {ao : Option Addr} {l : List Ins} (h : AtOf encIns 6 w ao l) : InsRow w ao l := by
  rcases h with ⟨_, e⟩ | ⟨b, off, e, hb, hc⟩
  · exact Or.inl e
  · exact Or.inr ⟨b, off, e, hb, fun j hj t v hv => hc j hj t v hv⟩
theorem InsRow.atOf {w : World} {ao : Option Addr} {l : List Ins} (h : InsRow w ao l) : l = [] ∨ AtOf encIns 6 w ao l := by
  rcases h with e | ⟨b, off, e, hb, hc⟩
  · exact Or.inl e
  · exact Or.inr (Or.inr ⟨b, off, e, hb, fun j hj t v hv => hc j hj t v hv⟩)
theorem row_low {α : Type} {enc : α → List Value} {size : Nat} {e : TypeId} {w : World} {ao : Option Addr} {cap : Nat} {l : List α} (h : RowOf enc size e w ao cap l) : ∀ k, blk ao k → k < w.heap.size := fun k hk => h.lt hk

end Go.Proofs.YtojgikaoiegmpaaGreatDoor

/- Package prog: the document's beyond, walked. -/
namespace Go.Proofs.YtojgikaoiegmpaaGreatDoor
open Go.RowKit Go.IntWalk
set_option linter.unusedSimpArgs false
set_option linter.unusedVariables false
set_option maxRecDepth 100000

set_option maxRecDepth 100000 in
theorem hbeyond_any (ao : Option Addr) (cap : Nat) (l : List Ins) (j : Nat) (hj : j < l.length) (hl : l.length ≤ 1000) (w : World) (hB : InsRow w ao l) : Calls Tryz.prog 27 #[.slice ao l.length cap, .int .i64 j] w fun e w' => e = .returned (.bool (beyb l j)) ∧ w' = w := by
  obtain ⟨b, off, rfl, hb, hR⟩ := hB.get j hj
  have h1 : (j : Int) < (l.length : Int) := by omega
  have hr : beyb l j = (decide (l[j].op = 12 ∨ l[j].op = 13) && decide ((l.length : Int) - 1 - j < l[j].n)) := by
    unfold beyb passI
    rw [List.getElem?_eq_getElem hj]
    by_cases h : l[j].op = 12 ∨ l[j].op = 13
    · simp [h]
    · simp only [if_neg h]
      rw [decide_eq_false h, Bool.false_and, decide_eq_false_iff_not]
      omega
  rw [hr]
  clear hr
  obtain ⟨x, hx⟩ : ∃ x, l[j] = x := ⟨_, rfl⟩
  rw [hx] at hR ⊢
  clear hx
  obtain ⟨op, a, bb, c, n, s⟩ := x
  have c0 : w.cell? ⟨b, off + j * 6, none⟩ = some (.int .i64 op) := hR 0 _ rfl
  have c4 : w.cell? ⟨b, off + j * 6 + 4, none⟩ = some (.int .i64 n) := hR 4 _ rfl
  have hw1 : IntKind.i64.wrap ((l.length : Int) - 1) = (l.length : Int) - 1 := by rw [IntKind.wrap_i64]; omega
  have hw2 : IntKind.i64.wrap ((l.length : Int) - 1 - j) = (l.length : Int) - 1 - j := by rw [IntKind.wrap_i64]; omega
  dsimp only at *
  by_cases h12 : op = 12
  · subst h12
    go_enter Tryz.func27, Tryz.ntmps27
    go_wp2_with fail
    go_ret
    simp
  · have e12 : (op == 12) = false := by simpa using h12
    by_cases h13 : op = 13
    · subst h13
      go_enter Tryz.func27, Tryz.ntmps27
      go_wp2_with fail
      go_ret
      simp
    · have e13 : (op == 13) = false := by simpa using h13
      go_enter Tryz.func27, Tryz.ntmps27
      go_wp2_with fail
      go_ret
      simp [h12, h13]

end Go.Proofs.YtojgikaoiegmpaaGreatDoor

/- Package prog: the document's Check, Same, walked. -/
namespace Go.Proofs.YtojgikaoiegmpaaGreatDoor
open Go.RowKit Go.IntWalk
set_option linter.unusedSimpArgs false
set_option linter.unusedVariables false
set_option maxRecDepth 100000

set_option maxRecDepth 100000 in
set_option maxHeartbeats 2000000 in
theorem hsame_any (ao bo : Option Addr) (cap cap2 : Nat) (l m : List Ins) (hl : l.length ≤ 1099511627776) (hm : m.length ≤ 1099511627776) (w : World) (hA : InsRow w ao l) (hB : InsRow w bo m) : Calls Tryz.prog 15 #[.slice ao l.length cap, .slice bo m.length cap2] w (SameP l m w) := by
  have HA := hideIt (fun W (hF : Fr (fun _ => False) w W) => hA.fr hF (fun _ _ _ e => e))
  have HB := hideIt (fun W (hF : Fr (fun _ => False) w W) => hB.fr hF (fun _ _ _ e => e))
  clear hA hB
  by_cases hne : l.length = m.length
  · have hml : ((m.length : Nat) : Int) = ((l.length : Nat) : Int) := by omega
    have HNE := hideIt hne
    rw [show m.length = l.length from hne.symm]
    clear hne hml
    go_enter Tryz.func15, Tryz.ntmps15
    go_wp2_with fail
    go_loopw [5] (fun s5 wr => ∃ k : Nat, s5 = .int .i64 k ∧ k ≤ l.length ∧ Hid (l.take k = m.take k) ∧ Hid (Fr (fun _ => False) w wr)) (fun s5 _ => l.length - (intOf s5).toNat)
    case atStart => exact ⟨0, rfl, by omega, hideIt (by simp), hideIt (Fr.refl _ _)⟩
    case round =>
      obtain ⟨k, rfl, hk, HT, HF⟩ := hrel
      by_cases hlt : k < l.length
      · have h1 : (k : Int) < (l.length : Int) := by omega
        have hlt2 : k < m.length := by have := HNE.out; omega
        obtain ⟨b, off, rfl, hb, hR⟩ := (HA.out wr HF.out).get k hlt
        obtain ⟨b2, off2, rfl, hb2, hR2⟩ := (HB.out wr HF.out).get k hlt2
        have HR := hideIt hR
        have HR2 := hideIt hR2
        have HIJ := hideIt (insSize l[k])
        have HIJ2 := hideIt (insSize m[k])
        have HQN := hideIt (fun w => neqQ l[k] m[k] w)
        have HQG := hideIt (fun w (x y : Operand) => grdQ w .neq x y l[k] m[k])
        have HQI := hideIt (insQ_iff l[k] m[k])
        clear hR hR2
        generalize insQ l[k] m[k] = q at *
        generalize icells l[k] = C at *
        generalize icells m[k] = D at *
        have n0 : (0 : Int) ≤ (k : Int) := by omega
        go_wp2_with fail
        refine wp_region_held_drew (S := (fun w' => w'.rangeAt b (off + k * 6) C.toList ∧ w'.rangeAt b2 (off2 + k * 6) D.toList)) (by kernel_rfl) ?_ (fun hHeld => ?_)
        · exact ⟨HR.out, HR2.out⟩
        refine wpAnyH_take (i := 0) (v := ?v1) rfl (by kernel_rfl) (by kernel_rfl) (by kernel_rfl) (fun _ _ _ h => h) (Or.inl ⟨by kernel_rfl, ?hy1⟩) (by assumption) ?rest1
        case hy1 => intro w hSw; (try dsimp only at hSw); go_simp; (try with_reducible rfl)
        try simp only [Act.put, List.getElem_toArray, List.getElem_cons_zero, List.getElem_cons_succ, List.setIfInBounds_toArray, List.set_cons_zero, List.set_cons_succ]
        refine wpAnyH_take (i := 1) (v := ?v2) rfl (by kernel_rfl) (by kernel_rfl) (by kernel_rfl) (fun _ _ _ h => h) (Or.inl ⟨by kernel_rfl, ?hy2⟩) (by assumption) ?rest2
        case hy2 => intro w hSw; (try dsimp only at hSw); go_simp; (try with_reducible rfl)
        try simp only [Act.put, List.getElem_toArray, List.getElem_cons_zero, List.getElem_cons_succ, List.setIfInBounds_toArray, List.set_cons_zero, List.set_cons_succ]
        refine wpAnyH_take (i := 2) (v := ?v3) rfl (by kernel_rfl) (by kernel_rfl) (by kernel_rfl) (fun _ _ _ h => h) (Or.inl ⟨by kernel_rfl, ?hy3⟩) (by assumption) ?rest3
        case hy3 => intro w hSw; (try dsimp only at hSw); go_simp; (try with_reducible rfl)
        try simp only [Act.put, List.getElem_toArray, List.getElem_cons_zero, List.getElem_cons_succ, List.setIfInBounds_toArray, List.set_cons_zero, List.set_cons_succ]
        refine wpAnyH_take (i := 4) (v := ?v4) rfl (by kernel_rfl) (by kernel_rfl) (by kernel_rfl) (fun _ _ _ h => h) (Or.inl ⟨by kernel_rfl, ?hy4⟩) (by assumption) ?rest4
        case hy4 => intro w hSw; (try dsimp only at hSw); go_simp; (try with_reducible rfl)
        try simp only [Act.put, List.getElem_toArray, List.getElem_cons_zero, List.getElem_cons_succ, List.setIfInBounds_toArray, List.set_cons_zero, List.set_cons_succ]
        refine wpAnyH_take (i := 5) (v := ?v5) rfl (by kernel_rfl) (by kernel_rfl) (by kernel_rfl) (fun _ _ _ h => h) (Or.inl ⟨by kernel_rfl, ?hy5⟩) (by assumption) ?rest5
        case hy5 => intro w hSw; (try dsimp only at hSw); go_simp; (try with_reducible rfl)
        try simp only [Act.put, List.getElem_toArray, List.getElem_cons_zero, List.getElem_cons_succ, List.setIfInBounds_toArray, List.set_cons_zero, List.set_cons_succ]
        refine wpAnyH_take (i := 6) (v := ?v6) rfl (by kernel_rfl) (by kernel_rfl) (by kernel_rfl) (fun _ _ _ h => h) (Or.inl ⟨by kernel_rfl, ?hy6⟩) (by assumption) ?rest6
        case hy6 => intro w hSw; (try dsimp only at hSw); go_simp; (try with_reducible rfl)
        try simp only [Act.put, List.getElem_toArray, List.getElem_cons_zero, List.getElem_cons_succ, List.setIfInBounds_toArray, List.set_cons_zero, List.set_cons_succ]
        refine wpAnyH_take (i := 3) (v := (.agg C)) rfl (by kernel_rfl) (by kernel_rfl) (by kernel_rfl) (fun _ _ _ h => h) (Or.inl ⟨by kernel_rfl, fun w0 hSw => ylm 40 (.tmp 19) rfl b (off + k * 6) rfl C _ hSw.1 Tryz.underlying40 rfl HIJ.out⟩) (by assumption) ?_
        try simp only [Act.put, List.getElem_toArray, List.getElem_cons_zero, List.getElem_cons_succ, List.setIfInBounds_toArray, List.set_cons_zero, List.set_cons_succ]
        refine wpAnyH_take (i := 7) (v := (.agg D)) rfl (by kernel_rfl) (by kernel_rfl) (by kernel_rfl) (fun _ _ _ h => h) (Or.inl ⟨by kernel_rfl, fun w0 hSw => ylm 40 (.tmp 23) rfl b2 (off2 + k * 6) rfl D _ hSw.2 Tryz.underlying40 rfl HIJ2.out⟩) (by assumption) ?_
        try simp only [Act.put, List.getElem_toArray, List.getElem_cons_zero, List.getElem_cons_succ, List.setIfInBounds_toArray, List.set_cons_zero, List.set_cons_succ]
        refine wpAnyH_take (i := 8) (v := .bool (!q)) rfl (by kernel_rfl) (by kernel_rfl) (by kernel_rfl) (fun _ _ _ h => h) (Or.inl ⟨by kernel_rfl, fun w0 hSw => yields_binQ .neq 40 40 (.tmp 20) (.tmp 24) rfl (.agg C) (.agg D) (.bool (!q)) rfl rfl (HQN.out _) (HQG.out _ _ _)⟩) (by assumption) ?_
        try simp only [Act.put, List.getElem_toArray, List.getElem_cons_zero, List.getElem_cons_succ, List.setIfInBounds_toArray, List.set_cons_zero, List.set_cons_succ]
        refine wpAnyH_done (by kernel_rfl) ?_ _
        have HF2 := hideIt (HF.out.trans ((Fr.refl (fun _ => False) wr).drew) (fun _ _ e => e))
        clear hHeld HF
        by_cases hq : q = true
        · have HT2 := hideIt (show l.take (k + 1) = m.take (k + 1) by
            rw [List.take_succ_eq_append_getElem hlt, List.take_succ_eq_append_getElem hlt2, HT.out, HQI.out.1 hq])
          subst hq
          go_wp2_with fail
          go_roundw
          case measure => simp [intOf]; omega
          case rel => exact ⟨k + 1, by go_num, by omega, HT2, HF2⟩
        · have HX := hideIt (show ¬ l = m from fun h => hq (HQI.out.2 (by subst h; rfl)))
          have hq2 : q = false := by simpa using hq
          subst hq2
          go_wp2_with fail
          go_ret
          exact ⟨false, rfl, ⟨fun h => (by cases h), fun h => absurd h HX.out⟩, HF2.out⟩
      · have hje : k = l.length := by omega
        have hjn : ¬ (k : Int) < (l.length : Int) := by omega
        have HLM := hideIt (show l = m by
          have h := HT.out
          rwa [List.take_of_length_le (by omega), List.take_of_length_le (by have := HNE.out; omega)] at h)
        go_wp2_with fail
        go_ret
        exact ⟨true, rfl, ⟨fun _ => HLM.out, fun _ => rfl⟩, HF.out⟩
  · have hne2 : ¬ ((l.length : Nat) : Int) = ((m.length : Nat) : Int) := by omega
    have hne3 : (((l.length : Nat) : Int) == ((m.length : Nat) : Int)) = false := beq_eq_false_iff_ne.2 hne2
    have HNE := hideIt hne
    go_enter Tryz.func15, Tryz.ntmps15
    go_wp2_with fail
    go_ret
    exact ⟨false, rfl, ⟨fun h => (by cases h), fun h => absurd (by rw [h]) HNE.out⟩, Fr.refl _ _⟩

set_option maxRecDepth 100000 in
set_option maxHeartbeats 4000000 in
theorem hcheck_any (ao : Option Addr) (cap : Nat) (l : List Ins) (hl : l.length ≤ 140737488355328) (w : World) (hB : InsRow w ao l) : Calls Tryz.prog 8 #[.slice ao l.length cap] w fun e w' => e = .returned (.tuple #[.int .i64 (chkF l).1, .int .i64 (chkF l).2]) ∧ Fr (fun _ => False) w w' := by
  by_cases h60 : 60 < l.length
  · have hd : decide ((60 : Int) < (l.length : Int)) = true := by simp; omega
    have hr : chkF l = (3, 60) := by unfold chkF; rw [if_pos h60]
    rw [hr]
    clear hr h60
    go_enter Tryz.func8, Tryz.ntmps8
    go_wp2_with fail
    go_ret2
    exact ⟨rfl, Fr.refl _ _⟩
  · have hd : decide ((60 : Int) < (l.length : Int)) = false := by simp; omega
    have h60' : l.length ≤ 60 := by omega
    have HBad := hideIt (fun (j : Nat) (hj : j < l.length) (hb : ¬ checkE l[j] = 0) (ht : ∀ t, t < j → ¬ badB l t) => show chkF l = (2, (j : Int)) from ChkP.eq (Or.inr ⟨h60', Or.inl ⟨j, hj, rfl, rfl, ⟨hj, hb⟩, ht⟩⟩))
    have HBey := hideIt (fun (hnb : ∀ t, t < l.length → ¬ badB l t) (j : Nat) (hj : j < l.length) (hb : beyb l j = true) (ht : ∀ t, t < j → beyb l t = false) => show chkF l = (5, (j : Int)) from ChkP.eq (Or.inr ⟨h60', Or.inr ⟨hnb, Or.inl ⟨j, hj, rfl, rfl, (beyb_iff l j).1 hb, fun t h h2 => by have := ht t h; rw [(beyb_iff l t).2 h2] at this; cases this⟩⟩⟩))
    have HOvr := hideIt (fun (hnb : ∀ t, t < l.length → ¬ badB l t) (hny : ∀ t, t < l.length → beyb l t = false) (j : Nat) (hj : j < l.length) (hb : 512 < bgn l (j + 1)) (ht : ∀ t, t < j → bgn l (t + 1) ≤ 512) => show chkF l = (3, (j : Int)) from ChkP.eq (Or.inr ⟨h60', Or.inr ⟨hnb, Or.inr ⟨fun t h h2 => (by have := hny t h; rw [(beyb_iff l t).2 h2] at this; cases this), Or.inl ⟨j, hj, rfl, rfl, (by show (512 : Int) < (bgn l (j + 1) : Int); omega), fun t h h2 => by have := ht t h; change (512 : Int) < (bgn l (t + 1) : Int) at h2; omega⟩⟩⟩⟩))
    have HOK := hideIt (fun (hnb : ∀ t, t < l.length → ¬ badB l t) (hny : ∀ t, t < l.length → beyb l t = false) (ht : ∀ t, t < l.length → bgn l (t + 1) ≤ 512) => show chkF l = (0, 0) from ChkP.eq (Or.inr ⟨h60', Or.inr ⟨hnb, Or.inr ⟨fun t h h2 => (by have := hny t h; rw [(beyb_iff l t).2 h2] at this; cases this), Or.inr ⟨fun t h h2 => (by have := ht t h; change (512 : Int) < (bgn l (t + 1) : Int) at h2; omega), rfl, rfl⟩⟩⟩⟩))
    have HBS := hideIt (bgn_succ l)
    have HB0 := hideIt (bgn_zero l)
    have HBL := hideIt (bgn_le l (fun i _ => codeI_lenU i) (sevens_short _ h60'))
    have HSZ := hideIt (fun W => xsize_nat l.length (by omega) W)
    obtain ⟨C, hC⟩ : ∃ C, chkF l = C := ⟨_, rfl⟩
    rw [hC] at HBad HBey HOvr HOK
    rw [hC]
    have HB := hideIt (fun W (hF : Fr (fun _ => False) w W) => hB.fr hF (fun _ _ _ e => e))
    have HL := hideIt h60'
    have HI := hideIt insSize
    have HCL := hideIt (fun i => codeI_lenU i)
    clear hB hC h60
    go_enter Tryz.func8, Tryz.ntmps8
    go_wp2_with fail
    go_loopw [4] (fun s4 wr => ∃ k : Nat, s4 = .int .i64 k ∧ k ≤ l.length ∧ Hid (Fr (fun _ => False) w wr) ∧ Hid (∀ t, t < k → ¬ badB l t)) (fun s4 _ => l.length - (intOf s4).toNat)
    case atStart => exact ⟨0, rfl, by omega, hideIt (Fr.refl _ _), hideIt (fun t ht => absurd ht (by omega))⟩
    case round =>
      obtain ⟨k, rfl, hk, HF, HN⟩ := hrel
      by_cases hlt : k < l.length
      · have h1 : (k : Int) < (l.length : Int) := by omega
        obtain ⟨b, off, rfl, hb, hR⟩ := (HB.out wr HF.out).get k hlt
        have HR := hideIt hR
        have HIJ := hideIt (HI.out l[k])
        have HVC := hideIt (fun W => by have := vcheck_any l[k] W; rw [vchk_eq] at this; exact this)
        have HBB := hideIt (fun (h : ¬ checkE l[k] = 0) => HBad.out k hlt h HN.out)
        have HNN := hideIt (fun (h : checkE l[k] = 0) => show ∀ t, t < k + 1 → ¬ badB l t from fun t ht => by
          by_cases e : t = k
          · subst e; rintro ⟨_, h2⟩; exact h2 h
          · exact HN.out t (by omega))
        clear hR
        generalize checkE l[k] = ce at *
        generalize icells l[k] = C1 at *
        go_wp2_with (first | (refine wpList_load_mid rfl 40 (.tmp 19) rfl b (off + k * 6) rfl C1.toList _ HR.out Tryz.underlying40 rfl HIJ.out ?_))
        refine Calls.mono (HVC.out _) ?_
        rintro e w3 ⟨rfl, hF3⟩
        have HF3 := hideIt (HF.out.trans hF3 (fun _ _ e => e))
        clear hF3
        by_cases hce : ce = 0
        · have HN3 := hideIt (HNN.out hce)
          subst hce
          clear HBB HNN
          go_wp2_with fail
          go_roundw
          case measure => simp [intOf]; omega
          case rel => exact ⟨k + 1, by go_num, by omega, HF3, HN3⟩
        · have hne : (ce == 0) = false := by simpa using hce
          have hCC := HBB.out hce
          subst hCC
          clear HBB HNN
          go_wp2_with fail
          go_ret2
          exact ⟨rfl, HF3.out⟩
      · have hjn : ¬ (k : Int) < (l.length : Int) := by omega
        have hkl : k = l.length := by omega
        obtain ⟨wq, hwq⟩ : ∃ wq, wq = wr := ⟨_, rfl⟩
        subst hwq
        have HN1 := hideIt (show ∀ t, t < l.length → ¬ badB l t from fun t ht => HN.out t (by omega))
        have HFq := hideIt HF.out
        clear HN HF HBad
        go_wp2_with fail
        refine Calls.mono (HSZ.out wq) ?_
        rintro e w2 ⟨rfl, hF2⟩
        have HF2 := hideIt (HFq.out.trans hF2 (fun _ _ e => e))
        clear hF2 HFq HSZ
        rw [← HB0.out]
        go_wp2_with fail
        go_loopw [6] (fun s6 wr => ∃ k : Nat, s6 = .int .i64 k ∧ k ≤ l.length ∧ Hid (Fr (fun _ => False) w wr) ∧ Hid (∀ t, t < k → beyb l t = false)) (fun s6 _ => l.length - (intOf s6).toNat)
        case atStart => exact ⟨0, rfl, by omega, HF2, hideIt (fun t ht => absurd ht (by omega))⟩
        case round =>
          obtain ⟨k2, rfl, hk2, HF, HN⟩ := hrel
          by_cases hlt2 : k2 < l.length
          · have h1 : (k2 : Int) < (l.length : Int) := by omega
            have HHB := hideIt (hbeyond_any ao cap l k2 hlt2 (by have := HL.out; omega) wr (HB.out wr HF.out))
            have HYY := hideIt (fun (h : beyb l k2 = true) => HBey.out HN1.out k2 hlt2 h HN.out)
            have HNN := hideIt (fun (h : beyb l k2 = false) => show ∀ t, t < k2 + 1 → beyb l t = false from fun t ht => by
              by_cases e : t = k2
              · subst e; exact h
              · exact HN.out t (by omega))
            go_wp2_with fail
            refine Calls.mono HHB.out ?_
            rintro e w3 ⟨rfl, rfl⟩
            cases hby : beyb l k2 with
            | true =>
              have hCC := HYY.out hby
              subst hCC
              clear HYY HNN HHB
              go_wp2_with fail
              go_ret2
              exact ⟨rfl, HF.out⟩
            | false =>
              have HN3 := hideIt (HNN.out hby)
              clear HYY HNN HHB
              go_wp2_with fail
              go_roundw
              case measure => simp [intOf]; omega
              case rel => exact ⟨k2 + 1, by go_num, by omega, HF, HN3⟩
          · have hjn2 : ¬ (k2 : Int) < (l.length : Int) := by omega
            obtain ⟨wq2, hwq2⟩ : ∃ wq, wq = wr := ⟨_, rfl⟩
            subst hwq2
            have HN2 := hideIt (show ∀ t, t < l.length → beyb l t = false from fun t ht => HN.out t (by omega))
            have HFq2 := hideIt HF.out
            clear HN HF HF2 HBey
            go_wp2_with fail
            go_loopw [5, 7] (fun s5 s7 wr => ∃ k : Nat, s5 = .int .i64 (bgn l k : Int) ∧ s7 = .int .i64 k ∧ k ≤ l.length ∧ Hid (Fr (fun _ => False) w wr) ∧ Hid (∀ t, t < k → bgn l (t + 1) ≤ 512)) (fun _ s7 _ => l.length - (intOf s7).toNat)
            case atStart => exact ⟨0, rfl, rfl, by omega, HFq2, hideIt (fun t ht => absurd ht (by omega))⟩
            case round =>
              obtain ⟨k3, rfl, rfl, hk3, HF, HN⟩ := hrel
              by_cases hlt3 : k3 < l.length
              · have h1 : (k3 : Int) < (l.length : Int) := by omega
                obtain ⟨b, off, rfl, hb, hR⟩ := (HB.out wr HF.out).get k3 hlt3
                have HR := hideIt hR
                have HIJ := hideIt (HI.out l[k3])
                have HVS := hideIt (fun W => vsize_any l[k3] W)
                have hbl := HBL.out k3 (by omega)
                have hcl := HCL.out l[k3]
                have HS3 := hideIt (HBS.out k3 hlt3)
                have HOO := hideIt (fun (h : 512 < bgn l (k3 + 1)) => HOvr.out HN1.out HN2.out k3 hlt3 h HN.out)
                have HNN := hideIt (fun (h : bgn l (k3 + 1) ≤ 512) => show ∀ t, t < k3 + 1 → bgn l (t + 1) ≤ 512 from fun t ht => by
                  by_cases e : t = k3
                  · subst e; exact h
                  · exact HN.out t (by omega))
                have hl60 := HL.out
                obtain ⟨v1, hv1⟩ : ∃ v, bgn l k3 = v := ⟨_, rfl⟩
                obtain ⟨v2, hv2⟩ : ∃ v, bgn l (k3 + 1) = v := ⟨_, rfl⟩
                obtain ⟨c1, hc1⟩ : ∃ v, (codeI l[k3]).length = v := ⟨_, rfl⟩
                rw [hv1] at hbl ⊢
                rw [hv1, hv2, hc1] at HS3
                rw [hv2] at HOO HNN
                rw [hc1] at HVS hcl
                have HV2 := hideIt hv2
                clear hR hv1 hv2 hc1
                generalize icells l[k3] = C1 at *
                have hadd : IntKind.i64.wrap ((v1 : Int) + (c1 : Int)) = (v2 : Int) := by have := HS3.out; rw [IntKind.wrap_i64]; omega
                go_wp2_with (first | (refine wpList_load_mid rfl 40 (.tmp 46) rfl b (off + k3 * 6) rfl C1.toList _ HR.out Tryz.underlying40 rfl HIJ.out ?_))
                refine Calls.mono (HVS.out _) ?_
                rintro e w3 ⟨rfl, hF3⟩
                have HF3 := hideIt (HF.out.trans hF3 (fun _ _ e => e))
                clear hF3
                by_cases ho : 512 < v2
                · have hd3 : decide ((512 : Int) < (v2 : Int)) = true := by simp; omega
                  have hCC := HOO.out ho
                  subst hCC
                  clear HOO HNN
                  go_wp2_with fail
                  go_ret2
                  exact ⟨rfl, HF3.out⟩
                · have hd3 : decide ((512 : Int) < (v2 : Int)) = false := by simp; omega
                  have HN3 := hideIt (HNN.out (by omega))
                  clear HOO HNN
                  go_wp2_with fail
                  go_roundw
                  case measure => simp [intOf]; omega
                  case rel => exact ⟨k3 + 1, by rw [HV2.out], by go_num, by omega, HF3, HN3⟩
              · have hjn3 : ¬ (k3 : Int) < (l.length : Int) := by omega
                have hCC := HOK.out HN1.out HN2.out (fun t ht => HN.out t (by omega))
                subst hCC
                go_wp2_with fail
                go_ret2
                exact ⟨rfl, HF.out⟩

end Go.Proofs.YtojgikaoiegmpaaGreatDoor

/- Package prog: small things about Read, SameProg. -/
namespace Go.Proofs.YtojgikaoiegmpaaGreatDoor
open Go.RowKit Go.IntWalk
set_option linter.unusedSimpArgs false
set_option linter.unusedVariables false
set_option maxRecDepth 100000

theorem InsFull.lt {w : World} {ao : Option Addr} {cap : Nat} {l : List Ins} (h : InsFull w ao cap l) {k : Nat} (hk : blk ao k) : k < w.heap.size := by
  rcases h with ⟨rfl, _⟩ | ⟨q, A, rfl, _, h1, _⟩
  · obtain ⟨_, e, _⟩ := hk; cases e
  · obtain ⟨_, e1, e2⟩ := hk
    obtain rfl := Option.some.inj e1
    have := (Array.getElem?_eq_some_iff.1 h1).1
    simp only at e2
    omega

theorem readP_len (bs : List UInt8) : (readP bs).1.length ≤ 60 := by
  unfold readP
  split
  · simp
  · split
    · unfold readN
      obtain ⟨n, h1, h2⟩ := rCount_rng bs (0, 0, 0)
      rw [h1]
      split
      · simp
      · split
        · simp
        · split
          · simp
          · rw [rdL_len]; simpa using h2
    · simp

theorem ksame_true (ao bo : Option Addr) (cap cap2 : Nat) (l : List Ins) (hl : l.length ≤ 60) (w : World) (hA : InsRow w ao l) (hB : InsRow w bo l) : Calls Tryz.prog 17 #[.slice ao l.length cap, .slice bo l.length cap2] w fun e w' => e = .returned (.bool true) ∧ Fr (fun _ => False) w w' := by
  refine Calls.mono (ksameprog_any ao bo cap cap2 l l (by omega) (by omega) w hA hB) ?_
  rintro e w' ⟨r, rfl, hr, hF⟩
  exact ⟨by rw [hr.2 rfl], hF⟩

/-- What it means that Check says OK. -/
theorem chkF_zero {l : List Ins} (h : (chkF l).1 = 0) : chkF l = (0, 0) ∧ l.length ≤ 60 ∧ (∀ t, t < l.length → ¬ badB l t) ∧ (∀ t, t < l.length → ¬ beyB l t) ∧ (progB l).length ≤ 512 := by
  have hov : ∀ j, decide ((512 : Int) < (bgn l (j + 1) : Int)) = true ↔ ovrB l j := fun j => by rw [decide_eq_true_iff]; rfl
  unfold chkF at h ⊢
  by_cases h60 : 60 < l.length
  · rw [if_pos h60] at h; simp at h
  · rw [if_neg h60] at h ⊢
    split at h
    · simp at h
    · rename_i hb
      split at h
      · simp at h
      · rename_i hy
        split at h
        · simp at h
        · rename_i ho
          rw [List.find?_eq_none] at hb hy ho
          refine ⟨rfl, by omega, fun t ht hx => hb t (List.mem_range.2 ht) ((badb_iff l t).2 hx), fun t ht hx => hy t (List.mem_range.2 ht) ((beyb_iff l t).2 hx), ?_⟩
          rw [← bgn_all l (by omega)]
          by_cases h0 : l.length = 0
          · rw [h0, bgn_zero, h0]; decide
          · have := ho (l.length - 1) (List.mem_range.2 (by omega))
            rw [show l.length - 1 + 1 = l.length by omega] at this
            simp at this
            omega
theorem not_bad {l : List Ins} (h : ∀ t, t < l.length → ¬ badB l t) : ∀ i ∈ l, checkE i = 0 := fun i hi => by
  obtain ⟨t, ht, rfl⟩ := List.getElem_of_mem hi
  by_cases e : checkE l[t] = 0
  · exact e
  · exact absurd ⟨ht, e⟩ (h t ht)
theorem progB_len (l : List Ins) : (progB l).length = 1 + (l.flatMap codeI).length := by unfold progB; simp; omega
theorem flat_take (l : List Ins) (p : Nat) : ((l.take p).flatMap codeI).length ≤ (l.flatMap codeI).length := by
  have := congrArg (fun x => (List.flatMap codeI x).length) (List.take_append_drop p l)
  simp only [List.flatMap_append, List.length_append] at this
  omega
end Go.Proofs.YtojgikaoiegmpaaGreatDoor

/- Package prog: the document's Bytes, walked. -/
namespace Go.Proofs.YtojgikaoiegmpaaGreatDoor
open Go.RowKit Go.IntWalk
set_option linter.unusedSimpArgs false
set_option linter.unusedVariables false
set_option maxRecDepth 100000

theorem row_capU {w : World} {e : TypeId} {ao : Option Addr} {cap : Nat} {bs : List UInt8} (h : Row w e ao cap bs) : bs.length ≤ cap ∧ cap ≤ maxLen := by
  rcases h.form with ⟨_, rfl, rfl⟩ | ⟨g, cur, _, _, e2, e3, _⟩
  · exact ⟨by simp, Nat.zero_le _⟩
  · exact ⟨e2, e3⟩
theorem new_blkU {w : World} {ao : Option Addr} {k : Nat} (e : ao = some ⟨w.heap.size, 0, none⟩) (hk : blk ao k) : k = w.heap.size := by
  obtain ⟨_, e1, e2⟩ := hk
  rw [e] at e1
  obtain rfl := Option.some.inj e1
  exact e2.symm
/-- The bytes so far. -/
noncomputable def hdk (l : List Ins) (k : Nat) : List UInt8 := UInt8.ofNat l.length :: (l.take k).flatMap codeI
theorem hdk_zero (l : List Ins) : hdk l 0 = [UInt8.ofNat l.length] := rfl
theorem hdk_succ (l : List Ins) (k : Nat) (h : k < l.length) : hdk l (k + 1) = hdk l k ++ codeI l[k] := by
  unfold hdk
  rw [List.take_succ_eq_append_getElem h, List.flatMap_append]
  simp
theorem hdk_all (l : List Ins) : hdk l l.length = progB l := by unfold hdk; rw [List.take_length]; rfl
theorem hdk_le (l : List Ins) : ∀ k, (hdk l k).length ≤ 1 + 1000 * k := by
  intro k
  induction k with
  | zero => rw [hdk_zero]; simp
  | succ k ih =>
    by_cases h : k < l.length
    · rw [hdk_succ l k h, List.length_append]
      have := codeI_lenU l[k]
      omega
    · have : hdk l (k + 1) = hdk l k := by
        unfold hdk
        rw [List.take_of_length_le (by omega), List.take_of_length_le (by omega)]
      rw [this]
      omega
/-- What the document's Bytes answers. -/
def PHB (bs : List UInt8) (er : Int) (w : World) (e : Ending) (w' : World) : Prop := ∃ ao cap, e = .returned (.tuple #[.slice ao bs.length cap, .int .i64 er]) ∧ BsAt w' ao bs ∧ Fr (fun _ => False) w w' ∧ (∀ k, blk ao k → w.heap.size ≤ k) ∧ bs.length ≤ cap ∧ cap ≤ maxLen ∧ (ao = none → cap = 0)

set_option maxRecDepth 100000 in
set_option maxHeartbeats 4000000 in
theorem hbytes_any (ao : Option Addr) (cap : Nat) (l : List Ins) (hl : l.length ≤ 140737488355328) (w : World) (hB : InsRow w ao l) : Calls Tryz.prog 10 #[.slice ao l.length cap] w (PHB (progC l) (chkF l).1 w) := by
  have HCK := hideIt (hcheck_any ao cap l hl w hB)
  have hz := @chkF_zero l
  obtain ⟨c2, hc2⟩ : ∃ c, (chkF l).2 = c := ⟨_, rfl⟩
  by_cases he : (chkF l).1 = 0
  · have h60 : l.length ≤ 60 := (hz he).2.1
    have hc : progC l = hdk l l.length := by unfold progC; rw [if_pos he, hdk_all]
    rw [hc, he]
    rw [he, hc2] at HCK
    have HB := hideIt (fun W (hF : Fr (fun _ => False) w W) => hB.fr hF (fun _ _ _ e => e))
    have HI := hideIt insSize
    have HS := hideIt (fun W => by
      have := sevens_nat l.length (by omega) W
      rw [sevens_lt (by omega)] at this
      exact this)
    have HSU := hideIt (hdk_succ l)
    have HLE := hideIt (hdk_le l)
    have H0 := hideIt (hdk_zero l)
    have HCL := hideIt (fun i => codeI_lenU i)
    have HL := hideIt h60
    clear hB hz he hc hc2 h60
    go_enter Tryz.func10, Tryz.ntmps10
    go_wp2_with fail
    refine Calls.mono HCK.out ?_
    rintro e w1 ⟨rfl, hF1⟩
    have HF1 := hideIt hF1
    clear hF1 HCK
    go_wp2_with fail
    refine Calls.mono (HS.out w1) ?_
    rintro e w2 ⟨a2, cp2, rfl, hr2, hF2, hn2⟩
    have HR2 := hideIt (show Row w2 5 a2 cp2 (hdk l 0) by rw [H0.out]; exact hr2)
    have HN2 := hideIt (fun k (h : blk a2 k) => show w.heap.size ≤ k from Nat.le_trans HF1.out.size (hn2 k h))
    have HF2 := hideIt (HF1.out.trans hF2 (fun _ _ e => e))
    clear hr2 hF2 hn2 HS HF1
    have hone : [UInt8.ofNat l.length].length = (hdk l 0).length := rfl
    rw [hone]
    clear hone
    go_wp2_with fail
    go_loopw [6, 7] (fun s6 s7 wr => ∃ (k : Nat) (a : Option Addr) (c : Nat), s6 = .slice a (hdk l k).length c ∧ s7 = .int .i64 k ∧ k ≤ l.length ∧ Hid (Row wr 5 a c (hdk l k)) ∧ Hid (∀ i, blk a i → w.heap.size ≤ i) ∧ Hid (Fr (fun _ => False) w wr)) (fun _ s7 _ => l.length - (intOf s7).toNat)
    case atStart => exact ⟨0, a2, cp2, rfl, rfl, by omega, HR2, HN2, HF2⟩
    case round =>
      clear HR2 HN2 HF2
      obtain ⟨k, a, c, rfl, rfl, hk, HR, HN, HF⟩ := hrel
      by_cases hlt : k < l.length
      · have h1 : (k : Int) < (l.length : Int) := by omega
        obtain ⟨b, off, rfl, hb, hR⟩ := (HB.out wr HF.out).get k hlt
        have HRR := hideIt hR
        have HIJ := hideIt (HI.out l[k])
        have HVB := hideIt (fun W => vbytes_any l[k] W)
        unfold VBytesP at HVB
        have HS2 := hideIt (HSU.out k hlt)
        have hle := HLE.out k
        have hcl := HCL.out l[k]
        have hl60 := HL.out
        clear hR
        generalize codeI l[k] = cI at *
        generalize checkE l[k] = ce at *
        generalize icells l[k] = C1 at *
        generalize hdk l k = hb1 at *
        go_wp2_with (first | (refine wpList_load_mid rfl 40 (.tmp 30) rfl b (off + k * 6) rfl C1.toList _ HRR.out Tryz.underlying40 rfl HIJ.out ?_))
        refine Calls.mono (HVB.out _) ?_
        rintro e w3 ⟨a3, c3, rfl, hbs3, hF3, hn3⟩
        obtain ⟨a4, c4, w4, hrun4, hrow4, hF4, ha4⟩ := app_row w3 29 a c hb1 cI (HR.out.keep (fun k hk _ => hF3.block k hk (fun e => e))) _ (hbs3.src c3) (by omega)
        have HRUN := hideIt hrun4
        have HR4 := hideIt (show Row w4 5 a4 c4 (hdk l (k + 1)) by rw [HS2.out]; exact hrow4)
        have HN4 := hideIt (fun i (h : blk a4 i) => show w.heap.size ≤ i by
          rcases ha4 with e | e
          · rw [e] at h; exact HN.out i h
          · have := new_blkU e h; have := HF.out.size; have := hF3.size; omega)
        have HF4 := hideIt ((HF.out.trans hF3 (fun _ _ e => e)).trans hF4 (fun i hi e => absurd (HN.out i e) (by omega)))
        have HLL := hideIt (show (hdk l (k + 1)).length = hb1.length + cI.length by rw [HS2.out, List.length_append])
        clear hbs3 hF3 hn3 hrun4 hrow4 hF4 ha4 HR HN HF
        go_wp2_with (first | (at_builtin; refine wpList_append_run _ rfl (.tmp 35) (.tmp 36) 29 29 rfl (.slice a hb1.length c) (.slice a3 cI.length c3) (.slice a4 (hb1.length + cI.length) c4) w4 rfl rfl HRUN.out ?_))
        go_roundw
        case measure => simp [intOf]; omega
        case rel => exact ⟨k + 1, a4, c4, by rw [HLL.out], by go_num, by omega, HR4, HN4, HF4⟩
      · have hjn : ¬ (k : Int) < (l.length : Int) := by omega
        have hkl : k = l.length := by omega
        subst hkl
        go_wp2_with fail
        go_ret2
        exact ⟨a, c, rfl, HR.out.bs, HF.out, HN.out, (row_capU HR.out).1, (row_capU HR.out).2, HR.out.cap0⟩
  · have hne : ((chkF l).1 == 0) = false := by simpa using he
    have hc : progC l = [] := by unfold progC; rw [if_neg he]
    rw [hc]
    rw [hc2] at HCK
    generalize (chkF l).1 = er at *
    clear hB hz he hc hc2
    go_enter Tryz.func10, Tryz.ntmps10
    go_wp2_with fail
    refine Calls.mono HCK.out ?_
    rintro e w1 ⟨rfl, hF1⟩
    have HF1 := hideIt hF1
    clear hF1 HCK
    go_wp2_with fail
    go_ret2
    exact ⟨none, 0, rfl, Or.inl ⟨rfl, rfl⟩, HF1.out, fun k hk => by (obtain ⟨_, e, _⟩ := hk; cases e), Nat.le_refl _, Nat.zero_le _, fun _ => rfl⟩

end Go.Proofs.YtojgikaoiegmpaaGreatDoor

/- Package prog: BigProg, walked; Same of one list. -/
namespace Go.Proofs.YtojgikaoiegmpaaGreatDoor
open Go.RowKit Go.IntWalk
set_option linter.unusedSimpArgs false
set_option linter.unusedVariables false
set_option maxRecDepth 100000

def SameW (a b : World) : Prop := a = b
/-- What BigProg answers. -/
def BigP (l : List Ins) (w : World) (e : Ending) (w' : World) : Prop := ∃ b : Bool, e = .returned (.bool b) ∧ (b = false → l.length ≤ 70) ∧ w' = w
set_option maxRecDepth 100000 in
set_option maxHeartbeats 2000000 in
theorem bigprog_any (ao : Option Addr) (cap : Nat) (l : List Ins) (hl : l.length ≤ 9223372036854775807) (w : World) (hB : InsRow w ao l) : Calls Tryz.prog 4 #[.slice ao l.length cap, .int .i64 70, .int .i64 2000] w (BigP l w) := by
  have HB := hideIt hB
  clear hB
  go_enter Tryz.func4, Tryz.ntmps4
  go_wp2_with fail
  go_loopw [7, 8] (fun s7 s8 wr => ∃ (n : Int) (k : Nat), s7 = .int .i64 n ∧ s8 = .int .i64 k ∧ k ≤ l.length ∧ k ≤ 71 ∧ SameW wr w) (fun _ s8 _ => l.length - (intOf s8).toNat)
  case atStart => exact ⟨0, 0, rfl, rfl, by omega, by omega, rfl⟩
  case round =>
    obtain ⟨n, k, rfl, rfl, hk, hk71, HE⟩ := hrel
    have HE2 := hideIt HE
    obtain rfl : wr = w := HE
    by_cases hlt : k < l.length
    · have h1 : (k : Int) < (l.length : Int) := by omega
      by_cases h70 : k ≤ 70
      · have h2 : (k : Int) ≤ 70 := by omega
        obtain ⟨b, off, rfl, hb, hR⟩ := HB.out.get k hlt
        have c5 := hR 5 _ rfl
        clear hR
        go_wp2_with fail
        go_roundw
        case measure => simp [intOf]; omega
        case rel => exact ⟨_, k + 1, rfl, by go_num, by omega, by omega, HE2.out⟩
      · have h2 : ¬ (k : Int) ≤ 70 := by omega
        have h2d : decide ((k : Int) ≤ 70) = false := by simpa using h2
        have h3 : decide ((70 : Int) < (l.length : Int)) = true := by simp; omega
        go_wp2_with fail
        go_ret
        exact ⟨true, rfl, fun e => (by cases e), rfl⟩
    · have hjn : ¬ (k : Int) < (l.length : Int) := by omega
      have hkl : k = l.length := by omega
      by_cases h70 : l.length ≤ 70
      · have h3 : decide ((70 : Int) < (l.length : Int)) = false := by simp; omega
        go_wp2_with fail
        go_ret
        exact ⟨_, rfl, fun _ => h70, rfl⟩
      · have h3 : decide ((70 : Int) < (l.length : Int)) = true := by simp; omega
        go_wp2_with fail
        go_ret
        exact ⟨true, rfl, fun e => (by cases e), rfl⟩

theorem gsame_tr (ao bo : Option Addr) (cap cap2 : Nat) (l : List Ins) (hl : l.length ≤ 1000) (w : World) (hA : InsRow w ao l) (hB : InsRow w bo l) : Calls Tryz.prog 14 #[.slice ao l.length cap, .slice bo l.length cap2] w fun e w' => e = .returned (.bool true) ∧ Fr (fun _ => False) w w' := by
  refine Calls.mono (gsame_any ao bo cap cap2 l l (by omega) (by omega) w hA hB) ?_
  rintro e w' ⟨r, rfl, hr, hF⟩
  exact ⟨by rw [hr.2 rfl], hF⟩

end Go.Proofs.YtojgikaoiegmpaaGreatDoor

/- Package prog: parts of transactions: the walk. -/
namespace Go.Proofs.YtojgikaoiegmpaaGreatDoor
open Go.RowKit Go.IntWalk
set_option linter.unusedSimpArgs false
set_option linter.unusedVariables false
set_option maxRecDepth 100000

theorem app_ins (w : World) (ao : Option Addr) (cap : Nat) (l m : List Ins) (hrow : RowOf encIns 6 40 w ao cap l) (bo : Option Addr) (c : Nat) (hs : InsRow w bo m) (hb : l.length + m.length ≤ 1099511627776) :
    ∃ ao' cap' w', (Builtin.append_ #[22, 22] 22 #[.slice ao l.length cap, .slice bo m.length c]).run Tryz.prog w = .ok (.slice ao' (l ++ m).length cap') w' ∧ RowOf encIns 6 40 w' ao' cap' (l ++ m) ∧ Fr (blk ao) w w' ∧ (ao' = ao ∨ ao' = some ⟨w.heap.size, 0, none⟩) := by
  obtain ⟨i0, hi, hz0, hz1, hz2⟩ := info_parts Tryz.infoIns
  obtain ⟨ao', cap', w', h1, h2, h3, h4⟩ := row_append Tryz.underlying22 hi hz0 56 hz1 hz2 rfl (by decide) (by decide) encIns_len encIns_one w ao cap l m hrow bo c hs.atOf hb
  exact ⟨ao', cap', w', by rw [h1, List.length_append], h2, h3, h4⟩

set_option maxRecDepth 100000 in
theorem copyprog_any (ao : Option Addr) (cap : Nat) (l : List Ins) (hl : l.length ≤ 1000) (w : World) (hB : InsRow w ao l) : Calls Tryz.prog 6 #[.slice ao l.length cap] w fun e w' => ∃ ao' cap', e = .returned (.slice ao' l.length cap') ∧ RowOf encIns 6 40 w' ao' cap' l ∧ Fr (fun _ => False) w w' ∧ ∀ k, blk ao' k → w.heap.size ≤ k := by
  have hF : Fr (fun _ => False) w (w.alloc (.cells #[] 40)) := (Fr.refl _ w).alloc _
  obtain ⟨ao', cap', w1, hrun, hrow, hf, hao⟩ := app_ins (w.alloc (.cells #[] 40)) (some ⟨w.heap.size, 0, none⟩) 0 [] l (World.ownsRow_made w #[] 0 (Nat.zero_le _) (by decide) rfl) ao cap (hB.fr hF (fun _ _ _ e => e)) (by simp; omega)
  have HR := hideIt hrun
  clear hrun
  dsimp only [List.length_nil, List.nil_append] at *
  go_enter Tryz.func6, Tryz.ntmps6
  go_wp2_with (first | (at_builtin; refine wpList_append_run _ rfl (.tmp 3) (.tmp 4) 22 22 rfl (.slice (some ⟨w.heap.size, 0, none⟩) 0 0) (.slice ao l.length cap) (.slice ao' l.length cap') w1 rfl rfl HR.out ?_))
  go_ret
  refine ⟨ao', cap', rfl, hrow, hF.trans hf (fun i hi e => ?_), fun k hk => ?_⟩
  · obtain ⟨_, e1, e2⟩ := e
    obtain rfl := Option.some.inj e1
    simp only at e2
    omega
  · rcases hao with rfl | rfl
    · obtain ⟨_, e1, e2⟩ := hk
      obtain rfl := Option.some.inj e1
      simp only at e2
      omega
    · obtain ⟨_, e1, e2⟩ := hk
      obtain rfl := Option.some.inj e1
      simp at e2
      omega

/-- A beginning of one that may be. -/
theorem part_chk {l : List Ins} (h : (chkF l).1 = 0) (p : Nat) (hp : p ≤ l.length) : ((chkF (l.take p)).1 = 0 ∧ (progB (l.take p)).length ≤ (progB l).length) ∨ ((chkF (l.take p)).1 = 5 ∧ 0 ≤ (chkF (l.take p)).2 ∧ (chkF (l.take p)).2 < p) := by
  obtain ⟨_, h60, hb, hy, ho⟩ := chkF_zero h
  have hlen : (l.take p).length = p := by simp; omega
  have hg := not_bad hb
  have hle : (progB (l.take p)).length ≤ (progB l).length := by rw [progB_len, progB_len]; have := flat_take l p; omega
  by_cases hbe : ∀ t, t < (l.take p).length → ¬ beyB (l.take p) t
  · left
    refine ⟨?_, hle⟩
    rw [chkF_ok (l.take p) (by omega) (fun i hi => hg i (List.mem_of_mem_take hi)) hbe (by omega)]
  · right
    have hb2 : ∀ t, t < (l.take p).length → ¬ badB (l.take p) t := fun t ht hx => by
      obtain ⟨h1, h2⟩ := hx
      exact h2 (hg _ (List.mem_of_mem_take (List.getElem_mem h1)))
    unfold chkF
    rw [if_neg (by omega), find_none' _ _ (badb_iff _) _ hb2]
    cases hf : (List.range (l.take p).length).find? (fun j => beyb (l.take p) j) with
    | some j =>
      have := List.mem_of_find?_eq_some hf
      rw [List.mem_range, hlen] at this
      dsimp only
      exact ⟨rfl, by omega, by omega⟩
    | none =>
      exfalso
      apply hbe
      intro t ht hx
      rw [List.find?_eq_none] at hf
      exact hf t (List.mem_range.2 ht) ((beyb_iff _ _).2 hx)
theorem both_chk {l m : List Ins} (h : (chkF l).1 = 0) (hm : (chkF m).1 = 0) (h60 : (l ++ m).length ≤ 60) (h5 : (progB l).length + (progB m).length ≤ 512) : (chkF (l ++ m)).1 = 0 := by
  obtain ⟨_, _, hb, hy, _⟩ := chkF_zero h
  obtain ⟨_, _, hb', hy', _⟩ := chkF_zero hm
  refine congrArg Prod.fst (chkF_ok (l ++ m) h60 (fun i hi => ?_) (fun t ht hx => ?_) ?_)
  · rcases List.mem_append.1 hi with hi | hi
    · exact not_bad hb i hi
    · exact not_bad hb' i hi
  · obtain ⟨h1, h2⟩ := hx
    by_cases hlt : t < l.length
    · rw [List.getElem_append_left hlt] at h2
      rw [List.length_append] at h2
      exact hy t hlt ⟨hlt, by omega⟩
    · rw [List.getElem_append_right (by omega)] at h2
      rw [List.length_append] at h1 h2
      exact hy' (t - l.length) (by omega) ⟨by omega, by omega⟩
  · rw [progB_len] at h5 ⊢
    rw [progB_len] at h5
    rw [List.flatMap_append, List.length_append]
    omega

end Go.Proofs.YtojgikaoiegmpaaGreatDoor
