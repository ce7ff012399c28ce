/- ProgBack, part 15 of the road: what the program's functions do, each by its own walk. -/
import Derived.Test.YtojgikaoiegmpaaDoorQ14
import Derived.Lib.Strings
import Derived.Test.YtojgikaoiegmpaaDoorQ13
import Derived.Test.YtojgikaoiegmpaaDoorQ6
import Derived.Test.YtojgikaoiegmpaaDoorQ5

/- Package prog: Same, walked. -/
namespace Go.Proofs.YtojgikaoiegmpaaDoor
open Go.RowKit Go.IntWalk
set_option linter.unusedSimpArgs false
set_option linter.unusedVariables false
set_option maxRecDepth 100000

/-- Whether two instructions are one. -/
def insQ (i k : Ins) : Bool := i.op == k.op && (i.a == k.a && (i.b == k.b && (i.c == k.c && (i.n == k.n && i.s.toList == k.s.toList))))
theorem insQ_iff (i k : Ins) : insQ i k = true ↔ i = k := by
  constructor
  · intro h
    simp only [insQ, Bool.and_eq_true, beq_iff_eq] at h
    obtain ⟨e0, e1, e2, e3, e4, e5⟩ := h
    have e6 : i.s = k.s := by
      rw [Lib.toList_data, Lib.toList_data] at e5
      cases hi : i.s; cases hk : k.s
      rw [hi, hk] at e5
      simp only [ByteArray.mk.injEq]
      exact Array.ext' e5
    clear e5
    cases i; cases k
    simp only at e0 e1 e2 e3 e4 e6
    subst e0 e1 e2 e3 e4 e6
    rfl
  · rintro rfl
    simp [insQ]
theorem eqInQ (i k : Ins) (w : World) : (Op.equalIn 10000 46 (.agg (icells i)) (.agg (icells k))).run Tryd.prog w = .ok (insQ i k) w := by
  obtain ⟨op, a, b, c, n, s⟩ := i
  obtain ⟨op', a', b', c', n', s'⟩ := k
  have u3 := Tryd.underlying9
  have a3 := Tryd.isAgg9
  have z3 := Tryd.sizeOf9
  have u4 := Tryd.underlying3
  have a4 := Tryd.isAgg3
  have z4 := Tryd.sizeOf3
  rw [show (10000 : Nat) = 9999 + 1 from rfl, run_equalIn_agg w 9999 46 _ _ (by kernel_rfl) (by kernel_rfl)]
  unfold icells insQ
  simp only [Program.fieldsOf, Tryd.underlying46]
  go_simp
  by_cases h0 : op = op' <;> by_cases h1 : a = a' <;> by_cases h2 : b = b' <;> by_cases h3 : c = c' <;> by_cases h4 : n = n' <;> by_cases h5 : s.toList = s'.toList <;> simp [h0, h1, h2, h3, h4, h5]
theorem neqQ (i k : Ins) (w : World) : (binOp .neq 46 (.agg (icells i)) (.agg (icells k))).run Tryd.prog w = .ok (.bool (!insQ i k)) w := by
  rw [run_neq_struct, eqInQ]
  rfl
theorem yields_binQ {P : Program} {o : Oper} {a : Act} {w : World} (op : BinOp) (t t' : TypeId) (x y : Operand) (ho : o.op = .binOp op t x y t') (v1 v2 v : Value) (hx : a.eval x = v1) (hy : a.eval y = v2)
    (hrun : (binOp op t v1 v2).run P w = .ok v w) (hg : (eqGuard op t x y v1 v2).run P w = .ok () w) : (execOp a.eval o).run P w = .ok (.value v) w := by
  unfold execOp
  simp only [ho, hx, hy, Sem.run_bind, hg, hrun, Result.andThen_ok, Sem.run_pure]
theorem grdQ (w : World) (op : BinOp) (x y : Operand) (i k : Ins) : (eqGuard op 46 x y (.agg (icells i)) (.agg (icells k))).run Tryd.prog w = .ok () w := run_eqGuard_agg w op 46 x y _ _ (by kernel_rfl)

/-- Whether two lists are one. -/
def SameP (l m : List Ins) (w : World) (e : Ending) (w' : World) : Prop := ∃ r : Bool, e = .returned (.bool r) ∧ (r = true ↔ l = m) ∧ Fr (fun _ => False) w w'
set_option maxRecDepth 100000 in
set_option maxHeartbeats 2000000 in
theorem geql_any (ao bo : Option Addr) (cap cap2 : Nat) (l m : List Ins) (hl : l.length ≤ 1099511627776) (hm : m.length ≤ 1099511627776) (w : World) (hA : InsRow w ao l) (hB : InsRow w bo m) : Calls Tryd.prog 30 #[.slice ao l.length cap, .slice bo m.length cap2] w (SameP l m w) := by
  have HA := hideIt (fun W (hF : Fr (fun _ => False) w W) => hA.fr hF (fun _ _ _ e => e))
  have HB := hideIt (fun W (hF : Fr (fun _ => False) w W) => hB.fr hF (fun _ _ _ e => e))
  clear hA hB
  by_cases hne : l.length = m.length
  · have hml : ((m.length : Nat) : Int) = ((l.length : Nat) : Int) := by omega
    have HNE := hideIt hne
    rw [show m.length = l.length from hne.symm]
    clear hne hml
    go_enter Tryd.func30, Tryd.ntmps30
    go_wp2_with fail
    go_loopw [13] (fun s13 wr => ∃ k : Nat, s13 = .int .i64 k ∧ k ≤ l.length ∧ Hid (l.take k = m.take k) ∧ Hid (Fr (fun _ => False) w wr)) (fun s13 _ => l.length - (intOf s13).toNat)
    case atStart => exact ⟨0, rfl, by omega, hideIt (by simp), hideIt (Fr.refl _ _)⟩
    case round =>
      obtain ⟨k, rfl, hk, HT, HF⟩ := hrel
      by_cases hlt : k < l.length
      · have h1 : (k : Int) < (l.length : Int) := by omega
        have hlt2 : k < m.length := by have := HNE.out; omega
        obtain ⟨b, off, rfl, hb, hR⟩ := (HA.out wr HF.out).get k hlt
        obtain ⟨b2, off2, rfl, hb2, hR2⟩ := (HB.out wr HF.out).get k hlt2
        have HR := hideIt hR
        have HR2 := hideIt hR2
        have HIJ := hideIt (insSize l[k])
        have HIJ2 := hideIt (insSize m[k])
        have HQN := hideIt (fun w => neqQ l[k] m[k] w)
        have HQG := hideIt (fun w (x y : Operand) => grdQ w .neq x y l[k] m[k])
        have HQI := hideIt (insQ_iff l[k] m[k])
        clear hR hR2
        generalize insQ l[k] m[k] = q at *
        generalize icells l[k] = C at *
        generalize icells m[k] = D at *
        have n0 : (0 : Int) ≤ (k : Int) := by omega
        go_wp2_with fail
        refine wp_region_held_drew (S := (fun w' => w'.rangeAt b (off + k * 6) C.toList ∧ w'.rangeAt b2 (off2 + k * 6) D.toList)) (by kernel_rfl) ?_ (fun hHeld => ?_)
        · exact ⟨HR.out, HR2.out⟩
        refine wpAnyH_take (i := 0) (v := ?v1) rfl (by kernel_rfl) (by kernel_rfl) (by kernel_rfl) (fun _ _ _ h => h) (Or.inl ⟨by kernel_rfl, ?hy1⟩) (by assumption) ?rest1
        case hy1 => intro w hSw; (try dsimp only at hSw); go_simp; (try with_reducible rfl)
        try simp only [Act.put, List.getElem_toArray, List.getElem_cons_zero, List.getElem_cons_succ, List.setIfInBounds_toArray, List.set_cons_zero, List.set_cons_succ]
        refine wpAnyH_take (i := 1) (v := ?v2) rfl (by kernel_rfl) (by kernel_rfl) (by kernel_rfl) (fun _ _ _ h => h) (Or.inl ⟨by kernel_rfl, ?hy2⟩) (by assumption) ?rest2
        case hy2 => intro w hSw; (try dsimp only at hSw); go_simp; (try with_reducible rfl)
        try simp only [Act.put, List.getElem_toArray, List.getElem_cons_zero, List.getElem_cons_succ, List.setIfInBounds_toArray, List.set_cons_zero, List.set_cons_succ]
        refine wpAnyH_take (i := 2) (v := ?v3) rfl (by kernel_rfl) (by kernel_rfl) (by kernel_rfl) (fun _ _ _ h => h) (Or.inl ⟨by kernel_rfl, ?hy3⟩) (by assumption) ?rest3
        case hy3 => intro w hSw; (try dsimp only at hSw); go_simp; (try with_reducible rfl)
        try simp only [Act.put, List.getElem_toArray, List.getElem_cons_zero, List.getElem_cons_succ, List.setIfInBounds_toArray, List.set_cons_zero, List.set_cons_succ]
        refine wpAnyH_take (i := 4) (v := ?v4) rfl (by kernel_rfl) (by kernel_rfl) (by kernel_rfl) (fun _ _ _ h => h) (Or.inl ⟨by kernel_rfl, ?hy4⟩) (by assumption) ?rest4
        case hy4 => intro w hSw; (try dsimp only at hSw); go_simp; (try with_reducible rfl)
        try simp only [Act.put, List.getElem_toArray, List.getElem_cons_zero, List.getElem_cons_succ, List.setIfInBounds_toArray, List.set_cons_zero, List.set_cons_succ]
        refine wpAnyH_take (i := 5) (v := ?v5) rfl (by kernel_rfl) (by kernel_rfl) (by kernel_rfl) (fun _ _ _ h => h) (Or.inl ⟨by kernel_rfl, ?hy5⟩) (by assumption) ?rest5
        case hy5 => intro w hSw; (try dsimp only at hSw); go_simp; (try with_reducible rfl)
        try simp only [Act.put, List.getElem_toArray, List.getElem_cons_zero, List.getElem_cons_succ, List.setIfInBounds_toArray, List.set_cons_zero, List.set_cons_succ]
        refine wpAnyH_take (i := 6) (v := ?v6) rfl (by kernel_rfl) (by kernel_rfl) (by kernel_rfl) (fun _ _ _ h => h) (Or.inl ⟨by kernel_rfl, ?hy6⟩) (by assumption) ?rest6
        case hy6 => intro w hSw; (try dsimp only at hSw); go_simp; (try with_reducible rfl)
        try simp only [Act.put, List.getElem_toArray, List.getElem_cons_zero, List.getElem_cons_succ, List.setIfInBounds_toArray, List.set_cons_zero, List.set_cons_succ]
        refine wpAnyH_take (i := 3) (v := (.agg C)) rfl (by kernel_rfl) (by kernel_rfl) (by kernel_rfl) (fun _ _ _ h => h) (Or.inl ⟨by kernel_rfl, fun w0 hSw => ylm 46 (.tmp 18) rfl b (off + k * 6) rfl C _ hSw.1 Tryd.underlying46 rfl HIJ.out⟩) (by assumption) ?_
        try simp only [Act.put, List.getElem_toArray, List.getElem_cons_zero, List.getElem_cons_succ, List.setIfInBounds_toArray, List.set_cons_zero, List.set_cons_succ]
        refine wpAnyH_take (i := 7) (v := (.agg D)) rfl (by kernel_rfl) (by kernel_rfl) (by kernel_rfl) (fun _ _ _ h => h) (Or.inl ⟨by kernel_rfl, fun w0 hSw => ylm 46 (.tmp 22) rfl b2 (off2 + k * 6) rfl D _ hSw.2 Tryd.underlying46 rfl HIJ2.out⟩) (by assumption) ?_
        try simp only [Act.put, List.getElem_toArray, List.getElem_cons_zero, List.getElem_cons_succ, List.setIfInBounds_toArray, List.set_cons_zero, List.set_cons_succ]
        refine wpAnyH_take (i := 8) (v := .bool (!q)) rfl (by kernel_rfl) (by kernel_rfl) (by kernel_rfl) (fun _ _ _ h => h) (Or.inl ⟨by kernel_rfl, fun w0 hSw => yields_binQ .neq 46 46 (.tmp 19) (.tmp 23) rfl (.agg C) (.agg D) (.bool (!q)) rfl rfl (HQN.out _) (HQG.out _ _ _)⟩) (by assumption) ?_
        try simp only [Act.put, List.getElem_toArray, List.getElem_cons_zero, List.getElem_cons_succ, List.setIfInBounds_toArray, List.set_cons_zero, List.set_cons_succ]
        refine wpAnyH_done (by kernel_rfl) ?_ _
        have HF2 := hideIt (HF.out.trans ((Fr.refl (fun _ => False) wr).drew) (fun _ _ e => e))
        clear hHeld HF
        by_cases hq : q = true
        · have HT2 := hideIt (show l.take (k + 1) = m.take (k + 1) by
            rw [List.take_succ_eq_append_getElem hlt, List.take_succ_eq_append_getElem hlt2, HT.out, HQI.out.1 hq])
          subst hq
          go_wp2_with fail
          go_roundw
          case measure => simp [intOf]; omega
          case rel => exact ⟨k + 1, by go_num, by omega, HT2, HF2⟩
        · have HX := hideIt (show ¬ l = m from fun h => hq (HQI.out.2 (by subst h; rfl)))
          have hq2 : q = false := by simpa using hq
          subst hq2
          go_wp2_with fail
          go_ret
          exact ⟨false, rfl, ⟨fun h => (by cases h), fun h => absurd h HX.out⟩, HF2.out⟩
      · have hje : k = l.length := by omega
        have hjn : ¬ (k : Int) < (l.length : Int) := by omega
        have HLM := hideIt (show l = m by
          have h := HT.out
          rwa [List.take_of_length_le (by omega), List.take_of_length_le (by have := HNE.out; omega)] at h)
        go_wp2_with fail
        go_ret
        exact ⟨true, rfl, ⟨fun _ => HLM.out, fun _ => rfl⟩, HF.out⟩
  · have hne2 : ¬ ((l.length : Nat) : Int) = ((m.length : Nat) : Int) := by omega
    have hne3 : (((l.length : Nat) : Int) == ((m.length : Nat) : Int)) = false := beq_eq_false_iff_ne.2 hne2
    have HNE := hideIt hne
    go_enter Tryd.func30, Tryd.ntmps30
    go_wp2_with fail
    go_ret
    exact ⟨false, rfl, ⟨fun h => (by cases h), fun h => absurd (by rw [h]) HNE.out⟩, Fr.refl _ _⟩

theorem gsame_any (ao bo : Option Addr) (cap cap2 : Nat) (l m : List Ins) (hl : l.length ≤ 1099511627776) (hm : m.length ≤ 1099511627776) (w : World) (hA : InsRow w ao l) (hB : InsRow w bo m) : Calls Tryd.prog 10 #[.slice ao l.length cap, .slice bo m.length cap2] w (SameP l m w) := by
  have HC := hideIt (geql_any ao bo cap cap2 l m hl hm w hA hB)
  clear hA hB
  go_enter Tryd.func10, Tryd.ntmps10
  go_wp2_with fail
  refine Calls.mono HC.out ?_
  rintro e w1 ⟨r, rfl, hr, hF⟩
  have HR := hideIt (And.intro hr hF)
  clear hr hF
  go_wp2_with fail
  go_ret
  exact ⟨r, rfl, HR.out.1, HR.out.2⟩

end Go.Proofs.YtojgikaoiegmpaaDoor

/- Package prog: what the laws ask besides: SameProg, fails, awake. -/
namespace Go.Proofs.YtojgikaoiegmpaaDoor
open Go.RowKit Go.IntWalk
set_option linter.unusedSimpArgs false
set_option linter.unusedVariables false
set_option maxRecDepth 100000

set_option maxRecDepth 100000 in
set_option maxHeartbeats 2000000 in
theorem ksameprog_any (ao bo : Option Addr) (cap cap2 : Nat) (l m : List Ins) (hl : l.length ≤ 1099511627776) (hm : m.length ≤ 1099511627776) (w : World) (hA : InsRow w ao l) (hB : InsRow w bo m) : Calls Tryd.prog 9 #[.slice ao l.length cap, .slice bo m.length cap2] w (SameP l m w) := by
  have HA := hideIt (fun W (hF : Fr (fun _ => False) w W) => hA.fr hF (fun _ _ _ e => e))
  have HB := hideIt (fun W (hF : Fr (fun _ => False) w W) => hB.fr hF (fun _ _ _ e => e))
  clear hA hB
  by_cases hne : l.length = m.length
  · have hml : ((m.length : Nat) : Int) = ((l.length : Nat) : Int) := by omega
    have HNE := hideIt hne
    rw [show m.length = l.length from hne.symm]
    clear hne hml
    go_enter Tryd.func9, Tryd.ntmps9
    go_wp2_with fail
    go_loopw [5] (fun s5 wr => ∃ k : Nat, s5 = .int .i64 k ∧ k ≤ l.length ∧ Hid (l.take k = m.take k) ∧ Hid (Fr (fun _ => False) w wr)) (fun s5 _ => l.length - (intOf s5).toNat)
    case atStart => exact ⟨0, rfl, by omega, hideIt (by simp), hideIt (Fr.refl _ _)⟩
    case round =>
      obtain ⟨k, rfl, hk, HT, HF⟩ := hrel
      by_cases hlt : k < l.length
      · have h1 : (k : Int) < (l.length : Int) := by omega
        have hlt2 : k < m.length := by have := HNE.out; omega
        obtain ⟨b, off, rfl, hb, hR⟩ := (HA.out wr HF.out).get k hlt
        obtain ⟨b2, off2, rfl, hb2, hR2⟩ := (HB.out wr HF.out).get k hlt2
        have HR := hideIt hR
        have HR2 := hideIt hR2
        have HIJ := hideIt (insSize l[k])
        have HIJ2 := hideIt (insSize m[k])
        have HQN := hideIt (fun w => neqQ l[k] m[k] w)
        have HQG := hideIt (fun w (x y : Operand) => grdQ w .neq x y l[k] m[k])
        have HQI := hideIt (insQ_iff l[k] m[k])
        clear hR hR2
        generalize insQ l[k] m[k] = q at *
        generalize icells l[k] = C at *
        generalize icells m[k] = D at *
        have n0 : (0 : Int) ≤ (k : Int) := by omega
        go_wp2_with fail
        refine wp_region_held_drew (S := (fun w' => w'.rangeAt b (off + k * 6) C.toList ∧ w'.rangeAt b2 (off2 + k * 6) D.toList)) (by kernel_rfl) ?_ (fun hHeld => ?_)
        · exact ⟨HR.out, HR2.out⟩
        refine wpAnyH_take (i := 0) (v := ?v1) rfl (by kernel_rfl) (by kernel_rfl) (by kernel_rfl) (fun _ _ _ h => h) (Or.inl ⟨by kernel_rfl, ?hy1⟩) (by assumption) ?rest1
        case hy1 => intro w hSw; (try dsimp only at hSw); go_simp; (try with_reducible rfl)
        try simp only [Act.put, List.getElem_toArray, List.getElem_cons_zero, List.getElem_cons_succ, List.setIfInBounds_toArray, List.set_cons_zero, List.set_cons_succ]
        refine wpAnyH_take (i := 1) (v := ?v2) rfl (by kernel_rfl) (by kernel_rfl) (by kernel_rfl) (fun _ _ _ h => h) (Or.inl ⟨by kernel_rfl, ?hy2⟩) (by assumption) ?rest2
        case hy2 => intro w hSw; (try dsimp only at hSw); go_simp; (try with_reducible rfl)
        try simp only [Act.put, List.getElem_toArray, List.getElem_cons_zero, List.getElem_cons_succ, List.setIfInBounds_toArray, List.set_cons_zero, List.set_cons_succ]
        refine wpAnyH_take (i := 2) (v := ?v3) rfl (by kernel_rfl) (by kernel_rfl) (by kernel_rfl) (fun _ _ _ h => h) (Or.inl ⟨by kernel_rfl, ?hy3⟩) (by assumption) ?rest3
        case hy3 => intro w hSw; (try dsimp only at hSw); go_simp; (try with_reducible rfl)
        try simp only [Act.put, List.getElem_toArray, List.getElem_cons_zero, List.getElem_cons_succ, List.setIfInBounds_toArray, List.set_cons_zero, List.set_cons_succ]
        refine wpAnyH_take (i := 4) (v := ?v4) rfl (by kernel_rfl) (by kernel_rfl) (by kernel_rfl) (fun _ _ _ h => h) (Or.inl ⟨by kernel_rfl, ?hy4⟩) (by assumption) ?rest4
        case hy4 => intro w hSw; (try dsimp only at hSw); go_simp; (try with_reducible rfl)
        try simp only [Act.put, List.getElem_toArray, List.getElem_cons_zero, List.getElem_cons_succ, List.setIfInBounds_toArray, List.set_cons_zero, List.set_cons_succ]
        refine wpAnyH_take (i := 5) (v := ?v5) rfl (by kernel_rfl) (by kernel_rfl) (by kernel_rfl) (fun _ _ _ h => h) (Or.inl ⟨by kernel_rfl, ?hy5⟩) (by assumption) ?rest5
        case hy5 => intro w hSw; (try dsimp only at hSw); go_simp; (try with_reducible rfl)
        try simp only [Act.put, List.getElem_toArray, List.getElem_cons_zero, List.getElem_cons_succ, List.setIfInBounds_toArray, List.set_cons_zero, List.set_cons_succ]
        refine wpAnyH_take (i := 6) (v := ?v6) rfl (by kernel_rfl) (by kernel_rfl) (by kernel_rfl) (fun _ _ _ h => h) (Or.inl ⟨by kernel_rfl, ?hy6⟩) (by assumption) ?rest6
        case hy6 => intro w hSw; (try dsimp only at hSw); go_simp; (try with_reducible rfl)
        try simp only [Act.put, List.getElem_toArray, List.getElem_cons_zero, List.getElem_cons_succ, List.setIfInBounds_toArray, List.set_cons_zero, List.set_cons_succ]
        refine wpAnyH_take (i := 3) (v := (.agg C)) rfl (by kernel_rfl) (by kernel_rfl) (by kernel_rfl) (fun _ _ _ h => h) (Or.inl ⟨by kernel_rfl, fun w0 hSw => ylm 46 (.tmp 19) rfl b (off + k * 6) rfl C _ hSw.1 Tryd.underlying46 rfl HIJ.out⟩) (by assumption) ?_
        try simp only [Act.put, List.getElem_toArray, List.getElem_cons_zero, List.getElem_cons_succ, List.setIfInBounds_toArray, List.set_cons_zero, List.set_cons_succ]
        refine wpAnyH_take (i := 7) (v := (.agg D)) rfl (by kernel_rfl) (by kernel_rfl) (by kernel_rfl) (fun _ _ _ h => h) (Or.inl ⟨by kernel_rfl, fun w0 hSw => ylm 46 (.tmp 23) rfl b2 (off2 + k * 6) rfl D _ hSw.2 Tryd.underlying46 rfl HIJ2.out⟩) (by assumption) ?_
        try simp only [Act.put, List.getElem_toArray, List.getElem_cons_zero, List.getElem_cons_succ, List.setIfInBounds_toArray, List.set_cons_zero, List.set_cons_succ]
        refine wpAnyH_take (i := 8) (v := .bool (!q)) rfl (by kernel_rfl) (by kernel_rfl) (by kernel_rfl) (fun _ _ _ h => h) (Or.inl ⟨by kernel_rfl, fun w0 hSw => yields_binQ .neq 46 46 (.tmp 20) (.tmp 24) rfl (.agg C) (.agg D) (.bool (!q)) rfl rfl (HQN.out _) (HQG.out _ _ _)⟩) (by assumption) ?_
        try simp only [Act.put, List.getElem_toArray, List.getElem_cons_zero, List.getElem_cons_succ, List.setIfInBounds_toArray, List.set_cons_zero, List.set_cons_succ]
        refine wpAnyH_done (by kernel_rfl) ?_ _
        have HF2 := hideIt (HF.out.trans ((Fr.refl (fun _ => False) wr).drew) (fun _ _ e => e))
        clear hHeld HF
        by_cases hq : q = true
        · have HT2 := hideIt (show l.take (k + 1) = m.take (k + 1) by
            rw [List.take_succ_eq_append_getElem hlt, List.take_succ_eq_append_getElem hlt2, HT.out, HQI.out.1 hq])
          subst hq
          go_wp2_with fail
          go_roundw
          case measure => simp [intOf]; omega
          case rel => exact ⟨k + 1, by go_num, by omega, HT2, HF2⟩
        · have HX := hideIt (show ¬ l = m from fun h => hq (HQI.out.2 (by subst h; rfl)))
          have hq2 : q = false := by simpa using hq
          subst hq2
          go_wp2_with fail
          go_ret
          exact ⟨false, rfl, ⟨fun h => (by cases h), fun h => absurd h HX.out⟩, HF2.out⟩
      · have hje : k = l.length := by omega
        have hjn : ¬ (k : Int) < (l.length : Int) := by omega
        have HLM := hideIt (show l = m by
          have h := HT.out
          rwa [List.take_of_length_le (by omega), List.take_of_length_le (by have := HNE.out; omega)] at h)
        go_wp2_with fail
        go_ret
        exact ⟨true, rfl, ⟨fun _ => HLM.out, fun _ => rfl⟩, HF.out⟩
  · have hne2 : ¬ ((l.length : Nat) : Int) = ((m.length : Nat) : Int) := by omega
    have hne3 : (((l.length : Nat) : Int) == ((m.length : Nat) : Int)) = false := beq_eq_false_iff_ne.2 hne2
    have HNE := hideIt hne
    go_enter Tryd.func9, Tryd.ntmps9
    go_wp2_with fail
    go_ret
    exact ⟨false, rfl, ⟨fun h => (by cases h), fun h => absurd (by rw [h]) HNE.out⟩, Fr.refl _ _⟩

/-- What Check tells, as a pair. -/
noncomputable def chkF (l : List Ins) : Int × Int :=
  if 60 < l.length then (3, 60)
  else match (List.range l.length).find? (fun j => match l[j]? with | some i => !(checkE i == 0) | none => false) with
    | some j => (2, (j : Int))
    | none => match (List.range l.length).find? (fun j => beyb l j) with
      | some j => (5, (j : Int))
      | none => match (List.range l.length).find? (fun j => decide ((512 : Int) < (bgn l (j + 1) : Int))) with
        | some j => (3, (j : Int))
        | none => (0, 0)
theorem badb_iff (l : List Ins) (j : Nat) : (match l[j]? with | some i => !(checkE i == 0) | none => false) = true ↔ badB l j := by
  unfold badB
  cases h : l[j]? with
  | none =>
    have := List.getElem?_eq_none_iff.1 h
    simp
    omega
  | some i =>
    obtain ⟨hj, e⟩ := List.getElem?_eq_some_iff.1 h
    simp [hj, e]
theorem find_first' (p : Nat → Bool) (q : Nat → Prop) (hq : ∀ j, p j = true ↔ q j) (n j : Nat) (hj : j < n) (hp : q j) (h : ∀ t, t < j → ¬ q t) : (List.range n).find? p = some j :=
  find_first p n j hj ((hq j).2 hp) (fun t ht => Bool.eq_false_iff.2 (fun e => h t ht ((hq t).1 e)))
theorem find_none' (p : Nat → Bool) (q : Nat → Prop) (hq : ∀ j, p j = true ↔ q j) (n : Nat) (h : ∀ t, t < n → ¬ q t) : (List.range n).find? p = none :=
  find_none p n (fun t ht => Bool.eq_false_iff.2 (fun e => h t ht ((hq t).1 e)))
theorem ChkP.eq {l : List Ins} {err at_ : Int} (h : ChkP l err at_) : chkF l = (err, at_) := by
  have hov : ∀ j, decide ((512 : Int) < (bgn l (j + 1) : Int)) = true ↔ ovrB l j := fun j => by rw [decide_eq_true_iff]; rfl
  unfold chkF
  rcases h with ⟨h, rfl, rfl⟩ | ⟨h60, ⟨j, hj, rfl, rfl, hb, ht⟩ | ⟨hnb, ⟨j, hj, rfl, rfl, hb, ht⟩ | ⟨hny, ⟨j, hj, rfl, rfl, hb, ht⟩ | ⟨hno, rfl, rfl⟩⟩⟩⟩
  · rw [if_pos h]
  · rw [if_neg (by omega), find_first' _ _ (badb_iff l) _ j hj hb ht]
  · rw [if_neg (by omega), find_none' _ _ (badb_iff l) _ hnb, find_first' _ _ (beyb_iff l) _ j hj hb ht]
  · rw [if_neg (by omega), find_none' _ _ (badb_iff l) _ hnb, find_none' _ _ (beyb_iff l) _ hny, find_first' _ _ hov _ j hj hb ht]
  · rw [if_neg (by omega), find_none' _ _ (badb_iff l) _ hnb, find_none' _ _ (beyb_iff l) _ hny, find_none' _ _ hov _ hno]
/-- What Check answers, by its pair. -/
theorem gchk (ao : Option Addr) (cap : Nat) (l : List Ins) (hl : l.length ≤ 140737488355328) (w : World) (hB : InsRow w ao l) : Calls Tryd.prog 15 #[.slice ao l.length cap] w fun e w' => e = .returned (.tuple #[.int .i64 (chkF l).1, .int .i64 (chkF l).2]) ∧ Fr (fun _ => False) w w' := by
  refine Calls.mono (gcheck_any ao cap l hl w hB) ?_
  rintro e w' ⟨⟨err, at_, rfl, h⟩, hF⟩
  rw [h.eq]
  exact ⟨rfl, hF⟩
noncomputable def progC (l : List Ins) : List UInt8 := if (chkF l).1 = 0 then progB l else []
theorem gbts (ao : Option Addr) (cap : Nat) (l : List Ins) (hl : l.length ≤ 140737488355328) (w : World) (hB : InsRow w ao l) : Calls Tryd.prog 6 #[.slice ao l.length cap] w fun e w' => ∃ ao' cap', e = .returned (.tuple #[.slice ao' (progC l).length cap', .int .i64 (chkF l).1]) ∧ Full w' ao' cap' (progC l) ∧ Fr (fun _ => False) w w' ∧ ∀ k, blk ao' k → w.heap.size ≤ k := by
  refine Calls.mono (gbytes_any ao cap l hl w hB) ?_
  rintro e w' ⟨ao', cap', err, at_, bs, h, rfl, rfl, hf, hF, hn⟩
  have e1 : (chkF l).1 = err := by rw [h.eq]
  unfold progC
  rw [e1]
  exact ⟨ao', cap', rfl, hf, hF, hn⟩

theorem phalt_any (w : World) : Calls Tryd.prog 16 #[] w fun e w' => e = .returned (.agg #[.int .i64 15, .int .i64 0, .int .i64 0, .int .i64 0, .int .i64 0, .string ⟨#[]⟩]) ∧ Fr (fun _ => False) w w' := by
  go_enter Tryd.func16, Tryd.ntmps16
  go_wp2_with fail
  refine bodyPost_ret (v := .agg #[.int .i64 15, .int .i64 0, .int .i64 0, .int .i64 0, .int .i64 0, .string ⟨#[]⟩]) (by simp [results, Tryd.results16, go_sem]) rfl ⟨rfl, ?_⟩
  exact (Fr.refl _ _).alloc _
theorem pjump_any (n : Int) (w : World) : Calls Tryd.prog 18 #[.int .i64 n] w fun e w' => e = .returned (.agg #[.int .i64 13, .int .i64 0, .int .i64 0, .int .i64 0, .int .i64 n, .string ⟨#[]⟩]) ∧ Fr (fun _ => False) w w' := by
  go_enter Tryd.func18, Tryd.ntmps18
  go_wp2_with fail
  refine bodyPost_ret (v := .agg #[.int .i64 13, .int .i64 0, .int .i64 0, .int .i64 0, .int .i64 n, .string ⟨#[]⟩]) (by simp [results, Tryd.results18, go_sem]) rfl ⟨rfl, ?_⟩
  exact (Fr.refl _ _).alloc _

set_option maxRecDepth 100000 in
set_option maxHeartbeats 2000000 in
theorem pfails_true (ao : Option Addr) (cap : Nat) (bs : List UInt8) (f1 f2 : Int) (w : World) (h : BsAt w ao bs) (hcap0 : ao = none → cap = 0) (hcl : bs.length ≤ cap) (hnb : ∀ k, blk ao k → k < w.heap.size) (hr : readP bs = ([], f1, f2)) :
    Calls Tryd.prog 19 #[.slice ao bs.length cap, .agg #[.int .i64 f1, .int .i64 f2]] w fun e w' => e = .returned (.bool true) ∧ Fr (fun _ => False) w w' := by
  have HR := hideIt (fun w' (hF : Fr (fun _ => False) w w') => by
    have := gRead_any ao cap bs w' (h.fr hF (fun _ _ _ e => e)) hcap0 hcl (fun k hk => Nat.lt_of_lt_of_le (hnb k hk) hF.size)
    rw [hr] at this
    exact this)
  clear h hr hcl hcap0 hnb
  go_enter Tryd.func19, Tryd.ntmps19
  go_wp2_with fail
  refine Calls.mono (HR.out _ ((Fr.refl _ _).alloc _)) ?_
  rintro e w1 ⟨a1, c1, rfl, _, hF1, _⟩
  dsimp only [List.length_nil] at *
  have HF1 := hideIt (((Fr.refl (fun _ => False) w).alloc (.cells #[.int .i64 f1, .int .i64 f2] 34)).trans hF1 (fun _ _ e => e))
  have hB := (hF1.block w.heap.size (by simp) (fun e => e)).trans (heap_new rfl)
  have hB0 := cellOfHeap hB 0 rfl
  have hB1 := cellOfHeap hB 1 rfl
  have hlt : w.heap.size < w1.heap.size := (Array.getElem?_eq_some_iff.1 hB).1
  have hne : w.heap.size ≠ w1.heap.size := by omega
  clear hF1 HR hB
  go_wp2_with fail
  go_ret
  exact ⟨rfl, HF1.out.alloc _⟩

theorem pfails_new (bs : List UInt8) (C : Array Value) (n : Nat) (f1 f2 : Int) (hC : (bv bs).toArray = C) (hn : bs.length = n) (hr : readP bs = ([], f1, f2)) (hl : n ≤ 100) (u : World) (k : Nat) (hk : k = u.heap.size) :
    Calls Tryd.prog 19 #[.slice (some ⟨k, 0, none⟩) n n, .agg #[.int .i64 f1, .int .i64 f2]] (u.alloc (.cells C 5)) fun e w' => e = .returned (.bool true) ∧ Fr (fun _ => False) (u.alloc (.cells C 5)) w' := by
  subst hn hk
  exact pfails_true (some ⟨u.heap.size, 0, none⟩) bs.length bs f1 f2 _ (bs_new u bs C hC hl) (fun e => by cases e) (Nat.le_refl _) (fun j hj => by
    obtain ⟨_, e1, e2⟩ := hj
    obtain rfl := Option.some.inj e1
    simp at e2 ⊢
    omega) hr

def I13 (n : Int) : Ins := ⟨13, 0, 0, 0, n, ⟨#[]⟩⟩
def I15 : Ins := ⟨15, 0, 0, 0, 0, ⟨#[]⟩⟩
theorem rp1 : readP [1, 13, 1] = ([], 5, 1) := by kernel_rfl
theorem g13 : Good (I13 1) 13 := ⟨rfl, by decide, by decide, by decide, ⟨13, 0, 0, 0, 0, ⟨#[]⟩⟩, by kernel_rfl, rfl, rfl, rfl, rfl, rfl⟩
theorem g15 : Good I15 15 := gx2

theorem bgn_mono1 (l : List Ins) (k : Nat) : bgn l k ≤ bgn l (k + 1) := by
  by_cases h : k < l.length
  · rw [bgn_succ l k h]; omega
  · unfold bgn
    rw [List.take_of_length_le (by omega), List.take_of_length_le (by omega)]
    omega
theorem bgn_mono (l : List Ins) (j k : Nat) (h : j ≤ k) : bgn l j ≤ bgn l k := by
  induction k with
  | zero => obtain rfl : j = 0 := by omega
            omega
  | succ k ih =>
    by_cases e : j = k + 1
    · subst e; omega
    · have := ih (by omega)
      have := bgn_mono1 l k
      omega
theorem sevens_one (n : Nat) (h : n ≤ 60) : (sevens n).length = 1 := by
  have : ∀ n, n ≤ 60 → (sevens n).length = 1 := by decide
  exact this n h
theorem bgn_all (l : List Ins) (h : l.length ≤ 60) : bgn l l.length = (progB l).length := by
  unfold bgn progB
  rw [sevens_one _ h, List.take_length, List.length_append, List.length_flatMap]
  simp
/-- One that may be. -/
theorem chkF_ok (l : List Ins) (h60 : l.length ≤ 60) (hg : ∀ i ∈ l, checkE i = 0) (hb : ∀ t, t < l.length → ¬ beyB l t) (ho : (progB l).length ≤ 512) : chkF l = (0, 0) := by
  refine ChkP.eq (Or.inr ⟨h60, Or.inr ⟨fun t _ hx => ?_, Or.inr ⟨hb, Or.inr ⟨fun t ht hx => ?_, rfl, rfl⟩⟩⟩⟩)
  · obtain ⟨hlt, hx⟩ := hx
    exact hx (hg _ (List.getElem_mem hlt))
  · have h1 := bgn_mono l (t + 1) l.length (by omega)
    rw [bgn_all l h60] at h1
    change (512 : Int) < (bgn l (t + 1) : Int) at hx
    omega
theorem pb1 : progB [I13 1, I15] = [2, 13, 1, 15] := by
  show [UInt8.ofNat 2] ++ (codeI (I13 1) ++ (codeI I15 ++ [])) = _
  rw [g13.code, g15.code]
  kernel_rfl
theorem cf1 : chkF [I13 1, I15] = (0, 0) := by
  refine chkF_ok _ (by decide) (fun i hi => ?_) (fun t ht => ?_) (by rw [pb1]; decide)
  · rcases List.mem_cons.1 hi with rfl | hi
    · exact g13.check
    · rcases List.mem_cons.1 hi with rfl | hi
      · exact g15.check
      · cases hi
  · rw [← beyb_iff]
    have : ∀ t, t < 2 → ¬ beyb [I13 1, I15] t = true := by decide
    exact this t ht
theorem cf2 : chkF [I13 1] = (5, 0) := by
  refine ChkP.eq (Or.inr ⟨by decide, Or.inr ⟨fun t ht hx => ?_, Or.inl ⟨0, by decide, rfl, rfl, (beyb_iff _ _).1 (by decide), fun t ht => absurd ht (by omega)⟩⟩⟩)
  obtain ⟨hlt, hx⟩ := hx
  obtain rfl : t = 0 := by simp at ht; exact ht
  exact hx g13.check
theorem pc1 : progC [I13 1, I15] = [2, 13, 1, 15] := by unfold progC; rw [cf1, if_pos rfl, pb1]

theorem flat6 : ∀ (l : List Ins) (j t : Nat) (h : j < l.length), t < 6 → (l.flatMap fun i => (icells i).toList)[j * 6 + t]? = (icells l[j]).toList[t]?
  | i :: l, 0, t, _, ht => by
    rw [List.flatMap_cons, Nat.zero_mul, Nat.zero_add, List.getElem?_append_left (by rw [ic6]; exact ht)]
    rfl
  | i :: l, j + 1, t, h, ht => by
    rw [List.flatMap_cons, List.getElem?_append_right (by rw [ic6]; omega), ic6, show (j + 1) * 6 + t - 6 = j * 6 + t by omega]
    exact flat6 l j t (by simpa using h) ht
theorem ins_new (u : World) (l : List Ins) (C : Array Value) (hC : (l.flatMap fun i => (icells i).toList) = C.toList) (k : Nat) (hk : k = u.heap.size) : InsRow (u.alloc (.cells C 46)) (some ⟨k, 0, none⟩) l := by
  subst hk
  refine Or.inr ⟨u.heap.size, 0, rfl, by simp, fun j hj t v hv => ?_⟩
  have ht : t < 6 := by have := (List.getElem?_eq_some_iff.1 hv).1; rw [ic6] at this; exact this
  rw [Nat.zero_add, cell_of_row _ _ _ _ _ _ (heap_alloc_new u _), ← Array.getElem?_toList, ← hC, flat6 l j t hj ht]
  exact hv
theorem gbts_new (l : List Ins) (C : Array Value) (n : Nat) (hC : (l.flatMap fun i => (icells i).toList) = C.toList) (hn : l.length = n) (hl : n ≤ 100) (u : World) (k : Nat) (hk : k = u.heap.size) (bs : List UInt8) (hb : progC l = bs) (er : Int) (he : (chkF l).1 = er) :
    Calls Tryd.prog 6 #[.slice (some ⟨k, 0, none⟩) n n] (u.alloc (.cells C 46)) fun e w' => ∃ ao' cap', e = .returned (.tuple #[.slice ao' bs.length cap', .int .i64 er]) ∧ Full w' ao' cap' bs ∧ Fr (fun _ => False) (u.alloc (.cells C 46)) w' := by
  subst hn hb he
  refine Calls.mono (gbts _ l.length l (by omega) _ (ins_new u l C hC k hk)) ?_
  rintro e w' ⟨a, c, h1, h2, h3, _⟩
  exact ⟨a, c, h1, h2, h3⟩
theorem gchk_new (l : List Ins) (C : Array Value) (n : Nat) (hC : (l.flatMap fun i => (icells i).toList) = C.toList) (hn : l.length = n) (hl : n ≤ 100) (u : World) (k : Nat) (hk : k = u.heap.size) (er at_ : Int) (he : chkF l = (er, at_)) :
    Calls Tryd.prog 15 #[.slice (some ⟨k, 0, none⟩) n n] (u.alloc (.cells C 46)) fun e w' => e = .returned (.tuple #[.int .i64 er, .int .i64 at_]) ∧ Fr (fun _ => False) (u.alloc (.cells C 46)) w' := by
  subst hn
  have := gchk _ l.length l (by omega) _ (ins_new u l C hC k hk)
  rw [he] at this
  exact this
theorem same_lit (a : Option Addr) (c : Nat) (bs : List UInt8) (u : World) (hA : BsAt u a bs) (C : Array Value) (hC : (bv bs).toArray = C) (n : Nat) (hn : bs.length = n) (hl : n ≤ 100) (k : Nat) (hk : k = u.heap.size) :
    Calls Tryd.prog 14 #[.slice a n c, .slice (some ⟨k, 0, none⟩) n n] (u.alloc (.cells C 5)) fun e w' => e = .returned (.bool true) ∧ w' = u.alloc (.cells C 5) := by
  subst hk hn
  have := same_any a (some ⟨u.heap.size, 0, none⟩) c bs.length bs bs (u.alloc (.cells C 5)) (hA.fr ((Fr.refl (fun _ => False) u).alloc _) (fun _ _ _ e => e)) (bs_new u bs C hC hl)
  rwa [beq_self_eq_true bs] at this

set_option maxRecDepth 100000 in
set_option maxHeartbeats 2000000 in
theorem pawake_any (w : World) : Calls Tryd.prog 20 #[] w fun e w' => e = .returned (.bool true) ∧ Fr (fun _ => False) w w' := by
  have HJ := hideIt pjump_any
  have HH := hideIt phalt_any
  go_enter Tryd.func20, Tryd.ntmps20
  go_wp2_with fail
  refine Calls.mono (HJ.out _ _) ?_
  rintro e w1 ⟨rfl, hF1⟩
  go_wp2_with fail
  refine Calls.mono (HH.out _) ?_
  rintro e w2 ⟨rfl, hF2⟩
  have HF2 := hideIt (hF1.trans hF2 (fun _ _ e => e))
  clear hF1 hF2
  go_wp2_with fail
  refine Calls.mono (gbts_new [I13 1, I15] _ 2 (by rfl) rfl (by decide) w2 _ (by simp) _ pc1 _ (by rw [cf1])) ?_
  rintro e w3 ⟨a3, c3, rfl, hf3, hF3⟩
  have HF3 := hideIt ((HF2.out.alloc _).trans hF3 (fun _ _ e => e))
  have HB3 := hideIt hf3.bs
  clear hf3 hF3 HF2
  dsimp only [List.length_cons, List.length_nil] at *
  go_wp2_with fail
  refine Calls.mono (HJ.out _ _) ?_
  rintro e w4 ⟨rfl, hF4⟩
  have HB4 := hideIt (HB3.out.fr hF4 (fun _ _ _ e => e))
  have HF4 := hideIt (HF3.out.trans hF4 (fun _ _ e => e))
  clear hF4 HB3 HF3
  go_wp2_with fail
  refine Calls.mono (gbts_new [I13 1] _ 1 (by rfl) rfl (by decide) w4 _ (by simp) [] (by unfold progC; rw [cf2]; rfl) _ (by rw [cf2])) ?_
  rintro e w5 ⟨a5, c5, rfl, _, hF5⟩
  have HB5 := hideIt (HB4.out.fr (((Fr.refl (fun _ => False) w4).alloc _).trans hF5 (fun _ _ e => e)) (fun _ _ _ e => e))
  have HF5 := hideIt ((HF4.out.alloc _).trans hF5 (fun _ _ e => e))
  clear hF5 HB4 HF4
  go_wp2_with fail
  refine Calls.mono (same_lit a3 c3 [2, 13, 1, 15] w5 HB5.out _ (by rfl) 4 rfl (by decide) _ (by simp)) ?_
  rintro e w6 ⟨rfl, rfl⟩
  go_wp2_with fail
  refine Calls.mono (pfails_new [1, 13, 1] _ 3 5 1 (by rfl) rfl rp1 (by decide) _ _ (by simp)) ?_
  rintro e w7 ⟨rfl, hF7⟩
  have HF7 := hideIt (((HF5.out.alloc _).alloc _).trans hF7 (fun _ _ e => e))
  go_wp2_with fail
  go_ret
  exact ⟨rfl, HF7.out⟩

end Go.Proofs.YtojgikaoiegmpaaDoor

/- Package prog: small things about Read, SameProg. -/
namespace Go.Proofs.YtojgikaoiegmpaaDoor
open Go.RowKit Go.IntWalk
set_option linter.unusedSimpArgs false
set_option linter.unusedVariables false
set_option maxRecDepth 100000

theorem InsFull.lt {w : World} {ao : Option Addr} {cap : Nat} {l : List Ins} (h : InsFull w ao cap l) {k : Nat} (hk : blk ao k) : k < w.heap.size := by
  rcases h with ⟨rfl, _⟩ | ⟨q, A, rfl, _, h1, _⟩
  · obtain ⟨_, e, _⟩ := hk; cases e
  · obtain ⟨_, e1, e2⟩ := hk
    obtain rfl := Option.some.inj e1
    have := (Array.getElem?_eq_some_iff.1 h1).1
    simp only at e2
    omega

theorem readP_len (bs : List UInt8) : (readP bs).1.length ≤ 60 := by
  unfold readP
  split
  · simp
  · split
    · unfold readN
      obtain ⟨n, h1, h2⟩ := rCount_rng bs (0, 0, 0)
      rw [h1]
      split
      · simp
      · split
        · simp
        · split
          · simp
          · rw [rdL_len]; simpa using h2
    · simp

theorem ksame_true (ao bo : Option Addr) (cap cap2 : Nat) (l : List Ins) (hl : l.length ≤ 60) (w : World) (hA : InsRow w ao l) (hB : InsRow w bo l) : Calls Tryd.prog 9 #[.slice ao l.length cap, .slice bo l.length cap2] w fun e w' => e = .returned (.bool true) ∧ Fr (fun _ => False) w w' := by
  refine Calls.mono (ksameprog_any ao bo cap cap2 l l (by omega) (by omega) w hA hB) ?_
  rintro e w' ⟨r, rfl, hr, hF⟩
  exact ⟨by rw [hr.2 rfl], hF⟩

/-- What it means that Check says OK. -/
theorem chkF_zero {l : List Ins} (h : (chkF l).1 = 0) : chkF l = (0, 0) ∧ l.length ≤ 60 ∧ (∀ t, t < l.length → ¬ badB l t) ∧ (∀ t, t < l.length → ¬ beyB l t) ∧ (progB l).length ≤ 512 := by
  have hov : ∀ j, decide ((512 : Int) < (bgn l (j + 1) : Int)) = true ↔ ovrB l j := fun j => by rw [decide_eq_true_iff]; rfl
  unfold chkF at h ⊢
  by_cases h60 : 60 < l.length
  · rw [if_pos h60] at h; simp at h
  · rw [if_neg h60] at h ⊢
    split at h
    · simp at h
    · rename_i hb
      split at h
      · simp at h
      · rename_i hy
        split at h
        · simp at h
        · rename_i ho
          rw [List.find?_eq_none] at hb hy ho
          refine ⟨rfl, by omega, fun t ht hx => hb t (List.mem_range.2 ht) ((badb_iff l t).2 hx), fun t ht hx => hy t (List.mem_range.2 ht) ((beyb_iff l t).2 hx), ?_⟩
          rw [← bgn_all l (by omega)]
          by_cases h0 : l.length = 0
          · rw [h0, bgn_zero, h0]; decide
          · have := ho (l.length - 1) (List.mem_range.2 (by omega))
            rw [show l.length - 1 + 1 = l.length by omega] at this
            simp at this
            omega
theorem not_bad {l : List Ins} (h : ∀ t, t < l.length → ¬ badB l t) : ∀ i ∈ l, checkE i = 0 := fun i hi => by
  obtain ⟨t, ht, rfl⟩ := List.getElem_of_mem hi
  by_cases e : checkE l[t] = 0
  · exact e
  · exact absurd ⟨ht, e⟩ (h t ht)
theorem progB_len (l : List Ins) : (progB l).length = 1 + (l.flatMap codeI).length := by unfold progB; simp; omega
theorem flat_take (l : List Ins) (p : Nat) : ((l.take p).flatMap codeI).length ≤ (l.flatMap codeI).length := by
  have := congrArg (fun x => (List.flatMap codeI x).length) (List.take_append_drop p l)
  simp only [List.flatMap_append, List.length_append] at this
  omega
end Go.Proofs.YtojgikaoiegmpaaDoor

/- Package prog, on paper: what is written is read; cut short it is not; what is read is told as these bytes. -/
namespace Go.Proofs.YtojgikaoiegmpaaDoor
open Go.RowKit Go.IntWalk
set_option linter.unusedSimpArgs false
set_option linter.unusedVariables false
set_option maxRecDepth 100000

/-- The bytes of the first k, behind the head. -/
noncomputable def fl (l : List Ins) (k : Nat) : List UInt8 := (l.take k).flatMap codeI
theorem fl_succ (l : List Ins) (k : Nat) (h : k < l.length) : fl l (k + 1) = fl l k ++ codeI l[k] := by
  unfold fl
  rw [List.take_succ_eq_append_getElem h, List.flatMap_append]
  simp
theorem fl_split (l : List Ins) (k : Nat) (h : k < l.length) : l.flatMap codeI = fl l k ++ codeI l[k] ++ (l.drop (k + 1)).flatMap codeI := by
  rw [← fl_succ l k h]
  unfold fl
  rw [← List.flatMap_append, List.take_append_drop]

/-- Written, then read, whatever stands behind. -/
theorem rd_written (hd : UInt8) (l : List Ins) (hg : ∀ i ∈ l, checkE i = 0) (r : List UInt8) : ∀ k, k ≤ l.length → rdAt (hd :: (l.flatMap codeI ++ r)) 1 k = 1 + ((fl l k).length : Int) ∧ ∀ t, t < k → ∀ (h : t < l.length), (rdR (hd :: (l.flatMap codeI ++ r)) 1 t).1 = l[t] ∧ (rdR (hd :: (l.flatMap codeI ++ r)) 1 t).2.2.1 = 0 := by
  intro k
  induction k with
  | zero => intro _; exact ⟨by simp [rdAt, fl], fun t ht => absurd ht (by omega)⟩
  | succ k ih =>
    intro hk
    obtain ⟨h1, h2⟩ := ih (by omega)
    have hlt : k < l.length := by omega
    obtain ⟨m, hG⟩ := good_of _ (hg _ (List.getElem_mem hlt))
    have hb : (hd :: (l.flatMap codeI ++ r)) = (hd :: fl l k) ++ codeI l[k] ++ ((l.drop (k + 1)).flatMap codeI ++ r) := by
      rw [fl_split l k hlt]
      simp
    have hr : readR (hd :: (l.flatMap codeI ++ r)) (1 + ((fl l k).length : Int)) = (l[k], 1 + ((fl l k).length : Int) + (codeI l[k]).length, 0, 0) := by
      have := readR_code m l[k] hG (hd :: fl l k) ((l.drop (k + 1)).flatMap codeI ++ r)
      rw [← hb] at this
      rw [show (1 : Int) + ((fl l k).length : Int) = ((hd :: fl l k).length : Int) by simp; omega]
      exact this
    refine ⟨?_, fun t ht hl => ?_⟩
    · show (readR _ (rdAt _ 1 k)).2.1 = _
      rw [h1, hr, fl_succ l k hlt, List.length_append]
      dsimp only
      omega
    · by_cases e : t = k
      · subst e
        unfold rdR
        rw [h1, hr]
        exact ⟨rfl, rfl⟩
      · exact h2 t (by omega) hl

theorem rCount_head (n : Nat) (hn : n ≤ 60) (r : List UInt8) : rCount (UInt8.ofNat n :: r) 60 (0, 0, 0) = ((n : Int), (1, 0, 0)) := by
  unfold rCount
  rw [if_neg (by simp)]
  have := rdNum_one [] r n (by omega) 0 60 3 (by omega) (by omega)
  simp only [List.nil_append, List.length_nil, Nat.zero_add] at this
  simp only [this]
theorem progB_cons (l : List Ins) : progB l = UInt8.ofNat l.length :: l.flatMap codeI := rfl
theorem rdL_written (hd : UInt8) (l : List Ins) (hg : ∀ i ∈ l, checkE i = 0) (r : List UInt8) : rdL (hd :: (l.flatMap codeI ++ r)) 1 l.length = l := by
  refine List.ext_getElem (rdL_len _ _ _) (fun t h1 h2 => ?_)
  rw [rdL_get]
  exact ((rd_written hd l hg r l.length (Nat.le_refl _)).2 t h2 h2).1
theorem fl_all (l : List Ins) : fl l l.length = l.flatMap codeI := by unfold fl; rw [List.take_length]

/-- What Read tells of what was written, and of it with bytes behind. -/
theorem readN_written (l : List Ins) (h : (chkF l).1 = 0) (r : List UInt8) : readN (UInt8.ofNat l.length :: (l.flatMap codeI ++ r)) l.length 1 = if r = [] then (l, 0, 0) else ([], 4, 1 + ((l.flatMap codeI).length : Int)) := by
  obtain ⟨_, h60, hb, hy, _⟩ := chkF_zero h
  have hg := not_bad hb
  obtain ⟨h1, h2⟩ := rd_written (UInt8.ofNat l.length) l hg r l.length (Nat.le_refl _)
  have h3 := rdL_written (UInt8.ofNat l.length) l hg r
  rw [fl_all] at h1
  unfold readN
  rw [find_none _ l.length (fun t ht => by simpa using (h2 t ht ht).2)]
  dsimp only
  rw [h1, h3]
  by_cases hr : r = []
  · subst hr
    rw [if_neg (by simp; omega), if_pos rfl, find_none _ l.length (fun t ht => Bool.eq_false_iff.2 (fun e => hy t ht ((beyb_iff l t).1 e)))]
  · have : 0 < r.length := List.length_pos_iff.2 hr
    rw [if_pos (by simp; omega), if_neg hr]
theorem readP_written (l : List Ins) (h : (chkF l).1 = 0) : readP (progB l) = (l, 0, 0) := by
  obtain ⟨_, h60, _, _, h5⟩ := chkF_zero h
  unfold readP
  rw [if_neg (by omega), progB_cons, rCount_head _ h60, if_pos rfl]
  have := readN_written l h []
  rw [List.append_nil, if_pos rfl] at this
  exact this
theorem readP_more (l : List Ins) (h : (chkF l).1 = 0) (b : UInt8) : (readP (progB l ++ [b])).2.1 ≠ 0 := by
  obtain ⟨_, h60, _, _, h5⟩ := chkF_zero h
  unfold readP
  split
  · decide
  · rw [progB_cons, List.cons_append, rCount_head _ h60, if_pos rfl]
    have := readN_written l h [b]
    rw [if_neg (by simp)] at this
    show (readN (UInt8.ofNat l.length :: (l.flatMap codeI ++ [b])) l.length 1).2.1 ≠ 0
    rw [this]
    exact (by decide : (4 : Int) ≠ 0)

/-- Where the cut falls. -/
theorem cut_at : ∀ (l : List Ins) (p : Nat), p < (l.flatMap codeI).length → ∃ k j, ∃ h : k < l.length, j < (codeI l[k]).length ∧ (l.flatMap codeI).take p = fl l k ++ (codeI l[k]).take j
  | [], p, h => by simp at h
  | i :: l, p, h => by
    by_cases hp : p < (codeI i).length
    · refine ⟨0, p, by simp, hp, ?_⟩
      rw [List.flatMap_cons, List.take_append_of_le_length (by omega)]
      simp [fl]
    · rw [List.flatMap_cons, List.length_append] at h
      obtain ⟨k, j, hk, hj, e⟩ := cut_at l (p - (codeI i).length) (by omega)
      refine ⟨k + 1, j, by simp; omega, hj, ?_⟩
      rw [List.flatMap_cons, List.take_append, List.take_of_length_le (by omega), e]
      simp [fl]
theorem readP_cut (l : List Ins) (h : (chkF l).1 = 0) (p : Nat) (hp : p < (progB l).length) : (readP ((progB l).take p)).2.1 = 4 := by
  obtain ⟨_, h60, hb, hy, h5⟩ := chkF_zero h
  have hg := not_bad hb
  have hlen : ((progB l).take p).length = p := by simp; omega
  unfold readP
  rw [if_neg (by omega)]
  cases p with
  | zero => rfl
  | succ p =>
    rw [progB_cons, List.take_succ_cons, rCount_head _ h60, if_pos rfl]
    rw [progB_cons, List.length_cons] at hp
    obtain ⟨k, j, hk, hj, e⟩ := cut_at l p (by omega)
    rw [e]
    dsimp only
    rw [Int.toNat_natCast, show ((1 : Nat) : Int) = 1 from rfl]
    have hfl : fl l k = (l.take k).flatMap codeI := rfl
    have hg' : ∀ i ∈ l.take k, checkE i = 0 := fun i hi => hg i (List.mem_of_mem_take hi)
    have hlk : (l.take k).length = k := by simp; omega
    obtain ⟨h1, h2⟩ := rd_written (UInt8.ofNat l.length) (l.take k) hg' ((codeI l[k]).take j) k (by omega)
    have hflk : fl (l.take k) k = fl l k := by unfold fl; rw [List.take_take, Nat.min_self]
    rw [← hfl, hflk] at h1
    rw [← hfl] at h2
    obtain ⟨m, hG⟩ := good_of _ (hg _ (List.getElem_mem hk))
    have hr : rdR (UInt8.ofNat l.length :: (fl l k ++ (codeI l[k]).take j)) 1 k = (zeroI, 0, 4, ((UInt8.ofNat l.length :: (fl l k ++ (codeI l[k]).take j)).length : Int)) := by
      unfold rdR
      rw [h1]
      have := readR_cut m l[k] hG (UInt8.ofNat l.length :: fl l k) j hj
      rw [show (1 : Int) + ((fl l k).length : Int) = ((UInt8.ofNat l.length :: fl l k).length : Int) by simp; omega]
      exact this
    unfold readN
    rw [find_first _ l.length k hk (by rw [hr]; rfl) (fun t ht => by simpa using (h2 t ht (by rw [hlk]; exact ht)).2)]
    dsimp only
    rw [hr]

theorem tks_fb (bs : List UInt8) : ∀ {ls : List Nat} {x : Ins × (Nat × Int × Int)}, FB bs x.2 → FB bs (tks bs ls x).2
  | [], x, h => h
  | l :: ls, x, h => tks_fb bs (ls := ls) (x := tk bs l x.1 x.2) (tk_fb h)
/-- One was read at a place. -/
theorem readR_at (b : List UInt8) (a : Nat) (ha : a ≤ b.length) : ((readR b a).2.2.1 = 0 ∧ ∃ q : Nat, (readR b a).2.1 = q ∧ q ≤ b.length ∧ checkE (readR b a).1 = 0 ∧ b.take q = b.take a ++ codeI (readR b a).1) ∨ ((readR b a).2.2.1 ≠ 0 ∧ 0 ≤ (readR b a).2.2.2 ∧ (readR b a).2.2.2 ≤ b.length) := by
  have h00 : ¬ ((a : Int) < 0 ∨ (b.length : Int) < a) := by omega
  have hwl : (win b a).length = min 67 (b.length - a) := by rw [win_len]
  unfold readR
  rw [if_neg h00, Int.toNat_natCast]
  by_cases e : (rdI (win b a)).2.2.1 = 0
  · rw [if_pos e]
    left
    obtain ⟨m, hG, h1, h2, h3⟩ := rdI_back (win b a) e
    refine ⟨rfl, a + (rdI (win b a)).2.1, by dsimp only; omega, by omega, hG.check, ?_⟩
    rw [List.take_add]
    congr 1
    have h4 : (win b a).take (codeI (rdI (win b a)).1).length = codeI (rdI (win b a)).1 := by
      have := congrArg (List.take (codeI (rdI (win b a)).1).length) h1
      rw [List.take_left'] at this
      · exact this
      · rfl
    dsimp only
    rw [h2]
    generalize (rdI (win b a)).1 = i at *
    rw [h2] at h3
    have hmn : min (codeI i).length 67 = (codeI i).length := by omega
    have h5 : (win b a).take (codeI i).length = (b.drop a).take (codeI i).length := by
      unfold win
      rw [List.take_take, hmn]
    rw [h5] at h4
    exact h4
  · rw [if_neg e]
    right
    have hf : FB (win b a) (rdI (win b a)).2 := by
      unfold rdI
      exact tks_fb _ (rInt_fb ⟨Nat.zero_le _, Int.le_refl _, by simp⟩)
    obtain ⟨f1, f2, f3⟩ := hf
    dsimp only
    refine ⟨e, by omega, ?_⟩
    rw [hwl] at f3
    omega

/-- All were read. -/
theorem rd_back (b : List UInt8) (a : Nat) (ha : a ≤ b.length) (k : Nat) (hok : ∀ t, t < k → (rdR b a t).2.2.1 = 0) : ∃ q : Nat, rdAt b a k = q ∧ q ≤ b.length ∧ (∀ i ∈ rdL b a k, checkE i = 0) ∧ b.take q = b.take a ++ (rdL b a k).flatMap codeI := by
  induction k with
  | zero => exact ⟨a, rfl, ha, fun i hi => by simp [rdL] at hi, by simp [rdL]⟩
  | succ k ih =>
    obtain ⟨q, h1, h2, h3, h4⟩ := ih (fun t ht => hok t (by omega))
    have hk := hok k (by omega)
    have hs : rdL b a (k + 1) = rdL b a k ++ [(rdR b a k).1] := by
      unfold rdL
      rw [List.range_succ, List.map_append]
      rfl
    unfold rdR at hk hs
    rw [h1] at hk hs
    rcases readR_at b q h2 with ⟨_, q', e1, e2, e3, e4⟩ | ⟨e1, _⟩
    · refine ⟨q', by show (readR b (rdAt b a k)).2.1 = q'; rw [h1]; exact e1, e2, fun i hi => ?_, ?_⟩
      · rw [hs] at hi
        rcases List.mem_append.1 hi with hi | hi
        · exact h3 i hi
        · rw [List.mem_singleton.1 hi]; exact e3
      · rw [hs, e4, h4, List.flatMap_append, List.append_assoc]
        simp
    · exact absurd hk e1

theorem rCount_back (b : List UInt8) : ((rCount b 60 (0, 0, 0)).2.2.1 = 0 ∧ ∃ n : Nat, (rCount b 60 (0, 0, 0)) = ((n : Int), (1, 0, 0)) ∧ n ≤ 60 ∧ ∃ r, b = UInt8.ofNat n :: r) ∨ ((rCount b 60 (0, 0, 0)).2.2.1 ≠ 0 ∧ 0 ≤ (rCount b 60 (0, 0, 0)).2.2.2 ∧ (rCount b 60 (0, 0, 0)).2.2.2 ≤ b.length) := by
  unfold rCount
  rw [if_neg (by simp)]
  cases hr : rdNum b 0 0 60 3 with
  | inl f =>
    right
    have := rdNum_inl hr (Nat.zero_le _)
    refine ⟨?_, this⟩
    unfold rdNum at hr
    split at hr
    · simp at hr; rw [← hr]; simp
    · simp at hr; rw [← hr]; simp
    · simp at hr; rw [← hr]; simp
    · split at hr
      · simp at hr; rw [← hr]; simp
      · split at hr
        · simp at hr; rw [← hr]; simp
        · simp at hr
  | inr x =>
    left
    obtain ⟨n, m⟩ := x
    unfold rdNum at hr
    split at hr
    · simp at hr
    · simp at hr
    · simp at hr
    · rename_i n' k' hs
      split at hr
      · simp at hr
      · split at hr
        · simp at hr
        · simp at hr
          obtain ⟨rfl, rfl⟩ := hr
          rw [List.drop_zero] at hs
          obtain ⟨rfl, r, rfl⟩ := scan_small b n' k' (by omega) hs
          exact ⟨rfl, n', by simp, by omega, r, rfl⟩

/-- What is read of any bytes may be, and is told as these; a fault lies within them. -/
theorem readP_back (b : List UInt8) : ((readP b).2.1 = 0 ∧ chkF (readP b).1 = (0, 0) ∧ progB (readP b).1 = b) ∨ ((readP b).2.1 ≠ 0 ∧ 0 ≤ (readP b).2.2 ∧ (readP b).2.2 ≤ b.length) := by
  unfold readP
  split
  · right
    exact ⟨by decide, by decide, by dsimp only; omega⟩
  · rename_i h512
    rcases rCount_back b with ⟨e0, n, hc, hn, r, hb⟩ | ⟨e0, e1, e2⟩
    · rw [hc, if_pos rfl]
      dsimp only
      rw [Int.toNat_natCast]
      have hb1 : 1 ≤ b.length := by rw [hb]; simp
      unfold readN
      cases hf : (List.range n).find? (fun k => (rdR b ((1 : Nat) : Int) k).2.2.1 != 0) with
      | some k =>
        right
        dsimp only
        rw [List.find?_range_eq_some] at hf
        obtain ⟨f1, f2, f3⟩ := hf
        obtain ⟨q, h1, h2, _, _⟩ := rd_back b 1 hb1 k (fun t ht => by simpa using f3 t ht)
        unfold rdR at f1 ⊢
        rw [h1] at f1 ⊢
        rcases readR_at b q h2 with ⟨g, _⟩ | ⟨g1, g2, g3⟩
        · rw [g] at f1; simp at f1
        · exact ⟨g1, g2, g3⟩
      | none =>
        rw [List.find?_eq_none] at hf
        obtain ⟨q, h1, h2, h3, h4⟩ := rd_back b 1 hb1 n (fun t ht => by simpa using hf t (List.mem_range.2 ht))
        dsimp only
        rw [h1]
        by_cases hq : (q : Int) < b.length
        · rw [if_pos hq]
          right
          exact ⟨(by decide : (4 : Int) ≠ 0), by dsimp only; omega, by dsimp only; omega⟩
        · rw [if_neg hq]
          have hqb : q = b.length := by omega
          rw [hqb, List.take_length] at h4
          have hpb : progB (rdL b ((1 : Nat) : Int) n) = b := by
            rw [progB_cons, rdL_len]
            have h5 : b.take 1 = [UInt8.ofNat n] := by rw [hb]; rfl
            rw [h5] at h4
            exact h4.symm
          cases hy : (List.range n).find? (fun k => beyb (rdL b ((1 : Nat) : Int) n) k) with
          | some k =>
            right
            dsimp only
            have hk := List.mem_range.1 (List.mem_of_find?_eq_some hy)
            obtain ⟨q', h1', h2', _, _⟩ := rd_back b 1 hb1 k (fun t ht => by simpa using hf t (List.mem_range.2 (by omega)))
            rw [h1']
            exact ⟨by decide, by omega, by omega⟩
          | none =>
            left
            dsimp only
            rw [List.find?_eq_none] at hy
            refine ⟨rfl, chkF_ok _ (by rw [rdL_len]; exact hn) h3 (fun t ht hx => ?_) (by rw [hpb]; omega), hpb⟩
            rw [rdL_len] at ht
            exact hy t (List.mem_range.2 ht) ((beyb_iff _ _).2 hx)
    · rw [if_neg e0]
      right
      exact ⟨e0, e1, e2⟩

end Go.Proofs.YtojgikaoiegmpaaDoor

/- Package prog: BigProg, walked; Same of one list. -/
namespace Go.Proofs.YtojgikaoiegmpaaDoor
open Go.RowKit Go.IntWalk
set_option linter.unusedSimpArgs false
set_option linter.unusedVariables false
set_option maxRecDepth 100000

def SameW (a b : World) : Prop := a = b
/-- What BigProg answers. -/
def BigP (l : List Ins) (w : World) (e : Ending) (w' : World) : Prop := ∃ b : Bool, e = .returned (.bool b) ∧ (b = false → l.length ≤ 70) ∧ w' = w
set_option maxRecDepth 100000 in
set_option maxHeartbeats 2000000 in
theorem bigprog_any (ao : Option Addr) (cap : Nat) (l : List Ins) (hl : l.length ≤ 9223372036854775807) (w : World) (hB : InsRow w ao l) : Calls Tryd.prog 5 #[.slice ao l.length cap, .int .i64 70, .int .i64 2000] w (BigP l w) := by
  have HB := hideIt hB
  clear hB
  go_enter Tryd.func5, Tryd.ntmps5
  go_wp2_with fail
  go_loopw [7, 8] (fun s7 s8 wr => ∃ (n : Int) (k : Nat), s7 = .int .i64 n ∧ s8 = .int .i64 k ∧ k ≤ l.length ∧ k ≤ 71 ∧ SameW wr w) (fun _ s8 _ => l.length - (intOf s8).toNat)
  case atStart => exact ⟨0, 0, rfl, rfl, by omega, by omega, rfl⟩
  case round =>
    obtain ⟨n, k, rfl, rfl, hk, hk71, HE⟩ := hrel
    have HE2 := hideIt HE
    obtain rfl : wr = w := HE
    by_cases hlt : k < l.length
    · have h1 : (k : Int) < (l.length : Int) := by omega
      by_cases h70 : k ≤ 70
      · have h2 : (k : Int) ≤ 70 := by omega
        obtain ⟨b, off, rfl, hb, hR⟩ := HB.out.get k hlt
        have c5 := hR 5 _ rfl
        clear hR
        go_wp2_with fail
        go_roundw
        case measure => simp [intOf]; omega
        case rel => exact ⟨_, k + 1, rfl, by go_num, by omega, by omega, HE2.out⟩
      · have h2 : ¬ (k : Int) ≤ 70 := by omega
        have h2d : decide ((k : Int) ≤ 70) = false := by simpa using h2
        have h3 : decide ((70 : Int) < (l.length : Int)) = true := by simp; omega
        go_wp2_with fail
        go_ret
        exact ⟨true, rfl, fun e => (by cases e), rfl⟩
    · have hjn : ¬ (k : Int) < (l.length : Int) := by omega
      have hkl : k = l.length := by omega
      by_cases h70 : l.length ≤ 70
      · have h3 : decide ((70 : Int) < (l.length : Int)) = false := by simp; omega
        go_wp2_with fail
        go_ret
        exact ⟨_, rfl, fun _ => h70, rfl⟩
      · have h3 : decide ((70 : Int) < (l.length : Int)) = true := by simp; omega
        go_wp2_with fail
        go_ret
        exact ⟨true, rfl, fun e => (by cases e), rfl⟩

theorem gsame_tr (ao bo : Option Addr) (cap cap2 : Nat) (l : List Ins) (hl : l.length ≤ 1000) (w : World) (hA : InsRow w ao l) (hB : InsRow w bo l) : Calls Tryd.prog 10 #[.slice ao l.length cap, .slice bo l.length cap2] w fun e w' => e = .returned (.bool true) ∧ Fr (fun _ => False) w w' := by
  refine Calls.mono (gsame_any ao bo cap cap2 l l (by omega) (by omega) w hA hB) ?_
  rintro e w' ⟨r, rfl, hr, hF⟩
  exact ⟨by rw [hr.2 rfl], hF⟩

end Go.Proofs.YtojgikaoiegmpaaDoor
