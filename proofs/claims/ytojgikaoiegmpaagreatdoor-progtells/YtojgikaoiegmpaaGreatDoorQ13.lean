/- ProgTells, part 13 of the road: what the program's functions do, each by its own walk. -/
import Derived.Test.YtojgikaoiegmpaaGreatDoorQ6
import Derived.Test.YtojgikaoiegmpaaGreatDoorQ12
import Derived.Laws.MakeOwn

/- Package prog: where instructions begin (measure), walked. -/
namespace Go.Proofs.YtojgikaoiegmpaaGreatDoor
open Go.RowKit Go.IntWalk
set_option linter.unusedSimpArgs false
set_option linter.unusedVariables false
set_option maxRecDepth 100000

/-- Where instruction k begins in the bytes of a list. -/
noncomputable def bgn (l : List Ins) (k : Nat) : Nat := (sevens l.length).length + ((l.take k).map fun i => (codeI i).length).sum
theorem bgn_zero (l : List Ins) : bgn l 0 = (sevens l.length).length := by simp [bgn]
theorem bgn_succ (l : List Ins) (k : Nat) (h : k < l.length) : bgn l (k + 1) = bgn l k + (codeI l[k]).length := by
  unfold bgn
  rw [List.take_succ_eq_append_getElem h, List.map_append, List.sum_append]
  simp only [List.map_cons, List.map_nil, List.sum_cons, List.sum_nil]
  omega
theorem bgn_le (l : List Ins) (hc : ∀ i ∈ l, (codeI i).length ≤ 1000) (h7 : (sevens l.length).length ≤ 10) : ∀ k, k ≤ l.length → bgn l k ≤ 10 + 1000 * k := by
  intro k
  induction k with
  | zero => intro _; rw [bgn_zero]; omega
  | succ k ih =>
    intro h
    have h1 := ih (by omega)
    have h2 := hc _ (List.getElem_mem (show k < l.length by omega))
    rw [bgn_succ l k (by omega)]
    omega
theorem ylm {P : Program} {o : Oper} {a : Act} {w : World} (ty : TypeId) (x : Operand) (ho : o.op = .load ty x) (b off : Nat) (hx : a.eval x = .pointer (some ⟨b, off, none⟩)) (cs : Array Value) (d : TypeDesc) (hc : w.rangeAt b off cs.toList)
    (hu : P.underlying ty = some d) (hd : d.isRow = true) (hi : (P.info? ty).map (·.size) = some cs.toList.length) : (execOp a.eval o).run P w = .ok (.value (.agg cs)) w := by
  unfold execOp
  simp only [ho, hx, Instr.loadAt, Instr.sureAddr, Sem.run_bind, Sem.run_pure, Result.andThen_ok, run_loadVar_mid w b off ty cs.toList d hc hu hd hi]

/-- So many places are laid. -/
def Plcs (w : World) (p : Nat) (l : List Ins) (k : Nat) : Prop := ∃ A : Array Value, w.heap[p]? = some (.cells A 61 (0, 0)) ∧ A.size = 61 ∧ ∀ t, t ≤ k → A[t]? = some (.int .i64 (bgn l t : Int))
theorem Plcs.cell {w : World} {p : Nat} {l : List Ins} {k : Nat} (h : Plcs w p l k) (t : Nat) (ht : t ≤ k) : w.cell? ⟨p, t, none⟩ = some (.int .i64 (bgn l t : Int)) := by
  obtain ⟨A, h1, _, h3⟩ := h
  rw [cell_of_row w p t _ _ _ h1]
  exact h3 t ht
theorem Plcs.there {w : World} {p : Nat} {l : List Ins} {k : Nat} (h : Plcs w p l k) (t : Nat) (ht : t < 61) : (∃ v, w.cell? ⟨p, t, none⟩ = some v) ∧ w.frozen? ⟨p, t, none⟩ = false := by
  obtain ⟨A, h1, h2, h3⟩ := h
  refine ⟨⟨A[t]'(by omega), ?_⟩, frozen_of_row w p t _ _ h1⟩
  rw [cell_of_row w p t _ _ _ h1, Array.getElem?_eq_getElem]
theorem Plcs.step {w : World} {p : Nat} {l : List Ins} {k : Nat} (h : Plcs w p l k) (hk : k < 60) : Plcs (w.setCell ⟨p, k + 1, none⟩ (.int .i64 (bgn l (k + 1) : Int))) p l (k + 1) := by
  obtain ⟨A, h1, h2, h3⟩ := h
  refine ⟨_, heap_setCell_same w p (k + 1) _ _ _ h1, by simpa using h2, fun t ht => ?_⟩
  by_cases e : t = k + 1
  · subst e
    rw [Array.getElem?_setIfInBounds]
    simp [h2]
    omega
  · rw [Array.getElem?_setIfInBounds, if_neg (Ne.symm e)]
    exact h3 t (by omega)
theorem Plcs.fr {S : Nat → Prop} {w w' : World} {p : Nat} {l : List Ins} {k : Nat} (h : Plcs w p l k) (hF : Fr S w w') (hS : ¬ S p) : Plcs w' p l k := by
  obtain ⟨A, h1, h2, h3⟩ := h
  exact ⟨A, (hF.block p (Array.getElem?_eq_some_iff.1 h1).1 hS).trans h1, h2, h3⟩

theorem sevens_short (n : Nat) (h : n ≤ 60) : (sevens n).length ≤ 10 := by
  have : ∀ n, n ≤ 60 → (sevens n).length ≤ 10 := by decide
  exact this n h

set_option maxRecDepth 100000 in
set_option maxHeartbeats 4000000 in
theorem gmeasure_any (p : Nat) (ao : Option Addr) (cap : Nat) (l : List Ins) (hl : l.length ≤ 60) (hc : ∀ i ∈ l, (codeI i).length ≤ 1000) (w : World) (A : Array Value) (hA : w.heap[p]? = some (.cells A 61 (0, 0))) (hA2 : A.size = 61) (hB : ∀ W, Fr (fun k => k = p) w W → InsRow W ao l) :
    Calls Tryz.prog 40 #[.pointer (some ⟨p, 0, none⟩), .slice ao l.length cap] w fun e w' => e = .returned (.slice (some ⟨p, 0, none⟩) (l.length + 1) 61) ∧ Plcs w' p l l.length ∧ Fr (fun k => k = p) w w' := by
  have h7 := sevens_short l.length hl
  have HBG := hideIt (bgn_le l hc h7)
  have HB := hideIt hB
  have HI := hideIt insSize
  have HIA := hideIt insSizeA
  have HSZ := hideIt (size_nat l.length w (by omega))
  have HLL := hideIt hl
  have hw1 : IntKind.i64.wrap ((l.length : Int) + 1) = (l.length : Int) + 1 := by rw [IntKind.wrap_i64]; omega
  have hb1 : (0 : Int) ≤ (l.length : Int) + 1 := by omega
  have hb2 : (l.length : Int) + 1 ≤ 61 := by omega
  have hb3 : ((l.length : Int) + 1).toNat = l.length + 1 := by omega
  have c0 : ∃ v, w.cell? ⟨p, 0, none⟩ = some v := ⟨A[0]'(by omega), by rw [cell_of_row w p 0 _ _ _ hA, Array.getElem?_eq_getElem]⟩
  obtain ⟨v0, c0⟩ := c0
  have f0 := frozen_of_row w p 0 _ _ hA
  have HP0 := hideIt (show Plcs (w.setCell ⟨p, 0, none⟩ (.int .i64 ((sevens l.length).length : Int))) p l 0 from ⟨_, heap_setCell_same w p 0 _ _ _ hA, by simpa using hA2, fun t ht => by
    obtain rfl : t = 0 := by omega
    rw [Array.getElem?_setIfInBounds, bgn_zero]
    simp [hA2]⟩)
  have HF0 := hideIt ((Fr.refl (fun k => k = p) w).setCell (p := ⟨p, 0, none⟩) (fun _ => rfl) (.int .i64 ((sevens l.length).length : Int)))
  clear hB hA h7 hc
  go_enter Tryz.func40, Tryz.ntmps40
  go_wp2_with fail
  refine Calls.mono HSZ.out ?_
  rintro e w1 ⟨rfl, rfl⟩
  go_wp2_with fail
  clear c0 f0 hw1 hb1 hb2 hb3
  go_loopw [21] (fun s21 wr => ∃ k : Nat, s21 = .int .i64 k ∧ k ≤ l.length ∧ Hid (Plcs wr p l k) ∧ Hid (Fr (fun k => k = p) w1 wr)) (fun s21 _ => l.length - (intOf s21).toNat)
  case atStart => exact ⟨0, rfl, by omega, HP0, HF0⟩
  case round =>
    clear HP0 HF0
    obtain ⟨k, rfl, hk, HP, HF⟩ := hrel
    by_cases hlt : k < l.length
    · have h1 : (k : Int) < (l.length : Int) := by omega
      have hk60 : k < 60 := by omega
      obtain ⟨b, off, rfl, hb, hR⟩ := (HB.out wr HF.out).get k hlt
      have HR := hideIt hR
      obtain ⟨q, hq⟩ : ∃ q, wr.heap.size = q := ⟨_, rfl⟩
      have hZ : (wr.alloc (.cells #[.int .i64 0, .int .i64 0, .int .i64 0, .int .i64 0, .int .i64 0, .string ⟨#[]⟩] 40)).heap[q]? = some (.cells #[.int .i64 0, .int .i64 0, .int .i64 0, .int .i64 0, .int .i64 0, .string ⟨#[]⟩] 40) := by rw [← hq]; exact heap_alloc_new wr _
      have HT := hideIt (there_row hZ (icells l[k]).size (show 6 ≤ 6 from Nat.le_refl _))
      have HO := hideIt (icells_one l[k])
      have HIJ := hideIt (HI.out l[k])
      have HIK := hideIt (HIA.out l[k])
      have HW := hideIt (fun W (h : W = (wr.alloc (.cells #[.int .i64 0, .int .i64 0, .int .i64 0, .int .i64 0, .int .i64 0, .string ⟨#[]⟩] 40)).setCells q 0 (icells l[k]).toList) => show W.heap[q]? = some (.cells (icells l[k]) 40 (0, 0)) ∧ Fr (fun _ => False) wr W by
        subst h
        have hS := store_over (V := icells l[k]) hZ rfl
        exact ⟨hS.1, ((Fr.refl (fun _ => False) wr).alloc _).trans hS.2 (fun i hi e => by omega)⟩)
      have HRQ := hideIt (fun (W : World) (h : W.heap[q]? = some (.cells (icells l[k]) 40 (0, 0))) => show W.rangeAt q 0 (icells l[k]).toList from fun t v hv => by
        rw [Nat.zero_add, cell_of_row _ _ _ _ _ _ h]
        simpa using hv)
      have HM := hideIt (fun w => size_any l[k] w)
      have HBS := hideIt (bgn_succ l k hlt)
      have hb0 := HBG.out k (by omega)
      have hb9 := HBG.out (k + 1) (by omega)
      have HQP := hideIt (show p < q by
        obtain ⟨A, h, _⟩ := HP.out
        have := (Array.getElem?_eq_some_iff.1 h).1
        omega)
      obtain ⟨v, hv⟩ : ∃ v, bgn l k = v := ⟨_, rfl⟩
      obtain ⟨v2, hv2⟩ : ∃ v, bgn l (k + 1) = v := ⟨_, rfl⟩
      have HV2 := hideIt hv2
      rw [hv, hv2] at HBS
      rw [hv] at hb0
      rw [hv2] at hb9
      have hck := HP.out.cell k (Nat.le_refl _)
      rw [hv] at hck
      obtain ⟨cl, hcl⟩ : ∃ c, (codeI l[k]).length = c := ⟨_, rfl⟩
      rw [hcl] at HBS HM
      have hadd : IntKind.i64.wrap ((v : Int) + (cl : Int)) = (v2 : Int) := by have := HBS.out; rw [IntKind.wrap_i64]; omega
      clear hR hZ hv hv2 hcl hb0 hb9
      generalize hCC : icells l[k] = C at *
      have w1 : IntKind.i64.wrap ((k : Int) + 1) = (k : Int) + 1 := by rw [IntKind.wrap_i64]; omega
      have n1 : (0 : Int) ≤ (k : Int) + 1 := by omega
      have n2 : (k : Int) + 1 < (l.length : Int) + 1 := by omega
      have n2b : (k : Int) < (l.length : Int) + 1 := by omega
      have n3 : ((k : Int) + 1).toNat = k + 1 := by omega
      go_wp2_with (first | (refine wpList_load_mid rfl 40 (.tmp 24) rfl b (off + k * 6) rfl C.toList _ HR.out Tryz.underlying40 rfl HIJ.out ?_) | (refine store_absG rfl 40 (.tmp 7) (.tmp 25) rfl q 0 C rfl rfl HT.out HIK.out HO.out ?_; intro W2 hW2; obtain ⟨hQ2, hF2⟩ := HW.out W2 hW2; have HQ2 := hideIt hQ2; have HP2 := hideIt (HP.out.fr hF2 (fun e => e)); have HF2 := hideIt (HF.out.trans hF2 (fun _ _ e => e.elim)); have hck2 : W2.cell? ⟨p, k, none⟩ = some (.int .i64 (v : Int)) := (World.cell?_of_block (a := ⟨p, k, none⟩) (hF2.block p (block_lt_of_cell hck) (fun e => e))).trans hck; clear hW2 HW HT hQ2 hF2))
      have HCK := hideIt hck2
      clear hck hck2 HF HP HR hq
      refine wp_region_held_drew (S := (fun w' => w'.cell? ⟨p, k, none⟩ = some (.int .i64 (v : Int)) ∧ w'.rangeAt q 0 C.toList)) (by kernel_rfl) ?_ (fun hHeld => ?_)
      · exact ⟨HCK.out, HRQ.out _ HQ2.out⟩
      refine wpAnyH_take (i := 0) (v := ?v1) rfl (by kernel_rfl) (by kernel_rfl) (by kernel_rfl) (fun _ _ _ h => h) (Or.inl ⟨by kernel_rfl, ?hy1⟩) (by assumption) ?rest1
      case hy1 => intro w hSw; (try dsimp only at hSw); go_simp; (try with_reducible rfl)
      try simp only [Act.put, List.getElem_toArray, List.getElem_cons_zero, List.getElem_cons_succ, List.setIfInBounds_toArray, List.set_cons_zero, List.set_cons_succ]
      refine wpAnyH_take (i := 1) (v := ?v2) rfl (by kernel_rfl) (by kernel_rfl) (by kernel_rfl) (fun _ _ _ h => h) (Or.inl ⟨by kernel_rfl, ?hy2⟩) (by assumption) ?rest2
      case hy2 => intro w hSw; (try dsimp only at hSw); go_simp; (try with_reducible rfl)
      try simp only [Act.put, List.getElem_toArray, List.getElem_cons_zero, List.getElem_cons_succ, List.setIfInBounds_toArray, List.set_cons_zero, List.set_cons_succ]
      refine wpAnyH_take (i := 2) (v := ?v3) rfl (by kernel_rfl) (by kernel_rfl) (by kernel_rfl) (fun _ _ _ h => h) (Or.inl ⟨by kernel_rfl, ?hy3⟩) (by assumption) ?rest3
      case hy3 => intro w hSw; (try dsimp only at hSw); go_simp; (try with_reducible rfl)
      try simp only [Act.put, List.getElem_toArray, List.getElem_cons_zero, List.getElem_cons_succ, List.setIfInBounds_toArray, List.set_cons_zero, List.set_cons_succ]
      refine wpAnyH_take (i := 3) (v := ?v4) rfl (by kernel_rfl) (by kernel_rfl) (by kernel_rfl) (fun _ _ _ h => h) (Or.inl ⟨by kernel_rfl, ?hy4⟩) (by assumption) ?rest4
      case hy4 => intro w hSw; (try dsimp only at hSw); go_simp; (try with_reducible rfl)
      try simp only [Act.put, List.getElem_toArray, List.getElem_cons_zero, List.getElem_cons_succ, List.setIfInBounds_toArray, List.set_cons_zero, List.set_cons_succ]
      refine wpAnyH_take (i := 4) (v := ?v5) rfl (by kernel_rfl) (by kernel_rfl) (by kernel_rfl) (fun _ _ _ h => h) (Or.inl ⟨by kernel_rfl, ?hy5⟩) (by assumption) ?rest5
      case hy5 => intro w hSw; (try dsimp only at hSw); go_simp; (try with_reducible rfl)
      try simp only [Act.put, List.getElem_toArray, List.getElem_cons_zero, List.getElem_cons_succ, List.setIfInBounds_toArray, List.set_cons_zero, List.set_cons_succ]
      refine wpAnyH_take (i := 5) (v := ?v6) rfl (by kernel_rfl) (by kernel_rfl) (by kernel_rfl) (fun _ _ _ h => h) (Or.inl ⟨by kernel_rfl, ?hy6⟩) (by assumption) ?rest6
      case hy6 => intro w hSw; (try dsimp only at hSw); go_simp; (try with_reducible rfl)
      try simp only [Act.put, List.getElem_toArray, List.getElem_cons_zero, List.getElem_cons_succ, List.setIfInBounds_toArray, List.set_cons_zero, List.set_cons_succ]
      refine wpAnyH_take (i := 6) (v := .int .i64 (v : Int)) rfl (by kernel_rfl) (by kernel_rfl) (by kernel_rfl) (fun _ _ _ h => h) (Or.inl ⟨by kernel_rfl, fun w0 hSw => by have hc := hSw.1; go_simp⟩) (by assumption) ?_
      try simp only [Act.put, List.getElem_toArray, List.getElem_cons_zero, List.getElem_cons_succ, List.setIfInBounds_toArray, List.set_cons_zero, List.set_cons_succ]
      refine wpAnyH_take (i := 7) (v := (.agg C)) rfl (by kernel_rfl) (by kernel_rfl) (by kernel_rfl) (fun _ _ _ h => h) (Or.inl ⟨by kernel_rfl, fun w0 hSw => ylm 40 (.tmp 7) rfl q 0 rfl C _ hSw.2 Tryz.underlying40 rfl HIJ.out⟩) (by assumption) ?_
      try simp only [Act.put, List.getElem_toArray, List.getElem_cons_zero, List.getElem_cons_succ, List.setIfInBounds_toArray, List.set_cons_zero, List.set_cons_succ]
      refine wpAnyH_ready (rs := [8]) (by kernel_rfl) (by simp) ?_
      refine AllReadyH.cons rfl (fun K hK => ?_) AllReadyH.nil
      go_simp
      refine Calls.mono (HM.out _) ?_
      rintro e w3 ⟨rfl, hF3⟩
      have hF23 : Fr (fun _ => False) W2 w3 := (Fr.refl _ _).drew.trans hF3 (fun _ _ e => e)
      have HCK3 := hideIt ((World.cell?_of_block (a := ⟨p, k, none⟩) (hF23.block p (block_lt_of_cell HCK.out) (fun e => e))).trans HCK.out)
      have HQ3 := hideIt ((hF23.block q (Array.getElem?_eq_some_iff.1 HQ2.out).1 (fun e => e)).trans HQ2.out)
      have HP3 := hideIt (HP2.out.fr hF23 (fun e => e))
      have HF3 := hideIt (HF2.out.trans hF23 (fun _ _ e => e.elim))
      have hth := HP3.out.there (k + 1) (by omega)
      obtain ⟨⟨u, hu⟩, hfz⟩ := hth
      refine hK.out _ _ ?_ (fun hHeld => ?_)
      · exact ⟨HCK3.out, HRQ.out _ HQ3.out⟩
      clear hK K
      try simp only [Act.put, List.getElem_toArray, List.getElem_cons_zero, List.getElem_cons_succ, List.setIfInBounds_toArray, List.set_cons_zero, List.set_cons_succ]
      refine wpAnyH_take (i := 9) (v := .int .i64 (v2 : Int)) rfl (by kernel_rfl) (by kernel_rfl) (by kernel_rfl) (fun _ _ _ h => h) (Or.inl ⟨by kernel_rfl, fun w0 hSw => by go_simp⟩) (by assumption) ?_
      try simp only [Act.put, List.getElem_toArray, List.getElem_cons_zero, List.getElem_cons_succ, List.setIfInBounds_toArray, List.set_cons_zero, List.set_cons_succ]
      refine wpAnyH_take (i := 10) (v := ?v7) rfl (by kernel_rfl) (by kernel_rfl) (by kernel_rfl) (fun _ _ _ h => h) (Or.inl ⟨by kernel_rfl, ?hy7⟩) (by assumption) ?rest7
      case hy7 => intro w hSw; (try dsimp only at hSw); go_simp; (try with_reducible rfl)
      try simp only [Act.put, List.getElem_toArray, List.getElem_cons_zero, List.getElem_cons_succ, List.setIfInBounds_toArray, List.set_cons_zero, List.set_cons_succ]
      refine wpAnyH_ready (rs := [11]) (by kernel_rfl) (by simp) ?_
      refine AllReadyH.cons rfl (fun K hK => ?_) AllReadyH.nil
      go_simp
      refine hK.out _ _ ?_ (fun hHeld => ?_)
      · exact ⟨(World.cell?_setCell_other _ _ _ _ (by intro e; injection e with _ e2; omega)).trans HCK3.out, HRQ.out _ ((heap_setCell_other w3 _ _ _ (by have := HQP.out; show q ≠ p; omega)).trans HQ3.out)⟩
      clear hK K
      try simp only [Act.put, List.getElem_toArray, List.getElem_cons_zero, List.getElem_cons_succ, List.setIfInBounds_toArray, List.set_cons_zero, List.set_cons_succ]
      refine wpAnyH_done (by kernel_rfl) ?_ _
      have HP4 := hideIt (HP3.out.step hk60)
      rw [HV2.out] at HP4
      have HF4 := hideIt (HF3.out.setCell (p := ⟨p, k + 1, none⟩) (fun _ => rfl) (.int .i64 (v2 : Int)))
      clear hHeld hF3 hF23 hu hfz HCK3 HQ3 HP3 HF3
      go_wp2_with fail
      go_roundw
      case measure => simp [intOf]; omega
      case rel => exact ⟨k + 1, by go_num, by omega, HP4, HF4⟩
    · have hje : k = l.length := by omega
      have hjn : ¬ (k : Int) < (l.length : Int) := by omega
      have HPP := hideIt (show Plcs wr p l l.length by rw [← hje]; exact HP.out)
      go_wp2_with fail
      go_ret
      exact ⟨rfl, HPP.out, HF.out⟩

end Go.Proofs.YtojgikaoiegmpaaGreatDoor

/- Package prog: overlong, Check, walked. -/
namespace Go.Proofs.YtojgikaoiegmpaaGreatDoor
open Go.RowKit Go.IntWalk
set_option linter.unusedSimpArgs false
set_option linter.unusedVariables false
set_option maxRecDepth 100000

theorem codeI_lenU (i : Ins) : (codeI i).length ≤ 1000 := by
  rcases checkE_or i with h | h
  · obtain ⟨m, hG⟩ := good_of i h
    rw [hG.code]
    have h1 := encs_len (ltrs m) i (ltrs_ok m hG.hi) hG.fit
    have h2 := (ltrs_nodup m hG.hi).2
    simp only [List.length_cons]
    omega
  · unfold codeI
    rw [if_neg (by rw [h]; decide)]
    simp

theorem gover1_any (v : Int) (w : World) : Calls Tryz.prog 42 #[.int .i64 v] w fun e w' => e = .returned (.bool (decide (512 < v))) ∧ Fr (fun _ => False) w w' := by
  by_cases h : 512 < v
  · have hd : decide (512 < v) = true := by simpa using h
    rw [hd]
    go_enter Tryz.func42, Tryz.ntmps42
    go_wp2_with fail
    go_ret
    exact ⟨rfl, Fr.refl _ _⟩
  · have hd : decide (512 < v) = false := by simpa using h
    rw [hd]
    go_enter Tryz.func42, Tryz.ntmps42
    go_wp2_with fail
    go_ret
    exact ⟨rfl, Fr.refl _ _⟩

/-- Above what the bytes may be. -/
def isOvr (v : Int) : Prop := 512 < v
set_option maxRecDepth 100000 in
set_option maxHeartbeats 2000000 in
theorem gidxints_any (p off cap n : Nat) (f : Nat → Int) (hn : n ≤ 1000) (w : World) (hB : ∀ j, j < n → w.cell? ⟨p, off + j, none⟩ = some (.int .i64 (f j))) : Calls Tryz.prog 41 #[.slice (some ⟨p, off, none⟩) n cap, .func (.func 42) #[] #[]] w (FirstP (fun j => isOvr (f j)) n w) := by
  have HB := hideIt (fun W (hF : Fr (fun _ => False) w W) (j : Nat) (hj : j < n) => show W.cell? ⟨p, off + j, none⟩ = some (.int .i64 (f j)) from (World.cell?_of_block (a := ⟨p, off + j, none⟩) (hF.block p (block_lt_of_cell (hB j hj)) (fun e => e))).trans (hB j hj))
  clear hB
  go_enter Tryz.func41, Tryz.ntmps41
  go_wp2_with fail
  go_loopw [8] (fun s8 wr => ∃ j : Nat, s8 = .int .i64 j ∧ j ≤ n ∧ Hid (∀ t, t < j → ¬ isOvr (f t)) ∧ Hid (Fr (fun _ => False) w wr)) (fun s8 _ => n - (intOf s8).toNat)
  case atStart => exact ⟨0, rfl, by omega, hideIt (fun t h => by omega), hideIt (Fr.refl _ _)⟩
  case round =>
    obtain ⟨j, rfl, hj, HN, HF⟩ := hrel
    by_cases hlt : j < n
    · have h1 : (j : Int) < (n : Int) := by omega
      have hc := HB.out wr HF.out j hlt
      have HM := hideIt (gover1_any (f j) wr)
      obtain ⟨v, hv⟩ : ∃ v, f j = v := ⟨_, rfl⟩
      have HV := hideIt hv
      rw [hv] at hc HM
      clear hv
      go_wp2_with fail
      refine Calls.mono HM.out ?_
      rintro e w1 ⟨rfl, hF1⟩
      have HF1 := hideIt (HF.out.trans hF1 (fun _ _ e => e))
      clear hF1 HF HM hc
      by_cases he : 512 < v
      · have HB2 := hideIt (show isOvr (f j) by rw [HV.out]; exact he)
        have he2 : decide (512 < v) = true := by simpa using he
        go_wp2_with fail
        go_ret
        exact ⟨HF1.out, Or.inl ⟨j, hlt, rfl, HB2.out, HN.out⟩⟩
      · have hN2 := hideIt (show ∀ t, t < j + 1 → ¬ isOvr (f t) from fun t ht => by
          by_cases e : t = j
          · subst e; rw [HV.out]; exact he
          · exact HN.out t (by omega))
        have he2 : decide (512 < v) = false := by simpa using he
        go_wp2_with fail
        go_roundw
        case measure => simp [intOf]; omega
        case rel => exact ⟨j + 1, by go_num, by omega, hN2, HF1⟩
    · have hje : j = n := by omega
      have hjn : ¬ (j : Int) < (n : Int) := by omega
      go_wp2_with fail
      go_ret
      exact ⟨HF.out, Or.inr ⟨rfl, fun t ht => HN.out t (by omega)⟩⟩

theorem zeroPl (w : World) : (zeroValue 61).run Tryz.prog w = .ok (.agg (List.replicate 61 (Value.int .i64 0)).toArray) w := by
  have h : (Tryz.prog.info? 61).map (·.zero) = some (some (.agg (List.replicate 61 (Value.int .i64 0)).toArray)) := by kernel_rfl
  cases hq : Tryz.prog.info? 61 with
  | none => simp [hq] at h
  | some i =>
    have hz : i.zero = some (.agg (List.replicate 61 (Value.int .i64 0)).toArray) := by simpa [hq] using h
    simp [zeroValue, typeInfo, hq, hz, Sem.run_bind]

/-- The bytes are too many with it. -/
def ovrB (l : List Ins) (j : Nat) : Prop := isOvr (bgn l (j + 1) : Int)

set_option maxRecDepth 100000 in
set_option maxHeartbeats 2000000 in
theorem goverlong_any (ao : Option Addr) (cap : Nat) (l : List Ins) (hl : l.length ≤ 60) (w : World) (hB : InsRow w ao l) : Calls Tryz.prog 24 #[.slice ao l.length cap] w (FirstP (ovrB l) l.length w) := by
  have hzv := zeroPl
  obtain ⟨Z, hZ⟩ : ∃ Z, (List.replicate 61 (Value.int .i64 0)).toArray = Z := ⟨_, rfl⟩
  have hZs : Z.size = 61 := by rw [← hZ]; simp
  have HA := hideIt (show (w.alloc (.cells Z 61)).heap[w.heap.size]? = some (.cells Z 61 (0, 0)) from heap_alloc_new w _)
  have HF0 := hideIt (show Fr (fun _ => False) w (w.alloc (.cells Z 61)) from (Fr.refl _ w).alloc _)
  have HB := hideIt (fun W (hF : Fr (fun k => k = w.heap.size) (w.alloc (.cells Z 61)) W) => hB.fr (((Fr.refl (fun k => k = w.heap.size) w).alloc _).trans hF (fun _ _ e => e)) (fun k hk _ e => by omega))
  have HM := hideIt (gmeasure_any w.heap.size ao cap l hl (fun i _ => codeI_lenU i) _ Z HA.out hZs HB.out)
  have HLL := hideIt hl
  rw [hZ] at hzv
  have n1 : (1 : Int) ≤ (l.length : Int) + 1 := by omega
  have n2 : ((l.length : Int) + 1 - 1).toNat = l.length := by omega
  have n3 : l.length + 1 - 1 = l.length := by omega
  clear hB hZ
  go_enter Tryz.func24, Tryz.ntmps24
  go_wp2_with fail
  refine Calls.mono HM.out ?_
  rintro e w1 ⟨rfl, hP, hF1⟩
  have HP := hideIt hP
  have HF1 := hideIt (HF0.out.trans hF1 (fun i hi e => by omega))
  clear hP hF1 HM HF0 HA HB
  go_wp2_with fail
  refine Calls.mono (gidxints_any w.heap.size 1 60 l.length (fun j => (bgn l (j + 1) : Int)) (by have := HLL.out; omega) w1 (fun j hj => by rw [Nat.add_comm 1 j]; exact HP.out.cell (j + 1) (by omega))) ?_
  rintro e w2 ⟨hF2, h⟩
  have HF2 := hideIt (HF1.out.trans hF2 (fun _ _ e => e))
  have HH := hideIt h
  clear hF2 h
  rcases HH.out with ⟨j, hj, rfl, hp, hq⟩ | ⟨rfl, hq⟩
  · go_wp2_with fail
    go_ret
    exact ⟨HF2.out, Or.inl ⟨j, hj, rfl, hp, hq⟩⟩
  · go_wp2_with fail
    go_ret
    exact ⟨HF2.out, Or.inr ⟨rfl, hq⟩⟩

/-- What Check tells. -/
def ChkP (l : List Ins) (err at_ : Int) : Prop :=
  (60 < l.length ∧ err = 3 ∧ at_ = 60) ∨ (l.length ≤ 60 ∧
    ((∃ j : Nat, j < l.length ∧ err = 2 ∧ at_ = j ∧ badB l j ∧ ∀ t, t < j → ¬ badB l t) ∨ ((∀ t, t < l.length → ¬ badB l t) ∧
      ((∃ j : Nat, j < l.length ∧ err = 5 ∧ at_ = j ∧ beyB l j ∧ ∀ t, t < j → ¬ beyB l t) ∨ ((∀ t, t < l.length → ¬ beyB l t) ∧
        ((∃ j : Nat, j < l.length ∧ err = 3 ∧ at_ = j ∧ ovrB l j ∧ ∀ t, t < j → ¬ ovrB l t) ∨ ((∀ t, t < l.length → ¬ ovrB l t) ∧ err = 0 ∧ at_ = 0)))))))

set_option maxRecDepth 100000 in
set_option maxHeartbeats 2000000 in
theorem gcheck_any (ao : Option Addr) (cap : Nat) (l : List Ins) (hl : l.length ≤ 140737488355328) (w : World) (hB : InsRow w ao l) : Calls Tryz.prog 7 #[.slice ao l.length cap] w fun e w' => (∃ err at_ : Int, e = .returned (.tuple #[.int .i64 err, .int .i64 at_]) ∧ ChkP l err at_) ∧ Fr (fun _ => False) w w' := by
  by_cases h60 : 60 < l.length
  · have h1 : (60 : Int) < (l.length : Int) := by omega
    go_enter Tryz.func7, Tryz.ntmps7
    go_wp2_with fail
    go_ret2
    exact ⟨⟨3, 60, rfl, Or.inl ⟨h60, rfl, rfl⟩⟩, Fr.refl _ _⟩
  · have h1 : ¬ (60 : Int) < (l.length : Int) := by omega
    have h6 : l.length ≤ 60 := by omega
    have H6 := hideIt h6
    have HB := hideIt (fun W (hF : Fr (fun _ => False) w W) => hB.fr hF (fun _ _ _ e => e))
    have HC := hideIt (fun W (hF : Fr (fun _ => False) w W) => gidx_any ao cap l (by omega) W (HB.out W hF))
    have HD := hideIt (fun W (hF : Fr (fun _ => False) w W) => gbeyond_any ao cap l (by omega) W (HB.out W hF))
    have HE := hideIt (fun W (hF : Fr (fun _ => False) w W) => goverlong_any ao cap l h6 W (HB.out W hF))
    clear hB
    go_enter Tryz.func7, Tryz.ntmps7
    go_wp2_with fail
    refine Calls.mono (HC.out _ (Fr.refl _ _)) ?_
    rintro e w1 ⟨hF1, h⟩
    have HF1 := hideIt hF1
    have HX := hideIt h
    clear h hF1 HC
    rcases HX.out with ⟨j, hj, rfl, hp, hq⟩ | ⟨rfl, hq⟩
    · have g0 : (0 : Int) ≤ (j : Int) := by omega
      have HP := hideIt hp
      have HQ := hideIt hq
      clear hp hq
      go_wp2_with fail
      go_ret2
      exact ⟨⟨2, j, rfl, Or.inr ⟨H6.out, Or.inl ⟨j, hj, rfl, rfl, HP.out, HQ.out⟩⟩⟩, HF1.out⟩
    · have HQ := hideIt hq
      clear hq
      go_wp2_with fail
      refine Calls.mono (HD.out _ HF1.out) ?_
      rintro e w2 ⟨hF2, h⟩
      have HF2 := hideIt (HF1.out.trans hF2 (fun _ _ e => e))
      have HY := hideIt h
      clear h hF2 HD
      rcases HY.out with ⟨j, hj, rfl, hp, hq⟩ | ⟨rfl, hq⟩
      · have g0 : (0 : Int) ≤ (j : Int) := by omega
        have HP := hideIt hp
        have HQ2 := hideIt hq
        clear hp hq
        go_wp2_with fail
        go_ret2
        exact ⟨⟨5, j, rfl, Or.inr ⟨H6.out, Or.inr ⟨HQ.out, Or.inl ⟨j, hj, rfl, rfl, HP.out, HQ2.out⟩⟩⟩⟩, HF2.out⟩
      · have HQ2 := hideIt hq
        clear hq
        go_wp2_with fail
        refine Calls.mono (HE.out _ HF2.out) ?_
        rintro e w3 ⟨hF3, h⟩
        have HF3 := hideIt (HF2.out.trans hF3 (fun _ _ e => e))
        have HZ := hideIt h
        clear h hF3 HE
        rcases HZ.out with ⟨j, hj, rfl, hp, hq⟩ | ⟨rfl, hq⟩
        · have g0 : (0 : Int) ≤ (j : Int) := by omega
          have HP := hideIt hp
          have HQ3 := hideIt hq
          clear hp hq
          go_wp2_with fail
          go_ret2
          exact ⟨⟨3, j, rfl, Or.inr ⟨H6.out, Or.inr ⟨HQ.out, Or.inr ⟨HQ2.out, Or.inl ⟨j, hj, rfl, rfl, HP.out, HQ3.out⟩⟩⟩⟩⟩, HF3.out⟩
        · have HQ3 := hideIt hq
          clear hq
          go_wp2_with fail
          go_ret2
          exact ⟨⟨0, 0, rfl, Or.inr ⟨H6.out, Or.inr ⟨HQ.out, Or.inr ⟨HQ2.out, Or.inr ⟨HQ3.out, rfl, rfl⟩⟩⟩⟩⟩, HF3.out⟩

end Go.Proofs.YtojgikaoiegmpaaGreatDoor

/- Package prog: head; append onto bytes whose whole room is bytes; joined, walked. -/
namespace Go.Proofs.YtojgikaoiegmpaaGreatDoor
open Go.RowKit Go.IntWalk
set_option linter.unusedSimpArgs false
set_option linter.unusedVariables false
set_option maxRecDepth 100000

set_option maxRecDepth 100000 in
theorem ghead_any (n : Nat) (hn : n ≤ 60) (w : World) : Calls Tryz.prog 29 #[.int .i64 n] w fun e w' => ∃ ao cap, e = .returned (.slice ao 1 cap) ∧ Full w' ao cap [UInt8.ofNat n] ∧ Fr (fun _ => False) w w' ∧ ∀ k, blk ao k → w.heap.size ≤ k := by
  go_enter Tryz.func29, Tryz.ntmps29
  go_wp2_with fail
  refine Calls.mono (new_any w) ?_
  rintro e w2 ⟨rfl, hW2, hF2, hsz2⟩
  have HW2 := hideIt hW2
  have HF2 := hideIt hF2
  clear hW2 hF2
  go_wp2_with fail
  refine Calls.mono (wint_any (w.heap.size + 1) w.heap.size none 0 ([], false) n w2 HW2.out (by omega) (by simp)) ?_
  rintro e w3 ⟨rfl, hP⟩
  rw [wInt_small (n : Int) (by omega) (by omega) [], Int.toNat_natCast] at hP
  obtain ⟨ao, cap, ⟨at_, ea, hWA⟩, hF3, hn3⟩ := hP
  have HF3 := hideIt (HF2.out.trans hF3 (fun k hk e => by rcases e with e | ⟨_, e, _⟩; omega; cases e))
  have HWA := hideIt hWA
  clear hF3 hn3 hWA
  go_wp2_with fail
  refine Calls.mono (out_full (w.heap.size + 1) w.heap.size ao cap _ at_ ea w3 HWA.out (by simp)) ?_
  rintro e w7 ⟨ao7, cap7, rfl, hfull, hF7, hn7⟩
  have HQ := hideIt (And.intro hfull (And.intro (HF3.out.trans hF7 (fun _ _ e => e)) (fun k hk => Nat.le_trans HF3.out.size (hn7 k hk))))
  clear hfull hF7 hn7
  go_wp2_with fail
  go_ret
  exact ⟨ao7, cap7, rfl, HQ.out.1, HQ.out.2.1, HQ.out.2.2⟩

/-- append onto bytes whose whole room is bytes: so is what comes of it. -/
theorem app_full (w : World) (tx : TypeId) (ao : Option Addr) (cap : Nat) (bs cs : List UInt8) (hown : Full w ao cap bs) (x : Value) (hs : Src Tryz.prog 1 tx x cs.length (bv cs) w) (hb : bs.length + cs.length ≤ 140737488355328) :
    ∃ ao' cap' w', (Builtin.append_ #[29, tx] 29 #[.slice ao bs.length cap, x]).run Tryz.prog w = .ok (.slice ao' (bs.length + cs.length) cap') w' ∧ Full w' ao' cap' (bs ++ cs) ∧ Fr (blk ao) w w' ∧ (ao' = ao ∨ ao' = some ⟨w.heap.size, 0, none⟩) := by
  obtain ⟨i, hi, hz, hsize, hby⟩ := info_parts Tryz.infoU8
  have hm : bs.length + cs.length ≤ maxLen := by unfold maxLen; omega
  have hfr : ∀ (cur : Array Value), Fr (blk ao) w (w.drew.alloc (.cells cur 5)) := fun cur => (Fr.refl _ _).drew.alloc _
  have grow : cap < bs.length + cs.length → (Builtin.firstCells i.size bs.length (.slice ao bs.length cap)).run Tryz.prog w.drew = .ok (bv bs).toArray w.drew →
      ∃ ao' cap' w', (Builtin.append_ #[29, tx] 29 #[.slice ao bs.length cap, x]).run Tryz.prog w = .ok (.slice ao' (bs.length + cs.length) cap') w' ∧ Full w' ao' cap' (bs ++ cs) ∧ Fr (blk ao) w w' ∧ (ao' = ao ∨ ao' = some ⟨w.heap.size, 0, none⟩) := by
    intro hlt hold
    have hr := run_append_grow_src (P := Tryz.prog) w 29 tx 29 5 i (.int .u8 0) Tryz.underlying29 hi hz ao bs.length cap (bv bs) hold x cs.length (bv cs) (by rw [hsize]; exact hs) hlt (by unfold maxLen at hm; omega) (growslice_fits hlt (by rw [hby]; omega))
    refine ⟨_, _, _, hr, ?_, hfr _, Or.inr rfl⟩
    have hge := grownCap_ge w (bs.length + cs.length) cap 5
    have hcm := grownCap_le_maxLen w (bs.length + cs.length) cap 5 hm
    refine Or.inr ⟨w.heap.size, List.replicate (grownCap w (bs.length + cs.length) cap 5 - (bs.length + cs.length)) 0, rfl, ?_, ?_, hcm⟩
    · rw [show w.heap.size = w.drew.heap.size from rfl, heap_alloc_new w.drew _]
      congr 2
      apply Array.ext'
      have hz2 := zero_bytes (grownCap w (bs.length + cs.length) cap 5 - (bs.length + cs.length))
      have e1 : (Value.int IntKind.u8 0).cells = #[.int .u8 0] := rfl
      simp [bv_append, e1, hz2]
    · simp only [List.length_append, List.length_replicate]
      omega
  rcases hown with ⟨rfl, rfl, rfl⟩ | ⟨g, zs, rfl, hg, hcap, hcm⟩
  · by_cases hc : cs = []
    · subst hc
      refine ⟨none, 0, w, ?_, Or.inl ⟨rfl, rfl, rfl⟩, Fr.refl _ _, Or.inl rfl⟩
      exact run_append_nothing (P := Tryz.prog) w 29 tx 29 5 i Tryz.underlying29 hi none 0 0 (Nat.le_refl _) x (by rw [hsize]; exact hs)
    · exact grow (by have := List.length_pos_iff.2 hc; simpa using this) (run_firstCells_none w.drew i.size 0 0 0)
  · by_cases hroom : bs.length + cs.length ≤ cap
    · have hzl : cs.length ≤ zs.length := by rw [hcap, List.length_append] at hroom; omega
      have hst := run_storeCells_at Tryz.prog g (bs.length * i.size) 5 (bv cs) 0 _ w hg (by rw [hsize, bv_length]; simp [bv_length]; omega) (bv_one cs)
      simp only [Nat.add_zero] at hst
      have hcells := hs.cells
      rw [← hsize] at hcells
      refine ⟨some ⟨g, 0, none⟩, cap, w.setRow g ((bv (bs ++ zs)).toArray.toList.take (bs.length * i.size) ++ bv cs ++ (bv (bs ++ zs)).toArray.toList.drop (bs.length * i.size + (bv cs).length)).toArray, ?_, ?_, ?_, Or.inl rfl⟩
      · rcases hs.kind with ⟨e', hk⟩ | hk <;> simp [Builtin.append_, run_underlying Tryz.underlying29, run_underlying hk, sizeOf, typeInfo, hi, hs.len, hroom, hcells, Addr.add_lit, hst]
      · refine Or.inr ⟨g, zs.drop cs.length, rfl, ?_, ?_, hcm⟩
        · rw [setRow_heap w g _ _ 5 _ hg]
          congr 2
          apply Array.ext'
          have e1 : (bv bs).length = bs.length := bv_length bs
          simp only [hsize, Nat.mul_one, bv_append, bv_length]
          rw [show (bv bs ++ bv zs).take bs.length = bv bs by rw [← e1, List.take_left], show (bv bs ++ bv zs).drop (bs.length + cs.length) = bv (zs.drop cs.length) by rw [← e1, List.drop_append, List.drop_of_length_le (by omega)]; simp [bv]]
        · rw [hcap]; simp; omega
      · exact ⟨rfl, rfl, rfl, by simp, fun k _ hk => setRow_other w g k _ (fun e => hk ⟨⟨g, 0, none⟩, rfl, by simp [e]⟩)⟩
    · refine grow (by omega) (run_firstCells_some w.drew i.size bs.length ⟨g, 0, none⟩ bs.length cap (bv bs) (by rw [hsize, bv_length]; omega) (fun j u hu => ?_))
      have hj : j < bs.length := by have := (List.getElem?_eq_some_iff.1 hu).1; rwa [bv_length] at this
      have h2 : w.cell? ⟨g, j, none⟩ = some u := by
        refine (cellOfHeap hg j ?_)
        simp only [List.getElem?_toArray, bv_append]
        rw [List.getElem?_append_left (by rw [bv_length]; exact hj)]
        exact hu
      simpa [Addr.add_lit] using h2

end Go.Proofs.YtojgikaoiegmpaaGreatDoor

/- Package prog: joined, walked. -/
namespace Go.Proofs.YtojgikaoiegmpaaGreatDoor
open Go.RowKit Go.IntWalk
set_option linter.unusedSimpArgs false
set_option linter.unusedVariables false
set_option maxRecDepth 100000

/-- Rows of bytes, wherever they lie. -/
def BtRow (w : World) (ao : Option Addr) (xs : List (List UInt8)) : Prop := xs = [] ∨ ∃ b off, ao = some ⟨b, off, none⟩ ∧ b < w.heap.size ∧ ∀ j (h : j < xs.length), ∃ a c, w.cell? ⟨b, off + j, none⟩ = some (.slice a xs[j].length c) ∧ BsAt w a xs[j]
theorem BtRow.get {w : World} {ao : Option Addr} {xs : List (List UInt8)} (h : BtRow w ao xs) (j : Nat) (hj : j < xs.length) : ∃ b off, ao = some ⟨b, off, none⟩ ∧ b < w.heap.size ∧ ∃ a c, w.cell? ⟨b, off + j, none⟩ = some (.slice a xs[j].length c) ∧ BsAt w a xs[j] := by
  rcases h with rfl | ⟨b, off, e, hb, hc⟩
  · simp at hj
  · exact ⟨b, off, e, hb, hc j hj⟩
theorem BtRow.fr {w w' : World} {ao : Option Addr} {xs : List (List UInt8)} (h : BtRow w ao xs) (hF : Fr (fun _ => False) w w') : BtRow w' ao xs := by
  rcases h with rfl | ⟨b, off, e, hb, hc⟩
  · exact Or.inl rfl
  · have := hF.size
    refine Or.inr ⟨b, off, e, by omega, fun j hj => ?_⟩
    obtain ⟨a, c, h1, h2⟩ := hc j hj
    exact ⟨a, c, (World.cell?_of_block (a := ⟨b, off + j, none⟩) (hF.block b hb (fun e => e))).trans h1, h2.fr hF (fun _ _ _ e => e)⟩

/-- The first j of them, one behind the other. -/
def joi (xs : List (List UInt8)) (j : Nat) : List UInt8 := (xs.take j).flatten
theorem joi_zero (xs : List (List UInt8)) : joi xs 0 = [] := rfl
theorem joi_succ (xs : List (List UInt8)) (j : Nat) (h : j < xs.length) : joi xs (j + 1) = joi xs j ++ xs[j] := by
  unfold joi
  rw [List.take_succ_eq_append_getElem h, List.flatten_append]
  simp
theorem joi_all (xs : List (List UInt8)) : joi xs xs.length = xs.flatten := by
  unfold joi
  rw [List.take_length]
theorem joi_le (xs : List (List UInt8)) (hx : ∀ x ∈ xs, x.length ≤ 1000) : ∀ j, j ≤ xs.length → (joi xs j).length ≤ 1000 * j := by
  intro j
  induction j with
  | zero => intro _; simp [joi_zero]
  | succ j ih =>
    intro h
    have h1 := ih (by omega)
    have h2 := hx _ (List.getElem_mem (show j < xs.length by omega))
    rw [joi_succ xs j (by omega), List.length_append]
    omega

set_option maxRecDepth 100000 in
set_option maxHeartbeats 2000000 in
theorem gjoined_any (ao : Option Addr) (cap : Nat) (xs : List (List UInt8)) (hn : xs.length ≤ 1000) (hx : ∀ x ∈ xs, x.length ≤ 1000) (w : World) (hB : BtRow w ao xs) : Calls Tryz.prog 31 #[.slice ao xs.length cap] w fun e w' => ∃ ao' cap', e = .returned (.slice ao' xs.flatten.length cap') ∧ Full w' ao' cap' xs.flatten ∧ Fr (fun _ => False) w w' ∧ ∀ k, blk ao' k → w.heap.size ≤ k := by
  have HB := hideIt (fun W (hF : Fr (fun _ => False) w W) => hB.fr hF)
  have HL := hideIt (joi_le xs hx)
  obtain ⟨y, hy⟩ : ∃ y, xs.flatten = y := ⟨_, rfl⟩
  rw [hy]
  have HY := hideIt ((joi_all xs).trans hy)
  clear hB hx hy
  go_enter Tryz.func31, Tryz.ntmps31
  go_wp2_with fail
  go_loopw [3, 8] (fun s3 s8 wr => ∃ (j : Nat) (a : Option Addr) (c : Nat), s3 = .slice a (joi xs j).length c ∧ s8 = .int .i64 j ∧ j ≤ xs.length ∧ Hid (Full wr a c (joi xs j)) ∧ Hid (∀ k, blk a k → w.heap.size ≤ k) ∧ Hid (Fr (fun _ => False) w wr)) (fun _ s8 _ => xs.length - (intOf s8).toNat)
  case atStart => exact ⟨0, none, 0, rfl, rfl, by omega, hideIt (Or.inl ⟨rfl, joi_zero xs, rfl⟩), hideIt (fun k hk => by obtain ⟨_, e, _⟩ := hk; cases e), hideIt (Fr.refl _ _)⟩
  case round =>
    obtain ⟨j, a, c, rfl, rfl, hj, HA, HN, HF⟩ := hrel
    by_cases hlt : j < xs.length
    · have h1 : (j : Int) < (xs.length : Int) := by omega
      obtain ⟨b, off, rfl, hb, a2, c2, hcell, hbs⟩ := (HB.out wr HF.out).get j hlt
      have hl1 := HL.out j hj
      have hl2 := HL.out (j + 1) hlt
      have hjs := joi_succ xs j hlt
      have hll : (joi xs (j + 1)).length = (joi xs j).length + xs[j].length := by rw [hjs, List.length_append]
      obtain ⟨ao4, cap4, w4, hrun4, hfull4, hF4, hor4⟩ := app_full wr 29 a c (joi xs j) xs[j] HA.out _ (hbs.src c2) (by omega)
      have HR4 := hideIt hrun4
      have HA4 := hideIt (show Full w4 ao4 cap4 (joi xs (j + 1)) by rw [hjs]; exact hfull4)
      have HN4 := hideIt (show ∀ k, blk ao4 k → w.heap.size ≤ k from fun k hk => by
        rcases hor4 with e | e
        · rw [e] at hk; exact HN.out k hk
        · rw [e] at hk
          obtain ⟨x, e1, e2⟩ := hk
          obtain rfl := Option.some.inj e1
          have := HF.out.size
          simp only at e2
          omega)
      have HF4 := hideIt (HF.out.trans hF4 (fun k hk e => by have := HN.out k e; omega))
      have HLL := hideIt hll
      clear hrun4 hfull4 hF4 hor4 hbs hjs hl1 hl2 hll
      go_wp2_with (first | (at_builtin; refine wpList_append_run _ rfl (.tmp 12) (.tmp 13) 29 29 rfl _ _ _ _ rfl rfl HR4.out ?_))
      go_roundw
      case measure => simp [intOf]; omega
      case rel => exact ⟨j + 1, ao4, cap4, by rw [HLL.out], by go_num, by omega, HA4, HN4, HF4⟩
    · have hje : j = xs.length := by omega
      have hjn : ¬ (j : Int) < (xs.length : Int) := by omega
      go_wp2_with fail
      go_ret
      subst hje
      obtain rfl := HY.out
      exact ⟨a, c, rfl, HA.out, HF.out, HN.out⟩

end Go.Proofs.YtojgikaoiegmpaaGreatDoor

/- Package prog: places.read, walked. -/
namespace Go.Proofs.YtojgikaoiegmpaaGreatDoor
open Go.RowKit Go.IntWalk
set_option linter.unusedSimpArgs false
set_option linter.unusedVariables false
set_option maxRecDepth 100000

/-- Where instruction k begins, and what is read there: one behind the other, from a place on. -/
def rdAt (bs : List UInt8) (a : Int) : Nat → Int
  | 0 => a
  | k + 1 => (readR bs (rdAt bs a k)).2.1
def rdR (bs : List UInt8) (a : Int) (k : Nat) : Ins × Int × Int × Int := readR bs (rdAt bs a k)

/-- So many places are laid. -/
def PlcF (w : World) (p : Nat) (f : Nat → Int) (k : Nat) : Prop := ∃ A : Array Value, w.heap[p]? = some (.cells A 61 (0, 0)) ∧ A.size = 61 ∧ ∀ t, t ≤ k → A[t]? = some (.int .i64 (f t))
theorem PlcF.cell {w : World} {p : Nat} {f : Nat → Int} {k : Nat} (h : PlcF w p f k) (t : Nat) (ht : t ≤ k) : w.cell? ⟨p, t, none⟩ = some (.int .i64 (f t)) := by
  obtain ⟨A, h1, _, h3⟩ := h
  rw [cell_of_row w p t _ _ _ h1]
  exact h3 t ht
theorem PlcF.there {w : World} {p : Nat} {f : Nat → Int} {k : Nat} (h : PlcF w p f k) (t : Nat) (ht : t < 61) : (∃ v, w.cell? ⟨p, t, none⟩ = some v) ∧ w.frozen? ⟨p, t, none⟩ = false := by
  obtain ⟨A, h1, h2, h3⟩ := h
  refine ⟨⟨A[t]'(by omega), ?_⟩, frozen_of_row w p t _ _ h1⟩
  rw [cell_of_row w p t _ _ _ h1, Array.getElem?_eq_getElem]
theorem PlcF.step {w : World} {p : Nat} {f : Nat → Int} {k : Nat} (h : PlcF w p f k) (hk : k < 60) (v : Int) (hv : f (k + 1) = v) : PlcF (w.setCell ⟨p, k + 1, none⟩ (.int .i64 v)) p f (k + 1) := by
  subst hv
  obtain ⟨A, h1, h2, h3⟩ := h
  refine ⟨_, heap_setCell_same w p (k + 1) _ _ _ h1, by simpa using h2, fun t ht => ?_⟩
  by_cases e : t = k + 1
  · subst e
    rw [Array.getElem?_setIfInBounds]
    simp [h2]
    omega
  · rw [Array.getElem?_setIfInBounds, if_neg (Ne.symm e)]
    exact h3 t (by omega)
theorem PlcF.fr {S : Nat → Prop} {w w' : World} {p : Nat} {f : Nat → Int} {k : Nat} (h : PlcF w p f k) (hF : Fr S w w') (hS : ¬ S p) : PlcF w' p f k := by
  obtain ⟨A, h1, h2, h3⟩ := h
  exact ⟨A, (hF.block p (Array.getElem?_eq_some_iff.1 h1).1 hS).trans h1, h2, h3⟩

/-- The first instructions of a new row are laid. -/
def InsPre (w : World) (q n : Nat) (f : Nat → Ins) (k : Nat) : Prop := ∃ A : Array Value, w.heap[q]? = some (.cells A 40 (0, 0)) ∧ A.size = n * 6 ∧ ∀ t, t < k → ∀ (j : Nat) (v : Value), (icells (f t)).toList[j]? = some v → A[t * 6 + j]? = some v
theorem InsPre.fr {S : Nat → Prop} {w w' : World} {q n : Nat} {f : Nat → Ins} {k : Nat} (h : InsPre w q n f k) (hF : Fr S w w') (hS : ¬ S q) : InsPre w' q n f k := by
  obtain ⟨A, h1, h2, h3⟩ := h
  exact ⟨A, (hF.block q (Array.getElem?_eq_some_iff.1 h1).1 hS).trans h1, h2, h3⟩
theorem InsPre.there {w : World} {q n : Nat} {f : Nat → Ins} {k : Nat} (h : InsPre w q n f k) (t : Nat) (ht : t < n) : w.there q (t * 6) 6 := by
  obtain ⟨A, h1, h2, h3⟩ := h
  intro j hj
  rw [cell_of_row w q (t * 6 + j) _ _ _ h1]
  exact ⟨by simp; omega, frozen_of_row w q _ _ _ h1⟩
theorem ic6 (i : Ins) : (icells i).toList.length = 6 := rfl
theorem InsPre.step {w : World} {q n : Nat} {f : Nat → Ins} {k : Nat} (h : InsPre w q n f k) (hk : k < n) (V : List Value) (hV : (icells (f k)).toList = V) : InsPre (w.setCells q (k * 6) V) q n f (k + 1) := by
  obtain ⟨A, h1, h2, h3⟩ := h
  have h6 : V.length = 6 := by rw [← hV]; exact ic6 _
  obtain ⟨A', e1, e2⟩ := setCells_heap q 40 V (k * 6) w A h1 (by omega)
  have hl : (A.toList.take (k * 6)).length = k * 6 := by simp; omega
  refine ⟨A', e1, ?_, fun t ht j v hv => ?_⟩
  · have := congrArg List.length e2
    simp at this
    omega
  · have hj : j < 6 := by have := (List.getElem?_eq_some_iff.1 hv).1; rw [ic6] at this; exact this
    rw [← Array.getElem?_toList, e2, List.append_assoc]
    by_cases e : t = k
    · subst e
      rw [hV] at hv
      rw [List.getElem?_append_right (by omega), hl, List.getElem?_append_left (by omega), show t * 6 + j - t * 6 = j by omega]
      exact hv
    · have hlt : t < k := by omega
      have hlt6 : t * 6 + j < k * 6 := by omega
      rw [List.getElem?_append_left (by omega), List.getElem?_take_of_lt hlt6, Array.getElem?_toList]
      exact h3 t hlt j v hv
theorem InsPre.row {w : World} {q n : Nat} {f : Nat → Ins} (h : InsPre w q n f n) : InsRow w (some ⟨q, 0, none⟩) ((List.range n).map f) := by
  obtain ⟨A, h1, h2, h3⟩ := h
  refine Or.inr ⟨q, 0, rfl, (Array.getElem?_eq_some_iff.1 h1).1, fun j hj t v hv => ?_⟩
  have hj' : j < n := by simpa using hj
  rw [Nat.zero_add, cell_of_row w q (j * 6 + t) _ _ _ h1]
  rw [List.getElem_map, List.getElem_range] at hv
  exact h3 j hj' t v hv

/-- What read answers. -/
def GReadP (p q n : Nat) (bs : List UInt8) (a : Int) (w : World) (e : Ending) (w' : World) : Prop :=
  Fr (fun i => i = p ∨ i = q) w w' ∧ ((∃ k : Nat, k < n ∧ (∀ t, t < k → (rdR bs a t).2.2.1 = 0) ∧ (rdR bs a k).2.2.1 ≠ 0 ∧ e = .returned (.tuple #[.slice none 0 0, .agg #[.int .i64 (rdR bs a k).2.2.1, .int .i64 (rdR bs a k).2.2.2]])) ∨
    ((∀ t, t < n → (rdR bs a t).2.2.1 = 0) ∧ e = .returned (.tuple #[.slice (some ⟨p, 0, none⟩) (n + 1) 61, .agg #[.int .i64 0, .int .i64 0]]) ∧ PlcF w' p (rdAt bs a) n ∧ InsPre w' q n (fun t => (rdR bs a t).1) n))

set_option maxRecDepth 100000 in
set_option maxHeartbeats 4000000 in
theorem gread_any (p q n : Nat) (hn : n ≤ 60) (hpq : p ≠ q) (bo : Option Addr) (cb : Nat) (bs : List UInt8) (a : Int) (w : World) (A Z : Array Value) (hA : w.heap[p]? = some (.cells A 61 (0, 0))) (hA2 : A.size = 61) (hZ : w.heap[q]? = some (.cells Z 40 (0, 0))) (hZ2 : Z.size = n * 6)
    (hB : BsAt w bo bs) (hb1 : ∀ k, blk bo k → ¬ (k = p ∨ k = q)) (hcap0 : bo = none → cb = 0) (hcl : bs.length ≤ cb) (hbl : bs.length ≤ 140737488355328) :
    Calls Tryz.prog 64 #[.pointer (some ⟨p, 0, none⟩), .slice (some ⟨q, 0, none⟩) n n, .slice bo bs.length cb, .int .i64 a] w (GReadP p q n bs a w) := by
  have HRD := hideIt (fun (W : World) (at_ : Int) (hF : Fr (fun i => i = p ∨ i = q) w W) => read_any bo cb bs at_ W (hB.fr hF (fun k _ hk => hb1 k hk)) hcap0 hcl hbl)
  have hpl := (Array.getElem?_eq_some_iff.1 hA).1
  have hql := (Array.getElem?_eq_some_iff.1 hZ).1
  obtain ⟨r, hr⟩ : ∃ r, w.heap.size = r := ⟨_, rfl⟩
  have hW0 : (w.alloc (.cells #[.int .i64 0, .int .i64 0] 45)).heap[r]? = some (.cells #[.int .i64 0, .int .i64 0] 45 (0, 0)) := by rw [← hr]; exact heap_alloc_new w _
  obtain ⟨w0, hw0⟩ : ∃ w0, w.alloc (.cells #[.int .i64 0, .int .i64 0] 45) = w0 := ⟨_, rfl⟩
  rw [hw0] at hW0
  have hF0 : Fr (fun i => i = p ∨ i = q) w w0 := by rw [← hw0]; exact (Fr.refl _ w).alloc _
  have HF0a := hideIt (hF0.setCell (p := ⟨p, 0, none⟩) (fun _ => Or.inl rfl) (.int .i64 a))
  have hA0 : w0.heap[p]? = some (.cells A 61 (0, 0)) := by rw [← hw0]; exact heap_old hA
  have hZ0 : w0.heap[q]? = some (.cells Z 40 (0, 0)) := by rw [← hw0]; exact heap_old hZ
  have HP0 := hideIt (show PlcF (w0.setCell ⟨p, 0, none⟩ (.int .i64 a)) p (rdAt bs a) 0 from ⟨_, heap_setCell_same w0 p 0 _ _ _ hA0, by simpa using hA2, fun t ht => by
    obtain rfl : t = 0 := by omega
    rw [Array.getElem?_setIfInBounds]
    simp [hA2, rdAt]⟩)
  have HI0 := hideIt (show InsPre (w0.setCell ⟨p, 0, none⟩ (.int .i64 a)) q n (fun t => (rdR bs a t).1) 0 from ⟨Z, (heap_setCell_other w0 _ _ _ (fun e => hpq e.symm)).trans hZ0, hZ2, fun t ht => absurd ht (by omega)⟩)
  have HX0 := hideIt (show (w0.setCell ⟨p, 0, none⟩ (.int .i64 a)).heap[r]? = some (.cells #[.int .i64 0, .int .i64 0] 45 (0, 0)) from (heap_setCell_other w0 _ _ _ (fun e => by simp only at e; omega)).trans hW0)
  have c0 : ∃ v, w0.cell? ⟨p, 0, none⟩ = some v := ⟨A[0]'(by omega), by rw [cell_of_row w0 p 0 _ _ _ hA0, Array.getElem?_eq_getElem]⟩
  obtain ⟨v0, c0⟩ := c0
  have f0 := frozen_of_row w0 p 0 _ _ hA0
  have HN := hideIt hn
  have HPQ := hideIt (show p ≠ q ∧ p < r ∧ q < r by omega)
  have hw1 : IntKind.i64.wrap ((n : Int) + 1) = (n : Int) + 1 := by rw [IntKind.wrap_i64]; omega
  have hb2 : (0 : Int) ≤ (n : Int) + 1 := by omega
  have hb3 : (n : Int) + 1 ≤ 61 := by omega
  have hb4 : ((n : Int) + 1).toNat = n + 1 := by omega
  clear hB hb1 hA hZ hA2 hZ2 hpl hql hF0 hA0 hZ0 hW0 hcap0 hcl hbl
  subst hw0 hr
  go_enter Tryz.func64, Tryz.ntmps64
  go_wp2_with fail
  clear c0 f0 hw1 hb2 hb3 hb4
  go_loopw [26] (fun s26 wr => ∃ k : Nat, s26 = .int .i64 k ∧ k ≤ n ∧ Hid (PlcF wr p (rdAt bs a) k) ∧ Hid (InsPre wr q n (fun t => (rdR bs a t).1) k) ∧ Hid (wr.heap[w.heap.size]? = some (.cells #[.int .i64 0, .int .i64 0] 45 (0, 0))) ∧ Hid (∀ t, t < k → (rdR bs a t).2.2.1 = 0) ∧ Hid (Fr (fun i => i = p ∨ i = q) w wr)) (fun s26 _ => n - (intOf s26).toNat)
  case atStart => exact ⟨0, rfl, by omega, HP0, HI0, HX0, hideIt (fun t ht => absurd ht (by omega)), HF0a⟩
  case round =>
    clear HP0 HI0 HX0 HF0a
    obtain ⟨k, rfl, hk, HP, HI, HX, HE, HF⟩ := hrel
    by_cases hlt : k < n
    · have h1 : (k : Int) < (n : Int) := by omega
      have hck := HP.out.cell k (Nat.le_refl _)
      have HR := hideIt (HRD.out wr (rdAt bs a k) HF.out)
      obtain ⟨y, hy⟩ : ∃ y, readR bs (rdAt bs a k) = y := ⟨_, rfl⟩
      have HY := hideIt (show rdR bs a k = y from hy)
      have HYA := hideIt (show rdAt bs a (k + 1) = y.2.1 from congrArg (·.2.1) hy)
      rw [hy] at HR
      clear hy
      obtain ⟨⟨op, x1, x2, x3, x4, sx⟩, m, er, ea⟩ := y
      unfold readV icells at HR
      dsimp only at HR HYA
      have hrl := (Array.getElem?_eq_some_iff.1 HX.out).1
      have hw1 : IntKind.i64.wrap ((k : Int) + 1) = (k : Int) + 1 := by rw [IntKind.wrap_i64]; omega
      have n1 : (0 : Int) ≤ (k : Int) + 1 := by omega
      have n2 : (k : Int) + 1 < (n : Int) + 1 := by omega
      have n2b : (k : Int) < (n : Int) + 1 := by omega
      have n3 : ((k : Int) + 1).toNat = k + 1 := by omega
      generalize rdAt bs a k = ak at *
      go_wp2_with fail
      refine Calls.mono HR.out ?_
      rintro e w2 ⟨rfl, hF2⟩
      have HF2 := hideIt hF2
      clear hF2 HR hck
      by_cases her : er = 0
      · subst her
        have HFX := hideIt ((HF.out.trans HF2.out (fun _ _ e => e.elim)).alloc (.cells #[.int .i64 op, .int .i64 x1, .int .i64 x2, .int .i64 x3, .int .i64 x4, .string sx] 40) |>.alloc (.cells #[.int .i64 0, .int .i64 ea] 45))
        have HD := hideIt (show Fr (fun _ => False) wr ((w2.alloc (.cells #[.int .i64 op, .int .i64 x1, .int .i64 x2, .int .i64 x3, .int .i64 x4, .string sx] 40)).alloc (.cells #[.int .i64 0, .int .i64 ea] 45)) from (HF2.out.alloc _).alloc _)
        have HI2 := hideIt (HI.out.fr HD.out (fun e => e))
        have HP2 := hideIt (HP.out.fr HD.out (fun e => e))
        have HX2 := hideIt ((HD.out.block w.heap.size hrl (fun e => e)).trans HX.out)
        have HT := hideIt (HI2.out.there k hlt)
        have HV := hideIt (congrArg (fun y => (icells y.1).toList) HY.out)
        have HEE := hideIt (congrArg (fun y => y.2.2.1) HY.out)
        unfold icells at HV
        dsimp only at HV HEE
        have HST := hideIt (fun W (e : W = ((w2.alloc (.cells #[.int .i64 op, .int .i64 x1, .int .i64 x2, .int .i64 x3, .int .i64 x4, .string sx] 40)).alloc (.cells #[.int .i64 0, .int .i64 ea] 45)).setCells q (k * 6) (#[Value.int .i64 op, .int .i64 x1, .int .i64 x2, .int .i64 x3, .int .i64 x4, .string sx]).toList) => show InsPre W q n (fun t => (rdR bs a t).1) (k + 1) ∧ Fr (fun i => i = q) ((w2.alloc (.cells #[.int .i64 op, .int .i64 x1, .int .i64 x2, .int .i64 x3, .int .i64 x4, .string sx] 40)).alloc (.cells #[.int .i64 0, .int .i64 ea] 45)) W by
          subst e
          exact ⟨HI2.out.step hlt _ HV.out, Fr.setCells _ _ _ _⟩)
        clear HD hrl
        go_wp2_with (first | (refine store_absG rfl 40 (.tmp 50) (.tmp 48) rfl q (k * 6) #[.int .i64 op, .int .i64 x1, .int .i64 x2, .int .i64 x3, .int .i64 x4, .string sx] rfl rfl HT.out (by kernel_rfl) (by simp [Value.oneCell']) ?_; intro W hW; obtain ⟨hI3, hF3⟩ := HST.out W hW; have HI3 := hideIt hI3; have HF3 := hideIt hF3; have HP3 := hideIt (HP2.out.fr hF3 HPQ.out.1); obtain ⟨⟨u, hu⟩, hfz⟩ := HP3.out.there (k + 1) (by have := HN.out; omega); clear hI3 hF3 hW HST))
        have HP4 := hideIt (HP3.out.step (by have := HN.out; omega) m HYA.out)
        have HF4 := hideIt ((HFX.out.trans HF3.out (fun _ _ e => Or.inr e)).setCell (p := ⟨p, k + 1, none⟩) (fun _ => Or.inl rfl) (.int .i64 m))
        have HI4 := hideIt (HI3.out.fr ((Fr.refl (fun i => i = p) W).setCell (p := ⟨p, k + 1, none⟩) (fun _ => rfl) (.int .i64 m)) (fun e => HPQ.out.1 e.symm))
        have HX4 := hideIt ((show (W.setCell ⟨p, k + 1, none⟩ (.int .i64 m)).heap[w.heap.size]? = W.heap[w.heap.size]? from heap_setCell_other W _ _ _ (by have := HPQ.out; show w.heap.size ≠ p; omega)).trans ((HF3.out.block w.heap.size (Array.getElem?_eq_some_iff.1 HX2.out).1 (by have := HPQ.out; omega)).trans HX2.out))
        clear hu hfz
        go_wp2_with fail
        go_roundw
        case measure => simp [intOf]; omega
        case rel => exact ⟨k + 1, by go_num, by omega, HP4, HI4, HX4, hideIt (fun t ht => by
          by_cases e : t = k
          · subst e; exact HEE.out
          · exact HE.out t (by omega)), HF4⟩
      · have hne : (er == 0) = false := by simpa using her
        have hX2 := (HF2.out.block w.heap.size hrl (fun e => e)).trans HX.out
        have hq0 := cellOfHeap hX2 0 rfl
        have hq1 := cellOfHeap hX2 1 rfl
        have g0 := frozen_of_row w2 w.heap.size 0 _ _ hX2
        have g1 := frozen_of_row w2 w.heap.size 1 _ _ hX2
        have hlt2 := (Array.getElem?_eq_some_iff.1 hX2).1
        have HX2 := hideIt hX2
        clear hX2
        go_wp2_with fail
        have c0 : ((w2.alloc (.cells #[.int .i64 op, .int .i64 x1, .int .i64 x2, .int .i64 x3, .int .i64 x4, .string sx] 40)).alloc (.cells #[.int .i64 er, .int .i64 ea] 45)).cell? ⟨w2.heap.size + 1, 0, none⟩ = some (.int .i64 er) := cellOfHeap (heap_new (by simp)) 0 rfl
        go_region
        go_wp2_with fail
        have HB2 := hideIt hlt2
        have HFZ := hideIt (((((HF.out.trans HF2.out (fun _ _ e => e.elim)).trans (((Fr.refl (fun i => i = w.heap.size) _).setCell (p := ⟨w.heap.size, 0, none⟩) (fun _ => rfl) (.int .i64 er)).setCell (p := ⟨w.heap.size, 1, none⟩) (fun _ => rfl) (.int .i64 ea)) (fun i hi e => absurd hi (by omega))).alloc (.cells #[.int .i64 op, .int .i64 x1, .int .i64 x2, .int .i64 x3, .int .i64 x4, .string sx] 40)).alloc (.cells #[.int .i64 er, .int .i64 ea] 45)).drew)
        have hb1 := heap_setCell_same w2 w.heap.size 0 _ _ (.int .i64 er) HX2.out
        have hb2 := heap_setCell_same _ w.heap.size 1 _ _ (.int .i64 ea) hb1
        have hb3 : ((((w2.setCell ⟨w.heap.size, 0, none⟩ (.int .i64 er)).setCell ⟨w.heap.size, 1, none⟩ (.int .i64 ea)).alloc (.cells #[.int .i64 op, .int .i64 x1, .int .i64 x2, .int .i64 x3, .int .i64 x4, .string sx] 40)).alloc (.cells #[.int .i64 er, .int .i64 ea] 45)).heap[w.heap.size]? = _ := heap_old (heap_old hb2)
        have p0 := cellOfHeap hb3 0 rfl
        have p1 := cellOfHeap hb3 1 rfl
        clear hb1 hb2 hb3 hq0 hq1 g0 g1
        refine bodyPost_ret (v := .tuple #[.slice none 0 0, .agg #[.int .i64 er, .int .i64 ea]]) (by simp [results, Tryz.results64, go_sem, p0, p1]) rfl ?_
        refine ⟨HFZ.out, Or.inl ⟨k, hlt, HE.out, ?_, ?_⟩⟩
        · rw [HY.out]; exact her
        · rw [HY.out]
    · have hje : k = n := by omega
      have hjn : ¬ (k : Int) < (n : Int) := by omega
      subst hje
      have hq0 := cellOfHeap HX.out 0 rfl
      have hq1 := cellOfHeap HX.out 1 rfl
      have g0 := frozen_of_row wr w.heap.size 0 _ _ HX.out
      have g1 := frozen_of_row wr w.heap.size 1 _ _ HX.out
      have HXr := hideIt HX.out
      go_wp2_with fail
      refine bodyPost_ret (v := .tuple #[.slice (some ⟨p, 0, none⟩) (k + 1) 61, .agg #[.int .i64 0, .int .i64 0]]) (by simp [results, Tryz.results64, go_sem, hq0, hq1]) rfl ?_
      have HFW := hideIt (((Fr.refl (fun i => i = w.heap.size) wr).setCell (p := ⟨w.heap.size, 0, none⟩) (fun _ => rfl) (.int .i64 0)).setCell (p := ⟨w.heap.size, 1, none⟩) (fun _ => rfl) (.int .i64 0))
      exact ⟨HF.out.trans HFW.out (fun i hi e => absurd hi (by omega)), Or.inr ⟨HE.out, rfl, HP.out.fr HFW.out (fun e => by have := HPQ.out; omega), HI.out.fr HFW.out (fun e => by have := HPQ.out; omega)⟩⟩

end Go.Proofs.YtojgikaoiegmpaaGreatDoor

/- Package prog: Read, walked. -/
namespace Go.Proofs.YtojgikaoiegmpaaGreatDoor
open Go.RowKit Go.IntWalk
set_option linter.unusedSimpArgs false
set_option linter.unusedVariables false
set_option maxRecDepth 100000

/-- It passes over more than stand behind it, as a bool. -/
def beyb (l : List Ins) (j : Nat) : Bool := match l[j]? with | some i => decide ((l.length : Int) - 1 - j < passI i) | none => false
theorem beyb_iff (l : List Ins) (j : Nat) : beyb l j = true ↔ beyB l j := by
  unfold beyb beyB
  cases h : l[j]? with
  | none =>
    have := List.getElem?_eq_none_iff.1 h
    simp
    omega
  | some i =>
    obtain ⟨hj, e⟩ := List.getElem?_eq_some_iff.1 h
    simp [hj, e]
/-- The instructions that are read. -/
def rdL (bs : List UInt8) (a : Int) (n : Nat) : List Ins := (List.range n).map fun t => (rdR bs a t).1
theorem rdL_len (bs : List UInt8) (a : Int) (n : Nat) : (rdL bs a n).length = n := by simp [rdL]
theorem rdL_get (bs : List UInt8) (a : Int) (n t : Nat) (h : t < (rdL bs a n).length) : (rdL bs a n)[t] = (rdR bs a t).1 := by simp [rdL]
/-- What Read tells: the transaction, the fault. -/
def readN (bs : List UInt8) (n : Nat) (a : Int) : List Ins × Int × Int :=
  match (List.range n).find? (fun k => (rdR bs a k).2.2.1 != 0) with
  | some k => ([], (rdR bs a k).2.2.1, (rdR bs a k).2.2.2)
  | none => if rdAt bs a n < (bs.length : Int) then ([], 4, rdAt bs a n)
    else match (List.range n).find? (fun k => beyb (rdL bs a n) k) with
      | some k => ([], 5, rdAt bs a k)
      | none => (rdL bs a n, 0, 0)
def readP (bs : List UInt8) : List Ins × Int × Int :=
  if 512 < bs.length then ([], 3, 512)
  else if (rCount bs 60 (0, 0, 0)).2.2.1 = 0 then readN bs (rCount bs 60 (0, 0, 0)).1.toNat (rCount bs 60 (0, 0, 0)).2.1
  else ([], (rCount bs 60 (0, 0, 0)).2.2.1, (rCount bs 60 (0, 0, 0)).2.2.2)

theorem find_first (p : Nat → Bool) (n j : Nat) (hj : j < n) (hp : p j = true) (h : ∀ t, t < j → p t = false) : (List.range n).find? p = some j := by
  rw [List.find?_range_eq_some]
  exact ⟨hp, by simpa using hj, fun t ht => by simp [h t ht]⟩
theorem find_none (p : Nat → Bool) (n : Nat) (h : ∀ t, t < n → p t = false) : (List.range n).find? p = none := by
  rw [List.find?_eq_none]
  intro x hx
  simp [h x (List.mem_range.1 hx)]
theorem rCount_rng (bs : List UInt8) (s : Nat × Int × Int) : ∃ n : Nat, (rCount bs 60 s).1 = n ∧ n ≤ 60 := by
  unfold rCount
  split
  · exact ⟨0, rfl, by omega⟩
  · split
    · exact ⟨0, rfl, by omega⟩
    · rename_i n m hx
      refine ⟨n, rfl, ?_⟩
      unfold rdNum at hx
      split at hx
      · cases hx
      · cases hx
      · cases hx
      · split at hx
        · cases hx
        · split at hx
          · cases hx
          · simp at hx
            omega

/-- A row of instructions that fills its room, or none. -/
def InsFull (w : World) (ao : Option Addr) (cap : Nat) (l : List Ins) : Prop := (ao = none ∧ l = [] ∧ cap = 0) ∨ ∃ (q : Nat) (A : Array Value), ao = some ⟨q, 0, none⟩ ∧ cap = l.length ∧ w.heap[q]? = some (.cells A 40 (0, 0)) ∧ A.size = l.length * 6 ∧ ∀ t (h : t < l.length) (j : Nat) (v : Value), (icells l[t]).toList[j]? = some v → A[t * 6 + j]? = some v
theorem InsFull.row {w : World} {ao : Option Addr} {cap : Nat} {l : List Ins} (h : InsFull w ao cap l) : InsRow w ao l := by
  rcases h with ⟨_, rfl, _⟩ | ⟨q, A, rfl, _, h1, _, h3⟩
  · exact Or.inl rfl
  · refine Or.inr ⟨q, 0, rfl, (Array.getElem?_eq_some_iff.1 h1).1, fun j hj t v hv => ?_⟩
    rw [Nat.zero_add, cell_of_row w q (j * 6 + t) _ _ _ h1]
    exact h3 j hj t v hv
theorem InsFull.fr {S : Nat → Prop} {w w' : World} {ao : Option Addr} {cap : Nat} {l : List Ins} (h : InsFull w ao cap l) (hF : Fr S w w') (hS : ∀ k, blk ao k → ¬ S k) : InsFull w' ao cap l := by
  rcases h with ⟨rfl, rfl, rfl⟩ | ⟨q, A, rfl, h0, h1, h2, h3⟩
  · exact Or.inl ⟨rfl, rfl, rfl⟩
  · exact Or.inr ⟨q, A, rfl, h0, (hF.block q (Array.getElem?_eq_some_iff.1 h1).1 (hS q ⟨_, rfl, rfl⟩)).trans h1, h2, h3⟩
theorem InsPre.full {w : World} {q n : Nat} {bs : List UInt8} {a : Int} (h : InsPre w q n (fun t => (rdR bs a t).1) n) : InsFull w (some ⟨q, 0, none⟩) n (rdL bs a n) := by
  obtain ⟨A, h1, h2, h3⟩ := h
  refine Or.inr ⟨q, A, rfl, (rdL_len bs a n).symm, h1, by rw [rdL_len]; exact h2, fun t ht j v hv => ?_⟩
  rw [rdL_len] at ht
  rw [rdL_get] at hv
  exact h3 t ht j v hv

/-- What Read answers. -/
def PReadP (r : List Ins × Int × Int) (w : World) (e : Ending) (w' : World) : Prop :=
  ∃ ao cap, e = .returned (.tuple #[.slice ao r.1.length cap, .agg #[.int .i64 r.2.1, .int .i64 r.2.2]]) ∧ InsFull w' ao cap r.1 ∧ Fr (fun _ => False) w w' ∧ ∀ k, blk ao k → w.heap.size ≤ k

theorem Tryz.infoIns : (Tryz.prog.info? 40).map (fun i => (i.zero, i.size, i.bytes)) = some (some (.agg #[.int .i64 0, .int .i64 0, .int .i64 0, .int .i64 0, .int .i64 0, .string ⟨#[]⟩]), 6, 56) := by kernel_rfl
theorem make_ins (n : Nat) (hn : n ≤ 60) (w : World) : (Instr.makeSlice 22 (.int .i64 (n : Int)) (.int .i64 (n : Int))).run Tryz.prog w = .ok (.slice (some ⟨w.heap.size, 0, none⟩) n n) (w.alloc (.cells (madeCells #[.int .i64 0, .int .i64 0, .int .i64 0, .int .i64 0, .int .i64 0, .string ⟨#[]⟩] (n * 6)) 40)) := by
  obtain ⟨i0, hi, hz0, hz1, hz2⟩ := info_parts Tryz.infoIns
  have := run_makeSlice (P := Tryz.prog) (w := w) 22 40 i0 _ Tryz.underlying22 hi hz0 .i64 .i64 (n : Int) (n : Int) (by omega) (Int.le_refl _) (by rw [hz1]; simp; omega) (by rw [hz2]; omega) (by omega)
  rw [hz1] at this
  simpa [Value.cells] using this

theorem set_two (w : World) (r : Nat) (x y : Int) (h : w.heap[r]? = some (.cells #[.int .i64 0, .int .i64 0] 45 (0, 0))) : ((w.setCell ⟨r, 0, none⟩ (.int .i64 x)).setCell ⟨r, 1, none⟩ (.int .i64 y)).heap[r]? = some (.cells #[.int .i64 x, .int .i64 y] 45 (0, 0)) ∧ Fr (fun i => i = r) w ((w.setCell ⟨r, 0, none⟩ (.int .i64 x)).setCell ⟨r, 1, none⟩ (.int .i64 y)) :=
  ⟨heap_setCell_same _ r 1 _ _ (.int .i64 y) (heap_setCell_same w r 0 _ _ (.int .i64 x) h), ((Fr.refl (fun i => i = r) _).setCell (p := ⟨r, 0, none⟩) (fun _ => rfl) (.int .i64 x)).setCell (p := ⟨r, 1, none⟩) (fun _ => rfl) (.int .i64 y)⟩

set_option maxRecDepth 100000 in
set_option maxHeartbeats 4000000 in
theorem gRead_any (ao : Option Addr) (cap : Nat) (bs : List UInt8) (w : World) (hB : BsAt w ao bs) (hcap0 : ao = none → cap = 0) (hcl : bs.length ≤ cap) (hnb : ∀ k, blk ao k → k < w.heap.size) :
    Calls Tryz.prog 37 #[.slice ao bs.length cap] w (PReadP (readP bs) w) := by
  by_cases h512 : 512 < bs.length
  · have hd : decide ((512 : Int) < (bs.length : Int)) = true := by simp; omega
    have hr : readP bs = ([], 3, 512) := by unfold readP; rw [if_pos h512]
    rw [hr]
    clear hr h512
    go_enter Tryz.func37, Tryz.ntmps37
    go_wp2_with fail
    refine bodyPost_ret (v := .tuple #[.slice none 0 0, .agg #[.int .i64 3, .int .i64 512]]) (by simp [results, Tryz.results37, go_sem]) rfl ?_
    exact ⟨none, 0, rfl, Or.inl ⟨rfl, rfl, rfl⟩, (Fr.refl _ _).alloc _, fun k hk => by obtain ⟨_, e, _⟩ := hk; cases e⟩
  · have hd : decide ((512 : Int) < (bs.length : Int)) = false := by simp; omega
    have hr : readP bs = if (rCount bs 60 (0, 0, 0)).2.2.1 = 0 then readN bs (rCount bs 60 (0, 0, 0)).1.toNat (rCount bs 60 (0, 0, 0)).2.1 else ([], (rCount bs 60 (0, 0, 0)).2.2.1, (rCount bs 60 (0, 0, 0)).2.2.2) := by unfold readP; rw [if_neg h512]
    rw [hr]
    clear hr
    have hl : bs.length ≤ 512 := by omega
    have HO := hideIt (fun W (hF : Fr (fun _ => False) w W) => open_any ao cap bs W (hB.fr hF (fun _ _ _ e => e)) hcap0 (by omega))
    have HGR := hideIt (fun (p q n : Nat) (hn : n ≤ 60) (hpq : p ≠ q) (a : Int) (W : World) (A Z : Array Value) (hA : W.heap[p]? = some (.cells A 61 (0, 0))) (hA2 : A.size = 61) (hZ : W.heap[q]? = some (.cells Z 40 (0, 0))) (hZ2 : Z.size = n * 6) (hF : Fr (fun _ => False) w W) (hp : w.heap.size ≤ p ∧ w.heap.size ≤ q) =>
      gread_any p q n hn hpq ao cap bs a W A Z hA hA2 hZ hZ2 (hB.fr hF (fun _ _ _ e => e)) (fun k hk e => by have := hnb k hk; omega) hcap0 hcl (by omega))
    have hzv := zeroPl
    obtain ⟨ZP, hZP⟩ : ∃ Z, (List.replicate 61 (Value.int .i64 0)).toArray = Z := ⟨_, rfl⟩
    have HZPs := hideIt (show ZP.size = 61 by rw [← hZP]; simp)
    rw [hZP] at hzv
    clear hZP
    have HF0 := hideIt (show Fr (fun _ => False) w (w.alloc (.cells #[.int .i64 0, .int .i64 0] 45)) from (Fr.refl _ _).alloc _)
    obtain ⟨n, hn1, hn2⟩ := rCount_rng bs (0, 0, 0)
    have HN := hideIt hn2
    have HC := hideIt (fun p t ao cap W (h : ROk W p t ao cap bs (0, 0, 0)) => rcount_any p t ao cap bs (0, 0, 0) 60 W h (by omega))
    generalize rCount bs 60 (0, 0, 0) = c at *
    obtain ⟨c1, at_, er, ea⟩ := c
    dsimp only at hn1 HC ⊢
    subst hn1
    rw [Int.toNat_natCast]
    obtain ⟨R, hR⟩ : ∃ R, (if er = 0 then readN bs n (at_ : Int) else ([], er, ea)) = R := ⟨_, rfl⟩
    rw [hR]
    have HR := hideIt hR
    clear hR
    have HL := hideIt hl
    have hmk := make_ins n HN.out
    obtain ⟨Z, hZ⟩ : ∃ Z, madeCells #[.int .i64 0, .int .i64 0, .int .i64 0, .int .i64 0, .int .i64 0, .string ⟨#[]⟩] (n * 6) = Z := ⟨_, rfl⟩
    have HZs := hideIt (show Z.size = n * 6 by rw [← hZ]; exact size_madeCells _ _)
    rw [hZ] at hmk
    clear hZ
    clear hB hcap0 hcl hnb h512 hl hn2
    go_enter Tryz.func37, Tryz.ntmps37
    go_wp2_with fail
    refine Calls.mono (HO.out _ HF0.out) ?_
    rintro e w1 ⟨p1, t1, ao1, cap1, rfl, hR1, hF1, hp1, ht1, hb1⟩
    have HF1 := hideIt (HF0.out.trans hF1 (fun _ _ e => e))
    have HF1r := hideIt hF1
    have HR1 := hideIt (show ROk w1 p1 t1 ao1 cap1 bs (0, 0, 0) from ⟨hR1, by simp⟩)
    have HT1 := hideIt ht1
    clear hR1 hF1 hp1 ht1 hb1 HO HF0
    go_wp2_with fail
    refine Calls.mono (HC.out p1 t1 ao1 cap1 w1 HR1.out) ?_
    rintro e w2 ⟨rfl, hR2, hF2⟩
    have HR2 := hideIt hR2
    have HF2 := hideIt (HF1.out.trans hF2 (fun i hi e => by have := HT1.out; simp at this; omega))
    have hX2 : w2.heap[w.heap.size]? = some (.cells #[.int .i64 0, .int .i64 0] 45 (0, 0)) := (hF2.block _ (by have := HF1r.out.size; simp at this; omega) (by have := HT1.out; simp at this; omega)).trans ((HF1r.out.block _ (by simp) (fun e => e)).trans (heap_new rfl))
    have HX2 := hideIt hX2
    clear hR2 hF2 hX2 HR1 HC HF1 HF1r
    have HF3 := hideIt (HF2.out.alloc (.cells Z 40))
    have HRF := hideIt (rfault_any p1 t1 ao1 cap1 bs (at_, er, ea) (w2.alloc (.cells Z 40)) ⟨HR2.out.1.fr ((Fr.refl (fun _ => False) w2).alloc _) (fun e => e) (fun _ _ e => e), HR2.out.2⟩)
    go_wp2_with fail
    refine Calls.mono HRF.out ?_
    rintro e w3 ⟨rfl, hF3⟩
    have HF3r := hideIt hF3
    have HF3 := hideIt (HF3.out.trans hF3 (fun _ _ e => e))
    have hX3 := (hF3.block w.heap.size (by have := (Array.getElem?_eq_some_iff.1 HX2.out).1; simp; omega) (fun e => e)).trans (heap_old HX2.out)
    have HX3 := hideIt hX3
    have hq0 := cellOfHeap hX3 0 rfl
    have hq1 := cellOfHeap hX3 1 rfl
    have g0 := frozen_of_row w3 w.heap.size 0 _ _ hX3
    have g1 := frozen_of_row w3 w.heap.size 1 _ _ hX3
    have hlt3 := (Array.getElem?_eq_some_iff.1 hX3).1
    have HS2 := hideIt (show w.heap.size < w2.heap.size from (Array.getElem?_eq_some_iff.1 HX2.out).1)
    clear hF3 hX3 HRF HX2
    by_cases her : er = 0
    · subst her
      have HRN := hideIt (show readN bs n (at_ : Int) = R from by rw [← HR.out]; rfl)
      clear HR
      have HZ3 := hideIt ((HF3r.out.block w2.heap.size (by simp) (fun e => e)).trans (heap_new rfl))
      have hlt32 := (Array.getElem?_eq_some_iff.1 HZ3.out).1
      have HF4r := hideIt (show Fr (fun _ => False) w3 ((w3.alloc (.cells #[.int .i64 0, .int .i64 ea] 45)).alloc (.cells ZP 61)) from ((Fr.refl _ w3).alloc _).alloc _)
      have HF4 := hideIt (HF3.out.trans HF4r.out (fun _ _ e => e))
      have HZ4 := hideIt ((HF4r.out.block w2.heap.size hlt32 (fun e => e)).trans HZ3.out)
      have HX4 := hideIt ((HF4r.out.block w.heap.size hlt3 (fun e => e)).trans HX3.out)
      have HA4 := hideIt (show ((w3.alloc (.cells #[.int .i64 0, .int .i64 ea] 45)).alloc (.cells ZP 61)).heap[w3.heap.size + 1]? = some (.cells ZP 61 (0, 0)) from heap_new (by simp))
      have HAT := hideIt (rat_any p1 t1 ao1 cap1 bs (at_, 0, ea) ((w3.alloc (.cells #[.int .i64 0, .int .i64 ea] 45)).alloc (.cells ZP 61)) ⟨HR2.out.1.fr (((Fr.refl (fun _ => False) w2).alloc (.cells Z 40)).trans (HF3r.out.trans HF4r.out (fun _ _ e => e)) (fun _ _ e => e)) (fun e => e) (fun _ _ e => e), HR2.out.2⟩)
      have HG := hideIt (HGR.out (w3.heap.size + 1) w2.heap.size n HN.out (by omega) (at_ : Int) _ ZP Z HA4.out HZPs.out HZ4.out HZs.out HF4.out ⟨by omega, Nat.le_of_lt HS2.out⟩)
      clear HGR HR2 HF3r HF4r HZ3 HZ4 HA4 hq0 hq1 g0 g1 HX3 HF3
      go_wp2_with fail
      refine Calls.mono HAT.out ?_
      rintro e w4 ⟨rfl, rfl⟩
      go_wp2_with fail
      refine Calls.mono HG.out ?_
      rintro e w5 ⟨hF5, hG⟩
      have hX5 := (hF5.block w.heap.size (Array.getElem?_eq_some_iff.1 HX4.out).1 (by have := HS2.out; omega)).trans HX4.out
      have HF5 := hideIt (HF4.out.trans hF5 (fun i hi e => by have := HS2.out; omega))
      have HX5 := hideIt hX5
      have hq0 := cellOfHeap hX5 0 rfl
      have hq1 := cellOfHeap hX5 1 rfl
      have g0 := frozen_of_row w5 w.heap.size 0 _ _ hX5
      have g1 := frozen_of_row w5 w.heap.size 1 _ _ hX5
      have hlt5 := (Array.getElem?_eq_some_iff.1 hX5).1
      clear hX5 hF5 HG HAT HX4 HF4 hmk hzv
      rcases hG with ⟨k, hk, hbefore, hbad, rfl⟩ | ⟨hall, rfl, hP, hI⟩
      · have hRk : R = ([], (rdR bs (at_ : Int) k).2.2.1, (rdR bs (at_ : Int) k).2.2.2) := by
          rw [← HRN.out]
          unfold readN
          rw [find_first _ n k hk (by simpa using hbad) (fun t ht => by simpa using hbefore t ht)]
        generalize (rdR bs (at_ : Int) k).2.2.1 = er at *
        generalize (rdR bs (at_ : Int) k).2.2.2 = fa at *
        have HRk := hideIt hRk
        clear hbefore hRk HRN
        have hne : (er == 0) = false := by simpa using hbad
        have c0 : (w5.alloc (.cells #[.int .i64 er, .int .i64 fa] 45)).cell? ⟨w5.heap.size, 0, none⟩ = some (.int .i64 er) := cellOfHeap (heap_new rfl) 0 rfl
        go_wp2_with fail
        go_region
        go_wp2_with fail
        have hb1 := heap_setCell_same w5 w.heap.size 0 _ _ (.int .i64 er) HX5.out
        have hb2 := heap_setCell_same _ w.heap.size 1 _ _ (.int .i64 fa) hb1
        have hb3 : (((w5.setCell ⟨w.heap.size, 0, none⟩ (.int .i64 er)).setCell ⟨w.heap.size, 1, none⟩ (.int .i64 fa)).alloc (.cells #[.int .i64 er, .int .i64 fa] 45)).heap[w.heap.size]? = _ := heap_old hb2
        have pp0 := cellOfHeap hb3 0 rfl
        have pp1 := cellOfHeap hb3 1 rfl
        clear hb1 hb2 hb3 hq0 hq1 g0 g1
        have HFZ := hideIt (((HF5.out.trans (((Fr.refl (fun i => i = w.heap.size) _).setCell (p := ⟨w.heap.size, 0, none⟩) (fun _ => rfl) (.int .i64 er)).setCell (p := ⟨w.heap.size, 1, none⟩) (fun _ => rfl) (.int .i64 fa)) (fun i hi e => absurd hi (by omega))).alloc (.cells #[.int .i64 er, .int .i64 fa] 45)).drew)
        refine bodyPost_ret (v := .tuple #[.slice none 0 0, .agg #[.int .i64 er, .int .i64 fa]]) (by simp [results, Tryz.results37, go_sem, pp0, pp1]) rfl ?_
        rw [HRk.out]
        exact ⟨none, 0, rfl, Or.inl ⟨rfl, rfl, rfl⟩, HFZ.out, fun k hk => by obtain ⟨_, e, _⟩ := hk; cases e⟩
      · have hnone : (List.range n).find? (fun k => (rdR bs (at_ : Int) k).2.2.1 != 0) = none := find_none _ n (fun t ht => by simpa using hall t ht)
        have HR2 := hideIt (show (if rdAt bs (at_ : Int) n < (bs.length : Int) then (([] : List Ins), (4 : Int), rdAt bs (at_ : Int) n) else match (List.range n).find? (fun k => beyb (rdL bs (at_ : Int) n) k) with | some k => ([], 5, rdAt bs (at_ : Int) k) | none => (rdL bs (at_ : Int) n, 0, 0)) = R by
          rw [← HRN.out]; unfold readN; rw [hnone])
        have HP := hideIt hP
        have hcn := hP.cell n (Nat.le_refl _)
        have hltp : w3.heap.size + 1 < w5.heap.size := by obtain ⟨A, h, _⟩ := hP; exact (Array.getElem?_eq_some_iff.1 h).1
        have HI := hideIt hI.full
        have HPP := hideIt hP
        clear hall hnone HRN hP hI
        have n1 : (n : Int) < (n : Int) + 1 := by omega
        obtain ⟨en, hen⟩ : ∃ en, rdAt bs (at_ : Int) n = en := ⟨_, rfl⟩
        rw [hen] at hcn HR2
        clear hen
        by_cases hend : en < (bs.length : Int)
        · have hRk : R = ([], 4, en) := by rw [← HR2.out, if_pos hend]
          have HRk := hideIt hRk
          clear hRk HR2
          go_wp2_with fail
          obtain ⟨hb3, hfz⟩ := set_two w5 w.heap.size 4 en HX5.out
          have hb4 : (((w5.setCell ⟨w.heap.size, 0, none⟩ (.int .i64 4)).setCell ⟨w.heap.size, 1, none⟩ (.int .i64 en)).alloc (.cells #[.int .i64 0, .int .i64 0] 45)).heap[w.heap.size]? = _ := heap_old hb3
          have pp0 := cellOfHeap hb4 0 rfl
          have pp1 := cellOfHeap hb4 1 rfl
          have HFZ := hideIt ((HF5.out.trans hfz (fun i hi e => absurd hi (by omega))).alloc (.cells #[.int .i64 0, .int .i64 0] 45))
          clear hb3 hb4 hfz hq0 hq1 g0 g1
          refine bodyPost_ret (v := .tuple #[.slice none 0 0, .agg #[.int .i64 4, .int .i64 en]]) (by simp [results, Tryz.results37, go_sem, pp0, pp1]) rfl ?_
          rw [HRk.out]
          exact ⟨none, 0, rfl, Or.inl ⟨rfl, rfl, rfl⟩, HFZ.out, fun k hk => by obtain ⟨_, e, _⟩ := hk; cases e⟩
        · have hd2 : decide (en < (bs.length : Int)) = false := by simpa using hend
          have HR3 := hideIt (show (match (List.range n).find? (fun k => beyb (rdL bs (at_ : Int) n) k) with | some k => (([] : List Ins), (5 : Int), rdAt bs (at_ : Int) k) | none => (rdL bs (at_ : Int) n, 0, 0)) = R by rw [← HR2.out, if_neg hend])
          clear HR2 hend
          have HI6 := hideIt (HI.out.fr ((Fr.refl (fun _ => False) w5).alloc (.cells #[.int .i64 0, .int .i64 0] 45)) (fun _ _ e => e))
          have HBY := hideIt (gbeyond_any (some ⟨w2.heap.size, 0, none⟩) n (rdL bs (at_ : Int) n) (by rw [rdL_len]; have := HN.out; omega) (w5.alloc (.cells #[.int .i64 0, .int .i64 0] 45)) HI6.out.row)
          rw [rdL_len] at HBY
          go_wp2_with fail
          refine Calls.mono HBY.out ?_
          rintro e w6 ⟨hF6, hfirst⟩
          have hX6 := (hF6.block w.heap.size (by simp; omega) (fun e => e)).trans (heap_old HX5.out)
          have HX6 := hideIt hX6
          have HP6 := hideIt (HPP.out.fr (((Fr.refl (fun _ => False) w5).alloc (.cells #[.int .i64 0, .int .i64 0] 45)).trans hF6 (fun _ _ e => e)) (fun e => e))
          have HI7 := hideIt (HI6.out.fr hF6 (fun _ _ e => e))
          have HF6 := hideIt ((HF5.out.alloc (.cells #[.int .i64 0, .int .i64 0] 45)).trans hF6 (fun _ _ e => e))
          clear hq0 hq1 g0 g1
          have hq0 := cellOfHeap hX6 0 rfl
          have hq1 := cellOfHeap hX6 1 rfl
          have g0 := frozen_of_row w6 w.heap.size 0 _ _ hX6
          have g1 := frozen_of_row w6 w.heap.size 1 _ _ hX6
          have hlt6 := (Array.getElem?_eq_some_iff.1 hX6).1
          clear hX6 hF6 HBY HI6 HPP HF5 HX5 hlt5 hcn hltp
          rcases hfirst with ⟨j, hj, rfl, hbj, hbt⟩ | ⟨rfl, hbt⟩
          · have hRk : R = ([], 5, rdAt bs (at_ : Int) j) := by
              rw [← HR3.out, find_first _ n j hj ((beyb_iff _ _).2 hbj) (fun t ht => Bool.eq_false_iff.2 (fun e => hbt t ht ((beyb_iff _ _).1 e)))]
            have hcj := HP6.out.cell j (Nat.le_of_lt hj)
            generalize rdAt bs (at_ : Int) j = fa at *
            have HRk := hideIt hRk
            have hj1 : (j : Int) < (n : Int) + 1 := by omega
            have hj0 : (0 : Int) ≤ (j : Int) := by omega
            have hltp6 : w3.heap.size + 1 < w6.heap.size := by obtain ⟨A, h, _⟩ := HP6.out; exact (Array.getElem?_eq_some_iff.1 h).1
            clear hbt hbj hRk HR3
            go_wp2_with fail
            go_region
            go_wp2_with fail
            obtain ⟨hb3, hfz⟩ := set_two w6 w.heap.size 5 fa HX6.out
            have pp0 := cellOfHeap hb3 0 rfl
            have pp1 := cellOfHeap hb3 1 rfl
            have HFZ := hideIt ((HF6.out.trans hfz (fun i hi e => absurd hi (by omega))).drew)
            clear hb3 hfz hq0 hq1 g0 g1
            refine bodyPost_ret (v := .tuple #[.slice none 0 0, .agg #[.int .i64 5, .int .i64 fa]]) (by simp [results, Tryz.results37, go_sem, pp0, pp1]) rfl ?_
            rw [HRk.out]
            exact ⟨none, 0, rfl, Or.inl ⟨rfl, rfl, rfl⟩, HFZ.out, fun k hk => by obtain ⟨_, e, _⟩ := hk; cases e⟩
          · have hRk : R = (rdL bs (at_ : Int) n, 0, 0) := by
              rw [← HR3.out, find_none _ n (fun t ht => Bool.eq_false_iff.2 (fun e => hbt t ht ((beyb_iff _ _).1 e)))]
            have HRk := hideIt hRk
            clear hbt hRk HR3
            go_wp2_with fail
            obtain ⟨hb3, hfz⟩ := set_two w6 w.heap.size 0 0 HX6.out
            have pp0 := cellOfHeap hb3 0 rfl
            have pp1 := cellOfHeap hb3 1 rfl
            have HFZ := hideIt (HF6.out.trans hfz (fun i hi e => absurd hi (by omega)))
            have HIZ := hideIt (HI7.out.fr hfz (fun k hk e => by
              obtain ⟨_, e1, e2⟩ := hk
              obtain rfl := Option.some.inj e1
              have := HS2.out
              simp only at e2
              omega))
            clear hb3 hfz hq0 hq1 g0 g1
            refine bodyPost_ret (v := .tuple #[.slice (some ⟨w2.heap.size, 0, none⟩) n n, .agg #[.int .i64 0, .int .i64 0]]) (by simp [results, Tryz.results37, go_sem, pp0, pp1]) rfl ?_
            rw [HRk.out]
            refine ⟨some ⟨w2.heap.size, 0, none⟩, n, by rw [rdL_len], HIZ.out, HFZ.out, fun k hk => ?_⟩
            obtain ⟨_, e1, e2⟩ := hk
            obtain rfl := Option.some.inj e1
            have := HS2.out
            simp only at e2
            omega
    · have hne : (er == 0) = false := by simpa using her
      go_wp2_with fail
      have c0 : (w3.alloc (.cells #[.int .i64 er, .int .i64 ea] 45)).cell? ⟨w3.heap.size, 0, none⟩ = some (.int .i64 er) := cellOfHeap (heap_new rfl) 0 rfl
      go_region
      go_wp2_with fail
      have hb1 := heap_setCell_same w3 w.heap.size 0 _ _ (.int .i64 er) HX3.out
      have hb2 := heap_setCell_same _ w.heap.size 1 _ _ (.int .i64 ea) hb1
      have hb3 : (((w3.setCell ⟨w.heap.size, 0, none⟩ (.int .i64 er)).setCell ⟨w.heap.size, 1, none⟩ (.int .i64 ea)).alloc (.cells #[.int .i64 er, .int .i64 ea] 45)).heap[w.heap.size]? = _ := heap_old hb2
      have pp0 := cellOfHeap hb3 0 rfl
      have pp1 := cellOfHeap hb3 1 rfl
      clear hb1 hb2 hb3 hq0 hq1 g0 g1
      have HFZ := hideIt (((HF3.out.trans (((Fr.refl (fun i => i = w.heap.size) _).setCell (p := ⟨w.heap.size, 0, none⟩) (fun _ => rfl) (.int .i64 er)).setCell (p := ⟨w.heap.size, 1, none⟩) (fun _ => rfl) (.int .i64 ea)) (fun i hi e => absurd hi (by omega))).alloc (.cells #[.int .i64 er, .int .i64 ea] 45)).drew)
      refine bodyPost_ret (v := .tuple #[.slice none 0 0, .agg #[.int .i64 er, .int .i64 ea]]) (by simp [results, Tryz.results37, go_sem, pp0, pp1]) rfl ?_
      have hR : R = ([], er, ea) := by rw [← HR.out, if_neg her]
      rw [hR]
      exact ⟨none, 0, rfl, Or.inl ⟨rfl, rfl, rfl⟩, HFZ.out, fun k hk => by obtain ⟨_, e, _⟩ := hk; cases e⟩

end Go.Proofs.YtojgikaoiegmpaaGreatDoor
