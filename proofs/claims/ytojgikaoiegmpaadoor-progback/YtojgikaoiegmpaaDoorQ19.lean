/- ProgBack, part 19 of the road: what the program's functions do, each by its own walk. -/
import Derived.Test.YtojgikaoiegmpaaDoorQ17
import Derived.Test.YtojgikaoiegmpaaDoorQ15
import Derived.Test.YtojgikaoiegmpaaDoorQ18
import Derived.Test.YtojgikaoiegmpaaDoorQ6

/- Package prog: transactions' bytes are read as they: the law's walk. -/
namespace Go.Proofs.YtojgikaoiegmpaaDoor
open Go.RowKit Go.IntWalk
set_option linter.unusedSimpArgs false
set_option linter.unusedVariables false
set_option maxRecDepth 100000

theorem bs_take {w : World} {ao : Option Addr} {bs : List UInt8} (h : BsAt w ao bs) (n : Nat) : BsAt w ao (bs.take n) := by
  rcases h with ⟨rfl, rfl⟩ | ⟨b, off, rfl, hc⟩
  · exact Or.inl ⟨rfl, by simp⟩
  · refine Or.inr ⟨b, off, rfl, fun j hj => ?_⟩
    rw [List.length_take] at hj
    rw [List.getElem_take]
    exact hc j (by omega)
theorem rangeAt_of {w : World} {b : Nat} {V : Array Value} {t : TypeId} (h : w.heap[b]? = some (.cells V t (0, 0))) : w.rangeAt b 0 V.toList := fun j v hv => by
  rw [Nat.zero_add, cell_of_row _ _ _ _ _ _ h]
  simpa using hv
theorem grdID (w : World) (op : BinOp) (x y : Operand) (A B : Array Value) : (eqGuard op 30 x y (.agg A) (.agg B)).run Tryd.prog w = .ok () w := run_eqGuard_agg w op 30 x y _ _ (by kernel_rfl)

theorem row_cap {w : World} {e : TypeId} {ao : Option Addr} {cap : Nat} {bs : List UInt8} (h : Row w e ao cap bs) : bs.length ≤ cap := by
  rcases h.2 with ⟨e1, e2⟩ | ⟨g, c, cur, e1, _, _, e2, _⟩
  · injection e1 with _ _ e3; omega
  · injection e1 with _ _ e3; omega
/-- A copy of bytes, and one more. -/
theorem app_one0 (w : World) (ao : Option Addr) (cap : Nat) (bs : List UInt8) (hrow : Row w 5 ao cap bs) (hb : bs.length ≤ 100000) (hlow : ∀ k, blk ao k → k < w.heap.size) :
    ∃ ao' cap' w', (Builtin.append_ #[23, 23] 23 #[.slice ao bs.length cap, .slice (some ⟨w.heap.size, 0, none⟩) 1 1]).run Tryd.prog (w.alloc (.cells #[.int .u8 0] 5)) = .ok (.slice ao' (bs.length + 1) cap') w' ∧ BsAt w' ao' (bs ++ [0]) ∧ (ao' = none → cap' = 0) ∧ bs.length + 1 ≤ cap' ∧ (∀ k, blk ao' k → k < w'.heap.size) ∧ Fr (blk ao) w w' := by
  have hF : Fr (blk ao) w (w.alloc (.cells #[.int .u8 0] 5)) := (Fr.refl _ w).alloc _
  have hsrc := (bs_new w [0] #[.int .u8 0] (by rfl) (by decide)).src 1
  obtain ⟨ao', cap', w', h1, h2, h3, h4⟩ := app_row (w.alloc (.cells #[.int .u8 0] 5)) 23 ao cap bs [0] (hrow.alloc _) _ hsrc (by simp; omega)
  refine ⟨ao', cap', w', h1, h2.bs, h2.cap0, ?_, fun k hk => ?_, hF.trans h3 (fun _ _ e => e)⟩
  · have := row_cap h2
    simpa using this
  · have hs := h3.size
    rcases h4 with e | e
    · rw [e] at hk
      have := hlow k hk
      simp at hs
      omega
    · exact h2.lt hk

set_option maxRecDepth 100000 in
set_option maxHeartbeats 16000000 in
theorem pback_any (HRP : ∀ w, Calls Tryd.prog 17 #[.string ⟨#[120]⟩, .int .i64 64] w fun e w' => e = .returned (.string S64) ∧ Fr (fun _ => False) w w')
    (ao : Option Addr) (cap : Nat) (l : List Ins) (bo : Option Addr) (cb : Nat) (bs : List UInt8) (x : Int) (w : World) (hA : InsRow w ao l) (hl : l.length ≤ 9223372036854775807)
    (hB : BsAt w bo bs) (hcb0 : bo = none → cb = 0) (hcb : bs.length ≤ cb) (hnb : ∀ k, blk bo k → k < w.heap.size) (hG : Glob w) :
    Calls Tryd.prog 3 #[.slice ao l.length cap, .slice bo bs.length cb, .int .i64 x] w fun e w' => e = .returned (.bool true) ∧ Fr (fun _ => False) w w' := by
  have HKN := hideIt (pknown_any HRP)
  have HA := hideIt (fun W (hF : Fr (fun _ => False) w W) => show InsRow W ao l from hA.fr hF (fun _ _ _ e => e))
  have HB := hideIt (fun W (hF : Fr (fun _ => False) w W) => show BsAt W bo bs from hB.fr hF (fun _ _ _ e => e))
  have HBL := hideIt (fun W (hF : Fr (fun _ => False) w W) => bigprog_any ao cap l hl W (HA.out W hF))
  have HRB := hideIt (fun W (hF : Fr (fun _ => False) w W) => gRead_any bo cb bs W (HB.out W hF) hcb0 hcb (fun k hk => Nat.lt_of_lt_of_le (hnb k hk) hF.size))
  have HBK := hideIt (readP_back bs)
  have HG := hideIt hG
  obtain ⟨⟨L, er2, ea2⟩, hrb⟩ : ∃ r, readP bs = r := ⟨_, rfl⟩
  rw [hrb] at HRB HBK
  unfold PReadP at HRB
  dsimp only at HRB HBK
  clear hA hB hcb0 hcb hnb hG hl hrb HRP
  go_enter Tryd.func3, Tryd.ntmps3
  go_wp2_with fail
  refine Calls.mono (HKN.out _) ?_
  rintro e w1 ⟨rfl, hF1⟩
  have HF1 := hideIt hF1
  clear hF1 HKN
  go_wp2_with fail
  refine Calls.mono (HBL.out _ HF1.out) ?_
  rintro e w1' ⟨b1, rfl, hb1, rfl⟩
  have HB1 := hideIt hb1
  clear hb1 HBL
  cases b1 with
  | true =>
    go_wp2_with fail
    go_ret
    exact ⟨rfl, HF1.out⟩
  | false =>
    have hl70 : l.length ≤ 70 := by have := HB1.out; simpa using this
    clear HB1
    by_cases h600 : 600 < bs.length
    · have hd : decide ((600 : Int) < (bs.length : Int)) = true := by simp; omega
      go_wp2_with fail
      go_ret
      exact ⟨rfl, HF1.out⟩
    · have hd : decide ((600 : Int) < (bs.length : Int)) = false := by simp; omega
      have HYL := hideIt (gbts ao cap l (by omega) w1' (HA.out w1' HF1.out))
      have HID := hideIt (fun W (hF : Fr (fun _ => False) w W) => gid_any ao cap l (by omega) W (HA.out W hF) (HG.out.fr0 hF))
      have HPC := hideIt (show (chkF l).1 = 0 → progC l = progB l from fun h => by unfold progC; rw [if_pos h])
      have HVV := hideIt (show (chkF l).1 = 0 → (bv (Sha.sum (progB l))).toArray = idV l from fun h => by unfold idV; rw [if_pos h])
      have HZ := hideIt (@chkF_zero l)
      have HWR := hideIt (readP_written l)
      have HMO := hideIt (fun h => readP_more l h 0)
      have HCU := hideIt (readP_cut l)
      obtain ⟨er, her⟩ : ∃ c, (chkF l).1 = c := ⟨_, rfl⟩
      rw [her] at HYL HID HPC HVV HZ HWR HMO HCU
      obtain ⟨V, hV⟩ : ∃ V, idV l = V := ⟨_, rfl⟩
      have hV32 : V.size = 32 := by rw [← hV]; exact idV_size l
      have HV1 := hideIt (show V.all (·.oneCell') = true by rw [← hV]; exact idV_one l)
      rw [hV] at HID HVV
      have HIN := hideIt (idInfo V hV32)
      clear hV her
      go_wp2_with fail
      refine Calls.mono HYL.out ?_
      rintro e w2 ⟨a2, c2, rfl, hf2, hF2, _⟩
      have HX2 := hideIt hf2
      have HF2 := hideIt (HF1.out.trans hF2 (fun _ _ e => e))
      clear hf2 hF2 HYL HF1
      go_wp2_with fail
      refine Calls.mono (HID.out _ HF2.out) ?_
      rintro e w3 ⟨rfl, hF3⟩
      have HX3 := hideIt (HX2.out.fr hF3 (fun _ _ e => e))
      have HF3 := hideIt (HF2.out.trans hF3 (fun _ _ e => e))
      have HT := hideIt (thereNew (w3.alloc (.cells zA 30)) w3.heap.size zA 30 (heap_new rfl) V.size (by rw [hV32]; rfl))
      have HW := hideIt (fun W (h : W = (w3.alloc (.cells zA 30)).setCells w3.heap.size 0 V.toList) => show W.heap[w3.heap.size]? = some (.cells V 30 (0, 0)) ∧ Fr (fun _ => False) w3 W by
        subst h
        have hS := store_over (V := V) (heap_new (w := w3) (o := .cells zA 30) rfl) (by rw [hV32]; rfl)
        exact ⟨hS.1, ((Fr.refl (fun _ => False) w3).alloc _).trans hS.2 (fun i hi e => by omega)⟩)
      clear hF3 HID HX2 HF2
      by_cases he : er = 0
      · subst he
        have HPC2 := hideIt (HPC.out rfl)
        have hz := HZ.out rfl
        have HRW := hideIt (HWR.out rfl)
        have HLN := hideIt hz.2.2.2.2
        have HPOS := hideIt (show 1 ≤ (progB l).length by rw [progB_len]; omega)
        have HVX := hideIt (HVV.out rfl)
        have HMX := hideIt (HMO.out rfl)
        have HCX := hideIt (HCU.out rfl)
        have HL60 := hideIt hz.2.1
        clear hz HPC HVV HMO HCU HWR HZ
        go_wp2_with (first | (refine store_absG rfl 30 (.tmp 10) (.tmp 39) rfl w3.heap.size 0 V rfl rfl HT.out HIN.out HV1.out ?_; intro W hW; obtain ⟨hV4, hF4⟩ := HW.out W hW; have HV4 := hideIt hV4; have HX4 := hideIt (HX3.out.fr hF4 (fun _ _ e => e)); have HF4 := hideIt (HF3.out.trans hF4 (fun _ _ e => e)); clear hV4 hF4 hW HW))
        rw [HPC2.out] at HX4
        rw [HPC2.out]
        have hpos := HPOS.out
        clear HX3 HF3 HT HPC2 HPOS
        generalize progB l = xs at *
        have HRX := hideIt (gRead_any a2 c2 xs W HX4.out.bs (full_cap0 HX4.out) (full_cap HX4.out) (fun k hk => HX4.out.lt hk))
        rw [HRW.out] at HRX
        unfold PReadP at HRX
        dsimp only at HRX
        go_wp2_with fail
        refine Calls.mono HRX.out ?_
        rintro e w5 ⟨a3, c3, rfl, hI5, hF5, _⟩
        obtain ⟨f, hf⟩ : ∃ f, w5.heap.size = f := ⟨_, rfl⟩
        have hFx := hF5.alloc (.cells #[.int .i64 0, .int .i64 0] 34)
        have HI9 := hideIt (hI5.row.fr ((Fr.refl (fun _ => False) w5).alloc (.cells #[.int .i64 0, .int .i64 0] 34)) (fun _ _ _ e => e))
        have HX9 := hideIt (HX4.out.fr hFx (fun _ _ e => e))
        have HV9 := hideIt ((hFx.block w3.heap.size (Array.getElem?_eq_some_iff.1 HV4.out).1 (fun e => e)).trans HV4.out)
        have HD9 := hideIt (show (w5.alloc (.cells #[.int .i64 0, .int .i64 0] 34)).heap[f]? = some (.cells #[.int .i64 0, .int .i64 0] 34 (0, 0)) by rw [← hf]; exact heap_alloc_new w5 _)
        have HF9 := hideIt (HF4.out.trans hFx (fun _ _ e => e))
        clear hI5 hF5 hFx HX4 HV4 HF4 HRX
        go_wp2_with fail
        try rw [hf]
        generalize w5.alloc (.cells #[.int .i64 0, .int .i64 0] 34) = w9 at *
        clear hf
        obtain ⟨idb, hidb⟩ : ∃ q, w3.heap.size = q := ⟨_, rfl⟩
        rw [hidb] at HV9 ⊢
        clear hidb
        have hx512 : decide ((512 : Int) < (xs.length : Int)) = false := by have := HLN.out; simp; omega
        have hx0 : ((xs.length : Int) == 0) = false := beq_eq_false_iff_ne.2 (by omega)
        have HNE := hideIt (fun W => show (binOp .neq 30 (.agg V) (.agg V)).run Tryd.prog W = .ok (.bool false) W by
          rw [← HVX.out, ids_neq W (Sha.sum xs) (Sha.sum xs) (sum_len _) (sum_len _)]
          simp)
        have HNG := hideIt (fun W (p q : Operand) => grdID W .neq p q V V)
        refine wp_region_held_drew (S := (fun w0 => w0.cell? ⟨f, 0, none⟩ = some (.int .i64 0) ∧ w0.rangeAt idb 0 V.toList)) (by kernel_rfl) ?_ (fun hHeld => ?_)
        · exact ⟨cellOfHeap HD9.out 0 rfl, rangeAt_of HV9.out⟩
        refine wpAnyH_take (i := 0) (v := ?v1) rfl (by kernel_rfl) (by kernel_rfl) (by kernel_rfl) (fun _ _ _ h => h) (Or.inl ⟨by kernel_rfl, ?hy1⟩) (by assumption) ?rest1
        case hy1 => intro w hSw; (try dsimp only at hSw); go_simp; (try with_reducible rfl)
        try simp only [Act.put, List.getElem_toArray, List.getElem_cons_zero, List.getElem_cons_succ, List.setIfInBounds_toArray, List.set_cons_zero, List.set_cons_succ]
        refine wpAnyH_take (i := 1) (v := ?v2) rfl (by kernel_rfl) (by kernel_rfl) (by kernel_rfl) (fun _ _ _ h => h) (Or.inl ⟨by kernel_rfl, ?hy2⟩) (by assumption) ?rest2
        case hy2 => intro w hSw; (try dsimp only at hSw); go_simp; (try with_reducible rfl)
        try simp only [Act.put, List.getElem_toArray, List.getElem_cons_zero, List.getElem_cons_succ, List.setIfInBounds_toArray, List.set_cons_zero, List.set_cons_succ]
        refine wpAnyH_take (i := 2) (v := ?v3) rfl (by kernel_rfl) (by kernel_rfl) (by kernel_rfl) (fun _ _ _ h => h) (Or.inl ⟨by kernel_rfl, ?hy3⟩) (by assumption) ?rest3
        case hy3 => intro w hSw; (try dsimp only at hSw); go_simp; (try with_reducible rfl)
        try simp only [Act.put, List.getElem_toArray, List.getElem_cons_zero, List.getElem_cons_succ, List.setIfInBounds_toArray, List.set_cons_zero, List.set_cons_succ]
        refine wpAnyH_take (i := 3) (v := ?v4) rfl (by kernel_rfl) (by kernel_rfl) (by kernel_rfl) (fun _ _ _ h => h) (Or.inl ⟨by kernel_rfl, ?hy4⟩) (by assumption) ?rest4
        case hy4 => intro w hSw; (try dsimp only at hSw); go_simp; (try with_reducible rfl)
        try simp only [Act.put, List.getElem_toArray, List.getElem_cons_zero, List.getElem_cons_succ, List.setIfInBounds_toArray, List.set_cons_zero, List.set_cons_succ]
        refine wpAnyH_take (i := 4) (v := ?v5) rfl (by kernel_rfl) (by kernel_rfl) (by kernel_rfl) (fun _ _ _ h => h) (Or.inl ⟨by kernel_rfl, ?hy5⟩) (by assumption) ?rest5
        case hy5 => intro w hSw; (try dsimp only at hSw); go_simp; (try with_reducible rfl)
        try simp only [Act.put, List.getElem_toArray, List.getElem_cons_zero, List.getElem_cons_succ, List.setIfInBounds_toArray, List.set_cons_zero, List.set_cons_succ]
        refine wpAnyH_take (i := 5) (v := ?v6) rfl (by kernel_rfl) (by kernel_rfl) (by kernel_rfl) (fun _ _ _ h => h) (Or.inl ⟨by kernel_rfl, ?hy6⟩) (by assumption) ?rest6
        case hy6 => intro w hSw; (try dsimp only at hSw); go_simp; (try with_reducible rfl)
        try simp only [Act.put, List.getElem_toArray, List.getElem_cons_zero, List.getElem_cons_succ, List.setIfInBounds_toArray, List.set_cons_zero, List.set_cons_succ]
        refine wpAnyH_ready (rs := [6]) (by kernel_rfl) (by simp) ?_
        refine AllReadyH.cons rfl (fun K hK => ?_) AllReadyH.nil
        go_simp
        refine Calls.mono (ksame_true a3 ao c3 cap l HL60.out _ (HI9.out.fr ((Fr.refl (fun _ => False) _).drew) (fun _ _ _ e => e)) (HA.out _ (HF9.out.trans ((Fr.refl (fun _ => False) _).drew) (fun _ _ e => e)))) ?_
        rintro e w10 ⟨rfl, hF⟩
        have hFd : Fr (fun _ => False) w9 w10 := (Fr.refl _ _).drew.trans hF (fun _ _ e => e)
        have HI10 := hideIt (HI9.out.fr hFd (fun _ _ _ e => e))
        have HX10 := hideIt (HX9.out.fr hFd (fun _ _ e => e))
        have HV10 := hideIt ((hFd.block _ (Array.getElem?_eq_some_iff.1 HV9.out).1 (fun e => e)).trans HV9.out)
        have HD10 := hideIt ((hFd.block _ (Array.getElem?_eq_some_iff.1 HD9.out).1 (fun e => e)).trans HD9.out)
        have HF10 := hideIt (HF9.out.trans hFd (fun _ _ e => e))
        clear hF hFd HI9 HX9 HV9 HD9 HF9
        refine hK.out _ _ ?_ (fun hHeld => ?_)
        · exact ⟨cellOfHeap HD10.out 0 rfl, rangeAt_of HV10.out⟩
        clear hK K
        try simp only [Act.put, List.getElem_toArray, List.getElem_cons_zero, List.getElem_cons_succ, List.setIfInBounds_toArray, List.set_cons_zero, List.set_cons_succ]
        refine wpAnyH_take (i := 7) (v := ?v7) rfl (by kernel_rfl) (by kernel_rfl) (by kernel_rfl) (fun _ _ _ h => h) (Or.inl ⟨by kernel_rfl, ?hy7⟩) (by assumption) ?rest7
        case hy7 => intro w hSw; (try dsimp only at hSw); go_simp; (try with_reducible rfl)
        try simp only [Act.put, List.getElem_toArray, List.getElem_cons_zero, List.getElem_cons_succ, List.setIfInBounds_toArray, List.set_cons_zero, List.set_cons_succ]
        refine wpAnyH_take (i := 8) (v := ?v8) rfl (by kernel_rfl) (by kernel_rfl) (by kernel_rfl) (fun _ _ _ h => h) (Or.inl ⟨by kernel_rfl, ?hy8⟩) (by assumption) ?rest8
        case hy8 => intro w hSw; (try dsimp only at hSw); go_simp; (try with_reducible rfl)
        try simp only [Act.put, List.getElem_toArray, List.getElem_cons_zero, List.getElem_cons_succ, List.setIfInBounds_toArray, List.set_cons_zero, List.set_cons_succ]
        refine wpAnyH_take (i := 9) (v := ?v9) rfl (by kernel_rfl) (by kernel_rfl) (by kernel_rfl) (fun _ _ _ h => h) (Or.inl ⟨by kernel_rfl, ?hy9⟩) (by assumption) ?rest9
        case hy9 => intro w hSw; (try dsimp only at hSw); go_simp; (try with_reducible rfl)
        try simp only [Act.put, List.getElem_toArray, List.getElem_cons_zero, List.getElem_cons_succ, List.setIfInBounds_toArray, List.set_cons_zero, List.set_cons_succ]
        refine wpAnyH_take (i := 10) (v := ?v10) rfl (by kernel_rfl) (by kernel_rfl) (by kernel_rfl) (fun _ _ _ h => h) (Or.inl ⟨by kernel_rfl, ?hy10⟩) (by assumption) ?rest10
        case hy10 => intro w hSw; (try dsimp only at hSw); go_simp; (try with_reducible rfl)
        try simp only [Act.put, List.getElem_toArray, List.getElem_cons_zero, List.getElem_cons_succ, List.setIfInBounds_toArray, List.set_cons_zero, List.set_cons_succ]
        refine wpAnyH_take (i := 11) (v := ?v11) rfl (by kernel_rfl) (by kernel_rfl) (by kernel_rfl) (fun _ _ _ h => h) (Or.inl ⟨by kernel_rfl, ?hy11⟩) (by assumption) ?rest11
        case hy11 => intro w hSw; (try dsimp only at hSw); go_simp; (try with_reducible rfl)
        try simp only [Act.put, List.getElem_toArray, List.getElem_cons_zero, List.getElem_cons_succ, List.setIfInBounds_toArray, List.set_cons_zero, List.set_cons_succ]
        refine wpAnyH_ready (rs := [12]) (by kernel_rfl) (by simp) ?_
        refine AllReadyH.cons rfl (fun K hK => ?_) AllReadyH.nil
        go_simp
        refine Calls.mono (gsame_tr a3 ao c3 cap l (by have := HL60.out; omega) _ HI10.out (HA.out _ HF10.out)) ?_
        rintro e w11 ⟨rfl, hF⟩
        have hFd : Fr (fun _ => False) w10 w11 := hF
        have HI11 := hideIt (HI10.out.fr hFd (fun _ _ _ e => e))
        have HX11 := hideIt (HX10.out.fr hFd (fun _ _ e => e))
        have HV11 := hideIt ((hFd.block _ (Array.getElem?_eq_some_iff.1 HV10.out).1 (fun e => e)).trans HV10.out)
        have HD11 := hideIt ((hFd.block _ (Array.getElem?_eq_some_iff.1 HD10.out).1 (fun e => e)).trans HD10.out)
        have HF11 := hideIt (HF10.out.trans hFd (fun _ _ e => e))
        clear hF hFd HI10 HX10 HV10 HD10 HF10
        refine hK.out _ _ ?_ (fun hHeld => ?_)
        · exact ⟨cellOfHeap HD11.out 0 rfl, rangeAt_of HV11.out⟩
        clear hK K
        try simp only [Act.put, List.getElem_toArray, List.getElem_cons_zero, List.getElem_cons_succ, List.setIfInBounds_toArray, List.set_cons_zero, List.set_cons_succ]
        refine wpAnyH_take (i := 13) (v := ?v12) rfl (by kernel_rfl) (by kernel_rfl) (by kernel_rfl) (fun _ _ _ h => h) (Or.inl ⟨by kernel_rfl, ?hy12⟩) (by assumption) ?rest12
        case hy12 => intro w hSw; (try dsimp only at hSw); go_simp; (try with_reducible rfl)
        try simp only [Act.put, List.getElem_toArray, List.getElem_cons_zero, List.getElem_cons_succ, List.setIfInBounds_toArray, List.set_cons_zero, List.set_cons_succ]
        refine wpAnyH_take (i := 14) (v := ?v13) rfl (by kernel_rfl) (by kernel_rfl) (by kernel_rfl) (fun _ _ _ h => h) (Or.inl ⟨by kernel_rfl, ?hy13⟩) (by assumption) ?rest13
        case hy13 => intro w hSw; (try dsimp only at hSw); go_simp; (try with_reducible rfl)
        try simp only [Act.put, List.getElem_toArray, List.getElem_cons_zero, List.getElem_cons_succ, List.setIfInBounds_toArray, List.set_cons_zero, List.set_cons_succ]
        refine wpAnyH_take (i := 15) (v := ?v14) rfl (by kernel_rfl) (by kernel_rfl) (by kernel_rfl) (fun _ _ _ h => h) (Or.inl ⟨by kernel_rfl, ?hy14⟩) (by assumption) ?rest14
        case hy14 => intro w hSw; (try dsimp only at hSw); go_simp; (try with_reducible rfl)
        try simp only [Act.put, List.getElem_toArray, List.getElem_cons_zero, List.getElem_cons_succ, List.setIfInBounds_toArray, List.set_cons_zero, List.set_cons_succ]
        refine wpAnyH_take (i := 16) (v := ?v15) rfl (by kernel_rfl) (by kernel_rfl) (by kernel_rfl) (fun _ _ _ h => h) (Or.inl ⟨by kernel_rfl, ?hy15⟩) (by assumption) ?rest15
        case hy15 => intro w hSw; (try dsimp only at hSw); go_simp; (try with_reducible rfl)
        try simp only [Act.put, List.getElem_toArray, List.getElem_cons_zero, List.getElem_cons_succ, List.setIfInBounds_toArray, List.set_cons_zero, List.set_cons_succ]
        refine wpAnyH_take (i := 17) (v := ?v16) rfl (by kernel_rfl) (by kernel_rfl) (by kernel_rfl) (fun _ _ _ h => h) (Or.inl ⟨by kernel_rfl, ?hy16⟩) (by assumption) ?rest16
        case hy16 => intro w hSw; (try dsimp only at hSw); go_simp; (try with_reducible rfl)
        try simp only [Act.put, List.getElem_toArray, List.getElem_cons_zero, List.getElem_cons_succ, List.setIfInBounds_toArray, List.set_cons_zero, List.set_cons_succ]
        refine wpAnyH_take (i := 18) (v := (.bool false)) rfl (by kernel_rfl) (by kernel_rfl) (by kernel_rfl) (fun _ _ _ h => h) (Or.inl ⟨by kernel_rfl, fun w0 hSw => by go_simp⟩) (by assumption) ?_
        try simp only [Act.put, List.getElem_toArray, List.getElem_cons_zero, List.getElem_cons_succ, List.setIfInBounds_toArray, List.set_cons_zero, List.set_cons_succ]
        refine wpAnyH_take (i := 19) (v := ?v17) rfl (by kernel_rfl) (by kernel_rfl) (by kernel_rfl) (fun _ _ _ h => h) (Or.inl ⟨by kernel_rfl, ?hy17⟩) (by assumption) ?rest17
        case hy17 => intro w hSw; (try dsimp only at hSw); go_simp; (try with_reducible rfl)
        try simp only [Act.put, List.getElem_toArray, List.getElem_cons_zero, List.getElem_cons_succ, List.setIfInBounds_toArray, List.set_cons_zero, List.set_cons_succ]
        refine wpAnyH_take (i := 20) (v := ?v18) rfl (by kernel_rfl) (by kernel_rfl) (by kernel_rfl) (fun _ _ _ h => h) (Or.inl ⟨by kernel_rfl, ?hy18⟩) (by assumption) ?rest18
        case hy18 => intro w hSw; (try dsimp only at hSw); go_simp; (try with_reducible rfl)
        try simp only [Act.put, List.getElem_toArray, List.getElem_cons_zero, List.getElem_cons_succ, List.setIfInBounds_toArray, List.set_cons_zero, List.set_cons_succ]
        refine wpAnyH_take (i := 21) (v := ?v19) rfl (by kernel_rfl) (by kernel_rfl) (by kernel_rfl) (fun _ _ _ h => h) (Or.inl ⟨by kernel_rfl, ?hy19⟩) (by assumption) ?rest19
        case hy19 => intro w hSw; (try dsimp only at hSw); go_simp; (try with_reducible rfl)
        try simp only [Act.put, List.getElem_toArray, List.getElem_cons_zero, List.getElem_cons_succ, List.setIfInBounds_toArray, List.set_cons_zero, List.set_cons_succ]
        refine wpAnyH_take (i := 22) (v := ?v20) rfl (by kernel_rfl) (by kernel_rfl) (by kernel_rfl) (fun _ _ _ h => h) (Or.inl ⟨by kernel_rfl, ?hy20⟩) (by assumption) ?rest20
        case hy20 => intro w hSw; (try dsimp only at hSw); go_simp; (try with_reducible rfl)
        try simp only [Act.put, List.getElem_toArray, List.getElem_cons_zero, List.getElem_cons_succ, List.setIfInBounds_toArray, List.set_cons_zero, List.set_cons_succ]
        refine wpAnyH_take (i := 23) (v := (.bool false)) rfl (by kernel_rfl) (by kernel_rfl) (by kernel_rfl) (fun _ _ _ h => h) (Or.inl ⟨by kernel_rfl, fun w0 hSw => by go_simp⟩) (by assumption) ?_
        try simp only [Act.put, List.getElem_toArray, List.getElem_cons_zero, List.getElem_cons_succ, List.setIfInBounds_toArray, List.set_cons_zero, List.set_cons_succ]
        refine wpAnyH_take (i := 24) (v := ?v21) rfl (by kernel_rfl) (by kernel_rfl) (by kernel_rfl) (fun _ _ _ h => h) (Or.inl ⟨by kernel_rfl, ?hy21⟩) (by assumption) ?rest21
        case hy21 => intro w hSw; (try dsimp only at hSw); go_simp; (try with_reducible rfl)
        try simp only [Act.put, List.getElem_toArray, List.getElem_cons_zero, List.getElem_cons_succ, List.setIfInBounds_toArray, List.set_cons_zero, List.set_cons_succ]
        refine wpAnyH_take (i := 25) (v := ?v22) rfl (by kernel_rfl) (by kernel_rfl) (by kernel_rfl) (fun _ _ _ h => h) (Or.inl ⟨by kernel_rfl, ?hy22⟩) (by assumption) ?rest22
        case hy22 => intro w hSw; (try dsimp only at hSw); go_simp; (try with_reducible rfl)
        try simp only [Act.put, List.getElem_toArray, List.getElem_cons_zero, List.getElem_cons_succ, List.setIfInBounds_toArray, List.set_cons_zero, List.set_cons_succ]
        refine wpAnyH_take (i := 26) (v := (.agg V)) rfl (by kernel_rfl) (by kernel_rfl) (by kernel_rfl) (fun _ _ _ h => h) (Or.inl ⟨by kernel_rfl, fun w0 hSw => ylm 30 (.tmp 10) rfl idb 0 rfl V _ hSw.2 Tryd.underlying30 rfl HIN.out⟩) (by assumption) ?_
        try simp only [Act.put, List.getElem_toArray, List.getElem_cons_zero, List.getElem_cons_succ, List.setIfInBounds_toArray, List.set_cons_zero, List.set_cons_succ]
        refine wpAnyH_take (i := 27) (v := ?v23) rfl (by kernel_rfl) (by kernel_rfl) (by kernel_rfl) (fun _ _ _ h => h) (Or.inl ⟨by kernel_rfl, ?hy23⟩) (by assumption) ?rest23
        case hy23 => intro w hSw; (try dsimp only at hSw); go_simp; (try with_reducible rfl)
        try simp only [Act.put, List.getElem_toArray, List.getElem_cons_zero, List.getElem_cons_succ, List.setIfInBounds_toArray, List.set_cons_zero, List.set_cons_succ]
        refine wpAnyH_ready (rs := [28]) (by kernel_rfl) (by simp) ?_
        refine AllReadyH.cons rfl (fun K hK => ?_) AllReadyH.nil
        go_simp
        refine Calls.mono (hsum_any a2 c2 xs _ HX11.out.bs (fun j hj => HX11.out.lt hj) (full_cap HX11.out) (HG.out.fr0 HF11.out) (by have := HLN.out; omega)) ?_
        rintro e w12 ⟨rfl, hF⟩
        have hFd : Fr (fun _ => False) w11 w12 := hF
        have HI12 := hideIt (HI11.out.fr hFd (fun _ _ _ e => e))
        have HX12 := hideIt (HX11.out.fr hFd (fun _ _ e => e))
        have HV12 := hideIt ((hFd.block _ (Array.getElem?_eq_some_iff.1 HV11.out).1 (fun e => e)).trans HV11.out)
        have HD12 := hideIt ((hFd.block _ (Array.getElem?_eq_some_iff.1 HD11.out).1 (fun e => e)).trans HD11.out)
        have HF12 := hideIt (HF11.out.trans hFd (fun _ _ e => e))
        clear hF hFd HI11 HX11 HV11 HD11 HF11
        rw [HVX.out]
        refine hK.out _ _ ?_ (fun hHeld => ?_)
        · exact ⟨cellOfHeap HD12.out 0 rfl, rangeAt_of HV12.out⟩
        clear hK K
        try simp only [Act.put, List.getElem_toArray, List.getElem_cons_zero, List.getElem_cons_succ, List.setIfInBounds_toArray, List.set_cons_zero, List.set_cons_succ]
        refine wpAnyH_take (i := 29) (v := (.bool false)) rfl (by kernel_rfl) (by kernel_rfl) (by kernel_rfl) (fun _ _ _ h => h) (Or.inl ⟨by kernel_rfl, fun w0 hSw => yields_binQ .neq 30 30 (.tmp 77) (.tmp 79) rfl (.agg V) (.agg V) (.bool false) rfl rfl (HNE.out _) (HNG.out _ _ _)⟩) (by assumption) ?_
        try simp only [Act.put, List.getElem_toArray, List.getElem_cons_zero, List.getElem_cons_succ, List.setIfInBounds_toArray, List.set_cons_zero, List.set_cons_succ]
        refine wpAnyH_take (i := 30) (v := ?v24) rfl (by kernel_rfl) (by kernel_rfl) (by kernel_rfl) (fun _ _ _ h => h) (Or.inl ⟨by kernel_rfl, ?hy24⟩) (by assumption) ?rest24
        case hy24 => intro w hSw; (try dsimp only at hSw); go_simp; (try with_reducible rfl)
        try simp only [Act.put, List.getElem_toArray, List.getElem_cons_zero, List.getElem_cons_succ, List.setIfInBounds_toArray, List.set_cons_zero, List.set_cons_succ]
        refine wpAnyH_done (by kernel_rfl) ?_ _
        clear hHeld
        have HPK := hideIt (pick_any x xs.length hpos (by have := HLN.out; omega))
        go_wp2_with fail
        refine Calls.mono (HPK.out _) ?_
        rintro e w12 ⟨⟨p, rfl, hp⟩, rfl⟩
        have hp0 : (0 : Int) ≤ (p : Int) := by omega
        have hpc : (p : Int) ≤ (c2 : Int) := by have := full_cap HX12.out; omega
        have hlen : (xs.take p).length = p := by simp; omega
        have HRC := hideIt (gRead_any a2 c2 (xs.take p) w12 (bs_take HX12.out.bs p) (full_cap0 HX12.out) (by rw [hlen]; omega) (fun k hk => HX12.out.lt hk))
        rw [hlen] at HRC
        have hcu := HCX.out p hp
        obtain ⟨⟨L3, e3, p3⟩, hr3⟩ : ∃ r, readP (xs.take p) = r := ⟨_, rfl⟩
        rw [hr3] at HRC hcu
        unfold PReadP at HRC
        dsimp only at HRC hcu
        subst hcu
        clear hr3 hlen HPK HCX
        go_wp2_with fail
        refine Calls.mono HRC.out ?_
        rintro e w14 ⟨a14, c14, rfl, _, hF14, _⟩
        have hFx := hF14.alloc (.cells #[.int .i64 4, .int .i64 p3] 34)
        obtain ⟨f14, hf14⟩ : ∃ f, w14.heap.size = f := ⟨_, rfl⟩
        have HD14 := hideIt (show (w14.alloc (.cells #[.int .i64 4, .int .i64 p3] 34)).heap[f14]? = some (.cells #[.int .i64 4, .int .i64 p3] 34 (0, 0)) by rw [← hf14]; exact heap_alloc_new w14 _)
        have HX14 := hideIt (HX12.out.fr hFx (fun _ _ e => e))
        have HF14 := hideIt (HF12.out.trans hFx (fun _ _ e => e))
        clear hF14 hFx HRC HX12 HF12
        go_wp2_with fail
        try rw [hf14]
        generalize w14.alloc (.cells #[.int .i64 4, .int .i64 p3] 34) = w15 at *
        clear hf14
        refine Calls.mono (copyb_any a2 c2 xs w15 HX14.out.bs (by have := HLN.out; omega)) ?_
        rintro e w16 ⟨a16, c16, rfl, hrow16, hF16, hn16⟩
        obtain ⟨a17, c17, w17, hrun17, hB17, hc17, hcl17, hlo17, hF17⟩ := app_one0 w16 a16 c16 xs hrow16 (by have := HLN.out; omega) (fun k hk => hrow16.lt hk)
        have HRUN := hideIt hrun17
        have HD17 := hideIt (((hF16.trans hF17 (fun i hi e => by have := hn16 i e; omega) : Fr (fun _ => False) w15 w17).block f14 (Array.getElem?_eq_some_iff.1 HD14.out).1 (fun e => e)).trans HD14.out)
        have HF17 := hideIt (HF14.out.trans (hF16.trans hF17 (fun i hi e => by have := hn16 i e; omega) : Fr (fun _ => False) w15 w17) (fun _ _ e => e))
        have HRM := hideIt (gRead_any a17 c17 (xs ++ [0]) w17 hB17 hc17 (by simp; omega) hlo17)
        rw [show (xs ++ [(0 : UInt8)]).length = xs.length + 1 by simp] at HRM
        have hmo := HMX.out
        obtain ⟨⟨L5, e5, p5⟩, hr5⟩ : ∃ r, readP (xs ++ [(0 : UInt8)]) = r := ⟨_, rfl⟩
        rw [hr5] at HRM hmo
        unfold PReadP at HRM
        dsimp only at HRM hmo
        clear hr5 hrow16 hF16 hn16 hrun17 hB17 hc17 hcl17 hlo17 hF17 HMX HD14 HX14 HF14
        go_wp2_with (first | (at_builtin; refine wpList_append_run _ rfl (.tmp 94) (.tmp 95) 23 23 rfl (.slice a16 xs.length c16) (.slice (some ⟨w16.heap.size, 0, none⟩) 1 1) (.slice a17 (xs.length + 1) c17) w17 rfl rfl HRUN.out ?_))
        refine Calls.mono HRM.out ?_
        rintro e w18 ⟨a18, c18, rfl, _, hF18, _⟩
        have hX18 := (hF18.block f14 (Array.getElem?_eq_some_iff.1 HD17.out).1 (fun e => e)).trans HD17.out
        have hx0b := cellOfHeap hX18 0 rfl
        have hlt18 := (Array.getElem?_eq_some_iff.1 hX18).1
        have hne18 : f14 ≠ w18.heap.size := by omega
        have hne5 : (e5 == 0) = false := by simpa using hmo
        have HF18 := hideIt (HF17.out.trans (hF18.alloc (.cells #[.int .i64 e5, .int .i64 p5] 34)) (fun _ _ e => e))
        clear hX18 hF18 HRM HD17 HF17 HRUN
        go_wp2_with fail
        refine Calls.mono (HRB.out _ HF18.out) ?_
        rintro e w20 ⟨a20, c20, rfl, hI20, hF20, _⟩
        have hI20r := hI20.row
        have HI20 := hideIt (hI20r.fr ((Fr.refl (fun _ => False) w20).alloc (.cells #[.int .i64 er2, .int .i64 ea2] 34)) (fun _ _ _ e => e))
        have HF20 := hideIt (HF18.out.trans (hF20.alloc (.cells #[.int .i64 er2, .int .i64 ea2] 34)) (fun _ _ e => e))
        clear hI20 hI20r hF20 HRB
        rcases HBK.out with ⟨rfl, hc1, hc2⟩ | ⟨hn1, hn2, hn3⟩
        · have hle : L.length ≤ 60 := (chkF_zero (l := L) (by rw [hc1])).2.1
          have HBY := hideIt (gbts a20 c20 L (by omega) _ HI20.out)
          have hpc2 : progC L = bs := by unfold progC; rw [hc1, if_pos rfl, hc2]
          rw [hpc2, hc1] at HBY
          clear hc1 hc2 hpc2
          go_wp2_with fail
          refine Calls.mono HBY.out ?_
          rintro e w21 ⟨a21, c21, rfl, hf21, hF21, _⟩
          have HF21 := hideIt (HF20.out.trans hF21 (fun _ _ e => e))
          have HSM := hideIt (same_any a21 bo c21 cb bs bs w21 hf21.bs (HB.out _ HF21.out))
          rw [beq_self_eq_true bs] at HSM
          clear hf21 hF21 HBY
          go_wp2_with fail
          refine Calls.mono HSM.out ?_
          rintro e w22 ⟨rfl, rfl⟩
          go_wp2_with fail
          go_ret
          exact ⟨rfl, HF21.out⟩
        · have hne2 : (er2 == 0) = false := by simpa using hn1
          have hd1 : decide ((0 : Int) ≤ ea2) = true := by simpa using hn2
          have hd2 : decide (ea2 ≤ (bs.length : Int)) = true := by simpa using hn3
          go_wp2_with fail
          go_ret
          exact ⟨rfl, HF20.out⟩
      · have hne : (er == 0) = false := by simpa using he
        go_wp2_with (first | (refine store_absG rfl 30 (.tmp 10) (.tmp 39) rfl w3.heap.size 0 V rfl rfl HT.out HIN.out HV1.out ?_; intro W hW; obtain ⟨hV4, hF4⟩ := HW.out W hW; have HV4 := hideIt hV4; have HX4 := hideIt (HX3.out.fr hF4 (fun _ _ e => e)); have HF4 := hideIt (HF3.out.trans hF4 (fun _ _ e => e)); clear hV4 hF4 hW HW))
        go_wp2_with fail
        refine Calls.mono (HRB.out _ HF4.out) ?_
        rintro e w20 ⟨a20, c20, rfl, hI20, hF20, _⟩
        have hI20r := hI20.row
        have HI20 := hideIt (hI20r.fr ((Fr.refl (fun _ => False) w20).alloc (.cells #[.int .i64 er2, .int .i64 ea2] 34)) (fun _ _ _ e => e))
        have HF20 := hideIt (HF4.out.trans (hF20.alloc (.cells #[.int .i64 er2, .int .i64 ea2] 34)) (fun _ _ e => e))
        clear hI20 hI20r hF20 HRB
        rcases HBK.out with ⟨rfl, hc1, hc2⟩ | ⟨hn1, hn2, hn3⟩
        · have hle : L.length ≤ 60 := (chkF_zero (l := L) (by rw [hc1])).2.1
          have HBY := hideIt (gbts a20 c20 L (by omega) _ HI20.out)
          have hpc2 : progC L = bs := by unfold progC; rw [hc1, if_pos rfl, hc2]
          rw [hpc2, hc1] at HBY
          clear hc1 hc2 hpc2
          go_wp2_with fail
          refine Calls.mono HBY.out ?_
          rintro e w21 ⟨a21, c21, rfl, hf21, hF21, _⟩
          have HF21 := hideIt (HF20.out.trans hF21 (fun _ _ e => e))
          have HSM := hideIt (same_any a21 bo c21 cb bs bs w21 hf21.bs (HB.out _ HF21.out))
          rw [beq_self_eq_true bs] at HSM
          clear hf21 hF21 HBY
          go_wp2_with fail
          refine Calls.mono HSM.out ?_
          rintro e w22 ⟨rfl, rfl⟩
          go_wp2_with fail
          go_ret
          exact ⟨rfl, HF21.out⟩
        · have hne2 : (er2 == 0) = false := by simpa using hn1
          have hd1 : decide ((0 : Int) ≤ ea2) = true := by simpa using hn2
          have hd2 : decide (ea2 ≤ (bs.length : Int)) = true := by simpa using hn3
          go_wp2_with fail
          go_ret
          exact ⟨rfl, HF20.out⟩
        
end Go.Proofs.YtojgikaoiegmpaaDoor
