/- ProgTells, part 22 of the road: what the program's functions do, each by its own walk. -/
import Derived.Test.YtojgikaoiegmpaaGreatDoorQ15
import Derived.Test.YtojgikaoiegmpaaGreatDoorQ17
import Derived.Test.YtojgikaoiegmpaaGreatDoorQ21

/- Package prog: the document's ID, walked. -/
namespace Go.Proofs.YtojgikaoiegmpaaGreatDoor
open Go.RowKit Go.IntWalk
set_option linter.unusedSimpArgs false
set_option linter.unusedVariables false
set_option maxRecDepth 100000

set_option maxRecDepth 100000 in
set_option maxHeartbeats 4000000 in
theorem hid_any (ao : Option Addr) (cap : Nat) (l : List Ins) (hl : l.length ≤ 140737488355328) (w : World) (hB : InsRow w ao l) : Calls Tryz.prog 12 #[.slice ao l.length cap] w fun e w' => e = .returned (.tuple #[.agg (idV l), .int .i64 (chkF l).1]) ∧ Fr (fun _ => False) w w' := by
  have hf1 : Fr (fun _ => False) w (w.alloc (.cells zA 33)) := (Fr.refl _ w).alloc _
  have HBY := hideIt (hbytes_any ao cap l hl (w.alloc (.cells zA 33)) (hB.fr hf1 (fun _ _ _ e => e)))
  have HZ := hideIt (show (w.alloc (.cells zA 33)).heap[w.heap.size]? = some (.cells zA 33 (0, 0)) from heap_new rfl)
  have HF1 := hideIt hf1
  unfold PHB at HBY
  clear hf1 hB
  have h5 : (chkF l).1 = 0 → (progB l).length ≤ 512 := fun h => (chkF_zero h).2.2.2.2
  obtain ⟨V, hV⟩ : ∃ V, idV l = V := ⟨_, rfl⟩
  have hV32 : V.size = 32 := by rw [← hV]; exact idV_size l
  have HV1 := hideIt (show V.all (·.oneCell') = true by rw [← hV]; exact idV_one l)
  rw [hV]
  by_cases he : (chkF l).1 = 0
  · have HVV := hideIt (show (bv (Sha.sum (progB l))).toArray = V by rw [← hV]; unfold idV; rw [if_pos he])
    have hc : progC l = progB l := by unfold progC; rw [if_pos he]
    rw [hc, he] at HBY
    rw [he]
    have HLEN := hideIt (h5 he)
    clear hV h5 he hc
    generalize progB l = bs at *
    go_enter Tryz.func12, Tryz.ntmps12
    go_wp2_with fail
    refine Calls.mono HBY.out ?_
    rintro e w2 ⟨a2, c2, rfl, hf2, hF2, hn2, hq1, hq2, hq3⟩
    have HS := hideIt (xsum_any ⟨a2, c2, bs⟩ w2 ⟨hq1, hq2, hq3, fun hne => by
      rcases hf2 with ⟨_, e⟩ | ⟨b, off, e, hc⟩
      · exact absurd e hne
      · exact ⟨b, off, e, hc⟩⟩ (by show bs.length ≤ 4000; have := HLEN.out; omega))
    unfold Bt.val at HS
    dsimp only at HS
    have HZ2 := hideIt ((hF2.block w.heap.size (by simp) (fun e => e)).trans HZ.out)
    have HF2 := hideIt (HF1.out.trans hF2 (fun _ _ e => e))
    clear hf2 hF2 hn2 hq1 hq2 hq3 HBY
    go_wp2_with fail
    refine Calls.mono HS.out ?_
    rintro e w3 ⟨rfl, hF3⟩
    rw [HVV.out]
    have HZ3 := hideIt ((hF3.block w.heap.size (Array.getElem?_eq_some_iff.1 HZ2.out).1 (fun e => e)).trans HZ2.out)
    have HF3 := hideIt (HF2.out.trans hF3 (fun _ _ e => e))
    have HIN := hideIt (idInfo V hV32)
    have HTT := hideIt (thereNew w3 w.heap.size zA 33 HZ3.out V.size (by rw [hV32]; rfl))
    have HSF := hideIt (store_over (V := V) HZ3.out (by rw [hV32]; rfl))
    clear hF3 HS HZ2 HF2
    go_wp2_with (first | (refine wpList_store_mid rfl 33 (.tmp 2) (.tmp 16) rfl w.heap.size 0 V rfl rfl HTT.out HIN.out HV1.out ?_))
    refine bodyPost_ret (results_row_tmp Tryz.results12 _ _ w.heap.size 33 V (0, 0) _ (.int .i64 0) rfl ?_ Tryz.underlying33 rfl HIN.out rfl) rfl ⟨rfl, ?_⟩
    · exact HSF.out.1
    · exact HF3.out.trans HSF.out.2 (fun i hi e => by omega)
  · have HVV := hideIt (show zA = V by rw [← hV]; unfold idV; rw [if_neg he])
    have hc : progC l = [] := by unfold progC; rw [if_neg he]
    rw [hc] at HBY
    have hne : ((chkF l).1 == 0) = false := by simpa using he
    generalize (chkF l).1 = er at *
    clear hV h5 he hc
    dsimp only [List.length_nil] at HBY
    go_enter Tryz.func12, Tryz.ntmps12
    go_wp2_with fail
    refine Calls.mono HBY.out ?_
    rintro e w2 ⟨a2, c2, rfl, hf2, hF2, hn2, hq1, hq2, hq3⟩
    have HZ3 := hideIt ((hF2.block w.heap.size (by simp) (fun e => e)).trans HZ.out)
    have HF3 := hideIt (HF1.out.trans hF2 (fun _ _ e => e))
    have HIN := hideIt (idInfo V hV32)
    have HTT := hideIt (thereNew w2 w.heap.size zA 33 HZ3.out V.size (by rw [hV32]; rfl))
    have HSF := hideIt (store_over (V := V) HZ3.out (by rw [hV32]; rfl))
    clear hf2 hF2 hn2 hq1 hq2 hq3 HBY
    go_wp2_with (first | (refine wpList_store_mid rfl 33 (.tmp 2) (.tmp 13) rfl w.heap.size 0 V rfl (by rw [← HVV.out]; rfl) HTT.out HIN.out HV1.out ?_))
    refine bodyPost_ret (results_row_tmp Tryz.results12 _ _ w.heap.size 33 V (0, 0) _ (.int .i64 er) rfl ?_ Tryz.underlying33 rfl HIN.out rfl) rfl ⟨rfl, ?_⟩
    · exact HSF.out.1
    · exact HF3.out.trans HSF.out.2 (fun i hi e => by omega)

end Go.Proofs.YtojgikaoiegmpaaGreatDoor

/- Package prog: which transactions may be, their bytes and IDs, beside the document's answers: the law's walk. -/
namespace Go.Proofs.YtojgikaoiegmpaaGreatDoor
open Go.RowKit Go.IntWalk
set_option linter.unusedSimpArgs false
set_option linter.unusedVariables false
set_option maxRecDepth 100000

theorem rangeAt_ofU {w : World} {b : Nat} {V : Array Value} {t : TypeId} (h : w.heap[b]? = some (.cells V t (0, 0))) : w.rangeAt b 0 V.toList := fun j v hv => by
  rw [Nat.zero_add, cell_of_row _ _ _ _ _ _ h]
  simpa using hv
theorem grdIDU (w : World) (op : BinOp) (x y : Operand) (A B : Array Value) : (eqGuard op 33 x y (.agg A) (.agg B)).run Tryz.prog w = .ok () w := run_eqGuard_agg w op 33 x y _ _ (by kernel_rfl)
theorem ids_eqlU (w : World) (a b : List UInt8) (ha : a.length = 32) (hb : b.length = 32) : (binOp .eql 33 (.agg (bv a).toArray) (.agg (bv b).toArray)).run Tryz.prog w = .ok (.bool (a == b)) w := by
  rw [run_eql_struct, ids_eq w a b ha hb]
  rfl
theorem zA_bv : zA = (bv (List.replicate 32 0)).toArray := by rfl
theorem idV_eql (l : List Ins) (w : World) : (binOp .eql 33 (.agg (idV l)) (.agg (idV l))).run Tryz.prog w = .ok (.bool true) w := by
  unfold idV
  split
  · rw [ids_eqlU w _ _ (sum_len _) (sum_len _), beq_self_eq_true]
  · rw [zA_bv, ids_eqlU w _ _ (by simp) (by simp), beq_self_eq_true]
theorem idV_eq (l : List Ins) (w : World) : (Op.equalIn 10000 33 (.agg (idV l)) (.agg (idV l))).run Tryz.prog w = .ok true w := by
  unfold idV
  split
  · rw [ids_eq w _ _ (sum_len _) (sum_len _), beq_self_eq_true]
  · rw [zA_bv, ids_eq w _ _ (by simp) (by simp), beq_self_eq_true]
theorem both_same {r1 r2 : Bool} {l m : List Ins} (h1 : r1 = true ↔ l = m) (h2 : r2 = true ↔ l = m) : r1 = r2 := Bool.eq_iff_iff.2 (h1.trans h2.symm)

set_option maxRecDepth 100000 in
set_option maxHeartbeats 16000000 in
theorem ptells_any (ao : Option Addr) (cap : Nat) (l : List Ins) (bo : Option Addr) (cap2 : Nat) (m : List Ins) (w : World) (hA : InsRow w ao l) (hB : InsRow w bo m) (hl : l.length ≤ 9223372036854775807) (hm : m.length ≤ 9223372036854775807) (hG : Glob w) :
    Calls Tryz.prog 3 #[.slice ao l.length cap, .slice bo m.length cap2] w fun e w' => e = .returned (.bool true) ∧ Fr (fun _ => False) w w' := by
  have HW := hideIt pawake_any
  have HA := hideIt (fun W (hF : Fr (fun _ => False) w W) => show InsRow W ao l from hA.fr hF (fun _ _ _ e => e))
  have HB := hideIt (fun W (hF : Fr (fun _ => False) w W) => show InsRow W bo m from hB.fr hF (fun _ _ _ e => e))
  have HBL := hideIt (bigprog_any ao cap l hl w hA)
  have HBM := hideIt (bigprog_any bo cap2 m hm w hB)
  have HG := hideIt hG
  clear hA hB hl hm hG
  go_enter Tryz.func3, Tryz.ntmps3
  go_wp2_with fail
  refine Calls.mono HBL.out ?_
  rintro e w1 ⟨b1, rfl, hb1, rfl⟩
  have HB1 := hideIt hb1
  clear hb1 HBL
  cases b1 with
  | true =>
    go_wp2_with fail
    refine Calls.mono (HW.out _) ?_
    rintro e w9 ⟨rfl, hF9⟩
    have HF9 := hideIt hF9
    clear hF9
    go_wp2_with fail
    go_ret
    exact ⟨rfl, HF9.out⟩
  | false =>
    go_wp2_with fail
    refine Calls.mono HBM.out ?_
    rintro e w1 ⟨b2, rfl, hb2, rfl⟩
    have HB2 := hideIt hb2
    clear hb2 HBM
    cases b2 with
    | true =>
      go_wp2_with fail
      refine Calls.mono (HW.out _) ?_
      rintro e w9 ⟨rfl, hF9⟩
      have HF9 := hideIt hF9
      clear hF9
      go_wp2_with fail
      go_ret
      exact ⟨rfl, HF9.out⟩
    | false =>
      have hl70 : l.length ≤ 70 := by have := HB1.out; simpa using this
      have hm70 : m.length ≤ 70 := by have := HB2.out; simpa using this
      clear HB1 HB2
      have HCP := hideIt (copyprog_any ao cap l (by omega) w1 (HA.out w1 (Fr.refl _ _)))
      have HHC := hideIt (fun W (hF : Fr (fun _ => False) w1 W) => hcheck_any ao cap l (by omega) W (HA.out W hF))
      have HHB := hideIt (fun W (hF : Fr (fun _ => False) w1 W) => hbytes_any ao cap l (by omega) W (HA.out W hF))
      have HHI := hideIt (fun W (hF : Fr (fun _ => False) w1 W) => hid_any ao cap l (by omega) W (HA.out W hF))
      have HHS := hideIt (fun W (hF : Fr (fun _ => False) w1 W) => hsame_any ao bo cap cap2 l m (by omega) (by omega) W (HA.out W hF) (HB.out W hF))
      have HGC := hideIt (fun a c W (h : InsRow W a l) => gchk a c l (by omega) W h)
      have HGB := hideIt (fun a c W (h : InsRow W a l) => gbts a c l (by omega) W h)
      have HGI := hideIt (fun a c W (h : InsRow W a l) (hF : Fr (fun _ => False) w1 W) => gid_any a c l (by omega) W h (HG.out.fr0 hF))
      have HGS := hideIt (fun a c W (h : InsRow W a l) (hF : Fr (fun _ => False) w1 W) => gsame_any a bo c cap2 l m (by omega) (by omega) W h (HB.out W hF))
      have HKS := hideIt (fun a c W (h : InsRow W a l) (hF : Fr (fun _ => False) w1 W) => ksameprog_any a ao c cap l l (by omega) (by omega) W h (HA.out W hF))
      have HEQ := hideIt (idV_eq l)
      have hV32 := idV_size l
      have HV1 := hideIt (idV_one l)
      unfold PHB at HHB
      generalize chkF l = ck at *
      generalize progC l = xs at *
      generalize idV l = V at *
      obtain ⟨er, ea⟩ := ck
      dsimp only at HHC HHB HHI HGC HGB HGI
      have HIN := hideIt (idInfo V hV32)
      have HIN2 := hideIt (show (Tryz.prog.info? 33).map (·.size) = some V.toList.length by rw [Array.length_toList]; exact HIN.out)
      go_wp2_with fail
      refine Calls.mono HCP.out ?_
      rintro e w3 ⟨a3, c3, rfl, hr3, hF3, hn3⟩
      have HI3 := hideIt ((hr3.at encIns_len).ins)
      have HL3 := hideIt (fun k (h : blk a3 k) => show k < w3.heap.size from hr3.lt h)
      have HF3 := hideIt hF3
      clear hr3 hF3 hn3 HCP
      go_wp2_with fail
      refine Calls.mono (HGC.out a3 c3 w3 HI3.out) ?_
      rintro e w4 ⟨rfl, hF4⟩
      have HFI4 := hideIt hF4
      have HF4 := hideIt (HF3.out.trans hF4 (fun _ _ e => e))
      clear hF4
      go_wp2_with fail
      refine Calls.mono (HHC.out w4 HF4.out) ?_
      rintro e w5 ⟨rfl, hF5⟩
      have HFI5 := hideIt (HFI4.out.trans hF5 (fun _ _ e => e))
      have HF5 := hideIt (HF4.out.trans hF5 (fun _ _ e => e))
      clear hF5 HFI4 HF4
      go_wp2_with fail
      refine Calls.mono (HGB.out a3 c3 w5 (HI3.out.fr HFI5.out (fun _ _ _ e => e))) ?_
      rintro e w6 ⟨a6, c6, rfl, hf6, hF6, hn6⟩
      have HX6 := hideIt hf6
      have HN6 := hideIt (fun k (h : blk a6 k) => show w3.heap.size ≤ k ∧ w1.heap.size ≤ k from ⟨Nat.le_trans HFI5.out.size (hn6 k h), Nat.le_trans HF5.out.size (hn6 k h)⟩)
      have HFI6 := hideIt (HFI5.out.trans hF6 (fun _ _ e => e))
      have HF6 := hideIt (HF5.out.trans hF6 (fun _ _ e => e))
      clear hf6 hF6 hn6 HFI5 HF5
      go_wp2_with fail
      refine Calls.mono (HHB.out w6 HF6.out) ?_
      rintro e w7 ⟨a7, c7, rfl, hf7, hF7, hn7, _, _, _⟩
      have HX7 := hideIt (HX6.out.fr hF7 (fun _ _ e => e))
      have HY7 := hideIt hf7
      have HFI7 := hideIt (HFI6.out.trans hF7 (fun _ _ e => e))
      have HF7 := hideIt (HF6.out.trans hF7 (fun _ _ e => e))
      clear hf7 hF7 hn7 HX6 HFI6 HF6
      go_wp2_with fail
      refine Calls.mono (HGI.out a3 c3 w7 (HI3.out.fr HFI7.out (fun _ _ _ e => e)) HF7.out) ?_
      rintro e w8 ⟨rfl, hF8⟩
      have HT8 := hideIt (thereNew (w8.alloc (.cells zA 33)) w8.heap.size zA 33 (heap_new rfl) V.size (by rw [hV32]; rfl))
      have HW8 := hideIt (fun W (h : W = (w8.alloc (.cells zA 33)).setCells w8.heap.size 0 V.toList) => show W.heap[w8.heap.size]? = some (.cells V 33 (0, 0)) ∧ Fr (fun _ => False) w8 W by
        subst h
        have hS := store_over (V := V) (heap_new (w := w8) (o := .cells zA 33) rfl) (by rw [hV32]; rfl)
        exact ⟨hS.1, ((Fr.refl (fun _ => False) w8).alloc _).trans hS.2 (fun i hi e => by omega)⟩)
      have HF78 := hideIt hF8
      clear hF8
      go_wp2_with (first | (refine store_absG rfl 33 (.tmp 14) (.tmp 51) rfl w8.heap.size 0 V rfl rfl HT8.out HIN.out HV1.out ?_; intro W9 hW9; obtain ⟨hV9, hF9⟩ := HW8.out W9 hW9; have HV9 := hideIt hV9; have HFx := hideIt (HF78.out.trans hF9 (fun _ _ e => e)); clear hV9 hF9 hW9 HW8 HT8))
      have HX9 := hideIt (HX7.out.fr HFx.out (fun _ _ e => e))
      have HY9 := hideIt (HY7.out.fr HFx.out (fun _ _ _ e => e))
      have HFI9 := hideIt (HFI7.out.trans HFx.out (fun _ _ e => e))
      have HF9 := hideIt (HF7.out.trans HFx.out (fun _ _ e => e))
      obtain ⟨q1, hq1⟩ : ∃ q, w8.heap.size = q := ⟨_, rfl⟩
      rw [hq1] at HV9 ⊢
      clear hq1 HX7 HY7 HFI7 HF7 HFx HF78
      refine Calls.mono (HHI.out W9 HF9.out) ?_
      rintro e w10 ⟨rfl, hF10⟩
      have HT10 := hideIt (thereNew (w10.alloc (.cells zA 33)) w10.heap.size zA 33 (heap_new rfl) V.size (by rw [hV32]; rfl))
      have HW10 := hideIt (fun W (h : W = (w10.alloc (.cells zA 33)).setCells w10.heap.size 0 V.toList) => show W.heap[w10.heap.size]? = some (.cells V 33 (0, 0)) ∧ Fr (fun _ => False) w10 W by
        subst h
        have hS := store_over (V := V) (heap_new (w := w10) (o := .cells zA 33) rfl) (by rw [hV32]; rfl)
        exact ⟨hS.1, ((Fr.refl (fun _ => False) w10).alloc _).trans hS.2 (fun i hi e => by omega)⟩)
      have HSM := hideIt (fun W (ha : BsAt W a6 xs) (hb : BsAt W a7 xs) => same_any a6 a7 c6 c7 xs xs W ha hb)
      rw [beq_self_eq_true xs] at HSM
      have HF910 := hideIt hF10
      clear hF10
      go_wp2_with (first | (refine store_absG rfl 33 (.tmp 16) (.tmp 56) rfl w10.heap.size 0 V rfl rfl HT10.out HIN.out HV1.out ?_; intro W11 hW11; obtain ⟨hV11, hF11⟩ := HW10.out W11 hW11; have HV11 := hideIt hV11; have HFx := hideIt (HF910.out.trans hF11 (fun _ _ e => e)); clear hV11 hF11 hW11 HW10 HT10))
      have HX11 := hideIt (HX9.out.fr HFx.out (fun _ _ e => e))
      have HY11 := hideIt (HY9.out.fr HFx.out (fun _ _ _ e => e))
      have HFI11 := hideIt (HFI9.out.trans HFx.out (fun _ _ e => e))
      have HF11 := hideIt (HF9.out.trans HFx.out (fun _ _ e => e))
      have HV9b := hideIt ((HFx.out.block q1 (Array.getElem?_eq_some_iff.1 HV9.out).1 (fun e => e)).trans HV9.out)
      obtain ⟨q2, hq2⟩ : ∃ q, w10.heap.size = q := ⟨_, rfl⟩
      rw [hq2] at HV11 ⊢
      clear hq2 HX9 HY9 HFI9 HF9 HV9 HFx HF910
      refine Calls.mono (HSM.out W11 HX11.out.bs HY11.out) ?_
      rintro e w12 ⟨rfl, rfl⟩
      have HR1 := hideIt (rangeAt_ofU HV9b.out)
      have HR2 := hideIt (rangeAt_ofU HV11.out)
      have heq := HEQ.out
      have HF12 := hideIt HF11.out
      have HI12 := hideIt (HI3.out.fr HFI11.out (fun _ _ _ e => e))
      have HX12 := hideIt HX11.out
      clear HX11 HY11 HFI11 HF11 HV9b HV11 HEQ HSM
      go_wp2_with (first | (refine wpList_load_want (by kernel_rfl) 33 (.tmp 14) rfl q1 0 rfl V.toList _ HR1.out Tryz.underlying33 rfl HIN2.out ?_) | (refine wpList_load_want (by kernel_rfl) 33 (.tmp 16) rfl q2 0 rfl V.toList _ HR2.out Tryz.underlying33 rfl HIN2.out ?_))
      refine Calls.mono (HGS.out a3 c3 w12 HI12.out HF12.out) ?_
      rintro e w13 ⟨r1, rfl, hr1, hF13⟩
      have HQ1 := hideIt hr1
      have HI13 := hideIt (HI12.out.fr hF13 (fun _ _ _ e => e))
      have HX13 := hideIt (HX12.out.fr hF13 (fun _ _ e => e))
      have HF13 := hideIt (HF12.out.trans hF13 (fun _ _ e => e))
      clear hr1 hF13 HI12 HX12 HF12 HR1 HR2 heq
      go_wp2_with fail
      refine Calls.mono (HHS.out w13 HF13.out) ?_
      rintro e w14 ⟨r2, rfl, hr2, hF14⟩
      obtain rfl := both_same HQ1.out hr2
      have HI14 := hideIt (HI13.out.fr hF14 (fun _ _ _ e => e))
      have HX14 := hideIt (HX13.out.fr hF14 (fun _ _ e => e))
      have HF14 := hideIt (HF13.out.trans hF14 (fun _ _ e => e))
      clear hr2 hF14 HI13 HX13 HF13 HQ1
      go_wp2_with fail
      refine Calls.mono (over_full a6 c6 xs w14 HX14.out) ?_
      rintro e w15 ⟨rfl, hF15⟩
      have HI15 := hideIt (HI14.out.fr hF15 (fun k _ h3 h6 => by have := HL3.out k h3; have := (HN6.out k h6).1; omega))
      have HF15 := hideIt (HF14.out.trans hF15 (fun i hi e => by have := (HN6.out i e).2; omega))
      clear hF15 HI14 HX14 HF14
      go_wp2_with fail
      refine Calls.mono (HKS.out a3 c3 w15 HI15.out HF15.out) ?_
      rintro e w16 ⟨r3, rfl, hr3, hF16⟩
      obtain rfl : r3 = true := hr3.2 rfl
      have HF16 := hideIt (HF15.out.trans hF16 (fun _ _ e => e))
      clear hr3 hF16
      go_wp2_with fail
      refine Calls.mono (HW.out _) ?_
      rintro e w17 ⟨rfl, hF17⟩
      have HF17 := hideIt (HF16.out.trans hF17 (fun _ _ e => e))
      clear hF17
      go_wp2_with fail
      go_ret
      exact ⟨rfl, HF17.out⟩

end Go.Proofs.YtojgikaoiegmpaaGreatDoor
