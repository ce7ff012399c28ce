/- Package hash, the laws: which ID objects have (HashNames), walked. -/
import Derived.Test.YtgnpdnkmhjocjaaDoorSw9
namespace Go.Proofs.YtgnpdnkmhjocjaaDoor
open Go.RowKit Go.IntWalk
set_option linter.unusedSimpArgs false
set_option linter.unusedVariables false

theorem Row.bt {w : World} {ao : Option Addr} {cap : Nat} {bs : List UInt8} (h : Row w 5 ao cap bs) : BtAt w ⟨ao, cap, bs⟩ := by
  refine ⟨h.le, ?_, h.cap0, fun hn => ?_⟩
  · rcases h.form with ⟨_, _, e⟩ | ⟨g, cur, _, _, _, hm, _⟩
    · have e2 : cap = 0 := e
      show cap ≤ maxLen
      rw [e2]; exact Nat.zero_le _
    · exact hm
  · rcases h.bs with ⟨_, e⟩ | h
    · exact absurd e hn
    · exact h
theorem Lent.bt {w : World} {g : Nat} {bs : List UInt8} (h : Lent w g bs) (hl : bs.length ≤ 4000) : BtAt w ⟨some ⟨g, 0, none⟩, bs.length + 3, bs⟩ :=
  ⟨Nat.le_add_right _ _, by (show bs.length + 3 ≤ maxLen; unfold maxLen; omega), (fun e => by cases e), fun hn => by
    rcases h.bs with ⟨_, e⟩ | h
    · exact absurd e hn
    · exact h⟩
theorem marks_len (bs : List UInt8) (n : Nat) : (bs ++ marks n).length = bs.length + 3 := by simp [marks]

set_option maxRecDepth 100000 in
set_option maxHeartbeats 8000000 in
theorem hnames_any (ao : Option Addr) (cap : Nat) (ls : List Bt) (hll : ls.length ≤ 9223372036854775807) (w : World) (hB : BtsAt w ao ls) (hG : Glob w) : Calls Tryd.prog 3 #[.slice ao ls.length cap] w fun e w' => e = .returned (.bool true) ∧ Fr (fun _ => False) w w' := by
  have HG := hideIt hG
  have HB := hideIt hB
  have HN1 := hideIt (gd_new w hG)
  clear hG hB
  go_enter Tryd.func3, Tryd.ntmps3
  go_wp2_with fail
  refine Calls.mono HN1.out ?_
  rintro e w1 ⟨rfl, hD1, hF1⟩
  obtain ⟨p, hp⟩ : ∃ p, w.heap.size = p := ⟨_, rfl⟩
  rw [hp] at hD1
  have HD1 := hideIt hD1
  have HF1 := hideIt hF1
  have HLO := hideIt (hlong_any ao cap ls 12 300 hll (by decide) w1 (HB.out.fr0 (hF1.mono (fun _ e => e.elim))))
  clear HN1 hD1 hF1
  go_wp2_with fail
  refine Calls.mono HLO.out ?_
  rintro e w5 ⟨rfl, b, rfl, hb⟩
  have HP := hideIt hp
  clear HLO
  cases b with
  | true =>
    have HK := hideIt (hawake_any w5 (HG.out.fr0 HF1.out))
    go_wp2_with fail
    refine Calls.mono HK.out ?_
    rintro e w2 ⟨rfl, hF2⟩
    have HF2 := hideIt (HF1.out.trans hF2 (fun _ _ e => e))
    clear hF2 HK
    go_wp2_with fail
    go_ret
    exact ⟨rfl, HF2.out⟩
  | false =>
    obtain ⟨hl12, hl300⟩ := hb rfl
    have HL2 := hideIt hl300
    clear hb hl300 hp
    go_wp2_with fail
    go_loopw [4, 5] (fun s4 s5 wr => ∃ (i : Nat) (ah : Option Addr) (ch : Nat) (m : List UInt8), s4 = .slice ah m.length ch ∧ s5 = .int .i64 i ∧ i ≤ ls.length ∧ Hid (Dg wr p m) ∧ Hid (Row wr 5 ah ch m) ∧ Hid (∀ k, blk ah k → p < k) ∧ Hid (m.length ≤ 300 * i) ∧ Hid (Fr (fun _ => False) w wr)) (fun _ s5 _ => ls.length - (intOf s5).toNat)
    case atStart => exact ⟨0, none, 0, [], rfl, rfl, by omega, HD1, hideIt (row_nil _), hideIt (fun k e => by obtain ⟨x, e, _⟩ := e; cases e), hideIt (by simp), HF1⟩
    case round =>
      clear HD1 HF1
      obtain ⟨i, ah, ch, m, rfl, rfl, hi, HD, HR, HS, HM, HF⟩ := hrel
      by_cases hlt : i < ls.length
      · have h1 : (i : Int) < (ls.length : Int) := by omega
        have HX300 := hideIt (HL2.out _ (List.getElem_mem hlt))
        obtain ⟨b, off, rfl, hc0, hbt0⟩ := HB.out.get i hlt
        have HXB := hideIt (fun k (hn : (ls[i]).bs ≠ []) => hbt0.lt hn k)
        have hbl : b < w.heap.size := block_lt_of_cell hc0
        unfold Bt.val at hc0
        have HC := hideIt (fun W (hF : Fr (fun _ => False) w W) => show W.cell? ⟨b, off + i, none⟩ = some (.slice (ls[i]).ao (ls[i]).bs.length (ls[i]).cap) ∧ BtAt W ⟨(ls[i]).ao, (ls[i]).cap, (ls[i]).bs⟩ from ⟨(World.cell?_of_block (a := ⟨b, off + i, none⟩) (hF.block b hbl (fun e => e))).trans hc0, hbt0.fr hF (fun _ _ _ e => e)⟩)
        generalize ls[i] = x at *
        clear hc0 hbt0 hbl
        obtain ⟨xo, xc, bs⟩ := x
        have hX300 := HX300.out
        have hMM := HM.out
        have hX3 : bs.length ≤ 300 := hX300
        have hm4 : m.length ≤ 3600 := by omega
        have HX3 := hideIt hX3
        have HM4 := hideIt hm4
        have HMM := hideIt hMM
        clear hX300 hMM hX3 hm4 HX300 HM
        have hc := (HC.out wr HF.out).1
        try dsimp only at hc
        have HLE := hideIt (lent_any xo xc bs wr (HC.out wr HF.out).2 (by have := HX3.out; omega))
        go_wp2_with fail
        refine Calls.mono HLE.out ?_
        rintro e wa ⟨g, rfl, hLg, hFa, hgl⟩
        have HLg := hideIt (show Lent wa g bs from hLg)
        have HDa := hideIt (HD.out.fr hFa (fun e => e))
        have HRa := hideIt (HR.out.keep (fun k hk _ => hFa.block k hk (fun e => e)))
        have HPG := hideIt (show p < g by have := HD.out.lt; omega)
        have HAG := hideIt (show ∀ k, blk ah k → k < g from fun k e => by have := HR.out.lt e; omega)
        have HFa := hideIt (HF.out.trans hFa (fun _ _ e => e))
        have HGW := hideIt (show w.heap.size ≤ g by have := HF.out.size; omega)
        have HSU := hideIt (hsum_any (some ⟨g, 0, none⟩) (bs.length + 3) bs wa HLg.out.bs (fun j hj => by
          obtain ⟨a, e1, e2⟩ := hj
          obtain rfl := Option.some.inj e1
          have e3 : g = j := e2
          have := (Array.getElem?_eq_some_iff.1 HLg.out).1
          omega) (Nat.le_add_right _ _) (HG.out.fr0 HFa.out) (by have := HX3.out; omega))
        clear hLg hFa hgl HLE HD HR HF hc
        go_wp2_with fail
        refine Calls.mono HSU.out ?_
        rintro e wb ⟨rfl, hFb⟩
        have HLb := hideIt (HLg.out.fr hFb (fun e => e))
        have HDb := hideIt (HDa.out.fr hFb (fun e => e))
        have HRb := hideIt (HRa.out.keep (fun k hk _ => hFb.block k hk (fun e => e)))
        have HFb := hideIt (HFa.out.trans hFb (fun _ _ e => e))
        have hnl : (Sha.sum bs).length = 32 := name_len _
        obtain ⟨N, hN⟩ : ∃ N, Sha.sum bs = N := ⟨_, rfl⟩
        rw [hN] at hnl
        have HNN := hideIt hN
        rw [hN]
        obtain ⟨q, hq⟩ : ∃ q, wb.heap.size = q := ⟨_, rfl⟩
        have hAq : (wb.alloc (.cells zA 30)).heap[q]? = some (.cells zA 30 (0, 0)) := heap_new hq.symm
        have HTq := hideIt (thereNew (wb.alloc (.cells zA 30)) q zA 30 hAq (bv N).toArray.size (by rw [List.size_toArray, bv_length, hnl]; rfl))
        have HIq := hideIt (show (Tryd.prog.info? 30).map (·.size) = some (bv N).toArray.size by rw [List.size_toArray, bv_length, hnl]; kernel_rfl)
        have HIL := hideIt (show (Tryd.prog.info? 30).map (·.size) = some (bv N).length by rw [bv_length, hnl]; kernel_rfl)
        have HOq := hideIt (show (bv N).toArray.all (·.oneCell') = true by simp [bv, Value.oneCell'])
        have HWq := hideIt (fun W (h : W = (wb.alloc (.cells zA 30)).setCells q 0 (bv N).toArray.toList) => show W.heap[q]? = some (.cells (bv N).toArray 30 (0, 0)) ∧ Fr (fun _ => False) wb W by
          subst h
          have hS := store_over (V := (bv N).toArray) hAq (by rw [List.size_toArray, bv_length, hnl]; rfl)
          exact ⟨hS.1, ((Fr.refl (fun _ => False) wb).alloc _).trans hS.2 (fun i hi e => by omega)⟩)
        have HQP := hideIt (show g < q by rw [← hq]; exact (Array.getElem?_eq_some_iff.1 HLb.out).1)
        have HQL := hideIt (show ∀ k, k < wb.heap.size → k < q from fun k e => by omega)
        have HNE := hideIt (fun w => show (binOp .neq 30 (.agg (bv N).toArray) (.agg (bv N).toArray)).run Tryd.prog w = .ok (.bool false) w by rw [ids_neq w N N hnl hnl]; simp)
        have HGR := hideIt (fun w (o : BinOp) (p q : Operand) => ids_grd w o p q N N)
        have HQQ := hideIt hq
        clear hN hAq hFb HSU HLg HDa HRa HFa hnl
        go_wp2_with (first | (refine wpList_store_abs rfl 30 (.tmp 7) (.tmp 32) rfl q 0 (bv N).toArray rfl rfl HTq.out HIq.out HOq.out ?_; intro wc hwc; obtain ⟨hAc, hFc⟩ := HWq.out wc hwc; have HAc := hideIt hAc; have HFc0 := hideIt hFc; clear hwc HWq HTq hAc hFc))
        have HLc := hideIt (HLb.out.fr HFc0.out (fun e => e))
        have HDc := hideIt (HDb.out.fr HFc0.out (fun e => e))
        have HRc := hideIt (HRb.out.keep (fun k hk _ => HFc0.out.block k hk (fun e => e)))
        have HFc := hideIt (HFb.out.trans HFc0.out (fun _ _ e => e))
        have HWR := hideIt (gd_write wc p m HDc.out ⟨some ⟨g, 0, none⟩, bs.length + 3, bs⟩ (HLc.out.bt (by have := HX3.out; omega)) (fun _ j hj => by
          obtain ⟨a, e1, e2⟩ := hj
          obtain rfl := Option.some.inj e1
          have e3 : g = j := e2
          have := HPG.out
          omega) (HG.out.fr0 HFc.out) (by show m.length + bs.length ≤ _; have := HX3.out; have := HM4.out; omega))
        unfold Bt.val at HWR
        clear HLb HDb HRb HFb HFc0
        refine Calls.mono HWR.out ?_
        rintro e wd ⟨rfl, hDd, hFd⟩
        have HDd := hideIt (show Dg wd p (m ++ bs) from hDd)
        have HLd := hideIt (HLc.out.fr hFd (by have := HPG.out; omega))
        have HRd := hideIt (HRc.out.keep (fun k hk e => hFd.block k hk (by have := HS.out k e; omega)))
        have HAd := hideIt ((hFd.block q (Array.getElem?_eq_some_iff.1 HAc.out).1 (by have := HQP.out; have := HPG.out; omega)).trans HAc.out)
        have HFd := hideIt (HFc.out.trans hFd (fun k hk e => by have := HP.out; omega))
        clear hDd hFd HWR HDc HLc HRc HAc HFc
        go_wp2_with fail
        refine wp_region_held_drew (S := (fun w' => Fr (fun _ => False) wd w')) (by kernel_rfl) ?_ (fun hHeld => ?_)
        · exact (Fr.refl _ _).drew
        refine wpAnyH_take (i := 0) (v := (.agg (bv N).toArray)) rfl (by kernel_rfl) (by kernel_rfl) (by kernel_rfl) (fun _ _ _ h => h) (Or.inl ⟨by kernel_rfl, fun w0 hSw => yields_load_mid 30 (.tmp 7) rfl q 0 rfl (bv N) _ (rangeOf ((hSw.block q (Array.getElem?_eq_some_iff.1 HAd.out).1 (fun e => e)).trans HAd.out)) Tryd.underlying30 rfl HIL.out⟩) (by assumption) ?_
        try simp only [Act.put, List.getElem_toArray, List.getElem_cons_zero, List.getElem_cons_succ, List.setIfInBounds_toArray, List.set_cons_zero, List.set_cons_succ]
        refine wpAnyH_take (i := 1) (v := ?v1) rfl (by kernel_rfl) (by kernel_rfl) (by kernel_rfl) (fun _ _ _ h => h) (Or.inl ⟨by kernel_rfl, ?hy1⟩) (by assumption) ?rest1
        case hy1 => intro w hSw; (try dsimp only at hSw); go_simp; (try with_reducible rfl)
        try simp only [Act.put, List.getElem_toArray, List.getElem_cons_zero, List.getElem_cons_succ, List.setIfInBounds_toArray, List.set_cons_zero, List.set_cons_succ]
        refine wpAnyH_take (i := 2) (v := ?v2) rfl (by kernel_rfl) (by kernel_rfl) (by kernel_rfl) (fun _ _ _ h => h) (Or.inl ⟨by kernel_rfl, ?hy2⟩) (by assumption) ?rest2
        case hy2 => intro w hSw; (try dsimp only at hSw); go_simp; (try with_reducible rfl)
        try simp only [Act.put, List.getElem_toArray, List.getElem_cons_zero, List.getElem_cons_succ, List.setIfInBounds_toArray, List.set_cons_zero, List.set_cons_succ]
        refine wpAnyH_take (i := 3) (v := ?v3) rfl (by kernel_rfl) (by kernel_rfl) (by kernel_rfl) (fun _ _ _ h => h) (Or.inl ⟨by kernel_rfl, ?hy3⟩) (by assumption) ?rest3
        case hy3 => intro w hSw; (try dsimp only at hSw); go_simp; (try with_reducible rfl)
        try simp only [Act.put, List.getElem_toArray, List.getElem_cons_zero, List.getElem_cons_succ, List.setIfInBounds_toArray, List.set_cons_zero, List.set_cons_succ]
        refine wpAnyH_take (i := 4) (v := .slice xo bs.length xc) rfl (by kernel_rfl) (by kernel_rfl) (by kernel_rfl) (fun _ _ _ h => h) (Or.inl ⟨by kernel_rfl, fun w0 hSw => by have hc := (HC.out _ (HFd.out.trans hSw (fun _ _ e => e))).1; go_simp⟩) (by assumption) ?_
        try simp only [Act.put, List.getElem_toArray, List.getElem_cons_zero, List.getElem_cons_succ, List.setIfInBounds_toArray, List.set_cons_zero, List.set_cons_succ]
        refine wpAnyH_ready (rs := [5]) (by kernel_rfl) (by simp) ?_
        refine AllReadyH.cons rfl (fun K hK => ?_) AllReadyH.nil
        go_simp
        refine Calls.mono (xsum_any ⟨xo, xc, bs⟩ _ (HC.out _ (HFd.out.trans hHeld (fun _ _ e => e))).2 (by show bs.length ≤ 4000; have := HX3.out; omega)) ?_
        rintro e we ⟨rfl, hFe⟩
        have hFe2 : Fr (fun _ => False) wd we := hHeld.trans hFe (fun _ _ e => e)
        rw [show Sha.sum (Bt.mk xo xc bs).bs = N from HNN.out]
        refine hK.out _ _ ?_ (fun hHeld => ?_)
        · exact hFe2
        clear hK K
        try simp only [Act.put, List.getElem_toArray, List.getElem_cons_zero, List.getElem_cons_succ, List.setIfInBounds_toArray, List.set_cons_zero, List.set_cons_succ]
        refine wpAnyH_take (i := 6) (v := .bool false) rfl (by kernel_rfl) (by kernel_rfl) (by kernel_rfl) (fun _ _ _ h => h) (Or.inl ⟨by kernel_rfl, fun w0 hSw => yields_bin .neq 30 _ (.tmp 36) (.tmp 41) rfl _ _ _ rfl rfl (HNE.out _) (HGR.out _ .neq (.tmp 36) (.tmp 41))⟩) (by assumption) ?_
        try simp only [Act.put, List.getElem_toArray, List.getElem_cons_zero, List.getElem_cons_succ, List.setIfInBounds_toArray, List.set_cons_zero, List.set_cons_succ]
        refine wpAnyH_take (i := 7) (v := ?v4) rfl (by kernel_rfl) (by kernel_rfl) (by kernel_rfl) (fun _ _ _ h => h) (Or.inl ⟨by kernel_rfl, ?hy4⟩) (by assumption) ?rest4
        case hy4 => intro w hSw; (try dsimp only at hSw); go_simp; (try with_reducible rfl)
        try simp only [Act.put, List.getElem_toArray, List.getElem_cons_zero, List.getElem_cons_succ, List.setIfInBounds_toArray, List.set_cons_zero, List.set_cons_succ]
        refine wpAnyH_take (i := 8) (v := ?v5) rfl (by kernel_rfl) (by kernel_rfl) (by kernel_rfl) (fun _ _ _ h => h) (Or.inl ⟨by kernel_rfl, ?hy5⟩) (by assumption) ?rest5
        case hy5 => intro w hSw; (try dsimp only at hSw); go_simp; (try with_reducible rfl)
        try simp only [Act.put, List.getElem_toArray, List.getElem_cons_zero, List.getElem_cons_succ, List.setIfInBounds_toArray, List.set_cons_zero, List.set_cons_succ]
        refine wpAnyH_take (i := 9) (v := ?v6) rfl (by kernel_rfl) (by kernel_rfl) (by kernel_rfl) (fun _ _ _ h => h) (Or.inl ⟨by kernel_rfl, ?hy6⟩) (by assumption) ?rest6
        case hy6 => intro w hSw; (try dsimp only at hSw); go_simp; (try with_reducible rfl)
        try simp only [Act.put, List.getElem_toArray, List.getElem_cons_zero, List.getElem_cons_succ, List.setIfInBounds_toArray, List.set_cons_zero, List.set_cons_succ]
        refine wpAnyH_take (i := 10) (v := ?v7) rfl (by kernel_rfl) (by kernel_rfl) (by kernel_rfl) (fun _ _ _ h => h) (Or.inl ⟨by kernel_rfl, ?hy7⟩) (by assumption) ?rest7
        case hy7 => intro w hSw; (try dsimp only at hSw); go_simp; (try with_reducible rfl)
        try simp only [Act.put, List.getElem_toArray, List.getElem_cons_zero, List.getElem_cons_succ, List.setIfInBounds_toArray, List.set_cons_zero, List.set_cons_succ]
        refine wpAnyH_take (i := 11) (v := ?v8) rfl (by kernel_rfl) (by kernel_rfl) (by kernel_rfl) (fun _ _ _ h => h) (Or.inl ⟨by kernel_rfl, ?hy8⟩) (by assumption) ?rest8
        case hy8 => intro w hSw; (try dsimp only at hSw); go_simp; (try with_reducible rfl)
        try simp only [Act.put, List.getElem_toArray, List.getElem_cons_zero, List.getElem_cons_succ, List.setIfInBounds_toArray, List.set_cons_zero, List.set_cons_succ]
        refine wpAnyH_take (i := 12) (v := .slice xo bs.length xc) rfl (by kernel_rfl) (by kernel_rfl) (by kernel_rfl) (fun _ _ _ h => h) (Or.inl ⟨by kernel_rfl, fun w0 hSw => by have hc := (HC.out _ (HFd.out.trans hSw (fun _ _ e => e))).1; go_simp⟩) (by assumption) ?_
        try simp only [Act.put, List.getElem_toArray, List.getElem_cons_zero, List.getElem_cons_succ, List.setIfInBounds_toArray, List.set_cons_zero, List.set_cons_succ]
        refine wpAnyH_ready (rs := [13]) (by kernel_rfl) (by simp) ?_
        refine AllReadyH.cons rfl (fun K hK => ?_) AllReadyH.nil
        go_simp
        refine Calls.mono (kept_any g xo xc bs _ (HLd.out.fr hHeld (fun e => e)) (HC.out _ (HFd.out.trans hHeld (fun _ _ e => e))).2 (by have := HX3.out; omega)) ?_
        rintro e wf ⟨rfl, hFf⟩
        have hFf2 : Fr (fun _ => False) wd wf := hHeld.trans hFf (fun _ _ e => e)
        refine hK.out _ _ ?_ (fun hHeld => ?_)
        · exact hFf2
        clear hK K
        try simp only [Act.put, List.getElem_toArray, List.getElem_cons_zero, List.getElem_cons_succ, List.setIfInBounds_toArray, List.set_cons_zero, List.set_cons_succ]
        refine wpAnyH_take (i := 14) (v := ?v9) rfl (by kernel_rfl) (by kernel_rfl) (by kernel_rfl) (fun _ _ _ h => h) (Or.inl ⟨by kernel_rfl, ?hy9⟩) (by assumption) ?rest9
        case hy9 => intro w hSw; (try dsimp only at hSw); go_simp; (try with_reducible rfl)
        try simp only [Act.put, List.getElem_toArray, List.getElem_cons_zero, List.getElem_cons_succ, List.setIfInBounds_toArray, List.set_cons_zero, List.set_cons_succ]
        refine wpAnyH_take (i := 15) (v := ?v10) rfl (by kernel_rfl) (by kernel_rfl) (by kernel_rfl) (fun _ _ _ h => h) (Or.inl ⟨by kernel_rfl, ?hy10⟩) (by assumption) ?rest10
        case hy10 => intro w hSw; (try dsimp only at hSw); go_simp; (try with_reducible rfl)
        try simp only [Act.put, List.getElem_toArray, List.getElem_cons_zero, List.getElem_cons_succ, List.setIfInBounds_toArray, List.set_cons_zero, List.set_cons_succ]
        refine wpAnyH_done (by kernel_rfl) ?_ _
        have HDf := hideIt (HDd.out.fr hFf2 (fun e => e))
        have HLf := hideIt (HLd.out.fr hFf2 (fun e => e))
        have HRf := hideIt (HRd.out.keep (fun k hk _ => hFf2.block k hk (fun e => e)))
        have HFf := hideIt (HFd.out.trans hFf2 (fun _ _ e => e))
        have HOV := hideIt (over_some g bs.length (bs ++ marks bs.length) wf HLf.out (by rw [marks_len]; omega) (by rw [marks_len]; unfold maxLen; have := HX3.out; omega))
        rw [marks_len] at HOV
        clear hHeld hFe hFe2 hFf hFf2 HDd HLd HRd HAd HFd HIq HIL HOq HNE HGR
        go_wp2_with fail
        refine Calls.mono HOV.out ?_
        rintro e wg ⟨rfl, hFg⟩
        have HDg := hideIt (HDf.out.fr hFg (by have := HPG.out; omega))
        have HRg := hideIt (HRf.out.keep (fun k hk e => hFg.block k hk (by have := HAG.out k e; omega)))
        have HFg := hideIt (HFf.out.trans hFg (fun k hk e => by have := HGW.out; omega))
        have hc := (HC.out wg HFg.out).1
        try dsimp only at hc
        obtain ⟨e7, c7, w7, happ, hrow7, hF7, he7⟩ := app_row wg 27 ah ch m bs HRg.out (.slice xo bs.length xc) (HC.out wg HFg.out).2.src (by have := HX3.out; have := HM4.out; omega)
        have HAPP := hideIt happ
        have HD7 := hideIt (HDg.out.fr hF7 (fun e => by have := HS.out p e; omega))
        have HR7 := hideIt hrow7
        have HS7 := hideIt (show ∀ k, blk e7 k → p < k from fun k e => by
          rcases he7 with h | h
          · subst h; exact HS.out k e
          · rw [h] at e
            obtain ⟨a, e1, e2⟩ := e
            obtain rfl := Option.some.inj e1
            have e3 : wg.heap.size = k := e2
            have := HDg.out.lt
            omega)
        have HF7 := hideIt (HFg.out.trans hF7 (fun k hk e => by have := HS.out k e; have := HP.out; omega))
        have HQ1 := hideIt (gd_sum w7 p (m ++ bs) HD7.out (HG.out.fr0 HF7.out) (by have := HX3.out; have := HM4.out; rw [List.length_append]; omega))
        clear hFg HOV HDf HLf HRf HFf happ hrow7 hF7 he7 HDg HRg HFg
        go_wp2_with (first | (at_builtin; refine wpList_append_run _ rfl (.tmp 54) (.tmp 58) 27 27 rfl _ _ _ _ rfl rfl HAPP.out ?_))
        refine Calls.mono HQ1.out ?_
        rintro e w8 ⟨rfl, hF8⟩
        have HD8 := hideIt (HD7.out.fr hF8 (fun e => e))
        have HR8 := hideIt (HR7.out.keep (fun k hk _ => hF8.block k hk (fun e => e)))
        have HF8 := hideIt (HF7.out.trans hF8 (fun _ _ e => e))
        have HQ2 := hideIt (xsum_any ⟨e7, c7, m ++ bs⟩ w8 HR8.out.bt (by show (m ++ bs).length ≤ 4000; rw [List.length_append]; have := HX3.out; have := HM4.out; omega))
        unfold Bt.val at HQ2
        try dsimp only at HQ2
        rw [List.length_append] at HQ2
        have hnl : (Sha.sum (m ++ bs)).length = 32 := name_len _
        generalize Sha.sum (m ++ bs) = N2 at *
        have HNE := hideIt (fun w => show (binOp .neq 30 (.agg (bv N2).toArray) (.agg (bv N2).toArray)).run Tryd.prog w = .ok (.bool false) w by rw [ids_neq w N2 N2 hnl hnl]; simp)
        have HGR := hideIt (fun w (o : BinOp) (p q : Operand) => ids_grd w o p q N2 N2)
        clear hF8 HQ1 HAPP hc HD7 HR7 HF7 hnl
        go_wp2_with fail
        refine Calls.mono HQ2.out ?_
        rintro e w9 ⟨rfl, hF9⟩
        have HD9 := hideIt (HD8.out.fr hF9 (fun e => e))
        have HR9 := hideIt (HR8.out.keep (fun k hk _ => hF9.block k hk (fun e => e)))
        have HF9 := hideIt (HF8.out.trans hF9 (fun _ _ e => e))
        have HQ3 := hideIt (gd_len w9 p (m ++ bs) HD9.out)
        rw [List.length_append] at HQ3
        clear hF9 HQ2 HD8 HR8 HF8
        go_wp2_with (first | (refine wpList_bin_want (by rfl) .neq 30 30 (.tmp 61) (.tmp 63) rfl (.agg (bv N2).toArray) (.agg (bv N2).toArray) (.bool false) rfl rfl (HNE.out _) (HGR.out _ .neq (.tmp 61) (.tmp 63)) ?_))
        refine Calls.mono HQ3.out ?_
        rintro e wz ⟨rfl, rfl⟩
        clear HNE HGR HQ3
        go_wp2_with fail
        exact ⟨⟨i + 1, e7, c7, m ++ bs, by rw [List.length_append], by go_num, by omega, HD9, HR9, HS7, hideIt (by have := HX3.out; have := HMM.out; rw [List.length_append]; omega), HF9⟩, by simp [intOf]; omega⟩
      · obtain rfl : i = ls.length := by omega
        have HK := hideIt (hawake_any wr (HG.out.fr0 HF.out))
        go_wp2_with fail
        refine Calls.mono HK.out ?_
        rintro e w2 ⟨rfl, hF2⟩
        have HF2 := hideIt (HF.out.trans hF2 (fun _ _ e => e))
        clear hF2 HK
        go_wp2_with fail
        go_ret
        exact ⟨rfl, HF2.out⟩

end Go.Proofs.YtgnpdnkmhjocjaaDoor
