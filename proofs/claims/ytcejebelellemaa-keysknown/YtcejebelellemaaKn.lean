/- Keys: Among, Meets. -/
import Derived.Test.YtcejebelellemaaKm
namespace Go.Proofs.Ytcejebelellemaa
open Go.RowKit Go.IntWalk
set_option linter.unusedSimpArgs false
set_option linter.unusedVariables false

theorem kjn_len : ∀ (r : List Sp) (last : Sp), (jn last r).length ≤ r.length + 1
  | [], _ => by simp [jn]
  | s :: r, last => by
    rw [jn]
    split
    · have := kjn_len r s
      simp only [List.length_cons]
      omega
    · have := kjn_len r (grow1 last s)
      simp only [List.length_cons]
      omega

theorem kj_len (l : List Sp) : (joinC l).length ≤ l.length := by
  have h : (sortC (fulls l)).length ≤ l.length := by rw [sortC_len]; exact fulls_len l
  unfold joinC
  generalize sortC (fulls l) = m at *
  cases m with
  | nil => simp [jl]
  | cons s r => exact Nat.le_trans (kjn_len r s) h

/-- Those of some that are in spans. -/
def amongL (l : List ByteArray) (s : List Sp) : List ByteArray := setL (l.filter fun k => hasB s k.toList)

set_option maxRecDepth 100000 in
set_option maxHeartbeats 1000000 in
theorem kamong_any (ao bo : Option Addr) (ca cb : Nat) (l : List ByteArray) (s : List Sp) (w : World) (h : l = [] ∨ KsAt w ao l) (hs : s = [] ∨ SpsAt w bo s) (hl : l.length ≤ 1000000) (hsl : s.length ≤ 1000000) (hk : ∀ x ∈ l, x.size ≤ maxLen) :
    Calls Try.prog 27 #[.slice ao l.length ca, .slice bo s.length cb] w (RisePost (amongL l s) w) := by
  have HH := hideIt h
  have HK := hideIt hk
  have hJ := hideIt (join_any bo cb s w hs (by omega))
  have HHB := hideIt (kj_has s)
  have HJD := hideIt (kj_jd s)
  have hjl := kj_len s
  clear h hs hk
  generalize joinC s = J at *
  have hmm := @run_makeMap Try.prog
  go_enter Try.func27, Try.ntmps27
  go_wp2_with fail
  refine Calls.mono hJ.out ?_
  rintro e w1 ⟨aoJ, capJ, rfl, hrow, hF, hn⟩
  have HF1 := hideIt hF
  have HROW := hideIt hrow.at
  clear hrow hF hn hJ
  go_wp2_with fail
  clear hmm
  go_loopw [14] (fun i wr => ∃ j : Nat, i = .int .i64 j ∧ j ≤ l.length ∧ Hid (SetAt wr w1.heap.size ((l.take j).filter fun k => hasB s k.toList)) ∧ Hid (Fr (fun _ => False) w1 wr)) (fun i _ => l.length - (intOf i).toNat)
  case atStart => exact ⟨0, rfl, Nat.zero_le _, hideIt (SetAt.made w1), hideIt ((Fr.refl _ w1).alloc _)⟩
  case round =>
    obtain ⟨j, rfl, hj, HS, HF⟩ := hrel
    by_cases hlt : j < l.length
    · obtain ⟨b, off, rfl, hbl, c0⟩ := KsAt.get (kats_fr0 HH.out (HF1.out.trans HF.out (fun _ _ e => e))) j hlt
      have HT := hideIt (List.take_succ_eq_append_getElem hlt)
      have HKJ := hideIt (HK.out _ (List.getElem_mem hlt))
      have hA := hideIt (by have := karea_any aoJ capJ J l[j] _ (Or.inr (HROW.out.fr0 HF.out)) HJD.out (by omega); rw [HHB.out] at this; exact this)
      have HLF := hideIt (show ((l.take j).filter fun k => hasB s k.toList).length < maxLen by have := List.length_filter_le (fun k => hasB s k.toList) (l.take j); rw [List.length_take] at this; unfold maxLen; omega)
      generalize l[j] = x at *
      by_cases hx : hasB s x.toList = true
      · have HT2 := hideIt (show ((l.take (j + 1)).filter fun k => hasB s k.toList) = ((l.take j).filter fun k => hasB s k.toList) ++ [x] by rw [HT.out, List.filter_append]; congr 1; rw [List.filter_cons, if_pos hx]; rfl)
        rw [hx] at hA
        clear hx
        go_wp2_with fail
        refine Calls.mono hA.out ?_
        rintro e w2 ⟨rfl, hF2⟩
        have HF2 := hideIt (HF.out.trans hF2 (fun _ _ e => e))
        obtain ⟨w3, hrun, hs3, hf3⟩ := (HS.out.fr hF2 (fun e => e)).put x HLF.out HKJ.out
        have HR := hideIt hrun
        have HS3 := hideIt hs3
        have HF3 := hideIt (HF2.out.trans hf3 (fun i hi e => by omega))
        clear hrun hs3 hf3 hF2 hA
        go_wp2_with (first | (at_mapUpdate; refine wpList_mapUpdate_run _ rfl _ _ _ _ rfl _ _ _ _ rfl rfl rfl HR.out ?_))
        go_roundw
        case measure => simp [intOf]; omega
        case rel => exact ⟨j + 1, by go_num, by omega, hideIt (by rw [HT2.out]; exact HS3.out), HF3⟩
      · have hx' : hasB s x.toList = false := by simpa using hx
        have HT2 := hideIt (show ((l.take (j + 1)).filter fun k => hasB s k.toList) = ((l.take j).filter fun k => hasB s k.toList) by rw [HT.out, List.filter_append, List.filter_cons, if_neg hx]; simp)
        rw [hx'] at hA
        clear hx hx'
        go_wp2_with fail
        refine Calls.mono hA.out ?_
        rintro e w2 ⟨rfl, hF2⟩
        have HF2 := hideIt (HF.out.trans hF2 (fun _ _ e => e))
        have HS2 := hideIt (HS.out.fr hF2 (fun e => e))
        clear hF2 hA
        go_wp2_with fail
        go_roundw
        case measure => simp [intOf]; omega
        case rel => exact ⟨j + 1, by go_num, by omega, hideIt (by rw [HT2.out]; exact HS2.out), HF2⟩
    · obtain rfl : j = l.length := by omega
      have hR := hideIt (krising_any w1.heap.size _ _ HS.out (by have := List.length_filter_le (fun k => hasB s k.toList) (l.take l.length); rw [List.length_take] at this; omega))
      rw [List.take_length, show setL (l.filter fun k => hasB s k.toList) = amongL l s from rfl] at hR
      go_wp2_with fail
      refine Calls.mono hR.out ?_
      rintro e w2 ⟨ao', cap', rfl, hrow, hF2, hnew⟩
      have HFIN := hideIt (show RisePost (amongL l s) w (.returned (.slice ao' (amongL l s).length cap')) w2 from ⟨ao', cap', rfl, hrow, (HF1.out.trans HF.out (fun _ _ e => e)).trans hF2 (fun _ _ e => e), fun k hk => Nat.le_trans (HF1.out.trans HF.out (fun _ _ e => e)).size (hnew k hk)⟩)
      clear hrow hF2 hnew hR
      go_wp2_with fail
      go_ret
      exact HFIN.out

theorem meets1_any (k : ByteArray) (p q g : Nat) (some_ : List ByteArray) (aoJ : Option Addr) (capJ : Nat) (J : List Sp) (w : World) (hp : w.cell? ⟨p, 0, none⟩ = some (.map (some g))) (hq : w.cell? ⟨q, 0, none⟩ = some (.slice aoJ J.length capJ)) (hs : SetAt w g some_) (hJ : J = [] ∨ SpsAt w aoJ J) (hj : Jd J) (hjl : J.length ≤ 1000000) (hk : k.size ≤ maxLen) :
    Calls Try.prog 41 #[.string k, .pointer (some ⟨p, 0, none⟩), .pointer (some ⟨q, 0, none⟩)] w fun e w' => e = .returned (.bool (inL some_ k || hasB J k.toList)) ∧ Fr (fun _ => False) w w' := by
  have hH := hideIt (ksethas_any g some_ k w hs hk)
  have HQ := hideIt hq
  have HA := hideIt (fun u (hF : Fr (fun _ => False) w u) => karea_any aoJ capJ J k u (ats_fr0 hJ hF) hj hjl)
  clear hs hJ hj hq
  generalize inL some_ k = v at *
  generalize hasB J k.toList = u at *
  go_enter Try.func41, Try.ntmps41
  go_wp2_with fail
  refine Calls.mono hH.out ?_
  rintro e w1 ⟨rfl, hF1⟩
  have HF1 := hideIt hF1
  have hq1 := hF1.cell0 HQ.out
  clear hF1 hH
  cases v with
  | true =>
    go_wp2_with fail
    go_ret
    exact ⟨rfl, HF1.out⟩
  | false =>
    go_wp2_with fail
    refine Calls.mono (HA.out _ HF1.out) ?_
    rintro e w2 ⟨rfl, hF2⟩
    have HF2 := hideIt (HF1.out.trans hF2 (fun _ _ e => e))
    clear hF2
    go_wp2_with fail
    go_ret
    exact ⟨by rw [Bool.false_or]; rfl, HF2.out⟩

/-- A key is among some, or in spans. -/
def metB (sm : List ByteArray) (s : List Sp) (k : ByteArray) : Bool := inL sm k || hasB s k.toList

/-- One of some is. -/
def meetsB (l sm : List ByteArray) (s : List Sp) : Bool := l.any (metB sm s)

set_option maxRecDepth 100000 in
set_option maxHeartbeats 1000000 in
theorem kidxf_any (ao : Option Addr) (cap : Nat) (l : List ByteArray) (p q : Nat) (f : ByteArray → Bool) (w : World) (h : l = [] ∨ KsAt w ao l) (hl : l.length ≤ 9223372036854775807)
    (hf : ∀ k ∈ l, ∀ u, Fr (fun _ => False) w u → Calls Try.prog 41 #[.string k, .pointer (some ⟨p, 0, none⟩), .pointer (some ⟨q, 0, none⟩)] u fun e w' => e = .returned (.bool (f k)) ∧ Fr (fun _ => False) u w') :
    Calls Try.prog 58 #[.slice ao l.length cap, .func (.func 41) #[] #[.pointer (some ⟨p, 0, none⟩), .pointer (some ⟨q, 0, none⟩)]] w fun e w' => ∃ n : Int, e = .returned (.int .i64 n) ∧ decide (0 ≤ n) = l.any f ∧ Fr (fun _ => False) w w' := by
  have HH := hideIt h
  have HC := hideIt hf
  clear h hf
  go_enter Try.func58, Try.ntmps58
  go_wp2_with fail
  go_loopw [8] (fun i wr => ∃ j : Nat, i = .int .i64 j ∧ j ≤ l.length ∧ Hid (∀ x ∈ l.take j, f x = false) ∧ Hid (Fr (fun _ => False) w wr)) (fun i _ => l.length - (intOf i).toNat)
  case atStart => exact ⟨0, rfl, Nat.zero_le _, hideIt (by simp), hideIt (Fr.refl _ _)⟩
  case round =>
    obtain ⟨j, rfl, hj, HB, HF⟩ := hrel
    by_cases hlt : j < l.length
    · obtain ⟨b, off, rfl, hbl, c0⟩ := KsAt.get (kats_fr0 HH.out HF.out) j hlt
      have HT := hideIt (List.take_succ_eq_append_getElem hlt)
      have HM := hideIt (List.getElem_mem hlt)
      have h1 := hideIt (HC.out l[j] (List.getElem_mem hlt) _ HF.out)
      generalize l[j] = x at *
      cases hx : f x with
      | true =>
        rw [hx] at h1
        have HX := hideIt hx
        clear hx
        go_wp2_with fail
        refine Calls.mono h1.out ?_
        rintro e w1 ⟨rfl, hF1⟩
        have HF1 := hideIt hF1
        clear hF1
        go_wp2_with fail
        go_ret
        refine ⟨j, rfl, ?_, HF.out.trans HF1.out (fun _ _ e => e)⟩
        have e1 : l.any f = true := List.any_eq_true.2 ⟨x, HM.out, HX.out⟩
        rw [e1]
        exact decide_eq_true (by omega)
      | false =>
        rw [hx] at h1
        have HX := hideIt hx
        clear hx
        go_wp2_with fail
        refine Calls.mono h1.out ?_
        rintro e w1 ⟨rfl, hF1⟩
        have HF1 := hideIt hF1
        clear hF1
        go_wp2_with fail
        go_roundw
        case measure => simp [intOf]; omega
        case rel => exact ⟨j + 1, by go_num, by omega, hideIt (fun y hy => by rw [HT.out] at hy; rcases List.mem_append.1 hy with e | e; exact HB.out y e; rw [List.mem_singleton.1 e]; exact HX.out), hideIt (HF.out.trans HF1.out (fun _ _ e => e))⟩
    · obtain rfl : j = l.length := by omega
      go_wp2_with fail
      go_ret
      refine ⟨-1, rfl, ?_, HF.out⟩
      have e1 : l.any f = false := List.any_eq_false.2 (fun x hx => by have := HB.out; rw [List.take_length] at this; simpa using this x hx)
      rw [e1]
      decide

set_option maxRecDepth 100000 in
set_option maxHeartbeats 1000000 in
theorem kmeets_any (ao so bo : Option Addr) (ca cs cb : Nat) (l sm : List ByteArray) (s : List Sp) (w : World) (h : l = [] ∨ KsAt w ao l) (hm : sm = [] ∨ KsAt w so sm) (hs : s = [] ∨ SpsAt w bo s) (hl : l.length ≤ 1000000) (hml : sm.length ≤ 1000000) (hsl : s.length ≤ 1000000) (hk : ∀ x ∈ l, x.size ≤ maxLen) (hmk : ∀ x ∈ sm, x.size ≤ maxLen) :
    Calls Try.prog 29 #[.slice ao l.length ca, .slice so sm.length cs, .slice bo s.length cb] w fun e w' => e = .returned (.bool (meetsB l sm s)) ∧ Fr (fun _ => False) w w' := by
  have e : allK [(so, cs, sm)] = sm := by simp [allK]
  have hG := hideIt (show Calls Try.prog 33 #[.slice (some ⟨w.heap.size, 0, none⟩) 1 1] (w.alloc (.cells #[.slice so sm.length cs] 22)) (GathPost sm (w.alloc (.cells #[.slice so sm.length cs] 22))) from by
    have := kgather_any w.heap.size 0 1 [(so, cs, sm)] _ (LsAt.one hm 22) (by simp) (by rw [e]; omega) (by rw [e]; exact hmk)
    rw [e] at this
    exact this)
  have HF0 := hideIt ((Fr.refl (fun _ => False) w).alloc (.cells #[.slice so sm.length cs] 22))
  have HH := hideIt h
  have HS := hideIt hs
  have HK := hideIt hk
  have HHB := hideIt (kj_has s)
  have HJD := hideIt (kj_jd s)
  have hjl := kj_len s
  clear h hm hs hk hmk e
  go_enter Try.func29, Try.ntmps29
  go_wp2_with fail
  refine Calls.mono hG.out ?_
  rintro e w1 ⟨g, rfl, hg, hset, hF1⟩
  have HF1 := hideIt (HF0.out.trans hF1 (fun _ _ e => e))
  have HSET := hideIt hset
  have hJ := hideIt (join_any bo cb s w1 (ats_fr0 HS.out HF1.out) (by omega))
  clear hset hF1 hg hG HF0
  generalize joinC s = J at *
  go_wp2_with fail
  refine Calls.mono hJ.out ?_
  rintro e w2 ⟨aoJ, capJ, rfl, hrow, hF2, hn⟩
  have HF2 := hideIt (HF1.out.trans hF2 (fun _ _ e => e))
  have HSET2 := hideIt (HSET.out.fr hF2 (fun e => e))
  have HROW := hideIt hrow.at
  clear hrow hF2 hn hJ HSET HF1
  have HF3 := hideIt ((HF2.out.alloc (.cells #[.map (some g)] 43)).alloc (.cells #[.slice aoJ J.length capJ] 47))
  have HF23 := hideIt (((Fr.refl (fun _ => False) w2).alloc (.cells #[.map (some g)] 43)).alloc (.cells #[.slice aoJ J.length capJ] 47))
  have HC1 := hideIt (show ((w2.alloc (.cells #[.map (some g)] 43)).alloc (.cells #[.slice aoJ J.length capJ] 47)).cell? ⟨w2.heap.size, 0, none⟩ = some (.map (some g)) from cellA (cellNew _ _ _ _ _ rfl) _)
  have HC2 := hideIt (show ((w2.alloc (.cells #[.map (some g)] 43)).alloc (.cells #[.slice aoJ J.length capJ] 47)).cell? ⟨w2.heap.size + 1, 0, none⟩ = some (.slice aoJ J.length capJ) from cellNew _ _ _ _ _ (by simp))
  have hI := hideIt (kidxf_any ao ca l w2.heap.size (w2.heap.size + 1) (metB sm s) ((w2.alloc (.cells #[.map (some g)] 43)).alloc (.cells #[.slice aoJ J.length capJ] 47)) (kats_fr0 HH.out HF3.out) (by omega) (fun k hkm u hF => by
    have := meets1_any k w2.heap.size (w2.heap.size + 1) g sm aoJ capJ J u (hF.cell0 HC1.out) (hF.cell0 HC2.out) (HSET2.out.fr (HF23.out.trans hF (fun _ _ e => e)) (fun e => e)) (Or.inr (HROW.out.fr0 (HF23.out.trans hF (fun _ _ e => e)))) HJD.out (by omega) (HK.out k hkm)
    rw [HHB.out] at this
    exact this))
  rw [show l.any (metB sm s) = meetsB l sm s from rfl] at hI
  clear HC1 HC2 HF23
  go_wp2_with (first | (go_at_call 40; go_in) | (go_at_call 58; refine Calls.mono hI.out ?_; rintro e w4 ⟨n, rfl, hn, hF4⟩))
  go_ret
  first | exact ⟨rb hn, HF3.out.trans hF4 (fun _ _ e => e)⟩ | exact ⟨rfl, HF3.out.trans hF4 (fun _ _ e => e)⟩

end Go.Proofs.Ytcejebelellemaa
