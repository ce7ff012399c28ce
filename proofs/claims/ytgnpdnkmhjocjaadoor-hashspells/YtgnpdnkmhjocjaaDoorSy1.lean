/- Package hash, the document's: Parse, walked. -/
import Derived.Test.YtgnpdnkmhjocjaaDoorSy0
namespace Go.Proofs.YtgnpdnkmhjocjaaDoor
open Go.RowKit Go.IntWalk
set_option linter.unusedSimpArgs false
set_option linter.unusedVariables false

/-- What is laid of a name when so many digits are read. -/
def PtAt (l : List UInt8) (i : Nat) (ds : List UInt8) : Prop := ds.length = 32 ∧ ∀ k, k < 32 → ds.getD k 0 = UInt8.ofNat (if 2 * k + 1 < i then 16 * dgN (l.getD (2 * k) 0).toNat + dgN (l.getD (2 * k + 1) 0).toNat else if 2 * k < i then dgN (l.getD (2 * k) 0).toNat else 0)
theorem PtAt.zero (l : List UInt8) : PtAt l 0 (List.replicate 32 0) := ⟨by simp, fun k hk => by
  rw [if_neg (by omega), if_neg (by omega), List.getD_eq_getElem?_getD, List.getElem?_replicate, if_pos hk]
  rfl⟩
theorem PtAt.past {l : List UInt8} {i : Nat} {ds : List UInt8} (h : PtAt l i ds) (hi : 64 ≤ i) : PtAt l (i + 1) ds := ⟨h.1, fun k hk => by
  rw [h.2 k hk, if_pos (by omega), if_pos (by omega)]⟩
theorem PtAt.step {l : List UInt8} {i : Nat} {ds : List UInt8} (h : PtAt l i ds) (hi : i < 64) (v : UInt8) (hv : v.toNat = ((ds.getD (i / 2) 0).toNat * 16 + dgN (l.getD i 0).toNat) % 256) : PtAt l (i + 1) (ds.set (i / 2) v) := by
  refine ⟨by rw [List.length_set]; exact h.1, fun k hk => ?_⟩
  have hl := h.1
  have l1 := dgN_lt (l.getD i 0).toNat
  by_cases e : k = i / 2
  · subst e
    have hs : (ds.set (i / 2) v).getD (i / 2) 0 = v := by
      have : i / 2 < ds.length := by omega
      simp [List.getD, this]
    rw [hs]
    rw [h.2 (i / 2) hk] at hv
    apply UInt8.toNat_inj.1
    rw [hv]
    by_cases hp : i % 2 = 0
    · rw [if_neg (by omega), if_neg (by omega), if_neg (by omega), if_pos (by omega), show 2 * (i / 2) = i by omega]
      simp
    · have l2 := dgN_lt (l.getD (2 * (i / 2)) 0).toNat
      rw [if_neg (by omega), if_pos (by omega), if_pos (by omega), show l.getD (2 * (i / 2) + 1) 0 = l.getD i 0 by rw [show 2 * (i / 2) + 1 = i by omega]]
      generalize dgN (l.getD (2 * (i / 2)) 0).toNat = a at *
      generalize dgN (l.getD i 0).toNat = b at *
      simp
      omega
  · have hs : (ds.set (i / 2) v).getD k 0 = ds.getD k 0 := by simp [List.getD, List.getElem?_set, Ne.symm e]
    rw [hs, h.2 k hk]
    congr 1
    rcases (show (2 * k + 1 < i ∧ 2 * k + 1 < i + 1) ∨ (¬ 2 * k + 1 < i ∧ ¬ 2 * k + 1 < i + 1) by omega) with ⟨a, b⟩ | ⟨a, b⟩
    · rw [if_pos a, if_pos b]
    · rw [if_neg a, if_neg b]
      rcases (show (2 * k < i ∧ 2 * k < i + 1) ∨ (¬ 2 * k < i ∧ ¬ 2 * k < i + 1) by omega) with ⟨a, b⟩ | ⟨a, b⟩
      · rw [if_pos a, if_pos b]
      · rw [if_neg a, if_neg b]
theorem PtAt.all {l : List UInt8} {ds : List UInt8} (h : PtAt l 64 ds) (hl : l.length = 64) : ds = pairV l := by
  obtain ⟨p1, p2⟩ := pairV_get 32 l (by omega)
  apply List.ext_getElem (by rw [h.1, p1])
  intro k h1 h2
  have hk : k < 32 := by rw [← p1]; exact h2
  have e := (h.2 k hk).trans (by rw [if_pos (by omega), ← p2 k hk])
  simpa [List.getD, h1, h2] using e

set_option maxRecDepth 100000 in
set_option maxHeartbeats 4000000 in
theorem xparse_any (s : ByteArray) (hs : s.size ≤ 9223372036854775807) (w : World) : Calls Tryd.prog 21 #[.string s] w fun e w' => e = .returned (.tuple #[.agg (bv (prs s.data.toList).1).toArray, .agg #[.int .i64 ((prs s.data.toList).2.1 : Int), .int .i64 ((prs s.data.toList).2.2 : Int)]]) ∧ Fr (fun _ => False) w w' := by
  obtain ⟨l, hl⟩ : ∃ l, l = s.data.toList := ⟨_, rfl⟩
  have hsl : s.size = l.length := by rw [hl, Array.length_toList]; rfl
  rw [← hl]
  have hsi : ∀ i (h : i < s.size), s[i] = l.getD i 0 := fun i h => by
    subst hl
    have h2 : i < s.data.size := h
    simp [List.getD, ByteArray.getElem_eq_getElem_data, Array.getElem?_eq_getElem h2]
  obtain ⟨n, hn⟩ : ∃ n, w.heap.size = n := ⟨_, rfl⟩
  have HA0 := hideIt (show (((w.alloc (.cells zA 30)).alloc (.cells #[.int .i64 0, .int .i64 0] 39)).alloc (.cells zA 30)).heap[n]? = some (.cells zA 30 (0, 0)) from heap_old (heap_old (heap_new hn.symm)))
  have HB0 := hideIt (show (((w.alloc (.cells zA 30)).alloc (.cells #[.int .i64 0, .int .i64 0] 39)).alloc (.cells zA 30)).heap[n + 1]? = some (.cells #[.int .i64 0, .int .i64 0] 39 (0, 0)) from heap_old (heap_new (by simp [hn])))
  have HD0 := hideIt (show (((w.alloc (.cells zA 30)).alloc (.cells #[.int .i64 0, .int .i64 0] 39)).alloc (.cells zA 30)).heap[n + 1 + 1]? = some (.cells (bv (List.replicate 32 0)).toArray 30 (0, 0)) from heap_new (by simp [hn]))
  have HF0 := hideIt (show Fr (fun _ => False) w (((w.alloc (.cells zA 30)).alloc (.cells #[.int .i64 0, .int .i64 0] 39)).alloc (.cells zA 30)) from (((Fr.refl _ w).alloc _).alloc _).alloc _)
  have HP0 := hideIt (PtAt.zero l)
  have HNN := hideIt hn
  have HSI := hideIt hsi
  clear hsi hl
  go_enter Tryd.func21, Tryd.ntmps21
  go_wp2_with fail
  clear hn
  go_loopw [5] (fun s5 wr => ∃ (i : Nat) (ds : List UInt8), s5 = .int .i64 i ∧ i ≤ l.length ∧ Hid (PtAt l i ds) ∧ Hid (∀ j, j < i → isDg (l.getD j 0).toNat = true) ∧ Hid (wr.heap[n]? = some (.cells zA 30 (0, 0))) ∧ Hid (wr.heap[n + 1]? = some (.cells #[.int .i64 0, .int .i64 0] 39 (0, 0))) ∧ Hid (wr.heap[n + 1 + 1]? = some (.cells (bv ds).toArray 30 (0, 0))) ∧ Hid (Fr (fun _ => False) w wr)) (fun s5 _ => l.length - (intOf s5).toNat)
  case atStart => exact ⟨0, _, rfl, by omega, HP0, hideIt (fun j hj => by omega), HA0, HB0, HD0, HF0⟩
  case round =>
    clear HP0 HA0 HB0 HD0 HF0
    obtain ⟨i, ds, rfl, hi, HP, HDD, HA, HB, HD, HF⟩ := hrel
    by_cases hlt : i < l.length
    · have h1 : (i : Int) < (l.length : Int) := by omega
      have hch := HSI.out i (by omega)
      have HC := hideIt (xplace_any (l.getD i 0) wr)
      obtain ⟨c, hc⟩ : ∃ c, l.getD i 0 = c := ⟨_, rfl⟩
      rw [hc] at HC hch
      by_cases hdg : isDg c.toNat = true
      · have hpl : plc c.toNat = dgN c.toNat := by unfold plc; rw [if_pos hdg]
        have hd16 := dgN_lt c.toNat
        rw [hpl] at HC
        have HDD2 := hideIt (fun j (hj : j < i + 1) => show isDg (l.getD j 0).toNat = true by
          by_cases e : j = i
          · subst e; rw [hc]; exact hdg
          · exact HDD.out j (by omega))
        have hds := HP.out.1
        by_cases h64 : i < 64
        · have h64i : (i : Int) < 64 := by omega
          obtain ⟨v, hv⟩ : ∃ v : UInt8, v.toNat = ((ds.getD (i / 2) 0).toNat * 16 + dgN (l.getD i 0).toNat) % 256 := ⟨UInt8.ofNat (((ds.getD (i / 2) 0).toNat * 16 + dgN (l.getD i 0).toNat) % 256), by simp⟩
          have HP2 := hideIt (HP.out.step h64 v hv)
          rw [hc] at hv
          obtain ⟨q, hq⟩ : ∃ q, i / 2 = q := ⟨_, rfl⟩
          rw [hq] at hv HP2
          have hq32 : q < 32 := by omega
          have hqi : (q : Int) < 32 := by omega
          have e1 : (i : Int).tdiv 2 = (q : Int) := by rw [Int.tdiv_eq_ediv_of_nonneg (by omega)]; omega
          have e1b : (i : Int) / 2 = (q : Int) := by omega
          have e2 : IntKind.i64.wrap (q : Int) = (q : Int) := by rw [IntKind.wrap_i64]; omega
          have cq : wr.cell? ⟨n + 1 + 1, q, none⟩ = some (.int .u8 ((ds.getD q 0).toNat : Int)) := cellOfHeap HD.out q (by
            have h2 : q < ds.length := by omega
            simp [bv, List.getD, h2])
          have fq := frozen_of_row wr (n + 1 + 1) q _ _ HD.out
          have HST := hideIt (heap_setCell_same wr (n + 1 + 1) q _ _ (.int .u8 (v.toNat : Int)) HD.out)
          have hse : (bv ds).toArray.setIfInBounds q (.int .u8 (v.toNat : Int)) = (bv (ds.set q v)).toArray := by simp [bv, List.map_set]
          have HST := hideIt (by have := HST.out; rw [hse] at this; exact this)
          have hfr := (Fr.refl (fun k => k = n + 1 + 1) wr).setCell (p := ⟨n + 1 + 1, q, none⟩) (fun _ => rfl) (.int .u8 (v.toNat : Int))
          have HA2 := hideIt ((hfr.block n (Array.getElem?_eq_some_iff.1 HA.out).1 (by omega)).trans HA.out)
          have HB2 := hideIt ((hfr.block (n + 1) (Array.getElem?_eq_some_iff.1 HB.out).1 (by omega)).trans HB.out)
          have HF2 := hideIt (HF.out.trans hfr (fun k hk e => by have := HNN.out; omega))
          have hld := (ds.getD q 0).toNat_lt
          generalize (ds.getD q 0).toNat = u at *
          generalize dgN c.toNat = d at *
          generalize hvn : v.toNat = vn at *
          have w1 : IntKind.u8.wrap ((u : Int) * 16) = (((u * 16) % 256 : Nat) : Int) := by rw [IntKind.wrap_u8]; omega
          have w2 : IntKind.u8.wrap (d : Int) = (d : Int) := by rw [IntKind.wrap_u8]; omega
          obtain ⟨um, hum⟩ : ∃ m, (u * 16) % 256 = m := ⟨_, rfl⟩
          rw [hum] at w1
          have w3 : IntKind.u8.wrap ((um : Int) + (d : Int)) = (vn : Int) := by rw [IntKind.wrap_u8]; omega
          have hne : ¬ (d : Int) = 16 := by omega
          have hne2 : ¬ d = 16 := by omega
          clear hv hum hse hfr HP HD HA HB HF hds hc hq hpl
          go_wp2_with fail
          refine Calls.mono HC.out ?_
          rintro e w2 ⟨rfl, rfl⟩
          go_wp2_with fail
          go_roundw
          case measure => simp [intOf]; omega
          case rel => exact ⟨i + 1, _, by go_num, by omega, HP2, HDD2, HA2, HB2, HST, HF2⟩
        · have h64i : ¬ (i : Int) < 64 := by omega
          have h64j : (64 : Int) ≤ (i : Int) := by omega
          have HP2 := hideIt (HP.out.past (by omega))
          generalize dgN c.toNat = d at *
          have hne : ¬ (d : Int) = 16 := by omega
          have hne2 : ¬ d = 16 := by omega
          have hwi : IntKind.i64.wrap ((i : Int) + 1) = (i : Int) + 1 := by rw [IntKind.wrap_i64]; omega
          clear HP hds hc hpl
          go_wp2_with fail
          refine Calls.mono HC.out ?_
          rintro e w2 ⟨rfl, rfl⟩
          go_wp2_with fail
          go_roundw
          case measure => simp [intOf]; omega
          case rel => exact ⟨i + 1, _, by go_num, by omega, HP2, HDD2, HA, HB, HD, HF⟩
      · have hdg2 : isDg c.toNat = false := by simpa using hdg
        have hpl : plc c.toNat = 16 := by unfold plc; rw [if_neg hdg]
        rw [hpl] at HC
        have hba : badAt l = i := badAt_bad l i hlt HDD.out (by rw [hc]; exact hdg2)
        have HPR := hideIt (show prs l = (zeros32, 4, i) by unfold prs; rw [hba, if_pos hlt])
        clear HP HDD hc hpl hdg hdg2 hba HD
        have HI1 := hideIt (show (Tryd.prog.info? 30).map (·.size) = some (zA).size by kernel_rfl)
        have HI2 := hideIt (show (Tryd.prog.info? 39).map (·.size) = some (#[Value.int .i64 4, Value.int .i64 (i : Int)]).size by kernel_rfl)
        have HO1 := hideIt (show (zA).all (·.oneCell') = true by simp [bv, zA, Value.oneCell'])
        have HO2 := hideIt (show (#[Value.int .i64 4, Value.int .i64 (i : Int)]).all (·.oneCell') = true by simp [Value.oneCell'])
        have HS1 := hideIt (store_over (V := zA) HA.out (by rfl))
        have HT1 := hideIt (thereNew wr n zA 30 HA.out (zA).size (by rfl))
        have HW1 := hideIt (fun W1 (h : W1 = (wr).setCells n 0 (zA).toList) => show W1.heap[n]? = some (.cells (zA) 30 (0, 0)) ∧ W1.heap[n + 1]? = some (.cells #[.int .i64 0, .int .i64 0] 39 (0, 0)) ∧ Fr (fun _ => False) w W1 by
          subst h
          exact ⟨HS1.out.1, (HS1.out.2.block (n + 1) (Array.getElem?_eq_some_iff.1 HB.out).1 (by omega)).trans HB.out, HF.out.trans HS1.out.2 (fun i hi e => by have := HNN.out; omega)⟩)
        clear HS1 HA HB HF
        go_wp2_with fail
        refine Calls.mono HC.out ?_
        rintro e w2 ⟨rfl, rfl⟩
        go_wp2_with (first | (refine wpList_store_abs rfl 30 (.tmp 2) (.tmp 19) rfl n 0 (zA) rfl rfl HT1.out HI1.out HO1.out ?_; intro W1 hW1; obtain ⟨hA1, hB1, hF1⟩ := HW1.out W1 hW1; have HA1 := hideIt hA1; have HF1 := hideIt hF1; have HT2 := hideIt (thereNew W1 (n + 1) _ 39 hB1 (#[Value.int .i64 4, Value.int .i64 (i : Int)]).size rfl); have HS2 := hideIt (store_over (V := #[Value.int .i64 4, Value.int .i64 (i : Int)]) hB1 rfl); clear hW1 hA1 hB1 hF1) | (refine wpList_store_abs rfl 39 (.tmp 3) (.tmp 21) rfl (n + 1) 0 (#[Value.int .i64 4, Value.int .i64 (i : Int)]) rfl rfl HT2.out HI2.out HO2.out ?_; intro W2 hW2; have HW2 := hideIt hW2; clear hW2))
        refine bodyPost_ret (results_cell_row2 Tryd.results21 _ _ n (n + 1) 30 39 (zA) (#[Value.int .i64 4, Value.int .i64 (i : Int)]) (0, 0) (0, 0) _ _ rfl ?_ Tryd.underlying30 rfl HI1.out rfl ?_ Tryd.underlying39 rfl HI2.out) rfl ⟨?_, ?_⟩
        · rw [HW2.out]
          exact (HS2.out.2.block n (Array.getElem?_eq_some_iff.1 HA1.out).1 (by omega)).trans HA1.out
        · rw [HW2.out]
          exact HS2.out.1
        · rw [HPR.out]; rfl
        · rw [HW2.out]
          exact HF1.out.trans HS2.out.2 (fun i hi e => by have := HNN.out; omega)
    · obtain rfl : i = l.length := by omega
      have hba : badAt l = l.length := badAt_all l HDD.out
      have HDS := hideIt HP.out.1
      by_cases h64 : l.length = 64
      · have HPR := hideIt (show prs l = (pairV l, 0, 0) by unfold prs; rw [hba, if_neg (by omega), if_pos h64])
        have hds : ds = pairV l := by
          have := HP.out
          rw [h64] at this
          exact this.all h64
        subst hds
        have hpl : (pairV l).length = 32 := HDS.out
        have HR := hideIt (show wr.rangeAt (n + 1 + 1) 0 (bv (pairV l)) from rangeOf HD.out)
        have HIL := hideIt (show (Tryd.prog.info? 30).map (·.size) = some (bv (pairV l)).length by rw [bv_length, hpl]; kernel_rfl)
        have h64i : (l.length : Int) = 64 := by omega
        clear HP HDD hba HD
        have HI1 := hideIt (show (Tryd.prog.info? 30).map (·.size) = some ((bv (pairV l)).toArray).size by rw [List.size_toArray, bv_length, hpl]; kernel_rfl)
        have HI2 := hideIt (show (Tryd.prog.info? 39).map (·.size) = some (#[Value.int .i64 0, Value.int .i64 0]).size by kernel_rfl)
        have HO1 := hideIt (show ((bv (pairV l)).toArray).all (·.oneCell') = true by simp [bv, zA, Value.oneCell'])
        have HO2 := hideIt (show (#[Value.int .i64 0, Value.int .i64 0]).all (·.oneCell') = true by simp [Value.oneCell'])
        have HS1 := hideIt (store_over (V := (bv (pairV l)).toArray) HA.out (by rw [List.size_toArray, bv_length, hpl]; rfl))
        have HT1 := hideIt (thereNew wr n zA 30 HA.out ((bv (pairV l)).toArray).size (by rw [List.size_toArray, bv_length, hpl]; rfl))
        have HW1 := hideIt (fun W1 (h : W1 = (wr).setCells n 0 ((bv (pairV l)).toArray).toList) => show W1.heap[n]? = some (.cells ((bv (pairV l)).toArray) 30 (0, 0)) ∧ W1.heap[n + 1]? = some (.cells #[.int .i64 0, .int .i64 0] 39 (0, 0)) ∧ Fr (fun _ => False) w W1 by
          subst h
          exact ⟨HS1.out.1, (HS1.out.2.block (n + 1) (Array.getElem?_eq_some_iff.1 HB.out).1 (by omega)).trans HB.out, HF.out.trans HS1.out.2 (fun i hi e => by have := HNN.out; omega)⟩)
        clear HS1 HA HB HF
        go_wp2_with (first | (refine wpList_store_abs rfl 30 (.tmp 2) (.tmp 43) rfl n 0 ((bv (pairV l)).toArray) rfl rfl HT1.out HI1.out HO1.out ?_; intro W1 hW1; obtain ⟨hA1, hB1, hF1⟩ := HW1.out W1 hW1; have HA1 := hideIt hA1; have HF1 := hideIt hF1; have HT2 := hideIt (thereNew W1 (n + 1) _ 39 hB1 (#[Value.int .i64 0, Value.int .i64 0]).size rfl); have HS2 := hideIt (store_over (V := #[Value.int .i64 0, Value.int .i64 0]) hB1 rfl); clear hW1 hA1 hB1 hF1) | (refine wpList_store_abs rfl 39 (.tmp 3) (.tmp 44) rfl (n + 1) 0 (#[Value.int .i64 0, Value.int .i64 0]) rfl rfl HT2.out HI2.out HO2.out ?_; intro W2 hW2; have HW2 := hideIt hW2; clear hW2) | (refine wpList_load_mid rfl 30 (.tmp 4) rfl (n + 1 + 1) 0 rfl (bv (pairV l)) _ HR.out Tryd.underlying30 rfl HIL.out ?_))
        refine bodyPost_ret (results_cell_row2 Tryd.results21 _ _ n (n + 1) 30 39 ((bv (pairV l)).toArray) (#[Value.int .i64 0, Value.int .i64 0]) (0, 0) (0, 0) _ _ rfl ?_ Tryd.underlying30 rfl HI1.out rfl ?_ Tryd.underlying39 rfl HI2.out) rfl ⟨?_, ?_⟩
        · rw [HW2.out]
          exact (HS2.out.2.block n (Array.getElem?_eq_some_iff.1 HA1.out).1 (by omega)).trans HA1.out
        · rw [HW2.out]
          exact HS2.out.1
        · rw [HPR.out]; rfl
        · rw [HW2.out]
          exact HF1.out.trans HS2.out.2 (fun i hi e => by have := HNN.out; omega)
      · have HPR := hideIt (show prs l = (zeros32, 4, min l.length 64) by unfold prs; rw [hba, if_neg (by omega), if_neg h64])
        have hs64 : ¬ (l.length : Int) = 64 := by omega
        clear HP HDD hba HD HDS
        by_cases hsh : l.length < 64
        · rw [Nat.min_eq_left (by omega)] at HPR
          have hs65 : (l.length : Int) < 64 := by omega
          clear h64 hsh
          have HI1 := hideIt (show (Tryd.prog.info? 30).map (·.size) = some (zA).size by kernel_rfl)
          have HI2 := hideIt (show (Tryd.prog.info? 39).map (·.size) = some (#[Value.int .i64 4, Value.int .i64 (l.length : Int)]).size by kernel_rfl)
          have HO1 := hideIt (show (zA).all (·.oneCell') = true by simp [bv, zA, Value.oneCell'])
          have HO2 := hideIt (show (#[Value.int .i64 4, Value.int .i64 (l.length : Int)]).all (·.oneCell') = true by simp [Value.oneCell'])
          have HS1 := hideIt (store_over (V := zA) HA.out (by rfl))
          have HT1 := hideIt (thereNew wr n zA 30 HA.out (zA).size (by rfl))
          have HW1 := hideIt (fun W1 (h : W1 = (wr).setCells n 0 (zA).toList) => show W1.heap[n]? = some (.cells (zA) 30 (0, 0)) ∧ W1.heap[n + 1]? = some (.cells #[.int .i64 0, .int .i64 0] 39 (0, 0)) ∧ Fr (fun _ => False) w W1 by
            subst h
            exact ⟨HS1.out.1, (HS1.out.2.block (n + 1) (Array.getElem?_eq_some_iff.1 HB.out).1 (by omega)).trans HB.out, HF.out.trans HS1.out.2 (fun i hi e => by have := HNN.out; omega)⟩)
          clear HS1 HA HB HF
          go_wp2_with (first | (refine wpList_store_abs rfl 30 (.tmp 2) (.tmp 38) rfl n 0 (zA) rfl rfl HT1.out HI1.out HO1.out ?_; intro W1 hW1; obtain ⟨hA1, hB1, hF1⟩ := HW1.out W1 hW1; have HA1 := hideIt hA1; have HF1 := hideIt hF1; have HT2 := hideIt (thereNew W1 (n + 1) _ 39 hB1 (#[Value.int .i64 4, Value.int .i64 (l.length : Int)]).size rfl); have HS2 := hideIt (store_over (V := #[Value.int .i64 4, Value.int .i64 (l.length : Int)]) hB1 rfl); clear hW1 hA1 hB1 hF1) | (refine wpList_store_abs rfl 39 (.tmp 3) (.tmp 42) rfl (n + 1) 0 (#[Value.int .i64 4, Value.int .i64 (l.length : Int)]) rfl rfl HT2.out HI2.out HO2.out ?_; intro W2 hW2; have HW2 := hideIt hW2; clear hW2))
          refine bodyPost_ret (results_cell_row2 Tryd.results21 _ _ n (n + 1) 30 39 (zA) (#[Value.int .i64 4, Value.int .i64 (l.length : Int)]) (0, 0) (0, 0) _ _ rfl ?_ Tryd.underlying30 rfl HI1.out rfl ?_ Tryd.underlying39 rfl HI2.out) rfl ⟨?_, ?_⟩
          · rw [HW2.out]
            exact (HS2.out.2.block n (Array.getElem?_eq_some_iff.1 HA1.out).1 (by omega)).trans HA1.out
          · rw [HW2.out]
            exact HS2.out.1
          · rw [HPR.out]; rfl
          · rw [HW2.out]
            exact HF1.out.trans HS2.out.2 (fun i hi e => by have := HNN.out; omega)
        · rw [Nat.min_eq_right (by omega)] at HPR
          have hs65 : (64 : Int) < (l.length : Int) := by omega
          clear h64 hsh
          have HI1 := hideIt (show (Tryd.prog.info? 30).map (·.size) = some (zA).size by kernel_rfl)
          have HI2 := hideIt (show (Tryd.prog.info? 39).map (·.size) = some (#[Value.int .i64 4, Value.int .i64 64]).size by kernel_rfl)
          have HO1 := hideIt (show (zA).all (·.oneCell') = true by simp [bv, zA, Value.oneCell'])
          have HO2 := hideIt (show (#[Value.int .i64 4, Value.int .i64 64]).all (·.oneCell') = true by simp [Value.oneCell'])
          have HS1 := hideIt (store_over (V := zA) HA.out (by rfl))
          have HT1 := hideIt (thereNew wr n zA 30 HA.out (zA).size (by rfl))
          have HW1 := hideIt (fun W1 (h : W1 = (wr).setCells n 0 (zA).toList) => show W1.heap[n]? = some (.cells (zA) 30 (0, 0)) ∧ W1.heap[n + 1]? = some (.cells #[.int .i64 0, .int .i64 0] 39 (0, 0)) ∧ Fr (fun _ => False) w W1 by
            subst h
            exact ⟨HS1.out.1, (HS1.out.2.block (n + 1) (Array.getElem?_eq_some_iff.1 HB.out).1 (by omega)).trans HB.out, HF.out.trans HS1.out.2 (fun i hi e => by have := HNN.out; omega)⟩)
          clear HS1 HA HB HF
          go_wp2_with (first | (refine wpList_store_abs rfl 30 (.tmp 2) (.tmp 38) rfl n 0 (zA) rfl rfl HT1.out HI1.out HO1.out ?_; intro W1 hW1; obtain ⟨hA1, hB1, hF1⟩ := HW1.out W1 hW1; have HA1 := hideIt hA1; have HF1 := hideIt hF1; have HT2 := hideIt (thereNew W1 (n + 1) _ 39 hB1 (#[Value.int .i64 4, Value.int .i64 64]).size rfl); have HS2 := hideIt (store_over (V := #[Value.int .i64 4, Value.int .i64 64]) hB1 rfl); clear hW1 hA1 hB1 hF1) | (refine wpList_store_abs rfl 39 (.tmp 3) (.tmp 42) rfl (n + 1) 0 (#[Value.int .i64 4, Value.int .i64 64]) rfl rfl HT2.out HI2.out HO2.out ?_; intro W2 hW2; have HW2 := hideIt hW2; clear hW2))
          refine bodyPost_ret (results_cell_row2 Tryd.results21 _ _ n (n + 1) 30 39 (zA) (#[Value.int .i64 4, Value.int .i64 64]) (0, 0) (0, 0) _ _ rfl ?_ Tryd.underlying30 rfl HI1.out rfl ?_ Tryd.underlying39 rfl HI2.out) rfl ⟨?_, ?_⟩
          · rw [HW2.out]
            exact (HS2.out.2.block n (Array.getElem?_eq_some_iff.1 HA1.out).1 (by omega)).trans HA1.out
          · rw [HW2.out]
            exact HS2.out.1
          · rw [HPR.out]; rfl
          · rw [HW2.out]
            exact HF1.out.trans HS2.out.2 (fun i hi e => by have := HNN.out; omega)

end Go.Proofs.YtgnpdnkmhjocjaaDoor
