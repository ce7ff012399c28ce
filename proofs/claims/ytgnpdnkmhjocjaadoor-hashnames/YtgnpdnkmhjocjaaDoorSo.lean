/- Package hash: the name of a text (Parse), walked. -/
import Derived.Test.YtgnpdnkmhjocjaaDoorSn
namespace Go.Proofs.YtgnpdnkmhjocjaaDoor
open Go.RowKit Go.IntWalk
set_option linter.unusedSimpArgs false
set_option linter.unusedVariables false

theorem results_cell_row2 {P : Program} {fn : Func} {p q : Tmp} {ty tz : TypeId} (h : fn.results = #[.cell p ty, .cell q tz]) (tmps : Array Value) (w : World) (g g2 : Nat) (t t2 : TypeId) (cs cs2 : Array Value) (fr fr2 : Nat × Nat) (d d2 : TypeDesc)
    (hp : tmps.getD p undef = .pointer (some ⟨g, 0, none⟩)) (hg : w.heap[g]? = some (.cells cs t fr))
    (hu : P.underlying ty = some d) (hd : (match d with | .struct _ | .array _ _ => true | _ => false) = true) (hi : (P.info? ty).map (·.size) = some cs.size)
    (hp2 : tmps.getD q undef = .pointer (some ⟨g2, 0, none⟩)) (hg2 : w.heap[g2]? = some (.cells cs2 t2 fr2))
    (hu2 : P.underlying tz = some d2) (hd2 : (match d2 with | .struct _ | .array _ _ => true | _ => false) = true) (hi2 : (P.info? tz).map (·.size) = some cs2.size) :
    (results fn tmps).run P w = .ok (.tuple #[.agg cs, .agg cs2]) w := by
  have hp' : tmps[p]?.getD undef = .pointer (some ⟨g, 0, none⟩) := by simpa using hp
  have hq' : tmps[q]?.getD undef = .pointer (some ⟨g2, 0, none⟩) := by simpa using hp2
  simp [results, h, hp', hq', asAddr, Sem.run_bind, run_loadVar_row w g t ty cs fr d hg hu hd hi, run_loadVar_row w g2 t2 tz cs2 fr2 d2 hg2 hu2 hd2 hi2]

/-- Where a text's digits end. -/
def badAt : List UInt8 → Nat
  | [] => 0
  | c :: l => if isDg c.toNat then badAt l + 1 else 0
theorem badAt_le (l : List UInt8) : badAt l ≤ l.length := by
  induction l with
  | nil => exact Nat.le_refl _
  | cons c l ih => unfold badAt; split <;> simp <;> omega
theorem badAt_bad (l : List UInt8) : ∀ i, i < l.length → (∀ j, j < i → isDg (l.getD j 0).toNat = true) → isDg (l.getD i 0).toNat = false → badAt l = i := by
  induction l with
  | nil => intro i h; simp at h
  | cons c l ih =>
    intro i h ha hb
    cases i with
    | zero =>
      unfold badAt
      have : isDg c.toNat = false := hb
      rw [this]
      rfl
    | succ i =>
      unfold badAt
      have h0 : isDg c.toNat = true := ha 0 (by omega)
      rw [if_pos h0, ih i (by simpa using h) (fun j hj => ha (j + 1) (by omega)) hb]
theorem badAt_all (l : List UInt8) : (∀ j, j < l.length → isDg (l.getD j 0).toNat = true) → badAt l = l.length := by
  induction l with
  | nil => intro _; rfl
  | cons c l ih =>
    intro ha
    unfold badAt
    have h0 : isDg c.toNat = true := ha 0 (by simp)
    rw [if_pos h0, ih (fun j hj => ha (j + 1) (by simpa using hj))]
    rfl
/-- Two digits a byte. -/
def pairV : List UInt8 → List UInt8
  | a :: b :: l => UInt8.ofNat (16 * dgN a.toNat + dgN b.toNat) :: pairV l
  | _ => []
theorem pairV_get : ∀ (n : Nat) (l : List UInt8), l.length = 2 * n → (pairV l).length = n ∧ ∀ i, i < n → (pairV l).getD i 0 = UInt8.ofNat (16 * dgN (l.getD (2 * i) 0).toNat + dgN (l.getD (2 * i + 1) 0).toNat) := by
  intro n
  induction n with
  | zero =>
    intro l h
    obtain rfl := List.length_eq_zero_iff.1 (by simpa using h)
    exact ⟨rfl, fun i hi => by omega⟩
  | succ n ih =>
    intro l h
    match l, h with
    | a :: b :: l, h =>
      have := ih l (by simp at h; omega)
      refine ⟨by rw [pairV]; simp [this.1], fun i hi => ?_⟩
      cases i with
      | zero => rfl
      | succ i =>
        rw [pairV, show 2 * (i + 1) = 2 * i + 1 + 1 by omega]
        exact this.2 i (by omega)
    | [a], h => simp at h; omega
    | [], h => simp at h
theorem dgN_lt (c : Nat) : dgN c < 16 := by unfold dgN; split; omega; split <;> omega
/-- What a text tells: the name, what is wrong, and where. -/
def prs (l : List UInt8) : List UInt8 × Nat × Nat :=
  if badAt l < l.length then (zeros32, 4, badAt l) else if l.length = 64 then (pairV l, 0, 0) else (zeros32, 4, min l.length 64)

set_option maxRecDepth 100000 in
set_option maxHeartbeats 4000000 in
theorem hparse_any (s : ByteArray) (hs : s.size ≤ 9223372036854775807) (w : World) : Calls Tryd.prog 20 #[.string s] w fun e w' => e = .returned (.tuple #[.agg (bv (prs s.data.toList).1).toArray, .agg #[.int .i64 ((prs s.data.toList).2.1 : Int), .int .i64 ((prs s.data.toList).2.2 : Int)]]) ∧ Fr (fun _ => False) w w' := by
  obtain ⟨l, hl⟩ : ∃ l, s.data.toList = l := ⟨_, rfl⟩
  have hls : s.size = l.length := by rw [← hl, Array.length_toList]; rfl
  rw [hl]
  have hsi : ∀ i (h : i < s.size), s[i] = l.getD i 0 := fun i h => by
    subst hl
    have h2 : i < s.data.size := h
    simp [List.getD, ByteArray.getElem_eq_getElem_data, Array.getElem?_eq_getElem h2]
  have HSI := hideIt hsi
  clear hsi
  have HBB := hideIt (badAt_bad l)
  have HBA := hideIt (badAt_all l)
  have HF0 := hideIt (show Fr (fun _ => False) w ((w.alloc (.cells zA 30)).alloc (.cells #[.int .i64 0, .int .i64 0] 39)) from ((Fr.refl _ w).alloc _).alloc _)
  have HA0 := hideIt (show ((w.alloc (.cells zA 30)).alloc (.cells #[.int .i64 0, .int .i64 0] 39)).heap[w.heap.size]? = some (.cells zA 30 (0, 0)) from heap_old (heap_new rfl))
  have HB0 := hideIt (show ((w.alloc (.cells zA 30)).alloc (.cells #[.int .i64 0, .int .i64 0] 39)).heap[w.heap.size + 1]? = some (.cells #[.int .i64 0, .int .i64 0] 39 (0, 0)) from heap_new (by simp))
  go_enter Tryd.func20, Tryd.ntmps20
  go_wp2_with fail
  go_loopw [15] (fun s15 wr => ∃ i : Nat, s15 = .int .i64 i ∧ i ≤ l.length ∧ Hid (∀ j, j < i → isDg (l.getD j 0).toNat = true) ∧ Hid (wr.heap[w.heap.size]? = some (.cells zA 30 (0, 0))) ∧ Hid (wr.heap[w.heap.size + 1]? = some (.cells #[.int .i64 0, .int .i64 0] 39 (0, 0))) ∧ Hid (Fr (fun _ => False) w wr)) (fun s15 _ => l.length - (intOf s15).toNat)
  case atStart => exact ⟨0, rfl, by omega, hideIt (fun j hj => by omega), HA0, HB0, HF0⟩
  case round =>
    clear HA0 HB0 HF0
    obtain ⟨i, rfl, hi, HD, HA, HB, HF⟩ := hrel
    by_cases hlt : i < l.length
    · have hs1 := HSI.out i (by omega)
      obtain ⟨c, hc⟩ : ∃ c, l.getD i 0 = c := ⟨_, rfl⟩
      rw [hc] at hs1
      have hix : (i : Int) < (l.length : Int) := by omega
      have HCL := hideIt (hdigit_any c.toNat c.toNat_lt wr)
      by_cases hdg : isDg c.toNat = true
      · rw [hdg] at HCL
        have HDN := hideIt (show ∀ j, j < i + 1 → isDg (l.getD j 0).toNat = true from fun j hj => by
          by_cases e : j = i
          · subst e; rw [hc]; exact hdg
          · exact HD.out j (by omega))
        clear HBB HBA
        go_wp2_with fail
        refine Calls.mono HCL.out ?_
        rintro e w2 ⟨rfl, rfl⟩
        go_wp2_with fail
        go_roundw
        case measure => simp [intOf]; omega
        case rel => exact ⟨i + 1, by go_num, by omega, HDN, HA, HB, HF⟩
      · have hdf : isDg c.toNat = false := by simpa using hdg
        rw [hdf] at HCL
        have hbad := HBB.out i hlt HD.out (by rw [hc]; exact hdf)
        have HPR := hideIt (show prs l = (zeros32, 4, i) by unfold prs; rw [hbad, if_pos hlt])
        clear HBB HBA hbad
        go_wp2_with fail
        refine Calls.mono HCL.out ?_
        rintro e w2 ⟨rfl, rfl⟩
        have HI1 := hideIt (show (Tryd.prog.info? 30).map (·.size) = some (zA).size by kernel_rfl)
        have HI2 := hideIt (show (Tryd.prog.info? 39).map (·.size) = some (#[Value.int .i64 4, Value.int .i64 (i : Int)]).size by kernel_rfl)
        have HO1 := hideIt (show (zA).all (·.oneCell') = true by simp [bv, zA, Value.oneCell'])
        have HO2 := hideIt (show (#[Value.int .i64 4, Value.int .i64 (i : Int)]).all (·.oneCell') = true by simp [Value.oneCell'])
        have HS1 := hideIt (store_over (V := zA) HA.out (by rfl))
        have HT1 := hideIt (thereNew w2 w.heap.size zA 30 HA.out (zA).size (by rfl))
        have HW1 := hideIt (fun W1 (h : W1 = (w2).setCells w.heap.size 0 (zA).toList) => show W1.heap[w.heap.size]? = some (.cells (zA) 30 (0, 0)) ∧ W1.heap[w.heap.size + 1]? = some (.cells #[.int .i64 0, .int .i64 0] 39 (0, 0)) ∧ Fr (fun _ => False) w W1 by
          subst h
          exact ⟨HS1.out.1, (HS1.out.2.block (w.heap.size + 1) (Array.getElem?_eq_some_iff.1 HB.out).1 (by omega)).trans HB.out, HF.out.trans HS1.out.2 (fun i hi e => by omega)⟩)
        clear HS1 HA HB HF
        go_wp2_with (first | (refine wpList_store_abs rfl 30 (.tmp 2) (.tmp 27) rfl w.heap.size 0 (zA) rfl rfl HT1.out HI1.out HO1.out ?_; intro W1 hW1; obtain ⟨hA1, hB1, hF1⟩ := HW1.out W1 hW1; have HA1 := hideIt hA1; have HF1 := hideIt hF1; have HT2 := hideIt (thereNew W1 (w.heap.size + 1) _ 39 hB1 (#[Value.int .i64 4, Value.int .i64 (i : Int)]).size rfl); have HS2 := hideIt (store_over (V := #[Value.int .i64 4, Value.int .i64 (i : Int)]) hB1 rfl); clear hW1 hA1 hB1 hF1) | (refine wpList_store_abs rfl 39 (.tmp 3) (.tmp 29) rfl (w.heap.size + 1) 0 (#[Value.int .i64 4, Value.int .i64 (i : Int)]) rfl rfl HT2.out HI2.out HO2.out ?_; intro W2 hW2; have HW2 := hideIt hW2; clear hW2))
        refine bodyPost_ret (results_cell_row2 Tryd.results20 _ _ w.heap.size (w.heap.size + 1) 30 39 (zA) (#[Value.int .i64 4, Value.int .i64 (i : Int)]) (0, 0) (0, 0) _ _ rfl ?_ Tryd.underlying30 rfl HI1.out rfl ?_ Tryd.underlying39 rfl HI2.out) rfl ⟨?_, ?_⟩
        · rw [HW2.out]
          exact (HS2.out.2.block w.heap.size (Array.getElem?_eq_some_iff.1 HA1.out).1 (by omega)).trans HA1.out
        · rw [HW2.out]
          exact HS2.out.1
        · rw [HPR.out]; rfl
        · rw [HW2.out]
          exact HF1.out.trans HS2.out.2 (fun i hi e => by omega)
    · have hi9 : i = l.length := by omega
      subst hi9
      have hba := HBA.out HD.out
      clear HBB HBA
      by_cases h64 : l.length = 64
      · have hpl := (pairV_get 32 l (by omega)).1
        have HPG := hideIt (pairV_get 32 l (by omega)).2
        have HPR := hideIt (show prs l = (pairV l, 0, 0) by unfold prs; rw [hba, if_neg (by omega), if_pos h64])
        have HP0 := hideIt (show LaidG (pairV l) 0 (List.replicate 32 0) from ⟨by rw [hpl]; simp, fun i hi => by omega⟩)
        obtain ⟨q, hq⟩ : ∃ q, wr.heap.size = q := ⟨_, rfl⟩
        have HZ0 := hideIt (show (wr.alloc (.cells zA 30)).heap[q]? = some (.cells (bv (List.replicate 32 0)).toArray 30 (0, 0)) from heap_new hq.symm)
        have HA0 := hideIt (show (wr.alloc (.cells zA 30)).heap[w.heap.size]? = some (.cells zA 30 (0, 0)) from heap_old HA.out)
        have HB0 := hideIt (show (wr.alloc (.cells zA 30)).heap[w.heap.size + 1]? = some (.cells #[.int .i64 0, .int .i64 0] 39 (0, 0)) from heap_old HB.out)
        have HF0 := hideIt (HF.out.alloc (.cells zA 30))
        have hqa : w.heap.size + 1 < q := by have := (Array.getElem?_eq_some_iff.1 HB.out).1; omega
        have h64i : (l.length : Int) = 64 := by omega
        clear HA HB HF hba
        go_wp2_with fail
        have HH64 := hideIt h64
        clear h64 h64i
        go_loopw [39] (fun s39 wx => ∃ (i : Nat) (ds : List UInt8), s39 = .int .i64 i ∧ i ≤ 32 ∧ Hid (LaidG (pairV l) i ds) ∧ Hid (wx.heap[q]? = some (.cells (bv ds).toArray 30 (0, 0))) ∧ Hid (wx.heap[w.heap.size]? = some (.cells zA 30 (0, 0))) ∧ Hid (wx.heap[w.heap.size + 1]? = some (.cells #[.int .i64 0, .int .i64 0] 39 (0, 0))) ∧ Hid (Fr (fun _ => False) w wx)) (fun s39 _ => 32 - (intOf s39).toNat)
        case atStart => exact ⟨0, _, rfl, by omega, HP0, HZ0, HA0, HB0, HF0⟩
        case round =>
          clear HP0 HZ0 HA0 HB0 HF0
          obtain ⟨i, ds, rfl, hi32, HP, HZ, HA, HB, HF⟩ := hrel
          by_cases hlt2 : i < 32
          · have hb1 : 2 * i < s.size := by have := HH64.out; omega
            have hb2 : 2 * i + 1 < s.size := by have := HH64.out; omega
            have hs1 := HSI.out (2 * i) hb1
            have hs2 := HSI.out (2 * i + 1) hb2
            have hd1 := HD.out (2 * i) (by omega)
            have hd2 := HD.out (2 * i + 1) (by omega)
            have hpg := HPG.out i hlt2
            obtain ⟨c1, hc1⟩ : ∃ c, l.getD (2 * i) 0 = c := ⟨_, rfl⟩
            obtain ⟨c2, hc2⟩ : ∃ c, l.getD (2 * i + 1) 0 = c := ⟨_, rfl⟩
            rw [hc1] at hs1 hd1 hpg
            rw [hc2] at hs2 hd2 hpg
            have HC1 := hideIt (hdigit_any c1.toNat c1.toNat_lt wr)
            have HC2 := hideIt (hdigit_any c2.toNat c2.toNat_lt wr)
            rw [hd1] at HC1
            rw [hd2] at HC2
            have g1 := dgN_lt c1.toNat
            have g2 := dgN_lt c2.toNat
            generalize dgN c1.toNat = d1 at *
            generalize dgN c2.toNat = d2 at *
            obtain ⟨v, hv⟩ : ∃ v, UInt8.ofNat (16 * d1 + d2) = v := ⟨_, rfl⟩
            rw [hv] at hpg
            have hvn : (v.toNat : Int) = 16 * (d1 : Int) + (d2 : Int) := by
              rw [← hv]
              have : (UInt8.ofNat (16 * d1 + d2)).toNat = (16 * d1 + d2) % 256 := by simp
              rw [this]
              omega
            have hwm : IntKind.u8.wrap (16 * (d1 : Int)) = 16 * (d1 : Int) := by rw [IntKind.wrap_u8]; omega
            have hwa : IntKind.u8.wrap (16 * (d1 : Int) + (d2 : Int)) = (v.toNat : Int) := by rw [IntKind.wrap_u8, hvn]; omega
            have hw2 : IntKind.i64.wrap (2 * (i : Int)) = 2 * (i : Int) := by rw [IntKind.wrap_i64]; omega
            have hw3 : IntKind.i64.wrap (2 * (i : Int) + 1) = 2 * (i : Int) + 1 := by rw [IntKind.wrap_i64]; omega
            have hn2 : (2 * (i : Int)).toNat = 2 * i := by omega
            have hn3 : (2 * (i : Int) + 1).toNat = 2 * i + 1 := by omega
            have hi00 : (0 : Int) ≤ 2 * (i : Int) := by omega
            have hi01 : (0 : Int) ≤ 2 * (i : Int) + 1 := by omega
            have hi1 : (2 : Int) * (i : Int) + 1 < (l.length : Int) := by omega
            have hi0 : (2 : Int) * (i : Int) < (l.length : Int) := by omega
            have HLS := hideIt (HP.out.step (by rw [hpl]; exact hlt2) v hpg.symm)
            have hdl : ds.length = 32 := by have := HP.out.1; rw [hpl] at this; exact this
            have HST := hideIt (heap_setCell_same wr q i _ _ (.int .u8 (v.toNat : Int)) HZ.out)
            have hse : (bv ds).toArray.setIfInBounds i (.int .u8 (v.toNat : Int)) = (bv (ds.set i v)).toArray := by simp [bv, List.map_set]
            have HST := hideIt (by have := HST.out; rw [hse] at this; exact this)
            have hcq : wr.cell? ⟨q, i, none⟩ = some (.int .u8 ((ds.getD i 0).toNat : Int)) := cellOfHeap HZ.out i (by
              have hlt3 : i < ds.length := by omega
              simp [bv, List.getD, hlt3])
            have hfq := frozen_of_row wr q i _ _ HZ.out
            have hfr := (Fr.refl (fun k => k = q) wr).setCell (p := ⟨q, i, none⟩) (fun _ => rfl) (.int .u8 (v.toNat : Int))
            have HA2 := hideIt ((hfr.block w.heap.size (Array.getElem?_eq_some_iff.1 HA.out).1 (by omega)).trans HA.out)
            have HB2 := hideIt ((hfr.block (w.heap.size + 1) (Array.getElem?_eq_some_iff.1 HB.out).1 (by omega)).trans HB.out)
            have HF2 := hideIt (HF.out.trans hfr (fun k hk e => by omega))
            clear hv hvn hpg hse hfr HP HZ HA HB HF hdl hc1 hc2 hd1 hd2 HPG
            go_wp2_with fail
            refine Calls.mono HC1.out ?_
            rintro e w2 ⟨rfl, rfl⟩
            go_wp2_with fail
            refine Calls.mono HC2.out ?_
            rintro e w3 ⟨rfl, rfl⟩
            go_wp2_with fail
            go_roundw
            case measure => simp [intOf]; omega
            case rel => exact ⟨i + 1, _, by go_num, by omega, HLS, HST, HA2, HB2, HF2⟩
          · have hi9 : i = 32 := by omega
            subst hi9
            have hds : ds = pairV l := LaidG.all (by rw [hpl]; exact HP.out)
            subst hds
            have HR := hideIt (show wr.rangeAt q 0 (bv (pairV l)) from rangeOf HZ.out)
            have HIL := hideIt (show (Tryd.prog.info? 30).map (·.size) = some (bv (pairV l)).length by rw [bv_length, hpl]; kernel_rfl)
            clear HP HZ HPG
            have HI1 := hideIt (show (Tryd.prog.info? 30).map (·.size) = some ((bv (pairV l)).toArray).size by rw [List.size_toArray, bv_length, hpl]; kernel_rfl)
            have HI2 := hideIt (show (Tryd.prog.info? 39).map (·.size) = some (#[Value.int .i64 0, Value.int .i64 0]).size by kernel_rfl)
            have HO1 := hideIt (show ((bv (pairV l)).toArray).all (·.oneCell') = true by simp [bv, zA, Value.oneCell'])
            have HO2 := hideIt (show (#[Value.int .i64 0, Value.int .i64 0]).all (·.oneCell') = true by simp [Value.oneCell'])
            have HS1 := hideIt (store_over (V := (bv (pairV l)).toArray) HA.out (by rw [List.size_toArray, bv_length, hpl]; rfl))
            have HT1 := hideIt (thereNew wr w.heap.size zA 30 HA.out ((bv (pairV l)).toArray).size (by rw [List.size_toArray, bv_length, hpl]; rfl))
            have HW1 := hideIt (fun W1 (h : W1 = (wr).setCells w.heap.size 0 ((bv (pairV l)).toArray).toList) => show W1.heap[w.heap.size]? = some (.cells ((bv (pairV l)).toArray) 30 (0, 0)) ∧ W1.heap[w.heap.size + 1]? = some (.cells #[.int .i64 0, .int .i64 0] 39 (0, 0)) ∧ Fr (fun _ => False) w W1 by
              subst h
              exact ⟨HS1.out.1, (HS1.out.2.block (w.heap.size + 1) (Array.getElem?_eq_some_iff.1 HB.out).1 (by omega)).trans HB.out, HF.out.trans HS1.out.2 (fun i hi e => by omega)⟩)
            clear HS1 HA HB HF
            go_wp2_with (first | (refine wpList_store_abs rfl 30 (.tmp 2) (.tmp 66) rfl w.heap.size 0 ((bv (pairV l)).toArray) rfl rfl HT1.out HI1.out HO1.out ?_; intro W1 hW1; obtain ⟨hA1, hB1, hF1⟩ := HW1.out W1 hW1; have HA1 := hideIt hA1; have HF1 := hideIt hF1; have HT2 := hideIt (thereNew W1 (w.heap.size + 1) _ 39 hB1 (#[Value.int .i64 0, Value.int .i64 0]).size rfl); have HS2 := hideIt (store_over (V := #[Value.int .i64 0, Value.int .i64 0]) hB1 rfl); clear hW1 hA1 hB1 hF1) | (refine wpList_store_abs rfl 39 (.tmp 3) (.tmp 67) rfl (w.heap.size + 1) 0 (#[Value.int .i64 0, Value.int .i64 0]) rfl rfl HT2.out HI2.out HO2.out ?_; intro W2 hW2; have HW2 := hideIt hW2; clear hW2) | (refine wpList_load_mid rfl 30 (.tmp 7) rfl q 0 rfl (bv (pairV l)) _ HR.out Tryd.underlying30 rfl HIL.out ?_))
            refine bodyPost_ret (results_cell_row2 Tryd.results20 _ _ w.heap.size (w.heap.size + 1) 30 39 ((bv (pairV l)).toArray) (#[Value.int .i64 0, Value.int .i64 0]) (0, 0) (0, 0) _ _ rfl ?_ Tryd.underlying30 rfl HI1.out rfl ?_ Tryd.underlying39 rfl HI2.out) rfl ⟨?_, ?_⟩
            · rw [HW2.out]
              exact (HS2.out.2.block w.heap.size (Array.getElem?_eq_some_iff.1 HA1.out).1 (by omega)).trans HA1.out
            · rw [HW2.out]
              exact HS2.out.1
            · rw [HPR.out]; rfl
            · rw [HW2.out]
              exact HF1.out.trans HS2.out.2 (fun i hi e => by omega)
      · by_cases hsh : l.length < 64
        · have HPR := hideIt (show prs l = (zeros32, 4, l.length) by unfold prs; rw [hba, if_neg (by omega), if_neg h64, Nat.min_eq_left (by omega)])
          have hn64 : ¬ (l.length : Int) = 64 := by omega
          have hn65 : (l.length : Int) < 64 := by omega
          have HI1 := hideIt (show (Tryd.prog.info? 30).map (·.size) = some (zA).size by kernel_rfl)
          have HI2 := hideIt (show (Tryd.prog.info? 39).map (·.size) = some (#[Value.int .i64 4, Value.int .i64 (l.length : Int)]).size by kernel_rfl)
          have HO1 := hideIt (show (zA).all (·.oneCell') = true by simp [bv, zA, Value.oneCell'])
          have HO2 := hideIt (show (#[Value.int .i64 4, Value.int .i64 (l.length : Int)]).all (·.oneCell') = true by simp [Value.oneCell'])
          have HS1 := hideIt (store_over (V := zA) HA.out (by rfl))
          have HT1 := hideIt (thereNew wr w.heap.size zA 30 HA.out (zA).size (by rfl))
          have HW1 := hideIt (fun W1 (h : W1 = (wr).setCells w.heap.size 0 (zA).toList) => show W1.heap[w.heap.size]? = some (.cells (zA) 30 (0, 0)) ∧ W1.heap[w.heap.size + 1]? = some (.cells #[.int .i64 0, .int .i64 0] 39 (0, 0)) ∧ Fr (fun _ => False) w W1 by
            subst h
            exact ⟨HS1.out.1, (HS1.out.2.block (w.heap.size + 1) (Array.getElem?_eq_some_iff.1 HB.out).1 (by omega)).trans HB.out, HF.out.trans HS1.out.2 (fun i hi e => by omega)⟩)
          clear HS1 HA HB HF
          go_wp2_with (first | (refine wpList_store_abs rfl 30 (.tmp 2) (.tmp 34) rfl w.heap.size 0 (zA) rfl rfl HT1.out HI1.out HO1.out ?_; intro W1 hW1; obtain ⟨hA1, hB1, hF1⟩ := HW1.out W1 hW1; have HA1 := hideIt hA1; have HF1 := hideIt hF1; have HT2 := hideIt (thereNew W1 (w.heap.size + 1) _ 39 hB1 (#[Value.int .i64 4, Value.int .i64 (l.length : Int)]).size rfl); have HS2 := hideIt (store_over (V := #[Value.int .i64 4, Value.int .i64 (l.length : Int)]) hB1 rfl); clear hW1 hA1 hB1 hF1) | (refine wpList_store_abs rfl 39 (.tmp 3) (.tmp 38) rfl (w.heap.size + 1) 0 (#[Value.int .i64 4, Value.int .i64 (l.length : Int)]) rfl rfl HT2.out HI2.out HO2.out ?_; intro W2 hW2; have HW2 := hideIt hW2; clear hW2))
          refine bodyPost_ret (results_cell_row2 Tryd.results20 _ _ w.heap.size (w.heap.size + 1) 30 39 (zA) (#[Value.int .i64 4, Value.int .i64 (l.length : Int)]) (0, 0) (0, 0) _ _ rfl ?_ Tryd.underlying30 rfl HI1.out rfl ?_ Tryd.underlying39 rfl HI2.out) rfl ⟨?_, ?_⟩
          · rw [HW2.out]
            exact (HS2.out.2.block w.heap.size (Array.getElem?_eq_some_iff.1 HA1.out).1 (by omega)).trans HA1.out
          · rw [HW2.out]
            exact HS2.out.1
          · rw [HPR.out]; rfl
          · rw [HW2.out]
            exact HF1.out.trans HS2.out.2 (fun i hi e => by omega)
        · have HPR := hideIt (show prs l = (zeros32, 4, 64) by unfold prs; rw [hba, if_neg (by omega), if_neg h64, Nat.min_eq_right (by omega)])
          have hn64 : ¬ (l.length : Int) = 64 := by omega
          have hn65 : (64 : Int) < (l.length : Int) := by omega
          have HI1 := hideIt (show (Tryd.prog.info? 30).map (·.size) = some (zA).size by kernel_rfl)
          have HI2 := hideIt (show (Tryd.prog.info? 39).map (·.size) = some (#[Value.int .i64 4, Value.int .i64 64]).size by kernel_rfl)
          have HO1 := hideIt (show (zA).all (·.oneCell') = true by simp [bv, zA, Value.oneCell'])
          have HO2 := hideIt (show (#[Value.int .i64 4, Value.int .i64 64]).all (·.oneCell') = true by simp [Value.oneCell'])
          have HS1 := hideIt (store_over (V := zA) HA.out (by rfl))
          have HT1 := hideIt (thereNew wr w.heap.size zA 30 HA.out (zA).size (by rfl))
          have HW1 := hideIt (fun W1 (h : W1 = (wr).setCells w.heap.size 0 (zA).toList) => show W1.heap[w.heap.size]? = some (.cells (zA) 30 (0, 0)) ∧ W1.heap[w.heap.size + 1]? = some (.cells #[.int .i64 0, .int .i64 0] 39 (0, 0)) ∧ Fr (fun _ => False) w W1 by
            subst h
            exact ⟨HS1.out.1, (HS1.out.2.block (w.heap.size + 1) (Array.getElem?_eq_some_iff.1 HB.out).1 (by omega)).trans HB.out, HF.out.trans HS1.out.2 (fun i hi e => by omega)⟩)
          clear HS1 HA HB HF
          go_wp2_with (first | (refine wpList_store_abs rfl 30 (.tmp 2) (.tmp 34) rfl w.heap.size 0 (zA) rfl rfl HT1.out HI1.out HO1.out ?_; intro W1 hW1; obtain ⟨hA1, hB1, hF1⟩ := HW1.out W1 hW1; have HA1 := hideIt hA1; have HF1 := hideIt hF1; have HT2 := hideIt (thereNew W1 (w.heap.size + 1) _ 39 hB1 (#[Value.int .i64 4, Value.int .i64 64]).size rfl); have HS2 := hideIt (store_over (V := #[Value.int .i64 4, Value.int .i64 64]) hB1 rfl); clear hW1 hA1 hB1 hF1) | (refine wpList_store_abs rfl 39 (.tmp 3) (.tmp 38) rfl (w.heap.size + 1) 0 (#[Value.int .i64 4, Value.int .i64 64]) rfl rfl HT2.out HI2.out HO2.out ?_; intro W2 hW2; have HW2 := hideIt hW2; clear hW2))
          refine bodyPost_ret (results_cell_row2 Tryd.results20 _ _ w.heap.size (w.heap.size + 1) 30 39 (zA) (#[Value.int .i64 4, Value.int .i64 64]) (0, 0) (0, 0) _ _ rfl ?_ Tryd.underlying30 rfl HI1.out rfl ?_ Tryd.underlying39 rfl HI2.out) rfl ⟨?_, ?_⟩
          · rw [HW2.out]
            exact (HS2.out.2.block w.heap.size (Array.getElem?_eq_some_iff.1 HA1.out).1 (by omega)).trans HA1.out
          · rw [HW2.out]
            exact HS2.out.1
          · rw [HPR.out]; rfl
          · rw [HW2.out]
            exact HF1.out.trans HS2.out.2 (fun i hi e => by omega)

end Go.Proofs.YtgnpdnkmhjocjaaDoor
