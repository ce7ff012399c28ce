/- WordBytes: as which bytes things are written: the walk. -/
import Derived.Test.YtahhpecgckiaaaaX5
namespace Go.Proofs.Ytahhpecgckiaaaa
open Go.RowKit Go.IntWalk
set_option linter.unusedSimpArgs false
set_option linter.unusedVariables false

/-- How many bytes a number is written as. -/
def sizeZ (n : Int) : Nat := if n < 0 then 0 else (sevens n.toNat).length
theorem size_z (n : Int) (hn : n ≤ 9223372036854775807) (z : Nat) (hz : sizeZ n = z) (w : World) : Calls Try.prog 15 #[.int .i64 n] w fun e w' => e = .returned (.int .i64 (z : Int)) ∧ w' = w := by
  subst hz
  unfold sizeZ
  by_cases h : n < 0
  · rw [if_pos h]
    exact size_neg n w h
  · rw [if_neg h]
    obtain ⟨m, rfl⟩ := Int.eq_ofNat_of_zero_le (Int.not_lt.1 h)
    exact size_nat m w (by omega)
theorem xsize_z (n : Int) (hn : n ≤ 9223372036854775807) (z : Nat) (hz : sizeZ n = z) (w : World) : Calls Try.prog 16 #[.int .i64 n] w fun e w' => e = .returned (.int .i64 (z : Int)) ∧ Fr (fun _ => False) w w' := by
  subst hz
  unfold sizeZ
  by_cases h : n < 0
  · rw [if_pos h]
    refine (xsize_neg n w h).mono ?_
    rintro e w' ⟨rfl, rfl⟩
    exact ⟨rfl, Fr.refl _ _⟩
  · rw [if_neg h]
    obtain ⟨m, rfl⟩ := Int.eq_ofNat_of_zero_le (Int.not_lt.1 h)
    exact xsize_nat m (by omega) w

theorem bytes_long (ao : Option Addr) (cap : Nat) (l : List Th) (w : World) (hL : l = [] ∨ ThsAt w ao l) (sL : ∀ x ∈ l, x.s.size ≤ 140737488355328) (hl : l.length ≤ maxLen) (hb : bulkyB l = true) :
    Calls Try.prog 3 #[.slice ao l.length cap] w fun e w' => e = .returned (.bool true) ∧ Fr (fun _ => False) w w' := by
  have HNW := hideIt (new_any w)
  have HBL := hideIt (fun w' (hF : Fr (fun _ => False) w w') => by have := bulky_any ao cap l w' (hL.imp id fun h => h.fr hF (fun _ _ _ e => e)) (sum_take l sL) hl; rw [hb] at this; exact this)
  clear hL sL hl hb
  go_enter Try.func3, Try.ntmps3
  go_wp2_with fail
  refine Calls.mono HNW.out ?_
  rintro e w1 ⟨rfl, _, hF1, _⟩
  have HF1 := hideIt hF1
  clear hF1
  go_wp2_with fail
  refine Calls.mono (HBL.out w1 HF1.out) ?_
  rintro e w1' ⟨rfl, rfl⟩
  go_wp2_with fail
  refine Calls.mono (awake_any _) ?_
  rintro e w2 ⟨rfl, hF2⟩
  have HF2 := hideIt hF2
  clear hF2
  go_wp2_with fail
  go_ret
  exact ⟨rfl, HF1.out.trans HF2.out (fun _ _ e => e)⟩

set_option maxRecDepth 100000 in
set_option maxHeartbeats 4000000 in
theorem bytes_slim (ao : Option Addr) (cap : Nat) (l : List Th) (w : World) (hL : l = [] ∨ ThsAt w ao l) (okL : ∀ x ∈ l, ThOk x) (sL : ∀ x ∈ l, x.s.size ≤ 140737488355328) (bl : bulkyB l = false) :
    Calls Try.prog 3 #[.slice ao l.length cap] w fun e w' => e = .returned (.bool true) ∧ Fr (fun _ => False) w w' := by
  have hll := (slim l bl).1
  have hsum : (l.map thW).sum ≤ 100000 := by rw [slim_sum]; have := slim l bl; omega
  have HNW := hideIt (new_any w)
  have HBL := hideIt (fun w' (hF : Fr (fun _ => False) w w') => by have := bulky_any ao cap l w' (hL.imp id fun h => h.fr hF (fun _ _ _ e => e)) (sum_take l sL) (by unfold maxLen; omega); rw [bl] at this; exact this)
  have HLL := hideIt hL
  have HOK := hideIt okL
  have HSM := hideIt hsum
  clear hL sL bl okL hsum
  go_enter Try.func3, Try.ntmps3
  go_wp2_with fail
  refine Calls.mono HNW.out ?_
  rintro e w1 ⟨rfl, hW1, hF1, hs1⟩
  have HF1 := hideIt hF1
  have HW1 := hideIt hW1
  have HS1 := hideIt hs1
  clear hF1 hW1 hs1
  go_wp2_with fail
  refine Calls.mono (HBL.out w1 HF1.out) ?_
  rintro e w1' ⟨rfl, rfl⟩
  clear HBL HNW
  go_wp2_with fail
  go_loopw [5] (fun i wr => ∃ (k : Nat) (aow : Option Addr) (capw : Nat) (aox : Option Addr) (capx : Nat) (s : List UInt8 × Bool) (xs : List UInt8) (bad : Bool), i = .int .i64 k ∧ k ≤ l.length ∧ Hid (s = wAll (l.take k)) ∧ Hid (xs = (l.take k).flatMap xEnc) ∧ Hid (bad = (l.take k).any badT) ∧
      Both w wr (w.heap.size + 1) w.heap.size aow capw s w1'.heap.size aox capx xs bad)
    (fun i _ => (l.length - intOf i).toNat)
  case atStart =>
    refine ⟨0, none, 0, none, 0, ([], false), [], false, rfl, Nat.zero_le _, hideIt rfl, hideIt rfl, hideIt rfl, ?_⟩
    have hF2 : Fr (fun _ => False) w1' (w1'.alloc (.cells #[.slice none 0 0, .bool false] 30)) := (Fr.refl _ _).alloc _
    have hs1 := HS1.out
    obtain ⟨at_, ea, hW⟩ := HW1.out
    have hnb : ∀ k, ¬ blk none k := fun k ⟨_, e, _⟩ => by cases e
    exact ⟨⟨at_, ea, hW.fr hF2 (fun e => e) (fun _ _ e => e)⟩, ⟨heap_new rfl, World.ownsRow_nil _ _ _ _, hnb _⟩, HF1.out.trans hF2 (fun _ _ e => e), ⟨by omega, fun k hk => by rcases hk with e | e; omega; exact absurd e (hnb k)⟩, ⟨by omega, fun k hk => absurd hk (hnb k)⟩, fun k hk => by
      rcases hk with e | e
      · exact ⟨by omega, fun e2 => by rcases e2 with e2 | e2; omega; exact absurd e2 (hnb k)⟩
      · exact absurd e (hnb k)⟩
  case round =>
    clear HW1 HF1
    obtain ⟨k, aow, capw, aox, capx, s, xs, bad, rfl, hk, HS, HX, HB, hB⟩ := hrel
    by_cases hlt : k < l.length
    · obtain ⟨b, off, rfl, hbl, hc⟩ : ∃ b off, ao = some ⟨b, off, none⟩ ∧ b < w.heap.size ∧ ∀ i (h : i < l.length), w.rangeAt b (off + i * 35) (thL l[i]) := by
        rcases HLL.out with h0 | ⟨_, h0⟩ | h0
        · rw [h0] at hlt
          exact absurd hlt (by simp)
        · rw [h0] at hlt
          exact absurd hlt (by simp)
        · exact h0
      have HC := hideIt (show ∀ w', Fr (fun _ => False) w w' → w'.rangeAt b (off + k * 35) (thL l[k]) from fun w' hF j v hv => (World.cell?_of_block (a := ⟨b, off + k * 35 + j, none⟩) (hF.block b hbl (fun e => e))).trans (hc k hlt j v hv))
      have hok := HOK.out l[k] (List.getElem_mem hlt)
      have hts := take_sum l k hlt
      have hwl := wAll_len (l.take k) (fun x hx => HOK.out x (List.mem_of_mem_take hx))
      have hxl := xEnc_short (l.take k) (fun x hx => HOK.out x (List.mem_of_mem_take hx))
      rw [← HS.out] at hwl
      rw [← HX.out] at hxl
      have hsm := HSM.out
      have HS2 := hideIt (show wTh l[k] s = wAll (l.take (k + 1)) by rw [wAll_take l k hlt, HS.out])
      have HX2 := hideIt (show xs ++ xEnc l[k] = (l.take (k + 1)).flatMap xEnc by rw [List.take_succ_eq_append_getElem hlt, List.flatMap_append, HX.out]; simp)
      have HB2 := hideIt (show (bad || badT l[k]) = (l.take (k + 1)).any badT by rw [List.take_succ_eq_append_getElem hlt, List.any_append, HB.out]; simp)
      clear hc
      generalize l[k] = x at *
      have hsb : s.1.length + thW x ≤ 100000 := by omega
      have hxb : xs.length + thW x ≤ 100000 := by omega
      have hn : x.n ≤ 9223372036854775807 := hok.n
      obtain ⟨z, hz⟩ : ∃ z, sizeZ x.n = z := ⟨_, rfl⟩
      have HSZ := hideIt (fun w => size_z x.n hn z hz w)
      have HXZ := hideIt (fun w => xsize_z x.n hn z hz w)
      have HWR := hideIt (write_any (w.heap.size + 1) w.heap.size aow capw s x hok wr hB.W (by omega))
      have HTI := hideIt (show (Try.prog.info? 35).map (·.size) = some (thL x).length by rw [thL_len _ hok.id]; exact Try.infoTh)
      have HR0 := hideIt (HC.out wr hB.F)
      have HOKX := hideIt hok
      have HBO := hideIt hB
      clear hz hts hwl hxl hsm hok hB HS HX HB
      go_wp2_with (first | (refine wpList_load_mid rfl 35 (.tmp 36) rfl b (off + k * 35) rfl (thL x) _ HR0.out Try.underlying35 rfl HTI.out ?_))
      refine Calls.mono HWR.out ?_
      rintro e w2 ⟨rfl, hWP⟩
      obtain ⟨aow2, capw2, hB2⟩ := HBO.out.wrote hWP
      have HB2' := hideIt hB2
      have cc := HC.out w2 hB2.F
      have c0 : w2.cell? ⟨b, off + k * 35, none⟩ = some (.int .i64 x.k) := cc 0 _ rfl
      have c1 : w2.cell? ⟨b, off + k * 35 + 1, none⟩ = some (.int .i64 x.n) := cc 1 _ rfl
      have c2 : w2.cell? ⟨b, off + k * 35 + 2, none⟩ = some (.string x.s) := cc 2 _ rfl
      have HID := hideIt (show w2.rangeAt b (off + k * 35 + 3) (bv x.id) from fun j v hv => by
        have := cc (3 + j) v (by rw [show 3 + j = j + 1 + 1 + 1 by omega]; simpa [thL] using hv)
        rw [Nat.add_assoc (off + k * 35)]
        exact this)
      have HIL := hideIt (show (Try.prog.info? 33).map (·.size) = some (bv x.id).length by rw [bv_length, HOKX.out.id]; exact Try.infoID)
      clear hWP hB2 cc HBO HWR HR0
      by_cases k0 : x.k = 0
      · have k0' : (x.k == 0) = true := by simp [k0]
        have HXI := hideIt (xint_any w1'.heap.size aox capx xs _ bad x.n w2 HB2'.out.X hn rfl (by unfold thW at hxb; have h9 := sevens_nine (n := x.n.toNat) (by omega); split <;> simp <;> omega))
        have HEN := hideIt (show xs ++ (if x.n < 0 then [] else sevens x.n.toNat) = xs ++ xEnc x ∧ (bad || decide (x.n < 0)) = (bad || badT x) by
          refine ⟨?_, by simp [badT, k0]⟩
          unfold xEnc badT encT
          by_cases hneg : x.n < 0 <;> simp [k0, hneg])
        rw [HEN.out.1, HEN.out.2] at HXI
        clear k0 HEN
        go_wp2_with fail
        refine Calls.mono HXI.out ?_
        rintro e w3 ⟨rfl, hXP⟩
        obtain ⟨aox2, capx2, hB3⟩ := HB2'.out.xed hXP
        rw [HS2.out, HX2.out, HB2.out] at hB3
        have HB3 := hideIt hB3
        have c1 : w3.cell? ⟨b, off + k * 35 + 1, none⟩ = some (.int .i64 x.n) := HC.out w3 hB3.F 1 _ rfl
        clear hXP hB3
        go_wp2_with fail
        have HSX := hideIt (show ∀ w', Fr (fun _ => False) w3 w' → w'.cell? ⟨b, off + k * 35 + 1, none⟩ = some (.int .i64 x.n) ∧ Fr (fun _ => False) w3 w' from fun w' hF' => ⟨HC.out w' (HB3.out.F.trans hF' (fun _ _ e => e)) 1 _ rfl, hF'⟩)
        go_region_held2 (fun w' => w'.cell? ⟨b, off + k * 35 + 1, none⟩ = some (.int .i64 x.n) ∧ Fr (fun _ => False) w3 w')
          (first | exact HSX.out _ (by assumption) | exact HSX.out _ ((Fr.refl _ _).drew))
          (first | (go_at_call 15; refine Calls.mono (HSZ.out _) ?_; rintro e wX ⟨rfl, rfl⟩) | (go_at_call 16; refine Calls.mono (HXZ.out _) ?_; rintro e wB ⟨rfl, hFB⟩; have hWB := Fr.trans ((Fr.refl (fun _ => False) w3).drew) hFB (fun _ _ e => e)))
        go_wp2_with fail
        go_roundw
        case measure => simp [intOf]; omega
        case rel => exact ⟨k + 1, aow2, capw2, aox2, capx2, _, _, _, by go_num, by omega, hideIt rfl, hideIt rfl, hideIt rfl, HB3.out.fr0 hWB⟩
      have k0' : (x.k == 0) = false := by simpa using k0
      by_cases k1 : x.k = 1
      · have k1' : (x.k == 1) = true := by simp [k1]
        have HXI := hideIt (xtext_any w1'.heap.size aox capx xs _ bad x.s w2 HB2'.out.X (by have := HOKX.out.s; omega) rfl (by unfold thW at hxb; have h9 := sevens_nine (n := x.s.size) HOKX.out.s; omega))
        have HEN := hideIt (show xs ++ sevens x.s.size ++ x.s.data.toList = xs ++ xEnc x ∧ bad = (bad || badT x) by
          refine ⟨?_, by simp [badT, k1]⟩
          simp [xEnc, badT, encT, k1])
        rw [HEN.out.1, HEN.out.2] at HXI
        clear k0 k1 HEN
        go_wp2_with fail
        refine Calls.mono HXI.out ?_
        rintro e w3 ⟨rfl, hXP⟩
        obtain ⟨aox2, capx2, hB3⟩ := HB2'.out.xed hXP
        rw [HS2.out, HX2.out, HB2.out] at hB3
        have HB3 := hideIt hB3
        have c1 : w3.cell? ⟨b, off + k * 35 + 1, none⟩ = some (.int .i64 x.n) := HC.out w3 hB3.F 1 _ rfl
        clear hXP hB3
        go_wp2_with fail
        have HSX := hideIt (show ∀ w', Fr (fun _ => False) w3 w' → w'.cell? ⟨b, off + k * 35 + 1, none⟩ = some (.int .i64 x.n) ∧ Fr (fun _ => False) w3 w' from fun w' hF' => ⟨HC.out w' (HB3.out.F.trans hF' (fun _ _ e => e)) 1 _ rfl, hF'⟩)
        go_region_held2 (fun w' => w'.cell? ⟨b, off + k * 35 + 1, none⟩ = some (.int .i64 x.n) ∧ Fr (fun _ => False) w3 w')
          (first | exact HSX.out _ (by assumption) | exact HSX.out _ ((Fr.refl _ _).drew))
          (first | (go_at_call 15; refine Calls.mono (HSZ.out _) ?_; rintro e wX ⟨rfl, rfl⟩) | (go_at_call 16; refine Calls.mono (HXZ.out _) ?_; rintro e wB ⟨rfl, hFB⟩; have hWB := Fr.trans ((Fr.refl (fun _ => False) w3).drew) hFB (fun _ _ e => e)))
        go_wp2_with fail
        go_roundw
        case measure => simp [intOf]; omega
        case rel => exact ⟨k + 1, aow2, capw2, aox2, capx2, _, _, _, by go_num, by omega, hideIt rfl, hideIt rfl, hideIt rfl, HB3.out.fr0 hWB⟩
      have k1' : (x.k == 1) = false := by simpa using k1
      by_cases k2 : x.k = 2
      · have k2' : (x.k == 2) = true := by simp [k2]
        have HXI := hideIt (xid_any w1'.heap.size aox capx xs x.id bad w2 HB2'.out.X HOKX.out.id (by unfold thW at hxb; omega))
        have HEN := hideIt (show xs ++ x.id = xs ++ xEnc x ∧ bad = (bad || badT x) by
          refine ⟨?_, by simp [badT, k2]⟩
          simp [xEnc, badT, encT, k2])
        rw [HEN.out.1, HEN.out.2] at HXI
        clear k0 k1 k2 HEN
        go_wp2_with (first | (refine wpList_load_mid rfl 33 (.tmp 68) rfl b (off + k * 35 + 3) rfl (bv x.id) _ HID.out Try.underlying33 rfl HIL.out ?_))
        refine Calls.mono HXI.out ?_
        rintro e w3 ⟨rfl, hXP⟩
        obtain ⟨aox2, capx2, hB3⟩ := HB2'.out.xed hXP
        rw [HS2.out, HX2.out, HB2.out] at hB3
        have HB3 := hideIt hB3
        have c1 : w3.cell? ⟨b, off + k * 35 + 1, none⟩ = some (.int .i64 x.n) := HC.out w3 hB3.F 1 _ rfl
        clear hXP hB3
        go_wp2_with fail
        have HSX := hideIt (show ∀ w', Fr (fun _ => False) w3 w' → w'.cell? ⟨b, off + k * 35 + 1, none⟩ = some (.int .i64 x.n) ∧ Fr (fun _ => False) w3 w' from fun w' hF' => ⟨HC.out w' (HB3.out.F.trans hF' (fun _ _ e => e)) 1 _ rfl, hF'⟩)
        go_region_held2 (fun w' => w'.cell? ⟨b, off + k * 35 + 1, none⟩ = some (.int .i64 x.n) ∧ Fr (fun _ => False) w3 w')
          (first | exact HSX.out _ (by assumption) | exact HSX.out _ ((Fr.refl _ _).drew))
          (first | (go_at_call 15; refine Calls.mono (HSZ.out _) ?_; rintro e wX ⟨rfl, rfl⟩) | (go_at_call 16; refine Calls.mono (HXZ.out _) ?_; rintro e wB ⟨rfl, hFB⟩; have hWB := Fr.trans ((Fr.refl (fun _ => False) w3).drew) hFB (fun _ _ e => e)))
        go_wp2_with fail
        go_roundw
        case measure => simp [intOf]; omega
        case rel => exact ⟨k + 1, aow2, capw2, aox2, capx2, _, _, _, by go_num, by omega, hideIt rfl, hideIt rfl, hideIt rfl, HB3.out.fr0 hWB⟩
      · have k2' : (x.k == 2) = false := by simpa using k2
        have HEN := hideIt (show xs = xs ++ xEnc x ∧ bad = (bad || badT x) by
          refine ⟨?_, by simp [badT, k0]⟩
          simp [xEnc, badT, encT, k0, k1, k2])
        have hB3 := HB2'.out
        rw [HEN.out.1, HEN.out.2] at hB3
        rw [HS2.out, HX2.out, HB2.out] at hB3
        have HB3 := hideIt hB3
        clear k0 k1 k2 HEN hB3
        go_wp2_with fail
        have HSX := hideIt (show ∀ w', Fr (fun _ => False) w2 w' → w'.cell? ⟨b, off + k * 35 + 1, none⟩ = some (.int .i64 x.n) ∧ Fr (fun _ => False) w2 w' from fun w' hF' => ⟨HC.out w' (HB3.out.F.trans hF' (fun _ _ e => e)) 1 _ rfl, hF'⟩)
        go_region_held2 (fun w' => w'.cell? ⟨b, off + k * 35 + 1, none⟩ = some (.int .i64 x.n) ∧ Fr (fun _ => False) w2 w')
          (first | exact HSX.out _ (by assumption) | exact HSX.out _ ((Fr.refl _ _).drew))
          (first | (go_at_call 15; refine Calls.mono (HSZ.out _) ?_; rintro e wX ⟨rfl, rfl⟩) | (go_at_call 16; refine Calls.mono (HXZ.out _) ?_; rintro e wB ⟨rfl, hFB⟩; have hWB := Fr.trans ((Fr.refl (fun _ => False) w2).drew) hFB (fun _ _ e => e)))
        go_wp2_with fail
        go_roundw
        case measure => simp [intOf]; omega
        case rel => exact ⟨k + 1, aow2, capw2, aox, capx, _, _, _, by go_num, by omega, hideIt rfl, hideIt rfl, hideIt rfl, HB3.out.fr0 hWB⟩
    · have hke : l.take k = l := List.take_of_length_le (by omega)
      rw [hke] at HS HX HB
      have hfl : s.2 = bad := by rw [HS.out, HB.out, wAll_flag]
      obtain ⟨s1, s2⟩ := s
      simp only at hfl
      subst hfl
      obtain ⟨at_, ea, hW⟩ := hB.W
      simp only at hW
      have hXX := hB.X
      have hFB := hB.F
      have hWl := hB.W.lt
      have hXl := hB.X.lts
      cases s2 with
      | true =>
        have HO := hideIt (fun w' (hF : Fr (fun _ => False) wr w') => out_bad (w.heap.size + 1) w.heap.size aow capw s1 at_ ea w' (hW.fr hF (fun e => e) (fun _ _ e => e)))
        have HX' := hideIt (fun w' (hF : Fr (fun _ => False) wr w') => xout_bad w1'.heap.size aox capx xs w' (hXX.fr hF (fun e => e) (fun _ _ e => e)))
        have HFB := hideIt hFB
        clear hW hXX hFB hWl hXl hB HS HX HB hke
        go_wp2_with fail
        refine Calls.mono (HO.out wr (Fr.refl _ _)) ?_
        rintro e w2 ⟨rfl, hF2⟩
        have HF2 := hideIt hF2
        clear hF2
        go_wp2_with fail
        refine Calls.mono (HX'.out w2 HF2.out) ?_
        rintro e w3 ⟨rfl, rfl⟩
        go_wp2_with fail
        refine Calls.mono (same_any none none 0 0 [] [] w3 (Or.inl ⟨rfl, rfl⟩) (Or.inl ⟨rfl, rfl⟩)) ?_
        rintro e w4 ⟨rfl, rfl⟩
        go_wp2_with fail
        refine Calls.mono (over_nil w4) ?_
        rintro e w5 ⟨rfl, rfl⟩
        go_wp2_with fail
        refine Calls.mono (HO.out w5 HF2.out) ?_
        rintro e w6 ⟨rfl, hF6⟩
        have HF6 := hideIt hF6
        clear hF6
        go_wp2_with fail
        refine Calls.mono (same_any none none 0 0 [] [] w6 (Or.inl ⟨rfl, rfl⟩) (Or.inl ⟨rfl, rfl⟩)) ?_
        rintro e w7 ⟨rfl, rfl⟩
        go_wp2_with fail
        refine Calls.mono (awake_any w7) ?_
        rintro e w8 ⟨rfl, hF8⟩
        have HF8 := hideIt hF8
        clear hF8
        go_wp2_with fail
        go_ret
        exact ⟨rfl, ((HFB.out.trans HF2.out (fun _ _ e => e)).trans HF6.out (fun _ _ e => e)).trans HF8.out (fun _ _ e => e)⟩
      | false =>
        have hbad : l.any badT = false := HB.out.symm
        have hs1x : s1 = xs := by
          have h1 := HS.out
          rw [wAll_good l hbad] at h1
          rw [HX.out, xEnc_good l hbad]
          exact congrArg Prod.fst h1
        subst hs1x
        have hsl : s1.length ≤ 100000 := by
          rw [HX.out]
          exact Nat.le_trans (xEnc_short l HOK.out) HSM.out
        have HO1 := hideIt (out_full (w.heap.size + 1) w.heap.size aow capw s1 at_ ea wr hW (by omega))
        have HO2 := hideIt (fun w' S (hF : Fr S wr w') (hS : ∀ k, k < wr.heap.size → ¬ S k) => out_ok (w.heap.size + 1) w.heap.size aow capw s1 at_ ea w' (hW.fr hF (hS _ hWl.1) (fun k hk => hS k (hWl.2 k hk))) (by omega))
        have HX' := hideIt (fun w' (hF : Fr (fun _ => False) wr w') => xout_ok w1'.heap.size aox capx s1 w' (hXX.fr hF (fun e => e) (fun _ _ e => e)) (by omega))
        have HFB := hideIt hFB
        have hss : (s1 == s1) = true := by simp
        clear hW hXX hFB hWl hXl hB HS HX HB hke hbad
        go_wp2_with fail
        refine Calls.mono HO1.out ?_
        rintro e w2 ⟨aoA, capA, rfl, hA, hF2, hnA⟩
        have HF2 := hideIt hF2
        have HA := hideIt hA
        have HNA := hideIt hnA
        clear hF2 hA hnA
        go_wp2_with fail
        refine Calls.mono (HX'.out w2 HF2.out) ?_
        rintro e w3 ⟨aoB, capB, rfl, hBr, hF3, hnB⟩
        have HF3 := hideIt hF3
        have HA3 := hideIt (HA.out.fr hF3 (fun _ _ e => e))
        have HBR := hideIt hBr.bs
        have HDB := hideIt (show ∀ k, blk aoB k → ¬ blk aoA k from fun k hk e => by have := hnB k hk; have := HA.out.lt e; omega)
        clear hF3 hBr hnB
        go_wp2_with fail
        refine Calls.mono (same_any aoA aoB capA capB s1 s1 w3 HA3.out.bs HBR.out) ?_
        rintro e w4 ⟨rfl, rfl⟩
        go_wp2_with fail
        refine Calls.mono (over_full aoA capA s1 w4 HA3.out) ?_
        rintro e w5 ⟨rfl, hF5⟩
        have HF5 := hideIt hF5
        have HF35 := hideIt (show Fr (fun k => wr.heap.size ≤ k) wr w5 from ((HF2.out.trans HF3.out (fun _ _ e => e)).mono (S' := fun k => wr.heap.size ≤ k) (fun _ e => e.elim)).trans hF5 (fun i hi e => HNA.out i e))
        have HB5 := hideIt (HBR.out.fr hF5 (fun k _ hk => HDB.out k hk))
        clear hF5
        go_wp2_with fail
        refine Calls.mono (HO2.out w5 _ HF35.out (fun k hk e => by omega)) ?_
        rintro e w6 ⟨aoC, capC, rfl, hCr, hF6, hnC⟩
        have HF6 := hideIt hF6
        have HCR := hideIt hCr.bs
        have HB6 := hideIt (HB5.out.fr hF6 (fun _ _ _ e => e))
        clear hF6 hCr hnC
        go_wp2_with fail
        refine Calls.mono (same_any aoC aoB capC capB s1 s1 w6 HCR.out HB6.out) ?_
        rintro e w7 ⟨rfl, rfl⟩
        go_wp2_with fail
        refine Calls.mono (awake_any w7) ?_
        rintro e w8 ⟨rfl, hF8⟩
        have HF8 := hideIt hF8
        clear hF8
        go_wp2_with fail
        go_ret
        have hsz := HFB.out.size
        exact ⟨rfl, ((HFB.out.trans HF35.out (fun i hi e => by omega)).trans HF6.out (fun _ _ e => e)).trans HF8.out (fun _ _ e => e)⟩

end Go.Proofs.Ytahhpecgckiaaaa
