/- Package hash, the document's: a block's words (schedule), walked. -/
import Derived.Test.YtgnpdnkmhjocjaaDoorSw6
namespace Go.Proofs.YtgnpdnkmhjocjaaDoor
open Go.RowKit Go.IntWalk
set_option linter.unusedSimpArgs false
set_option linter.unusedVariables false

theorem cellFr {w w' : World} {a : Addr} {v : Value} (hF : Fr (fun _ => False) w w') (h : w.cell? a = some v) : w'.cell? a = some v := (World.cell?_of_block (hF.block a.block (block_lt_of_cell h) (fun e => e))).trans h
theorem word_step (b : List UInt8) (t i : Nat) (hl : b.length = 64) (ht : t < 16) (hi : i < 4) : Sha.word ((b.drop (4 * t)).take (i + 1)) = Sha.word ((b.drop (4 * t)).take i) * 256 + (b.getD (4 * t + i) 0).toNat := by
  have h1 : i < (b.drop (4 * t)).length := by rw [List.length_drop]; omega
  rw [List.take_succ_eq_append_getElem h1, Sha.word_snoc]
  have h2 : 4 * t + i < b.length := by omega
  simp [List.getD, h2]
theorem word_small (b : List UInt8) (t i : Nat) (hi : i ≤ 3) : Sha.word ((b.drop (4 * t)).take i) < 16777216 := by
  have h1 := Sha.word_lt ((b.drop (4 * t)).take i)
  have h2 : ((b.drop (4 * t)).take i).length ≤ 3 := Nat.le_trans (List.length_take_le _ _) hi
  have h3 : 256 ^ ((b.drop (4 * t)).take i).length ≤ 256 ^ 3 := Nat.pow_le_pow_right (by decide) h2
  have : (256 : Nat) ^ 3 = 16777216 := by decide
  omega

set_option maxRecDepth 100000 in
set_option maxHeartbeats 8000000 in
theorem xsched_any (ao : Option Addr) (cap : Nat) (b : List UInt8) (hbl : b.length = 64) (w : World) (hB : BsAt w ao b) : Calls Tryd.prog 42 #[.slice ao 64 cap] w fun e w' => ∃ ao' cap', e = .returned (.slice ao' 64 cap') ∧ RowU w' 44 ao' cap' (Sha.sched b) ∧ Fr (fun _ => False) w w' := by
  obtain ⟨g0, off, rfl, hcb⟩ : ∃ g off, ao = some ⟨g, off, none⟩ ∧ ∀ j (h : j < b.length), w.cell? ⟨g, off + j, none⟩ = some (.int .u8 b[j].toNat) := by
    rcases hB with ⟨_, rfl⟩ | h
    · simp at hbl
    · exact h
  have HCB := hideIt (fun W (hF : Fr (fun _ => False) w W) j (h : j < 64) => show W.cell? ⟨g0, off + j, none⟩ = some (.int .u8 ((b.getD j 0).toNat : Int)) from cellFr hF (by
    have h2 : j < b.length := by omega
    have := hcb j h2
    rw [this]
    simp [List.getD, h2]))
  have HBL := hideIt hbl
  clear hB hcb hbl
  go_enter Tryd.func42, Tryd.ntmps42
  go_wp2_with fail
  go_loopw [3, 4] (fun s3 s4 wr => ∃ (t : Nat) (a : Option Addr) (c : Nat) (ws : List Nat), s3 = .slice a t c ∧ s4 = .int .i64 t ∧ t ≤ 64 ∧ Hid (ws = Sha.so b t) ∧ Hid (ws.length = t) ∧ Hid (RowU wr 44 a c ws) ∧ Hid (Own w.heap.size a) ∧ Hid (Fr (fun _ => False) w wr)) (fun _ s4 _ => 64 - (intOf s4).toNat)
  case atStart => exact ⟨0, none, 0, [], rfl, rfl, by omega, hideIt (Sha.so_zero b).symm, hideIt rfl, hideIt (rowU_nil _ _), hideIt (fun i e => by obtain ⟨x, e, _⟩ := e; cases e), hideIt (Fr.refl _ _)⟩
  case round =>
    obtain ⟨t, a, c, ws, rfl, rfl, ht, HW, HL, HR, HO, HF⟩ := hrel
    by_cases hlt : t < 64
    · have h1 : (t : Int) < 64 := by omega
      by_cases hlow : t < 16
      · have h2 : (t : Int) < 16 := by omega
        have HS := hideIt (Sha.so_low b t hlow)
        have HST := hideIt (fun i (hi : i < 4) => word_step b t i HBL.out hlow hi)
        have HSM := hideIt (fun i (hi : i ≤ 3) => word_small b t i hi)
        go_wp2_with fail
        go_loopw [5, 6] (fun s5 s6 wx => ∃ (i x : Nat), s5 = .int .u32 x ∧ s6 = .int .i64 i ∧ i ≤ 4 ∧ Hid (x = Sha.word ((b.drop (4 * t)).take i)) ∧ Hid (wx = wr)) (fun _ s6 _ => 4 - (intOf s6).toNat)
        case atStart => exact ⟨0, 0, rfl, rfl, by omega, hideIt rfl, hideIt rfl⟩
        case round =>
          obtain ⟨i, x, rfl, rfl, hi, HX, HWX⟩ := hrel
          obtain rfl := HWX.out
          by_cases hil : i < 4
          · have h3 : (i : Int) < 4 := by omega
            have hcell := HCB.out _ HF.out (4 * t + i) (by omega)
            have hstep := HST.out i hil
            have hsm := HSM.out i (by omega)
            have hu := (b.getD (4 * t + i) 0).toNat_lt
            rw [← HX.out] at hstep hsm
            generalize (b.getD (4 * t + i) 0).toNat = u at *
            have HX2 := hideIt hstep.symm
            have w1 : IntKind.u32.wrap ((x : Int) * 256) = (((x * 256 : Nat)) : Int) := by rw [IntKind.wrap_u32]; omega
            have w1b : IntKind.u32.wrap (u : Int) = (u : Int) := by rw [IntKind.wrap_u32]; omega
            obtain ⟨y, hy⟩ : ∃ y, x * 256 = y := ⟨_, rfl⟩
            rw [hy] at w1 HX2
            have w2 : IntKind.u32.wrap ((y : Int) + (u : Int)) = ((y + u : Nat) : Int) := by rw [IntKind.wrap_u32]; omega
            obtain ⟨z, hz⟩ : ∃ z, y + u = z := ⟨_, rfl⟩
            rw [hz] at w2 HX2
            have w3 : IntKind.i64.wrap (4 * (t : Int)) = 4 * (t : Int) := by rw [IntKind.wrap_i64]; omega
            have w4 : IntKind.i64.wrap (4 * (t : Int) + (i : Int)) = 4 * (t : Int) + (i : Int) := by rw [IntKind.wrap_i64]; omega
            have n1 : (0 : Int) ≤ 4 * (t : Int) + (i : Int) := by omega
            have n2 : 4 * (t : Int) + (i : Int) < 64 := by omega
            have n3 : (4 * (t : Int) + (i : Int)).toNat = 4 * t + i := by omega
            clear hstep hsm hu hy hz HX HST HSM
            go_wp2_with fail
            go_roundw
            case measure => simp [intOf]; omega
            case rel => exact ⟨i + 1, z, rfl, by go_num, by omega, hideIt HX2.out, hideIt trivial⟩
          · have hi4 : i = 4 := by omega
            have hn4 : ¬ (i : Int) < 4 := by omega
            obtain ⟨a2, c2, w2, hr, hrow, hF2, hn, _⟩ := app_one wr a c ws x HR.out (by rw [HL.out]; omega)
            rw [HL.out] at hr
            have HAP := hideIt hr
            have HW2 := hideIt (show ws ++ [x] = Sha.so b (t + 1) by rw [HS.out, HW.out, HX.out, hi4])
            have HL2 := hideIt (show (ws ++ [x]).length = t + 1 by rw [List.length_append, HL.out]; rfl)
            have HR2 := hideIt hrow
            have HO2 := hideIt (HO.out.grow hn (by have := HF.out.size; omega))
            have HF2 := hideIt (HF.out.trans hF2 (fun i hi e => by have := HO.out i e; omega))
            clear hr hrow hF2 hn HX hi4 HW HR HO HST HSM HS
            go_wp2_with (first | (at_builtin; refine wpList_append_run _ rfl (.tmp 28) (.tmp 30) 60 60 rfl _ _ _ _ rfl rfl HAP.out ?_))
            exact ⟨⟨t + 1, a2, c2, ws ++ [x], rfl, by go_num, by omega, HW2, HL2, HR2, HO2, HF2⟩, by simp [intOf]; omega⟩
      · have h2 : ¬ (t : Int) < 16 := by omega
        have h2b : (16 : Int) ≤ (t : Int) := by omega
        have HS := hideIt (Sha.so_high b t (by omega) hlt)
        have hm : ∀ j, j < t → ws.getD j 0 < 4294967296 := fun j hj => Sha.so_lt b t _ (by rw [← HW.out]; exact getD_mem' (by rw [HL.out]; exact hj))
        rw [← HW.out] at HS
        obtain ⟨g, rfl, hcell⟩ : ∃ g, a = some ⟨g, 0, none⟩ ∧ ∀ j, j < t → wr.cell? ⟨g, j, none⟩ = some (.int .u32 (ws.getD j 0 : Nat)) := by
          rcases HR.out.form with ⟨_, e, _⟩ | ⟨g, cur, e, _⟩
          · have := HL.out; rw [e] at this; simp at this; omega
          · subst e
            exact ⟨g, rfl, fun j hj => HR.out.cell j (by rw [HL.out]; exact hj)⟩
        have k2 := hcell (t - 2) (by omega)
        have k7 := hcell (t - 7) (by omega)
        have k15 := hcell (t - 15) (by omega)
        have k16 := hcell (t - 16) (by omega)
        have l2 := hm (t - 2) (by omega)
        have l15 := hm (t - 15) (by omega)
        have HEX := hideIt (fun W (v : Nat) (c : Nat) (hRW : RowU W 44 (some ⟨g, 0, none⟩) c (ws ++ [v])) j (hj : j < t) => show W.cell? ⟨g, j, none⟩ = some (.int .u32 (ws.getD j 0 : Nat)) by
          have h := hRW.cell j (by rw [List.length_append, HL.out]; simp; omega)
          have hj2 : j < ws.length := by rw [HL.out]; exact hj
          rw [h]
          simp [List.getD, List.getElem?_append_left hj2, hj2])
        have HE2 := hideIt (fun W v c (h : RowU W 44 (some ⟨g, 0, none⟩) c (ws ++ [v])) => HEX.out W v c h (t - 2) (by omega))
        have HE7 := hideIt (fun W v c (h : RowU W 44 (some ⟨g, 0, none⟩) c (ws ++ [v])) => HEX.out W v c h (t - 7) (by omega))
        have HE15 := hideIt (fun W v c (h : RowU W 44 (some ⟨g, 0, none⟩) c (ws ++ [v])) => HEX.out W v c h (t - 15) (by omega))
        have HE16 := hideIt (fun W v c (h : RowU W 44 (some ⟨g, 0, none⟩) c (ws ++ [v])) => HEX.out W v c h (t - 16) (by omega))
        clear HEX
        generalize ws.getD (t - 2) 0 = a2 at *
        generalize ws.getD (t - 7) 0 = a7 at *
        generalize ws.getD (t - 15) 0 = a15 at *
        generalize ws.getD (t - 16) 0 = a16 at *
        have HK := hideIt (fun W (hF : Fr (fun _ => False) wr W) => show W.cell? ⟨g, t - 2, none⟩ = some (.int .u32 (a2 : Int)) ∧ W.cell? ⟨g, t - 7, none⟩ = some (.int .u32 (a7 : Int)) ∧ W.cell? ⟨g, t - 15, none⟩ = some (.int .u32 (a15 : Int)) ∧ W.cell? ⟨g, t - 16, none⟩ = some (.int .u32 (a16 : Int)) from ⟨cellFr hF k2, cellFr hF k7, cellFr hF k15, cellFr hF k16⟩)
        have m2 : (2 : Int) ≤ (t : Int) := by omega
        have m7 : (7 : Int) ≤ (t : Int) := by omega
        have m15 : (15 : Int) ≤ (t : Int) := by omega
        have q2 : IntKind.i64.wrap ((t : Int) - 2) = (t : Int) - 2 := by rw [IntKind.wrap_i64]; omega
        have q7 : IntKind.i64.wrap ((t : Int) - 7) = (t : Int) - 7 := by rw [IntKind.wrap_i64]; omega
        have q15 : IntKind.i64.wrap ((t : Int) - 15) = (t : Int) - 15 := by rw [IntKind.wrap_i64]; omega
        have q16 : IntKind.i64.wrap ((t : Int) - 16) = (t : Int) - 16 := by rw [IntKind.wrap_i64]; omega
        have r2 : ((t : Int) - 2).toNat = t - 2 := by omega
        have z2 : (0 : Int) ≤ (t : Int) - 2 := by omega
        have y2 : (t : Int) - 2 < (t : Int) := by omega
        have r7 : ((t : Int) - 7).toNat = t - 7 := by omega
        have z7 : (0 : Int) ≤ (t : Int) - 7 := by omega
        have y7 : (t : Int) - 7 < (t : Int) := by omega
        have r15 : ((t : Int) - 15).toNat = t - 15 := by omega
        have z15 : (0 : Int) ≤ (t : Int) - 15 := by omega
        have y15 : (t : Int) - 15 < (t : Int) := by omega
        have r16 : ((t : Int) - 16).toNat = t - 16 := by omega
        have z16 : (0 : Int) ≤ (t : Int) - 16 := by omega
        have y16 : (t : Int) - 16 < (t : Int) := by omega
        obtain ⟨lq, hlq⟩ : ∃ q, q = Sha.loQ a2 := ⟨_, rfl⟩
        obtain ⟨lp, hlp⟩ : ∃ q, q = Sha.loP a15 := ⟨_, rfl⟩
        have HTQ := hideIt (fun w => by have := loQ_any a2 l2 w; rw [← hlq] at this; exact this)
        have HTP := hideIt (fun w => by have := loP_any a15 l15 w; rw [← hlp] at this; exact this)
        rw [← hlq, ← hlp] at HS
        clear hlq hlp
        have wr1 := wrap_add lq a7
        obtain ⟨e1, he1⟩ : ∃ q, Sha.add lq a7 = q := ⟨_, rfl⟩
        rw [he1] at wr1 HS
        have wr2 := wrap_add e1 lp
        obtain ⟨e2, he2⟩ : ∃ q, Sha.add e1 lp = q := ⟨_, rfl⟩
        rw [he2] at wr2 HS
        have wr3 := wrap_add e2 a16
        obtain ⟨vv, hvv⟩ : ∃ q, Sha.add e2 a16 = q := ⟨_, rfl⟩
        rw [hvv] at wr3 HS
        clear he1 he2 hvv k2 k7 k15 k16 hm hcell hlt hlow
        go_wp2_with fail
        refine wp_region_held_drew (S := (fun w' => w'.cell? ⟨g, t - 2, none⟩ = some (.int .u32 (a2 : Int)) ∧ w'.cell? ⟨g, t - 7, none⟩ = some (.int .u32 (a7 : Int)) ∧ w'.cell? ⟨g, t - 15, none⟩ = some (.int .u32 (a15 : Int)) ∧ w'.cell? ⟨g, t - 16, none⟩ = some (.int .u32 (a16 : Int)))) (by kernel_rfl) ?_ (fun hHeld => ?_)
        · exact HK.out _ (Fr.refl _ _).drew
        refine wpAnyH_take (i := 0) (v := ?v1) rfl (by kernel_rfl) (by kernel_rfl) (by kernel_rfl) (fun _ _ _ h => h) (Or.inl ⟨by kernel_rfl, ?hy1⟩) (by assumption) ?rest1
        case hy1 => intro w hSw; (try dsimp only at hSw); go_simp; (try with_reducible rfl)
        try simp only [Act.put, List.getElem_toArray, List.getElem_cons_zero, List.getElem_cons_succ, List.setIfInBounds_toArray, List.set_cons_zero, List.set_cons_succ]
        refine wpAnyH_take (i := 1) (v := ?v2) rfl (by kernel_rfl) (by kernel_rfl) (by kernel_rfl) (fun _ _ _ h => h) (Or.inl ⟨by kernel_rfl, ?hy2⟩) (by assumption) ?rest2
        case hy2 => intro w hSw; (try dsimp only at hSw); go_simp; (try with_reducible rfl)
        try simp only [Act.put, List.getElem_toArray, List.getElem_cons_zero, List.getElem_cons_succ, List.setIfInBounds_toArray, List.set_cons_zero, List.set_cons_succ]
        refine wpAnyH_take (i := 2) (v := ?v3) rfl (by kernel_rfl) (by kernel_rfl) (by kernel_rfl) (fun _ _ _ h => h) (Or.inl ⟨by kernel_rfl, ?hy3⟩) (by assumption) ?rest3
        case hy3 => intro w hSw; (try dsimp only at hSw); go_simp; (try with_reducible rfl)
        try simp only [Act.put, List.getElem_toArray, List.getElem_cons_zero, List.getElem_cons_succ, List.setIfInBounds_toArray, List.set_cons_zero, List.set_cons_succ]
        refine wpAnyH_take (i := 3) (v := ?v4) rfl (by kernel_rfl) (by kernel_rfl) (by kernel_rfl) (fun _ _ _ h => h) (Or.inl ⟨by kernel_rfl, ?hy4⟩) (by assumption) ?rest4
        case hy4 => intro w hSw; (try dsimp only at hSw); go_simp; (try with_reducible rfl)
        try simp only [Act.put, List.getElem_toArray, List.getElem_cons_zero, List.getElem_cons_succ, List.setIfInBounds_toArray, List.set_cons_zero, List.set_cons_succ]
        refine wpAnyH_take (i := 4) (v := .pointer (some ⟨g, t - 2, none⟩)) rfl (by kernel_rfl) (by kernel_rfl) (by kernel_rfl) (fun _ _ _ h => h) (Or.inl ⟨by kernel_rfl, fun w0 hSw => by go_simp⟩) (by assumption) ?_
        try simp only [Act.put, List.getElem_toArray, List.getElem_cons_zero, List.getElem_cons_succ, List.setIfInBounds_toArray, List.set_cons_zero, List.set_cons_succ]
        refine wpAnyH_take (i := 5) (v := .int .u32 (a2 : Int)) rfl (by kernel_rfl) (by kernel_rfl) (by kernel_rfl) (fun _ _ _ h => h) (Or.inl ⟨by kernel_rfl, fun w0 hSw => by have hc := hSw.1; go_simp⟩) (by assumption) ?_
        try simp only [Act.put, List.getElem_toArray, List.getElem_cons_zero, List.getElem_cons_succ, List.setIfInBounds_toArray, List.set_cons_zero, List.set_cons_succ]
        refine wpAnyH_take (i := 7) (v := ?v5) rfl (by kernel_rfl) (by kernel_rfl) (by kernel_rfl) (fun _ _ _ h => h) (Or.inl ⟨by kernel_rfl, ?hy5⟩) (by assumption) ?rest5
        case hy5 => intro w hSw; (try dsimp only at hSw); go_simp; (try with_reducible rfl)
        try simp only [Act.put, List.getElem_toArray, List.getElem_cons_zero, List.getElem_cons_succ, List.setIfInBounds_toArray, List.set_cons_zero, List.set_cons_succ]
        refine wpAnyH_take (i := 8) (v := ?v6) rfl (by kernel_rfl) (by kernel_rfl) (by kernel_rfl) (fun _ _ _ h => h) (Or.inl ⟨by kernel_rfl, ?hy6⟩) (by assumption) ?rest6
        case hy6 => intro w hSw; (try dsimp only at hSw); go_simp; (try with_reducible rfl)
        try simp only [Act.put, List.getElem_toArray, List.getElem_cons_zero, List.getElem_cons_succ, List.setIfInBounds_toArray, List.set_cons_zero, List.set_cons_succ]
        refine wpAnyH_take (i := 9) (v := ?v7) rfl (by kernel_rfl) (by kernel_rfl) (by kernel_rfl) (fun _ _ _ h => h) (Or.inl ⟨by kernel_rfl, ?hy7⟩) (by assumption) ?rest7
        case hy7 => intro w hSw; (try dsimp only at hSw); go_simp; (try with_reducible rfl)
        try simp only [Act.put, List.getElem_toArray, List.getElem_cons_zero, List.getElem_cons_succ, List.setIfInBounds_toArray, List.set_cons_zero, List.set_cons_succ]
        refine wpAnyH_take (i := 10) (v := .pointer (some ⟨g, t - 7, none⟩)) rfl (by kernel_rfl) (by kernel_rfl) (by kernel_rfl) (fun _ _ _ h => h) (Or.inl ⟨by kernel_rfl, fun w0 hSw => by go_simp⟩) (by assumption) ?_
        try simp only [Act.put, List.getElem_toArray, List.getElem_cons_zero, List.getElem_cons_succ, List.setIfInBounds_toArray, List.set_cons_zero, List.set_cons_succ]
        refine wpAnyH_take (i := 11) (v := .int .u32 (a7 : Int)) rfl (by kernel_rfl) (by kernel_rfl) (by kernel_rfl) (fun _ _ _ h => h) (Or.inl ⟨by kernel_rfl, fun w0 hSw => by have hc := hSw.2.1; go_simp⟩) (by assumption) ?_
        try simp only [Act.put, List.getElem_toArray, List.getElem_cons_zero, List.getElem_cons_succ, List.setIfInBounds_toArray, List.set_cons_zero, List.set_cons_succ]
        refine wpAnyH_take (i := 13) (v := ?v8) rfl (by kernel_rfl) (by kernel_rfl) (by kernel_rfl) (fun _ _ _ h => h) (Or.inl ⟨by kernel_rfl, ?hy8⟩) (by assumption) ?rest8
        case hy8 => intro w hSw; (try dsimp only at hSw); go_simp; (try with_reducible rfl)
        try simp only [Act.put, List.getElem_toArray, List.getElem_cons_zero, List.getElem_cons_succ, List.setIfInBounds_toArray, List.set_cons_zero, List.set_cons_succ]
        refine wpAnyH_take (i := 14) (v := ?v9) rfl (by kernel_rfl) (by kernel_rfl) (by kernel_rfl) (fun _ _ _ h => h) (Or.inl ⟨by kernel_rfl, ?hy9⟩) (by assumption) ?rest9
        case hy9 => intro w hSw; (try dsimp only at hSw); go_simp; (try with_reducible rfl)
        try simp only [Act.put, List.getElem_toArray, List.getElem_cons_zero, List.getElem_cons_succ, List.setIfInBounds_toArray, List.set_cons_zero, List.set_cons_succ]
        refine wpAnyH_take (i := 15) (v := ?v10) rfl (by kernel_rfl) (by kernel_rfl) (by kernel_rfl) (fun _ _ _ h => h) (Or.inl ⟨by kernel_rfl, ?hy10⟩) (by assumption) ?rest10
        case hy10 => intro w hSw; (try dsimp only at hSw); go_simp; (try with_reducible rfl)
        try simp only [Act.put, List.getElem_toArray, List.getElem_cons_zero, List.getElem_cons_succ, List.setIfInBounds_toArray, List.set_cons_zero, List.set_cons_succ]
        refine wpAnyH_take (i := 16) (v := .pointer (some ⟨g, t - 15, none⟩)) rfl (by kernel_rfl) (by kernel_rfl) (by kernel_rfl) (fun _ _ _ h => h) (Or.inl ⟨by kernel_rfl, fun w0 hSw => by go_simp⟩) (by assumption) ?_
        try simp only [Act.put, List.getElem_toArray, List.getElem_cons_zero, List.getElem_cons_succ, List.setIfInBounds_toArray, List.set_cons_zero, List.set_cons_succ]
        refine wpAnyH_take (i := 17) (v := .int .u32 (a15 : Int)) rfl (by kernel_rfl) (by kernel_rfl) (by kernel_rfl) (fun _ _ _ h => h) (Or.inl ⟨by kernel_rfl, fun w0 hSw => by have hc := hSw.2.2.1; go_simp⟩) (by assumption) ?_
        try simp only [Act.put, List.getElem_toArray, List.getElem_cons_zero, List.getElem_cons_succ, List.setIfInBounds_toArray, List.set_cons_zero, List.set_cons_succ]
        refine wpAnyH_take (i := 20) (v := ?v11) rfl (by kernel_rfl) (by kernel_rfl) (by kernel_rfl) (fun _ _ _ h => h) (Or.inl ⟨by kernel_rfl, ?hy11⟩) (by assumption) ?rest11
        case hy11 => intro w hSw; (try dsimp only at hSw); go_simp; (try with_reducible rfl)
        try simp only [Act.put, List.getElem_toArray, List.getElem_cons_zero, List.getElem_cons_succ, List.setIfInBounds_toArray, List.set_cons_zero, List.set_cons_succ]
        refine wpAnyH_take (i := 21) (v := ?v12) rfl (by kernel_rfl) (by kernel_rfl) (by kernel_rfl) (fun _ _ _ h => h) (Or.inl ⟨by kernel_rfl, ?hy12⟩) (by assumption) ?rest12
        case hy12 => intro w hSw; (try dsimp only at hSw); go_simp; (try with_reducible rfl)
        try simp only [Act.put, List.getElem_toArray, List.getElem_cons_zero, List.getElem_cons_succ, List.setIfInBounds_toArray, List.set_cons_zero, List.set_cons_succ]
        refine wpAnyH_take (i := 22) (v := ?v13) rfl (by kernel_rfl) (by kernel_rfl) (by kernel_rfl) (fun _ _ _ h => h) (Or.inl ⟨by kernel_rfl, ?hy13⟩) (by assumption) ?rest13
        case hy13 => intro w hSw; (try dsimp only at hSw); go_simp; (try with_reducible rfl)
        try simp only [Act.put, List.getElem_toArray, List.getElem_cons_zero, List.getElem_cons_succ, List.setIfInBounds_toArray, List.set_cons_zero, List.set_cons_succ]
        refine wpAnyH_take (i := 23) (v := .pointer (some ⟨g, t - 16, none⟩)) rfl (by kernel_rfl) (by kernel_rfl) (by kernel_rfl) (fun _ _ _ h => h) (Or.inl ⟨by kernel_rfl, fun w0 hSw => by go_simp⟩) (by assumption) ?_
        try simp only [Act.put, List.getElem_toArray, List.getElem_cons_zero, List.getElem_cons_succ, List.setIfInBounds_toArray, List.set_cons_zero, List.set_cons_succ]
        refine wpAnyH_take (i := 24) (v := .int .u32 (a16 : Int)) rfl (by kernel_rfl) (by kernel_rfl) (by kernel_rfl) (fun _ _ _ h => h) (Or.inl ⟨by kernel_rfl, fun w0 hSw => by have hc := hSw.2.2.2; go_simp⟩) (by assumption) ?_
        try simp only [Act.put, List.getElem_toArray, List.getElem_cons_zero, List.getElem_cons_succ, List.setIfInBounds_toArray, List.set_cons_zero, List.set_cons_succ]
        refine wpAnyH_ready (rs := [6]) (by kernel_rfl) (by simp) ?_
        refine AllReadyH.cons rfl (fun K hK => ?_) AllReadyH.nil
        go_simp
        refine Calls.mono (HTQ.out _) ?_
        rintro e wq ⟨rfl, nq, hq⟩
        have hFq : Fr (fun _ => False) wr wq := by rw [hq]; exact (Fr.refl _ _).drew.drewN _
        clear hq
        refine hK.out _ _ ?_ (fun hHeld => ?_)
        · exact HK.out _ hFq
        clear hK K
        try simp only [Act.put, List.getElem_toArray, List.getElem_cons_zero, List.getElem_cons_succ, List.setIfInBounds_toArray, List.set_cons_zero, List.set_cons_succ]
        refine wpAnyH_take (i := 12) (v := .int .u32 (e1 : Int)) rfl (by kernel_rfl) (by kernel_rfl) (by kernel_rfl) (fun _ _ _ h => h) (Or.inl ⟨by kernel_rfl, fun w0 hSw => by go_simp⟩) (by assumption) ?_
        try simp only [Act.put, List.getElem_toArray, List.getElem_cons_zero, List.getElem_cons_succ, List.setIfInBounds_toArray, List.set_cons_zero, List.set_cons_succ]
        refine wpAnyH_ready (rs := [18]) (by kernel_rfl) (by simp) ?_
        refine AllReadyH.cons rfl (fun K hK => ?_) AllReadyH.nil
        go_simp
        refine Calls.mono (HTP.out _) ?_
        rintro e wp ⟨rfl, np, hp⟩
        have hFp : Fr (fun _ => False) wr wp := by rw [hp]; exact hFq.drewN _
        clear hp
        refine hK.out _ _ ?_ (fun hHeld => ?_)
        · exact HK.out _ hFp
        clear hK K
        try simp only [Act.put, List.getElem_toArray, List.getElem_cons_zero, List.getElem_cons_succ, List.setIfInBounds_toArray, List.set_cons_zero, List.set_cons_succ]
        refine wpAnyH_take (i := 19) (v := .int .u32 (e2 : Int)) rfl (by kernel_rfl) (by kernel_rfl) (by kernel_rfl) (fun _ _ _ h => h) (Or.inl ⟨by kernel_rfl, fun w0 hSw => by go_simp⟩) (by assumption) ?_
        try simp only [Act.put, List.getElem_toArray, List.getElem_cons_zero, List.getElem_cons_succ, List.setIfInBounds_toArray, List.set_cons_zero, List.set_cons_succ]
        refine wpAnyH_take (i := 25) (v := .int .u32 (vv : Int)) rfl (by kernel_rfl) (by kernel_rfl) (by kernel_rfl) (fun _ _ _ h => h) (Or.inl ⟨by kernel_rfl, fun w0 hSw => by go_simp⟩) (by assumption) ?_
        try simp only [Act.put, List.getElem_toArray, List.getElem_cons_zero, List.getElem_cons_succ, List.setIfInBounds_toArray, List.set_cons_zero, List.set_cons_succ]
        refine wpAnyH_ready (rs := [26]) (by kernel_rfl) (by simp) ?_
        refine AllReadyH.cons rfl (fun K hK => ?_) AllReadyH.nil
        obtain ⟨a9, c9, w9, hr9, hrow9, hF9, hn9, hz9⟩ := app_one wp (some ⟨g, 0, none⟩) c ws vv (HR.out.fr0 hFp) (by rw [HL.out]; omega)
        rw [HL.out] at hr9
        have HR9 := hideIt hr9
        have HS9 := hideIt (show w9.cell? ⟨g, t - 2, none⟩ = some (.int .u32 (a2 : Int)) ∧ w9.cell? ⟨g, t - 7, none⟩ = some (.int .u32 (a7 : Int)) ∧ w9.cell? ⟨g, t - 15, none⟩ = some (.int .u32 (a15 : Int)) ∧ w9.cell? ⟨g, t - 16, none⟩ = some (.int .u32 (a16 : Int)) by
          rcases hn9 with e | e
          · subst e
            exact ⟨HE2.out _ _ _ hrow9, HE7.out _ _ _ hrow9, HE15.out _ _ _ hrow9, HE16.out _ _ _ hrow9⟩
          · exact HK.out _ (hFp.trans (hz9 e) (fun _ _ e => e)))
        have HFA := hideIt (show Fr (fun _ => False) wr (wp.alloc (.cells #[.int .u32 (vv : Int)] 44)) from hFp.alloc _)
        go_simp
        refine hK.out _ _ ?_ (fun hHeld => ?_)
        · exact HK.out _ HFA.out
        clear hK K
        try simp only [Act.put, List.getElem_toArray, List.getElem_cons_zero, List.getElem_cons_succ, List.setIfInBounds_toArray, List.set_cons_zero, List.set_cons_succ]
        refine wpAnyH_ready (rs := [27]) (by kernel_rfl) (by simp) ?_
        refine AllReadyH.cons rfl (fun K hK => ?_) AllReadyH.nil
        refine step_append_run rfl (.tmp 32) (.tmp 58) 60 60 rfl _ _ _ _ rfl rfl HR9.out ?_
        have HFB := hideIt (show Fr (blk (some ⟨g, 0, none⟩)) wr w9 from (hFp.mono (fun _ e => e.elim)).trans hF9 (fun _ _ e => e))
        refine hK.out _ _ ?_ (fun hHeld => ?_)
        · exact HS9.out
        clear hK K
        try simp only [Act.put, List.getElem_toArray, List.getElem_cons_zero, List.getElem_cons_succ, List.setIfInBounds_toArray, List.set_cons_zero, List.set_cons_succ]
        refine wpAnyH_take (i := 28) (v := ?v14) rfl (by kernel_rfl) (by kernel_rfl) (by kernel_rfl) (fun _ _ _ h => h) (Or.inl ⟨by kernel_rfl, ?hy14⟩) (by assumption) ?rest14
        case hy14 => intro w hSw; (try dsimp only at hSw); go_simp; (try with_reducible rfl)
        try simp only [Act.put, List.getElem_toArray, List.getElem_cons_zero, List.getElem_cons_succ, List.setIfInBounds_toArray, List.set_cons_zero, List.set_cons_succ]
        refine wpAnyH_done (by kernel_rfl) ?_ _
        have HW2 := hideIt (show ws ++ [vv] = Sha.so b (t + 1) by rw [HS.out, HW.out])
        have HL2 := hideIt (show (ws ++ [vv]).length = t + 1 by rw [List.length_append, HL.out]; rfl)
        have HR2 := hideIt hrow9
        have HO2 := hideIt (HO.out.grow hn9 (by have := HF.out.size; have := hFp.size; omega))
        have HF2 := hideIt (HF.out.trans HFB.out (fun i hi e => by have := HO.out i e; omega))
        clear hHeld hr9 hrow9 hF9 hn9 hz9 hFp hFq
        go_wp2_with fail
        exact ⟨⟨t + 1, a9, c9, ws ++ [vv], rfl, by go_num, by omega, HW2, HL2, HR2, HO2, HF2⟩, by simp [intOf]; omega⟩
    · obtain rfl : t = 64 := by omega
      have HS := hideIt (show ws = Sha.sched b by rw [HW.out, Sha.so_all])
      have HR2 := hideIt (by have h := HR.out; rw [HS.out] at h; exact h)
      go_wp2_with fail
      go_ret
      exact ⟨a, c, rfl, HR2.out, HF.out⟩

end Go.Proofs.YtgnpdnkmhjocjaaDoor
