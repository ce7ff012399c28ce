/- WordPassed: what is told is written as the bytes that were passed over: the walk. -/
import Derived.Test.YtahhpecgckiaaaaD2
import Derived.Test.YtahhpecgckiaaaaP2
namespace Go.Proofs.Ytahhpecgckiaaaa
open Go.RowKit Go.IntWalk
set_option linter.unusedSimpArgs false
set_option linter.unusedVariables false

theorem passed_long (aob : Option Addr) (nb capb : Nat) (ao : Option Addr) (nl cap : Nat) (w : World) (hb : nb ≤ maxLen) (hl : nl ≤ maxLen) (h : 1500 < nb ∨ 30 < nl) :
    Calls Try.prog 6 #[.slice aob nb capb, .slice ao nl cap] w fun e w' => e = .returned (.bool true) ∧ Fr (fun _ => False) w w' := by
  unfold maxLen at hb hl
  have HK := hideIt (known_any w)
  by_cases h1 : 1500 < nb
  · go_enter Try.func6, Try.ntmps6
    go_wp2_with fail
    refine Calls.mono HK.out ?_
    rintro e w1 ⟨rfl, hF1⟩
    have HF := hideIt hF1
    clear hF1
    go_wp2_with fail
    go_ret
    exact ⟨rfl, HF.out⟩
  · have h2 : 30 < nl := by omega
    go_enter Try.func6, Try.ntmps6
    go_wp2_with fail
    refine Calls.mono HK.out ?_
    rintro e w1 ⟨rfl, hF1⟩
    have HF := hideIt hF1
    clear hF1
    go_wp2_with fail
    go_ret
    exact ⟨rfl, HF.out⟩

/-- A slice's first bytes. -/
theorem BsAt.take {w : World} {ao : Option Addr} {bs : List UInt8} (h : BsAt w ao bs) (n : Nat) : BsAt w ao (bs.take n) := by
  rcases h with ⟨rfl, rfl⟩ | ⟨b, off, rfl, hc⟩
  · exact Or.inl ⟨rfl, by simp⟩
  · refine Or.inr ⟨b, off, rfl, fun j hj => ?_⟩
    have hj' : j < bs.length := by simp at hj; omega
    rw [hc j hj']
    simp

theorem sum_short (T : List Th) (h : ∀ x ∈ T, ThOk x ∧ x.s.size ≤ 1500) (hT : T.length ≤ 30) : (T.map thW).sum ≤ 140737488355328 := by
  have : ∀ T : List Th, (∀ x ∈ T, ThOk x ∧ x.s.size ≤ 1500) → (T.map thW).sum ≤ T.length * 1564 := by
    intro T
    induction T with
    | nil => intro _; simp
    | cons x T ih =>
      intro h
      have h1 := (h x (by simp)).2
      have h2 := ih (fun y hy => h y (by simp [hy]))
      simp only [List.map_cons, List.sum_cons, thW, List.length_cons]
      omega
  have := this T h
  omega

set_option maxRecDepth 100000 in
set_option maxHeartbeats 4000000 in
theorem passed_any (aob : Option Addr) (capb : Nat) (bs : List UInt8) (ao : Option Addr) (cap : Nat) (l : List (Int × Int × Int)) (w : World) (hB : BsAt w aob bs) (hcb : aob = none → capb = 0) (hbc : bs.length ≤ capb) (hcm : capb ≤ maxLen) (hA : AsksAt w ao l) (hbl : bs.length ≤ 1500) (hll : l.length ≤ 30) :
    Calls Try.prog 6 #[.slice aob bs.length capb, .slice ao l.length cap] w fun e w' => e = .returned (.bool true) ∧ Fr (fun _ => False) w w' := by
  have hb : bs.length ≤ 140737488355328 := by omega
  have HK := hideIt (known_any w)
  have HBS := hideIt hB
  have HCB := hideIt hcb
  have HAK := hideIt hA
  have hfd0 : ∀ (x y : Int) (w : World), (Instr.field 58 (.agg #[.int .i64 x, .int .i64 y]) 0).run Try.prog w = .ok (.int .i64 x) w := fun _ _ _ => by kernel_rfl
  have hfd1 : ∀ (x y : Int) (w : World), (Instr.field 58 (.agg #[.int .i64 x, .int .i64 y]) 1).run Try.prog w = .ok (.int .i64 y) w := fun _ _ _ => by kernel_rfl
  clear hB hA hcb
  go_enter Try.func6, Try.ntmps6
  go_wp2_with fail
  refine Calls.mono HK.out ?_
  rintro e w1 ⟨rfl, hF1⟩
  have HO := hideIt (open_any aob capb bs w1 (HBS.out.fr hF1 (fun _ _ _ e => e)) HCB.out hb)
  go_wp2_with fail
  refine Calls.mono HO.out ?_
  rintro e w2 ⟨p, t, ao', cap', rfl, hQ, hF2, hp, ht, hn⟩
  have F0 := hF1.trans hF2 (fun _ _ e => e)
  have s1 := hF1.size
  have hp' : w.heap.size ≤ p := by omega
  have ht' : w.heap.size ≤ t := by omega
  have R0 : ROk w2 p t ao' cap' bs (0, 0, 0) := ⟨hQ, Nat.zero_le _⟩
  have e0 : (List.length ([] : List UInt8)) = 0 := rfl
  clear HO HK hF1 hF2 hQ s1 hp ht hn
  go_wp2_with fail
  go_loopw [7, 8] (fun v i wr => ∃ (k : Nat) (T : List Th) (aoT : Option Addr) (capT : Nat) (X : List UInt8), i = .int .i64 k ∧ k ≤ l.length ∧ v = .slice aoT T.length capT ∧ T.length = k ∧ ThRow wr aoT capT T ∧ (∀ x ∈ T, ThOk x ∧ x.s.size ≤ 1500) ∧ wAll T = (X, false) ∧ bs.take X.length = X ∧
      ROk wr p t ao' cap' bs (X.length, 0, 0) ∧ Fr (fun _ => False) w wr ∧ ∀ j, blk aoT j → w.heap.size ≤ j ∧ j ≠ p ∧ ¬ wset t ao' j)
    (fun _ i _ => (l.length - intOf i).toNat)
  case atStart => exact ⟨0, [], none, 0, [], rfl, Nat.zero_le _, rfl, rfl, ThRow.nil _, fun x hx => by simp at hx, rfl, rfl, R0, F0, fun j ⟨_, e, _⟩ => by cases e⟩
  case round =>
    clear R0 F0 e0
    obtain ⟨k, T, aoT, capT, X, rfl, hk, rfl, hTk, hrow, hT, hW, hX, hR, hF, hap⟩ := hrel
    have hXl : X.length ≤ bs.length := hR.2
    have hTl : T.length ≤ l.length := by omega
    have HTK := hideIt hTk
    clear hTk
    by_cases hlt : k < l.length
    · rcases HAK.out with h0 | ⟨b, off, rfl, hbl', hc⟩
      · rw [h0] at hlt
        exact absurd hlt (by simp)
      have HTH := hideIt (show wr.rangeAt b (off + k * 3) [.int .i64 l[k].1, .int .i64 l[k].2.1, .int .i64 l[k].2.2] from fun j v hv => (World.cell?_of_block (a := ⟨b, off + k * 3 + j, none⟩) (hF.block b hbl' (fun e => e))).trans (hc k hlt j v hv))
      have HTI := hideIt (show (Try.prog.info? 52).map (·.size) = some 3 by kernel_rfl)
      have hps := ask_passed bs l[k] X.length 0 hXl
      have hok := askS_ok bs l[k] (X.length, 0, 0) hXl hb
      have has := ask_any p t ao' cap' bs (X.length, 0, 0) l[k] wr hR hb
      generalize askS bs l[k] (X.length, 0, 0) = r at *
      obtain ⟨x, at2, er2, ea2⟩ := r
      obtain ⟨pz, pn⟩ := hps
      obtain ⟨hok, hsz⟩ := hok
      simp only at pz pn hok hsz
      have HAS := hideIt has
      have HAT := hideIt (rat_any p t ao' cap' bs (X.length, 0, 0) wr hR)
      clear hc has
      generalize l[k] = q at *
      obtain ⟨q1, q2, q3⟩ := q
      have HR := hideIt hR
      have HF := hideIt hF
      have HROW := hideIt hrow
      have HTT := hideIt hT
      have HW := hideIt hW
      have HX := hideIt hX
      have HAP := hideIt hap
      have HOK := hideIt hok
      clear hR hF hrow hT hW hX hap hok
      go_wp2_with fail
      refine Calls.mono HAT.out ?_
      rintro e wr' ⟨rfl, rfl⟩
      go_wp2_with (first | (refine wpList_load_mid rfl 52 (.tmp 38) rfl b (off + k * 3) rfl [.int .i64 q1, .int .i64 q2, .int .i64 q3] _ HTH.out Try.underlying52 rfl HTI.out ?_))
      refine Calls.mono HAS.out ?_
      rintro e w3 ⟨rfl, hR3, G3⟩
      have HT2 := hideIt (thereNew (w3.alloc (.cells thZ 35)) w3.heap.size thZ 35 (heap_new rfl) (thA x).size (by rw [thA_size x HOK.out.id]; rfl))
      have HI2 := hideIt (show (Try.prog.info? 35).map (·.size) = some (thA x).size by rw [thA_size x HOK.out.id]; exact Try.infoTh)
      have H12 := hideIt (thA_one x)
      have HBX := hideIt (boxed_th x HOK.out.id w3)
      have HR3 := hideIt hR3
      have HG3 := hideIt G3
      clear hR3 G3
      by_cases her : er2 = 0
      · subst her
        obtain ⟨he, hle1, hle2, hwt⟩ := pz rfl
        subst he
        have HWT := hideIt hwt
        clear pz pn hwt
        go_wp2_with (first | (refine wpList_store_abs rfl 35 (.tmp 10) (.tmp 40) rfl w3.heap.size 0 (thA x) rfl rfl HT2.out HI2.out H12.out ?_; intro W5 hW5; obtain ⟨hb5, hF5⟩ := HBX.out W5 hW5; have HB5 := hideIt hb5; have HF5 := hideIt hF5; have HR5 := hideIt (HR3.out.fr0 hF5); clear hb5 hF5 hW5))
        refine Calls.mono (rfault_any p t ao' cap' bs (at2, 0, 0) W5 HR5.out) ?_
        rintro e w6 ⟨rfl, hF6⟩
        have l5 : w3.heap.size < W5.heap.size := (Array.getElem?_eq_some_iff.1 HB5.out).1
        have HB6 := hideIt (rangeOf ((hF6.block _ l5 (fun e => e)).trans HB5.out))
        have HIL := hideIt (show (Try.prog.info? 35).map (·.size) = some (thL x).length by rw [thL_len x HOK.out.id]; exact Try.infoTh)
        have hrow7 : ThRow (w6.alloc (.cells (thA x) 35)) aoT capT T := ((((HROW.out.fr HG3.out (fun k hk e => (HAP.out k hk).2.2 (Or.inl e))).fr HF5.out (fun _ _ e => e)).fr hF6 (fun _ _ e => e))).fr ((Fr.refl (fun _ => False) w6).alloc _) (fun _ _ e => e)
        obtain ⟨ao8, cap8, w8, hrun, hrow8, hF8, hao8⟩ := things_append (w6.alloc (.cells (thA x) 35)) aoT capT T [x] hrow7 (some ⟨w6.heap.size, 0, none⟩) 1 (Or.inr (thsAt_one x w6)) (fun y hy => by obtain rfl := List.mem_singleton.1 hy; exact HOK.out.id) (by simp; omega)
        have HRUN := hideIt hrun
        have HROW8 := hideIt hrow8
        have HF8 := hideIt hF8
        have HAO8 := hideIt hao8
        have HF6 := hideIt hF6
        clear hrun hrow8 hF8 hao8 hrow7 hF6
        go_wp2_with (first | (refine wpList_load_mid rfl 35 (.tmp 10) rfl w3.heap.size 0 rfl (thL x) _ HB6.out Try.underlying35 rfl HIL.out ?_) | (refine wpList_slice_one rfl 22 (.tmp 65) rfl (.agg (thA x)) rfl _ _ (slice_one x HOK.out.id _) ?_) | (refine wpList_append_run _ rfl (.tmp 64) (.tmp 66) 22 22 rfl _ _ _ _ rfl rfl HRUN.out ?_))
        go_roundw
        case measure => simp [intOf]; omega
        case rel =>
          have g3 := HG3.out.size
          have g5 := HF5.out.size
          have g6 := HF6.out.size
          have g0 := HF.out.size
          have hk2 : (bs.take at2).length = at2 := by simp; omega
          have hfr : Fr (fun k => k = t) wr' w6 := (HG3.out.trans HF5.out (fun _ _ e => e.elim)).trans HF6.out (fun _ _ e => e.elim)
          have hfr7 : Fr (fun _ => False) w (w6.alloc (.cells (thA x) 35)) := (HF.out.trans hfr (fun i hi e => by omega)).alloc _
          have hR7 : ROk (w6.alloc (.cells (thA x) 35)) p t ao' cap' bs (at2, 0, 0) := ((HR5.out.fr0 HF6.out)).fr0 ((Fr.refl (fun _ => False) w6).alloc _)
          have hsz7 : (w6.alloc (.cells (thA x) 35)).heap.size = w6.heap.size + 1 := by simp
          refine ⟨k + 1, T ++ [x], ao8, cap8, bs.take at2, by go_num, by omega, by simp, by simp [HTK.out], HROW8.out, fun y hy => ?_, ?_, by rw [hk2], ?_, hfr7.trans HF8.out (fun i hi e => by have := (HAP.out i e).1; omega), fun j hj => ?_⟩
          · rcases List.mem_append.1 hy with hy | hy
            · exact HTT.out y hy
            · obtain rfl := List.mem_singleton.1 hy
              exact ⟨HOK.out, by omega⟩
          · rw [wAll_snoc, HW.out, ← HX.out]
            exact HWT.out
          · rw [hk2]
            exact ⟨hR7.1.fr HF8.out (fun e => (HAP.out p e).2.1 rfl) (fun k hk e => (HAP.out k e).2.2 hk), hR7.2⟩
          · rcases HAO8.out with e | e
            · rw [e] at hj
              exact HAP.out j hj
            · rw [e] at hj
              obtain ⟨a, e1, rfl⟩ := hj
              obtain rfl := Option.some.inj e1
              refine ⟨by simp; omega, fun e => ?_, fun e => ?_⟩
              · have := hR7.1.lt
                simp only [hsz7] at this e
                omega
              · have := hR7.1.setlt e
                simp only [hsz7] at this
                omega
      · obtain ⟨hat2, hle1, hle2⟩ := pn her
        subst hat2
        have hne : (er2 != 0) = true := by simpa using her
        clear pz pn
        go_wp2_with (first | (refine wpList_store_abs rfl 35 (.tmp 10) (.tmp 40) rfl w3.heap.size 0 (thA x) rfl rfl HT2.out HI2.out H12.out ?_; intro W5 hW5; obtain ⟨hb5, hF5⟩ := HBX.out W5 hW5; have HB5 := hideIt hb5; have HF5 := hideIt hF5; have HR5 := hideIt (HR3.out.fr0 hF5); clear hb5 hF5 hW5))
        refine Calls.mono (rfault_any p t ao' cap' bs (X.length, er2, ea2) W5 HR5.out) ?_
        rintro e w6 ⟨rfl, hF6⟩
        have HF6 := hideIt hF6
        have HR6 := hideIt (HR5.out.fr0 hF6)
        clear hF6
        have q1 : ¬ ea2 < (X.length : Int) := by omega
        have q2 : ¬ ea2 > (bs.length : Int) := by omega
        go_wp2_with fail
        refine Calls.mono (rat_any p t ao' cap' bs (X.length, er2, ea2) w6 HR6.out) ?_
        rintro e w6' ⟨rfl, rfl⟩
        go_wp2_with fail
        refine Calls.mono (rfault_any p t ao' cap' bs (X.length, er2, ea2) w6' HR6.out) ?_
        rintro e w7 ⟨rfl, hF7⟩
        have HF7 := hideIt hF7
        have HR7 := hideIt (HR6.out.fr0 hF7)
        clear hF7
        go_wp2_with fail
        refine Calls.mono (rfault_any p t ao' cap' bs (X.length, er2, ea2) w7 HR7.out) ?_
        rintro e w8 ⟨rfl, hF8⟩
        have HF8 := hideIt hF8
        have HR8 := hideIt (HR7.out.fr0 hF8)
        clear hF8
        have HAL := hideIt (by have := all_any aoT capT T w8 ((((((HROW.out.fr HG3.out (fun k hk e => (HAP.out k hk).2.2 (Or.inl e))).fr HF5.out (fun _ _ e => e)).fr HF6.out (fun _ _ e => e)).fr HF7.out (fun _ _ e => e)).fr HF8.out (fun _ _ e => e)).at (fun x hx => (HTT.out x hx).1.id)) (fun x hx => (HTT.out x hx).1) (sum_short T HTT.out (by omega)); simp only [HW.out, Bool.false_eq_true, if_false, Bool.not_false] at this; exact this)
        go_wp2_with fail
        refine Calls.mono HAL.out ?_
        rintro e wa ⟨aoC, capC, rfl, hrc, hFa, hnc⟩
        have HRa := hideIt (HR8.out.fr0 hFa)
        have HFa := hideIt ((HF.out.trans ((((HG3.out.trans HF5.out (fun _ _ e => e.elim)).trans HF6.out (fun _ _ e => e.elim)).trans HF7.out (fun _ _ e => e.elim)).trans HF8.out (fun _ _ e => e.elim)) (fun i hi e => by omega)).trans hFa (fun _ _ e => e))
        have HBa := hideIt (by have := (HBS.out.fr HFa.out (fun _ _ _ e => e)).take X.length; rw [HX.out] at this; exact this)
        have HRC := hideIt hrc.bs
        clear hrc hFa hnc HAL
        go_wp2_with fail
        refine Calls.mono (rat_any p t ao' cap' bs (X.length, er2, ea2) wa HRa.out) ?_
        rintro e wa' ⟨rfl, rfl⟩
        go_wp2_with fail
        refine Calls.mono (rat_any p t ao' cap' bs (X.length, er2, ea2) wa' HRa.out) ?_
        rintro e wa'' ⟨rfl, rfl⟩
        go_wp2_with fail
        refine Calls.mono (rleft_any p t ao' cap' bs (X.length, er2, ea2) wa'' HRa.out hb) ?_
        rintro e wb ⟨rfl, kd, rfl⟩
        have hq : ((X.length : Int) + ((bs.length : Int) - (X.length : Int)) == (bs.length : Int)) = true := by simp; omega
        go_wp2_with fail
        refine Calls.mono (rat_any p t ao' cap' bs (X.length, er2, ea2) _ (HRa.out.fr0 ((Fr.refl (fun _ => False) wa'').drewN kd))) ?_
        rintro e wc ⟨rfl, rfl⟩
        go_wp2_with fail
        refine Calls.mono (same_any aoC aob capC capb X X _ (HRC.out.fr ((Fr.refl (fun _ => False) wa'').drewN kd) (fun _ _ _ e => e)) (HBa.out.fr ((Fr.refl (fun _ => False) wa'').drewN kd) (fun _ _ _ e => e))) ?_
        rintro e wd ⟨rfl, rfl⟩
        have hxx : (X == X) = true := by simp
        go_wp2_with fail
        go_ret
        exact ⟨rfl, HFa.out.drewN kd⟩
    · obtain rfl : k = l.length := by omega
      have HR := hideIt hR
      have HF := hideIt hF
      have HROW := hideIt hrow
      have HTT := hideIt hT
      have HW := hideIt hW
      have HX := hideIt hX
      clear hR hF hrow hT hW hX hap
      have HAL := hideIt (by have := all_any aoT capT T wr (HROW.out.at (fun x hx => (HTT.out x hx).1.id)) (fun x hx => (HTT.out x hx).1) (sum_short T HTT.out (by omega)); simp only [HW.out, Bool.false_eq_true, if_false, Bool.not_false] at this; exact this)
      go_wp2_with fail
      refine Calls.mono HAL.out ?_
      rintro e wa ⟨aoC, capC, rfl, hrc, hFa, hnc⟩
      have HRa := hideIt (HR.out.fr0 hFa)
      have HFa := hideIt (HF.out.trans hFa (fun _ _ e => e))
      have HBa := hideIt (by have := (HBS.out.fr HFa.out (fun _ _ _ e => e)).take X.length; rw [HX.out] at this; exact this)
      have HRC := hideIt hrc.bs
      clear hrc hFa hnc HAL
      go_wp2_with fail
      refine Calls.mono (rat_any p t ao' cap' bs (X.length, 0, 0) wa HRa.out) ?_
      rintro e wa' ⟨rfl, rfl⟩
      go_wp2_with fail
      refine Calls.mono (rat_any p t ao' cap' bs (X.length, 0, 0) wa' HRa.out) ?_
      rintro e wa'' ⟨rfl, rfl⟩
      go_wp2_with fail
      refine Calls.mono (rleft_any p t ao' cap' bs (X.length, 0, 0) wa'' HRa.out hb) ?_
      rintro e wb ⟨rfl, kd, rfl⟩
      have hq : ((X.length : Int) + ((bs.length : Int) - (X.length : Int)) == (bs.length : Int)) = true := by simp; omega
      go_wp2_with fail
      refine Calls.mono (rat_any p t ao' cap' bs (X.length, 0, 0) _ (HRa.out.fr0 ((Fr.refl (fun _ => False) wa'').drewN kd))) ?_
      rintro e wc ⟨rfl, rfl⟩
      go_wp2_with fail
      refine Calls.mono (same_any aoC aob capC capb X X _ (HRC.out.fr ((Fr.refl (fun _ => False) wa'').drewN kd) (fun _ _ _ e => e)) (HBa.out.fr ((Fr.refl (fun _ => False) wa'').drewN kd) (fun _ _ _ e => e))) ?_
      rintro e wd ⟨rfl, rfl⟩
      have hxx : (X == X) = true := by simp
      go_wp2_with fail
      go_ret
      exact ⟨rfl, HFa.out.drewN kd⟩

end Go.Proofs.Ytahhpecgckiaaaa
