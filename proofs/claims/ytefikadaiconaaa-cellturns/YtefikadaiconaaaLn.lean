/- Cell: lesser, Diff, Changed. -/
import Derived.Test.YtefikadaiconaaaLm
import Derived.Test.YtefikadaiconaaaRw
import Derived.Test.YtefikadaiconaaaLk
namespace Go.Proofs.Ytefikadaiconaaa
open Go.RowKit Go.IntWalk
set_option linter.unusedSimpArgs false
set_option linter.unusedVariables false

abbrev GrowW := Grow wrL 3 52
theorem Try.infoWr : (Try.prog.info? 52).map (fun i => (i.zero, i.size, i.bytes)) = some (some (.agg #[.string ⟨#[]⟩, .string ⟨#[]⟩, .bool false]), 3, 40) := by kernel_rfl
theorem wrL_len (x : Wr) : (wrL x).length = 3 := rfl
theorem wrL_one (x : Wr) : ∀ u ∈ wrL x, u.oneCell' = true := fun u hu => by
  simp only [wrL, List.mem_cons, List.not_mem_nil, or_false] at hu
  rcases hu with rfl | rfl | rfl <;> rfl
theorem atOf_ws {w : World} {ao : Option Addr} {l : List Wr} (h : AtOf wrL 3 w ao l) : WsAt w ao l := by
  rcases h with h | ⟨b, off, rfl, hb, hc⟩
  · exact Or.inl h
  · exact Or.inr ⟨b, off, rfl, hb, fun i hi => ⟨hc i hi 0 _ rfl, hc i hi 1 _ rfl, hc i hi 2 _ rfl⟩⟩
theorem ws_atOf {w : World} {ao : Option Addr} {l : List Wr} (h : WsAt w ao l) : AtOf wrL 3 w ao l := by
  rcases h with h | ⟨b, off, rfl, hb, hc⟩
  · exact Or.inl h
  · refine Or.inr ⟨b, off, rfl, hb, fun i hi j v hv => ?_⟩
    have hj : j < 3 := (List.getElem?_eq_some_iff.1 hv).1
    obtain rfl | rfl | rfl : j = 0 ∨ j = 1 ∨ j = 2 := by omega
    · obtain rfl := Option.some.inj hv; exact (hc i hi).1
    · obtain rfl := Option.some.inj hv; exact (hc i hi).2.1
    · obtain rfl := Option.some.inj hv; exact (hc i hi).2.2
theorem growW_app {W0 wr : World} {ao : Option Addr} {cap : Nat} {acc : List Wr} (h : GrowW W0 wr ao cap acc) (ys : List Wr) (bo : Option Addr) (c : Nat) (hs : ys = [] ∨ WsAt wr bo ys) (hb : acc.length + ys.length ≤ 1099511627776) :
    ∃ ao' cap' w', (Builtin.append_ #[39, 39] 39 #[.slice ao acc.length cap, .slice bo ys.length c]).run Try.prog wr = .ok (.slice ao' (acc.length + ys.length) cap') w' ∧ GrowW W0 w' ao' cap' (acc ++ ys) := by
  obtain ⟨i0, hi, hz0, hz1, hz2⟩ := info_parts Try.infoWr
  exact h.app Try.underlying39 hi hz0 40 hz1 hz2 rfl (by decide) (by decide) wrL_len wrL_one ys bo c (hs.imp_right ws_atOf) hb
theorem ws_one (x : Wr) (w : World) : WsAt (w.alloc (.cells #[.string x.1, .string x.2.1, .bool x.2.2] 52)) (some ⟨w.heap.size, 0, none⟩) [x] := by
  refine Or.inr ⟨w.heap.size, 0, rfl, by simp, fun i hi => ?_⟩
  obtain rfl : i = 0 := by simpa using hi
  exact ⟨cellNew _ _ _ _ _ rfl, cellNew _ _ _ _ _ rfl, cellNew _ _ _ _ _ rfl⟩

/-- Which of two states comes next. -/
def lessS (a b : List Sp) : Int := if b = [] then -1 else if a = [] then 1 else cmpS (headP a).1.toList (headP b).1.toList
where headP : List Sp → Sp
  | [] => (⟨#[]⟩, ⟨#[]⟩)
  | p :: _ => p

set_option maxRecDepth 100000 in
set_option maxHeartbeats 1000000 in
theorem elesser_any (ao bo : Option Addr) (ca cb : Nat) (a b : List Sp) (w : World) (ha : a = [] ∨ SpsAt w ao a) (hb : b = [] ∨ SpsAt w bo b) (hl : a.length ≤ 1099511627776) (hl2 : b.length ≤ 1099511627776) :
    Calls Try.prog 48 #[.slice ao a.length ca, .slice bo b.length cb] w fun e w' => e = .returned (.int .i64 (lessS a b)) ∧ Fr (fun _ => False) w w' := by
  cases b with
  | nil =>
    go_enter Try.func48, Try.ntmps48
    go_wp2_with fail
    go_ret
    exact ⟨rfl, Fr.refl _ _⟩
  | cons q b =>
    cases a with
    | nil =>
      have hn : ((((q :: b).length : Nat) : Int) == 0) = false := beq_eq_false_iff_ne.2 (by simp; omega)
      have HX := hideIt (show lessS [] (q :: b) = 1 from rfl)
      generalize (q :: b).length = n at *
      go_enter Try.func48, Try.ntmps48
      go_wp2_with fail
      go_ret
      exact ⟨by rw [HX.out]; rfl, Fr.refl _ _⟩
    | cons p a =>
      have hn : ((((q :: b).length : Nat) : Int) == 0) = false := beq_eq_false_iff_ne.2 (by simp; omega)
      have hm : ((((p :: a).length : Nat) : Int) == 0) = false := beq_eq_false_iff_ne.2 (by simp; omega)
      have HX := hideIt (show lessS (p :: a) (q :: b) = cmpS p.1.toList q.1.toList from rfl)
      obtain ⟨b1, off1, rfl, hb1, c0, _⟩ := sps_get ha 0 (by simp)
      obtain ⟨b2, off2, rfl, hb2, c1, _⟩ := sps_get hb 0 (by simp)
      rw [Nat.zero_mul, Nat.add_zero, List.getElem_cons_zero] at c0 c1
      have hp1 : (0 : Int) < ((p :: a).length : Int) := by simp
      have hp2 : (0 : Int) < ((q :: b).length : Int) := by simp
      have HC := hideIt (fun u => cmp_any p.1 q.1 u)
      clear ha hb
      generalize (q :: b).length = n at *
      generalize (p :: a).length = m at *
      generalize cmpS p.1.toList q.1.toList = c at *
      go_enter Try.func48, Try.ntmps48
      go_wp2_with fail
      go_quiet ((go_at_call 56; exact Calls.quiet_of_same (HC.out _)))
      go_wp2_with fail
      go_ret
      exact ⟨by rw [HX.out]; rfl, (Fr.refl _ _).drewN _⟩

/-- What leads from one state to another one, n steps at most. -/
def diffF : Nat → List Sp → List Sp → List Wr
  | 0, _, _ => []
  | n + 1, a, b =>
    if a = [] ∧ b = [] then [] else
    if lessS a b < 0 then ((lessS.headP a).1, ⟨#[]⟩, true) :: diffF n a.tail b
    else if 0 < lessS a b then ((lessS.headP b).1, (lessS.headP b).2, false) :: diffF n a b.tail
    else (if (lessS.headP a).2 = (lessS.headP b).2 then [] else [((lessS.headP b).1, (lessS.headP b).2, false)]) ++ diffF n a.tail b.tail
theorem diffF_none (n : Nat) : diffF n [] [] = [] := by cases n <;> rfl
theorem diffF_neg (n : Nat) (p : Sp) (a b : List Sp) (h : lessS (p :: a) b < 0) : diffF (n + 1) (p :: a) b = (p.1, ⟨#[]⟩, true) :: diffF n a b := by
  rw [diffF, if_neg (by simp), if_pos h]
  rfl
theorem diffF_pos (n : Nat) (q : Sp) (a b : List Sp) (h : 0 < lessS a (q :: b)) : diffF (n + 1) a (q :: b) = (q.1, q.2, false) :: diffF n a b := by
  rw [diffF, if_neg (by simp), if_neg (by omega), if_pos h]
  rfl
theorem diffF_eq (n : Nat) (p q : Sp) (a b : List Sp) (h : lessS (p :: a) (q :: b) = 0) : diffF (n + 1) (p :: a) (q :: b) = (if p.2 = q.2 then [] else [(q.1, q.2, false)]) ++ diffF n a b := by
  rw [diffF, if_neg (by simp), if_neg (by omega), if_neg (by omega)]
  rfl
def diffL (a b : List Sp) : List Wr := if chkE a = 0 ∧ chkE b = 0 then diffF (a.length + b.length) a b else []

def DiffPost (R : List Wr) (w : World) (e : Ending) (w' : World) : Prop := ∃ ao cap, e = .returned (.slice ao R.length cap) ∧ GrowW w w' ao cap R

set_option maxRecDepth 100000 in
set_option maxHeartbeats 8000000 in
theorem ediff_any (ao bo : Option Addr) (ca cb : Nat) (a b : List Sp) (w : World) (ha : a = [] ∨ SpsAt w ao a) (hb : b = [] ∨ SpsAt w bo b) (hca : a.length ≤ ca) (hcb : b.length ≤ cb) (hl : a.length ≤ 1000000) (hl2 : b.length ≤ 1000000) :
    Calls Try.prog 26 #[.slice ao a.length ca, .slice bo b.length cb] w (DiffPost (diffL a b) w) := by
  have HA := hideIt ha
  have HB := hideIt hb
  have HCA := hideIt (echeck_any ao ca a (by omega) w ha)
  have HCB := hideIt (fun u hF => chk_later (by omega) hb cb u hF)
  clear ha hb
  by_cases h1 : chkE a = 0
  · by_cases h2 : chkE b = 0
    · have HQ := hideIt (show diffL a b = diffF (a.length + b.length) a b by unfold diffL; rw [if_pos ⟨h1, h2⟩])
      rw [h1] at HCA
      rw [h2] at HCB
      clear h1 h2
      go_enter Try.func26, Try.ntmps26
      go_wp2_with fail
      refine Calls.mono HCA.out ?_
      rintro e w1 ⟨rfl, hF1⟩
      have HF1 := hideIt hF1
      clear hF1
      go_wp2_with fail
      refine Calls.mono (HCB.out _ HF1.out) ?_
      rintro e w2 ⟨rfl, hF2⟩
      have HF2 := hideIt (HF1.out.trans hF2 (fun _ _ e => e))
      clear hF2 HF1
      go_wp2_with fail
      go_loopw [0, 1, 5] (fun s0 s1 s5 wr => ∃ (a1 b1 a5 : Option Addr) (c1 d1 c5 : Nat) (ra rb : List Sp) (told : List Wr) (f : Nat), s0 = .slice a1 ra.length c1 ∧ s1 = .slice b1 rb.length d1 ∧ s5 = .slice a5 told.length c5 ∧ ra.length ≤ c1 ∧ rb.length ≤ d1 ∧ ra.length + rb.length ≤ f ∧ told.length + f ≤ 2000000 ∧ Hid (ra = [] ∨ SpsAt w a1 ra) ∧ Hid (rb = [] ∨ SpsAt w b1 rb) ∧ Hid (GrowW w wr a5 c5 told) ∧ Hid (told ++ diffF f ra rb = diffL a b)) (fun s0 s1 _ _ => (match s0 with | .slice _ n _ => n | _ => 0) + (match s1 with | .slice _ n _ => n | _ => 0))
      case atStart => exact ⟨_, _, none, _, _, 0, a, b, [], a.length + b.length, rfl, rfl, rfl, hca, hcb, Nat.le_refl _, by simp; omega, HA, HB, hideIt (Grow.start HF2.out), hideIt HQ.out.symm⟩
      case round =>
        clear HF2 HA HB
        obtain ⟨a1, b1, a5, c1, d1, c5, ra, rb, told, f, rfl, rfl, rfl, hc1, hd1, hf, htf, HA, HB, HG, HE⟩ := hrel
        have HLS := hideIt (elesser_any a1 b1 c1 d1 ra rb _ (sats_fr0 HA.out HG.out.fr) (sats_fr0 HB.out HG.out.fr) (by omega) (by omega))
        cases ra with
        | nil =>
          cases rb with
          | nil =>
            have HX := hideIt (show told = diffL a b by have := HE.out; rwa [diffF_none, List.append_nil] at this)
            go_wp2_with fail
            go_ret
            exact ⟨a5, c5, by rw [← HX.out]; rfl, by rw [← HX.out]; exact HG.out⟩
          | cons q rb =>
            have hps : 0 < lessS [] (q :: rb) := (by decide : (0 : Int) < 1)
            obtain ⟨g, rfl⟩ : ∃ g, f = g + 1 := ⟨f - 1, by simp at hf; omega⟩
            have HE2 := hideIt (show (told ++ [(q.1, q.2, false)]) ++ diffF g [] rb = diffL a b by rw [List.append_assoc, List.singleton_append, ← diffF_pos g q [] rb hps]; exact HE.out)
            obtain ⟨b4, off4, rfl, hb4, x0, x1⟩ := sps_get HB.out 0 (by simp)
            rw [Nat.zero_mul, Nat.add_zero, List.getElem_cons_zero] at x0 x1
            have HDR := hideIt (by have := drop_at HB.out hd1 1 (by simp); rw [Option.map_some, Addr.add_lit, List.drop_succ_cons, List.drop_zero] at this; exact this)
            have HC0 := hideIt (fun w' (hF : Fr (fun _ => False) w w') => And.intro (hF.cell0 x0) (hF.cell0 x1))
            simp only [List.length_cons] at HLS hd1 hf hc1
            have HLN := hideIt (show (told ++ [((q.1, q.2, false) : Wr)]).length = told.length + 1 by simp)
            generalize lessS [] (q :: rb) = sd at *
            have hsd : ¬ sd < 0 := by omega
            clear x0 x1 HE
            go_wp2_with fail
            refine Calls.mono HLS.out ?_
            rintro e w3 ⟨rfl, hF3⟩
            have hFw3 := HG.out.fr.trans hF3 (fun _ _ e => e)
            obtain ⟨x0, x1⟩ := HC0.out w3 hFw3
            have HS2 := hideIt (HC0.out _ ((hFw3.alloc (.cells #[.string q.1, .string q.2, .bool false] 52)).drew))
            obtain ⟨a6, c6, w6, hrun, hG6⟩ := growW_app ((HG.out.quiet hF3).quiet (((Fr.refl _ _).alloc (.cells #[.string q.1, .string q.2, .bool false] 52)).drew)) [(q.1, q.2, false)] (some ⟨w3.heap.size, 0, none⟩) 1 (Or.inr ((ws_one (q.1, q.2, false) w3).fr0 (Fr.refl _ _).drew)) (by simp; omega)
            have HR := hideIt hrun
            have HS3 := hideIt (HC0.out _ hG6.fr)
            have HG6 := hideIt hG6
            clear hF3 hrun hG6 HG HC0 HLS hFw3
            go_wp2_with fail
            refine wp_region_held_drew (S := fun w' => w'.cell? ⟨b4, off4, none⟩ = some (.string q.1) ∧ w'.cell? ⟨b4, off4 + 1, none⟩ = some (.string q.2)) (by kernel_rfl) ?_ (fun hHeld => ?_)
            · exact ⟨x0, x1⟩
            refine wpAnyH_take (i := 0) (v := ?v12) rfl (by kernel_rfl) (by kernel_rfl) (by kernel_rfl) (fun _ _ _ h => h) (Or.inl ⟨by rfl, ?hy12⟩) (by assumption) ?rest12
            case hy12 => intro w hSw; (try dsimp only at hSw); go_simp; (try with_reducible rfl)
            try simp only [Act.put, List.getElem_toArray, List.getElem_cons_zero, List.getElem_cons_succ, List.setIfInBounds_toArray, List.set_cons_zero, List.set_cons_succ]
            refine wpAnyH_take (i := 1) (v := ?v13) rfl (by kernel_rfl) (by kernel_rfl) (by kernel_rfl) (fun _ _ _ h => h) (Or.inl ⟨by rfl, ?hy13⟩) (by assumption) ?rest13
            case hy13 => intro w hSw; (try dsimp only at hSw); go_simp; (try with_reducible rfl)
            try simp only [Act.put, List.getElem_toArray, List.getElem_cons_zero, List.getElem_cons_succ, List.setIfInBounds_toArray, List.set_cons_zero, List.set_cons_succ]
            refine wpAnyH_take (i := 2) (v := ?v14) rfl (by kernel_rfl) (by kernel_rfl) (by kernel_rfl) (fun _ _ _ h => h) (Or.inl ⟨by rfl, ?hy14⟩) (by assumption) ?rest14
            case hy14 => intro w hSw; (try dsimp only at hSw); go_simp; (try with_reducible rfl)
            try simp only [Act.put, List.getElem_toArray, List.getElem_cons_zero, List.getElem_cons_succ, List.setIfInBounds_toArray, List.set_cons_zero, List.set_cons_succ]
            refine wpAnyH_take (i := 3) (v := ?v15) rfl (by kernel_rfl) (by kernel_rfl) (by kernel_rfl) (fun _ _ _ h => h) (Or.inl ⟨by rfl, ?hy15⟩) (by assumption) ?rest15
            case hy15 => intro w hSw; (try dsimp only at hSw); go_simp; (try with_reducible rfl)
            try simp only [Act.put, List.getElem_toArray, List.getElem_cons_zero, List.getElem_cons_succ, List.setIfInBounds_toArray, List.set_cons_zero, List.set_cons_succ]
            refine wpAnyH_take (i := 4) (v := ?v16) rfl (by kernel_rfl) (by kernel_rfl) (by kernel_rfl) (fun _ _ _ h => h) (Or.inl ⟨by rfl, ?hy16⟩) (by assumption) ?rest16
            case hy16 => intro w hSw; (try dsimp only at hSw); go_simp; (try with_reducible rfl)
            try simp only [Act.put, List.getElem_toArray, List.getElem_cons_zero, List.getElem_cons_succ, List.setIfInBounds_toArray, List.set_cons_zero, List.set_cons_succ]
            refine wpAnyH_take (i := 5) (v := ?v17) rfl (by kernel_rfl) (by kernel_rfl) (by kernel_rfl) (fun _ _ _ h => h) (Or.inl ⟨by rfl, ?hy17⟩) (by assumption) ?rest17
            case hy17 => intro w hSw; (try dsimp only at hSw); go_simp; (try with_reducible rfl)
            try simp only [Act.put, List.getElem_toArray, List.getElem_cons_zero, List.getElem_cons_succ, List.setIfInBounds_toArray, List.set_cons_zero, List.set_cons_succ]
            refine wpAnyH_take (i := 6) (v := ?v18) rfl (by kernel_rfl) (by kernel_rfl) (by kernel_rfl) (fun _ _ _ h => h) (Or.inl ⟨by rfl, ?hy18⟩) (by assumption) ?rest18
            case hy18 => intro w hSw; (try dsimp only at hSw); go_simp; (try with_reducible rfl)
            try simp only [Act.put, List.getElem_toArray, List.getElem_cons_zero, List.getElem_cons_succ, List.setIfInBounds_toArray, List.set_cons_zero, List.set_cons_succ]
            refine wpAnyH_take (i := 7) (v := ?v19) rfl (by kernel_rfl) (by kernel_rfl) (by kernel_rfl) (fun _ _ _ h => h) (Or.inl ⟨by rfl, ?hy19⟩) (by assumption) ?rest19
            case hy19 => intro w hSw; (try dsimp only at hSw); go_simp; (try with_reducible rfl)
            try simp only [Act.put, List.getElem_toArray, List.getElem_cons_zero, List.getElem_cons_succ, List.setIfInBounds_toArray, List.set_cons_zero, List.set_cons_succ]
            refine wpAnyH_take (i := 8) (v := ?v20) rfl (by kernel_rfl) (by kernel_rfl) (by kernel_rfl) (fun _ _ _ h => h) (Or.inl ⟨by rfl, ?hy20⟩) (by assumption) ?rest20
            case hy20 => intro w hSw; (try dsimp only at hSw); go_simp; (try with_reducible rfl)
            try simp only [Act.put, List.getElem_toArray, List.getElem_cons_zero, List.getElem_cons_succ, List.setIfInBounds_toArray, List.set_cons_zero, List.set_cons_succ]
            refine wpAnyH_take (i := 9) (v := ?v21) rfl (by kernel_rfl) (by kernel_rfl) (by kernel_rfl) (fun _ _ _ h => h) (Or.inl ⟨by rfl, ?hy21⟩) (by assumption) ?rest21
            case hy21 => intro w hSw; (try dsimp only at hSw); go_simp; (try with_reducible rfl)
            try simp only [Act.put, List.getElem_toArray, List.getElem_cons_zero, List.getElem_cons_succ, List.setIfInBounds_toArray, List.set_cons_zero, List.set_cons_succ]
            refine wpAnyH_ready (rs := [10]) (by kernel_rfl) (by simp) ?_
            refine AllReadyH.cons rfl (fun K hK => ?_) AllReadyH.nil
            go_simp
            refine hK.out _ _ ?_ (fun hHeld => ?_)
            · exact HS2.out
            clear hK K
            try simp only [Act.put, List.getElem_toArray, List.getElem_cons_zero, List.getElem_cons_succ, List.setIfInBounds_toArray, List.set_cons_zero, List.set_cons_succ]
            refine wpAnyH_ready (rs := [11]) (by kernel_rfl) (by simp) ?_
            refine AllReadyH.cons rfl (fun K hK => ?_) AllReadyH.nil
            refine step_append_run rfl (.tmp 67) (.tmp 77) 39 39 rfl _ _ _ _ rfl rfl HR.out ?_
            refine hK.out _ _ ?_ (fun hHeld => ?_)
            · exact HS3.out
            clear hK K
            try simp only [Act.put, List.getElem_toArray, List.getElem_cons_zero, List.getElem_cons_succ, List.setIfInBounds_toArray, List.set_cons_zero, List.set_cons_succ]
            refine wpAnyH_take (i := 12) (v := ?v22) rfl (by kernel_rfl) (by kernel_rfl) (by kernel_rfl) (fun _ _ _ h => h) (Or.inl ⟨by rfl, ?hy22⟩) (by assumption) ?rest22
            case hy22 => intro w hSw; (try dsimp only at hSw); go_simp; (try with_reducible rfl)
            try simp only [Act.put, List.getElem_toArray, List.getElem_cons_zero, List.getElem_cons_succ, List.setIfInBounds_toArray, List.set_cons_zero, List.set_cons_succ]
            refine wpAnyH_done (by kernel_rfl) ?_ _
            clear HS2 HS3 hHeld HR x0 x1
            go_wp2_with fail
            exact ⟨⟨a1, (if d1 = 1 then some ⟨b4, off4, none⟩ else some ⟨b4, off4 + 2, none⟩), a6, c1, d1 - 1, c6, [], rb, told ++ [(q.1, q.2, false)], g, rfl, rfl, by rw [HLN.out], hc1, by omega, by simp only [List.length_cons, List.length_nil] at hf ⊢; omega, by rw [HLN.out]; omega, hideIt (Or.inl rfl), HDR, HG6, HE2⟩, by simp⟩
        | cons p ra =>
          by_cases hn : lessS (p :: ra) rb < 0
          · obtain ⟨g, rfl⟩ : ∃ g, f = g + 1 := ⟨f - 1, by simp at hf; omega⟩
            have HE2 := hideIt (show (told ++ [(p.1, ⟨#[]⟩, true)]) ++ diffF g ra rb = diffL a b by rw [List.append_assoc, List.singleton_append, ← diffF_neg g p ra rb hn]; exact HE.out)
            obtain ⟨b3, off3, rfl, hb3, c0, _⟩ := sps_get (sats_fr0 HA.out HG.out.fr) 0 (by simp)
            rw [Nat.zero_mul, Nat.add_zero, List.getElem_cons_zero] at c0
            have HDR := hideIt (by have := drop_at HA.out hc1 1 (by simp); rw [Option.map_some, Addr.add_lit, List.drop_succ_cons, List.drop_zero] at this; exact this)
            have HC0 := hideIt (fun w' (hF : Fr (fun _ => False) wr w') => hF.cell0 c0)
            simp only [List.length_cons] at HLS hc1 hf
            have HLN := hideIt (show (told ++ [((p.1, ⟨#[]⟩, true) : Wr)]).length = told.length + 1 by simp)
            generalize lessS (p :: ra) rb = sd at *
            have hsd : ¬ 0 < sd := by omega
            clear c0 HE
            go_wp2_with fail
            refine Calls.mono HLS.out ?_
            rintro e w3 ⟨rfl, hF3⟩
            have c0 := HC0.out w3 hF3
            obtain ⟨a6, c6, w6, hrun, hG6⟩ := growW_app ((HG.out.quiet hF3).quiet ((Fr.refl _ _).alloc (.cells #[.string p.1, .string ⟨#[]⟩, .bool true] 52))) [(p.1, ⟨#[]⟩, true)] (some ⟨w3.heap.size, 0, none⟩) 1 (Or.inr (ws_one (p.1, ⟨#[]⟩, true) w3)) (by simp; omega)
            have HR := hideIt hrun
            have HG6 := hideIt hG6
            clear hF3 hrun hG6 HG HC0 HLS
            go_wp2_with (first | (at_builtin; refine wpList_append_run _ rfl (.tmp 54) (.tmp 60) 39 39 rfl _ _ _ _ rfl rfl HR.out ?_))
            exact ⟨⟨(if c1 = 1 then some ⟨b3, off3, none⟩ else some ⟨b3, off3 + 2, none⟩), b1, a6, c1 - 1, d1, c6, ra, rb, told ++ [(p.1, ⟨#[]⟩, true)], g, rfl, rfl, by rw [HLN.out], by omega, hd1, by omega, by rw [HLN.out]; omega, HDR, HB, HG6, HE2⟩, by simp⟩
          · cases rb with
            | nil => exact absurd (show lessS (p :: ra) [] < 0 from (by decide : (-1 : Int) < 0)) hn
            | cons q rb =>
              by_cases hps : 0 < lessS (p :: ra) (q :: rb)
              · skip
                obtain ⟨g, rfl⟩ : ∃ g, f = g + 1 := ⟨f - 1, by simp at hf; omega⟩
                have HE2 := hideIt (show (told ++ [(q.1, q.2, false)]) ++ diffF g (p :: ra) rb = diffL a b by rw [List.append_assoc, List.singleton_append, ← diffF_pos g q (p :: ra) rb hps]; exact HE.out)
                obtain ⟨b4, off4, rfl, hb4, x0, x1⟩ := sps_get HB.out 0 (by simp)
                rw [Nat.zero_mul, Nat.add_zero, List.getElem_cons_zero] at x0 x1
                have HDR := hideIt (by have := drop_at HB.out hd1 1 (by simp); rw [Option.map_some, Addr.add_lit, List.drop_succ_cons, List.drop_zero] at this; exact this)
                have HC0 := hideIt (fun w' (hF : Fr (fun _ => False) w w') => And.intro (hF.cell0 x0) (hF.cell0 x1))
                simp only [List.length_cons] at HLS hd1 hf hc1
                have HLN := hideIt (show (told ++ [((q.1, q.2, false) : Wr)]).length = told.length + 1 by simp)
                generalize lessS (p :: ra) (q :: rb) = sd at *
                have hsd : ¬ sd < 0 := by omega
                clear x0 x1 HE
                go_wp2_with fail
                refine Calls.mono HLS.out ?_
                rintro e w3 ⟨rfl, hF3⟩
                have hFw3 := HG.out.fr.trans hF3 (fun _ _ e => e)
                obtain ⟨x0, x1⟩ := HC0.out w3 hFw3
                have HS2 := hideIt (HC0.out _ ((hFw3.alloc (.cells #[.string q.1, .string q.2, .bool false] 52)).drew))
                obtain ⟨a6, c6, w6, hrun, hG6⟩ := growW_app ((HG.out.quiet hF3).quiet (((Fr.refl _ _).alloc (.cells #[.string q.1, .string q.2, .bool false] 52)).drew)) [(q.1, q.2, false)] (some ⟨w3.heap.size, 0, none⟩) 1 (Or.inr ((ws_one (q.1, q.2, false) w3).fr0 (Fr.refl _ _).drew)) (by simp; omega)
                have HR := hideIt hrun
                have HS3 := hideIt (HC0.out _ hG6.fr)
                have HG6 := hideIt hG6
                clear hF3 hrun hG6 HG HC0 HLS hFw3
                go_wp2_with fail
                refine wp_region_held_drew (S := fun w' => w'.cell? ⟨b4, off4, none⟩ = some (.string q.1) ∧ w'.cell? ⟨b4, off4 + 1, none⟩ = some (.string q.2)) (by kernel_rfl) ?_ (fun hHeld => ?_)
                · exact ⟨x0, x1⟩
                refine wpAnyH_take (i := 0) (v := ?v23) rfl (by kernel_rfl) (by kernel_rfl) (by kernel_rfl) (fun _ _ _ h => h) (Or.inl ⟨by rfl, ?hy23⟩) (by assumption) ?rest23
                case hy23 => intro w hSw; (try dsimp only at hSw); go_simp; (try with_reducible rfl)
                try simp only [Act.put, List.getElem_toArray, List.getElem_cons_zero, List.getElem_cons_succ, List.setIfInBounds_toArray, List.set_cons_zero, List.set_cons_succ]
                refine wpAnyH_take (i := 1) (v := ?v24) rfl (by kernel_rfl) (by kernel_rfl) (by kernel_rfl) (fun _ _ _ h => h) (Or.inl ⟨by rfl, ?hy24⟩) (by assumption) ?rest24
                case hy24 => intro w hSw; (try dsimp only at hSw); go_simp; (try with_reducible rfl)
                try simp only [Act.put, List.getElem_toArray, List.getElem_cons_zero, List.getElem_cons_succ, List.setIfInBounds_toArray, List.set_cons_zero, List.set_cons_succ]
                refine wpAnyH_take (i := 2) (v := ?v25) rfl (by kernel_rfl) (by kernel_rfl) (by kernel_rfl) (fun _ _ _ h => h) (Or.inl ⟨by rfl, ?hy25⟩) (by assumption) ?rest25
                case hy25 => intro w hSw; (try dsimp only at hSw); go_simp; (try with_reducible rfl)
                try simp only [Act.put, List.getElem_toArray, List.getElem_cons_zero, List.getElem_cons_succ, List.setIfInBounds_toArray, List.set_cons_zero, List.set_cons_succ]
                refine wpAnyH_take (i := 3) (v := ?v26) rfl (by kernel_rfl) (by kernel_rfl) (by kernel_rfl) (fun _ _ _ h => h) (Or.inl ⟨by rfl, ?hy26⟩) (by assumption) ?rest26
                case hy26 => intro w hSw; (try dsimp only at hSw); go_simp; (try with_reducible rfl)
                try simp only [Act.put, List.getElem_toArray, List.getElem_cons_zero, List.getElem_cons_succ, List.setIfInBounds_toArray, List.set_cons_zero, List.set_cons_succ]
                refine wpAnyH_take (i := 4) (v := ?v27) rfl (by kernel_rfl) (by kernel_rfl) (by kernel_rfl) (fun _ _ _ h => h) (Or.inl ⟨by rfl, ?hy27⟩) (by assumption) ?rest27
                case hy27 => intro w hSw; (try dsimp only at hSw); go_simp; (try with_reducible rfl)
                try simp only [Act.put, List.getElem_toArray, List.getElem_cons_zero, List.getElem_cons_succ, List.setIfInBounds_toArray, List.set_cons_zero, List.set_cons_succ]
                refine wpAnyH_take (i := 5) (v := ?v28) rfl (by kernel_rfl) (by kernel_rfl) (by kernel_rfl) (fun _ _ _ h => h) (Or.inl ⟨by rfl, ?hy28⟩) (by assumption) ?rest28
                case hy28 => intro w hSw; (try dsimp only at hSw); go_simp; (try with_reducible rfl)
                try simp only [Act.put, List.getElem_toArray, List.getElem_cons_zero, List.getElem_cons_succ, List.setIfInBounds_toArray, List.set_cons_zero, List.set_cons_succ]
                refine wpAnyH_take (i := 6) (v := ?v29) rfl (by kernel_rfl) (by kernel_rfl) (by kernel_rfl) (fun _ _ _ h => h) (Or.inl ⟨by rfl, ?hy29⟩) (by assumption) ?rest29
                case hy29 => intro w hSw; (try dsimp only at hSw); go_simp; (try with_reducible rfl)
                try simp only [Act.put, List.getElem_toArray, List.getElem_cons_zero, List.getElem_cons_succ, List.setIfInBounds_toArray, List.set_cons_zero, List.set_cons_succ]
                refine wpAnyH_take (i := 7) (v := ?v30) rfl (by kernel_rfl) (by kernel_rfl) (by kernel_rfl) (fun _ _ _ h => h) (Or.inl ⟨by rfl, ?hy30⟩) (by assumption) ?rest30
                case hy30 => intro w hSw; (try dsimp only at hSw); go_simp; (try with_reducible rfl)
                try simp only [Act.put, List.getElem_toArray, List.getElem_cons_zero, List.getElem_cons_succ, List.setIfInBounds_toArray, List.set_cons_zero, List.set_cons_succ]
                refine wpAnyH_take (i := 8) (v := ?v31) rfl (by kernel_rfl) (by kernel_rfl) (by kernel_rfl) (fun _ _ _ h => h) (Or.inl ⟨by rfl, ?hy31⟩) (by assumption) ?rest31
                case hy31 => intro w hSw; (try dsimp only at hSw); go_simp; (try with_reducible rfl)
                try simp only [Act.put, List.getElem_toArray, List.getElem_cons_zero, List.getElem_cons_succ, List.setIfInBounds_toArray, List.set_cons_zero, List.set_cons_succ]
                refine wpAnyH_take (i := 9) (v := ?v32) rfl (by kernel_rfl) (by kernel_rfl) (by kernel_rfl) (fun _ _ _ h => h) (Or.inl ⟨by rfl, ?hy32⟩) (by assumption) ?rest32
                case hy32 => intro w hSw; (try dsimp only at hSw); go_simp; (try with_reducible rfl)
                try simp only [Act.put, List.getElem_toArray, List.getElem_cons_zero, List.getElem_cons_succ, List.setIfInBounds_toArray, List.set_cons_zero, List.set_cons_succ]
                refine wpAnyH_ready (rs := [10]) (by kernel_rfl) (by simp) ?_
                refine AllReadyH.cons rfl (fun K hK => ?_) AllReadyH.nil
                go_simp
                refine hK.out _ _ ?_ (fun hHeld => ?_)
                · exact HS2.out
                clear hK K
                try simp only [Act.put, List.getElem_toArray, List.getElem_cons_zero, List.getElem_cons_succ, List.setIfInBounds_toArray, List.set_cons_zero, List.set_cons_succ]
                refine wpAnyH_ready (rs := [11]) (by kernel_rfl) (by simp) ?_
                refine AllReadyH.cons rfl (fun K hK => ?_) AllReadyH.nil
                refine step_append_run rfl (.tmp 67) (.tmp 77) 39 39 rfl _ _ _ _ rfl rfl HR.out ?_
                refine hK.out _ _ ?_ (fun hHeld => ?_)
                · exact HS3.out
                clear hK K
                try simp only [Act.put, List.getElem_toArray, List.getElem_cons_zero, List.getElem_cons_succ, List.setIfInBounds_toArray, List.set_cons_zero, List.set_cons_succ]
                refine wpAnyH_take (i := 12) (v := ?v33) rfl (by kernel_rfl) (by kernel_rfl) (by kernel_rfl) (fun _ _ _ h => h) (Or.inl ⟨by rfl, ?hy33⟩) (by assumption) ?rest33
                case hy33 => intro w hSw; (try dsimp only at hSw); go_simp; (try with_reducible rfl)
                try simp only [Act.put, List.getElem_toArray, List.getElem_cons_zero, List.getElem_cons_succ, List.setIfInBounds_toArray, List.set_cons_zero, List.set_cons_succ]
                refine wpAnyH_done (by kernel_rfl) ?_ _
                clear HS2 HS3 hHeld HR x0 x1
                go_wp2_with fail
                exact ⟨⟨a1, (if d1 = 1 then some ⟨b4, off4, none⟩ else some ⟨b4, off4 + 2, none⟩), a6, c1, d1 - 1, c6, (p :: ra), rb, told ++ [(q.1, q.2, false)], g, rfl, rfl, by rw [HLN.out], hc1, by omega, by simp only [List.length_cons, List.length_nil] at hf ⊢; omega, by rw [HLN.out]; omega, HA, HDR, HG6, HE2⟩, by simp⟩
              · have hz : lessS (p :: ra) (q :: rb) = 0 := by omega
                obtain ⟨g, rfl⟩ : ∃ g, f = g + 1 := ⟨f - 1, by simp at hf; omega⟩
                have HE2 := hideIt (show told ++ ((if p.2 = q.2 then [] else [(q.1, q.2, false)]) ++ diffF g ra rb) = diffL a b by rw [← diffF_eq g p q ra rb hz]; exact HE.out)
                obtain ⟨b3, off3, rfl, hb3, y0, y1⟩ := sps_get HA.out 0 (by simp)
                obtain ⟨b4, off4, rfl, hb4, x0, x1⟩ := sps_get HB.out 0 (by simp)
                rw [Nat.zero_mul, Nat.add_zero, List.getElem_cons_zero] at x0 x1 y0 y1
                have HDA := hideIt (by have := drop_at HA.out hc1 1 (by simp); rw [Option.map_some, Addr.add_lit, List.drop_succ_cons, List.drop_zero] at this; exact this)
                have HDR := hideIt (by have := drop_at HB.out hd1 1 (by simp); rw [Option.map_some, Addr.add_lit, List.drop_succ_cons, List.drop_zero] at this; exact this)
                have HC0 := hideIt (fun w' (hF : Fr (fun _ => False) w w') => And.intro (hF.cell0 x0) (hF.cell0 x1))
                have HC1 := hideIt (fun w' (hF : Fr (fun _ => False) w w') => hF.cell0 y1)
                simp only [List.length_cons] at HLS hd1 hf hc1
                have HLN := hideIt (show (told ++ [((q.1, q.2, false) : Wr)]).length = told.length + 1 by simp)
                generalize lessS (p :: ra) (q :: rb) = sd at *
                subst hz
                clear x0 x1 y0 y1 HE hn hps
                go_wp2_with fail
                refine Calls.mono HLS.out ?_
                rintro e w3 ⟨rfl, hF3⟩
                have hFw3 := HG.out.fr.trans hF3 (fun _ _ e => e)
                obtain ⟨x0, x1⟩ := HC0.out w3 hFw3
                have y1 := HC1.out w3 hFw3
                have HFW3 := hideIt hFw3
                have HG3 := hideIt (HG.out.quiet hF3)
                clear hF3 hFw3 HG HLS
                by_cases hv : p.2 = q.2
                · have hq : (p.2.toList == q.2.toList) = true := by rw [hv]; simp
                  have hq2 : (p.2.toList != q.2.toList) = false := by rw [hv]; simp
                  have HE3 := hideIt (show told ++ diffF g ra rb = diffL a b by have := HE2.out; rwa [if_pos hv, List.nil_append] at this)
                  clear hv HE2
                  go_wp2_with fail
                  go_quiet (fail)
                  go_wp2_with fail
                  go_quiet (fail)
                  go_wp2_with fail
                  exact ⟨⟨(if c1 = 1 then some ⟨b3, off3, none⟩ else some ⟨b3, off3 + 2, none⟩), (if d1 = 1 then some ⟨b4, off4, none⟩ else some ⟨b4, off4 + 2, none⟩), a5, c1 - 1, d1 - 1, c5, ra, rb, told, g, rfl, rfl, rfl, by omega, by omega, by omega, by omega, HDA, HDR, hideIt ((HG3.out.quiet ((Fr.refl _ _).drewN _)).quiet ((Fr.refl _ _).drewN _)), HE3⟩, by simp <;> omega⟩
                · have hq : (p.2.toList == q.2.toList) = false := by rw [key_eq]; exact decide_eq_false hv
                  have hq2 : (p.2.toList != q.2.toList) = true := by simp only [bne, hq]; rfl
                  have HE3 := hideIt (show (told ++ [(q.1, q.2, false)]) ++ diffF g ra rb = diffL a b by have := HE2.out; rwa [if_neg hv, ← List.append_assoc] at this)
                  clear hv HE2
                  go_wp2_with fail
                  go_quiet (fail)
                  have hF4 := HFW3.out.drewN nq
                  have HG4 := hideIt (HG3.out.quiet ((Fr.refl _ _).drewN nq))
                  clear x0 x1 y1
                  generalize w3.drewN nq = w4 at *
                  obtain ⟨x0, x1⟩ := HC0.out w4 hF4
                  have HS2 := hideIt (HC0.out _ ((hF4.alloc (.cells #[.string q.1, .string q.2, .bool false] 52)).drew))
                  obtain ⟨a6, c6, w6, hrun, hG6⟩ := growW_app (HG4.out.quiet (((Fr.refl _ _).alloc (.cells #[.string q.1, .string q.2, .bool false] 52)).drew)) [(q.1, q.2, false)] (some ⟨w4.heap.size, 0, none⟩) 1 (Or.inr ((ws_one (q.1, q.2, false) w4).fr0 (Fr.refl _ _).drew)) (by simp; omega)
                  have HR := hideIt hrun
                  have HS3 := hideIt (HC0.out _ hG6.fr)
                  have HG6 := hideIt hG6
                  clear hrun hG6 hF4 HC0 HC1 HG3 HG4 HFW3
                  go_wp2_with fail
                  refine wp_region_held_drew (S := fun w' => w'.cell? ⟨b4, off4, none⟩ = some (.string q.1) ∧ w'.cell? ⟨b4, off4 + 1, none⟩ = some (.string q.2)) (by kernel_rfl) ?_ (fun hHeld => ?_)
                  · exact ⟨x0, x1⟩
                  refine wpAnyH_take (i := 0) (v := ?v1) rfl (by kernel_rfl) (by kernel_rfl) (by kernel_rfl) (fun _ _ _ h => h) (Or.inl ⟨by rfl, ?hy1⟩) (by assumption) ?rest1
                  case hy1 => intro w hSw; (try dsimp only at hSw); go_simp; (try with_reducible rfl)
                  try simp only [Act.put, List.getElem_toArray, List.getElem_cons_zero, List.getElem_cons_succ, List.setIfInBounds_toArray, List.set_cons_zero, List.set_cons_succ]
                  refine wpAnyH_take (i := 1) (v := ?v2) rfl (by kernel_rfl) (by kernel_rfl) (by kernel_rfl) (fun _ _ _ h => h) (Or.inl ⟨by rfl, ?hy2⟩) (by assumption) ?rest2
                  case hy2 => intro w hSw; (try dsimp only at hSw); go_simp; (try with_reducible rfl)
                  try simp only [Act.put, List.getElem_toArray, List.getElem_cons_zero, List.getElem_cons_succ, List.setIfInBounds_toArray, List.set_cons_zero, List.set_cons_succ]
                  refine wpAnyH_take (i := 2) (v := ?v3) rfl (by kernel_rfl) (by kernel_rfl) (by kernel_rfl) (fun _ _ _ h => h) (Or.inl ⟨by rfl, ?hy3⟩) (by assumption) ?rest3
                  case hy3 => intro w hSw; (try dsimp only at hSw); go_simp; (try with_reducible rfl)
                  try simp only [Act.put, List.getElem_toArray, List.getElem_cons_zero, List.getElem_cons_succ, List.setIfInBounds_toArray, List.set_cons_zero, List.set_cons_succ]
                  refine wpAnyH_take (i := 3) (v := ?v4) rfl (by kernel_rfl) (by kernel_rfl) (by kernel_rfl) (fun _ _ _ h => h) (Or.inl ⟨by rfl, ?hy4⟩) (by assumption) ?rest4
                  case hy4 => intro w hSw; (try dsimp only at hSw); go_simp; (try with_reducible rfl)
                  try simp only [Act.put, List.getElem_toArray, List.getElem_cons_zero, List.getElem_cons_succ, List.setIfInBounds_toArray, List.set_cons_zero, List.set_cons_succ]
                  refine wpAnyH_take (i := 4) (v := ?v5) rfl (by kernel_rfl) (by kernel_rfl) (by kernel_rfl) (fun _ _ _ h => h) (Or.inl ⟨by rfl, ?hy5⟩) (by assumption) ?rest5
                  case hy5 => intro w hSw; (try dsimp only at hSw); go_simp; (try with_reducible rfl)
                  try simp only [Act.put, List.getElem_toArray, List.getElem_cons_zero, List.getElem_cons_succ, List.setIfInBounds_toArray, List.set_cons_zero, List.set_cons_succ]
                  refine wpAnyH_take (i := 5) (v := ?v6) rfl (by kernel_rfl) (by kernel_rfl) (by kernel_rfl) (fun _ _ _ h => h) (Or.inl ⟨by rfl, ?hy6⟩) (by assumption) ?rest6
                  case hy6 => intro w hSw; (try dsimp only at hSw); go_simp; (try with_reducible rfl)
                  try simp only [Act.put, List.getElem_toArray, List.getElem_cons_zero, List.getElem_cons_succ, List.setIfInBounds_toArray, List.set_cons_zero, List.set_cons_succ]
                  refine wpAnyH_take (i := 6) (v := ?v7) rfl (by kernel_rfl) (by kernel_rfl) (by kernel_rfl) (fun _ _ _ h => h) (Or.inl ⟨by rfl, ?hy7⟩) (by assumption) ?rest7
                  case hy7 => intro w hSw; (try dsimp only at hSw); go_simp; (try with_reducible rfl)
                  try simp only [Act.put, List.getElem_toArray, List.getElem_cons_zero, List.getElem_cons_succ, List.setIfInBounds_toArray, List.set_cons_zero, List.set_cons_succ]
                  refine wpAnyH_take (i := 7) (v := ?v8) rfl (by kernel_rfl) (by kernel_rfl) (by kernel_rfl) (fun _ _ _ h => h) (Or.inl ⟨by rfl, ?hy8⟩) (by assumption) ?rest8
                  case hy8 => intro w hSw; (try dsimp only at hSw); go_simp; (try with_reducible rfl)
                  try simp only [Act.put, List.getElem_toArray, List.getElem_cons_zero, List.getElem_cons_succ, List.setIfInBounds_toArray, List.set_cons_zero, List.set_cons_succ]
                  refine wpAnyH_take (i := 8) (v := ?v9) rfl (by kernel_rfl) (by kernel_rfl) (by kernel_rfl) (fun _ _ _ h => h) (Or.inl ⟨by rfl, ?hy9⟩) (by assumption) ?rest9
                  case hy9 => intro w hSw; (try dsimp only at hSw); go_simp; (try with_reducible rfl)
                  try simp only [Act.put, List.getElem_toArray, List.getElem_cons_zero, List.getElem_cons_succ, List.setIfInBounds_toArray, List.set_cons_zero, List.set_cons_succ]
                  refine wpAnyH_take (i := 9) (v := ?v10) rfl (by kernel_rfl) (by kernel_rfl) (by kernel_rfl) (fun _ _ _ h => h) (Or.inl ⟨by rfl, ?hy10⟩) (by assumption) ?rest10
                  case hy10 => intro w hSw; (try dsimp only at hSw); go_simp; (try with_reducible rfl)
                  try simp only [Act.put, List.getElem_toArray, List.getElem_cons_zero, List.getElem_cons_succ, List.setIfInBounds_toArray, List.set_cons_zero, List.set_cons_succ]
                  refine wpAnyH_ready (rs := [10]) (by kernel_rfl) (by simp) ?_
                  refine AllReadyH.cons rfl (fun K hK => ?_) AllReadyH.nil
                  go_simp
                  refine hK.out _ _ ?_ (fun hHeld => ?_)
                  · exact HS2.out
                  clear hK K
                  try simp only [Act.put, List.getElem_toArray, List.getElem_cons_zero, List.getElem_cons_succ, List.setIfInBounds_toArray, List.set_cons_zero, List.set_cons_succ]
                  refine wpAnyH_ready (rs := [11]) (by kernel_rfl) (by simp) ?_
                  refine AllReadyH.cons rfl (fun K hK => ?_) AllReadyH.nil
                  refine step_append_run rfl (.tmp 35) (.tmp 45) 39 39 rfl _ _ _ _ rfl rfl HR.out ?_
                  refine hK.out _ _ ?_ (fun hHeld => ?_)
                  · exact HS3.out
                  clear hK K
                  try simp only [Act.put, List.getElem_toArray, List.getElem_cons_zero, List.getElem_cons_succ, List.setIfInBounds_toArray, List.set_cons_zero, List.set_cons_succ]
                  refine wpAnyH_take (i := 12) (v := ?v11) rfl (by kernel_rfl) (by kernel_rfl) (by kernel_rfl) (fun _ _ _ h => h) (Or.inl ⟨by rfl, ?hy11⟩) (by assumption) ?rest11
                  case hy11 => intro w hSw; (try dsimp only at hSw); go_simp; (try with_reducible rfl)
                  try simp only [Act.put, List.getElem_toArray, List.getElem_cons_zero, List.getElem_cons_succ, List.setIfInBounds_toArray, List.set_cons_zero, List.set_cons_succ]
                  refine wpAnyH_done (by kernel_rfl) ?_ _
                  clear HS2 HS3 hHeld HR x0 x1
                  go_wp2_with fail
                  skip
                  go_quiet (fail)
                  go_wp2_with fail
                  exact ⟨⟨(if c1 = 1 then some ⟨b3, off3, none⟩ else some ⟨b3, off3 + 2, none⟩), (if d1 = 1 then some ⟨b4, off4, none⟩ else some ⟨b4, off4 + 2, none⟩), a6, c1 - 1, d1 - 1, c6, ra, rb, told ++ [(q.1, q.2, false)], g, rfl, rfl, by rw [HLN.out], by omega, by omega, by omega, by rw [HLN.out]; omega, HDA, HDR, hideIt (HG6.out.quiet ((Fr.refl _ _).drewN _)), HE3⟩, by simp <;> omega⟩
    · have hd : (chkE b != 0) = true := by simpa using h2
      have HQ := hideIt (show diffL a b = [] by unfold diffL; rw [if_neg (fun e => h2 e.2)])
      rw [h1] at HCA
      clear h2
      generalize chkE b = c at *
      go_enter Try.func26, Try.ntmps26
      go_wp2_with fail
      refine Calls.mono HCA.out ?_
      rintro e w1 ⟨rfl, hF1⟩
      have HF1 := hideIt hF1
      clear hF1
      go_wp2_with fail
      refine Calls.mono (HCB.out _ HF1.out) ?_
      rintro e w2 ⟨rfl, hF2⟩
      have HF2 := hideIt (HF1.out.trans hF2 (fun _ _ e => e))
      clear hF2
      go_wp2_with fail
      go_ret
      rw [HQ.out]
      exact ⟨none, 0, rfl, Grow.start HF2.out⟩
  · have hd : (chkE a != 0) = true := by simpa using h1
    have HQ := hideIt (show diffL a b = [] by unfold diffL; rw [if_neg (fun e => h1 e.1)])
    clear h1
    generalize chkE a = c at *
    go_enter Try.func26, Try.ntmps26
    go_wp2_with fail
    refine Calls.mono HCA.out ?_
    rintro e w1 ⟨rfl, hF1⟩
    have HF1 := hideIt hF1
    clear hF1
    go_wp2_with fail
    go_ret
    rw [HQ.out]
    exact ⟨none, 0, rfl, Grow.start HF1.out⟩

end Go.Proofs.Ytefikadaiconaaa
