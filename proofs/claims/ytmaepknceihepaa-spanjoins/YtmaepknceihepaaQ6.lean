/- SpanJoins, part 6 of the road: what the program's functions do, each by its own walk. -/
import Derived.Test.YtmaepknceihepaaQ5
import Derived.Deep.QuietTactic

/- Spans: the document's sorting, walked. -/
namespace Go.Proofs.Ytmaepknceihepaa
open Go.RowKit Go.IntWalk
set_option linter.unusedSimpArgs false
set_option linter.unusedVariables false
set_option maxRecDepth 100000

theorem SpsAt.lt {w : World} {b off : Nat} {l : List Sp} (h : SpsAt w (some ⟨b, off, none⟩) l) : b < w.heap.size := by
  rcases h with ⟨e, _⟩ | ⟨b', off', e, h2, _⟩
  · cases e
  · obtain ⟨rfl, rfl⟩ : b = b' ∧ off = off' := by simpa using e
    exact h2

theorem drop_at2 {w : World} {ao : Option Addr} {l : List Sp} {cap : Nat} (h : SpRow w ao cap l) (f : Nat) (hf : f ≤ l.length) : l.drop f = [] ∨ SpsAt w (if cap = f then ao else Option.map (fun x => x.add (f * 2)) ao) (l.drop f) := by
  have hcap := h.le
  by_cases hc : cap = f
  · exact Or.inl (List.drop_eq_nil_of_le (by omega))
  · rw [if_neg hc]
    rcases h.at with ⟨_, h⟩ | ⟨b, off, rfl, h2, h3⟩
    · exact Or.inl (by rw [h]; simp)
    · right
      show SpsAt w (some ((⟨b, off, none⟩ : Addr).add (f * 2))) _
      rw [Addr.add_lit]
      exact SpsAt.drop (Or.inr ⟨b, off, rfl, h2, h3⟩) f

set_option maxRecDepth 100000 in
set_option maxHeartbeats 8000000 in
theorem zsorted_any (ao : Option Addr) (cap : Nat) (l : List Sp) (w : World) (h : l = [] ∨ SpsAt w ao l) (hl : l.length ≤ 1000000) :
    Calls Try.prog 17 #[.slice ao l.length cap] w fun e w' => ∃ ao' cap' m, e = .returned (.slice ao' m.length cap') ∧ Sorted l m ∧ m.length ≤ l.length ∧ SpRow w' ao' cap' m ∧ Fr (fun _ => False) w w' ∧ ∀ q, blk ao' q → w.heap.size ≤ q := by
  have HH := hideIt h
  clear h
  go_enter Try.func17, Try.ntmps17
  go_wp2_with fail
  go_loopw [3, 4] (fun v i wr => ∃ (j : Nat) (aor : Option Addr) (capr : Nat) (m : List Sp), i = .int .i64 j ∧ j ≤ l.length ∧ v = .slice aor m.length capr ∧ m.length ≤ j ∧ Hid (Sorted (l.take j) m) ∧ SpRow wr aor capr m ∧ Fr (fun _ => False) w wr ∧ ∀ q, blk aor q → w.heap.size ≤ q) (fun _ i _ => l.length - (intOf i).toNat)
  case atStart => exact ⟨0, none, 0, [], rfl, Nat.zero_le _, rfl, Nat.zero_le _, hideIt (by simpa using sorted_nil), SpRow.nil _, Fr.refl _ _, fun _ ⟨_, e, _⟩ => by cases e⟩
  case round =>
    obtain ⟨j, aor, capr, m, rfl, hj, rfl, hmj, HM, hrow, hF, hn⟩ := hrel
    have HROW := hideIt hrow
    have HF := hideIt hF
    have HN := hideIt hn
    clear hrow hF hn
    by_cases hlt : j < l.length
    · obtain ⟨b, off, rfl, hbl, c0, c1⟩ := SpsAt.get (ats_fr0 HH.out HF.out) j hlt
      have HT := hideIt (List.take_succ_eq_append_getElem hlt)
      generalize l[j] = x at *
      by_cases hx : NonE x
      · have hE := hideIt (fun w => by have := zempty_any x w; rw [show decide (¬ NonE x) = false from decide_eq_false (fun e => e hx)] at this; exact this)
        have HX := hideIt hx
        clear hx
        go_wp2_with fail
        refine Calls.mono (hE.out _) ?_
        rintro e w1 ⟨rfl, hF1⟩
        have HC := hideIt (show ∀ w' : World, Fr (fun _ => False) w1 w' → w'.cell? ⟨b, off + j * 2, none⟩ = some (.string x.1) ∧ w'.cell? ⟨b, off + j * 2 + 1, none⟩ = some (.string x.2) from fun w' h => ⟨h.cell0 (hF1.cell0 c0), h.cell0 (hF1.cell0 c1)⟩)
        have HF1 := hideIt (HF.out.trans hF1 (fun _ _ e => e))
        have HROW1 := hideIt (HROW.out.fr hF1 (fun _ _ e => e))
        clear hF1 c0 c1
        go_wp2_with fail
        go_loopw [5] (fun i wq => ∃ k : Nat, i = .int .i64 k ∧ k ≤ m.length ∧ Hid (∀ y ∈ m.take k, ¬ lo x < lo y) ∧ Fr (fun _ => False) w1 wq) (fun i _ => m.length - (intOf i).toNat)
        case atStart => exact ⟨0, rfl, Nat.zero_le _, hideIt (by simp), Fr.refl _ _⟩
        case round =>
          obtain ⟨k, rfl, hkm, HB, hFz⟩ := hrel
          obtain ⟨d0, d1⟩ := HC.out wr hFz
          have HROWZ := hideIt (HROW1.out.fr hFz (fun _ _ e => e))
          have HFZ := hideIt (HF1.out.trans hFz (fun _ _ e => e))
          have HFz := hideIt hFz
          have HS := hideIt (show ∀ w' : World, Fr (fun _ => False) wr w' → w'.cell? ⟨b, off + j * 2, none⟩ = some (.string x.1) ∧ w'.cell? ⟨b, off + j * 2 + 1, none⟩ = some (.string x.2) ∧ Fr (fun _ => False) wr w' from fun w' h => ⟨h.cell0 d0, h.cell0 d1, h⟩)
          have HDD := hideIt (show ∀ w' : World, Fr (fun _ => False) wr w' → (m.drop k = [] ∨ SpsAt w' (if capr = k then aor else Option.map (fun x => x.add (k * 2)) aor) (m.drop k)) from fun w' h => drop_at2 (HROWZ.out.fr h (fun _ _ e => e)) k hkm)
          have hkc : k ≤ capr := Nat.le_trans hkm HROWZ.out.le
          have hi1 : (0 : Int) ≤ (k : Int) := by omega
          have hi2 : (k : Int) ≤ (m.length : Int) := by omega
          have hi3 : (k : Int) ≤ (capr : Int) := by omega
          clear hFz
          by_cases hkl : k < m.length
          · obtain ⟨b2, off2, rfl, hbl2, y0, y1⟩ := SpsAt.get (Or.inr HROWZ.out.at) k hkl
            have HTK := hideIt (List.take_succ_eq_append_getElem hkl)
            have HMK := hideIt (fun (h : lo x < lo m[k]) => drop_up HM.out k (fun _ => h))
            generalize m[k] = y at *
            by_cases hy : lo x < lo y
            · have hle : (Op.bytesLess y.1.toList x.1.toList || y.1.toList == x.1.toList) = false := by rw [le_iff]; exact decide_eq_false (fun e => e hy)
              have HUP := hideIt (HMK.out hy)
              clear hy HMK
              go_wp2_with fail
              go_quiet (fail)
              go_wp2_with fail
              generalize (some ⟨b2, off2, none⟩ : Option Addr) = aor at *
              have hq0 : Fr (fun _ => False) wr (wr.drewN nq) := (Fr.refl _ _).drewN _
              generalize wr.drewN nq = wv at *
              refine wp_region_held_drew (S := fun w' => w'.cell? ⟨b, off + j * 2, none⟩ = some (.string x.1) ∧ w'.cell? ⟨b, off + j * 2 + 1, none⟩ = some (.string x.2) ∧ Fr (fun _ => False) wr w') (by kernel_rfl) ?_ (fun hHeld => ?_)
              · exact HS.out _ hq0.drew
              generalize wv.drew = wzd at *
              refine wpAnyH_take (i := 1) (v := ?v1) rfl (by kernel_rfl) (by kernel_rfl) (by kernel_rfl) (fun _ _ _ h => h) (Or.inl ⟨by rfl, ?hy1⟩) (by assumption) ?rest1
              case hy1 => intro w hSw; (try dsimp only at hSw); go_simp; (try with_reducible rfl)
              try simp only [Act.put, List.setIfInBounds_toArray, List.set_cons_zero, List.set_cons_succ]
              refine wpAnyH_take (i := 2) (v := ?v2) rfl (by kernel_rfl) (by kernel_rfl) (by kernel_rfl) (fun _ _ _ h => h) (Or.inl ⟨by rfl, ?hy2⟩) (by assumption) ?rest2
              case hy2 => intro w hSw; (try dsimp only at hSw); go_simp; (try with_reducible rfl)
              try simp only [Act.put, List.setIfInBounds_toArray, List.set_cons_zero, List.set_cons_succ]
              refine wpAnyH_take (i := 3) (v := ?v3) rfl (by kernel_rfl) (by kernel_rfl) (by kernel_rfl) (fun _ _ _ h => h) (Or.inl ⟨by rfl, ?hy3⟩) (by assumption) ?rest3
              case hy3 => intro w hSw; (try dsimp only at hSw); go_simp; (try with_reducible rfl)
              try simp only [Act.put, List.setIfInBounds_toArray, List.set_cons_zero, List.set_cons_succ]
              refine wpAnyH_take (i := 5) (v := ?v4) rfl (by kernel_rfl) (by kernel_rfl) (by kernel_rfl) (fun _ _ _ h => h) (Or.inl ⟨by rfl, ?hy4⟩) (by assumption) ?rest4
              case hy4 => intro w hSw; (try dsimp only at hSw); go_simp; (try with_reducible rfl)
              try simp only [Act.put, List.setIfInBounds_toArray, List.set_cons_zero, List.set_cons_succ]
              refine wpAnyH_take (i := 6) (v := ?v5) rfl (by kernel_rfl) (by kernel_rfl) (by kernel_rfl) (fun _ _ _ h => h) (Or.inl ⟨by rfl, ?hy5⟩) (by assumption) ?rest5
              case hy5 => intro w hSw; (try dsimp only at hSw); go_simp; (try with_reducible rfl)
              try simp only [Act.put, List.setIfInBounds_toArray, List.set_cons_zero, List.set_cons_succ]
              refine wpAnyH_take (i := 7) (v := ?v6) rfl (by kernel_rfl) (by kernel_rfl) (by kernel_rfl) (fun _ _ _ h => h) (Or.inl ⟨by rfl, ?hy6⟩) (by assumption) ?rest6
              case hy6 => intro w hSw; (try dsimp only at hSw); go_simp; (try with_reducible rfl)
              try simp only [Act.put, List.setIfInBounds_toArray, List.set_cons_zero, List.set_cons_succ]
              refine wpAnyH_take (i := 8) (v := ?v7) rfl (by kernel_rfl) (by kernel_rfl) (by kernel_rfl) (fun _ _ _ h => h) (Or.inl ⟨by rfl, ?hy7⟩) (by assumption) ?rest7
              case hy7 => intro w hSw; (try dsimp only at hSw); go_simp; (try with_reducible rfl)
              try simp only [Act.put, List.setIfInBounds_toArray, List.set_cons_zero, List.set_cons_succ]
              refine wpAnyH_take (i := 11) (v := ?v8) rfl (by kernel_rfl) (by kernel_rfl) (by kernel_rfl) (fun _ _ _ h => h) (Or.inl ⟨by rfl, ?hy8⟩) (by assumption) ?rest8
              case hy8 => intro w hSw; (try dsimp only at hSw); go_simp; (try with_reducible rfl)
              try simp only [Act.put, List.setIfInBounds_toArray, List.set_cons_zero, List.set_cons_succ]
              refine wpAnyH_take (i := 12) (v := ?v9) rfl (by kernel_rfl) (by kernel_rfl) (by kernel_rfl) (fun _ _ _ h => h) (Or.inl ⟨by rfl, ?hy9⟩) (by assumption) ?rest9
              case hy9 => intro w hSw; (try dsimp only at hSw); go_simp; (try with_reducible rfl)
              try simp only [Act.put, List.setIfInBounds_toArray, List.set_cons_zero, List.set_cons_succ]
              refine wpAnyH_take (i := 13) (v := ?v10) rfl (by kernel_rfl) (by kernel_rfl) (by kernel_rfl) (fun _ _ _ h => h) (Or.inl ⟨by rfl, ?hy10⟩) (by assumption) ?rest10
              case hy10 => intro w hSw; (try dsimp only at hSw); go_simp; (try with_reducible rfl)
              try simp only [Act.put, List.setIfInBounds_toArray, List.set_cons_zero, List.set_cons_succ]
              generalize (if capr = k then aor else Option.map (fun x => x.add (k * 2)) aor) = aoD at *
              refine wpAnyH_ready (rs := [0, 9]) (by kernel_rfl) (by simp) ?_
              refine AllReadyH.cons rfl (fun K hK => ?_) ?_
              · go_simp
                have hF := hHeld.2.2.alloc (.cells #[] 24)
                have hg0 := hHeld.2.2.size
                have row0 : SpRow (wzd.alloc (.cells #[] 24)) (some ⟨wzd.heap.size, 0, none⟩) 0 [] := World.ownsRow_made wzd #[] 0 (Nat.zero_le _) (by decide) rfl
                refine hK.out _ _ ?_ (fun hHeld => ?_)
                · exact HS.out _ hF
                clear hK K hF
                try simp only [Act.put, List.setIfInBounds_toArray, List.set_cons_zero, List.set_cons_succ]
                generalize wzd.alloc (.cells #[] 24) = wc1 at *
                refine wpAnyH_ready (rs := [4, 9]) (by kernel_rfl) (by simp) ?_
                refine AllReadyH.cons rfl (fun K hK => ?_) ?_
                · obtain ⟨ao1, c1, wc2, hrun, row1, hFA, hao1⟩ := spans_append wc1 (some ⟨wzd.heap.size, 0, none⟩) 0 [] (m.take k) row0 aor capr (Or.inr ((HROWZ.out.at.fr0 hHeld.2.2).take k)) (by rw [List.length_take, List.length_nil]; omega)
                  rw [List.length_take, Nat.min_eq_left hkm, List.length_nil, Nat.zero_add] at hrun
                  rw [List.nil_append] at row1
                  have hF := hHeld.2.2.trans hFA (fun i hi ⟨a, e1, e2⟩ => by obtain rfl := Option.some.inj e1; simp only at e2; omega)
                  have hsz4 := hHeld.2.2.size
                  have nao1 : ∀ q, blk ao1 q → wr.heap.size ≤ q := by
                    rintro q ⟨a, e1, e2⟩
                    rcases hao1 with e | e <;> rw [e] at e1 <;> obtain rfl := Option.some.inj e1 <;> simp only at e2 <;> omega
                  have HR := hideIt hrun
                  clear hrun hFA hao1
                  refine step_append_run rfl (.tmp 36) (.tmp 39) 22 22 rfl _ _ _ _ rfl rfl HR.out ?_
                  refine hK.out _ _ ?_ (fun hHeld => ?_)
                  · exact HS.out _ hF
                  clear hK K hF HR
                  try simp only [Act.put, List.setIfInBounds_toArray, List.set_cons_zero, List.set_cons_succ]
                  refine wpAnyH_ready (rs := [9]) (by kernel_rfl) (by simp) ?_
                  refine AllReadyH.cons rfl (fun K hK => ?_) AllReadyH.nil
                  go_simp
                  have hF := hHeld.2.2.alloc (.cells #[.string x.1, .string x.2] 24)
                  replace row1 := row1.fr ((Fr.refl (fun _ => False) wc2).alloc (.cells #[.string x.1, .string x.2] 24)) (fun _ _ e => e)
                  have hat9 := sps_one x wc2
                  refine hK.out _ _ ?_ (fun hHeld => ?_)
                  · exact HS.out _ hF
                  clear hK K hF
                  try simp only [Act.put, List.setIfInBounds_toArray, List.set_cons_zero, List.set_cons_succ]
                  generalize wc2.alloc (.cells #[.string x.1, .string x.2] 24) = wc3 at *
                  refine wpAnyH_ready (rs := [10]) (by kernel_rfl) (by simp) ?_
                  refine AllReadyH.cons rfl (fun K hK => ?_) AllReadyH.nil
                  obtain ⟨ao2, c2, wc4, hrun, row2, hFA, hao2⟩ := spans_append wc3 ao1 c1 (m.take k) [x] row1 (some ⟨wc2.heap.size, 0, none⟩) 1 (Or.inr hat9) (by rw [List.length_take, List.length_singleton]; omega)
                  rw [List.length_take, Nat.min_eq_left hkm, List.length_singleton] at hrun
                  have hF := hHeld.2.2.trans hFA (fun i hi e => by have := nao1 i e; omega)
                  have hsz5 := hHeld.2.2.size
                  have nao2 : ∀ q, blk ao2 q → wr.heap.size ≤ q := by
                    intro q hq
                    rcases hao2 with e | e
                    · exact nao1 q (e ▸ hq)
                    · obtain ⟨a, e1, e2⟩ := hq
                      rw [e] at e1
                      obtain rfl := Option.some.inj e1
                      simp only at e2
                      omega
                  have HR := hideIt hrun
                  clear hrun hFA hao2 hat9 row1
                  refine step_append_run rfl (.tmp 40) (.tmp 45) 22 22 rfl _ _ _ _ rfl rfl HR.out ?_
                  refine hK.out _ _ ?_ (fun hHeld => ?_)
                  · exact HS.out _ hF
                  clear hK K hF HR
                  try simp only [Act.put, List.setIfInBounds_toArray, List.set_cons_zero, List.set_cons_succ]
                  refine wpAnyH_ready (rs := [14]) (by kernel_rfl) (by simp) ?_
                  refine AllReadyH.cons rfl (fun K hK => ?_) AllReadyH.nil
                  obtain ⟨ao3, c3, wc5, hrun, row3, hFA, hao3⟩ := spans_append wc4 ao2 c2 (m.take k ++ [x]) (m.drop k) row2 aoD (capr - k) (HDD.out _ hHeld.2.2) (by rw [List.length_append, List.length_take, List.length_singleton, List.length_drop]; omega)
                  have hl1 : (m.take k ++ [x]).length = k + 1 := by rw [List.length_append, List.length_take, Nat.min_eq_left hkm, List.length_singleton]
                  rw [← List.length_append, hl1, List.length_drop] at hrun
                  have hF := hHeld.2.2.trans hFA (fun i hi e => by have := nao2 i e; omega)
                  have hsz6 := hHeld.2.2.size
                  have nao3 : ∀ q, blk ao3 q → wr.heap.size ≤ q := by
                    intro q hq
                    rcases hao3 with e | e
                    · exact nao2 q (e ▸ hq)
                    · obtain ⟨a, e1, e2⟩ := hq
                      rw [e] at e1
                      obtain rfl := Option.some.inj e1
                      simp only at e2
                      omega
                  have HR := hideIt hrun
                  clear hrun hFA hao3 row2
                  refine step_append_run rfl (.tmp 46) (.tmp 49) 22 22 rfl _ _ _ _ rfl rfl HR.out ?_
                  refine hK.out _ _ ?_ (fun hHeld => ?_)
                  · exact HS.out _ hF
                  clear hK K hF HR
                  try simp only [Act.put, List.setIfInBounds_toArray, List.set_cons_zero, List.set_cons_succ]
                  refine wpAnyH_take (i := 15) (v := ?v11) rfl (by kernel_rfl) (by kernel_rfl) (by kernel_rfl) (fun _ _ _ h => h) (Or.inl ⟨by rfl, ?hy11⟩) (by assumption) ?rest11
                  case hy11 => intro w hSw; (try dsimp only at hSw); go_simp; (try with_reducible rfl)
                  try simp only [Act.put, List.setIfInBounds_toArray, List.set_cons_zero, List.set_cons_succ]
                  refine wpAnyH_done (by kernel_rfl) ?_ _
                  have HROW3 := hideIt row3
                  have HF3 := hideIt hHeld.2.2
                  have HN3 := hideIt nao3
                  have HLEN := hideIt (sorted_len (L := l) (m := m) k x hkm)
                  clear row3 hHeld nao3
                  go_wp2_with fail
                  go_roundw
                  case measure => simp [intOf]; omega
                  case rel =>
                    have hlen := HLEN.out
                    exact ⟨j + 1, ao3, c3, m.take k ++ [x] ++ m.drop k, by go_num, by omega, congrArg (fun n => Value.slice ao3 n c3) (by simp only [List.length_append, List.length_take, List.length_drop, List.length_singleton]; omega), by omega, hideIt (by rw [HT.out]; exact sorted_ins HM.out HX.out k HB.out HUP.out), HROW3.out, (HFZ.out.trans HF3.out (fun _ _ e => e)), fun q hq => Nat.le_trans HFZ.out.size (HN3.out q hq)⟩
                refine AllReadyH.cons rfl (fun K hK => ?_) ?_
                · go_simp
                  have hF := hHeld.2.2.alloc (.cells #[.string x.1, .string x.2] 24)
                  have l0 : wzd.heap.size < wc1.heap.size := row0.lt ⟨_, rfl, rfl⟩
                  replace row0 := row0.fr ((Fr.refl (fun _ => False) wc1).alloc (.cells #[.string x.1, .string x.2] 24)) (fun _ _ e => e)
                  have hat9 := sps_one x wc1
                  refine hK.out _ _ ?_ (fun hHeld => ?_)
                  · exact HS.out _ hF
                  clear hK K hF
                  try simp only [Act.put, List.setIfInBounds_toArray, List.set_cons_zero, List.set_cons_succ]
                  generalize wc1.alloc (.cells #[.string x.1, .string x.2] 24) = wc6 at *
                  refine wpAnyH_ready (rs := [4]) (by kernel_rfl) (by simp) ?_
                  refine AllReadyH.cons rfl (fun K hK => ?_) AllReadyH.nil
                  obtain ⟨ao1, c1, wc7, hrun, row1, hFA, hao1⟩ := spans_append wc6 (some ⟨wzd.heap.size, 0, none⟩) 0 [] (m.take k) row0 aor capr (Or.inr ((HROWZ.out.at.fr0 hHeld.2.2).take k)) (by rw [List.length_take, List.length_nil]; omega)
                  rw [List.length_take, Nat.min_eq_left hkm, List.length_nil, Nat.zero_add] at hrun
                  rw [List.nil_append] at row1
                  have hF := hHeld.2.2.trans hFA (fun i hi ⟨a, e1, e2⟩ => by obtain rfl := Option.some.inj e1; simp only at e2; omega)
                  have hsz4 := hHeld.2.2.size
                  have nao1 : ∀ q, blk ao1 q → wr.heap.size ≤ q := by
                    rintro q ⟨a, e1, e2⟩
                    rcases hao1 with e | e <;> rw [e] at e1 <;> obtain rfl := Option.some.inj e1 <;> simp only at e2 <;> omega
                  have hat9 := hat9.fr hFA (fun q ⟨a, e1, e2⟩ ⟨a2, e3, e4⟩ => by obtain rfl := Option.some.inj e1; obtain rfl := Option.some.inj e3; simp only at e2 e4; omega)
                  have HR := hideIt hrun
                  clear hrun hFA hao1
                  refine step_append_run rfl (.tmp 36) (.tmp 39) 22 22 rfl _ _ _ _ rfl rfl HR.out ?_
                  refine hK.out _ _ ?_ (fun hHeld => ?_)
                  · exact HS.out _ hF
                  clear hK K hF HR
                  try simp only [Act.put, List.setIfInBounds_toArray, List.set_cons_zero, List.set_cons_succ]
                  refine wpAnyH_ready (rs := [10]) (by kernel_rfl) (by simp) ?_
                  refine AllReadyH.cons rfl (fun K hK => ?_) AllReadyH.nil
                  obtain ⟨ao2, c2, wc8, hrun, row2, hFA, hao2⟩ := spans_append wc7 ao1 c1 (m.take k) [x] row1 (some ⟨wc1.heap.size, 0, none⟩) 1 (Or.inr hat9) (by rw [List.length_take, List.length_singleton]; omega)
                  rw [List.length_take, Nat.min_eq_left hkm, List.length_singleton] at hrun
                  have hF := hHeld.2.2.trans hFA (fun i hi e => by have := nao1 i e; omega)
                  have hsz5 := hHeld.2.2.size
                  have nao2 : ∀ q, blk ao2 q → wr.heap.size ≤ q := by
                    intro q hq
                    rcases hao2 with e | e
                    · exact nao1 q (e ▸ hq)
                    · obtain ⟨a, e1, e2⟩ := hq
                      rw [e] at e1
                      obtain rfl := Option.some.inj e1
                      simp only at e2
                      omega
                  have HR := hideIt hrun
                  clear hrun hFA hao2 hat9 row1
                  refine step_append_run rfl (.tmp 40) (.tmp 45) 22 22 rfl _ _ _ _ rfl rfl HR.out ?_
                  refine hK.out _ _ ?_ (fun hHeld => ?_)
                  · exact HS.out _ hF
                  clear hK K hF HR
                  try simp only [Act.put, List.setIfInBounds_toArray, List.set_cons_zero, List.set_cons_succ]
                  refine wpAnyH_ready (rs := [14]) (by kernel_rfl) (by simp) ?_
                  refine AllReadyH.cons rfl (fun K hK => ?_) AllReadyH.nil
                  obtain ⟨ao3, c3, wc9, hrun, row3, hFA, hao3⟩ := spans_append wc8 ao2 c2 (m.take k ++ [x]) (m.drop k) row2 aoD (capr - k) (HDD.out _ hHeld.2.2) (by rw [List.length_append, List.length_take, List.length_singleton, List.length_drop]; omega)
                  have hl1 : (m.take k ++ [x]).length = k + 1 := by rw [List.length_append, List.length_take, Nat.min_eq_left hkm, List.length_singleton]
                  rw [← List.length_append, hl1, List.length_drop] at hrun
                  have hF := hHeld.2.2.trans hFA (fun i hi e => by have := nao2 i e; omega)
                  have hsz6 := hHeld.2.2.size
                  have nao3 : ∀ q, blk ao3 q → wr.heap.size ≤ q := by
                    intro q hq
                    rcases hao3 with e | e
                    · exact nao2 q (e ▸ hq)
                    · obtain ⟨a, e1, e2⟩ := hq
                      rw [e] at e1
                      obtain rfl := Option.some.inj e1
                      simp only at e2
                      omega
                  have HR := hideIt hrun
                  clear hrun hFA hao3 row2
                  refine step_append_run rfl (.tmp 46) (.tmp 49) 22 22 rfl _ _ _ _ rfl rfl HR.out ?_
                  refine hK.out _ _ ?_ (fun hHeld => ?_)
                  · exact HS.out _ hF
                  clear hK K hF HR
                  try simp only [Act.put, List.setIfInBounds_toArray, List.set_cons_zero, List.set_cons_succ]
                  refine wpAnyH_take (i := 15) (v := ?v12) rfl (by kernel_rfl) (by kernel_rfl) (by kernel_rfl) (fun _ _ _ h => h) (Or.inl ⟨by rfl, ?hy12⟩) (by assumption) ?rest12
                  case hy12 => intro w hSw; (try dsimp only at hSw); go_simp; (try with_reducible rfl)
                  try simp only [Act.put, List.setIfInBounds_toArray, List.set_cons_zero, List.set_cons_succ]
                  refine wpAnyH_done (by kernel_rfl) ?_ _
                  have HROW3 := hideIt row3
                  have HF3 := hideIt hHeld.2.2
                  have HN3 := hideIt nao3
                  have HLEN := hideIt (sorted_len (L := l) (m := m) k x hkm)
                  clear row3 hHeld nao3
                  go_wp2_with fail
                  go_roundw
                  case measure => simp [intOf]; omega
                  case rel =>
                    have hlen := HLEN.out
                    exact ⟨j + 1, ao3, c3, m.take k ++ [x] ++ m.drop k, by go_num, by omega, congrArg (fun n => Value.slice ao3 n c3) (by simp only [List.length_append, List.length_take, List.length_drop, List.length_singleton]; omega), by omega, hideIt (by rw [HT.out]; exact sorted_ins HM.out HX.out k HB.out HUP.out), HROW3.out, (HFZ.out.trans HF3.out (fun _ _ e => e)), fun q hq => Nat.le_trans HFZ.out.size (HN3.out q hq)⟩
                exact AllReadyH.nil
              refine AllReadyH.cons rfl (fun K hK => ?_) ?_
              · go_simp
                have hF := hHeld.2.2.alloc (.cells #[.string x.1, .string x.2] 24)
                have hat9 := sps_one x wzd
                refine hK.out _ _ ?_ (fun hHeld => ?_)
                · exact HS.out _ hF
                clear hK K hF
                try simp only [Act.put, List.setIfInBounds_toArray, List.set_cons_zero, List.set_cons_succ]
                generalize wzd.alloc (.cells #[.string x.1, .string x.2] 24) = wc10 at *
                refine wpAnyH_ready (rs := [0]) (by kernel_rfl) (by simp) ?_
                refine AllReadyH.cons rfl (fun K hK => ?_) AllReadyH.nil
                go_simp
                have hF := hHeld.2.2.alloc (.cells #[] 24)
                have hg0 := hHeld.2.2.size
                have l9 : wzd.heap.size < wc10.heap.size := hat9.lt
                replace hat9 := hat9.fr0 ((Fr.refl (fun _ => False) wc10).alloc (.cells #[] 24))
                have row0 : SpRow (wc10.alloc (.cells #[] 24)) (some ⟨wc10.heap.size, 0, none⟩) 0 [] := World.ownsRow_made wc10 #[] 0 (Nat.zero_le _) (by decide) rfl
                refine hK.out _ _ ?_ (fun hHeld => ?_)
                · exact HS.out _ hF
                clear hK K hF
                try simp only [Act.put, List.setIfInBounds_toArray, List.set_cons_zero, List.set_cons_succ]
                generalize wc10.alloc (.cells #[] 24) = wc11 at *
                refine wpAnyH_ready (rs := [4]) (by kernel_rfl) (by simp) ?_
                refine AllReadyH.cons rfl (fun K hK => ?_) AllReadyH.nil
                obtain ⟨ao1, c1, wc12, hrun, row1, hFA, hao1⟩ := spans_append wc11 (some ⟨wc10.heap.size, 0, none⟩) 0 [] (m.take k) row0 aor capr (Or.inr ((HROWZ.out.at.fr0 hHeld.2.2).take k)) (by rw [List.length_take, List.length_nil]; omega)
                rw [List.length_take, Nat.min_eq_left hkm, List.length_nil, Nat.zero_add] at hrun
                rw [List.nil_append] at row1
                have hF := hHeld.2.2.trans hFA (fun i hi ⟨a, e1, e2⟩ => by obtain rfl := Option.some.inj e1; simp only at e2; omega)
                have hsz4 := hHeld.2.2.size
                have nao1 : ∀ q, blk ao1 q → wr.heap.size ≤ q := by
                  rintro q ⟨a, e1, e2⟩
                  rcases hao1 with e | e <;> rw [e] at e1 <;> obtain rfl := Option.some.inj e1 <;> simp only at e2 <;> omega
                have hat9 := hat9.fr hFA (fun q ⟨a, e1, e2⟩ ⟨a2, e3, e4⟩ => by obtain rfl := Option.some.inj e1; obtain rfl := Option.some.inj e3; simp only at e2 e4; omega)
                have HR := hideIt hrun
                clear hrun hFA hao1
                refine step_append_run rfl (.tmp 36) (.tmp 39) 22 22 rfl _ _ _ _ rfl rfl HR.out ?_
                refine hK.out _ _ ?_ (fun hHeld => ?_)
                · exact HS.out _ hF
                clear hK K hF HR
                try simp only [Act.put, List.setIfInBounds_toArray, List.set_cons_zero, List.set_cons_succ]
                refine wpAnyH_ready (rs := [10]) (by kernel_rfl) (by simp) ?_
                refine AllReadyH.cons rfl (fun K hK => ?_) AllReadyH.nil
                obtain ⟨ao2, c2, wc13, hrun, row2, hFA, hao2⟩ := spans_append wc12 ao1 c1 (m.take k) [x] row1 (some ⟨wzd.heap.size, 0, none⟩) 1 (Or.inr hat9) (by rw [List.length_take, List.length_singleton]; omega)
                rw [List.length_take, Nat.min_eq_left hkm, List.length_singleton] at hrun
                have hF := hHeld.2.2.trans hFA (fun i hi e => by have := nao1 i e; omega)
                have hsz5 := hHeld.2.2.size
                have nao2 : ∀ q, blk ao2 q → wr.heap.size ≤ q := by
                  intro q hq
                  rcases hao2 with e | e
                  · exact nao1 q (e ▸ hq)
                  · obtain ⟨a, e1, e2⟩ := hq
                    rw [e] at e1
                    obtain rfl := Option.some.inj e1
                    simp only at e2
                    omega
                have HR := hideIt hrun
                clear hrun hFA hao2 hat9 row1
                refine step_append_run rfl (.tmp 40) (.tmp 45) 22 22 rfl _ _ _ _ rfl rfl HR.out ?_
                refine hK.out _ _ ?_ (fun hHeld => ?_)
                · exact HS.out _ hF
                clear hK K hF HR
                try simp only [Act.put, List.setIfInBounds_toArray, List.set_cons_zero, List.set_cons_succ]
                refine wpAnyH_ready (rs := [14]) (by kernel_rfl) (by simp) ?_
                refine AllReadyH.cons rfl (fun K hK => ?_) AllReadyH.nil
                obtain ⟨ao3, c3, wc14, hrun, row3, hFA, hao3⟩ := spans_append wc13 ao2 c2 (m.take k ++ [x]) (m.drop k) row2 aoD (capr - k) (HDD.out _ hHeld.2.2) (by rw [List.length_append, List.length_take, List.length_singleton, List.length_drop]; omega)
                have hl1 : (m.take k ++ [x]).length = k + 1 := by rw [List.length_append, List.length_take, Nat.min_eq_left hkm, List.length_singleton]
                rw [← List.length_append, hl1, List.length_drop] at hrun
                have hF := hHeld.2.2.trans hFA (fun i hi e => by have := nao2 i e; omega)
                have hsz6 := hHeld.2.2.size
                have nao3 : ∀ q, blk ao3 q → wr.heap.size ≤ q := by
                  intro q hq
                  rcases hao3 with e | e
                  · exact nao2 q (e ▸ hq)
                  · obtain ⟨a, e1, e2⟩ := hq
                    rw [e] at e1
                    obtain rfl := Option.some.inj e1
                    simp only at e2
                    omega
                have HR := hideIt hrun
                clear hrun hFA hao3 row2
                refine step_append_run rfl (.tmp 46) (.tmp 49) 22 22 rfl _ _ _ _ rfl rfl HR.out ?_
                refine hK.out _ _ ?_ (fun hHeld => ?_)
                · exact HS.out _ hF
                clear hK K hF HR
                try simp only [Act.put, List.setIfInBounds_toArray, List.set_cons_zero, List.set_cons_succ]
                refine wpAnyH_take (i := 15) (v := ?v13) rfl (by kernel_rfl) (by kernel_rfl) (by kernel_rfl) (fun _ _ _ h => h) (Or.inl ⟨by rfl, ?hy13⟩) (by assumption) ?rest13
                case hy13 => intro w hSw; (try dsimp only at hSw); go_simp; (try with_reducible rfl)
                try simp only [Act.put, List.setIfInBounds_toArray, List.set_cons_zero, List.set_cons_succ]
                refine wpAnyH_done (by kernel_rfl) ?_ _
                have HROW3 := hideIt row3
                have HF3 := hideIt hHeld.2.2
                have HN3 := hideIt nao3
                have HLEN := hideIt (sorted_len (L := l) (m := m) k x hkm)
                clear row3 hHeld nao3
                go_wp2_with fail
                go_roundw
                case measure => simp [intOf]; omega
                case rel =>
                  have hlen := HLEN.out
                  exact ⟨j + 1, ao3, c3, m.take k ++ [x] ++ m.drop k, by go_num, by omega, congrArg (fun n => Value.slice ao3 n c3) (by simp only [List.length_append, List.length_take, List.length_drop, List.length_singleton]; omega), by omega, hideIt (by rw [HT.out]; exact sorted_ins HM.out HX.out k HB.out HUP.out), HROW3.out, (HFZ.out.trans HF3.out (fun _ _ e => e)), fun q hq => Nat.le_trans HFZ.out.size (HN3.out q hq)⟩
              exact AllReadyH.nil
            · have hle : (Op.bytesLess y.1.toList x.1.toList || y.1.toList == x.1.toList) = true := by rw [le_iff]; exact decide_eq_true hy
              have HY := hideIt hy
              clear hy HMK
              go_wp2_with fail
              go_quiet (fail)
              go_wp2_with fail
              go_roundw
              case measure => simp [intOf]; omega
              case rel => exact ⟨k + 1, by go_num, by omega, hideIt (fun z hz => by rw [HTK.out] at hz; rcases List.mem_append.1 hz with e | e; exact HB.out z e; rw [List.mem_singleton.1 e]; exact HY.out), HFz.out.drewN _⟩
          · have HUP := hideIt (drop_up HM.out k (x := x) (fun h => absurd h hkl))
            have hke : ¬ (k : Int) < (m.length : Int) := by omega
            go_wp2_with fail
            go_quiet (fail)
            go_wp2_with fail
            have hq0 : Fr (fun _ => False) wr (wr.drewN nq) := (Fr.refl _ _).drewN _
            generalize wr.drewN nq = wv at *
            refine wp_region_held_drew (S := fun w' => w'.cell? ⟨b, off + j * 2, none⟩ = some (.string x.1) ∧ w'.cell? ⟨b, off + j * 2 + 1, none⟩ = some (.string x.2) ∧ Fr (fun _ => False) wr w') (by kernel_rfl) ?_ (fun hHeld => ?_)
            · exact HS.out _ hq0.drew
            generalize wv.drew = wzd at *
            refine wpAnyH_take (i := 1) (v := ?v14) rfl (by kernel_rfl) (by kernel_rfl) (by kernel_rfl) (fun _ _ _ h => h) (Or.inl ⟨by rfl, ?hy14⟩) (by assumption) ?rest14
            case hy14 => intro w hSw; (try dsimp only at hSw); go_simp; (try with_reducible rfl)
            try simp only [Act.put, List.setIfInBounds_toArray, List.set_cons_zero, List.set_cons_succ]
            refine wpAnyH_take (i := 2) (v := ?v15) rfl (by kernel_rfl) (by kernel_rfl) (by kernel_rfl) (fun _ _ _ h => h) (Or.inl ⟨by rfl, ?hy15⟩) (by assumption) ?rest15
            case hy15 => intro w hSw; (try dsimp only at hSw); go_simp; (try with_reducible rfl)
            try simp only [Act.put, List.setIfInBounds_toArray, List.set_cons_zero, List.set_cons_succ]
            refine wpAnyH_take (i := 3) (v := ?v16) rfl (by kernel_rfl) (by kernel_rfl) (by kernel_rfl) (fun _ _ _ h => h) (Or.inl ⟨by rfl, ?hy16⟩) (by assumption) ?rest16
            case hy16 => intro w hSw; (try dsimp only at hSw); go_simp; (try with_reducible rfl)
            try simp only [Act.put, List.setIfInBounds_toArray, List.set_cons_zero, List.set_cons_succ]
            refine wpAnyH_take (i := 5) (v := ?v17) rfl (by kernel_rfl) (by kernel_rfl) (by kernel_rfl) (fun _ _ _ h => h) (Or.inl ⟨by rfl, ?hy17⟩) (by assumption) ?rest17
            case hy17 => intro w hSw; (try dsimp only at hSw); go_simp; (try with_reducible rfl)
            try simp only [Act.put, List.setIfInBounds_toArray, List.set_cons_zero, List.set_cons_succ]
            refine wpAnyH_take (i := 6) (v := ?v18) rfl (by kernel_rfl) (by kernel_rfl) (by kernel_rfl) (fun _ _ _ h => h) (Or.inl ⟨by rfl, ?hy18⟩) (by assumption) ?rest18
            case hy18 => intro w hSw; (try dsimp only at hSw); go_simp; (try with_reducible rfl)
            try simp only [Act.put, List.setIfInBounds_toArray, List.set_cons_zero, List.set_cons_succ]
            refine wpAnyH_take (i := 7) (v := ?v19) rfl (by kernel_rfl) (by kernel_rfl) (by kernel_rfl) (fun _ _ _ h => h) (Or.inl ⟨by rfl, ?hy19⟩) (by assumption) ?rest19
            case hy19 => intro w hSw; (try dsimp only at hSw); go_simp; (try with_reducible rfl)
            try simp only [Act.put, List.setIfInBounds_toArray, List.set_cons_zero, List.set_cons_succ]
            refine wpAnyH_take (i := 8) (v := ?v20) rfl (by kernel_rfl) (by kernel_rfl) (by kernel_rfl) (fun _ _ _ h => h) (Or.inl ⟨by rfl, ?hy20⟩) (by assumption) ?rest20
            case hy20 => intro w hSw; (try dsimp only at hSw); go_simp; (try with_reducible rfl)
            try simp only [Act.put, List.setIfInBounds_toArray, List.set_cons_zero, List.set_cons_succ]
            refine wpAnyH_take (i := 11) (v := ?v21) rfl (by kernel_rfl) (by kernel_rfl) (by kernel_rfl) (fun _ _ _ h => h) (Or.inl ⟨by rfl, ?hy21⟩) (by assumption) ?rest21
            case hy21 => intro w hSw; (try dsimp only at hSw); go_simp; (try with_reducible rfl)
            try simp only [Act.put, List.setIfInBounds_toArray, List.set_cons_zero, List.set_cons_succ]
            refine wpAnyH_take (i := 12) (v := ?v22) rfl (by kernel_rfl) (by kernel_rfl) (by kernel_rfl) (fun _ _ _ h => h) (Or.inl ⟨by rfl, ?hy22⟩) (by assumption) ?rest22
            case hy22 => intro w hSw; (try dsimp only at hSw); go_simp; (try with_reducible rfl)
            try simp only [Act.put, List.setIfInBounds_toArray, List.set_cons_zero, List.set_cons_succ]
            refine wpAnyH_take (i := 13) (v := ?v23) rfl (by kernel_rfl) (by kernel_rfl) (by kernel_rfl) (fun _ _ _ h => h) (Or.inl ⟨by rfl, ?hy23⟩) (by assumption) ?rest23
            case hy23 => intro w hSw; (try dsimp only at hSw); go_simp; (try with_reducible rfl)
            try simp only [Act.put, List.setIfInBounds_toArray, List.set_cons_zero, List.set_cons_succ]
            generalize (if capr = k then aor else Option.map (fun x => x.add (k * 2)) aor) = aoD at *
            refine wpAnyH_ready (rs := [0, 9]) (by kernel_rfl) (by simp) ?_
            refine AllReadyH.cons rfl (fun K hK => ?_) ?_
            · go_simp
              have hF := hHeld.2.2.alloc (.cells #[] 24)
              have hg0 := hHeld.2.2.size
              have row0 : SpRow (wzd.alloc (.cells #[] 24)) (some ⟨wzd.heap.size, 0, none⟩) 0 [] := World.ownsRow_made wzd #[] 0 (Nat.zero_le _) (by decide) rfl
              refine hK.out _ _ ?_ (fun hHeld => ?_)
              · exact HS.out _ hF
              clear hK K hF
              try simp only [Act.put, List.setIfInBounds_toArray, List.set_cons_zero, List.set_cons_succ]
              generalize wzd.alloc (.cells #[] 24) = wc15 at *
              refine wpAnyH_ready (rs := [4, 9]) (by kernel_rfl) (by simp) ?_
              refine AllReadyH.cons rfl (fun K hK => ?_) ?_
              · obtain ⟨ao1, c1, wc16, hrun, row1, hFA, hao1⟩ := spans_append wc15 (some ⟨wzd.heap.size, 0, none⟩) 0 [] (m.take k) row0 aor capr (Or.inr ((HROWZ.out.at.fr0 hHeld.2.2).take k)) (by rw [List.length_take, List.length_nil]; omega)
                rw [List.length_take, Nat.min_eq_left hkm, List.length_nil, Nat.zero_add] at hrun
                rw [List.nil_append] at row1
                have hF := hHeld.2.2.trans hFA (fun i hi ⟨a, e1, e2⟩ => by obtain rfl := Option.some.inj e1; simp only at e2; omega)
                have hsz4 := hHeld.2.2.size
                have nao1 : ∀ q, blk ao1 q → wr.heap.size ≤ q := by
                  rintro q ⟨a, e1, e2⟩
                  rcases hao1 with e | e <;> rw [e] at e1 <;> obtain rfl := Option.some.inj e1 <;> simp only at e2 <;> omega
                have HR := hideIt hrun
                clear hrun hFA hao1
                refine step_append_run rfl (.tmp 36) (.tmp 39) 22 22 rfl _ _ _ _ rfl rfl HR.out ?_
                refine hK.out _ _ ?_ (fun hHeld => ?_)
                · exact HS.out _ hF
                clear hK K hF HR
                try simp only [Act.put, List.setIfInBounds_toArray, List.set_cons_zero, List.set_cons_succ]
                refine wpAnyH_ready (rs := [9]) (by kernel_rfl) (by simp) ?_
                refine AllReadyH.cons rfl (fun K hK => ?_) AllReadyH.nil
                go_simp
                have hF := hHeld.2.2.alloc (.cells #[.string x.1, .string x.2] 24)
                replace row1 := row1.fr ((Fr.refl (fun _ => False) wc16).alloc (.cells #[.string x.1, .string x.2] 24)) (fun _ _ e => e)
                have hat9 := sps_one x wc16
                refine hK.out _ _ ?_ (fun hHeld => ?_)
                · exact HS.out _ hF
                clear hK K hF
                try simp only [Act.put, List.setIfInBounds_toArray, List.set_cons_zero, List.set_cons_succ]
                generalize wc16.alloc (.cells #[.string x.1, .string x.2] 24) = wc17 at *
                refine wpAnyH_ready (rs := [10]) (by kernel_rfl) (by simp) ?_
                refine AllReadyH.cons rfl (fun K hK => ?_) AllReadyH.nil
                obtain ⟨ao2, c2, wc18, hrun, row2, hFA, hao2⟩ := spans_append wc17 ao1 c1 (m.take k) [x] row1 (some ⟨wc16.heap.size, 0, none⟩) 1 (Or.inr hat9) (by rw [List.length_take, List.length_singleton]; omega)
                rw [List.length_take, Nat.min_eq_left hkm, List.length_singleton] at hrun
                have hF := hHeld.2.2.trans hFA (fun i hi e => by have := nao1 i e; omega)
                have hsz5 := hHeld.2.2.size
                have nao2 : ∀ q, blk ao2 q → wr.heap.size ≤ q := by
                  intro q hq
                  rcases hao2 with e | e
                  · exact nao1 q (e ▸ hq)
                  · obtain ⟨a, e1, e2⟩ := hq
                    rw [e] at e1
                    obtain rfl := Option.some.inj e1
                    simp only at e2
                    omega
                have HR := hideIt hrun
                clear hrun hFA hao2 hat9 row1
                refine step_append_run rfl (.tmp 40) (.tmp 45) 22 22 rfl _ _ _ _ rfl rfl HR.out ?_
                refine hK.out _ _ ?_ (fun hHeld => ?_)
                · exact HS.out _ hF
                clear hK K hF HR
                try simp only [Act.put, List.setIfInBounds_toArray, List.set_cons_zero, List.set_cons_succ]
                refine wpAnyH_ready (rs := [14]) (by kernel_rfl) (by simp) ?_
                refine AllReadyH.cons rfl (fun K hK => ?_) AllReadyH.nil
                obtain ⟨ao3, c3, wc19, hrun, row3, hFA, hao3⟩ := spans_append wc18 ao2 c2 (m.take k ++ [x]) (m.drop k) row2 aoD (capr - k) (HDD.out _ hHeld.2.2) (by rw [List.length_append, List.length_take, List.length_singleton, List.length_drop]; omega)
                have hl1 : (m.take k ++ [x]).length = k + 1 := by rw [List.length_append, List.length_take, Nat.min_eq_left hkm, List.length_singleton]
                rw [← List.length_append, hl1, List.length_drop] at hrun
                have hF := hHeld.2.2.trans hFA (fun i hi e => by have := nao2 i e; omega)
                have hsz6 := hHeld.2.2.size
                have nao3 : ∀ q, blk ao3 q → wr.heap.size ≤ q := by
                  intro q hq
                  rcases hao3 with e | e
                  · exact nao2 q (e ▸ hq)
                  · obtain ⟨a, e1, e2⟩ := hq
                    rw [e] at e1
                    obtain rfl := Option.some.inj e1
                    simp only at e2
                    omega
                have HR := hideIt hrun
                clear hrun hFA hao3 row2
                refine step_append_run rfl (.tmp 46) (.tmp 49) 22 22 rfl _ _ _ _ rfl rfl HR.out ?_
                refine hK.out _ _ ?_ (fun hHeld => ?_)
                · exact HS.out _ hF
                clear hK K hF HR
                try simp only [Act.put, List.setIfInBounds_toArray, List.set_cons_zero, List.set_cons_succ]
                refine wpAnyH_take (i := 15) (v := ?v24) rfl (by kernel_rfl) (by kernel_rfl) (by kernel_rfl) (fun _ _ _ h => h) (Or.inl ⟨by rfl, ?hy24⟩) (by assumption) ?rest24
                case hy24 => intro w hSw; (try dsimp only at hSw); go_simp; (try with_reducible rfl)
                try simp only [Act.put, List.setIfInBounds_toArray, List.set_cons_zero, List.set_cons_succ]
                refine wpAnyH_done (by kernel_rfl) ?_ _
                have HROW3 := hideIt row3
                have HF3 := hideIt hHeld.2.2
                have HN3 := hideIt nao3
                have HLEN := hideIt (sorted_len (L := l) (m := m) k x hkm)
                clear row3 hHeld nao3
                go_wp2_with fail
                go_roundw
                case measure => simp [intOf]; omega
                case rel =>
                  have hlen := HLEN.out
                  exact ⟨j + 1, ao3, c3, m.take k ++ [x] ++ m.drop k, by go_num, by omega, congrArg (fun n => Value.slice ao3 n c3) (by simp only [List.length_append, List.length_take, List.length_drop, List.length_singleton]; omega), by omega, hideIt (by rw [HT.out]; exact sorted_ins HM.out HX.out k HB.out HUP.out), HROW3.out, (HFZ.out.trans HF3.out (fun _ _ e => e)), fun q hq => Nat.le_trans HFZ.out.size (HN3.out q hq)⟩
              refine AllReadyH.cons rfl (fun K hK => ?_) ?_
              · go_simp
                have hF := hHeld.2.2.alloc (.cells #[.string x.1, .string x.2] 24)
                have l0 : wzd.heap.size < wc15.heap.size := row0.lt ⟨_, rfl, rfl⟩
                replace row0 := row0.fr ((Fr.refl (fun _ => False) wc15).alloc (.cells #[.string x.1, .string x.2] 24)) (fun _ _ e => e)
                have hat9 := sps_one x wc15
                refine hK.out _ _ ?_ (fun hHeld => ?_)
                · exact HS.out _ hF
                clear hK K hF
                try simp only [Act.put, List.setIfInBounds_toArray, List.set_cons_zero, List.set_cons_succ]
                generalize wc15.alloc (.cells #[.string x.1, .string x.2] 24) = wc20 at *
                refine wpAnyH_ready (rs := [4]) (by kernel_rfl) (by simp) ?_
                refine AllReadyH.cons rfl (fun K hK => ?_) AllReadyH.nil
                obtain ⟨ao1, c1, wc21, hrun, row1, hFA, hao1⟩ := spans_append wc20 (some ⟨wzd.heap.size, 0, none⟩) 0 [] (m.take k) row0 aor capr (Or.inr ((HROWZ.out.at.fr0 hHeld.2.2).take k)) (by rw [List.length_take, List.length_nil]; omega)
                rw [List.length_take, Nat.min_eq_left hkm, List.length_nil, Nat.zero_add] at hrun
                rw [List.nil_append] at row1
                have hF := hHeld.2.2.trans hFA (fun i hi ⟨a, e1, e2⟩ => by obtain rfl := Option.some.inj e1; simp only at e2; omega)
                have hsz4 := hHeld.2.2.size
                have nao1 : ∀ q, blk ao1 q → wr.heap.size ≤ q := by
                  rintro q ⟨a, e1, e2⟩
                  rcases hao1 with e | e <;> rw [e] at e1 <;> obtain rfl := Option.some.inj e1 <;> simp only at e2 <;> omega
                have hat9 := hat9.fr hFA (fun q ⟨a, e1, e2⟩ ⟨a2, e3, e4⟩ => by obtain rfl := Option.some.inj e1; obtain rfl := Option.some.inj e3; simp only at e2 e4; omega)
                have HR := hideIt hrun
                clear hrun hFA hao1
                refine step_append_run rfl (.tmp 36) (.tmp 39) 22 22 rfl _ _ _ _ rfl rfl HR.out ?_
                refine hK.out _ _ ?_ (fun hHeld => ?_)
                · exact HS.out _ hF
                clear hK K hF HR
                try simp only [Act.put, List.setIfInBounds_toArray, List.set_cons_zero, List.set_cons_succ]
                refine wpAnyH_ready (rs := [10]) (by kernel_rfl) (by simp) ?_
                refine AllReadyH.cons rfl (fun K hK => ?_) AllReadyH.nil
                obtain ⟨ao2, c2, wc22, hrun, row2, hFA, hao2⟩ := spans_append wc21 ao1 c1 (m.take k) [x] row1 (some ⟨wc15.heap.size, 0, none⟩) 1 (Or.inr hat9) (by rw [List.length_take, List.length_singleton]; omega)
                rw [List.length_take, Nat.min_eq_left hkm, List.length_singleton] at hrun
                have hF := hHeld.2.2.trans hFA (fun i hi e => by have := nao1 i e; omega)
                have hsz5 := hHeld.2.2.size
                have nao2 : ∀ q, blk ao2 q → wr.heap.size ≤ q := by
                  intro q hq
                  rcases hao2 with e | e
                  · exact nao1 q (e ▸ hq)
                  · obtain ⟨a, e1, e2⟩ := hq
                    rw [e] at e1
                    obtain rfl := Option.some.inj e1
                    simp only at e2
                    omega
                have HR := hideIt hrun
                clear hrun hFA hao2 hat9 row1
                refine step_append_run rfl (.tmp 40) (.tmp 45) 22 22 rfl _ _ _ _ rfl rfl HR.out ?_
                refine hK.out _ _ ?_ (fun hHeld => ?_)
                · exact HS.out _ hF
                clear hK K hF HR
                try simp only [Act.put, List.setIfInBounds_toArray, List.set_cons_zero, List.set_cons_succ]
                refine wpAnyH_ready (rs := [14]) (by kernel_rfl) (by simp) ?_
                refine AllReadyH.cons rfl (fun K hK => ?_) AllReadyH.nil
                obtain ⟨ao3, c3, wc23, hrun, row3, hFA, hao3⟩ := spans_append wc22 ao2 c2 (m.take k ++ [x]) (m.drop k) row2 aoD (capr - k) (HDD.out _ hHeld.2.2) (by rw [List.length_append, List.length_take, List.length_singleton, List.length_drop]; omega)
                have hl1 : (m.take k ++ [x]).length = k + 1 := by rw [List.length_append, List.length_take, Nat.min_eq_left hkm, List.length_singleton]
                rw [← List.length_append, hl1, List.length_drop] at hrun
                have hF := hHeld.2.2.trans hFA (fun i hi e => by have := nao2 i e; omega)
                have hsz6 := hHeld.2.2.size
                have nao3 : ∀ q, blk ao3 q → wr.heap.size ≤ q := by
                  intro q hq
                  rcases hao3 with e | e
                  · exact nao2 q (e ▸ hq)
                  · obtain ⟨a, e1, e2⟩ := hq
                    rw [e] at e1
                    obtain rfl := Option.some.inj e1
                    simp only at e2
                    omega
                have HR := hideIt hrun
                clear hrun hFA hao3 row2
                refine step_append_run rfl (.tmp 46) (.tmp 49) 22 22 rfl _ _ _ _ rfl rfl HR.out ?_
                refine hK.out _ _ ?_ (fun hHeld => ?_)
                · exact HS.out _ hF
                clear hK K hF HR
                try simp only [Act.put, List.setIfInBounds_toArray, List.set_cons_zero, List.set_cons_succ]
                refine wpAnyH_take (i := 15) (v := ?v25) rfl (by kernel_rfl) (by kernel_rfl) (by kernel_rfl) (fun _ _ _ h => h) (Or.inl ⟨by rfl, ?hy25⟩) (by assumption) ?rest25
                case hy25 => intro w hSw; (try dsimp only at hSw); go_simp; (try with_reducible rfl)
                try simp only [Act.put, List.setIfInBounds_toArray, List.set_cons_zero, List.set_cons_succ]
                refine wpAnyH_done (by kernel_rfl) ?_ _
                have HROW3 := hideIt row3
                have HF3 := hideIt hHeld.2.2
                have HN3 := hideIt nao3
                have HLEN := hideIt (sorted_len (L := l) (m := m) k x hkm)
                clear row3 hHeld nao3
                go_wp2_with fail
                go_roundw
                case measure => simp [intOf]; omega
                case rel =>
                  have hlen := HLEN.out
                  exact ⟨j + 1, ao3, c3, m.take k ++ [x] ++ m.drop k, by go_num, by omega, congrArg (fun n => Value.slice ao3 n c3) (by simp only [List.length_append, List.length_take, List.length_drop, List.length_singleton]; omega), by omega, hideIt (by rw [HT.out]; exact sorted_ins HM.out HX.out k HB.out HUP.out), HROW3.out, (HFZ.out.trans HF3.out (fun _ _ e => e)), fun q hq => Nat.le_trans HFZ.out.size (HN3.out q hq)⟩
              exact AllReadyH.nil
            refine AllReadyH.cons rfl (fun K hK => ?_) ?_
            · go_simp
              have hF := hHeld.2.2.alloc (.cells #[.string x.1, .string x.2] 24)
              have hat9 := sps_one x wzd
              refine hK.out _ _ ?_ (fun hHeld => ?_)
              · exact HS.out _ hF
              clear hK K hF
              try simp only [Act.put, List.setIfInBounds_toArray, List.set_cons_zero, List.set_cons_succ]
              generalize wzd.alloc (.cells #[.string x.1, .string x.2] 24) = wc24 at *
              refine wpAnyH_ready (rs := [0]) (by kernel_rfl) (by simp) ?_
              refine AllReadyH.cons rfl (fun K hK => ?_) AllReadyH.nil
              go_simp
              have hF := hHeld.2.2.alloc (.cells #[] 24)
              have hg0 := hHeld.2.2.size
              have l9 : wzd.heap.size < wc24.heap.size := hat9.lt
              replace hat9 := hat9.fr0 ((Fr.refl (fun _ => False) wc24).alloc (.cells #[] 24))
              have row0 : SpRow (wc24.alloc (.cells #[] 24)) (some ⟨wc24.heap.size, 0, none⟩) 0 [] := World.ownsRow_made wc24 #[] 0 (Nat.zero_le _) (by decide) rfl
              refine hK.out _ _ ?_ (fun hHeld => ?_)
              · exact HS.out _ hF
              clear hK K hF
              try simp only [Act.put, List.setIfInBounds_toArray, List.set_cons_zero, List.set_cons_succ]
              generalize wc24.alloc (.cells #[] 24) = wc25 at *
              refine wpAnyH_ready (rs := [4]) (by kernel_rfl) (by simp) ?_
              refine AllReadyH.cons rfl (fun K hK => ?_) AllReadyH.nil
              obtain ⟨ao1, c1, wc26, hrun, row1, hFA, hao1⟩ := spans_append wc25 (some ⟨wc24.heap.size, 0, none⟩) 0 [] (m.take k) row0 aor capr (Or.inr ((HROWZ.out.at.fr0 hHeld.2.2).take k)) (by rw [List.length_take, List.length_nil]; omega)
              rw [List.length_take, Nat.min_eq_left hkm, List.length_nil, Nat.zero_add] at hrun
              rw [List.nil_append] at row1
              have hF := hHeld.2.2.trans hFA (fun i hi ⟨a, e1, e2⟩ => by obtain rfl := Option.some.inj e1; simp only at e2; omega)
              have hsz4 := hHeld.2.2.size
              have nao1 : ∀ q, blk ao1 q → wr.heap.size ≤ q := by
                rintro q ⟨a, e1, e2⟩
                rcases hao1 with e | e <;> rw [e] at e1 <;> obtain rfl := Option.some.inj e1 <;> simp only at e2 <;> omega
              have hat9 := hat9.fr hFA (fun q ⟨a, e1, e2⟩ ⟨a2, e3, e4⟩ => by obtain rfl := Option.some.inj e1; obtain rfl := Option.some.inj e3; simp only at e2 e4; omega)
              have HR := hideIt hrun
              clear hrun hFA hao1
              refine step_append_run rfl (.tmp 36) (.tmp 39) 22 22 rfl _ _ _ _ rfl rfl HR.out ?_
              refine hK.out _ _ ?_ (fun hHeld => ?_)
              · exact HS.out _ hF
              clear hK K hF HR
              try simp only [Act.put, List.setIfInBounds_toArray, List.set_cons_zero, List.set_cons_succ]
              refine wpAnyH_ready (rs := [10]) (by kernel_rfl) (by simp) ?_
              refine AllReadyH.cons rfl (fun K hK => ?_) AllReadyH.nil
              obtain ⟨ao2, c2, wc27, hrun, row2, hFA, hao2⟩ := spans_append wc26 ao1 c1 (m.take k) [x] row1 (some ⟨wzd.heap.size, 0, none⟩) 1 (Or.inr hat9) (by rw [List.length_take, List.length_singleton]; omega)
              rw [List.length_take, Nat.min_eq_left hkm, List.length_singleton] at hrun
              have hF := hHeld.2.2.trans hFA (fun i hi e => by have := nao1 i e; omega)
              have hsz5 := hHeld.2.2.size
              have nao2 : ∀ q, blk ao2 q → wr.heap.size ≤ q := by
                intro q hq
                rcases hao2 with e | e
                · exact nao1 q (e ▸ hq)
                · obtain ⟨a, e1, e2⟩ := hq
                  rw [e] at e1
                  obtain rfl := Option.some.inj e1
                  simp only at e2
                  omega
              have HR := hideIt hrun
              clear hrun hFA hao2 hat9 row1
              refine step_append_run rfl (.tmp 40) (.tmp 45) 22 22 rfl _ _ _ _ rfl rfl HR.out ?_
              refine hK.out _ _ ?_ (fun hHeld => ?_)
              · exact HS.out _ hF
              clear hK K hF HR
              try simp only [Act.put, List.setIfInBounds_toArray, List.set_cons_zero, List.set_cons_succ]
              refine wpAnyH_ready (rs := [14]) (by kernel_rfl) (by simp) ?_
              refine AllReadyH.cons rfl (fun K hK => ?_) AllReadyH.nil
              obtain ⟨ao3, c3, wc28, hrun, row3, hFA, hao3⟩ := spans_append wc27 ao2 c2 (m.take k ++ [x]) (m.drop k) row2 aoD (capr - k) (HDD.out _ hHeld.2.2) (by rw [List.length_append, List.length_take, List.length_singleton, List.length_drop]; omega)
              have hl1 : (m.take k ++ [x]).length = k + 1 := by rw [List.length_append, List.length_take, Nat.min_eq_left hkm, List.length_singleton]
              rw [← List.length_append, hl1, List.length_drop] at hrun
              have hF := hHeld.2.2.trans hFA (fun i hi e => by have := nao2 i e; omega)
              have hsz6 := hHeld.2.2.size
              have nao3 : ∀ q, blk ao3 q → wr.heap.size ≤ q := by
                intro q hq
                rcases hao3 with e | e
                · exact nao2 q (e ▸ hq)
                · obtain ⟨a, e1, e2⟩ := hq
                  rw [e] at e1
                  obtain rfl := Option.some.inj e1
                  simp only at e2
                  omega
              have HR := hideIt hrun
              clear hrun hFA hao3 row2
              refine step_append_run rfl (.tmp 46) (.tmp 49) 22 22 rfl _ _ _ _ rfl rfl HR.out ?_
              refine hK.out _ _ ?_ (fun hHeld => ?_)
              · exact HS.out _ hF
              clear hK K hF HR
              try simp only [Act.put, List.setIfInBounds_toArray, List.set_cons_zero, List.set_cons_succ]
              refine wpAnyH_take (i := 15) (v := ?v26) rfl (by kernel_rfl) (by kernel_rfl) (by kernel_rfl) (fun _ _ _ h => h) (Or.inl ⟨by rfl, ?hy26⟩) (by assumption) ?rest26
              case hy26 => intro w hSw; (try dsimp only at hSw); go_simp; (try with_reducible rfl)
              try simp only [Act.put, List.setIfInBounds_toArray, List.set_cons_zero, List.set_cons_succ]
              refine wpAnyH_done (by kernel_rfl) ?_ _
              have HROW3 := hideIt row3
              have HF3 := hideIt hHeld.2.2
              have HN3 := hideIt nao3
              have HLEN := hideIt (sorted_len (L := l) (m := m) k x hkm)
              clear row3 hHeld nao3
              go_wp2_with fail
              go_roundw
              case measure => simp [intOf]; omega
              case rel =>
                have hlen := HLEN.out
                exact ⟨j + 1, ao3, c3, m.take k ++ [x] ++ m.drop k, by go_num, by omega, congrArg (fun n => Value.slice ao3 n c3) (by simp only [List.length_append, List.length_take, List.length_drop, List.length_singleton]; omega), by omega, hideIt (by rw [HT.out]; exact sorted_ins HM.out HX.out k HB.out HUP.out), HROW3.out, (HFZ.out.trans HF3.out (fun _ _ e => e)), fun q hq => Nat.le_trans HFZ.out.size (HN3.out q hq)⟩
            exact AllReadyH.nil
      · have hE := hideIt (fun w => by have := zempty_any x w; rw [show decide (¬ NonE x) = true from decide_eq_true hx] at this; exact this)
        have HX := hideIt hx
        clear hx
        go_wp2_with fail
        refine Calls.mono (hE.out _) ?_
        rintro e w1 ⟨rfl, hF1⟩
        have HF1 := hideIt hF1
        clear hF1
        go_wp2_with fail
        go_roundw
        case measure => simp [intOf]; omega
        case rel => exact ⟨j + 1, aor, capr, m, by go_num, by omega, rfl, by omega, hideIt (by rw [HT.out]; exact sorted_skip HM.out HX.out), HROW.out.fr HF1.out (fun _ _ e => e), HF.out.trans HF1.out (fun _ _ e => e), HN.out⟩
    · obtain rfl : j = l.length := by omega
      have HM2 := hideIt (show Sorted l m by have := HM.out; rw [List.take_length] at this; exact this)
      go_wp2_with fail
      go_ret
      exact ⟨aor, capr, m, rfl, HM2.out, hmj, HROW.out, HF.out, HN.out⟩

end Go.Proofs.Ytmaepknceihepaa

/- Spans: the document's Covers, walked. -/
namespace Go.Proofs.Ytmaepknceihepaa
open Go.RowKit Go.IntWalk
set_option linter.unusedSimpArgs false
set_option linter.unusedVariables false
set_option maxRecDepth 100000

/-- One that reaches from ahead of it to beyond it. -/
def DT (j s : Sp) : Prop := ¬ lo s < lo j ∧ ¬ outl s j
theorem DT.in {j s : Sp} (hs : NonE s) (h : DT j s) : KeyIn j (lo s) := by
  refine ⟨h.1, ?_⟩
  by_cases hj : hi j = []
  · exact Or.inl hj
  · right
    have h2 : ¬ (hi s = [] ∨ hi j < hi s) := fun e => h.2 ⟨hj, e⟩
    have h3 : lo s < hi s := hs.resolve_left (fun e => h2 (Or.inl e))
    have h4 : ¬ hi j < hi s := fun e => h2 (Or.inr e)
    generalize lo s = a at *
    generalize hi s = b at *
    generalize hi j = c at *
    obtain ⟨f, hl, he⟩ := rank [a, b, c]
    simp only [hl, he, List.mem_cons, true_or, or_true] at h3 h4 ⊢
    omega
theorem cov_ex (s : Sp) (hs : NonE s) : ∀ (J : List Sp), Jd J → (covB J s = true ↔ ∃ j ∈ J, DT j s)
  | [], _ => by simp [covB]
  | j :: J, hJ => by
    rw [covB]
    by_cases hk : KeyIn j (lo s)
    · rw [if_pos hk]
      constructor
      · intro h
        exact ⟨j, List.mem_cons_self .., hk.1, (by rw [Bool.not_eq_true'] at h; exact of_decide_eq_false h)⟩
      · rintro ⟨t, ht, hd⟩
        rcases List.mem_cons.1 ht with rfl | ht
        · rw [Bool.not_eq_true']; exact decide_eq_false hd.2
        · exfalso
          obtain ⟨b1, b2, _⟩ := Jd.behind J j hJ t ht
          have h2 := hk.2.resolve_left b1
          have h3 := hd.1
          generalize lo s = a at *
          generalize hi j = b at *
          generalize lo t = c at *
          obtain ⟨f, hl, he⟩ := rank [a, b, c]
          simp only [hl, he, List.mem_cons, true_or, or_true] at b2 h2 h3
          omega
    · rw [if_neg hk, cov_ex s hs J hJ.tail]
      constructor
      · rintro ⟨t, ht, hd⟩
        exact ⟨t, List.mem_cons_of_mem _ ht, hd⟩
      · rintro ⟨t, ht, hd⟩
        rcases List.mem_cons.1 ht with rfl | ht
        · exact absurd (hd.in hs) hk
        · exact ⟨t, ht, hd⟩

set_option maxRecDepth 100000 in
set_option maxHeartbeats 8000000 in
theorem zcovers_any (ao : Option Addr) (cap : Nat) (l : List Sp) (s : Sp) (w : World) (h : l = [] ∨ SpsAt w ao l) (hb : l.length ≤ 1000000) (hJ : (joinC l).length ≤ 1099511627774) :
    Calls Try.prog 13 #[.slice ao l.length cap, .agg #[.string s.1, .string s.2]] w fun e w' => e = .returned (.bool (if NonE s then covB (joinC l) s else true)) ∧ Fr (fun _ => False) w w' := by
  have hF0 : Fr (fun _ => False) w (w.alloc (.cells #[.string s.1, .string s.2] 24)) := (Fr.refl _ _).alloc _
  have HF0 := hideIt hF0
  by_cases hs : NonE s
  · rw [if_pos hs]
    have hE := hideIt (fun w => by have := zempty_any s w; rw [show decide (¬ NonE s) = false by simp [hs]] at this; exact this)
    have hJn := hideIt (fun w' (hF : Fr (fun _ => False) w w') => zjoin_of ao cap l w' (zsorted_any ao cap l w' (ats_fr0 h hF) hb) hb)
    have HC := hideIt (show ∀ w' : World, Fr (fun _ => False) (w.alloc (.cells #[.string s.1, .string s.2] 24)) w' → w'.cell? ⟨w.heap.size, 0, none⟩ = some (.string s.1) ∧ w'.cell? ⟨w.heap.size, 1, none⟩ = some (.string s.2) from fun w' hF => ⟨hF.cell0 (cellNew _ _ _ _ 0 rfl), hF.cell0 (cellNew _ _ _ _ 1 rfl)⟩)
    have HEX := hideIt (cov_ex s hs (joinC l) (joinC_jd l))
    generalize joinC l = J at *
    clear hs h hF0
    go_enter Try.func13, Try.ntmps13
    go_wp2_with fail
    refine Calls.mono (hE.out _) ?_
    rintro e w1 ⟨rfl, hF1⟩
    have HF1 := hideIt hF1
    clear hF1
    go_wp2_with fail
    refine Calls.mono (hJn.out _ (HF0.out.trans HF1.out (fun _ _ e => e))) ?_
    rintro e w2 ⟨ao2, cap2, rfl, hrow2, hF2, hn2⟩
    have HF2 := hideIt (HF1.out.trans hF2 (fun _ _ e => e))
    have HROW := hideIt hrow2
    clear hF2 hn2 hrow2 hJn hE HF1
    go_wp2_with fail
    go_loopw [6] (fun i wr => ∃ k : Nat, i = .int .i64 k ∧ k ≤ J.length ∧ Hid (∀ y ∈ J.take k, ¬ DT y s) ∧ Hid (Fr (fun _ => False) w2 wr)) (fun i _ => J.length - (intOf i).toNat)
    case atStart => exact ⟨0, rfl, Nat.zero_le _, hideIt (by simp), hideIt (Fr.refl _ _)⟩
    case round =>
      obtain ⟨k, rfl, hk, HB, HF⟩ := hrel
      have HFw := hideIt (HF0.out.trans (HF2.out.trans HF.out (fun _ _ e => e)) (fun _ _ e => e))
      by_cases hlt : k < J.length
      · have hkJ : (k : Int) < (J.length : Int) := by omega
        have hk0 : (0 : Int) ≤ (k : Int) := by omega
        obtain ⟨b, off, rfl, hbl, y0, y1⟩ := SpsAt.get (Or.inr (HROW.out.fr HF.out (fun _ _ e => e)).at) k hlt
        have HTK := hideIt (List.take_succ_eq_append_getElem hlt)
        have HM := hideIt (List.getElem_mem hlt)
        generalize J[k] = y at *
        obtain ⟨s0, s1⟩ := HC.out _ (HF2.out.trans HF.out (fun _ _ e => e))
        have HCS := hideIt (show ∀ w' : World, Fr (fun _ => False) wr w' → w'.cell? ⟨b, off + k * 2, none⟩ = some (.string y.1) ∧ w'.cell? ⟨b, off + k * 2 + 1, none⟩ = some (.string y.2) ∧ w'.cell? ⟨w.heap.size, 0, none⟩ = some (.string s.1) ∧ w'.cell? ⟨w.heap.size, 1, none⟩ = some (.string s.2) from fun w' h => ⟨h.cell0 y0, h.cell0 y1, h.cell0 s0, h.cell0 s1⟩)
        clear y0 y1 s0 s1
        have HYY := hideIt (fun (h : DT y s) => show covB J s = true from HEX.out.2 ⟨y, HM.out, h⟩)
        by_cases hy : lo s < lo y
        · have hle : (Op.bytesLess y.1.toList s.1.toList || y.1.toList == s.1.toList) = false := by rw [le_iff]; exact decide_eq_false (fun e => e hy)
          have HND := hideIt (show ¬ DT y s from fun h => h.1 hy)
          clear hy HYY
          go_wp2_with fail
          refine wp_region_held_drew (S := fun w' => w'.cell? ⟨b, off + k * 2, none⟩ = some (.string y.1) ∧ w'.cell? ⟨b, off + k * 2 + 1, none⟩ = some (.string y.2) ∧ w'.cell? ⟨w.heap.size, 0, none⟩ = some (.string s.1) ∧ w'.cell? ⟨w.heap.size, 1, none⟩ = some (.string s.2)) (by kernel_rfl) ?_ (fun hHeld => ?_)
          · exact HCS.out _ ((Fr.refl (fun _ => False) wr).drew)
          refine wpAnyH_take (i := 0) (v := ?v1) rfl (by kernel_rfl) (by kernel_rfl) (by kernel_rfl) (fun _ _ _ h => h) (Or.inl ⟨by kernel_rfl, ?hy1⟩) (by assumption) ?rest1
          case hy1 => intro w hSw; (try dsimp only at hSw); go_simp; (try with_reducible rfl)
          try simp only [Act.put, List.getElem_toArray, List.getElem_cons_zero, List.getElem_cons_succ, List.setIfInBounds_toArray, List.set_cons_zero, List.set_cons_succ]
          refine wpAnyH_take (i := 1) (v := ?v2) rfl (by kernel_rfl) (by kernel_rfl) (by kernel_rfl) (fun _ _ _ h => h) (Or.inl ⟨by kernel_rfl, ?hy2⟩) (by assumption) ?rest2
          case hy2 => intro w hSw; (try dsimp only at hSw); go_simp; (try with_reducible rfl)
          try simp only [Act.put, List.getElem_toArray, List.getElem_cons_zero, List.getElem_cons_succ, List.setIfInBounds_toArray, List.set_cons_zero, List.set_cons_succ]
          refine wpAnyH_take (i := 2) (v := ?v3) rfl (by kernel_rfl) (by kernel_rfl) (by kernel_rfl) (fun _ _ _ h => h) (Or.inl ⟨by kernel_rfl, ?hy3⟩) (by assumption) ?rest3
          case hy3 => intro w hSw; (try dsimp only at hSw); go_simp; (try with_reducible rfl)
          try simp only [Act.put, List.getElem_toArray, List.getElem_cons_zero, List.getElem_cons_succ, List.setIfInBounds_toArray, List.set_cons_zero, List.set_cons_succ]
          refine wpAnyH_take (i := 3) (v := ?v4) rfl (by kernel_rfl) (by kernel_rfl) (by kernel_rfl) (fun _ _ _ h => h) (Or.inl ⟨by kernel_rfl, ?hy4⟩) (by assumption) ?rest4
          case hy4 => intro w hSw; (try dsimp only at hSw); go_simp; (try with_reducible rfl)
          try simp only [Act.put, List.getElem_toArray, List.getElem_cons_zero, List.getElem_cons_succ, List.setIfInBounds_toArray, List.set_cons_zero, List.set_cons_succ]
          refine wpAnyH_take (i := 4) (v := ?v5) rfl (by kernel_rfl) (by kernel_rfl) (by kernel_rfl) (fun _ _ _ h => h) (Or.inl ⟨by kernel_rfl, ?hy5⟩) (by assumption) ?rest5
          case hy5 => intro w hSw; (try dsimp only at hSw); go_simp; (try with_reducible rfl)
          try simp only [Act.put, List.getElem_toArray, List.getElem_cons_zero, List.getElem_cons_succ, List.setIfInBounds_toArray, List.set_cons_zero, List.set_cons_succ]
          refine wpAnyH_take (i := 5) (v := ?v6) rfl (by kernel_rfl) (by kernel_rfl) (by kernel_rfl) (fun _ _ _ h => h) (Or.inl ⟨by kernel_rfl, ?hy6⟩) (by assumption) ?rest6
          case hy6 => intro w hSw; (try dsimp only at hSw); go_simp; (try with_reducible rfl)
          try simp only [Act.put, List.getElem_toArray, List.getElem_cons_zero, List.getElem_cons_succ, List.setIfInBounds_toArray, List.set_cons_zero, List.set_cons_succ]
          refine wpAnyH_take (i := 6) (v := ?v7) rfl (by kernel_rfl) (by kernel_rfl) (by kernel_rfl) (fun _ _ _ h => h) (Or.inl ⟨by kernel_rfl, ?hy7⟩) (by assumption) ?rest7
          case hy7 => intro w hSw; (try dsimp only at hSw); go_simp; (try with_reducible rfl)
          try simp only [Act.put, List.getElem_toArray, List.getElem_cons_zero, List.getElem_cons_succ, List.setIfInBounds_toArray, List.set_cons_zero, List.set_cons_succ]
          refine wpAnyH_take (i := 7) (v := ?v8) rfl (by kernel_rfl) (by kernel_rfl) (by kernel_rfl) (fun _ _ _ h => h) (Or.inl ⟨by kernel_rfl, ?hy8⟩) (by assumption) ?rest8
          case hy8 => intro w hSw; (try dsimp only at hSw); go_simp; (try with_reducible rfl)
          try simp only [Act.put, List.getElem_toArray, List.getElem_cons_zero, List.getElem_cons_succ, List.setIfInBounds_toArray, List.set_cons_zero, List.set_cons_succ]
          refine wpAnyH_take (i := 8) (v := ?v9) rfl (by kernel_rfl) (by kernel_rfl) (by kernel_rfl) (fun _ _ _ h => h) (Or.inl ⟨by kernel_rfl, ?hy9⟩) (by assumption) ?rest9
          case hy9 => intro w hSw; (try dsimp only at hSw); go_simp; (try with_reducible rfl)
          try simp only [Act.put, List.getElem_toArray, List.getElem_cons_zero, List.getElem_cons_succ, List.setIfInBounds_toArray, List.set_cons_zero, List.set_cons_succ]
          refine wpAnyH_take (i := 9) (v := undef) rfl (by kernel_rfl) (by kernel_rfl) (by kernel_rfl) (fun _ _ _ h => h) (Or.inr ⟨by kernel_rfl, rfl⟩) (by assumption) ?_
          try simp only [Act.put, List.getElem_toArray, List.getElem_cons_zero, List.getElem_cons_succ, List.setIfInBounds_toArray, List.set_cons_zero, List.set_cons_succ]
          refine wpAnyH_take (i := 10) (v := undef) rfl (by kernel_rfl) (by kernel_rfl) (by kernel_rfl) (fun _ _ _ h => h) (Or.inr ⟨by kernel_rfl, rfl⟩) (by assumption) ?_
          try simp only [Act.put, List.getElem_toArray, List.getElem_cons_zero, List.getElem_cons_succ, List.setIfInBounds_toArray, List.set_cons_zero, List.set_cons_succ]
          refine wpAnyH_take (i := 11) (v := undef) rfl (by kernel_rfl) (by kernel_rfl) (by kernel_rfl) (fun _ _ _ h => h) (Or.inr ⟨by kernel_rfl, rfl⟩) (by assumption) ?_
          try simp only [Act.put, List.getElem_toArray, List.getElem_cons_zero, List.getElem_cons_succ, List.setIfInBounds_toArray, List.set_cons_zero, List.set_cons_succ]
          refine wpAnyH_take (i := 12) (v := undef) rfl (by kernel_rfl) (by kernel_rfl) (by kernel_rfl) (fun _ _ _ h => h) (Or.inr ⟨by kernel_rfl, rfl⟩) (by assumption) ?_
          try simp only [Act.put, List.getElem_toArray, List.getElem_cons_zero, List.getElem_cons_succ, List.setIfInBounds_toArray, List.set_cons_zero, List.set_cons_succ]
          refine wpAnyH_take (i := 13) (v := undef) rfl (by kernel_rfl) (by kernel_rfl) (by kernel_rfl) (fun _ _ _ h => h) (Or.inr ⟨by kernel_rfl, rfl⟩) (by assumption) ?_
          try simp only [Act.put, List.getElem_toArray, List.getElem_cons_zero, List.getElem_cons_succ, List.setIfInBounds_toArray, List.set_cons_zero, List.set_cons_succ]
          refine wpAnyH_take (i := 14) (v := undef) rfl (by kernel_rfl) (by kernel_rfl) (by kernel_rfl) (fun _ _ _ h => h) (Or.inr ⟨by kernel_rfl, rfl⟩) (by assumption) ?_
          try simp only [Act.put, List.getElem_toArray, List.getElem_cons_zero, List.getElem_cons_succ, List.setIfInBounds_toArray, List.set_cons_zero, List.set_cons_succ]
          refine wpAnyH_take (i := 15) (v := undef) rfl (by kernel_rfl) (by kernel_rfl) (by kernel_rfl) (fun _ _ _ h => h) (Or.inr ⟨by kernel_rfl, rfl⟩) (by assumption) ?_
          try simp only [Act.put, List.getElem_toArray, List.getElem_cons_zero, List.getElem_cons_succ, List.setIfInBounds_toArray, List.set_cons_zero, List.set_cons_succ]
          refine wpAnyH_take (i := 16) (v := undef) rfl (by kernel_rfl) (by kernel_rfl) (by kernel_rfl) (fun _ _ _ h => h) (Or.inr ⟨by kernel_rfl, rfl⟩) (by assumption) ?_
          try simp only [Act.put, List.getElem_toArray, List.getElem_cons_zero, List.getElem_cons_succ, List.setIfInBounds_toArray, List.set_cons_zero, List.set_cons_succ]
          refine wpAnyH_take (i := 17) (v := undef) rfl (by kernel_rfl) (by kernel_rfl) (by kernel_rfl) (fun _ _ _ h => h) (Or.inr ⟨by kernel_rfl, rfl⟩) (by assumption) ?_
          try simp only [Act.put, List.getElem_toArray, List.getElem_cons_zero, List.getElem_cons_succ, List.setIfInBounds_toArray, List.set_cons_zero, List.set_cons_succ]
          refine wpAnyH_take (i := 18) (v := undef) rfl (by kernel_rfl) (by kernel_rfl) (by kernel_rfl) (fun _ _ _ h => h) (Or.inr ⟨by kernel_rfl, rfl⟩) (by assumption) ?_
          try simp only [Act.put, List.getElem_toArray, List.getElem_cons_zero, List.getElem_cons_succ, List.setIfInBounds_toArray, List.set_cons_zero, List.set_cons_succ]
          refine wpAnyH_take (i := 19) (v := undef) rfl (by kernel_rfl) (by kernel_rfl) (by kernel_rfl) (fun _ _ _ h => h) (Or.inr ⟨by kernel_rfl, rfl⟩) (by assumption) ?_
          try simp only [Act.put, List.getElem_toArray, List.getElem_cons_zero, List.getElem_cons_succ, List.setIfInBounds_toArray, List.set_cons_zero, List.set_cons_succ]
          refine wpAnyH_take (i := 20) (v := undef) rfl (by kernel_rfl) (by kernel_rfl) (by kernel_rfl) (fun _ _ _ h => h) (Or.inr ⟨by kernel_rfl, rfl⟩) (by assumption) ?_
          try simp only [Act.put, List.getElem_toArray, List.getElem_cons_zero, List.getElem_cons_succ, List.setIfInBounds_toArray, List.set_cons_zero, List.set_cons_succ]
          refine wpAnyH_take (i := 21) (v := undef) rfl (by kernel_rfl) (by kernel_rfl) (by kernel_rfl) (fun _ _ _ h => h) (Or.inr ⟨by kernel_rfl, rfl⟩) (by assumption) ?_
          try simp only [Act.put, List.getElem_toArray, List.getElem_cons_zero, List.getElem_cons_succ, List.setIfInBounds_toArray, List.set_cons_zero, List.set_cons_succ]
          refine wpAnyH_take (i := 22) (v := undef) rfl (by kernel_rfl) (by kernel_rfl) (by kernel_rfl) (fun _ _ _ h => h) (Or.inr ⟨by kernel_rfl, rfl⟩) (by assumption) ?_
          try simp only [Act.put, List.getElem_toArray, List.getElem_cons_zero, List.getElem_cons_succ, List.setIfInBounds_toArray, List.set_cons_zero, List.set_cons_succ]
          refine wpAnyH_take (i := 23) (v := undef) rfl (by kernel_rfl) (by kernel_rfl) (by kernel_rfl) (fun _ _ _ h => h) (Or.inr ⟨by kernel_rfl, rfl⟩) (by assumption) ?_
          try simp only [Act.put, List.getElem_toArray, List.getElem_cons_zero, List.getElem_cons_succ, List.setIfInBounds_toArray, List.set_cons_zero, List.set_cons_succ]
          refine wpAnyH_take (i := 24) (v := undef) rfl (by kernel_rfl) (by kernel_rfl) (by kernel_rfl) (fun _ _ _ h => h) (Or.inr ⟨by kernel_rfl, rfl⟩) (by assumption) ?_
          try simp only [Act.put, List.getElem_toArray, List.getElem_cons_zero, List.getElem_cons_succ, List.setIfInBounds_toArray, List.set_cons_zero, List.set_cons_succ]
          refine wpAnyH_take (i := 25) (v := undef) rfl (by kernel_rfl) (by kernel_rfl) (by kernel_rfl) (fun _ _ _ h => h) (Or.inr ⟨by kernel_rfl, rfl⟩) (by assumption) ?_
          try simp only [Act.put, List.getElem_toArray, List.getElem_cons_zero, List.getElem_cons_succ, List.setIfInBounds_toArray, List.set_cons_zero, List.set_cons_succ]
          refine wpAnyH_take (i := 26) (v := undef) rfl (by kernel_rfl) (by kernel_rfl) (by kernel_rfl) (fun _ _ _ h => h) (Or.inr ⟨by kernel_rfl, rfl⟩) (by assumption) ?_
          try simp only [Act.put, List.getElem_toArray, List.getElem_cons_zero, List.getElem_cons_succ, List.setIfInBounds_toArray, List.set_cons_zero, List.set_cons_succ]
          refine wpAnyH_take (i := 27) (v := undef) rfl (by kernel_rfl) (by kernel_rfl) (by kernel_rfl) (fun _ _ _ h => h) (Or.inr ⟨by kernel_rfl, rfl⟩) (by assumption) ?_
          try simp only [Act.put, List.getElem_toArray, List.getElem_cons_zero, List.getElem_cons_succ, List.setIfInBounds_toArray, List.set_cons_zero, List.set_cons_succ]
          refine wpAnyH_take (i := 28) (v := undef) rfl (by kernel_rfl) (by kernel_rfl) (by kernel_rfl) (fun _ _ _ h => h) (Or.inr ⟨by kernel_rfl, rfl⟩) (by assumption) ?_
          try simp only [Act.put, List.getElem_toArray, List.getElem_cons_zero, List.getElem_cons_succ, List.setIfInBounds_toArray, List.set_cons_zero, List.set_cons_succ]
          refine wpAnyH_take (i := 29) (v := undef) rfl (by kernel_rfl) (by kernel_rfl) (by kernel_rfl) (fun _ _ _ h => h) (Or.inr ⟨by kernel_rfl, rfl⟩) (by assumption) ?_
          try simp only [Act.put, List.getElem_toArray, List.getElem_cons_zero, List.getElem_cons_succ, List.setIfInBounds_toArray, List.set_cons_zero, List.set_cons_succ]
          refine wpAnyH_take (i := 30) (v := ?v10) rfl (by kernel_rfl) (by kernel_rfl) (by kernel_rfl) (fun _ _ _ h => h) (Or.inl ⟨by kernel_rfl, ?hy10⟩) (by assumption) ?rest10
          case hy10 => intro w hSw; (try dsimp only at hSw); go_simp; (try with_reducible rfl)
          try simp only [Act.put, List.getElem_toArray, List.getElem_cons_zero, List.getElem_cons_succ, List.setIfInBounds_toArray, List.set_cons_zero, List.set_cons_succ]
          refine wpAnyH_done (by kernel_rfl) ?_ _
          clear hHeld
          have HF2 := hideIt (HF.out.trans ((Fr.refl (fun _ => False) wr).drew) (fun _ _ e => e))
          clear HF
          go_wp2_with fail
          go_roundw
          case measure => simp [intOf]; omega
          case rel => exact ⟨k + 1, by go_num, by omega, hideIt (fun z hz => by
            rw [HTK.out] at hz
            rcases List.mem_append.1 hz with e | e
            · exact HB.out z e
            · rw [List.mem_singleton.1 e]; exact HND.out), HF2⟩
        · have hle : (Op.bytesLess y.1.toList s.1.toList || y.1.toList == s.1.toList) = true := by rw [le_iff]; exact decide_eq_true hy
          by_cases hh : hi y = []
          · have h0 : y.2.toList.isEmpty = true := by have := hh; simpa [hi] using this
            have HYS := hideIt (HYY.out ⟨hy, fun e => e.1 hh⟩)
            clear hy hh HYY
            go_wp2_with fail
            refine wp_region_held_drew (S := fun w' => w'.cell? ⟨b, off + k * 2, none⟩ = some (.string y.1) ∧ w'.cell? ⟨b, off + k * 2 + 1, none⟩ = some (.string y.2) ∧ w'.cell? ⟨w.heap.size, 0, none⟩ = some (.string s.1) ∧ w'.cell? ⟨w.heap.size, 1, none⟩ = some (.string s.2)) (by kernel_rfl) ?_ (fun hHeld => ?_)
            · exact HCS.out _ ((Fr.refl (fun _ => False) wr).drew)
            refine wpAnyH_take (i := 0) (v := ?v11) rfl (by kernel_rfl) (by kernel_rfl) (by kernel_rfl) (fun _ _ _ h => h) (Or.inl ⟨by kernel_rfl, ?hy11⟩) (by assumption) ?rest11
            case hy11 => intro w hSw; (try dsimp only at hSw); go_simp; (try with_reducible rfl)
            try simp only [Act.put, List.getElem_toArray, List.getElem_cons_zero, List.getElem_cons_succ, List.setIfInBounds_toArray, List.set_cons_zero, List.set_cons_succ]
            refine wpAnyH_take (i := 1) (v := ?v12) rfl (by kernel_rfl) (by kernel_rfl) (by kernel_rfl) (fun _ _ _ h => h) (Or.inl ⟨by kernel_rfl, ?hy12⟩) (by assumption) ?rest12
            case hy12 => intro w hSw; (try dsimp only at hSw); go_simp; (try with_reducible rfl)
            try simp only [Act.put, List.getElem_toArray, List.getElem_cons_zero, List.getElem_cons_succ, List.setIfInBounds_toArray, List.set_cons_zero, List.set_cons_succ]
            refine wpAnyH_take (i := 2) (v := ?v13) rfl (by kernel_rfl) (by kernel_rfl) (by kernel_rfl) (fun _ _ _ h => h) (Or.inl ⟨by kernel_rfl, ?hy13⟩) (by assumption) ?rest13
            case hy13 => intro w hSw; (try dsimp only at hSw); go_simp; (try with_reducible rfl)
            try simp only [Act.put, List.getElem_toArray, List.getElem_cons_zero, List.getElem_cons_succ, List.setIfInBounds_toArray, List.set_cons_zero, List.set_cons_succ]
            refine wpAnyH_take (i := 3) (v := ?v14) rfl (by kernel_rfl) (by kernel_rfl) (by kernel_rfl) (fun _ _ _ h => h) (Or.inl ⟨by kernel_rfl, ?hy14⟩) (by assumption) ?rest14
            case hy14 => intro w hSw; (try dsimp only at hSw); go_simp; (try with_reducible rfl)
            try simp only [Act.put, List.getElem_toArray, List.getElem_cons_zero, List.getElem_cons_succ, List.setIfInBounds_toArray, List.set_cons_zero, List.set_cons_succ]
            refine wpAnyH_take (i := 4) (v := ?v15) rfl (by kernel_rfl) (by kernel_rfl) (by kernel_rfl) (fun _ _ _ h => h) (Or.inl ⟨by kernel_rfl, ?hy15⟩) (by assumption) ?rest15
            case hy15 => intro w hSw; (try dsimp only at hSw); go_simp; (try with_reducible rfl)
            try simp only [Act.put, List.getElem_toArray, List.getElem_cons_zero, List.getElem_cons_succ, List.setIfInBounds_toArray, List.set_cons_zero, List.set_cons_succ]
            refine wpAnyH_take (i := 5) (v := ?v16) rfl (by kernel_rfl) (by kernel_rfl) (by kernel_rfl) (fun _ _ _ h => h) (Or.inl ⟨by kernel_rfl, ?hy16⟩) (by assumption) ?rest16
            case hy16 => intro w hSw; (try dsimp only at hSw); go_simp; (try with_reducible rfl)
            try simp only [Act.put, List.getElem_toArray, List.getElem_cons_zero, List.getElem_cons_succ, List.setIfInBounds_toArray, List.set_cons_zero, List.set_cons_succ]
            refine wpAnyH_take (i := 6) (v := ?v17) rfl (by kernel_rfl) (by kernel_rfl) (by kernel_rfl) (fun _ _ _ h => h) (Or.inl ⟨by kernel_rfl, ?hy17⟩) (by assumption) ?rest17
            case hy17 => intro w hSw; (try dsimp only at hSw); go_simp; (try with_reducible rfl)
            try simp only [Act.put, List.getElem_toArray, List.getElem_cons_zero, List.getElem_cons_succ, List.setIfInBounds_toArray, List.set_cons_zero, List.set_cons_succ]
            refine wpAnyH_take (i := 7) (v := ?v18) rfl (by kernel_rfl) (by kernel_rfl) (by kernel_rfl) (fun _ _ _ h => h) (Or.inl ⟨by kernel_rfl, ?hy18⟩) (by assumption) ?rest18
            case hy18 => intro w hSw; (try dsimp only at hSw); go_simp; (try with_reducible rfl)
            try simp only [Act.put, List.getElem_toArray, List.getElem_cons_zero, List.getElem_cons_succ, List.setIfInBounds_toArray, List.set_cons_zero, List.set_cons_succ]
            refine wpAnyH_take (i := 8) (v := ?v19) rfl (by kernel_rfl) (by kernel_rfl) (by kernel_rfl) (fun _ _ _ h => h) (Or.inl ⟨by kernel_rfl, ?hy19⟩) (by assumption) ?rest19
            case hy19 => intro w hSw; (try dsimp only at hSw); go_simp; (try with_reducible rfl)
            try simp only [Act.put, List.getElem_toArray, List.getElem_cons_zero, List.getElem_cons_succ, List.setIfInBounds_toArray, List.set_cons_zero, List.set_cons_succ]
            refine wpAnyH_take (i := 9) (v := ?v20) rfl (by kernel_rfl) (by kernel_rfl) (by kernel_rfl) (fun _ _ _ h => h) (Or.inl ⟨by kernel_rfl, ?hy20⟩) (by assumption) ?rest20
            case hy20 => intro w hSw; (try dsimp only at hSw); go_simp; (try with_reducible rfl)
            try simp only [Act.put, List.getElem_toArray, List.getElem_cons_zero, List.getElem_cons_succ, List.setIfInBounds_toArray, List.set_cons_zero, List.set_cons_succ]
            refine wpAnyH_take (i := 10) (v := ?v21) rfl (by kernel_rfl) (by kernel_rfl) (by kernel_rfl) (fun _ _ _ h => h) (Or.inl ⟨by kernel_rfl, ?hy21⟩) (by assumption) ?rest21
            case hy21 => intro w hSw; (try dsimp only at hSw); go_simp; (try with_reducible rfl)
            try simp only [Act.put, List.getElem_toArray, List.getElem_cons_zero, List.getElem_cons_succ, List.setIfInBounds_toArray, List.set_cons_zero, List.set_cons_succ]
            refine wpAnyH_take (i := 11) (v := ?v22) rfl (by kernel_rfl) (by kernel_rfl) (by kernel_rfl) (fun _ _ _ h => h) (Or.inl ⟨by kernel_rfl, ?hy22⟩) (by assumption) ?rest22
            case hy22 => intro w hSw; (try dsimp only at hSw); go_simp; (try with_reducible rfl)
            try simp only [Act.put, List.getElem_toArray, List.getElem_cons_zero, List.getElem_cons_succ, List.setIfInBounds_toArray, List.set_cons_zero, List.set_cons_succ]
            refine wpAnyH_take (i := 12) (v := ?v23) rfl (by kernel_rfl) (by kernel_rfl) (by kernel_rfl) (fun _ _ _ h => h) (Or.inl ⟨by kernel_rfl, ?hy23⟩) (by assumption) ?rest23
            case hy23 => intro w hSw; (try dsimp only at hSw); go_simp; (try with_reducible rfl)
            try simp only [Act.put, List.getElem_toArray, List.getElem_cons_zero, List.getElem_cons_succ, List.setIfInBounds_toArray, List.set_cons_zero, List.set_cons_succ]
            refine wpAnyH_take (i := 13) (v := ?v24) rfl (by kernel_rfl) (by kernel_rfl) (by kernel_rfl) (fun _ _ _ h => h) (Or.inl ⟨by kernel_rfl, ?hy24⟩) (by assumption) ?rest24
            case hy24 => intro w hSw; (try dsimp only at hSw); go_simp; (try with_reducible rfl)
            try simp only [Act.put, List.getElem_toArray, List.getElem_cons_zero, List.getElem_cons_succ, List.setIfInBounds_toArray, List.set_cons_zero, List.set_cons_succ]
            refine wpAnyH_take (i := 14) (v := ?v25) rfl (by kernel_rfl) (by kernel_rfl) (by kernel_rfl) (fun _ _ _ h => h) (Or.inl ⟨by kernel_rfl, ?hy25⟩) (by assumption) ?rest25
            case hy25 => intro w hSw; (try dsimp only at hSw); go_simp; (try with_reducible rfl)
            try simp only [Act.put, List.getElem_toArray, List.getElem_cons_zero, List.getElem_cons_succ, List.setIfInBounds_toArray, List.set_cons_zero, List.set_cons_succ]
            refine wpAnyH_take (i := 15) (v := ?v26) rfl (by kernel_rfl) (by kernel_rfl) (by kernel_rfl) (fun _ _ _ h => h) (Or.inl ⟨by kernel_rfl, ?hy26⟩) (by assumption) ?rest26
            case hy26 => intro w hSw; (try dsimp only at hSw); go_simp; (try with_reducible rfl)
            try simp only [Act.put, List.getElem_toArray, List.getElem_cons_zero, List.getElem_cons_succ, List.setIfInBounds_toArray, List.set_cons_zero, List.set_cons_succ]
            refine wpAnyH_take (i := 16) (v := undef) rfl (by kernel_rfl) (by kernel_rfl) (by kernel_rfl) (fun _ _ _ h => h) (Or.inr ⟨by kernel_rfl, rfl⟩) (by assumption) ?_
            try simp only [Act.put, List.getElem_toArray, List.getElem_cons_zero, List.getElem_cons_succ, List.setIfInBounds_toArray, List.set_cons_zero, List.set_cons_succ]
            refine wpAnyH_take (i := 17) (v := undef) rfl (by kernel_rfl) (by kernel_rfl) (by kernel_rfl) (fun _ _ _ h => h) (Or.inr ⟨by kernel_rfl, rfl⟩) (by assumption) ?_
            try simp only [Act.put, List.getElem_toArray, List.getElem_cons_zero, List.getElem_cons_succ, List.setIfInBounds_toArray, List.set_cons_zero, List.set_cons_succ]
            refine wpAnyH_take (i := 18) (v := undef) rfl (by kernel_rfl) (by kernel_rfl) (by kernel_rfl) (fun _ _ _ h => h) (Or.inr ⟨by kernel_rfl, rfl⟩) (by assumption) ?_
            try simp only [Act.put, List.getElem_toArray, List.getElem_cons_zero, List.getElem_cons_succ, List.setIfInBounds_toArray, List.set_cons_zero, List.set_cons_succ]
            refine wpAnyH_take (i := 19) (v := undef) rfl (by kernel_rfl) (by kernel_rfl) (by kernel_rfl) (fun _ _ _ h => h) (Or.inr ⟨by kernel_rfl, rfl⟩) (by assumption) ?_
            try simp only [Act.put, List.getElem_toArray, List.getElem_cons_zero, List.getElem_cons_succ, List.setIfInBounds_toArray, List.set_cons_zero, List.set_cons_succ]
            refine wpAnyH_take (i := 20) (v := undef) rfl (by kernel_rfl) (by kernel_rfl) (by kernel_rfl) (fun _ _ _ h => h) (Or.inr ⟨by kernel_rfl, rfl⟩) (by assumption) ?_
            try simp only [Act.put, List.getElem_toArray, List.getElem_cons_zero, List.getElem_cons_succ, List.setIfInBounds_toArray, List.set_cons_zero, List.set_cons_succ]
            refine wpAnyH_take (i := 21) (v := undef) rfl (by kernel_rfl) (by kernel_rfl) (by kernel_rfl) (fun _ _ _ h => h) (Or.inr ⟨by kernel_rfl, rfl⟩) (by assumption) ?_
            try simp only [Act.put, List.getElem_toArray, List.getElem_cons_zero, List.getElem_cons_succ, List.setIfInBounds_toArray, List.set_cons_zero, List.set_cons_succ]
            refine wpAnyH_take (i := 22) (v := undef) rfl (by kernel_rfl) (by kernel_rfl) (by kernel_rfl) (fun _ _ _ h => h) (Or.inr ⟨by kernel_rfl, rfl⟩) (by assumption) ?_
            try simp only [Act.put, List.getElem_toArray, List.getElem_cons_zero, List.getElem_cons_succ, List.setIfInBounds_toArray, List.set_cons_zero, List.set_cons_succ]
            refine wpAnyH_take (i := 23) (v := undef) rfl (by kernel_rfl) (by kernel_rfl) (by kernel_rfl) (fun _ _ _ h => h) (Or.inr ⟨by kernel_rfl, rfl⟩) (by assumption) ?_
            try simp only [Act.put, List.getElem_toArray, List.getElem_cons_zero, List.getElem_cons_succ, List.setIfInBounds_toArray, List.set_cons_zero, List.set_cons_succ]
            refine wpAnyH_take (i := 24) (v := undef) rfl (by kernel_rfl) (by kernel_rfl) (by kernel_rfl) (fun _ _ _ h => h) (Or.inr ⟨by kernel_rfl, rfl⟩) (by assumption) ?_
            try simp only [Act.put, List.getElem_toArray, List.getElem_cons_zero, List.getElem_cons_succ, List.setIfInBounds_toArray, List.set_cons_zero, List.set_cons_succ]
            refine wpAnyH_take (i := 25) (v := undef) rfl (by kernel_rfl) (by kernel_rfl) (by kernel_rfl) (fun _ _ _ h => h) (Or.inr ⟨by kernel_rfl, rfl⟩) (by assumption) ?_
            try simp only [Act.put, List.getElem_toArray, List.getElem_cons_zero, List.getElem_cons_succ, List.setIfInBounds_toArray, List.set_cons_zero, List.set_cons_succ]
            refine wpAnyH_take (i := 26) (v := undef) rfl (by kernel_rfl) (by kernel_rfl) (by kernel_rfl) (fun _ _ _ h => h) (Or.inr ⟨by kernel_rfl, rfl⟩) (by assumption) ?_
            try simp only [Act.put, List.getElem_toArray, List.getElem_cons_zero, List.getElem_cons_succ, List.setIfInBounds_toArray, List.set_cons_zero, List.set_cons_succ]
            refine wpAnyH_take (i := 27) (v := undef) rfl (by kernel_rfl) (by kernel_rfl) (by kernel_rfl) (fun _ _ _ h => h) (Or.inr ⟨by kernel_rfl, rfl⟩) (by assumption) ?_
            try simp only [Act.put, List.getElem_toArray, List.getElem_cons_zero, List.getElem_cons_succ, List.setIfInBounds_toArray, List.set_cons_zero, List.set_cons_succ]
            refine wpAnyH_take (i := 28) (v := undef) rfl (by kernel_rfl) (by kernel_rfl) (by kernel_rfl) (fun _ _ _ h => h) (Or.inr ⟨by kernel_rfl, rfl⟩) (by assumption) ?_
            try simp only [Act.put, List.getElem_toArray, List.getElem_cons_zero, List.getElem_cons_succ, List.setIfInBounds_toArray, List.set_cons_zero, List.set_cons_succ]
            refine wpAnyH_take (i := 29) (v := ?v27) rfl (by kernel_rfl) (by kernel_rfl) (by kernel_rfl) (fun _ _ _ h => h) (Or.inl ⟨by kernel_rfl, ?hy27⟩) (by assumption) ?rest27
            case hy27 => intro w hSw; (try dsimp only at hSw); go_simp; (try with_reducible rfl)
            try simp only [Act.put, List.getElem_toArray, List.getElem_cons_zero, List.getElem_cons_succ, List.setIfInBounds_toArray, List.set_cons_zero, List.set_cons_succ]
            refine wpAnyH_take (i := 30) (v := ?v28) rfl (by kernel_rfl) (by kernel_rfl) (by kernel_rfl) (fun _ _ _ h => h) (Or.inl ⟨by kernel_rfl, ?hy28⟩) (by assumption) ?rest28
            case hy28 => intro w hSw; (try dsimp only at hSw); go_simp; (try with_reducible rfl)
            try simp only [Act.put, List.getElem_toArray, List.getElem_cons_zero, List.getElem_cons_succ, List.setIfInBounds_toArray, List.set_cons_zero, List.set_cons_succ]
            refine wpAnyH_done (by kernel_rfl) ?_ _
            clear hHeld
            go_wp2_with fail
            go_ret
            exact ⟨by rw [HYS.out]; rfl, HFw.out.trans ((Fr.refl (fun _ => False) wr).drew) (fun _ _ e => e)⟩
          · have h0 : y.2.toList.isEmpty = false := by have := hh; simpa [hi] using this
            by_cases hx : hi s = []
            · have h1 : s.2.toList.isEmpty = true := by have := hx; simpa [hi] using this
              have HND := hideIt (show ¬ DT y s from fun h => h.2 ⟨hh, Or.inl hx⟩)
              clear hy hh hx HYY
              go_wp2_with fail
              refine wp_region_held_drew (S := fun w' => w'.cell? ⟨b, off + k * 2, none⟩ = some (.string y.1) ∧ w'.cell? ⟨b, off + k * 2 + 1, none⟩ = some (.string y.2) ∧ w'.cell? ⟨w.heap.size, 0, none⟩ = some (.string s.1) ∧ w'.cell? ⟨w.heap.size, 1, none⟩ = some (.string s.2)) (by kernel_rfl) ?_ (fun hHeld => ?_)
              · exact HCS.out _ ((Fr.refl (fun _ => False) wr).drew)
              refine wpAnyH_take (i := 0) (v := ?v29) rfl (by kernel_rfl) (by kernel_rfl) (by kernel_rfl) (fun _ _ _ h => h) (Or.inl ⟨by kernel_rfl, ?hy29⟩) (by assumption) ?rest29
              case hy29 => intro w hSw; (try dsimp only at hSw); go_simp; (try with_reducible rfl)
              try simp only [Act.put, List.getElem_toArray, List.getElem_cons_zero, List.getElem_cons_succ, List.setIfInBounds_toArray, List.set_cons_zero, List.set_cons_succ]
              refine wpAnyH_take (i := 1) (v := ?v30) rfl (by kernel_rfl) (by kernel_rfl) (by kernel_rfl) (fun _ _ _ h => h) (Or.inl ⟨by kernel_rfl, ?hy30⟩) (by assumption) ?rest30
              case hy30 => intro w hSw; (try dsimp only at hSw); go_simp; (try with_reducible rfl)
              try simp only [Act.put, List.getElem_toArray, List.getElem_cons_zero, List.getElem_cons_succ, List.setIfInBounds_toArray, List.set_cons_zero, List.set_cons_succ]
              refine wpAnyH_take (i := 2) (v := ?v31) rfl (by kernel_rfl) (by kernel_rfl) (by kernel_rfl) (fun _ _ _ h => h) (Or.inl ⟨by kernel_rfl, ?hy31⟩) (by assumption) ?rest31
              case hy31 => intro w hSw; (try dsimp only at hSw); go_simp; (try with_reducible rfl)
              try simp only [Act.put, List.getElem_toArray, List.getElem_cons_zero, List.getElem_cons_succ, List.setIfInBounds_toArray, List.set_cons_zero, List.set_cons_succ]
              refine wpAnyH_take (i := 3) (v := ?v32) rfl (by kernel_rfl) (by kernel_rfl) (by kernel_rfl) (fun _ _ _ h => h) (Or.inl ⟨by kernel_rfl, ?hy32⟩) (by assumption) ?rest32
              case hy32 => intro w hSw; (try dsimp only at hSw); go_simp; (try with_reducible rfl)
              try simp only [Act.put, List.getElem_toArray, List.getElem_cons_zero, List.getElem_cons_succ, List.setIfInBounds_toArray, List.set_cons_zero, List.set_cons_succ]
              refine wpAnyH_take (i := 4) (v := ?v33) rfl (by kernel_rfl) (by kernel_rfl) (by kernel_rfl) (fun _ _ _ h => h) (Or.inl ⟨by kernel_rfl, ?hy33⟩) (by assumption) ?rest33
              case hy33 => intro w hSw; (try dsimp only at hSw); go_simp; (try with_reducible rfl)
              try simp only [Act.put, List.getElem_toArray, List.getElem_cons_zero, List.getElem_cons_succ, List.setIfInBounds_toArray, List.set_cons_zero, List.set_cons_succ]
              refine wpAnyH_take (i := 5) (v := ?v34) rfl (by kernel_rfl) (by kernel_rfl) (by kernel_rfl) (fun _ _ _ h => h) (Or.inl ⟨by kernel_rfl, ?hy34⟩) (by assumption) ?rest34
              case hy34 => intro w hSw; (try dsimp only at hSw); go_simp; (try with_reducible rfl)
              try simp only [Act.put, List.getElem_toArray, List.getElem_cons_zero, List.getElem_cons_succ, List.setIfInBounds_toArray, List.set_cons_zero, List.set_cons_succ]
              refine wpAnyH_take (i := 6) (v := ?v35) rfl (by kernel_rfl) (by kernel_rfl) (by kernel_rfl) (fun _ _ _ h => h) (Or.inl ⟨by kernel_rfl, ?hy35⟩) (by assumption) ?rest35
              case hy35 => intro w hSw; (try dsimp only at hSw); go_simp; (try with_reducible rfl)
              try simp only [Act.put, List.getElem_toArray, List.getElem_cons_zero, List.getElem_cons_succ, List.setIfInBounds_toArray, List.set_cons_zero, List.set_cons_succ]
              refine wpAnyH_take (i := 7) (v := ?v36) rfl (by kernel_rfl) (by kernel_rfl) (by kernel_rfl) (fun _ _ _ h => h) (Or.inl ⟨by kernel_rfl, ?hy36⟩) (by assumption) ?rest36
              case hy36 => intro w hSw; (try dsimp only at hSw); go_simp; (try with_reducible rfl)
              try simp only [Act.put, List.getElem_toArray, List.getElem_cons_zero, List.getElem_cons_succ, List.setIfInBounds_toArray, List.set_cons_zero, List.set_cons_succ]
              refine wpAnyH_take (i := 8) (v := ?v37) rfl (by kernel_rfl) (by kernel_rfl) (by kernel_rfl) (fun _ _ _ h => h) (Or.inl ⟨by kernel_rfl, ?hy37⟩) (by assumption) ?rest37
              case hy37 => intro w hSw; (try dsimp only at hSw); go_simp; (try with_reducible rfl)
              try simp only [Act.put, List.getElem_toArray, List.getElem_cons_zero, List.getElem_cons_succ, List.setIfInBounds_toArray, List.set_cons_zero, List.set_cons_succ]
              refine wpAnyH_take (i := 9) (v := ?v38) rfl (by kernel_rfl) (by kernel_rfl) (by kernel_rfl) (fun _ _ _ h => h) (Or.inl ⟨by kernel_rfl, ?hy38⟩) (by assumption) ?rest38
              case hy38 => intro w hSw; (try dsimp only at hSw); go_simp; (try with_reducible rfl)
              try simp only [Act.put, List.getElem_toArray, List.getElem_cons_zero, List.getElem_cons_succ, List.setIfInBounds_toArray, List.set_cons_zero, List.set_cons_succ]
              refine wpAnyH_take (i := 10) (v := ?v39) rfl (by kernel_rfl) (by kernel_rfl) (by kernel_rfl) (fun _ _ _ h => h) (Or.inl ⟨by kernel_rfl, ?hy39⟩) (by assumption) ?rest39
              case hy39 => intro w hSw; (try dsimp only at hSw); go_simp; (try with_reducible rfl)
              try simp only [Act.put, List.getElem_toArray, List.getElem_cons_zero, List.getElem_cons_succ, List.setIfInBounds_toArray, List.set_cons_zero, List.set_cons_succ]
              refine wpAnyH_take (i := 11) (v := ?v40) rfl (by kernel_rfl) (by kernel_rfl) (by kernel_rfl) (fun _ _ _ h => h) (Or.inl ⟨by kernel_rfl, ?hy40⟩) (by assumption) ?rest40
              case hy40 => intro w hSw; (try dsimp only at hSw); go_simp; (try with_reducible rfl)
              try simp only [Act.put, List.getElem_toArray, List.getElem_cons_zero, List.getElem_cons_succ, List.setIfInBounds_toArray, List.set_cons_zero, List.set_cons_succ]
              refine wpAnyH_take (i := 12) (v := ?v41) rfl (by kernel_rfl) (by kernel_rfl) (by kernel_rfl) (fun _ _ _ h => h) (Or.inl ⟨by kernel_rfl, ?hy41⟩) (by assumption) ?rest41
              case hy41 => intro w hSw; (try dsimp only at hSw); go_simp; (try with_reducible rfl)
              try simp only [Act.put, List.getElem_toArray, List.getElem_cons_zero, List.getElem_cons_succ, List.setIfInBounds_toArray, List.set_cons_zero, List.set_cons_succ]
              refine wpAnyH_take (i := 13) (v := ?v42) rfl (by kernel_rfl) (by kernel_rfl) (by kernel_rfl) (fun _ _ _ h => h) (Or.inl ⟨by kernel_rfl, ?hy42⟩) (by assumption) ?rest42
              case hy42 => intro w hSw; (try dsimp only at hSw); go_simp; (try with_reducible rfl)
              try simp only [Act.put, List.getElem_toArray, List.getElem_cons_zero, List.getElem_cons_succ, List.setIfInBounds_toArray, List.set_cons_zero, List.set_cons_succ]
              refine wpAnyH_take (i := 14) (v := ?v43) rfl (by kernel_rfl) (by kernel_rfl) (by kernel_rfl) (fun _ _ _ h => h) (Or.inl ⟨by kernel_rfl, ?hy43⟩) (by assumption) ?rest43
              case hy43 => intro w hSw; (try dsimp only at hSw); go_simp; (try with_reducible rfl)
              try simp only [Act.put, List.getElem_toArray, List.getElem_cons_zero, List.getElem_cons_succ, List.setIfInBounds_toArray, List.set_cons_zero, List.set_cons_succ]
              refine wpAnyH_take (i := 15) (v := ?v44) rfl (by kernel_rfl) (by kernel_rfl) (by kernel_rfl) (fun _ _ _ h => h) (Or.inl ⟨by kernel_rfl, ?hy44⟩) (by assumption) ?rest44
              case hy44 => intro w hSw; (try dsimp only at hSw); go_simp; (try with_reducible rfl)
              try simp only [Act.put, List.getElem_toArray, List.getElem_cons_zero, List.getElem_cons_succ, List.setIfInBounds_toArray, List.set_cons_zero, List.set_cons_succ]
              refine wpAnyH_take (i := 16) (v := ?v45) rfl (by kernel_rfl) (by kernel_rfl) (by kernel_rfl) (fun _ _ _ h => h) (Or.inl ⟨by kernel_rfl, ?hy45⟩) (by assumption) ?rest45
              case hy45 => intro w hSw; (try dsimp only at hSw); go_simp; (try with_reducible rfl)
              try simp only [Act.put, List.getElem_toArray, List.getElem_cons_zero, List.getElem_cons_succ, List.setIfInBounds_toArray, List.set_cons_zero, List.set_cons_succ]
              refine wpAnyH_take (i := 17) (v := ?v46) rfl (by kernel_rfl) (by kernel_rfl) (by kernel_rfl) (fun _ _ _ h => h) (Or.inl ⟨by kernel_rfl, ?hy46⟩) (by assumption) ?rest46
              case hy46 => intro w hSw; (try dsimp only at hSw); go_simp; (try with_reducible rfl)
              try simp only [Act.put, List.getElem_toArray, List.getElem_cons_zero, List.getElem_cons_succ, List.setIfInBounds_toArray, List.set_cons_zero, List.set_cons_succ]
              refine wpAnyH_take (i := 18) (v := ?v47) rfl (by kernel_rfl) (by kernel_rfl) (by kernel_rfl) (fun _ _ _ h => h) (Or.inl ⟨by kernel_rfl, ?hy47⟩) (by assumption) ?rest47
              case hy47 => intro w hSw; (try dsimp only at hSw); go_simp; (try with_reducible rfl)
              try simp only [Act.put, List.getElem_toArray, List.getElem_cons_zero, List.getElem_cons_succ, List.setIfInBounds_toArray, List.set_cons_zero, List.set_cons_succ]
              refine wpAnyH_take (i := 19) (v := ?v48) rfl (by kernel_rfl) (by kernel_rfl) (by kernel_rfl) (fun _ _ _ h => h) (Or.inl ⟨by kernel_rfl, ?hy48⟩) (by assumption) ?rest48
              case hy48 => intro w hSw; (try dsimp only at hSw); go_simp; (try with_reducible rfl)
              try simp only [Act.put, List.getElem_toArray, List.getElem_cons_zero, List.getElem_cons_succ, List.setIfInBounds_toArray, List.set_cons_zero, List.set_cons_succ]
              refine wpAnyH_take (i := 20) (v := undef) rfl (by kernel_rfl) (by kernel_rfl) (by kernel_rfl) (fun _ _ _ h => h) (Or.inr ⟨by kernel_rfl, rfl⟩) (by assumption) ?_
              try simp only [Act.put, List.getElem_toArray, List.getElem_cons_zero, List.getElem_cons_succ, List.setIfInBounds_toArray, List.set_cons_zero, List.set_cons_succ]
              refine wpAnyH_take (i := 21) (v := undef) rfl (by kernel_rfl) (by kernel_rfl) (by kernel_rfl) (fun _ _ _ h => h) (Or.inr ⟨by kernel_rfl, rfl⟩) (by assumption) ?_
              try simp only [Act.put, List.getElem_toArray, List.getElem_cons_zero, List.getElem_cons_succ, List.setIfInBounds_toArray, List.set_cons_zero, List.set_cons_succ]
              refine wpAnyH_take (i := 22) (v := undef) rfl (by kernel_rfl) (by kernel_rfl) (by kernel_rfl) (fun _ _ _ h => h) (Or.inr ⟨by kernel_rfl, rfl⟩) (by assumption) ?_
              try simp only [Act.put, List.getElem_toArray, List.getElem_cons_zero, List.getElem_cons_succ, List.setIfInBounds_toArray, List.set_cons_zero, List.set_cons_succ]
              refine wpAnyH_take (i := 23) (v := undef) rfl (by kernel_rfl) (by kernel_rfl) (by kernel_rfl) (fun _ _ _ h => h) (Or.inr ⟨by kernel_rfl, rfl⟩) (by assumption) ?_
              try simp only [Act.put, List.getElem_toArray, List.getElem_cons_zero, List.getElem_cons_succ, List.setIfInBounds_toArray, List.set_cons_zero, List.set_cons_succ]
              refine wpAnyH_take (i := 24) (v := undef) rfl (by kernel_rfl) (by kernel_rfl) (by kernel_rfl) (fun _ _ _ h => h) (Or.inr ⟨by kernel_rfl, rfl⟩) (by assumption) ?_
              try simp only [Act.put, List.getElem_toArray, List.getElem_cons_zero, List.getElem_cons_succ, List.setIfInBounds_toArray, List.set_cons_zero, List.set_cons_succ]
              refine wpAnyH_take (i := 25) (v := undef) rfl (by kernel_rfl) (by kernel_rfl) (by kernel_rfl) (fun _ _ _ h => h) (Or.inr ⟨by kernel_rfl, rfl⟩) (by assumption) ?_
              try simp only [Act.put, List.getElem_toArray, List.getElem_cons_zero, List.getElem_cons_succ, List.setIfInBounds_toArray, List.set_cons_zero, List.set_cons_succ]
              refine wpAnyH_take (i := 26) (v := undef) rfl (by kernel_rfl) (by kernel_rfl) (by kernel_rfl) (fun _ _ _ h => h) (Or.inr ⟨by kernel_rfl, rfl⟩) (by assumption) ?_
              try simp only [Act.put, List.getElem_toArray, List.getElem_cons_zero, List.getElem_cons_succ, List.setIfInBounds_toArray, List.set_cons_zero, List.set_cons_succ]
              refine wpAnyH_take (i := 27) (v := undef) rfl (by kernel_rfl) (by kernel_rfl) (by kernel_rfl) (fun _ _ _ h => h) (Or.inr ⟨by kernel_rfl, rfl⟩) (by assumption) ?_
              try simp only [Act.put, List.getElem_toArray, List.getElem_cons_zero, List.getElem_cons_succ, List.setIfInBounds_toArray, List.set_cons_zero, List.set_cons_succ]
              refine wpAnyH_take (i := 28) (v := ?v49) rfl (by kernel_rfl) (by kernel_rfl) (by kernel_rfl) (fun _ _ _ h => h) (Or.inl ⟨by kernel_rfl, ?hy49⟩) (by assumption) ?rest49
              case hy49 => intro w hSw; (try dsimp only at hSw); go_simp; (try with_reducible rfl)
              try simp only [Act.put, List.getElem_toArray, List.getElem_cons_zero, List.getElem_cons_succ, List.setIfInBounds_toArray, List.set_cons_zero, List.set_cons_succ]
              refine wpAnyH_take (i := 29) (v := ?v50) rfl (by kernel_rfl) (by kernel_rfl) (by kernel_rfl) (fun _ _ _ h => h) (Or.inl ⟨by kernel_rfl, ?hy50⟩) (by assumption) ?rest50
              case hy50 => intro w hSw; (try dsimp only at hSw); go_simp; (try with_reducible rfl)
              try simp only [Act.put, List.getElem_toArray, List.getElem_cons_zero, List.getElem_cons_succ, List.setIfInBounds_toArray, List.set_cons_zero, List.set_cons_succ]
              refine wpAnyH_take (i := 30) (v := ?v51) rfl (by kernel_rfl) (by kernel_rfl) (by kernel_rfl) (fun _ _ _ h => h) (Or.inl ⟨by kernel_rfl, ?hy51⟩) (by assumption) ?rest51
              case hy51 => intro w hSw; (try dsimp only at hSw); go_simp; (try with_reducible rfl)
              try simp only [Act.put, List.getElem_toArray, List.getElem_cons_zero, List.getElem_cons_succ, List.setIfInBounds_toArray, List.set_cons_zero, List.set_cons_succ]
              refine wpAnyH_done (by kernel_rfl) ?_ _
              clear hHeld
              have HF2 := hideIt (HF.out.trans ((Fr.refl (fun _ => False) wr).drew) (fun _ _ e => e))
              clear HF
              go_wp2_with fail
              go_roundw
              case measure => simp [intOf]; omega
              case rel => exact ⟨k + 1, by go_num, by omega, hideIt (fun z hz => by
                rw [HTK.out] at hz
                rcases List.mem_append.1 hz with e | e
                · exact HB.out z e
                · rw [List.mem_singleton.1 e]; exact HND.out), HF2⟩
            · have h1 : s.2.toList.isEmpty = false := by have := hx; simpa [hi] using this
              by_cases ho : hi y < hi s
              · have h2 : (Op.bytesLess s.2.toList y.2.toList || s.2.toList == y.2.toList) = false := by rw [le_iff]; exact decide_eq_false (fun e => e ho)
                have HND := hideIt (show ¬ DT y s from fun h => h.2 ⟨hh, Or.inr ho⟩)
                clear hy hh hx ho HYY
                go_wp2_with fail
                refine wp_region_held_drew (S := fun w' => w'.cell? ⟨b, off + k * 2, none⟩ = some (.string y.1) ∧ w'.cell? ⟨b, off + k * 2 + 1, none⟩ = some (.string y.2) ∧ w'.cell? ⟨w.heap.size, 0, none⟩ = some (.string s.1) ∧ w'.cell? ⟨w.heap.size, 1, none⟩ = some (.string s.2)) (by kernel_rfl) ?_ (fun hHeld => ?_)
                · exact HCS.out _ ((Fr.refl (fun _ => False) wr).drew)
                refine wpAnyH_take (i := 0) (v := ?v52) rfl (by kernel_rfl) (by kernel_rfl) (by kernel_rfl) (fun _ _ _ h => h) (Or.inl ⟨by kernel_rfl, ?hy52⟩) (by assumption) ?rest52
                case hy52 => intro w hSw; (try dsimp only at hSw); go_simp; (try with_reducible rfl)
                try simp only [Act.put, List.getElem_toArray, List.getElem_cons_zero, List.getElem_cons_succ, List.setIfInBounds_toArray, List.set_cons_zero, List.set_cons_succ]
                refine wpAnyH_take (i := 1) (v := ?v53) rfl (by kernel_rfl) (by kernel_rfl) (by kernel_rfl) (fun _ _ _ h => h) (Or.inl ⟨by kernel_rfl, ?hy53⟩) (by assumption) ?rest53
                case hy53 => intro w hSw; (try dsimp only at hSw); go_simp; (try with_reducible rfl)
                try simp only [Act.put, List.getElem_toArray, List.getElem_cons_zero, List.getElem_cons_succ, List.setIfInBounds_toArray, List.set_cons_zero, List.set_cons_succ]
                refine wpAnyH_take (i := 2) (v := ?v54) rfl (by kernel_rfl) (by kernel_rfl) (by kernel_rfl) (fun _ _ _ h => h) (Or.inl ⟨by kernel_rfl, ?hy54⟩) (by assumption) ?rest54
                case hy54 => intro w hSw; (try dsimp only at hSw); go_simp; (try with_reducible rfl)
                try simp only [Act.put, List.getElem_toArray, List.getElem_cons_zero, List.getElem_cons_succ, List.setIfInBounds_toArray, List.set_cons_zero, List.set_cons_succ]
                refine wpAnyH_take (i := 3) (v := ?v55) rfl (by kernel_rfl) (by kernel_rfl) (by kernel_rfl) (fun _ _ _ h => h) (Or.inl ⟨by kernel_rfl, ?hy55⟩) (by assumption) ?rest55
                case hy55 => intro w hSw; (try dsimp only at hSw); go_simp; (try with_reducible rfl)
                try simp only [Act.put, List.getElem_toArray, List.getElem_cons_zero, List.getElem_cons_succ, List.setIfInBounds_toArray, List.set_cons_zero, List.set_cons_succ]
                refine wpAnyH_take (i := 4) (v := ?v56) rfl (by kernel_rfl) (by kernel_rfl) (by kernel_rfl) (fun _ _ _ h => h) (Or.inl ⟨by kernel_rfl, ?hy56⟩) (by assumption) ?rest56
                case hy56 => intro w hSw; (try dsimp only at hSw); go_simp; (try with_reducible rfl)
                try simp only [Act.put, List.getElem_toArray, List.getElem_cons_zero, List.getElem_cons_succ, List.setIfInBounds_toArray, List.set_cons_zero, List.set_cons_succ]
                refine wpAnyH_take (i := 5) (v := ?v57) rfl (by kernel_rfl) (by kernel_rfl) (by kernel_rfl) (fun _ _ _ h => h) (Or.inl ⟨by kernel_rfl, ?hy57⟩) (by assumption) ?rest57
                case hy57 => intro w hSw; (try dsimp only at hSw); go_simp; (try with_reducible rfl)
                try simp only [Act.put, List.getElem_toArray, List.getElem_cons_zero, List.getElem_cons_succ, List.setIfInBounds_toArray, List.set_cons_zero, List.set_cons_succ]
                refine wpAnyH_take (i := 6) (v := ?v58) rfl (by kernel_rfl) (by kernel_rfl) (by kernel_rfl) (fun _ _ _ h => h) (Or.inl ⟨by kernel_rfl, ?hy58⟩) (by assumption) ?rest58
                case hy58 => intro w hSw; (try dsimp only at hSw); go_simp; (try with_reducible rfl)
                try simp only [Act.put, List.getElem_toArray, List.getElem_cons_zero, List.getElem_cons_succ, List.setIfInBounds_toArray, List.set_cons_zero, List.set_cons_succ]
                refine wpAnyH_take (i := 7) (v := ?v59) rfl (by kernel_rfl) (by kernel_rfl) (by kernel_rfl) (fun _ _ _ h => h) (Or.inl ⟨by kernel_rfl, ?hy59⟩) (by assumption) ?rest59
                case hy59 => intro w hSw; (try dsimp only at hSw); go_simp; (try with_reducible rfl)
                try simp only [Act.put, List.getElem_toArray, List.getElem_cons_zero, List.getElem_cons_succ, List.setIfInBounds_toArray, List.set_cons_zero, List.set_cons_succ]
                refine wpAnyH_take (i := 8) (v := ?v60) rfl (by kernel_rfl) (by kernel_rfl) (by kernel_rfl) (fun _ _ _ h => h) (Or.inl ⟨by kernel_rfl, ?hy60⟩) (by assumption) ?rest60
                case hy60 => intro w hSw; (try dsimp only at hSw); go_simp; (try with_reducible rfl)
                try simp only [Act.put, List.getElem_toArray, List.getElem_cons_zero, List.getElem_cons_succ, List.setIfInBounds_toArray, List.set_cons_zero, List.set_cons_succ]
                refine wpAnyH_take (i := 9) (v := ?v61) rfl (by kernel_rfl) (by kernel_rfl) (by kernel_rfl) (fun _ _ _ h => h) (Or.inl ⟨by kernel_rfl, ?hy61⟩) (by assumption) ?rest61
                case hy61 => intro w hSw; (try dsimp only at hSw); go_simp; (try with_reducible rfl)
                try simp only [Act.put, List.getElem_toArray, List.getElem_cons_zero, List.getElem_cons_succ, List.setIfInBounds_toArray, List.set_cons_zero, List.set_cons_succ]
                refine wpAnyH_take (i := 10) (v := ?v62) rfl (by kernel_rfl) (by kernel_rfl) (by kernel_rfl) (fun _ _ _ h => h) (Or.inl ⟨by kernel_rfl, ?hy62⟩) (by assumption) ?rest62
                case hy62 => intro w hSw; (try dsimp only at hSw); go_simp; (try with_reducible rfl)
                try simp only [Act.put, List.getElem_toArray, List.getElem_cons_zero, List.getElem_cons_succ, List.setIfInBounds_toArray, List.set_cons_zero, List.set_cons_succ]
                refine wpAnyH_take (i := 11) (v := ?v63) rfl (by kernel_rfl) (by kernel_rfl) (by kernel_rfl) (fun _ _ _ h => h) (Or.inl ⟨by kernel_rfl, ?hy63⟩) (by assumption) ?rest63
                case hy63 => intro w hSw; (try dsimp only at hSw); go_simp; (try with_reducible rfl)
                try simp only [Act.put, List.getElem_toArray, List.getElem_cons_zero, List.getElem_cons_succ, List.setIfInBounds_toArray, List.set_cons_zero, List.set_cons_succ]
                refine wpAnyH_take (i := 12) (v := ?v64) rfl (by kernel_rfl) (by kernel_rfl) (by kernel_rfl) (fun _ _ _ h => h) (Or.inl ⟨by kernel_rfl, ?hy64⟩) (by assumption) ?rest64
                case hy64 => intro w hSw; (try dsimp only at hSw); go_simp; (try with_reducible rfl)
                try simp only [Act.put, List.getElem_toArray, List.getElem_cons_zero, List.getElem_cons_succ, List.setIfInBounds_toArray, List.set_cons_zero, List.set_cons_succ]
                refine wpAnyH_take (i := 13) (v := ?v65) rfl (by kernel_rfl) (by kernel_rfl) (by kernel_rfl) (fun _ _ _ h => h) (Or.inl ⟨by kernel_rfl, ?hy65⟩) (by assumption) ?rest65
                case hy65 => intro w hSw; (try dsimp only at hSw); go_simp; (try with_reducible rfl)
                try simp only [Act.put, List.getElem_toArray, List.getElem_cons_zero, List.getElem_cons_succ, List.setIfInBounds_toArray, List.set_cons_zero, List.set_cons_succ]
                refine wpAnyH_take (i := 14) (v := ?v66) rfl (by kernel_rfl) (by kernel_rfl) (by kernel_rfl) (fun _ _ _ h => h) (Or.inl ⟨by kernel_rfl, ?hy66⟩) (by assumption) ?rest66
                case hy66 => intro w hSw; (try dsimp only at hSw); go_simp; (try with_reducible rfl)
                try simp only [Act.put, List.getElem_toArray, List.getElem_cons_zero, List.getElem_cons_succ, List.setIfInBounds_toArray, List.set_cons_zero, List.set_cons_succ]
                refine wpAnyH_take (i := 15) (v := ?v67) rfl (by kernel_rfl) (by kernel_rfl) (by kernel_rfl) (fun _ _ _ h => h) (Or.inl ⟨by kernel_rfl, ?hy67⟩) (by assumption) ?rest67
                case hy67 => intro w hSw; (try dsimp only at hSw); go_simp; (try with_reducible rfl)
                try simp only [Act.put, List.getElem_toArray, List.getElem_cons_zero, List.getElem_cons_succ, List.setIfInBounds_toArray, List.set_cons_zero, List.set_cons_succ]
                refine wpAnyH_take (i := 16) (v := ?v68) rfl (by kernel_rfl) (by kernel_rfl) (by kernel_rfl) (fun _ _ _ h => h) (Or.inl ⟨by kernel_rfl, ?hy68⟩) (by assumption) ?rest68
                case hy68 => intro w hSw; (try dsimp only at hSw); go_simp; (try with_reducible rfl)
                try simp only [Act.put, List.getElem_toArray, List.getElem_cons_zero, List.getElem_cons_succ, List.setIfInBounds_toArray, List.set_cons_zero, List.set_cons_succ]
                refine wpAnyH_take (i := 17) (v := ?v69) rfl (by kernel_rfl) (by kernel_rfl) (by kernel_rfl) (fun _ _ _ h => h) (Or.inl ⟨by kernel_rfl, ?hy69⟩) (by assumption) ?rest69
                case hy69 => intro w hSw; (try dsimp only at hSw); go_simp; (try with_reducible rfl)
                try simp only [Act.put, List.getElem_toArray, List.getElem_cons_zero, List.getElem_cons_succ, List.setIfInBounds_toArray, List.set_cons_zero, List.set_cons_succ]
                refine wpAnyH_take (i := 18) (v := ?v70) rfl (by kernel_rfl) (by kernel_rfl) (by kernel_rfl) (fun _ _ _ h => h) (Or.inl ⟨by kernel_rfl, ?hy70⟩) (by assumption) ?rest70
                case hy70 => intro w hSw; (try dsimp only at hSw); go_simp; (try with_reducible rfl)
                try simp only [Act.put, List.getElem_toArray, List.getElem_cons_zero, List.getElem_cons_succ, List.setIfInBounds_toArray, List.set_cons_zero, List.set_cons_succ]
                refine wpAnyH_take (i := 19) (v := ?v71) rfl (by kernel_rfl) (by kernel_rfl) (by kernel_rfl) (fun _ _ _ h => h) (Or.inl ⟨by kernel_rfl, ?hy71⟩) (by assumption) ?rest71
                case hy71 => intro w hSw; (try dsimp only at hSw); go_simp; (try with_reducible rfl)
                try simp only [Act.put, List.getElem_toArray, List.getElem_cons_zero, List.getElem_cons_succ, List.setIfInBounds_toArray, List.set_cons_zero, List.set_cons_succ]
                refine wpAnyH_take (i := 20) (v := ?v72) rfl (by kernel_rfl) (by kernel_rfl) (by kernel_rfl) (fun _ _ _ h => h) (Or.inl ⟨by kernel_rfl, ?hy72⟩) (by assumption) ?rest72
                case hy72 => intro w hSw; (try dsimp only at hSw); go_simp; (try with_reducible rfl)
                try simp only [Act.put, List.getElem_toArray, List.getElem_cons_zero, List.getElem_cons_succ, List.setIfInBounds_toArray, List.set_cons_zero, List.set_cons_succ]
                refine wpAnyH_take (i := 21) (v := ?v73) rfl (by kernel_rfl) (by kernel_rfl) (by kernel_rfl) (fun _ _ _ h => h) (Or.inl ⟨by kernel_rfl, ?hy73⟩) (by assumption) ?rest73
                case hy73 => intro w hSw; (try dsimp only at hSw); go_simp; (try with_reducible rfl)
                try simp only [Act.put, List.getElem_toArray, List.getElem_cons_zero, List.getElem_cons_succ, List.setIfInBounds_toArray, List.set_cons_zero, List.set_cons_succ]
                refine wpAnyH_take (i := 22) (v := ?v74) rfl (by kernel_rfl) (by kernel_rfl) (by kernel_rfl) (fun _ _ _ h => h) (Or.inl ⟨by kernel_rfl, ?hy74⟩) (by assumption) ?rest74
                case hy74 => intro w hSw; (try dsimp only at hSw); go_simp; (try with_reducible rfl)
                try simp only [Act.put, List.getElem_toArray, List.getElem_cons_zero, List.getElem_cons_succ, List.setIfInBounds_toArray, List.set_cons_zero, List.set_cons_succ]
                refine wpAnyH_take (i := 23) (v := ?v75) rfl (by kernel_rfl) (by kernel_rfl) (by kernel_rfl) (fun _ _ _ h => h) (Or.inl ⟨by kernel_rfl, ?hy75⟩) (by assumption) ?rest75
                case hy75 => intro w hSw; (try dsimp only at hSw); go_simp; (try with_reducible rfl)
                try simp only [Act.put, List.getElem_toArray, List.getElem_cons_zero, List.getElem_cons_succ, List.setIfInBounds_toArray, List.set_cons_zero, List.set_cons_succ]
                refine wpAnyH_take (i := 24) (v := ?v76) rfl (by kernel_rfl) (by kernel_rfl) (by kernel_rfl) (fun _ _ _ h => h) (Or.inl ⟨by kernel_rfl, ?hy76⟩) (by assumption) ?rest76
                case hy76 => intro w hSw; (try dsimp only at hSw); go_simp; (try with_reducible rfl)
                try simp only [Act.put, List.getElem_toArray, List.getElem_cons_zero, List.getElem_cons_succ, List.setIfInBounds_toArray, List.set_cons_zero, List.set_cons_succ]
                refine wpAnyH_take (i := 25) (v := ?v77) rfl (by kernel_rfl) (by kernel_rfl) (by kernel_rfl) (fun _ _ _ h => h) (Or.inl ⟨by kernel_rfl, ?hy77⟩) (by assumption) ?rest77
                case hy77 => intro w hSw; (try dsimp only at hSw); go_simp; (try with_reducible rfl)
                try simp only [Act.put, List.getElem_toArray, List.getElem_cons_zero, List.getElem_cons_succ, List.setIfInBounds_toArray, List.set_cons_zero, List.set_cons_succ]
                refine wpAnyH_take (i := 26) (v := ?v78) rfl (by kernel_rfl) (by kernel_rfl) (by kernel_rfl) (fun _ _ _ h => h) (Or.inl ⟨by kernel_rfl, ?hy78⟩) (by assumption) ?rest78
                case hy78 => intro w hSw; (try dsimp only at hSw); go_simp; (try with_reducible rfl)
                try simp only [Act.put, List.getElem_toArray, List.getElem_cons_zero, List.getElem_cons_succ, List.setIfInBounds_toArray, List.set_cons_zero, List.set_cons_succ]
                refine wpAnyH_take (i := 27) (v := ?v79) rfl (by kernel_rfl) (by kernel_rfl) (by kernel_rfl) (fun _ _ _ h => h) (Or.inl ⟨by kernel_rfl, ?hy79⟩) (by assumption) ?rest79
                case hy79 => intro w hSw; (try dsimp only at hSw); go_simp; (try with_reducible rfl)
                try simp only [Act.put, List.getElem_toArray, List.getElem_cons_zero, List.getElem_cons_succ, List.setIfInBounds_toArray, List.set_cons_zero, List.set_cons_succ]
                refine wpAnyH_take (i := 28) (v := ?v80) rfl (by kernel_rfl) (by kernel_rfl) (by kernel_rfl) (fun _ _ _ h => h) (Or.inl ⟨by kernel_rfl, ?hy80⟩) (by assumption) ?rest80
                case hy80 => intro w hSw; (try dsimp only at hSw); go_simp; (try with_reducible rfl)
                try simp only [Act.put, List.getElem_toArray, List.getElem_cons_zero, List.getElem_cons_succ, List.setIfInBounds_toArray, List.set_cons_zero, List.set_cons_succ]
                refine wpAnyH_take (i := 29) (v := ?v81) rfl (by kernel_rfl) (by kernel_rfl) (by kernel_rfl) (fun _ _ _ h => h) (Or.inl ⟨by kernel_rfl, ?hy81⟩) (by assumption) ?rest81
                case hy81 => intro w hSw; (try dsimp only at hSw); go_simp; (try with_reducible rfl)
                try simp only [Act.put, List.getElem_toArray, List.getElem_cons_zero, List.getElem_cons_succ, List.setIfInBounds_toArray, List.set_cons_zero, List.set_cons_succ]
                refine wpAnyH_take (i := 30) (v := ?v82) rfl (by kernel_rfl) (by kernel_rfl) (by kernel_rfl) (fun _ _ _ h => h) (Or.inl ⟨by kernel_rfl, ?hy82⟩) (by assumption) ?rest82
                case hy82 => intro w hSw; (try dsimp only at hSw); go_simp; (try with_reducible rfl)
                try simp only [Act.put, List.getElem_toArray, List.getElem_cons_zero, List.getElem_cons_succ, List.setIfInBounds_toArray, List.set_cons_zero, List.set_cons_succ]
                refine wpAnyH_done (by kernel_rfl) ?_ _
                clear hHeld
                have HF2 := hideIt (HF.out.trans ((Fr.refl (fun _ => False) wr).drew) (fun _ _ e => e))
                clear HF
                go_wp2_with fail
                go_roundw
                case measure => simp [intOf]; omega
                case rel => exact ⟨k + 1, by go_num, by omega, hideIt (fun z hz => by
                  rw [HTK.out] at hz
                  rcases List.mem_append.1 hz with e | e
                  · exact HB.out z e
                  · rw [List.mem_singleton.1 e]; exact HND.out), HF2⟩
              · have h2 : (Op.bytesLess s.2.toList y.2.toList || s.2.toList == y.2.toList) = true := by rw [le_iff]; exact decide_eq_true ho
                have HYS := hideIt (HYY.out ⟨hy, fun e => e.2.elim hx ho⟩)
                clear hy hh hx ho HYY
                go_wp2_with fail
                refine wp_region_held_drew (S := fun w' => w'.cell? ⟨b, off + k * 2, none⟩ = some (.string y.1) ∧ w'.cell? ⟨b, off + k * 2 + 1, none⟩ = some (.string y.2) ∧ w'.cell? ⟨w.heap.size, 0, none⟩ = some (.string s.1) ∧ w'.cell? ⟨w.heap.size, 1, none⟩ = some (.string s.2)) (by kernel_rfl) ?_ (fun hHeld => ?_)
                · exact HCS.out _ ((Fr.refl (fun _ => False) wr).drew)
                refine wpAnyH_take (i := 0) (v := ?v83) rfl (by kernel_rfl) (by kernel_rfl) (by kernel_rfl) (fun _ _ _ h => h) (Or.inl ⟨by kernel_rfl, ?hy83⟩) (by assumption) ?rest83
                case hy83 => intro w hSw; (try dsimp only at hSw); go_simp; (try with_reducible rfl)
                try simp only [Act.put, List.getElem_toArray, List.getElem_cons_zero, List.getElem_cons_succ, List.setIfInBounds_toArray, List.set_cons_zero, List.set_cons_succ]
                refine wpAnyH_take (i := 1) (v := ?v84) rfl (by kernel_rfl) (by kernel_rfl) (by kernel_rfl) (fun _ _ _ h => h) (Or.inl ⟨by kernel_rfl, ?hy84⟩) (by assumption) ?rest84
                case hy84 => intro w hSw; (try dsimp only at hSw); go_simp; (try with_reducible rfl)
                try simp only [Act.put, List.getElem_toArray, List.getElem_cons_zero, List.getElem_cons_succ, List.setIfInBounds_toArray, List.set_cons_zero, List.set_cons_succ]
                refine wpAnyH_take (i := 2) (v := ?v85) rfl (by kernel_rfl) (by kernel_rfl) (by kernel_rfl) (fun _ _ _ h => h) (Or.inl ⟨by kernel_rfl, ?hy85⟩) (by assumption) ?rest85
                case hy85 => intro w hSw; (try dsimp only at hSw); go_simp; (try with_reducible rfl)
                try simp only [Act.put, List.getElem_toArray, List.getElem_cons_zero, List.getElem_cons_succ, List.setIfInBounds_toArray, List.set_cons_zero, List.set_cons_succ]
                refine wpAnyH_take (i := 3) (v := ?v86) rfl (by kernel_rfl) (by kernel_rfl) (by kernel_rfl) (fun _ _ _ h => h) (Or.inl ⟨by kernel_rfl, ?hy86⟩) (by assumption) ?rest86
                case hy86 => intro w hSw; (try dsimp only at hSw); go_simp; (try with_reducible rfl)
                try simp only [Act.put, List.getElem_toArray, List.getElem_cons_zero, List.getElem_cons_succ, List.setIfInBounds_toArray, List.set_cons_zero, List.set_cons_succ]
                refine wpAnyH_take (i := 4) (v := ?v87) rfl (by kernel_rfl) (by kernel_rfl) (by kernel_rfl) (fun _ _ _ h => h) (Or.inl ⟨by kernel_rfl, ?hy87⟩) (by assumption) ?rest87
                case hy87 => intro w hSw; (try dsimp only at hSw); go_simp; (try with_reducible rfl)
                try simp only [Act.put, List.getElem_toArray, List.getElem_cons_zero, List.getElem_cons_succ, List.setIfInBounds_toArray, List.set_cons_zero, List.set_cons_succ]
                refine wpAnyH_take (i := 5) (v := ?v88) rfl (by kernel_rfl) (by kernel_rfl) (by kernel_rfl) (fun _ _ _ h => h) (Or.inl ⟨by kernel_rfl, ?hy88⟩) (by assumption) ?rest88
                case hy88 => intro w hSw; (try dsimp only at hSw); go_simp; (try with_reducible rfl)
                try simp only [Act.put, List.getElem_toArray, List.getElem_cons_zero, List.getElem_cons_succ, List.setIfInBounds_toArray, List.set_cons_zero, List.set_cons_succ]
                refine wpAnyH_take (i := 6) (v := ?v89) rfl (by kernel_rfl) (by kernel_rfl) (by kernel_rfl) (fun _ _ _ h => h) (Or.inl ⟨by kernel_rfl, ?hy89⟩) (by assumption) ?rest89
                case hy89 => intro w hSw; (try dsimp only at hSw); go_simp; (try with_reducible rfl)
                try simp only [Act.put, List.getElem_toArray, List.getElem_cons_zero, List.getElem_cons_succ, List.setIfInBounds_toArray, List.set_cons_zero, List.set_cons_succ]
                refine wpAnyH_take (i := 7) (v := ?v90) rfl (by kernel_rfl) (by kernel_rfl) (by kernel_rfl) (fun _ _ _ h => h) (Or.inl ⟨by kernel_rfl, ?hy90⟩) (by assumption) ?rest90
                case hy90 => intro w hSw; (try dsimp only at hSw); go_simp; (try with_reducible rfl)
                try simp only [Act.put, List.getElem_toArray, List.getElem_cons_zero, List.getElem_cons_succ, List.setIfInBounds_toArray, List.set_cons_zero, List.set_cons_succ]
                refine wpAnyH_take (i := 8) (v := ?v91) rfl (by kernel_rfl) (by kernel_rfl) (by kernel_rfl) (fun _ _ _ h => h) (Or.inl ⟨by kernel_rfl, ?hy91⟩) (by assumption) ?rest91
                case hy91 => intro w hSw; (try dsimp only at hSw); go_simp; (try with_reducible rfl)
                try simp only [Act.put, List.getElem_toArray, List.getElem_cons_zero, List.getElem_cons_succ, List.setIfInBounds_toArray, List.set_cons_zero, List.set_cons_succ]
                refine wpAnyH_take (i := 9) (v := ?v92) rfl (by kernel_rfl) (by kernel_rfl) (by kernel_rfl) (fun _ _ _ h => h) (Or.inl ⟨by kernel_rfl, ?hy92⟩) (by assumption) ?rest92
                case hy92 => intro w hSw; (try dsimp only at hSw); go_simp; (try with_reducible rfl)
                try simp only [Act.put, List.getElem_toArray, List.getElem_cons_zero, List.getElem_cons_succ, List.setIfInBounds_toArray, List.set_cons_zero, List.set_cons_succ]
                refine wpAnyH_take (i := 10) (v := ?v93) rfl (by kernel_rfl) (by kernel_rfl) (by kernel_rfl) (fun _ _ _ h => h) (Or.inl ⟨by kernel_rfl, ?hy93⟩) (by assumption) ?rest93
                case hy93 => intro w hSw; (try dsimp only at hSw); go_simp; (try with_reducible rfl)
                try simp only [Act.put, List.getElem_toArray, List.getElem_cons_zero, List.getElem_cons_succ, List.setIfInBounds_toArray, List.set_cons_zero, List.set_cons_succ]
                refine wpAnyH_take (i := 11) (v := ?v94) rfl (by kernel_rfl) (by kernel_rfl) (by kernel_rfl) (fun _ _ _ h => h) (Or.inl ⟨by kernel_rfl, ?hy94⟩) (by assumption) ?rest94
                case hy94 => intro w hSw; (try dsimp only at hSw); go_simp; (try with_reducible rfl)
                try simp only [Act.put, List.getElem_toArray, List.getElem_cons_zero, List.getElem_cons_succ, List.setIfInBounds_toArray, List.set_cons_zero, List.set_cons_succ]
                refine wpAnyH_take (i := 12) (v := ?v95) rfl (by kernel_rfl) (by kernel_rfl) (by kernel_rfl) (fun _ _ _ h => h) (Or.inl ⟨by kernel_rfl, ?hy95⟩) (by assumption) ?rest95
                case hy95 => intro w hSw; (try dsimp only at hSw); go_simp; (try with_reducible rfl)
                try simp only [Act.put, List.getElem_toArray, List.getElem_cons_zero, List.getElem_cons_succ, List.setIfInBounds_toArray, List.set_cons_zero, List.set_cons_succ]
                refine wpAnyH_take (i := 13) (v := ?v96) rfl (by kernel_rfl) (by kernel_rfl) (by kernel_rfl) (fun _ _ _ h => h) (Or.inl ⟨by kernel_rfl, ?hy96⟩) (by assumption) ?rest96
                case hy96 => intro w hSw; (try dsimp only at hSw); go_simp; (try with_reducible rfl)
                try simp only [Act.put, List.getElem_toArray, List.getElem_cons_zero, List.getElem_cons_succ, List.setIfInBounds_toArray, List.set_cons_zero, List.set_cons_succ]
                refine wpAnyH_take (i := 14) (v := ?v97) rfl (by kernel_rfl) (by kernel_rfl) (by kernel_rfl) (fun _ _ _ h => h) (Or.inl ⟨by kernel_rfl, ?hy97⟩) (by assumption) ?rest97
                case hy97 => intro w hSw; (try dsimp only at hSw); go_simp; (try with_reducible rfl)
                try simp only [Act.put, List.getElem_toArray, List.getElem_cons_zero, List.getElem_cons_succ, List.setIfInBounds_toArray, List.set_cons_zero, List.set_cons_succ]
                refine wpAnyH_take (i := 15) (v := ?v98) rfl (by kernel_rfl) (by kernel_rfl) (by kernel_rfl) (fun _ _ _ h => h) (Or.inl ⟨by kernel_rfl, ?hy98⟩) (by assumption) ?rest98
                case hy98 => intro w hSw; (try dsimp only at hSw); go_simp; (try with_reducible rfl)
                try simp only [Act.put, List.getElem_toArray, List.getElem_cons_zero, List.getElem_cons_succ, List.setIfInBounds_toArray, List.set_cons_zero, List.set_cons_succ]
                refine wpAnyH_take (i := 16) (v := ?v99) rfl (by kernel_rfl) (by kernel_rfl) (by kernel_rfl) (fun _ _ _ h => h) (Or.inl ⟨by kernel_rfl, ?hy99⟩) (by assumption) ?rest99
                case hy99 => intro w hSw; (try dsimp only at hSw); go_simp; (try with_reducible rfl)
                try simp only [Act.put, List.getElem_toArray, List.getElem_cons_zero, List.getElem_cons_succ, List.setIfInBounds_toArray, List.set_cons_zero, List.set_cons_succ]
                refine wpAnyH_take (i := 17) (v := ?v100) rfl (by kernel_rfl) (by kernel_rfl) (by kernel_rfl) (fun _ _ _ h => h) (Or.inl ⟨by kernel_rfl, ?hy100⟩) (by assumption) ?rest100
                case hy100 => intro w hSw; (try dsimp only at hSw); go_simp; (try with_reducible rfl)
                try simp only [Act.put, List.getElem_toArray, List.getElem_cons_zero, List.getElem_cons_succ, List.setIfInBounds_toArray, List.set_cons_zero, List.set_cons_succ]
                refine wpAnyH_take (i := 18) (v := ?v101) rfl (by kernel_rfl) (by kernel_rfl) (by kernel_rfl) (fun _ _ _ h => h) (Or.inl ⟨by kernel_rfl, ?hy101⟩) (by assumption) ?rest101
                case hy101 => intro w hSw; (try dsimp only at hSw); go_simp; (try with_reducible rfl)
                try simp only [Act.put, List.getElem_toArray, List.getElem_cons_zero, List.getElem_cons_succ, List.setIfInBounds_toArray, List.set_cons_zero, List.set_cons_succ]
                refine wpAnyH_take (i := 19) (v := ?v102) rfl (by kernel_rfl) (by kernel_rfl) (by kernel_rfl) (fun _ _ _ h => h) (Or.inl ⟨by kernel_rfl, ?hy102⟩) (by assumption) ?rest102
                case hy102 => intro w hSw; (try dsimp only at hSw); go_simp; (try with_reducible rfl)
                try simp only [Act.put, List.getElem_toArray, List.getElem_cons_zero, List.getElem_cons_succ, List.setIfInBounds_toArray, List.set_cons_zero, List.set_cons_succ]
                refine wpAnyH_take (i := 20) (v := ?v103) rfl (by kernel_rfl) (by kernel_rfl) (by kernel_rfl) (fun _ _ _ h => h) (Or.inl ⟨by kernel_rfl, ?hy103⟩) (by assumption) ?rest103
                case hy103 => intro w hSw; (try dsimp only at hSw); go_simp; (try with_reducible rfl)
                try simp only [Act.put, List.getElem_toArray, List.getElem_cons_zero, List.getElem_cons_succ, List.setIfInBounds_toArray, List.set_cons_zero, List.set_cons_succ]
                refine wpAnyH_take (i := 21) (v := ?v104) rfl (by kernel_rfl) (by kernel_rfl) (by kernel_rfl) (fun _ _ _ h => h) (Or.inl ⟨by kernel_rfl, ?hy104⟩) (by assumption) ?rest104
                case hy104 => intro w hSw; (try dsimp only at hSw); go_simp; (try with_reducible rfl)
                try simp only [Act.put, List.getElem_toArray, List.getElem_cons_zero, List.getElem_cons_succ, List.setIfInBounds_toArray, List.set_cons_zero, List.set_cons_succ]
                refine wpAnyH_take (i := 22) (v := ?v105) rfl (by kernel_rfl) (by kernel_rfl) (by kernel_rfl) (fun _ _ _ h => h) (Or.inl ⟨by kernel_rfl, ?hy105⟩) (by assumption) ?rest105
                case hy105 => intro w hSw; (try dsimp only at hSw); go_simp; (try with_reducible rfl)
                try simp only [Act.put, List.getElem_toArray, List.getElem_cons_zero, List.getElem_cons_succ, List.setIfInBounds_toArray, List.set_cons_zero, List.set_cons_succ]
                refine wpAnyH_take (i := 23) (v := ?v106) rfl (by kernel_rfl) (by kernel_rfl) (by kernel_rfl) (fun _ _ _ h => h) (Or.inl ⟨by kernel_rfl, ?hy106⟩) (by assumption) ?rest106
                case hy106 => intro w hSw; (try dsimp only at hSw); go_simp; (try with_reducible rfl)
                try simp only [Act.put, List.getElem_toArray, List.getElem_cons_zero, List.getElem_cons_succ, List.setIfInBounds_toArray, List.set_cons_zero, List.set_cons_succ]
                refine wpAnyH_take (i := 24) (v := ?v107) rfl (by kernel_rfl) (by kernel_rfl) (by kernel_rfl) (fun _ _ _ h => h) (Or.inl ⟨by kernel_rfl, ?hy107⟩) (by assumption) ?rest107
                case hy107 => intro w hSw; (try dsimp only at hSw); go_simp; (try with_reducible rfl)
                try simp only [Act.put, List.getElem_toArray, List.getElem_cons_zero, List.getElem_cons_succ, List.setIfInBounds_toArray, List.set_cons_zero, List.set_cons_succ]
                refine wpAnyH_take (i := 25) (v := ?v108) rfl (by kernel_rfl) (by kernel_rfl) (by kernel_rfl) (fun _ _ _ h => h) (Or.inl ⟨by kernel_rfl, ?hy108⟩) (by assumption) ?rest108
                case hy108 => intro w hSw; (try dsimp only at hSw); go_simp; (try with_reducible rfl)
                try simp only [Act.put, List.getElem_toArray, List.getElem_cons_zero, List.getElem_cons_succ, List.setIfInBounds_toArray, List.set_cons_zero, List.set_cons_succ]
                refine wpAnyH_take (i := 26) (v := ?v109) rfl (by kernel_rfl) (by kernel_rfl) (by kernel_rfl) (fun _ _ _ h => h) (Or.inl ⟨by kernel_rfl, ?hy109⟩) (by assumption) ?rest109
                case hy109 => intro w hSw; (try dsimp only at hSw); go_simp; (try with_reducible rfl)
                try simp only [Act.put, List.getElem_toArray, List.getElem_cons_zero, List.getElem_cons_succ, List.setIfInBounds_toArray, List.set_cons_zero, List.set_cons_succ]
                refine wpAnyH_take (i := 27) (v := ?v110) rfl (by kernel_rfl) (by kernel_rfl) (by kernel_rfl) (fun _ _ _ h => h) (Or.inl ⟨by kernel_rfl, ?hy110⟩) (by assumption) ?rest110
                case hy110 => intro w hSw; (try dsimp only at hSw); go_simp; (try with_reducible rfl)
                try simp only [Act.put, List.getElem_toArray, List.getElem_cons_zero, List.getElem_cons_succ, List.setIfInBounds_toArray, List.set_cons_zero, List.set_cons_succ]
                refine wpAnyH_take (i := 28) (v := ?v111) rfl (by kernel_rfl) (by kernel_rfl) (by kernel_rfl) (fun _ _ _ h => h) (Or.inl ⟨by kernel_rfl, ?hy111⟩) (by assumption) ?rest111
                case hy111 => intro w hSw; (try dsimp only at hSw); go_simp; (try with_reducible rfl)
                try simp only [Act.put, List.getElem_toArray, List.getElem_cons_zero, List.getElem_cons_succ, List.setIfInBounds_toArray, List.set_cons_zero, List.set_cons_succ]
                refine wpAnyH_take (i := 29) (v := ?v112) rfl (by kernel_rfl) (by kernel_rfl) (by kernel_rfl) (fun _ _ _ h => h) (Or.inl ⟨by kernel_rfl, ?hy112⟩) (by assumption) ?rest112
                case hy112 => intro w hSw; (try dsimp only at hSw); go_simp; (try with_reducible rfl)
                try simp only [Act.put, List.getElem_toArray, List.getElem_cons_zero, List.getElem_cons_succ, List.setIfInBounds_toArray, List.set_cons_zero, List.set_cons_succ]
                refine wpAnyH_take (i := 30) (v := ?v113) rfl (by kernel_rfl) (by kernel_rfl) (by kernel_rfl) (fun _ _ _ h => h) (Or.inl ⟨by kernel_rfl, ?hy113⟩) (by assumption) ?rest113
                case hy113 => intro w hSw; (try dsimp only at hSw); go_simp; (try with_reducible rfl)
                try simp only [Act.put, List.getElem_toArray, List.getElem_cons_zero, List.getElem_cons_succ, List.setIfInBounds_toArray, List.set_cons_zero, List.set_cons_succ]
                refine wpAnyH_done (by kernel_rfl) ?_ _
                clear hHeld
                go_wp2_with fail
                go_ret
                exact ⟨by rw [HYS.out]; rfl, HFw.out.trans ((Fr.refl (fun _ => False) wr).drew) (fun _ _ e => e)⟩
      · have hjn : ¬ (k : Int) < (J.length : Int) := by omega
        have HNO := hideIt (show covB J s = false from Bool.eq_false_iff.2 (fun e => by
          obtain ⟨t, ht, hd⟩ := HEX.out.1 e
          exact HB.out t (by rw [List.take_of_length_le (by omega)]; exact ht) hd))
        go_wp2_with fail
        go_ret
        exact ⟨by rw [HNO.out]; rfl, HFw.out⟩
  · rw [if_neg hs]
    have hE := hideIt (fun w => by have := zempty_any s w; rw [show decide (¬ NonE s) = true by simp [hs]] at this; exact this)
    clear hs h
    go_enter Try.func13, Try.ntmps13
    go_wp2_with fail
    refine Calls.mono (hE.out _) ?_
    rintro e w1 ⟨rfl, hF1⟩
    have HF1 := hideIt (HF0.out.trans hF1 (fun _ _ e => e))
    clear hF1
    go_wp2_with fail
    go_ret
    exact ⟨rfl, HF1.out⟩

end Go.Proofs.Ytmaepknceihepaa

/- Spans: joined, whether a key is in one of them, whether they cover another one, beside the document's answers: the law's walk. -/
namespace Go.Proofs.Ytmaepknceihepaa
open Go.RowKit Go.IntWalk
set_option linter.unusedSimpArgs false
set_option linter.unusedVariables false
set_option maxRecDepth 100000

set_option maxRecDepth 100000 in
set_option maxHeartbeats 16000000 in
theorem sjoins_any (ao : Option Addr) (cap : Nat) (l : List Sp) (s : Sp) (k : ByteArray) (w : World) (h : l = [] ∨ SpsAt w ao l) (hl : l.length ≤ 9223372036854775807) :
    Calls Try.prog 3 #[.slice ao l.length cap, .agg #[.string s.1, .string s.2], .string k] w fun e w' => e = .returned (.bool true) ∧ Fr (fun _ => False) w w' := by
  have hF0 : Fr (fun _ => False) w (w.alloc (.cells #[.string s.1, .string s.2] 24)) := (Fr.refl _ _).alloc _
  have HF0 := hideIt hF0
  have HH := hideIt (fun W (hF : Fr (fun _ => False) w W) => ats_fr0 h hF)
  have HB0 := hideIt (fun W (hF : Fr (fun _ => False) (w.alloc (.cells #[.string s.1, .string s.2] 24)) W) => show W.cell? ⟨w.heap.size, 0, none⟩ = some (.string s.1) ∧ W.cell? ⟨w.heap.size, 1, none⟩ = some (.string s.2) from ⟨hF.cell0 (cellNew _ _ _ _ 0 rfl), hF.cell0 (cellNew _ _ _ _ 1 rfl)⟩)
  have HLG := hideIt (long_any ao cap l 60 (w.alloc (.cells #[.string s.1, .string s.2] 24)) (HH.out _ hF0) hl (by decide))
  unfold LongPost at HLG
  clear h hl hF0
  go_enter Try.func3, Try.ntmps3
  go_wp2_with fail
  refine Calls.mono HLG.out ?_
  rintro e w1 ⟨v1, rfl, rfl, hlong⟩
  obtain ⟨w1, hw1⟩ : ∃ w1, w1 = w.alloc (.cells #[.string s.1, .string s.2] 24) := ⟨_, rfl⟩
  have HLO := hideIt hlong
  clear hlong HLG
  cases v1 with
  | true =>
    go_wp2_with fail
    go_ret
    exact ⟨rfl, HF0.out⟩
  | false =>
    have HL2 := hideIt (long_any (some ⟨(w.alloc (.cells #[.string s.1, .string s.2] 24)).heap.size, 0, none⟩) 1 [s] 1 ((w.alloc (.cells #[.string s.1, .string s.2] 24)).alloc (.cells #[.string s.1, .string s.2] 24)) (Or.inr (sps_one s _)) (by simp) (by decide))
    unfold LongPost at HL2
    rw [show (w.alloc (.cells #[.string s.1, .string s.2] 24)).heap.size = w.heap.size + 1 by simp] at HL2
    obtain ⟨b0, b1⟩ := HB0.out _ (Fr.refl _ _)
    go_wp2_with fail
    refine Calls.mono HL2.out ?_
    rintro e w2 ⟨v2, rfl, rfl, _⟩
    have HFb := hideIt (show Fr (fun _ => False) (w.alloc (.cells #[.string s.1, .string s.2] 24)) ((w.alloc (.cells #[.string s.1, .string s.2] 24)).alloc (.cells #[.string s.1, .string s.2] 24)) from (Fr.refl _ _).alloc _)
    have HF1 := hideIt (HF0.out.trans HFb.out (fun _ _ e => e))
    have hl60 : l.length ≤ 60 := by have := HLO.out; simp at this; exact this.1
    clear HLO HL2 HF0 b0 b1
    generalize (w.alloc (.cells #[.string s.1, .string s.2] 24)).alloc (.cells #[.string s.1, .string s.2] 24) = w2 at *
    cases v2 with
    | true =>
      go_wp2_with fail
      go_ret
      exact ⟨rfl, HF1.out⟩
    | false =>
      by_cases hk : 100 < k.size
      · have hd : decide ((100 : Int) < (k.size : Int)) = true := by simp; omega
        go_wp2_with fail
        go_ret
        exact ⟨rfl, HF1.out⟩
      · have hd : decide ((100 : Int) < (k.size : Int)) = false := by simp; omega
        have hjl := joinC_len l
        have HCP := hideIt (copy_any ao cap l w2 (HH.out _ HF1.out) (by omega))
        have HZJ := hideIt (fun W (hF : Fr (fun _ => False) w W) => zjoin_of ao cap l W (zsorted_any ao cap l W (HH.out W hF) (by omega)) (by omega))
        have HHA := hideIt (fun W (hF : Fr (fun _ => False) w W) => has_any ao cap l k W (HH.out W hF) (by omega))
        have HZH := hideIt (fun W (hF : Fr (fun _ => False) w W) => zhas_any ao cap l k W (HH.out W hF) (by omega))
        have HCO := hideIt (fun W (hF : Fr (fun _ => False) w W) => covers_any ao cap l s W (HH.out W hF) (by omega) (by omega))
        have HZC := hideIt (fun W (hF : Fr (fun _ => False) w W) => zcovers_any ao cap l s W (HH.out W hF) (by omega) (by omega))
        have HJN := hideIt (fun a c W (h : SpRow W a c l) => join_any a c l W (Or.inr h.at) (by omega))
        have HSJ := hideIt (fun a b c d W (ha : SpRow W a c (joinC l)) (hb : SpRow W b d (joinC l)) => by
          have := sames_any a b c d (joinC l) (joinC l) W (Or.inr ha.at) (Or.inr hb.at) (by omega) (by omega)
          rw [decide_eq_true rfl] at this
          exact this)
        have HSL := hideIt (fun a c W (ha : SpRow W a c l) (hF : Fr (fun _ => False) w W) => by
          have := sames_any a ao c cap l l W (Or.inr ha.at) (HH.out W hF) (by omega) (by omega)
          rw [decide_eq_true rfl] at this
          exact this)
        have HOV := hideIt (fun a c W (h : SpRow W a c (joinC l)) => over_any a c (joinC l) W h (by omega))
        have HAW := hideIt awake_any
        generalize joinC l = J at *
        generalize (if NonE s then covB J s else true) = cb at *
        generalize hasB l k.toList = hb at *
        go_wp2_with fail
        refine Calls.mono HCP.out ?_
        rintro e w3 ⟨a3, c3, rfl, hr3, hF3, hn3⟩
        have HR3 := hideIt hr3
        have HL3 := hideIt (fun q (h : blk a3 q) => show q < w3.heap.size from hr3.lt h)
        have HFb3 := hideIt (HFb.out.trans hF3 (fun _ _ e => e))
        have HFb3s := hideIt (show w.heap.size < w3.heap.size by have := HFb3.out.size; simp at this; omega)
        have HF3 := hideIt (HF1.out.trans hF3 (fun _ _ e => e))
        clear hr3 hF3 hn3 HCP HFb HF1
        go_wp2_with fail
        refine Calls.mono (HJN.out a3 c3 w3 HR3.out) ?_
        rintro e w4 ⟨a4, c4, rfl, hr4, hF4, hn4⟩
        have HR4 := hideIt hr4
        have HN4 := hideIt (fun q (h : blk a4 q) => show w3.heap.size ≤ q from hn4 q h)
        have HR3b := hideIt (HR3.out.fr hF4 (fun _ _ e => e))
        have HFb4 := hideIt (HFb3.out.trans hF4 (fun _ _ e => e))
        have HF4 := hideIt (HF3.out.trans hF4 (fun _ _ e => e))
        clear hr4 hF4 hn4 HR3 HFb3
        go_wp2_with fail
        refine Calls.mono (HZJ.out w4 HF4.out) ?_
        rintro e w5 ⟨a5, c5, rfl, hr5, hF5, _⟩
        have HR5 := hideIt hr5
        have HR4b := hideIt (HR4.out.fr hF5 (fun _ _ e => e))
        have HR3c := hideIt (HR3b.out.fr hF5 (fun _ _ e => e))
        have HFb5 := hideIt (HFb4.out.trans hF5 (fun _ _ e => e))
        have HF5 := hideIt (HF4.out.trans hF5 (fun _ _ e => e))
        clear hr5 hF5 HR4 HR3b HFb4 HF4
        go_wp2_with fail
        refine Calls.mono (HSJ.out a4 a5 c4 c5 w5 HR4b.out HR5.out) ?_
        rintro e w6 ⟨rfl, hF6⟩
        have HR4c := hideIt (HR4b.out.fr hF6 (fun _ _ e => e))
        have HR3d := hideIt (HR3c.out.fr hF6 (fun _ _ e => e))
        have HFb6 := hideIt (HFb5.out.trans hF6 (fun _ _ e => e))
        have HF6 := hideIt (HF5.out.trans hF6 (fun _ _ e => e))
        clear hF6 HR4b HR3c HFb5 HF5 HR5
        go_wp2_with fail
        refine Calls.mono (HSL.out a3 c3 w6 HR3d.out HF6.out) ?_
        rintro e w7 ⟨rfl, hF7⟩
        have HR4d := hideIt (HR4c.out.fr hF7 (fun _ _ e => e))
        have HR3e := hideIt (HR3d.out.fr hF7 (fun _ _ e => e))
        have HFb7 := hideIt (HFb6.out.trans hF7 (fun _ _ e => e))
        have HF7 := hideIt (HF6.out.trans hF7 (fun _ _ e => e))
        clear hF7 HR4c HR3d HFb6 HF6
        go_wp2_with fail
        refine Calls.mono (HOV.out a4 c4 w7 HR4d.out) ?_
        rintro e w8 ⟨rfl, hF8⟩
        have h3w := HFb3s.out
        have HR8 := hideIt (HR3e.out.fr hF8 (fun q h3 h4 => by have := HL3.out q h3; have := HN4.out q h4; omega))
        have HFb8 := hideIt (HFb7.out.trans hF8 (fun i hi e => by have := HN4.out i e; simp at hi; omega))
        have HF8 := hideIt (HF7.out.trans hF8 (fun i hi e => by have := HN4.out i e; omega))
        clear hF8 HR4d HR3e HFb7 HF7 HL3 HN4
        go_wp2_with fail
        have HBX := hideIt (fun W (hF : Fr (fun _ => False) w8 W) => HB0.out W (HFb8.out.trans hF (fun _ _ e => e)))
        refine wp_region_held_drew (S := (fun w0 => w0.cell? ⟨w.heap.size, 0, none⟩ = some (.string s.1) ∧ w0.cell? ⟨w.heap.size, 1, none⟩ = some (.string s.2))) (by kernel_rfl) ?_ (fun hHeld => ?_)
        · exact HBX.out _ ((Fr.refl (fun _ => False) w8).drew)
        refine wpAnyH_take (i := 0) (v := ?v1) rfl (by kernel_rfl) (by kernel_rfl) (by kernel_rfl) (fun _ _ _ h => h) (Or.inl ⟨by kernel_rfl, ?hy1⟩) (by assumption) ?rest1
        case hy1 => intro w hSw; (try dsimp only at hSw); go_simp; (try with_reducible rfl)
        try simp only [Act.put, List.getElem_toArray, List.getElem_cons_zero, List.getElem_cons_succ, List.setIfInBounds_toArray, List.set_cons_zero, List.set_cons_succ]
        refine wpAnyH_take (i := 1) (v := ?v2) rfl (by kernel_rfl) (by kernel_rfl) (by kernel_rfl) (fun _ _ _ h => h) (Or.inl ⟨by kernel_rfl, ?hy2⟩) (by assumption) ?rest2
        case hy2 => intro w hSw; (try dsimp only at hSw); go_simp; (try with_reducible rfl)
        try simp only [Act.put, List.getElem_toArray, List.getElem_cons_zero, List.getElem_cons_succ, List.setIfInBounds_toArray, List.set_cons_zero, List.set_cons_succ]
        refine wpAnyH_take (i := 2) (v := ?v3) rfl (by kernel_rfl) (by kernel_rfl) (by kernel_rfl) (fun _ _ _ h => h) (Or.inl ⟨by kernel_rfl, ?hy3⟩) (by assumption) ?rest3
        case hy3 => intro w hSw; (try dsimp only at hSw); go_simp; (try with_reducible rfl)
        try simp only [Act.put, List.getElem_toArray, List.getElem_cons_zero, List.getElem_cons_succ, List.setIfInBounds_toArray, List.set_cons_zero, List.set_cons_succ]
        refine wpAnyH_take (i := 3) (v := ?v4) rfl (by kernel_rfl) (by kernel_rfl) (by kernel_rfl) (fun _ _ _ h => h) (Or.inl ⟨by kernel_rfl, ?hy4⟩) (by assumption) ?rest4
        case hy4 => intro w hSw; (try dsimp only at hSw); go_simp; (try with_reducible rfl)
        try simp only [Act.put, List.getElem_toArray, List.getElem_cons_zero, List.getElem_cons_succ, List.setIfInBounds_toArray, List.set_cons_zero, List.set_cons_succ]
        refine wpAnyH_ready (rs := [4]) (by kernel_rfl) (by simp) ?_
        refine AllReadyH.cons rfl (fun K hK => ?_) AllReadyH.nil
        go_simp
        refine Calls.mono (HSL.out a3 c3 _ (HR8.out.fr ((Fr.refl (fun _ => False) w8).drew) (fun _ _ e => e)) (HF8.out.trans ((Fr.refl (fun _ => False) w8).drew) (fun _ _ e => e))) ?_
        rintro e w9 ⟨rfl, hF⟩
        have HGw9 := hideIt (show Fr (fun _ => False) w8 w9 from (Fr.refl (fun _ => False) w8).drew.trans hF (fun _ _ e => e))
        clear hF
        refine hK.out _ _ ?_ (fun hHeld => ?_)
        · exact HBX.out _ HGw9.out
        clear hK K
        try simp only [Act.put, List.getElem_toArray, List.getElem_cons_zero, List.getElem_cons_succ, List.setIfInBounds_toArray, List.set_cons_zero, List.set_cons_succ]
        refine wpAnyH_take (i := 5) (v := ?v5) rfl (by kernel_rfl) (by kernel_rfl) (by kernel_rfl) (fun _ _ _ h => h) (Or.inl ⟨by kernel_rfl, ?hy5⟩) (by assumption) ?rest5
        case hy5 => intro w hSw; (try dsimp only at hSw); go_simp; (try with_reducible rfl)
        try simp only [Act.put, List.getElem_toArray, List.getElem_cons_zero, List.getElem_cons_succ, List.setIfInBounds_toArray, List.set_cons_zero, List.set_cons_succ]
        refine wpAnyH_take (i := 6) (v := ?v6) rfl (by kernel_rfl) (by kernel_rfl) (by kernel_rfl) (fun _ _ _ h => h) (Or.inl ⟨by kernel_rfl, ?hy6⟩) (by assumption) ?rest6
        case hy6 => intro w hSw; (try dsimp only at hSw); go_simp; (try with_reducible rfl)
        try simp only [Act.put, List.getElem_toArray, List.getElem_cons_zero, List.getElem_cons_succ, List.setIfInBounds_toArray, List.set_cons_zero, List.set_cons_succ]
        refine wpAnyH_take (i := 7) (v := ?v7) rfl (by kernel_rfl) (by kernel_rfl) (by kernel_rfl) (fun _ _ _ h => h) (Or.inl ⟨by kernel_rfl, ?hy7⟩) (by assumption) ?rest7
        case hy7 => intro w hSw; (try dsimp only at hSw); go_simp; (try with_reducible rfl)
        try simp only [Act.put, List.getElem_toArray, List.getElem_cons_zero, List.getElem_cons_succ, List.setIfInBounds_toArray, List.set_cons_zero, List.set_cons_succ]
        refine wpAnyH_take (i := 8) (v := ?v8) rfl (by kernel_rfl) (by kernel_rfl) (by kernel_rfl) (fun _ _ _ h => h) (Or.inl ⟨by kernel_rfl, ?hy8⟩) (by assumption) ?rest8
        case hy8 => intro w hSw; (try dsimp only at hSw); go_simp; (try with_reducible rfl)
        try simp only [Act.put, List.getElem_toArray, List.getElem_cons_zero, List.getElem_cons_succ, List.setIfInBounds_toArray, List.set_cons_zero, List.set_cons_succ]
        refine wpAnyH_take (i := 10) (v := ?v9) rfl (by kernel_rfl) (by kernel_rfl) (by kernel_rfl) (fun _ _ _ h => h) (Or.inl ⟨by kernel_rfl, ?hy9⟩) (by assumption) ?rest9
        case hy9 => intro w hSw; (try dsimp only at hSw); go_simp; (try with_reducible rfl)
        try simp only [Act.put, List.getElem_toArray, List.getElem_cons_zero, List.getElem_cons_succ, List.setIfInBounds_toArray, List.set_cons_zero, List.set_cons_succ]
        refine wpAnyH_take (i := 11) (v := ?v10) rfl (by kernel_rfl) (by kernel_rfl) (by kernel_rfl) (fun _ _ _ h => h) (Or.inl ⟨by kernel_rfl, ?hy10⟩) (by assumption) ?rest10
        case hy10 => intro w hSw; (try dsimp only at hSw); go_simp; (try with_reducible rfl)
        try simp only [Act.put, List.getElem_toArray, List.getElem_cons_zero, List.getElem_cons_succ, List.setIfInBounds_toArray, List.set_cons_zero, List.set_cons_succ]
        refine wpAnyH_ready (rs := [9]) (by kernel_rfl) (by simp) ?_
        refine AllReadyH.cons rfl (fun K hK => ?_) AllReadyH.nil
        go_simp
        refine Calls.mono (HHA.out _ (HF8.out.trans HGw9.out (fun _ _ e => e))) ?_
        rintro e w10 ⟨rfl, hF⟩
        have HGw10 := hideIt (show Fr (fun _ => False) w8 w10 from HGw9.out.trans hF (fun _ _ e => e))
        clear hF
        refine hK.out _ _ ?_ (fun hHeld => ?_)
        · exact HBX.out _ HGw10.out
        clear hK K
        try simp only [Act.put, List.getElem_toArray, List.getElem_cons_zero, List.getElem_cons_succ, List.setIfInBounds_toArray, List.set_cons_zero, List.set_cons_succ]
        refine wpAnyH_ready (rs := [12]) (by kernel_rfl) (by simp) ?_
        refine AllReadyH.cons rfl (fun K hK => ?_) AllReadyH.nil
        go_simp
        refine Calls.mono (HZH.out _ (HF8.out.trans HGw10.out (fun _ _ e => e))) ?_
        rintro e w11 ⟨rfl, hF⟩
        have HGw11 := hideIt (show Fr (fun _ => False) w8 w11 from HGw10.out.trans hF (fun _ _ e => e))
        clear hF
        refine hK.out _ _ ?_ (fun hHeld => ?_)
        · exact HBX.out _ HGw11.out
        clear hK K
        try simp only [Act.put, List.getElem_toArray, List.getElem_cons_zero, List.getElem_cons_succ, List.setIfInBounds_toArray, List.set_cons_zero, List.set_cons_succ]
        refine wpAnyH_take (i := 13) (v := (.bool true)) rfl (by kernel_rfl) (by kernel_rfl) (by kernel_rfl) (fun _ _ _ h => h) (Or.inl ⟨by kernel_rfl, fun w0 hSw => by go_simp⟩) (by assumption) ?_
        try simp only [Act.put, List.getElem_toArray, List.getElem_cons_zero, List.getElem_cons_succ, List.setIfInBounds_toArray, List.set_cons_zero, List.set_cons_succ]
        refine wpAnyH_take (i := 14) (v := ?v11) rfl (by kernel_rfl) (by kernel_rfl) (by kernel_rfl) (fun _ _ _ h => h) (Or.inl ⟨by kernel_rfl, ?hy11⟩) (by assumption) ?rest11
        case hy11 => intro w hSw; (try dsimp only at hSw); go_simp; (try with_reducible rfl)
        try simp only [Act.put, List.getElem_toArray, List.getElem_cons_zero, List.getElem_cons_succ, List.setIfInBounds_toArray, List.set_cons_zero, List.set_cons_succ]
        refine wpAnyH_take (i := 15) (v := ?v12) rfl (by kernel_rfl) (by kernel_rfl) (by kernel_rfl) (fun _ _ _ h => h) (Or.inl ⟨by kernel_rfl, ?hy12⟩) (by assumption) ?rest12
        case hy12 => intro w hSw; (try dsimp only at hSw); go_simp; (try with_reducible rfl)
        try simp only [Act.put, List.getElem_toArray, List.getElem_cons_zero, List.getElem_cons_succ, List.setIfInBounds_toArray, List.set_cons_zero, List.set_cons_succ]
        refine wpAnyH_take (i := 16) (v := ?v13) rfl (by kernel_rfl) (by kernel_rfl) (by kernel_rfl) (fun _ _ _ h => h) (Or.inl ⟨by kernel_rfl, ?hy13⟩) (by assumption) ?rest13
        case hy13 => intro w hSw; (try dsimp only at hSw); go_simp; (try with_reducible rfl)
        try simp only [Act.put, List.getElem_toArray, List.getElem_cons_zero, List.getElem_cons_succ, List.setIfInBounds_toArray, List.set_cons_zero, List.set_cons_succ]
        refine wpAnyH_take (i := 17) (v := ?v14) rfl (by kernel_rfl) (by kernel_rfl) (by kernel_rfl) (fun _ _ _ h => h) (Or.inl ⟨by kernel_rfl, ?hy14⟩) (by assumption) ?rest14
        case hy14 => intro w hSw; (try dsimp only at hSw); go_simp; (try with_reducible rfl)
        try simp only [Act.put, List.getElem_toArray, List.getElem_cons_zero, List.getElem_cons_succ, List.setIfInBounds_toArray, List.set_cons_zero, List.set_cons_succ]
        refine wpAnyH_take (i := 19) (v := ?v15) rfl (by kernel_rfl) (by kernel_rfl) (by kernel_rfl) (fun _ _ _ h => h) (Or.inl ⟨by kernel_rfl, ?hy15⟩) (by assumption) ?rest15
        case hy15 => intro w hSw; (try dsimp only at hSw); go_simp; (try with_reducible rfl)
        try simp only [Act.put, List.getElem_toArray, List.getElem_cons_zero, List.getElem_cons_succ, List.setIfInBounds_toArray, List.set_cons_zero, List.set_cons_succ]
        refine wpAnyH_take (i := 20) (v := ?v16) rfl (by kernel_rfl) (by kernel_rfl) (by kernel_rfl) (fun _ _ _ h => h) (Or.inl ⟨by kernel_rfl, ?hy16⟩) (by assumption) ?rest16
        case hy16 => intro w hSw; (try dsimp only at hSw); go_simp; (try with_reducible rfl)
        try simp only [Act.put, List.getElem_toArray, List.getElem_cons_zero, List.getElem_cons_succ, List.setIfInBounds_toArray, List.set_cons_zero, List.set_cons_succ]
        refine wpAnyH_ready (rs := [18]) (by kernel_rfl) (by simp) ?_
        refine AllReadyH.cons rfl (fun K hK => ?_) AllReadyH.nil
        go_simp
        refine Calls.mono (HCO.out _ (HF8.out.trans HGw11.out (fun _ _ e => e))) ?_
        rintro e w12 ⟨rfl, hF⟩
        have HGw12 := hideIt (show Fr (fun _ => False) w8 w12 from HGw11.out.trans hF (fun _ _ e => e))
        clear hF
        refine hK.out _ _ ?_ (fun hHeld => ?_)
        · exact HBX.out _ HGw12.out
        clear hK K
        try simp only [Act.put, List.getElem_toArray, List.getElem_cons_zero, List.getElem_cons_succ, List.setIfInBounds_toArray, List.set_cons_zero, List.set_cons_succ]
        refine wpAnyH_ready (rs := [21]) (by kernel_rfl) (by simp) ?_
        refine AllReadyH.cons rfl (fun K hK => ?_) AllReadyH.nil
        go_simp
        refine Calls.mono (HZC.out _ (HF8.out.trans HGw12.out (fun _ _ e => e))) ?_
        rintro e w13 ⟨rfl, hF⟩
        have HGw13 := hideIt (show Fr (fun _ => False) w8 w13 from HGw12.out.trans hF (fun _ _ e => e))
        clear hF
        refine hK.out _ _ ?_ (fun hHeld => ?_)
        · exact HBX.out _ HGw13.out
        clear hK K
        try simp only [Act.put, List.getElem_toArray, List.getElem_cons_zero, List.getElem_cons_succ, List.setIfInBounds_toArray, List.set_cons_zero, List.set_cons_succ]
        refine wpAnyH_take (i := 22) (v := (.bool true)) rfl (by kernel_rfl) (by kernel_rfl) (by kernel_rfl) (fun _ _ _ h => h) (Or.inl ⟨by kernel_rfl, fun w0 hSw => by go_simp⟩) (by assumption) ?_
        try simp only [Act.put, List.getElem_toArray, List.getElem_cons_zero, List.getElem_cons_succ, List.setIfInBounds_toArray, List.set_cons_zero, List.set_cons_succ]
        refine wpAnyH_take (i := 23) (v := ?v17) rfl (by kernel_rfl) (by kernel_rfl) (by kernel_rfl) (fun _ _ _ h => h) (Or.inl ⟨by kernel_rfl, ?hy17⟩) (by assumption) ?rest17
        case hy17 => intro w hSw; (try dsimp only at hSw); go_simp; (try with_reducible rfl)
        try simp only [Act.put, List.getElem_toArray, List.getElem_cons_zero, List.getElem_cons_succ, List.setIfInBounds_toArray, List.set_cons_zero, List.set_cons_succ]
        refine wpAnyH_take (i := 24) (v := ?v18) rfl (by kernel_rfl) (by kernel_rfl) (by kernel_rfl) (fun _ _ _ h => h) (Or.inl ⟨by kernel_rfl, ?hy18⟩) (by assumption) ?rest18
        case hy18 => intro w hSw; (try dsimp only at hSw); go_simp; (try with_reducible rfl)
        try simp only [Act.put, List.getElem_toArray, List.getElem_cons_zero, List.getElem_cons_succ, List.setIfInBounds_toArray, List.set_cons_zero, List.set_cons_succ]
        refine wpAnyH_ready (rs := [25]) (by kernel_rfl) (by simp) ?_
        refine AllReadyH.cons rfl (fun K hK => ?_) AllReadyH.nil
        go_simp
        refine Calls.mono (HAW.out _) ?_
        rintro e w14 ⟨rfl, hF⟩
        have HGw14 := hideIt (show Fr (fun _ => False) w8 w14 from HGw13.out.trans hF (fun _ _ e => e))
        clear hF
        refine hK.out _ _ ?_ (fun hHeld => ?_)
        · exact HBX.out _ HGw14.out
        clear hK K
        try simp only [Act.put, List.getElem_toArray, List.getElem_cons_zero, List.getElem_cons_succ, List.setIfInBounds_toArray, List.set_cons_zero, List.set_cons_succ]
        refine wpAnyH_take (i := 26) (v := ?v19) rfl (by kernel_rfl) (by kernel_rfl) (by kernel_rfl) (fun _ _ _ h => h) (Or.inl ⟨by kernel_rfl, ?hy19⟩) (by assumption) ?rest19
        case hy19 => intro w hSw; (try dsimp only at hSw); go_simp; (try with_reducible rfl)
        try simp only [Act.put, List.getElem_toArray, List.getElem_cons_zero, List.getElem_cons_succ, List.setIfInBounds_toArray, List.set_cons_zero, List.set_cons_succ]
        refine wpAnyH_take (i := 27) (v := ?v20) rfl (by kernel_rfl) (by kernel_rfl) (by kernel_rfl) (fun _ _ _ h => h) (Or.inl ⟨by kernel_rfl, ?hy20⟩) (by assumption) ?rest20
        case hy20 => intro w hSw; (try dsimp only at hSw); go_simp; (try with_reducible rfl)
        try simp only [Act.put, List.getElem_toArray, List.getElem_cons_zero, List.getElem_cons_succ, List.setIfInBounds_toArray, List.set_cons_zero, List.set_cons_succ]
        refine wpAnyH_done (by kernel_rfl) ?_ _
        clear hHeld
        go_wp2_with fail
        go_ret
        exact ⟨rfl, HF8.out.trans HGw14.out (fun _ _ e => e)⟩

end Go.Proofs.Ytmaepknceihepaa
