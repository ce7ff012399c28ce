/- WordTold: the two lists behind one another. -/
import Derived.Test.YtahhpecgckiaaaaP6
namespace Go.Proofs.Ytahhpecgckiaaaa
open Go.RowKit Go.IntWalk
set_option linter.unusedSimpArgs false
set_option linter.unusedVariables false

theorem things_both (aoL : Option Addr) (capL : Nat) (l : List Th) (aoM : Option Addr) (capM : Nat) (m : List Th) (w : World) (hL : l = [] ∨ ThsAt w aoL l) (hM : m = [] ∨ ThsAt w aoM m) (iL : ∀ x ∈ l, x.id.length = 32) (iM : ∀ x ∈ m, x.id.length = 32)
    (hb : l.length + m.length ≤ 1099511627776) : ∃ ao4 cap4 w4 ao5 cap5 w5 B, B = l ++ m ∧
    (Builtin.append_ #[22, 22] 22 #[.slice (some ⟨w.heap.size, 0, none⟩) 0 0, .slice aoL l.length capL]).run Try.prog (w.alloc (.cells #[] 35)) = .ok (.slice ao4 l.length cap4) w4 ∧
    (Builtin.append_ #[22, 22] 22 #[.slice ao4 l.length cap4, .slice aoM m.length capM]).run Try.prog w4 = .ok (.slice ao5 B.length cap5) w5 ∧
    ThRow w5 ao5 cap5 B ∧ Fr (fun _ => False) w w5 ∧ ∀ k, blk ao5 k → w.heap.size ≤ k := by
  have hF0 : Fr (fun _ => False) w (w.alloc (.cells #[] 35)) := (Fr.refl _ _).alloc _
  have hr0 : ThRow (w.alloc (.cells #[] 35)) (some ⟨w.heap.size, 0, none⟩) 0 [] := World.ownsRow_made w #[] 0 (Nat.zero_le _) (by decide) rfl
  obtain ⟨ao4, cap4, w4, r4, row4, F4, a4⟩ := things_append _ _ 0 [] l hr0 aoL capL (hL.imp id fun h => h.fr hF0 (fun _ _ _ e => e)) iL (by simp; omega)
  have n4 : ∀ k, blk ao4 k → w.heap.size ≤ k := by
    rintro k ⟨a, rfl, rfl⟩
    rcases a4 with e | e
    · obtain rfl := Option.some.inj e
      exact Nat.le_refl _
    · obtain rfl := Option.some.inj e
      simp
  have F04 : Fr (fun _ => False) w w4 := hF0.trans F4 (fun i hi e => by
    obtain ⟨a, e1, e2⟩ := e
    obtain rfl := Option.some.inj e1
    simp only at e2
    omega)
  obtain ⟨ao5, cap5, w5, r5, row5, F5, a5⟩ := things_append w4 ao4 cap4 l m row4 aoM capM (hM.imp id fun h => h.fr F04 (fun _ _ _ e => e)) iM (by omega)
  refine ⟨ao4, cap4, w4, ao5, cap5, w5, l ++ m, rfl, by simpa using r4, by simpa using r5, row5, F04.trans F5 (fun i hi e => by have := n4 i e; omega), ?_⟩
  rintro k ⟨a, rfl, rfl⟩
  rcases a5 with e | e
  · exact n4 _ ⟨a, e.symm, rfl⟩
  · obtain rfl := Option.some.inj e
    exact F04.size

set_option maxRecDepth 100000 in
set_option maxHeartbeats 2000000 in
theorem told_bad1 (aoL : Option Addr) (capL : Nat) (l : List Th) (aoM : Option Addr) (capM : Nat) (m : List Th) (w : World) (hL : l = [] ∨ ThsAt w aoL l) (hM : m = [] ∨ ThsAt w aoM m) (okL : ∀ x ∈ l, ThOk x) (okM : ∀ x ∈ m, ThOk x) (sL : ∀ x ∈ l, x.s.size ≤ 140737488355328) (sM : ∀ x ∈ m, x.s.size ≤ 140737488355328) (bl : bulkyB l = false) (bm : bulkyB m = false) (hbl : l.any badT = true) :
    Calls Try.prog 7 #[.slice aoL l.length capL, .slice aoM m.length capM] w fun e w' => e = .returned (.bool true) ∧ Fr (fun _ => False) w w' := by
  have hll := (slim l bl).1
  have hml := (slim m bm).1
  have hls : (l.map thW).sum ≤ 140737488355328 := by rw [slim_sum]; have := slim l bl; omega
  have hms : (m.map thW).sum ≤ 140737488355328 := by rw [slim_sum]; have := slim m bm; omega
  have hbs : ((l ++ m).map thW).sum ≤ 100000 := by rw [List.map_append, List.sum_append_nat, slim_sum, slim_sum]; have := slim l bl; have := slim m bm; omega
  have okB : ∀ x ∈ l ++ m, ThOk x := fun x hx => by
    rcases List.mem_append.1 hx with hx | hx
    · exact okL x hx
    · exact okM x hx
  have HK := hideIt (known_any w)
  have hLM : ∀ w', Fr (fun _ => False) w w' → (l = [] ∨ ThsAt w' aoL l) ∧ (m = [] ∨ ThsAt w' aoM m) := fun w' hF => ⟨hL.imp id fun h => h.fr hF (fun _ _ _ e => e), hM.imp id fun h => h.fr hF (fun _ _ _ e => e)⟩
  have HBL := hideIt (fun w' (hF : Fr (fun _ => False) w w') => bulky_any aoL capL l w' (hLM w' hF).1 (sum_take l sL) (by unfold maxLen; omega))
  have HBM := hideIt (fun w' (hF : Fr (fun _ => False) w w') => bulky_any aoM capM m w' (hLM w' hF).2 (sum_take m sM) (by unfold maxLen; omega))
  simp only [bl] at HBL
  simp only [bm] at HBM
  have HAL := hideIt (fun w' (hF : Fr (fun _ => False) w w') => all_ex aoL capL l w' (hLM w' hF).1 okL hls)
  have HAM := hideIt (fun w' (hF : Fr (fun _ => False) w w') => all_ex aoM capM m w' (hLM w' hF).2 okM hms)
  simp only [hbl, if_true, Bool.not_true] at HAL
  generalize hbmv : m.any badT = vm at *
  clear hbmv
  have HAP := hideIt (fun (w' : World) (hF : Fr (fun _ => False) w w') => things_both aoL capL l aoM capM m w' (hLM w' hF).1 (hLM w' hF).2 (fun x hx => (okL x hx).id) (fun x hx => (okM x hx).id) (by omega))
  have HOKB := hideIt okB
  clear hLM hL hM okL okM sL sM hls hms bl bm okB
  go_enter Try.func7, Try.ntmps7
  go_wp2_with fail
  refine Calls.mono HK.out ?_
  rintro e w1 ⟨rfl, hF1⟩
  have HF1 := hideIt hF1
  clear hF1
  go_wp2_with fail
  refine Calls.mono (HBL.out w1 HF1.out) ?_
  rintro e w1' ⟨rfl, rfl⟩
  go_wp2_with fail
  refine Calls.mono (HBM.out w1' HF1.out) ?_
  rintro e w1'' ⟨rfl, rfl⟩
  go_wp2_with fail
  refine Calls.mono (HAL.out w1'' HF1.out) ?_
  rintro e w2 ⟨A, aoA, capA, hA, rfl, hrA, hF2, hnA⟩
  have HF2 := hideIt (HF1.out.trans hF2 (fun _ _ e => e))
  have HRA := hideIt hrA
  have HA := hideIt hA
  clear hrA hF2 hnA hA
  go_wp2_with fail
  refine Calls.mono (HAM.out w2 HF2.out) ?_
  rintro e w3 ⟨E, aoB, capB, hE, rfl, hrB, hF3, hnB⟩
  have HF3 := hideIt (HF2.out.trans hF3 (fun _ _ e => e))
  have HRA3 := hideIt (HRA.out.bs.fr hF3 (fun _ _ _ e => e))
  have HRB := hideIt hrB
  have HE := hideIt hE
  clear hrB hF3 hnB HRA hE
  obtain ⟨ao4, cap4, w4, ao5, cap5, w5, B, hB, run4, run5, hrow5, hF5, hn5⟩ := HAP.out w3 HF3.out
  have HB := hideIt hB
  have hBl : B.length ≤ 60 := by rw [hB, List.length_append]; omega
  have HOB := hideIt (show ∀ x ∈ B, ThOk x by rw [hB]; exact HOKB.out)
  have HBS := hideIt (show (B.map thW).sum ≤ 100000 by rw [hB]; exact hbs)
  clear hB hbs HOKB
  have HR4 := hideIt run4
  have HR5 := hideIt run5
  have HROW := hideIt hrow5
  have HF5 := hideIt (HF3.out.trans hF5 (fun _ _ e => e))
  have HRA5 := hideIt (HRA3.out.fr hF5 (fun _ _ _ e => e))
  have HRB5 := hideIt (HRB.out.bs.fr hF5 (fun _ _ _ e => e))
  have HN5 := hideIt hn5
  have hs3 : w.heap.size ≤ w3.heap.size := HF3.out.size
  clear run4 run5 hrow5 hF5 hn5 HAP HBL HBM HAL HAM HK HRA3 HRB
  go_wp2_with (first | (at_builtin; refine wpList_append_run _ rfl (.tmp 35) (.tmp 36) 22 22 rfl _ _ _ _ rfl rfl HR4.out ?_) | (at_builtin; refine wpList_append_run _ rfl (.tmp 37) (.tmp 38) 22 22 rfl _ _ _ _ rfl rfl HR5.out ?_))
  have HAB := hideIt (all_ex ao5 cap5 B w5 (Or.inr (HROW.out.at (fun x hx => (HOB.out x hx).id))) HOB.out (Nat.le_trans HBS.out (by omega)))
  have hab : B.any badT = true := by rw [HB.out, List.any_append, hbl, Bool.true_or]
  simp only [hab, if_true, Bool.not_true] at HAB
  have hm1 : ∀ (x : Bool) (w : World), (Op.unary .not (.bool x)).run Try.prog w = .ok (.bool (!x)) w := fun _ _ => rfl
  refine Calls.mono HAB.out ?_
  rintro e w6 ⟨C, aoC, capC, rfl, rfl, hrC, hF6, hnC⟩
  have HF6 := hideIt (HF5.out.trans hF6 (fun _ _ e => e))
  clear hF6 hrC hnC
  go_wp2_with fail
  go_ret
  exact ⟨rfl, HF6.out⟩

set_option maxRecDepth 100000 in
set_option maxHeartbeats 2000000 in
theorem told_bad2 (aoL : Option Addr) (capL : Nat) (l : List Th) (aoM : Option Addr) (capM : Nat) (m : List Th) (w : World) (hL : l = [] ∨ ThsAt w aoL l) (hM : m = [] ∨ ThsAt w aoM m) (okL : ∀ x ∈ l, ThOk x) (okM : ∀ x ∈ m, ThOk x) (sL : ∀ x ∈ l, x.s.size ≤ 140737488355328) (sM : ∀ x ∈ m, x.s.size ≤ 140737488355328) (bl : bulkyB l = false) (bm : bulkyB m = false) (hbl : l.any badT = false) (hbm : m.any badT = true) :
    Calls Try.prog 7 #[.slice aoL l.length capL, .slice aoM m.length capM] w fun e w' => e = .returned (.bool true) ∧ Fr (fun _ => False) w w' := by
  have hll := (slim l bl).1
  have hml := (slim m bm).1
  have hls : (l.map thW).sum ≤ 140737488355328 := by rw [slim_sum]; have := slim l bl; omega
  have hms : (m.map thW).sum ≤ 140737488355328 := by rw [slim_sum]; have := slim m bm; omega
  have hbs : ((l ++ m).map thW).sum ≤ 100000 := by rw [List.map_append, List.sum_append_nat, slim_sum, slim_sum]; have := slim l bl; have := slim m bm; omega
  have okB : ∀ x ∈ l ++ m, ThOk x := fun x hx => by
    rcases List.mem_append.1 hx with hx | hx
    · exact okL x hx
    · exact okM x hx
  have HK := hideIt (known_any w)
  have hLM : ∀ w', Fr (fun _ => False) w w' → (l = [] ∨ ThsAt w' aoL l) ∧ (m = [] ∨ ThsAt w' aoM m) := fun w' hF => ⟨hL.imp id fun h => h.fr hF (fun _ _ _ e => e), hM.imp id fun h => h.fr hF (fun _ _ _ e => e)⟩
  have HBL := hideIt (fun w' (hF : Fr (fun _ => False) w w') => bulky_any aoL capL l w' (hLM w' hF).1 (sum_take l sL) (by unfold maxLen; omega))
  have HBM := hideIt (fun w' (hF : Fr (fun _ => False) w w') => bulky_any aoM capM m w' (hLM w' hF).2 (sum_take m sM) (by unfold maxLen; omega))
  simp only [bl] at HBL
  simp only [bm] at HBM
  have HAL := hideIt (fun w' (hF : Fr (fun _ => False) w w') => all_ex aoL capL l w' (hLM w' hF).1 okL hls)
  have HAM := hideIt (fun w' (hF : Fr (fun _ => False) w w') => all_ex aoM capM m w' (hLM w' hF).2 okM hms)
  simp only [hbl, Bool.false_eq_true, if_false, Bool.not_false] at HAL
  simp only [hbm, if_true, Bool.not_true] at HAM
  have HAP := hideIt (fun (w' : World) (hF : Fr (fun _ => False) w w') => things_both aoL capL l aoM capM m w' (hLM w' hF).1 (hLM w' hF).2 (fun x hx => (okL x hx).id) (fun x hx => (okM x hx).id) (by omega))
  have HOKB := hideIt okB
  clear hLM hL hM okL okM sL sM hls hms bl bm okB
  go_enter Try.func7, Try.ntmps7
  go_wp2_with fail
  refine Calls.mono HK.out ?_
  rintro e w1 ⟨rfl, hF1⟩
  have HF1 := hideIt hF1
  clear hF1
  go_wp2_with fail
  refine Calls.mono (HBL.out w1 HF1.out) ?_
  rintro e w1' ⟨rfl, rfl⟩
  go_wp2_with fail
  refine Calls.mono (HBM.out w1' HF1.out) ?_
  rintro e w1'' ⟨rfl, rfl⟩
  go_wp2_with fail
  refine Calls.mono (HAL.out w1'' HF1.out) ?_
  rintro e w2 ⟨A, aoA, capA, hA, rfl, hrA, hF2, hnA⟩
  have HF2 := hideIt (HF1.out.trans hF2 (fun _ _ e => e))
  have HRA := hideIt hrA
  have HA := hideIt hA
  clear hrA hF2 hnA hA
  go_wp2_with fail
  refine Calls.mono (HAM.out w2 HF2.out) ?_
  rintro e w3 ⟨E, aoB, capB, hE, rfl, hrB, hF3, hnB⟩
  have HF3 := hideIt (HF2.out.trans hF3 (fun _ _ e => e))
  have HRA3 := hideIt (HRA.out.bs.fr hF3 (fun _ _ _ e => e))
  have HRB := hideIt hrB
  have HE := hideIt hE
  clear hrB hF3 hnB HRA hE
  obtain ⟨ao4, cap4, w4, ao5, cap5, w5, B, hB, run4, run5, hrow5, hF5, hn5⟩ := HAP.out w3 HF3.out
  have HB := hideIt hB
  have hBl : B.length ≤ 60 := by rw [hB, List.length_append]; omega
  have HOB := hideIt (show ∀ x ∈ B, ThOk x by rw [hB]; exact HOKB.out)
  have HBS := hideIt (show (B.map thW).sum ≤ 100000 by rw [hB]; exact hbs)
  clear hB hbs HOKB
  have HR4 := hideIt run4
  have HR5 := hideIt run5
  have HROW := hideIt hrow5
  have HF5 := hideIt (HF3.out.trans hF5 (fun _ _ e => e))
  have HRA5 := hideIt (HRA3.out.fr hF5 (fun _ _ _ e => e))
  have HRB5 := hideIt (HRB.out.bs.fr hF5 (fun _ _ _ e => e))
  have HN5 := hideIt hn5
  have hs3 : w.heap.size ≤ w3.heap.size := HF3.out.size
  clear run4 run5 hrow5 hF5 hn5 HAP HBL HBM HAL HAM HK HRA3 HRB
  go_wp2_with (first | (at_builtin; refine wpList_append_run _ rfl (.tmp 35) (.tmp 36) 22 22 rfl _ _ _ _ rfl rfl HR4.out ?_) | (at_builtin; refine wpList_append_run _ rfl (.tmp 37) (.tmp 38) 22 22 rfl _ _ _ _ rfl rfl HR5.out ?_))
  have HAB := hideIt (all_ex ao5 cap5 B w5 (Or.inr (HROW.out.at (fun x hx => (HOB.out x hx).id))) HOB.out (Nat.le_trans HBS.out (by omega)))
  have hab : B.any badT = true := by rw [HB.out, List.any_append, hbl, hbm, Bool.or_true]
  simp only [hab, if_true, Bool.not_true] at HAB
  have hm1 : ∀ (x : Bool) (w : World), (Op.unary .not (.bool x)).run Try.prog w = .ok (.bool (!x)) w := fun _ _ => rfl
  refine Calls.mono HAB.out ?_
  rintro e w6 ⟨C, aoC, capC, rfl, rfl, hrC, hF6, hnC⟩
  have HF6 := hideIt (HF5.out.trans hF6 (fun _ _ e => e))
  clear hF6 hrC hnC
  go_wp2_with fail
  go_ret
  exact ⟨rfl, HF6.out⟩

end Go.Proofs.Ytahhpecgckiaaaa
