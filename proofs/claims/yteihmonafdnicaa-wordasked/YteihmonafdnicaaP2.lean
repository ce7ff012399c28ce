/- WordKnown: the chapter's examples are answered as it says. -/
import Derived.Test.YteihmonafdnicaaY
import Derived.Test.YteihmonafdnicaaN
import Derived.Test.YteihmonafdnicaaG
namespace Go.Proofs.Yteihmonafdnicaa
open Go.RowKit Go.IntWalk
set_option linter.unusedSimpArgs false
set_option linter.unusedVariables false

theorem all_one (x : Th) (hx : ThOk x) (hs : x.s.size ≤ 4000) (w : World) :
    Calls Try.prog 38 #[.slice (some ⟨w.heap.size, 0, none⟩) 1 1] (w.alloc (.cells (thA x) 35)) fun e w' => ∃ ao' cap', e = .returned (.tuple #[.slice ao' (if (wTh x ([], false)).2 then [] else (wTh x ([], false)).1).length cap', .bool (!(wTh x ([], false)).2)]) ∧ Row w' 5 ao' cap' (if (wTh x ([], false)).2 then [] else (wTh x ([], false)).1) ∧ Fr (fun _ => False) w w' ∧ ∀ k, blk ao' k → w.heap.size ≤ k := by
  have h := all_any (some ⟨w.heap.size, 0, none⟩) 1 [x] _ (thsAt_one x w) (fun y hy => by obtain rfl := List.mem_singleton.1 hy; exact hx) (by simp [thW]; omega)
  have e : wAll [x] = wTh x ([], false) := by simp [wAll]
  rw [e] at h
  refine h.mono ?_
  rintro e w' ⟨ao', cap', rfl, hrow, hF, hn⟩
  exact ⟨ao', cap', rfl, hrow, ((Fr.refl _ w).alloc _).trans hF (fun _ _ e => e), fun k hk => by have := hn k hk; simp at this; omega⟩

theorem open_lit (bs : List UInt8) (hlen : bs.length ≤ 140737488355328) (w : World) :
    Calls Try.prog 21 #[.slice (some ⟨w.heap.size, 0, none⟩) bs.length bs.length] (w.alloc (.cells (bv bs).toArray 5)) fun e w' => ∃ p t ao' cap', e = .returned (.pointer (some ⟨p, 0, none⟩)) ∧ ROk w' p t ao' cap' bs (0, 0, 0) ∧ Fr (fun _ => False) w w' ∧ w.heap.size ≤ p ∧ w.heap.size ≤ t ∧ ∀ k, blk ao' k → w.heap.size ≤ k := by
  refine (open_any _ bs.length bs _ (bsAt_lit bs w) (fun e => by cases e) hlen).mono ?_
  rintro e w' ⟨p, t, ao', cap', rfl, hR, hF, hp, ht, hn⟩
  simp at hp ht
  exact ⟨p, t, ao', cap', rfl, ⟨hR, Nat.zero_le _⟩, ((Fr.refl _ w).alloc _).trans hF (fun _ _ e => e), by omega, by omega, fun k hk => by have := hn k hk; simp at this; omega⟩

theorem ROk.fr0 {w w' : World} {p t : Nat} {ao : Option Addr} {cap : Nat} {bs : List UInt8} {s : Nat × Int × Int} (h : ROk w p t ao cap bs s) (hF : Fr (fun _ => False) w w') : ROk w' p t ao cap bs s := ⟨h.1.fr hF (fun e => e) (fun _ _ e => e), h.2⟩

/-- A reader stands while another one, made ahead of it, is asked. -/
theorem ROk.other {w w' : World} {p t t0 : Nat} {ao : Option Addr} {cap : Nat} {bs : List UInt8} {s : Nat × Int × Int} (h : ROk w p t ao cap bs s) (hF : Fr (fun k => k = t0) w w') (hp : p ≠ t0) (hs : ¬ wset t ao t0) : ROk w' p t ao cap bs s :=
  ⟨h.1.fr hF hp (fun k hk e => hs (by subst e; exact hk)), h.2⟩

def thAB : Th := ⟨1, 0, ⟨#[97, 98]⟩, List.replicate 32 0⟩

set_option maxRecDepth 100000 in
set_option maxHeartbeats 4000000 in
theorem known_any (w : World) : Calls Try.prog 5 #[] w fun e w' => e = .returned (.bool true) ∧ Fr (fun _ => False) w w' := by
  have hm1 : ∀ (x : Bool) (w : World), (Op.unary .not (.bool x)).run Try.prog w = .ok (.bool (!x)) w := fun _ _ => rfl
  have H1 := hideIt (fun w => by have := all_one thAB ⟨by simp [thAB], by simp [thAB], by simp [thAB, ByteArray.size]⟩ (by simp [thAB, ByteArray.size]) w; rw [show wTh thAB ([], false) = ([2, 97, 98], false) by decide] at this; exact this)
  have H2 := hideIt (fun w => by have := all_one (thN (-1)) (thN_ok (-1) (by decide)) (by simp [thN, ByteArray.size]) w; rw [show wTh (thN (-1)) ([], false) = ([], true) by decide] at this; exact this)
  have H3 := hideIt (open_lit [128, 1, 5] (by decide))
  have H4 := hideIt (open_lit [3, 1, 2] (by decide))
  have H5 := hideIt (open_lit [2, 1] (by decide))
  have H6 := hideIt (is_lit 127 (by decide) [127] (by decide))
  have H7 := hideIt (is_lit 9223372036854775807 (by decide) [255, 255, 255, 255, 255, 255, 255, 255, 127] (by decide))
  go_enter Try.func5, Try.ntmps5
  go_wp2_with fail
  refine Calls.mono (H1.out w) ?_
  rintro e w1 ⟨aoA, capA, rfl, hrowA, hF1, hnA⟩
  go_wp2_with fail
  refine Calls.mono (H2.out w1) ?_
  rintro e w2 ⟨aoB, capB, rfl, hrowB, hF2, hnB⟩
  go_wp2_with fail
  refine Calls.mono (H3.out w2) ?_
  rintro e w3 ⟨p1, t1, ao1, cap1, rfl, hR1, hF3, hp1, ht1, hn1⟩
  go_wp2_with fail
  refine Calls.mono (H4.out w3) ?_
  rintro e w4 ⟨p2, t2, ao2, cap2, rfl, hR2, hF4, hp2, ht2, hn2⟩
  go_wp2_with fail
  refine Calls.mono (H5.out w4) ?_
  rintro e w5 ⟨p3, t3, ao3, cap3, rfl, hR3, hF5, hp3, ht3, hn3⟩
  go_wp2_with fail
  refine Calls.mono (H6.out w5) ?_
  rintro e w6 ⟨rfl, hF6⟩
  go_wp2_with fail
  refine Calls.mono (H7.out w6) ?_
  rintro e w7 ⟨rfl, hF7⟩
  have hF57 := hF6.trans hF7 (fun _ _ e => e)
  have hF37 := (hF4.trans hF5 (fun _ _ e => e)).trans hF57 (fun _ _ e => e)
  have hF47 := hF5.trans hF57 (fun _ _ e => e)
  have hF17 := (hF2.trans hF3 (fun _ _ e => e)).trans hF37 (fun _ _ e => e)
  have hF07 := hF1.trans hF17 (fun _ _ e => e)
  have hA7 := hrowA.bs.fr hF17 (fun _ _ _ e => e)
  have hS1 := hideIt (same_any aoA (some ⟨w7.heap.size, 0, none⟩) capA 3 [2, 97, 98] [2, 97, 98] (w7.alloc (.cells (bv [2, 97, 98]).toArray 5)) (hA7.fr ((Fr.refl (fun _ => False) w7).alloc _) (fun _ _ _ e => e)) (bsAt_lit [2, 97, 98] w7))
  have hR17 := (hR1.fr0 hF37)
  have hR27 := (hR2.fr0 hF47)
  have hR37 := (hR3.fr0 hF57)
  have l1 := hR17.1.tp.lt
  have l2 := hR27.1.tp.lt
  have sz3 := hR1.1.lt
  have st3 := hR1.1.tp.lt
  have sz4 := hR2.1.lt
  have st4 := hR2.1.tp.lt
  go_wp2_with fail
  refine Calls.mono hS1.out ?_
  rintro e w7' ⟨rfl, rfl⟩
  have hF8 : Fr (fun _ => False) w7 (w7.alloc (.cells (bv [2, 97, 98]).toArray 5)) := (Fr.refl _ _).alloc _
  have hR18 := hR17.fr0 hF8
  have hR28 := hR27.fr0 hF8
  have hR38 := hR37.fr0 hF8
  have hF08 := hF07.trans hF8 (fun _ _ e => e)
  generalize hw8 : w7.alloc (.cells (bv [2, 97, 98]).toArray 5) = w8 at *
  have H8 := hideIt (rint_any p1 t1 ao1 cap1 [128, 1, 5] (0, 0, 0) 0 200 w8 hR18 (by decide))
  rw [show rInt [128, 1, 5] 0 200 (0, 0, 0) = (128, (2, 0, 0)) by decide] at H8
  go_wp2_with fail
  refine Calls.mono H8.out ?_
  rintro e w9 ⟨rfl, hR19, hF9⟩
  have hR29 := hR28.other hF9 (by omega) (by rintro (e | e); omega; have := hn2 _ e; omega)
  have hR39 := hR38.other hF9 (by omega) (by rintro (e | e); omega; have := hn3 _ e; omega)
  have hF09 := hF08.trans (S' := fun k => k = t1) hF9 (fun i hi e => by have := hF1.size; have := hF2.size; omega)
  have H9 := hideIt (rint_any p1 t1 ao1 cap1 [128, 1, 5] (2, 0, 0) 0 4 w9 hR19 (by decide))
  rw [show rInt [128, 1, 5] 0 4 (2, 0, 0) = (0, (2, 5, 2)) by decide] at H9
  go_wp2_with fail
  refine Calls.mono H9.out ?_
  rintro e w10 ⟨rfl, hR1a, hFa⟩
  have hR2a := hR29.other hFa (by omega) (by rintro (e | e); omega; have := hn2 _ e; omega)
  have hR3a := hR39.other hFa (by omega) (by rintro (e | e); omega; have := hn3 _ e; omega)
  have hF0a := hF09.trans (S' := fun k => k = t1) hFa (fun i hi e => by have := hF1.size; have := hF2.size; omega)
  have Ha := hideIt (rat_any p1 t1 ao1 cap1 [128, 1, 5] (2, 5, 2) w10 hR1a)
  have Hb := hideIt (rfault_any p1 t1 ao1 cap1 [128, 1, 5] (2, 5, 2) w10 hR1a)
  go_wp2_with fail
  refine Calls.mono Ha.out ?_
  rintro e w10' ⟨rfl, rfl⟩
  go_wp2_with fail
  refine Calls.mono Hb.out ?_
  rintro e w11 ⟨rfl, hFb⟩
  have hR1b := hR1a.fr0 hFb
  have hR2b := hR2a.fr0 hFb
  have hR3b := hR3a.fr0 hFb
  have hF0b := hF0a.trans hFb (fun _ _ e => e)
  have Hc := hideIt (rint_any p1 t1 ao1 cap1 [128, 1, 5] (2, 5, 2) 0 9 w11 hR1b (by decide))
  rw [show rInt [128, 1, 5] 0 9 (2, 5, 2) = (0, (2, 5, 2)) by decide] at Hc
  go_wp2_with fail
  refine Calls.mono Hc.out ?_
  rintro e w12 ⟨rfl, _, hFc⟩
  have hR2c := hR2b.other hFc (by omega) (by rintro (e | e); omega; have := hn2 _ e; omega)
  have hR3c := hR3b.other hFc (by omega) (by rintro (e | e); omega; have := hn3 _ e; omega)
  have hF0c := hF0b.trans (S' := fun k => k = t1) hFc (fun i hi e => by have := hF1.size; have := hF2.size; omega)
  have Hd := hideIt (rtext_any p2 t2 ao2 cap2 [3, 1, 2] (0, 0, 0) 2 w12 hR2c (by decide))
  rw [show rText [3, 1, 2] 2 (0, 0, 0) = ([], (0, 3, 0)) by decide] at Hd
  go_wp2_with fail
  refine Calls.mono Hd.out ?_
  rintro e w13 ⟨rfl, hR2d, hFd⟩
  have hR3d := hR3c.other hFd (by omega) (by rintro (e | e); omega; have := hn3 _ e; omega)
  have hF0d := hF0c.trans (S' := fun k => k = t2) hFd (fun i hi e => by have := hF1.size; have := hF2.size; have := hF3.size; omega)
  have He := hideIt (rfault_any p2 t2 ao2 cap2 [3, 1, 2] (0, 3, 0) w13 hR2d)
  go_wp2_with fail
  refine Calls.mono He.out ?_
  rintro e w14 ⟨rfl, hFe⟩
  have hR2e := hR2d.fr0 hFe
  have hR3e := hR3d.fr0 hFe
  have hF0e := hF0d.trans hFe (fun _ _ e => e)
  have Hf := hideIt (rtext_any p2 t2 ao2 cap2 [3, 1, 2] (0, 3, 0) 9 w14 hR2e (by decide))
  rw [show rText [3, 1, 2] 9 (0, 3, 0) = ([], (0, 3, 0)) by decide] at Hf
  go_wp2_with fail
  refine Calls.mono Hf.out ?_
  rintro e w15 ⟨rfl, _, hFf⟩
  have hR3f := hR3e.other hFf (by omega) (by rintro (e | e); omega; have := hn3 _ e; omega)
  have hF0f := hF0e.trans (S' := fun k => k = t2) hFf (fun i hi e => by have := hF1.size; have := hF2.size; have := hF3.size; omega)
  have Hg := hideIt (rtext_any p3 t3 ao3 cap3 [2, 1] (0, 0, 0) 9 w15 hR3f (by decide))
  rw [show rText [2, 1] 9 (0, 0, 0) = ([], (0, 4, 2)) by decide] at Hg
  go_wp2_with fail
  refine Calls.mono Hg.out ?_
  rintro e w16 ⟨rfl, hR3g, hFg⟩
  have hF0g := hF0f.trans (S' := fun k => k = t3) hFg (fun i hi e => by have := hF1.size; have := hF2.size; have := hF3.size; have := hF4.size; omega)
  have Hh := hideIt (rfault_any p3 t3 ao3 cap3 [2, 1] (0, 4, 2) w16 hR3g)
  go_wp2_with fail
  refine Calls.mono Hh.out ?_
  rintro e w17 ⟨rfl, hFh⟩
  have hR3h := hR3g.fr0 hFh
  have hF0h := hF0g.trans hFh (fun _ _ e => e)
  have Hi := hideIt (rleft_any p3 t3 ao3 cap3 [2, 1] (0, 4, 2) w17 hR3h (by decide))
  go_wp2_with fail
  refine Calls.mono Hi.out ?_
  rintro e w18 ⟨rfl, k, rfl⟩
  have hF0i := hF0h.drewN k
  have Hj := hideIt (awake_any (w17.drewN k))
  go_wp2_with fail
  refine Calls.mono Hj.out ?_
  rintro e w19 ⟨rfl, hFj⟩
  have hF0j := hF0i.trans hFj (fun _ _ e => e)
  have Hk := hideIt (wrong_lit [128, 128, 128, 128, 128, 128, 128, 128, 128] 5 0 (by decide) (by decide) w19)
  go_wp2_with fail
  refine Calls.mono Hk.out ?_
  rintro e w20 ⟨rfl, hFk⟩
  have hF0k := hF0j.trans hFk (fun _ _ e => e)
  have Hl := hideIt (num_any ⟨#[1, 0, 0, 0, 0, 0, 0, 1, 2]⟩ w20 (by decide))
  rw [show numOf ((⟨#[1, 0, 0, 0, 0, 0, 0, 1, 2]⟩ : ByteArray).data.toList.drop ((⟨#[1, 0, 0, 0, 0, 0, 0, 1, 2]⟩ : ByteArray).size - 8)) = 258 by decide] at Hl
  have Hm := hideIt (num_any ⟨#[]⟩ w20 (by decide))
  rw [show numOf ((⟨#[]⟩ : ByteArray).data.toList.drop ((⟨#[]⟩ : ByteArray).size - 8)) = 0 by decide] at Hm
  go_wp2_with fail
  refine Calls.mono Hl.out ?_
  rintro e w21 ⟨rfl, rfl⟩
  go_wp2_with fail
  refine Calls.mono Hm.out ?_
  rintro e w22 ⟨rfl, rfl⟩
  go_wp2_with fail
  go_ret
  exact ⟨rfl, hF0k⟩

end Go.Proofs.Yteihmonafdnicaa
