/- ProgKnown, part 15 of the road: what the program's functions do, each by its own walk. -/
import Derived.Test.YtojgikaoiegmpaaQ13
import Derived.Test.YtojgikaoiegmpaaQ14

/- Package prog: which transaction bytes are: the walk. -/
namespace Go.Proofs.Ytojgikaoiegmpaa
open Go.RowKit Go.IntWalk
set_option linter.unusedSimpArgs false
set_option linter.unusedVariables false
set_option maxRecDepth 100000

theorem InsFull.lt {w : World} {ao : Option Addr} {cap : Nat} {l : List Ins} (h : InsFull w ao cap l) {k : Nat} (hk : blk ao k) : k < w.heap.size := by
  rcases h with ⟨rfl, _⟩ | ⟨q, A, rfl, _, h1, _⟩
  · obtain ⟨_, e, _⟩ := hk; cases e
  · obtain ⟨_, e1, e2⟩ := hk
    obtain rfl := Option.some.inj e1
    have := (Array.getElem?_eq_some_iff.1 h1).1
    simp only at e2
    omega

set_option maxRecDepth 100000 in
set_option maxHeartbeats 2000000 in
theorem overprog_some (q n : Nat) (hn : n ≤ 1000) (w : World) (A : Array Value) (hA : w.heap[q]? = some (.cells A 40 (0, 0))) (hA2 : A.size = n * 6) : Calls Try.prog 12 #[.slice (some ⟨q, 0, none⟩) n n] w fun e w' => e = .returned (.tuple #[]) ∧ Fr (fun k => k = q) w w' := by
  have HA := hideIt (show ∃ A : Array Value, w.heap[q]? = some (.cells A 40 (0, 0)) ∧ A.size = n * 6 from ⟨A, hA, hA2⟩)
  clear hA hA2
  go_enter Try.func12, Try.ntmps12
  go_wp2_with fail
  go_loopw [2] (fun s2 wr => ∃ k : Nat, s2 = .int .i64 k ∧ k ≤ n ∧ Hid (∃ A : Array Value, wr.heap[q]? = some (.cells A 40 (0, 0)) ∧ A.size = n * 6) ∧ Hid (Fr (fun k => k = q) w wr)) (fun s2 _ => n - (intOf s2).toNat)
  case atStart => exact ⟨0, rfl, by omega, HA, hideIt (Fr.refl _ _)⟩
  case round =>
    obtain ⟨k, rfl, hk, HAr, HF⟩ := hrel
    by_cases hlt : k < n
    · have h1 : (k : Int) < (n : Int) := by omega
      obtain ⟨Z, hZ, hZ2⟩ := HAr.out
      have HT := hideIt (show wr.there q (k * 6) 6 from fun j hj => by
        rw [cell_of_row wr q (k * 6 + j) _ _ _ hZ]
        exact ⟨by simp; omega, frozen_of_row wr q _ _ _ hZ⟩)
      have HW := hideIt (fun W (e : W = wr.setCells q (k * 6) (#[Value.int .i64 (-7), .int .i64 0, .int .i64 0, .int .i64 0, .int .i64 0, .string ⟨#[]⟩]).toList) => show (∃ A : Array Value, W.heap[q]? = some (.cells A 40 (0, 0)) ∧ A.size = n * 6) ∧ Fr (fun k => k = q) wr W by
        subst e
        obtain ⟨A', e1, e2⟩ := setCells_heap q 40 (#[Value.int .i64 (-7), .int .i64 0, .int .i64 0, .int .i64 0, .int .i64 0, .string ⟨#[]⟩]).toList (k * 6) wr Z hZ (by show k * 6 + 6 ≤ Z.size; omega)
        refine ⟨⟨A', e1, ?_⟩, Fr.setCells _ _ _ _⟩
        have := congrArg List.length e2
        simp at this
        omega)
      clear hZ hZ2 HAr HA
      go_wp2_with (first | (refine store_absG rfl 40 (.tmp 12) (.tmp 11) rfl q (k * 6) #[.int .i64 (-7), .int .i64 0, .int .i64 0, .int .i64 0, .int .i64 0, .string ⟨#[]⟩] rfl rfl HT.out (by kernel_rfl) (by simp [Value.oneCell']) ?_; intro W hW; obtain ⟨hA3, hF3⟩ := HW.out W hW; have HA3 := hideIt hA3; have HF3 := hideIt (HF.out.trans hF3 (fun _ _ e => e)); clear hA3 hF3 hW HW))
      go_roundw
      case measure => simp [intOf]; omega
      case rel => exact ⟨k + 1, by go_num, by omega, HA3, HF3⟩
    · have hje : k = n := by omega
      have hjn : ¬ (k : Int) < (n : Int) := by omega
      go_wp2_with fail
      go_end0
      exact ⟨rfl, HF.out⟩

theorem overprog_nil (w : World) : Calls Try.prog 12 #[.slice none 0 0] w fun e w' => e = .returned (.tuple #[]) ∧ w' = w := by
  go_enter Try.func12, Try.ntmps12
  go_wp2_with fail
  go_loopw [2] (fun s2 wr => s2 = .int .i64 0 ∧ wr = w) (fun s2 _ => 0)
  case atStart => exact ⟨rfl, rfl⟩
  case round =>
    obtain ⟨rfl, rfl⟩ := hrel
    go_wp2_with fail
    go_end0
    exact ⟨rfl, rfl⟩
theorem overprog_any (ao : Option Addr) (cap : Nat) (l : List Ins) (hl : l.length ≤ 1000) (w : World) (h : InsFull w ao cap l) : Calls Try.prog 12 #[.slice ao l.length cap] w fun e w' => e = .returned (.tuple #[]) ∧ Fr (blk ao) w w' := by
  rcases h with ⟨rfl, rfl, rfl⟩ | ⟨q, A, rfl, rfl, h1, h2, _⟩
  · refine (overprog_nil w).mono ?_
    rintro e w' ⟨rfl, rfl⟩
    exact ⟨rfl, Fr.refl _ _⟩
  · refine (overprog_some q l.length hl w A h1 h2).mono ?_
    rintro e w' ⟨rfl, hF⟩
    exact ⟨rfl, hF.mono fun k e => ⟨_, rfl, e.symm⟩⟩

theorem readP_len (bs : List UInt8) : (readP bs).1.length ≤ 60 := by
  unfold readP
  split
  · simp
  · split
    · unfold readN
      obtain ⟨n, h1, h2⟩ := rCount_rng bs (0, 0, 0)
      rw [h1]
      split
      · simp
      · split
        · simp
        · split
          · simp
          · rw [rdL_len]; simpa using h2
    · simp

theorem ksame_true (ao bo : Option Addr) (cap cap2 : Nat) (l : List Ins) (hl : l.length ≤ 60) (w : World) (hA : InsRow w ao l) (hB : InsRow w bo l) : Calls Try.prog 10 #[.slice ao l.length cap, .slice bo l.length cap2] w fun e w' => e = .returned (.bool true) ∧ Fr (fun _ => False) w w' := by
  refine Calls.mono (ksameprog_any ao bo cap cap2 l l (by omega) (by omega) w hA hB) ?_
  rintro e w' ⟨r, rfl, hr, hF⟩
  exact ⟨by rw [hr.2 rfl], hF⟩

theorem preads_long (ao : Option Addr) (cap : Nat) (bs : List UInt8) (w : World) (h1 : 600 < bs.length) : Calls Try.prog 3 #[.slice ao bs.length cap] w fun e w' => e = .returned (.bool true) ∧ Fr (fun _ => False) w w' := by
  have hd1 : decide (600 < (bs.length : Int)) = true := by simp; omega
  clear h1
  have HA := hideIt pawake_any
  go_enter Try.func3, Try.ntmps3
  go_wp2_with fail
  refine Calls.mono (HA.out _) ?_
  rintro e w1 ⟨rfl, hF1⟩
  have HF1 := hideIt hF1
  clear hF1 HA
  go_wp2_with fail
  go_ret
  exact ⟨rfl, HF1.out⟩

set_option maxRecDepth 100000 in
set_option maxHeartbeats 4000000 in
theorem preads_short (ao : Option Addr) (cap : Nat) (bs : List UInt8) (w : World) (h1 : bs.length ≤ 600) (hB : BsAt w ao bs) (hcap : ao = none → cap = 0) (hcl : bs.length ≤ cap) (hcm : cap ≤ maxLen) (hnb : ∀ k, blk ao k → k < w.heap.size) :
    Calls Try.prog 3 #[.slice ao bs.length cap] w fun e w' => e = .returned (.bool true) ∧ Fr (fun _ => False) w w' := by
  have hd1 : decide (600 < (bs.length : Int)) = false := by simp; omega
  have HA := hideIt pawake_any
  have HL := hideIt (lent_any ao cap bs w hB hcap (by omega))
  have HRD := hideIt (fun (g : Nat) (w' : World) (h : Lent w' g bs) => gRead_any (some ⟨g, 0, none⟩) (bs.length + 3) bs w' h.bs (fun e => by cases e) (by omega) (fun k hk => by
    obtain ⟨_, e1, e2⟩ := hk
    obtain rfl := Option.some.inj e1
    have := (Array.getElem?_eq_some_iff.1 h).1
    simp only at e2
    omega))
  have HR2 := hideIt (fun (w' : World) (hF : Fr (fun _ => False) w w') => gRead_any ao cap bs w' (hB.fr hF (fun _ _ _ e => e)) hcap hcl (fun k hk => Nat.lt_of_lt_of_le (hnb k hk) hF.size))
  have HVR := hideIt (fun (w' : World) (hF : Fr (fun _ => False) w w') => hRead_any ao cap bs w' (hB.fr hF (fun _ _ _ e => e)) hcl hcm (fun k hk => Nat.lt_of_lt_of_le (hnb k hk) hF.size))
  have HKP := hideIt (fun (g : Nat) (w' : World) (h : Lent w' g bs) (hF : Fr (fun _ => False) w w') => kept_any g ao cap bs w' h (hB.fr hF (fun _ _ _ e => e)) hcap (by omega))
  have HLEN := hideIt (readP_len bs)
  generalize readP bs = rb at *
  obtain ⟨l, er, ea⟩ := rb
  clear hB hcap hcl hcm hnb h1
  unfold PReadP PHReadP at *
  dsimp only at HRD HVR HR2 HLEN
  go_enter Try.func3, Try.ntmps3
  go_wp2_with fail
  refine Calls.mono HL.out ?_
  rintro e w1 ⟨g, rfl, hg, hF1, hgs⟩
  have HG1 := hideIt (show Lent w1 g bs from hg)
  have HF1 := hideIt hF1
  have HGS := hideIt hgs
  clear hg hF1 hgs HL
  go_wp2_with fail
  refine Calls.mono (HRD.out g w1 HG1.out) ?_
  rintro e w2 ⟨a2, c2, rfl, hI2, hF2, hn2⟩
  have HG2 := hideIt (HG1.out.fr (hF2.alloc (.cells #[.int .i64 er, .int .i64 ea] 28)) (fun e => e))
  have HI2 := hideIt (hI2.fr ((Fr.refl (fun _ => False) w2).alloc (.cells #[.int .i64 er, .int .i64 ea] 28)) (fun _ _ e => e))
  have HF2 := hideIt ((HF1.out.trans hF2 (fun _ _ e => e)).alloc (.cells #[.int .i64 er, .int .i64 ea] 28))
  have HL2 := hideIt (fun k (h : blk a2 k) => show k < w2.heap.size from hI2.lt h)
  have HN2 := hideIt (fun k (h : blk a2 k) => show w1.heap.size ≤ k from hn2 k h)
  have HX2 := hideIt (show (w2.alloc (.cells #[.int .i64 er, .int .i64 ea] 28)).heap[w2.heap.size]? = some (.cells #[.int .i64 er, .int .i64 ea] 28 (0, 0)) from heap_alloc_new w2 _)
  clear hI2 hF2 hn2 HRD HG1
  go_wp2_with fail
  refine Calls.mono (HVR.out _ HF2.out) ?_
  rintro e w3 ⟨a3, c3, rfl, hI3, hF3, hn3⟩
  have HF23 := hideIt (hF3.alloc (.cells #[.int .i64 er, .int .i64 ea] 28))
  have HI3 := hideIt (hI3.fr ((Fr.refl (fun _ => False) w3).alloc (.cells #[.int .i64 er, .int .i64 ea] 28)) (fun _ _ _ e => e))
  have HN3 := hideIt (fun k (h : blk a3 k) => show w2.heap.size < k by have := hn3 k h; simp at this; omega)
  have HI2b := hideIt (HI2.out.fr HF23.out (fun _ _ e => e))
  have HG3 := hideIt (HG2.out.fr HF23.out (fun e => e))
  have HF3 := hideIt (HF2.out.trans HF23.out (fun _ _ e => e))
  have hX := (hF3.block w2.heap.size (by simp) (fun e => e)).trans HX2.out
  have hX0 := cellOfHeap hX 0 rfl
  have hX1 := cellOfHeap hX 1 rfl
  have hlt := (Array.getElem?_eq_some_iff.1 hX).1
  have HX := hideIt hX
  clear hX hI3 hF3 hn3 HVR HX2 HG2 HI2
  go_wp2_with fail
  refine Calls.mono (ksame_true a2 a3 c2 c3 l HLEN.out _ HI2b.out.row HI3.out) ?_
  rintro e w4 ⟨rfl, hF4⟩
  have hX4 := (hF4.block w2.heap.size (by simp; omega) (fun e => e)).trans (heap_old HX.out)
  have hZ4 := (hF4.block w3.heap.size (by simp) (fun e => e)).trans (heap_alloc_new w3 _)
  have y0 := cellOfHeap hX4 0 rfl
  have y1 := cellOfHeap hX4 1 rfl
  have z0 := cellOfHeap hZ4 0 rfl
  have z1 := cellOfHeap hZ4 1 rfl
  have HI2c := hideIt (HI2b.out.fr hF4 (fun _ _ e => e))
  have HI3c := hideIt (HI3.out.fr hF4 (fun _ _ _ e => e))
  have HKQ := hideIt (HKP.out g w4 (HG3.out.fr hF4 (fun e => e)) (HF3.out.trans hF4 (fun _ _ e => e)))
  have HF4 := hideIt (HF3.out.trans hF4 (fun _ _ e => e))
  clear hX4 hZ4 hF4 HI2b HI3 HG3 HF3 HF23 hX0 hX1 HKP
  go_wp2_with fail
  refine Calls.mono HKQ.out ?_
  rintro e w5 ⟨rfl, hF5⟩
  have HI2d := hideIt (HI2c.out.fr hF5 (fun _ _ e => e))
  have HI3d := hideIt (HI3c.out.fr hF5 (fun _ _ _ e => e))
  have HF5 := hideIt (HF4.out.trans hF5 (fun _ _ e => e))
  clear hF5 HKQ y0 y1 z0 z1 HI2c HI3c HF4
  go_wp2_with fail
  refine Calls.mono (overprog_any a2 c2 l (by have := HLEN.out; omega) w5 HI2d.out) ?_
  rintro e w6 ⟨rfl, hF6⟩
  have HI3e := hideIt (HI3d.out.fr hF6 (fun k _ h3 h2 => by have := HN3.out k h3; have := HL2.out k h2; omega))
  have HF6 := hideIt (HF5.out.trans hF6 (fun i hi e => by have := HN2.out i e; have := HF1.out.size; omega))
  clear hF6 HI2d HI3d HF5
  go_wp2_with fail
  refine Calls.mono (HR2.out w6 HF6.out) ?_
  rintro e w7 ⟨a7, c7, rfl, hI7, hF7, hn7⟩
  have hFx := hF7.alloc (.cells #[.int .i64 er, .int .i64 ea] 28)
  have HI7 := hideIt (hI7.fr ((Fr.refl (fun _ => False) w7).alloc (.cells #[.int .i64 er, .int .i64 ea] 28)) (fun _ _ e => e))
  have HI3f := hideIt (HI3e.out.fr hFx (fun _ _ _ e => e))
  have HF7 := hideIt (HF6.out.trans hFx (fun _ _ e => e))
  clear hI7 hF7 hn7 hFx HR2 HI3e HF6
  go_wp2_with fail
  refine Calls.mono (ksame_true a7 a3 c7 c3 l HLEN.out _ HI7.out.row HI3f.out) ?_
  rintro e w8 ⟨rfl, hF8⟩
  have HF8 := hideIt (HF7.out.trans hF8 (fun _ _ e => e))
  clear hF8
  go_wp2_with fail
  refine Calls.mono (HA.out _) ?_
  rintro e w9 ⟨rfl, hF9⟩
  have HF9 := hideIt (HF8.out.trans hF9 (fun _ _ e => e))
  clear hF9
  go_wp2_with fail
  go_ret
  exact ⟨rfl, HF9.out⟩

theorem preads_any (ao : Option Addr) (cap : Nat) (bs : List UInt8) (w : World) (hB : BsAt w ao bs) (hcap : ao = none → cap = 0) (hcl : bs.length ≤ cap) (hcm : cap ≤ maxLen) (hnb : ∀ k, blk ao k → k < w.heap.size) :
    Calls Try.prog 3 #[.slice ao bs.length cap] w fun e w' => e = .returned (.bool true) ∧ Fr (fun _ => False) w w' := by
  by_cases h1 : 600 < bs.length
  · exact preads_long ao cap bs w h1
  · exact preads_short ao cap bs w (by omega) hB hcap hcl hcm hnb

end Go.Proofs.Ytojgikaoiegmpaa
