/- ProgReads, part 2 of the road: what the program's functions do, each by its own walk. -/
import Derived.Test.YtojgikaoiegmpaaQ1
import Derived.Stop.BytesEq
import Derived.Deep.RegionHeld2
import Derived.Deep.RegionHeld3
import Derived.Deep.MidRow
import Derived.Test.YtojgikaoiegmpaaRows
import Derived.Lib.Walk
import Derived.Lib.BitFns
import Derived.Handy
import Derived.Great.BuildSlice
import Derived.Lib.Strings

/- Code: Check. -/
namespace Go.Proofs.Ytojgikaoiegmpaa
open Go.RowKit Go.IntWalk Go.Lib
set_option linter.unusedSimpArgs false
set_option linter.unusedVariables false
set_option maxRecDepth 100000

set_option maxRecDepth 100000 in
set_option maxHeartbeats 2000000 in
theorem check_any : CheckC := by
  rintro ⟨op, a, b, c, n, s⟩ w
  by_cases h1 : op < 1
  · have hE : checkE ⟨op, a, b, c, n, s⟩ = 2 := checkE_out _ (fun e => by have := e.1; simp at this; omega)
    have hd : decide (op < 1) = true := by simp [h1]
    rw [hE]
    unfold icells
    go_enter Try.func62, Try.ntmps62
    go_wp2_with fail
    go_ret
    exact ⟨rfl, (Fr.refl _ _).alloc _⟩
  by_cases h2 : 15 < op
  · have hE : checkE ⟨op, a, b, c, n, s⟩ = 2 := checkE_out _ (fun e => by have := e.2; simp at this; omega)
    have hd : decide (op < 1) = false := by simp [h1]
    have hd2 : decide (15 < op) = true := by simp [h2]
    rw [hE]
    unfold icells
    go_enter Try.func62, Try.ntmps62
    go_wp2_with fail
    go_ret
    exact ⟨rfl, (Fr.refl _ _).alloc _⟩
  · obtain ⟨m, rfl⟩ : ∃ m : Nat, op = m := ⟨op.toNat, by omega⟩
    have hm : m ≤ 15 := by omega
    have hm1 : 1 ≤ m := by omega
    have hd : decide ((m : Int) < 1) = false := by simp [h1]
    have hd2 : decide (15 < (m : Int)) = false := by simp [h2]
    have HK := hideIt kinds_any
    have hidx := idx_run m hm
    have HI1 := hideIt (show ∀ w1, Fr (fun _ => False) (w.alloc (.cells (icells ⟨m, a, b, c, n, s⟩) 40)) w1 → InsAt w1 w.heap.size ⟨m, a, b, c, n, s⟩ from fun w1 hF => (hF.block w.heap.size (by simp) (fun e => e)).trans (heap_new rfl))
    unfold icells
    go_enter Try.func62, Try.ntmps62
    go_wp2_with fail
    refine wp_region_held_drew (S := fun w0 => w0.cell? ⟨w.heap.size, 0, none⟩ = some (.int .i64 (m : Int))) (by kernel_rfl) ?_ (fun hHeld => ?_)
    · exact (HI1.out _ (Fr.refl _ _).drew).c0
    refine wpAnyH_take (i := 1) (v := ?v1) rfl (by kernel_rfl) (by kernel_rfl) (by kernel_rfl) (fun _ _ _ h => h) (Or.inl ⟨by rfl, ?hy1⟩) (by assumption) ?rest1
    case hy1 => intro w hSw; (try dsimp only at hSw); go_simp; (try with_reducible rfl)
    try simp only [Act.put, List.setIfInBounds_toArray, List.set_cons_zero, List.set_cons_succ]
    refine wpAnyH_take (i := 2) (v := ?v2) rfl (by kernel_rfl) (by kernel_rfl) (by kernel_rfl) (fun _ _ _ h => h) (Or.inl ⟨by rfl, ?hy2⟩) (by assumption) ?rest2
    case hy2 => intro w hSw; (try dsimp only at hSw); go_simp; (try with_reducible rfl)
    try simp only [Act.put, List.setIfInBounds_toArray, List.set_cons_zero, List.set_cons_succ]
    refine wpAnyH_ready (rs := [0]) (by kernel_rfl) (by simp) ?_
    refine AllReadyH.cons rfl (fun K hK => ?_) AllReadyH.nil
    go_simp
    refine Calls.mono (HK.out _) ?_
    rintro e w2 ⟨rfl, hF⟩
    have HF := hideIt hF
    clear hF
    refine hK.out _ _ ?_ (fun hHeld => ?_)
    · exact (HI1.out _ ((Fr.refl _ _).drew.trans HF.out (fun _ _ e => e))).c0
    clear hK K
    try simp only [Act.put, List.setIfInBounds_toArray, List.set_cons_zero, List.set_cons_succ]
    refine wpAnyH_take (i := 3) (v := ?v3) rfl (by kernel_rfl) (by kernel_rfl) (by kernel_rfl) (fun _ _ _ h => h) (Or.inl ⟨by rfl, ?hy3⟩) (by assumption) ?rest3
    case hy3 => intro w hSw; (try dsimp only at hSw); go_simp; first | done | exact hidx w | (with_reducible rfl) | rfl
    try simp only [Act.put, List.setIfInBounds_toArray, List.set_cons_zero, List.set_cons_succ]
    refine wpAnyH_ready (rs := [4]) (by kernel_rfl) (by simp) ?_
    refine AllReadyH.cons rfl (fun K hK => ?_) AllReadyH.nil
    go_simp
    refine hK.out _ _ ?_ (fun hHeld => ?_)
    · exact (HI1.out _ (((Fr.refl _ _).drew.trans HF.out (fun _ _ e => e)).alloc _)).c0
    clear hK K
    try simp only [Act.put, List.setIfInBounds_toArray, List.set_cons_zero, List.set_cons_succ]
    refine wpAnyH_done (by kernel_rfl) ?_ _
    skip
    go_wp2_with fail
    have hk0 : w.heap.size < w2.heap.size := by have := HF.out.size; simp at this; omega
    have HFW := hideIt (((Fr.refl (fun _ => False) w).alloc (.cells (icells ⟨m, a, b, c, n, s⟩) 40)).drew.trans HF.out (fun _ _ e => e))
    have HIW := hideIt (HI1.out _ (((Fr.refl _ _).drew.trans HF.out (fun _ _ e => e)).alloc (.stringIter (kindT m) 0)))
    clear HI1 HK hidx HF hHeld
    go_loopw [2] (fun v wr => v = .int .i64 0 ∧ ∃ (pos : Nat) (j : Ins), Hid (wr.heap[w2.heap.size]? = some (.stringIter (kindT m) pos)) ∧ Hid (InsAt wr w.heap.size j) ∧ Hid (Fr (fun _ => False) w wr) ∧ Hid (j.op = m ∧ chkL ((ltrs m).drop pos) j = chkL (ltrs m) ⟨m, a, b, c, n, s⟩)) (fun _ wr => (kindT m).size - wr.iterPos w2.heap.size)
    case atStart => exact ⟨rfl, 0, ⟨m, a, b, c, n, s⟩, hideIt (heap_new rfl), HIW, hideIt (HFW.out.alloc _), hideIt ⟨rfl, rfl⟩⟩
    case round =>
      obtain ⟨rfl, pos, j, HIT, HJ, HFR, HP⟩ := hrel
      have hne : w.heap.size ≠ w2.heap.size := by omega
      by_cases hp : pos < (kindT m).size
      · obtain ⟨hl, hd0, _⟩ := ltrs_at m pos hm hp
        have HD := hideIt hd0
        have hnx := fun ty => run_next_ascii_at (P := Try.prog) wr w2.heap.size (kindT m) pos ty HIT.out hp (by have := hl; omega)
        clear hd0
        generalize ((kindT m)[pos]'hp).toNat = l at *
        have HJ1 := hideIt (HJ.out.keep (iterAt_other wr w2.heap.size w.heap.size (kindT m) (pos + 1) hne))
        have HIT1 := hideIt (iterAt_heap wr w2.heap.size (kindT m) pos (pos + 1) HIT.out)
        have HFR1 := hideIt (HFR.out.iterAt (k := w2.heap.size) (fun e => by omega) (kindT m) (pos + 1))
        have hpos0 := hideIt (iterPos_of HIT.out)
        generalize wr.iterAt w2.heap.size (kindT m) (pos + 1) = W1 at *
        go_wp2_with fail
        refine Calls.mono (find_w w.heap.size l hl _) ?_
        rintro e w3 ⟨rfl, hF3⟩
        have HJ3 := hideIt (HJ1.out.fr hF3 (fun e => e))
        have HF3 := hideIt hF3
        clear hF3
        go_wp2_with fail
        refine Calls.mono (fits_w w.heap.size l hl j _ (HJ3.out.fr ((Fr.refl (fun _ => False) _).alloc _) (fun e => e))) ?_
        rintro e w5 ⟨rfl, hF5⟩
        have HJ5 := hideIt ((HJ3.out.fr ((Fr.refl (fun _ => False) _).alloc _) (fun e => e)).fr hF5 (fun e => e))
        have hc5 := (hF5.block w3.heap.size (by simp) (fun e => e)).trans (heap_new rfl)
        have hc50 := cellOfHeap hc5 0 rfl
        have hc51 := cellOfHeap hc5 1 rfl
        have hc52 := cellOfHeap hc5 2 rfl
        have hc53 := cellOfHeap hc5 3 rfl
        have HF15 := hideIt ((HF3.out.alloc _).trans hF5 (fun _ _ e => e))
        clear hF5
        cases hfit : fitsB l j
        · have hE : checkE ⟨m, a, b, c, n, s⟩ = 2 := checkE_none _ (by show chkL (ltrs (m : Int).toNat) _ = none; rw [Int.toNat_natCast, ← HP.out.2, HD.out]; simp [chkL, hfit])
          go_wp2_with fail
          go_ret
          exact ⟨by rw [hE]; rfl, HFR1.out.trans HF15.out (fun _ _ e => e)⟩
        · go_wp2_with fail
          refine Calls.mono (clear_w w.heap.size l hl j _ HJ5.out) ?_
          rintro e w6 ⟨rfl, hI6, hF6⟩
          have HI6 := hideIt hI6
          have HF16 := hideIt ((HF15.out.mono (S' := fun k => k = w.heap.size) (fun _ e => e.elim)).trans hF6 (fun _ _ e => e))
          clear hI6 hF6
          have HIT6 := hideIt ((HF16.out.block w2.heap.size (Array.getElem?_eq_some_iff.1 HIT1.out).1 (by omega)).trans HIT1.out)
          go_wp2_with fail
          go_roundw
          case measure =>
            rw [iterPos_of HIT6.out, hpos0.out]
            omega
          case rel =>
            exact ⟨rfl, pos + 1, clr l j, HIT6, HI6, hideIt (HFR1.out.trans HF16.out (fun i hi e => by omega)), hideIt ⟨(clr_op l j).trans HP.out.1, by rw [← HP.out.2, HD.out]; simp [chkL, hfit]⟩⟩
      · have hnx := fun ty => run_next_end_at (P := Try.prog) wr w2.heap.size (kindT m) pos ty HIT.out hp
        have HC := hideIt (show chkL (ltrs m) ⟨m, a, b, c, n, s⟩ = some j by rw [← HP.out.2, ltrs_end m pos hp]; rfl)
        obtain ⟨jo, ja, jb, jc, jn, js⟩ := j
        obtain rfl : jo = m := HP.out.1
        have c0 := HJ.out.c0
        have c1 := HJ.out.c1
        have c2 := HJ.out.c2
        have c3 := HJ.out.c3
        have c4 := HJ.out.c4
        have c5 := HJ.out.c5
        dsimp only at c0 c1 c2 c3 c4 c5
        by_cases hz : ja = 0 ∧ jb = 0 ∧ jc = 0 ∧ jn = 0 ∧ js = ⟨#[]⟩
        · have hE : checkE ⟨m, a, b, c, n, s⟩ = 0 := checkE_ok _ ⟨m, ja, jb, jc, jn, js⟩ (by show (1 : Int) ≤ m; omega) (by show (m : Int) ≤ 15; omega) (by show chkL (ltrs (m : Int).toNat) _ = _; rw [Int.toNat_natCast]; exact HC.out) hz
          obtain ⟨rfl, rfl, rfl, rfl, rfl⟩ := hz
          go_wp2_with fail
          go_ret
          exact ⟨by first | rfl | (rw [hE]; rfl), HFR.out⟩
        · have hE : checkE ⟨m, a, b, c, n, s⟩ = 2 := checkE_left _ ⟨m, ja, jb, jc, jn, js⟩ (by show chkL (ltrs (m : Int).toNat) _ = _; rw [Int.toNat_natCast]; exact HC.out) hz
          have HZ := hideIt hz
          clear hz
          go_wp2_with fail
          all_goals go_ret
          all_goals first | exact ⟨by rw [hE]; rfl, HFR.out⟩ | exact ⟨rfl, HFR.out⟩ | (exfalso; first | exact HZ.out (ba_nil (by assumption)) | refine HZ.out ⟨?_, ?_, ?_, ?_, ?_⟩ <;> first | assumption | rfl | exact ba_nil (by assumption))

end Go.Proofs.Ytojgikaoiegmpaa

/- The document's own numbers by sevens (retconref01.Sevens, Size). -/
namespace Go.Proofs.Ytojgikaoiegmpaa
open Go.RowKit Go.IntWalk
set_option linter.unusedSimpArgs false
set_option linter.unusedVariables false
set_option maxRecDepth 100000

theorem Row.set {w : World} {e : TypeId} {g cap : Nat} {bs : List UInt8} (h : Row w e (some ⟨g, 0, none⟩) cap bs) (j : Nat) (b : UInt8) : Row (w.setCell ⟨g, j, none⟩ (.int .u8 b.toNat)) e (some ⟨g, 0, none⟩) cap (bs.set j b) := by
  rcases h.form with ⟨h0, _⟩ | ⟨g', cur, h0, hh, hle, hcm, hcs, htake⟩
  · cases h0
  · obtain rfl : g = g' := by simpa using h0
    refine ⟨by simp [bv_length], Or.inr ⟨g, cap, _, by simp, Nat.zero_le _, heap_setCell_same w g j cur e _ hh, by simpa using hle, hcm, by simpa using hcs, ?_⟩⟩
    rw [Array.toList_setIfInBounds, List.length_set, Nat.mul_one, List.take_set, htake]
    simp [bv, List.map_set]

/-- One step more. -/
theorem sevens_split (m : Nat) : sevens m = if m / 128 = 0 then [UInt8.ofNat (m % 128)] else UInt8.ofNat (m % 128 + 128) :: sevens (m / 128) := by
  by_cases h : m < 128
  · rw [sevens_lt h, if_pos (by omega), Nat.mod_eq_of_lt h]
  · rw [sevens_ge h, if_neg (by omega)]

theorem sevens_step (n b m : Nat) (pre : List UInt8) (hm : 0 < m) (h : sevens n = pre ++ (if m = 0 then [UInt8.ofNat b] else UInt8.ofNat (b + 128) :: sevens m)) :
    sevens n = (pre ++ [UInt8.ofNat (b + 128)]) ++ (if m / 128 = 0 then [UInt8.ofNat (m % 128)] else UInt8.ofNat (m % 128 + 128) :: sevens (m / 128)) := by
  rw [h, if_neg (by omega), ← sevens_split m]
  simp

theorem byte_row (w : World) (b : UInt8) : Row (w.alloc (.cells #[.int .u8 b.toNat] 5)) 5 (some ⟨w.heap.size, 0, none⟩) 1 [b] :=
  ⟨by simp [bv], Or.inr ⟨w.heap.size, 1, _, rfl, Nat.zero_le _, heap_new rfl, Nat.le_refl _, by decide, rfl, rfl⟩⟩

end Go.Proofs.Ytojgikaoiegmpaa

/- The document's own writer (retconref01.Writer). -/
namespace Go.Proofs.Ytojgikaoiegmpaa
open Go.RowKit Go.IntWalk
set_option linter.unusedSimpArgs false
set_option linter.unusedVariables false
set_option maxRecDepth 100000

section
variable {w w' : World} {p : Nat} {ao : Option Addr} {cap : Nat} {bs : List UInt8} {bad : Bool}
end
end Go.Proofs.Ytojgikaoiegmpaa

/- The document's own writer: texts, IDs, what it tells. -/
namespace Go.Proofs.Ytojgikaoiegmpaa
open Go.RowKit Go.IntWalk
set_option linter.unusedSimpArgs false
set_option linter.unusedVariables false
set_option maxRecDepth 100000

theorem str_src (w : World) (x : ByteArray) : Src Try.prog 1 9 (.string x) x.data.toList.length (bv x.data.toList) w := by
  have := Src.ofString (P := Try.prog) w Try.underlying9 x
  simpa [byteCells, bv] using this

/-- A new row is new, behind whatever was made ahead of it. -/
theorem new_or {w w2 : World} {ao ao3 : Option Addr} (hs : w.heap.size ≤ w2.heap.size) (h : ao3 = ao ∨ ao3 = some ⟨w2.heap.size, 0, none⟩) : ao3 = ao ∨ ∀ k, blk ao3 k → w.heap.size ≤ k :=
  h.imp id fun e k hk => by
    subst e
    obtain ⟨_, e1, rfl⟩ := hk
    obtain rfl := Option.some.inj e1
    exact hs

end Go.Proofs.Ytojgikaoiegmpaa

/- Bytes that are told are new memory, all of it bytes; and they are written over. -/
namespace Go.Proofs.Ytojgikaoiegmpaa
open Go.RowKit Go.IntWalk
set_option linter.unusedSimpArgs false
set_option linter.unusedVariables false
set_option maxRecDepth 100000

/-- A slice whose whole room is bytes, of memory of its own. -/
def Full (w : World) (ao : Option Addr) (cap : Nat) (bs : List UInt8) : Prop :=
  (ao = none ∧ bs = [] ∧ cap = 0) ∨ ∃ g zs, ao = some ⟨g, 0, none⟩ ∧ w.heap[g]? = some (.cells (bv (bs ++ zs)).toArray 5 (0, 0)) ∧ cap = (bs ++ zs).length ∧ cap ≤ maxLen

theorem Full.bs {w : World} {ao : Option Addr} {cap : Nat} {bs : List UInt8} (h : Full w ao cap bs) : BsAt w ao bs := by
  rcases h with ⟨rfl, rfl, _⟩ | ⟨g, zs, rfl, hh, _⟩
  · exact Or.inl ⟨rfl, rfl⟩
  · refine Or.inr ⟨g, 0, rfl, fun j hj => ?_⟩
    rw [Nat.zero_add]
    refine cellOfHeap hh j ?_
    simp only [List.getElem?_toArray]
    rw [bv_get _ _ (by simp; omega), List.getElem_append_left hj]
theorem Full.lt {w : World} {ao : Option Addr} {cap : Nat} {bs : List UInt8} (h : Full w ao cap bs) {k : Nat} (hk : blk ao k) : k < w.heap.size := by
  obtain ⟨a, rfl, rfl⟩ := hk
  rcases h with ⟨h0, _⟩ | ⟨g, zs, h0, hh, _⟩
  · cases h0
  · obtain rfl := Option.some.inj h0
    exact (Array.getElem?_eq_some_iff.1 hh).1
theorem Full.fr {S : Nat → Prop} {w w' : World} {ao : Option Addr} {cap : Nat} {bs : List UInt8} (h : Full w ao cap bs) (hF : Fr S w w') (hS : ∀ k, blk ao k → ¬ S k) : Full w' ao cap bs := by
  rcases h with h | ⟨g, zs, rfl, hh, r⟩
  · exact Or.inl h
  · exact Or.inr ⟨g, zs, rfl, (hF.block g (Array.getElem?_eq_some_iff.1 hh).1 (hS g ⟨_, rfl, rfl⟩)).trans hh, r⟩

theorem zero_bytes (k : Nat) : Builtin.zeroCells #[.int .u8 0] k = (bv (List.replicate k 0)).toArray := by
  apply Array.ext'
  simp [Builtin.zeroCells, bv]
  apply List.ext_getElem
  · simp
  · intro i h1 h2
    simp [Nat.mod_one]

theorem clone_full (ao : Option Addr) (cap : Nat) (bs : List UInt8) (w : World) (h : BsAt w ao bs) (hcap : ao = none → cap = 0) (hb : bs.length ≤ 140737488355328) :
    Calls Try.prog 47 #[.slice ao bs.length cap] w fun e w' => ∃ ao' cap', e = .returned (.slice ao' bs.length cap') ∧ Full w' ao' cap' bs ∧ Fr (fun _ => False) w w' ∧ ∀ k, blk ao' k → w.heap.size ≤ k := by
  cases ao with
  | none =>
    obtain rfl := hcap rfl
    rcases h with ⟨_, rfl⟩ | ⟨_, _, e, _⟩
    · refine (clone_nil w).mono ?_
      rintro e w' ⟨rfl, rfl⟩
      exact ⟨none, 0, rfl, Or.inl ⟨rfl, rfl, rfl⟩, Fr.refl _ _, fun k ⟨_, e, _⟩ => by cases e⟩
    · cases e
  | some a =>
    have hF0 : Fr (fun _ => False) w (w.alloc (.cells #[] 5)) := (Fr.refl _ _).alloc _
    have h1 : BsAt (w.alloc (.cells #[] 5)) (some a) bs := h.fr hF0 (fun _ _ _ e => e)
    have hs := h1.src cap
    obtain ⟨i0, hi, hz0, hz1, hz2⟩ := info_parts Try.infoU8
    have hnil : ∀ (a : Option Addr) (n c : Nat) (w : World), (binOp .eql 22 (.slice a n c) (.slice none 0 0)).run Try.prog w = .ok (.bool a.isNone) w := fun a n c w => Lib.run_eql_slice_nil (P := Try.prog) w 22 5 a n c 0 0 Try.underlying22
    have key : ∃ ao' cap' w', (Builtin.append_ #[22, 22] 22 #[.slice (some ⟨w.heap.size, 0, none⟩) 0 0, .slice (some a) bs.length cap]).run Try.prog (w.alloc (.cells #[] 5)) = .ok (.slice ao' bs.length cap') w' ∧ Full w' ao' cap' bs ∧ Fr (fun _ => False) w w' ∧ ∀ k, blk ao' k → w.heap.size ≤ k := by
      by_cases he : bs = []
      · subst he
        refine ⟨some ⟨w.heap.size, 0, none⟩, 0, _, run_append_nothing (P := Try.prog) _ 22 22 22 5 i0 Try.underlying22 hi _ 0 0 (Nat.le_refl _) _ (by rw [hz1]; exact hs), Or.inr ⟨w.heap.size, [], rfl, heap_new rfl, rfl, Nat.zero_le _⟩, hF0, ?_⟩
        rintro k ⟨x, e1, rfl⟩
        obtain rfl := Option.some.inj e1
        exact Nat.le_refl _
      · have hpos : 0 < bs.length := List.length_pos_iff.2 he
        have hr := run_append_grow_src (P := Try.prog) (w.alloc (.cells #[] 5)) 22 22 22 5 i0 (.int .u8 0) Try.underlying22 hi hz0 (some ⟨w.heap.size, 0, none⟩) 0 0 [] (run_firstCells_some _ _ 0 _ 0 0 [] (by simp) (fun j u hu => by cases hu)) _ bs.length (bv bs) (by rw [hz1]; exact hs) (by omega) (by omega) (growslice_fits (by omega) (by rw [hz2]; omega))
        have hge := grownCap_ge (w.alloc (.cells #[] 5)) (0 + bs.length) 0 5
        have hcm := grownCap_le_maxLen (w.alloc (.cells #[] 5)) (0 + bs.length) 0 5 (by unfold maxLen; omega)
        refine ⟨_, _, _, by simpa using hr, Or.inr ⟨(w.alloc (.cells #[] 5)).heap.size, List.replicate (grownCap (w.alloc (.cells #[] 5)) (0 + bs.length) 0 5 - (0 + bs.length)) 0, rfl, ?_, ?_, by simpa using hcm⟩, (hF0.drew.alloc _), ?_⟩
        · rw [bv_append]
          have e : (Value.int .u8 0).cells = #[.int .u8 0] := rfl
          simp only [e, zero_bytes, List.nil_append, Nat.zero_add]
          have := heap_alloc_new ((w.alloc (.cells #[] 5)).drew) (.cells ((bv bs).toArray ++ (bv (List.replicate (grownCap (w.alloc (.cells #[] 5)) bs.length 0 5 - bs.length) 0)).toArray) 5)
          simpa using this
        · simp only [List.length_append, List.length_replicate, Nat.zero_add]
          simp only [Nat.zero_add] at hge
          omega
        · rintro k ⟨x, e1, rfl⟩
          obtain rfl := Option.some.inj e1
          simp
    obtain ⟨ao', cap', w1, hrun, hfull, hF, hn⟩ := key
    have HR := hideIt hrun
    clear hrun
    go_enter Try.func47, Try.ntmps47
    go_wp2_with (first | (at_builtin; refine wpList_append_run _ rfl (.tmp 5) (.tmp 6) 22 22 rfl _ _ _ _ rfl rfl HR.out ?_))
    go_ret
    exact ⟨ao', cap', rfl, hfull, hF, hn⟩

theorem out_full (p t : Nat) (ao : Option Addr) (cap : Nat) (bs : List UInt8) (at_ ea : Int) (w : World) (h : WAt w p t ao cap bs at_ 0 ea) (hb : bs.length ≤ 140737488355328) :
    Calls Try.prog 61 #[.pointer (some ⟨p, 0, none⟩)] w fun e w' => ∃ ao' cap', e = .returned (.tuple #[.slice ao' bs.length cap', .int .i64 0]) ∧ Full w' ao' cap' bs ∧ Fr (fun _ => False) w w' ∧ ∀ k, blk ao' k → w.heap.size ≤ k := by
  have hc := h.c
  have h0 := h.tp.c0
  have h2 := h.tp.c2
  go_enter Try.func61, Try.ntmps61
  go_wp2_with (go_at_call 81; refine (wnone_some p t _ hc).mono ?_; rintro e w' ⟨rfl, rfl⟩)
  refine (clone_full ao cap bs _ h.tp.row.bs h.tp.row.cap0 hb).mono ?_
  rintro e w' ⟨ao', cap', rfl, hrow, hF, hnew⟩
  go_wp2
  go_ret2
  exact ⟨ao', cap', rfl, hrow, hF, hnew⟩

theorem xor_fin : ∀ n : Fin 256, bits .xor .u8 (n.val : Int) 90 = (((UInt8.ofNat n.val) ^^^ 90).toNat : Int) := by decide +kernel

end Go.Proofs.Ytojgikaoiegmpaa

/- Code: Bytes, Size. -/
namespace Go.Proofs.Ytojgikaoiegmpaa
open Go.RowKit Go.IntWalk Go.Lib
set_option linter.unusedSimpArgs false
set_option linter.unusedVariables false
set_option maxRecDepth 100000

theorem WOk.frS {S : Nat → Prop} {w w' : World} {p t : Nat} {ao : Option Addr} {cap : Nat} {s : List UInt8 × Bool} (h : WOk w p t ao cap s) (hf : Fr S w w') (hp : ¬ S p) (hS : ∀ k, wset t ao k → ¬ S k) : WOk w' p t ao cap s := by
  obtain ⟨a, e, h⟩ := h
  exact ⟨a, e, h.fr hf hp hS⟩

/-- What Bytes answers. -/
def BytesP (i : Ins) (w : World) (e : Ending) (w' : World) : Prop :=
  ∃ ao cap, e = .returned (.tuple #[.slice ao (codeI i).length cap, .int .i64 (checkE i)]) ∧ Full w' ao cap (codeI i) ∧ Fr (fun _ => False) w w' ∧ ∀ k, blk ao k → w.heap.size ≤ k

theorem bytes_bad (i : Ins) (h2 : checkE i = 2) (w : World) : Calls Try.prog 35 #[.agg (icells i)] w (BytesP i w) := by
  have HC := hideIt (fun w => by have := check_any i w; rw [h2] at this; exact this)
  have hcode : codeI i = [] := by unfold codeI; rw [if_neg (by rw [h2]; decide)]
  have HE := hideIt (And.intro hcode h2)
  clear hcode h2
  obtain ⟨op, a, b, c, n, s⟩ := i
  unfold icells
  go_enter Try.func35, Try.ntmps35
  go_wp2_with fail
  refine Calls.mono (HC.out _) ?_
  rintro e w1 ⟨rfl, hF1⟩
  have HF1 := hideIt hF1
  clear hF1
  go_wp2_with fail
  go_ret2
  exact ⟨none, 0, by rw [HE.out.1, HE.out.2]; rfl, by rw [HE.out.1]; exact Or.inl ⟨rfl, rfl, rfl⟩, ((Fr.refl _ _).alloc _).trans HF1.out (fun _ _ e => e), fun k hk => by obtain ⟨_, e, _⟩ := hk; cases e⟩

set_option maxRecDepth 100000 in
set_option maxHeartbeats 2000000 in
theorem bytes_good (i : Ins) (m : Nat) (hG : Good i m) (w : World) : Calls Try.prog 35 #[.agg (icells i)] w (BytesP i w) := by
  have HC := hideIt (fun w => by have := check_any i w; rw [hG.check] at this; exact this)
  have HE := hideIt (And.intro hG.code hG.check)
  have HG := hideIt hG
  have hm : m ≤ 15 := hG.hi
  have hlen4 := (ltrs_nodup m hm).2
  have hop := hG.op
  clear hG
  have HII := hideIt (show ∀ w1, Fr (fun _ => False) (w.alloc (.cells (icells i) 40)) w1 → InsAt w1 w.heap.size i from fun w1 hF => (hF.block w.heap.size (by simp) (fun e => e)).trans (heap_new rfl))
  obtain ⟨op, a, b, c, n, s⟩ := i
  obtain rfl : op = m := hop
  have HK := hideIt kinds_any
  have hidx := idx_run m hm
  unfold icells
  go_enter Try.func35, Try.ntmps35
  go_wp2_with fail
  refine Calls.mono (HC.out _) ?_
  rintro e w1 ⟨rfl, hF1⟩
  have HF1 := hideIt hF1
  have hs1 : w.heap.size < w1.heap.size := by have := hF1.size; simp at this; omega
  clear hF1
  go_wp2_with fail
  refine Calls.mono (new_any w1) ?_
  rintro e w2 ⟨rfl, hW2, hF2, hsz2⟩
  have HI2 := hideIt (HII.out _ (HF1.out.trans hF2 (fun _ _ e => e)))
  have HF2 := hideIt (((Fr.refl (fun _ => False) w).alloc _).trans (HF1.out.trans hF2 (fun _ _ e => e)) (fun _ _ e => e))
  have HW2 := hideIt hW2
  clear hW2 hF2
  have c0 := HI2.out.c0
  dsimp only at c0
  go_wp2_with fail
  refine Calls.mono (wint_any (w1.heap.size + 1) w1.heap.size none 0 ([], false) m w2 HW2.out (by omega) (by simp)) ?_
  rintro e w3 ⟨rfl, hP⟩
  rw [wInt_small (m : Int) (by omega) (by omega) [], Int.toNat_natCast] at hP
  obtain ⟨ao, cap, hW3, hF3, hn3⟩ := hP
  have hnP : ¬ wset w1.heap.size none w.heap.size := by
    rintro (e | ⟨_, e, _⟩)
    · omega
    · cases e
  have HI1 := hideIt (fun w' (hF : Fr (fun _ => False) w3 w') => (HI2.out.fr hF3 hnP).fr hF (fun e => e))
  have HF3 := hideIt (HF2.out.trans hF3 (fun k hk e => by rcases e with e | ⟨_, e, _⟩; omega; cases e))
  have HW3 := hideIt hW3
  have HL3 := hideIt (show ∀ k, blk ao k → k < w3.heap.size from by obtain ⟨_, _, h⟩ := hW3; exact fun k hk => h.tp.row.lt hk)
  have HN3 := hideIt (show ∀ k, blk ao k → w2.heap.size ≤ k from hn3.elim (fun e k hk => by subst e; obtain ⟨_, e, _⟩ := hk; cases e) id)
  have hs3 : w2.heap.size ≤ w3.heap.size := hF3.size
  clear hW3 hF3 hn3 c0
  go_wp2_with fail
  refine wp_region_held_drew (S := fun w0 => w0.cell? ⟨w.heap.size, 0, none⟩ = some (.int .i64 (m : Int))) (by kernel_rfl) ?_ (fun hHeld => ?_)
  · exact (HI1.out _ (Fr.refl _ _).drew).c0
  refine wpAnyH_take (i := 1) (v := ?v1) rfl (by kernel_rfl) (by kernel_rfl) (by kernel_rfl) (fun _ _ _ h => h) (Or.inl ⟨by rfl, ?hy1⟩) (by assumption) ?rest1
  case hy1 => intro w hSw; (try dsimp only at hSw); go_simp; (try with_reducible rfl)
  try simp only [Act.put, List.setIfInBounds_toArray, List.set_cons_zero, List.set_cons_succ]
  refine wpAnyH_take (i := 2) (v := ?v2) rfl (by kernel_rfl) (by kernel_rfl) (by kernel_rfl) (fun _ _ _ h => h) (Or.inl ⟨by rfl, ?hy2⟩) (by assumption) ?rest2
  case hy2 => intro w hSw; (try dsimp only at hSw); go_simp; (try with_reducible rfl)
  try simp only [Act.put, List.setIfInBounds_toArray, List.set_cons_zero, List.set_cons_succ]
  refine wpAnyH_ready (rs := [0]) (by kernel_rfl) (by simp) ?_
  refine AllReadyH.cons rfl (fun K hK => ?_) AllReadyH.nil
  go_simp
  refine Calls.mono (HK.out _) ?_
  rintro e w4 ⟨rfl, hF⟩
  have HF := hideIt hF
  clear hF
  refine hK.out _ _ ?_ (fun hHeld => ?_)
  · exact (HI1.out _ ((Fr.refl _ _).drew.trans HF.out (fun _ _ e => e))).c0
  clear hK K
  try simp only [Act.put, List.setIfInBounds_toArray, List.set_cons_zero, List.set_cons_succ]
  refine wpAnyH_take (i := 3) (v := ?v3) rfl (by kernel_rfl) (by kernel_rfl) (by kernel_rfl) (fun _ _ _ h => h) (Or.inl ⟨by rfl, ?hy3⟩) (by assumption) ?rest3
  case hy3 => intro w hSw; (try dsimp only at hSw); go_simp; first | done | exact hidx w | (with_reducible rfl) | rfl
  try simp only [Act.put, List.setIfInBounds_toArray, List.set_cons_zero, List.set_cons_succ]
  refine wpAnyH_ready (rs := [4]) (by kernel_rfl) (by simp) ?_
  refine AllReadyH.cons rfl (fun K hK => ?_) AllReadyH.nil
  go_simp
  refine hK.out _ _ ?_ (fun hHeld => ?_)
  · exact (HI1.out _ (((Fr.refl _ _).drew.trans HF.out (fun _ _ e => e)).alloc _)).c0
  clear hK K
  try simp only [Act.put, List.setIfInBounds_toArray, List.set_cons_zero, List.set_cons_succ]
  refine wpAnyH_done (by kernel_rfl) ?_ _
  skip
  go_wp2_with fail
  have hs4 : w3.heap.size ≤ w4.heap.size := HF.out.size
  have HFW := hideIt (HF3.out.trans ((Fr.refl (fun _ => False) w3).drew.trans HF.out (fun _ _ e => e)) (fun _ _ e => e))
  have HIW := hideIt (HI1.out _ (((Fr.refl _ _).drew.trans HF.out (fun _ _ e => e)).alloc (.stringIter (kindT m) 0)))
  have HWW := hideIt (HW3.out.fr0 (((Fr.refl _ _).drew.trans HF.out (fun _ _ e => e)).alloc (.stringIter (kindT m) 0)))
  clear HI1 HK hidx HF hHeld HW3 HF3 HII HC HF1 HI2 HF2 HW2
  go_loopw [7] (fun _ wr => ∃ (pos : Nat) (ao : Option Addr) (cap : Nat), Hid (wr.heap[w4.heap.size]? = some (.stringIter (kindT m) pos)) ∧ Hid (InsAt wr w.heap.size ⟨m, a, b, c, n, s⟩) ∧ Hid (WOk wr (w1.heap.size + 1) w1.heap.size ao cap (UInt8.ofNat m :: encs ((ltrs m).take pos) ⟨m, a, b, c, n, s⟩, false)) ∧ Hid (Fr (fun _ => False) w wr) ∧ Hid (¬ wset w1.heap.size ao w.heap.size ∧ ¬ wset w1.heap.size ao w4.heap.size ∧ (∀ k, wset w1.heap.size ao k → w.heap.size ≤ k) ∧ pos ≤ (ltrs m).length)) (fun _ wr => (kindT m).size - wr.iterPos w4.heap.size)
  case atStart =>
    refine ⟨0, ao, cap, hideIt (heap_new rfl), HIW, HWW, hideIt (HFW.out.alloc _), hideIt ⟨?_, ?_, ?_, Nat.zero_le _⟩⟩
    · rintro (e | e)
      · omega
      · have := HN3.out _ e; omega
    · rintro (e | e)
      · omega
      · have := HL3.out _ e; omega
    · rintro k (e | e)
      · omega
      · have := HN3.out _ e; omega
  case round =>
    obtain ⟨pos, ao, cap, HIT, HJ, HW, HFR, HP⟩ := hrel
    have hne : w.heap.size ≠ w4.heap.size := by omega
    by_cases hp : pos < (kindT m).size
    · obtain ⟨hl, _, ht0⟩ := ltrs_at m pos hm hp
      have hfit : fitsB ((kindT m)[pos]'hp).toNat ⟨m, a, b, c, n, s⟩ = true := HG.out.fit _ (by rw [ltrs_get m pos hp]; exact List.getElem_mem _)
      have HT := hideIt ht0
      have hnx := fun ty => run_next_ascii_at (P := Try.prog) wr w4.heap.size (kindT m) pos ty HIT.out hp (by have := hl; omega)
      clear ht0
      generalize ((kindT m)[pos]'hp).toNat = l at *
      have HFI := hideIt ((Fr.refl (fun k => k = w4.heap.size) wr).iterAt (k := w4.heap.size) (fun _ => rfl) (kindT m) (pos + 1))
      have HJ1 := hideIt (HJ.out.fr HFI.out hne)
      have HW1 := hideIt (HW.out.frS HFI.out (by omega) (fun k hk e => HP.out.2.1 (e ▸ hk)))
      have HIT1 := hideIt (iterAt_heap wr w4.heap.size (kindT m) pos (pos + 1) HIT.out)
      have HFR1 := hideIt (HFR.out.trans HFI.out (fun i hi e => by omega))
      have hpos0 := hideIt (iterPos_of HIT.out)
      generalize wr.iterAt w4.heap.size (kindT m) (pos + 1) = W1 at *
      have hblen : (UInt8.ofNat m :: encs ((ltrs m).take pos) ⟨m, a, b, c, n, s⟩).length + 84 ≤ 140737488355328 := by
        have h1 := encs_len ((ltrs m).take pos) ⟨m, a, b, c, n, s⟩ (fun l hl => ltrs_ok m hm l (List.mem_of_mem_take hl)) (fun l hl => HG.out.fit l (List.mem_of_mem_take hl))
        rw [List.length_take] at h1
        rw [List.length_cons]
        omega
      go_wp2_with fail
      refine Calls.mono (find_w w.heap.size l hl _) ?_
      rintro e w5 ⟨rfl, hF5⟩
      have HJ5 := hideIt (HJ1.out.fr hF5 (fun e => e))
      have HW5 := hideIt (HW1.out.fr0 hF5)
      have HIT5 := hideIt ((hF5.block w4.heap.size (Array.getElem?_eq_some_iff.1 HIT1.out).1 (fun e => e)).trans HIT1.out)
      have HFR5 := hideIt (HFR1.out.trans hF5 (fun _ _ e => e))
      clear hF5
      go_wp2_with fail
      refine Calls.mono (write_w w.heap.size l hl ⟨m, a, b, c, n, s⟩ (w1.heap.size + 1) w1.heap.size ao cap _ w5 HJ5.out hfit HW5.out hblen) ?_
      rintro e w6 ⟨rfl, hP6⟩
      rw [wL_fits l hl _ hfit] at hP6
      obtain ⟨ao6, cap6, hW6, hF6, hn6⟩ := hP6
      have HW6 := hideIt hW6
      have HF6 := hideIt hF6
      have HN6 := hideIt hn6
      have hz5 := HFR5.out.size
      clear hW6 hF6 hn6
      have hk5 : w4.heap.size < w5.heap.size := (Array.getElem?_eq_some_iff.1 HIT5.out).1
      have HIT6 := hideIt ((HF6.out.block w4.heap.size hk5 HP.out.2.1).trans HIT5.out)
      go_wp2_with fail
      go_roundw
      case measure =>
        rw [iterPos_of HIT6.out, hpos0.out]
        omega
      case rel =>
        refine ⟨pos + 1, ao6, cap6, HIT6, hideIt (HJ5.out.fr HF6.out HP.out.1), hideIt ?_, hideIt (HFR5.out.trans HF6.out (fun k hk e => by have := HP.out.2.2.1 k e; omega)), hideIt ⟨?_, ?_, ?_, ?_⟩⟩
        · have := HW6.out
          rw [HT.out, encs_snoc]
          exact this
        · exact wset_old (Nat.le_refl _) HJ5.out.lt HN6.out HP.out.1
        · exact wset_old (Nat.le_refl _) hk5 HN6.out HP.out.2.1
        · intro k hk
          rcases hk with e | e
          · exact HP.out.2.2.1 k (Or.inl e)
          · rcases HN6.out with h | h
            · exact HP.out.2.2.1 k (Or.inr (h ▸ e))
            · have := h k e; omega
        · rw [ltrs_length]; omega
    · have hnx := fun ty => run_next_end_at (P := Try.prog) wr w4.heap.size (kindT m) pos ty HIT.out hp
      have htk : (ltrs m).take pos = ltrs m := List.take_of_length_le (by rw [ltrs_length]; omega)
      obtain ⟨at_, ea, hWA⟩ := HW.out
      rw [htk] at hWA
      have hWA' : WAt wr (w1.heap.size + 1) w1.heap.size ao cap (UInt8.ofNat m :: encs (ltrs m) ⟨m, a, b, c, n, s⟩) at_ 0 ea := by simpa using hWA
      have HWA := hideIt hWA'
      clear hWA hWA' htk
      have hblen : (UInt8.ofNat m :: encs (ltrs m) ⟨m, a, b, c, n, s⟩).length ≤ 140737488355328 := by
        have h1 := encs_len (ltrs m) ⟨m, a, b, c, n, s⟩ (ltrs_ok m hm) HG.out.fit
        rw [List.length_cons]
        omega
      go_wp2_with fail
      refine Calls.mono (out_full (w1.heap.size + 1) w1.heap.size ao cap _ at_ ea wr HWA.out hblen) ?_
      rintro e w7 ⟨ao7, cap7, rfl, hfull, hF7, hn7⟩
      have HQ := hideIt (And.intro hfull (And.intro hF7 hn7))
      clear hfull hF7 hn7
      go_wp2_with fail
      go_ret2
      exact ⟨ao7, cap7, by rw [HE.out.1, HE.out.2]; rfl, by rw [HE.out.1]; exact HQ.out.1, HFR.out.trans HQ.out.2.1 (fun _ _ e => e), fun k hk => Nat.le_trans HFR.out.size (HQ.out.2.2 k hk)⟩

theorem bytes_any (i : Ins) (w : World) : Calls Try.prog 35 #[.agg (icells i)] w (BytesP i w) := by
  rcases checkE_or i with h | h
  · obtain ⟨m, hG⟩ := good_of i h
    exact bytes_good i m hG w
  · exact bytes_bad i h w

theorem size_any (i : Ins) (w : World) : Calls Try.prog 88 #[.agg (icells i)] w fun e w' => e = .returned (.int .i64 (codeI i).length) ∧ Fr (fun _ => False) w w' := by
  have HB := hideIt (bytes_any i)
  obtain ⟨op, a, b, c, n, s⟩ := i
  unfold icells
  go_enter Try.func88, Try.ntmps88
  go_wp2_with fail
  refine Calls.mono (HB.out _) ?_
  rintro e w1 ⟨ao, cap, rfl, _, hF, _⟩
  have HF := hideIt hF
  clear hF
  go_wp2_with fail
  go_ret
  exact ⟨rfl, ((Fr.refl _ _).alloc _).trans HF.out (fun _ _ e => e)⟩

end Go.Proofs.Ytojgikaoiegmpaa

/- Code: Read. -/
namespace Go.Proofs.Ytojgikaoiegmpaa
open Go.RowKit Go.IntWalk Go.Lib
set_option linter.unusedSimpArgs false
set_option linter.unusedVariables false
set_option maxRecDepth 100000

/-- A reader's place and its fault's lie within the bytes. -/
def FB (bs : List UInt8) (s : Nat × Int × Int) : Prop := s.1 ≤ bs.length ∧ 0 ≤ s.2.2 ∧ s.2.2 ≤ bs.length

theorem rdNum_inl {bs : List UInt8} {a : Nat} {lo hi ab e x : Int} (h : rdNum bs a lo hi ab = .inl (e, x)) (ha : a ≤ bs.length) : 0 ≤ x ∧ x ≤ bs.length := by
  unfold rdNum at h
  split at h
  · simp at h; omega
  · simp at h; omega
  · simp at h; omega
  · split at h
    · simp at h; omega
    · split at h
      · simp at h; omega
      · simp at h
theorem rInt_fb {bs : List UInt8} {lo hi : Int} {s : Nat × Int × Int} (h : FB bs s) : FB bs (rInt bs lo hi s).2 := by
  unfold rInt
  split
  · exact h
  · split
    · rename_i e x hx
      have := rdNum_inl hx h.1
      exact ⟨h.1, this⟩
    · rename_i n m hx
      exact ⟨rdNum_le hx h.1, h.2⟩
theorem rText_fb {bs : List UInt8} {most : Int} {s : Nat × Int × Int} (h : FB bs s) : FB bs (rText bs most s).2 := by
  unfold rText
  split
  · exact h
  · split
    · rename_i e x hx
      refine ⟨h.1, ?_⟩
      unfold rdText at hx
      split at hx
      · rename_i f hf
        obtain rfl := Sum.inl.inj hx
        exact rdNum_inl hf h.1
      · split at hx
        · simp at hx; show 0 ≤ x ∧ x ≤ bs.length; omega
        · cases hx
    · rename_i x m hx
      exact ⟨rdText_le hx, h.2⟩
theorem tk_fb {bs : List UInt8} {l : Nat} {i : Ins} {s : Nat × Int × Int} (h : FB bs s) : FB bs (tk bs l i s).2 := by
  unfold tk
  split
  · exact rText_fb h
  · exact rInt_fb h
theorem rInt_rng (bs : List UInt8) (lo hi : Int) (s : Nat × Int × Int) (hh : 0 ≤ hi) : 0 ≤ (rInt bs lo hi s).1 ∧ (rInt bs lo hi s).1 ≤ hi := by
  unfold rInt
  split
  · exact ⟨Int.le_refl _, hh⟩
  · split
    · exact ⟨Int.le_refl _, hh⟩
    · rename_i n m hx
      unfold rdNum at hx
      split at hx
      · cases hx
      · cases hx
      · cases hx
      · split at hx
        · cases hx
        · split at hx
          · cases hx
          · simp at hx
            show 0 ≤ (n : Int) ∧ (n : Int) ≤ hi
            omega

def zeroI : Ins := ⟨0, 0, 0, 0, 0, ⟨#[]⟩⟩
/-- The instruction that stands at the head of bytes, and the reader's state behind it. -/
def tks (cs : List UInt8) (ls : List Nat) (x : Ins × (Nat × Int × Int)) : Ins × (Nat × Int × Int) := ls.foldl (fun x l => tk cs l x.1 x.2) x
def rdI (cs : List UInt8) : Ins × (Nat × Int × Int) := tks cs (ltrs (rInt cs 1 15 (0, 0, 0)).1.toNat) (⟨(rInt cs 1 15 (0, 0, 0)).1, 0, 0, 0, 0, ⟨#[]⟩⟩, (rInt cs 1 15 (0, 0, 0)).2)
def win (bs : List UInt8) (a : Nat) : List UInt8 := (bs.drop a).take 67
/-- What Read tells: the instruction, the place, the fault. -/
def readR (bs : List UInt8) (at_ : Int) : Ins × Int × Int × Int :=
  if at_ < 0 ∨ (bs.length : Int) < at_ then (zeroI, 0, 5, 0)
  else if (rdI (win bs at_.toNat)).2.2.1 = 0 then ((rdI (win bs at_.toNat)).1, at_ + (rdI (win bs at_.toNat)).2.1, 0, 0)
  else (zeroI, 0, (rdI (win bs at_.toNat)).2.2.1, at_ + (rdI (win bs at_.toNat)).2.2.2)
def readV (r : Ins × Int × Int × Int) : Value := .tuple #[.agg (icells r.1), .int .i64 r.2.1, .agg #[.int .i64 r.2.2.1, .int .i64 r.2.2.2]]

theorem read_out (ao : Option Addr) (cap : Nat) (bs : List UInt8) (at_ : Int) (w : World) (h : at_ < 0 ∨ (bs.length : Int) < at_) :
    Calls Try.prog 52 #[.slice ao bs.length cap, .int .i64 at_] w fun e w' => e = .returned (readV (readR bs at_)) ∧ Fr (fun _ => False) w w' := by
  have hr : readV (readR bs at_) = .tuple #[.agg (icells zeroI), .int .i64 0, .agg #[.int .i64 5, .int .i64 0]] := by unfold readR; rw [if_pos h]; rfl
  rw [hr]
  clear hr
  by_cases h1 : at_ < 0
  · have hd : decide (at_ < 0) = true := by simp [h1]
    clear h
    go_enter Try.func52, Try.ntmps52
    go_wp2_with fail
    refine bodyPost_ret (v := .tuple #[.agg (icells zeroI), .int .i64 0, .agg #[.int .i64 5, .int .i64 0]]) (by simp [results, Try.results52, go_sem, icells, zeroI]) rfl ⟨rfl, ?_⟩
    exact ((Fr.refl _ _).alloc _).alloc _
  · have h2 : (bs.length : Int) < at_ := h.resolve_left h1
    have hd : decide (at_ < 0) = false := by simp [h1]
    have hd2 : decide ((bs.length : Int) < at_) = true := by simp [h2]
    clear h
    go_enter Try.func52, Try.ntmps52
    go_wp2_with fail
    refine bodyPost_ret (v := .tuple #[.agg (icells zeroI), .int .i64 0, .agg #[.int .i64 5, .int .i64 0]]) (by simp [results, Try.results52, go_sem, icells, zeroI]) rfl ⟨rfl, ?_⟩
    exact ((Fr.refl _ _).alloc _).alloc _

theorem setCell_far {w : World} {k b j : Nat} {v : Value} (h : k ≠ b) : (w.setCell ⟨b, j, none⟩ v).heap[k]? = w.heap[k]? := heap_setCell_other _ _ _ _ h

theorem drew_heap (w : World) : w.drew.heap = w.heap := rfl

theorem there_row {w : World} {b : Nat} {C : Array Value} {t : TypeId} (h : w.heap[b]? = some (.cells C t (0, 0))) (n : Nat) (hn : n ≤ C.size) : w.there b 0 n := fun j hj => by
  rw [Nat.zero_add, cell_of_row w b j _ _ _ h]
  exact ⟨by simp; omega, frozen_of_row w b j _ _ h⟩

theorem setCells_heap (b : Nat) (t : TypeId) : ∀ (vs : List Value) (o : Nat) (w : World) (cur : Array Value), w.heap[b]? = some (.cells cur t (0, 0)) → o + vs.length ≤ cur.size →
    ∃ A : Array Value, (w.setCells b o vs).heap[b]? = some (.cells A t (0, 0)) ∧ A.toList = cur.toList.take o ++ vs ++ cur.toList.drop (o + vs.length)
  | [], o, w, cur, h, _ => ⟨cur, h, by simp⟩
  | v :: vs, o, w, cur, h, hle => by
    simp only [List.length_cons] at hle
    obtain ⟨A, h1, h2⟩ := setCells_heap b t vs (o + 1) (w.setCell ⟨b, o, none⟩ v) (cur.setIfInBounds o v) (heap_setCell_same w b o cur t v h) (by simp; omega)
    refine ⟨A, h1, ?_⟩
    have ho : o < cur.toList.length := by simp; omega
    rw [h2, Array.toList_setIfInBounds]
    have e1 : (cur.toList.set o v).take (o + 1) = cur.toList.take o ++ [v] := by
      rw [List.set_eq_take_append_cons_drop, if_pos ho, List.take_append]
      have hl : (cur.toList.take o).length = o := by simp; omega
      rw [hl, List.take_of_length_le (by omega), show o + 1 - o = 1 by omega]
      simp
    have e2 : (cur.toList.set o v).drop (o + 1 + vs.length) = cur.toList.drop (o + (vs.length + 1)) := by
      rw [List.drop_set_of_lt (by omega), show o + 1 + vs.length = o + (vs.length + 1) by omega]
    rw [e1, e2]
    simp

theorem setCells_full (b : Nat) (t : TypeId) (vs : List Value) (w : World) (cur : Array Value) (h : w.heap[b]? = some (.cells cur t (0, 0))) (hl : vs.length = cur.size) : (w.setCells b 0 vs).heap[b]? = some (.cells vs.toArray t (0, 0)) := by
  obtain ⟨A, h1, h2⟩ := setCells_heap b t vs 0 w cur h (by omega)
  rw [h1]
  have e : A = vs.toArray := by
    apply Array.ext'
    rw [h2, List.drop_of_length_le (by simp; omega)]
    simp
  rw [e]

theorem tape_setCells (b : Nat) : ∀ (vs : List Value) (o : Nat) (w : World), (w.setCells b o vs).tape = w.tape ∧ (w.setCells b o vs).heap.size = w.heap.size
  | [], o, w => ⟨rfl, rfl⟩
  | v :: vs, o, w => by
    have := tape_setCells b vs (o + 1) (w.setCell ⟨b, o, none⟩ v)
    exact ⟨this.1, this.2.trans (by simp)⟩

theorem Fr.setCells (w : World) (b o : Nat) (vs : List Value) : Fr (fun k => k = b) w (w.setCells b o vs) :=
  ⟨World.os_setCells _ _ _ _, (tape_setCells b vs o w).1, World.output_setCells _ _ _ _, Nat.le_of_eq (tape_setCells b vs o w).2.symm, fun k hk hne => World.heap_setCells_other w b o vs hk hne⟩

/-- A struct is stored over one. -/
theorem store_over {b : Nat} {t : TypeId} {C V : Array Value} {w : World} (h : w.heap[b]? = some (.cells C t (0, 0))) (hs : V.size = C.size) :
    (w.setCells b 0 V.toList).heap[b]? = some (.cells V t (0, 0)) ∧ Fr (fun k => k = b) w (w.setCells b 0 V.toList) := by
  have := setCells_full b t V.toList w C h (by simpa using hs)
  exact ⟨by simpa using this, Fr.setCells w b 0 V.toList⟩

theorem icells_one (i : Ins) : (icells i).all (·.oneCell') = true := by simp [icells, Value.oneCell']
theorem fault_one (x y : Int) : (#[Value.int .i64 x, Value.int .i64 y] : Array Value).all (·.oneCell') = true := by simp [Value.oneCell']

/-- What Open answers of the window. -/
def OpenP (cs : List UInt8) (w : World) (e : Ending) (w' : World) : Prop :=
  ∃ p t ao' cap', e = .returned (.pointer (some ⟨p, 0, none⟩)) ∧ RAt w' p t ao' cap' cs 0 0 0 ∧ Fr (fun _ => False) w w' ∧ w.heap.size ≤ p ∧ w.heap.size ≤ t ∧ ∀ k, blk ao' k → w.heap.size ≤ k

theorem win_len (bs : List UInt8) (a : Nat) : (win bs a).length = min 67 (bs.length - a) := by simp [win]

theorem open_end (ao : Option Addr) (bs : List UInt8) (a : Nat) (w W : World) (h : BsAt w ao bs) (hF : Fr (fun _ => False) w W) (he : bs.length = a) :
    Calls Try.prog 24 #[.slice ao (bs.length - a) 0] W (OpenP (win bs a) W) := by
  have hl : (win bs a).length = bs.length - a := by rw [win_len]; omega
  have hnil : win bs a = [] := List.eq_nil_of_length_eq_zero (by rw [hl]; omega)
  have hB : BsAt W ao (win bs a) := by
    rw [hnil]
    rcases h with ⟨rfl, _⟩ | ⟨b, off, rfl, _⟩
    · exact Or.inl ⟨rfl, rfl⟩
    · exact Or.inr ⟨b, off, rfl, fun j hj => absurd hj (by simp)⟩
  have := open_any ao 0 (win bs a) W hB (fun _ => rfl) (by rw [hl]; omega)
  rw [hl] at this
  exact this

theorem open_mid (ao : Option Addr) (cap : Nat) (bs : List UInt8) (a n : Nat) (w W : World) (h : BsAt w ao bs) (hcap0 : ao = none → cap = 0) (hcl : bs.length ≤ cap) (hale : a ≤ bs.length) (hF : Fr (fun _ => False) w W) (hca : ¬ cap = a) (hn : n = min 67 (bs.length - a)) :
    Calls Try.prog 24 #[.slice (Option.map (fun x => x.add a) ao) n (cap - a)] W (OpenP (win bs a) W) := by
  have hl : (win bs a).length = n := by rw [win_len, hn]
  have hB : BsAt W (Option.map (fun x => x.add a) ao) (win bs a) := by
    have h' := h.fr hF (fun _ _ _ e => e)
    rcases h' with ⟨rfl, rfl⟩ | ⟨b, off, rfl, hc⟩
    · have := hcap0 rfl
      simp at hale
      omega
    · refine Or.inr ⟨b, off + a, by simp [Addr.add_lit], fun j hj => ?_⟩
      have hj2 : a + j < bs.length := by rw [win_len] at hj; omega
      have := hc (a + j) hj2
      rw [← Nat.add_assoc] at this
      rw [this]
      congr 2
      simp [win]
  have := open_any (Option.map (fun x => x.add a) ao) (cap - a) (win bs a) W hB (fun e => by cases ao with | none => rw [hcap0 rfl]; omega | some x => cases e) (by rw [hl]; omega)
  rw [hl] at this
  exact this

end Go.Proofs.Ytojgikaoiegmpaa

/- Package prog: rows of instructions; passes, mayNot, beyond, walked. -/
namespace Go.Proofs.Ytojgikaoiegmpaa
open Go.RowKit Go.IntWalk
set_option linter.unusedSimpArgs false
set_option linter.unusedVariables false
set_option maxRecDepth 100000

theorem store_absG {P : Program} {ops : Array Oper} {rest : List Oper} {op : Oper} {a : Act} {w : World} {Q : Exit → Act → World → Prop} (hgd : op.guard = none) (ty : TypeId) (x y : Operand) (ho : op.op = .store ty x y)
    (b o : Nat) (cells : Array Value) (hx : a.eval x = .pointer (some ⟨b, o, none⟩)) (hy : a.eval y = .agg cells)
    (ht : w.there b o cells.size) (hi : (P.info? ty).map (·.size) = some cells.size) (h1 : cells.all (·.oneCell') = true)
    (h : ∀ W, W = w.setCells b o cells.toList → wpList P ops Q rest (a.put op.dst undef) W) : wpList P ops Q (op :: rest) a w :=
  wpList_store_mid hgd ty x y ho b o cells hx hy ht hi h1 (h _ rfl)

/-- A row of instructions, wherever it lies. -/
def InsRow (w : World) (ao : Option Addr) (l : List Ins) : Prop := l = [] ∨ ∃ b off, ao = some ⟨b, off, none⟩ ∧ b < w.heap.size ∧ ∀ j (h : j < l.length), w.rangeAt b (off + j * 6) (icells l[j]).toList
theorem InsRow.get {w : World} {ao : Option Addr} {l : List Ins} (h : InsRow w ao l) (j : Nat) (hj : j < l.length) : ∃ b off, ao = some ⟨b, off, none⟩ ∧ b < w.heap.size ∧ w.rangeAt b (off + j * 6) (icells l[j]).toList := by
  rcases h with rfl | ⟨b, off, e, hb, hc⟩
  · simp at hj
  · exact ⟨b, off, e, hb, hc j hj⟩
theorem InsRow.fr {S : Nat → Prop} {w w' : World} {ao : Option Addr} {l : List Ins} (h : InsRow w ao l) (hF : Fr S w w') (hS : ∀ k, k < w.heap.size → blk ao k → ¬ S k) : InsRow w' ao l := by
  rcases h with rfl | ⟨b, off, e, hb, hc⟩
  · exact Or.inl rfl
  · have := hF.size
    refine Or.inr ⟨b, off, e, by omega, fun j hj t v hv => ?_⟩
    exact (World.cell?_of_block (a := ⟨b, off + j * 6 + t, none⟩) (hF.block b hb (hS b hb ⟨_, e, rfl⟩))).trans (hc j hj t v hv)

theorem insSize6 : (Try.prog.info? 40).map (·.size) = some 6 := by kernel_rfl
theorem insSize (i : Ins) : (Try.prog.info? 40).map (·.size) = some (icells i).toList.length := insSize6
theorem insSizeA (i : Ins) : (Try.prog.info? 40).map (·.size) = some (icells i).size := insSize6

/-- How many instructions one may pass over. -/
def passI (i : Ins) : Int := if i.op = 12 ∨ i.op = 13 then i.n else 0
theorem gpasses_any (i : Ins) (w : World) : Calls Try.prog 53 #[.agg (icells i)] w fun e w' => e = .returned (.int .i64 (passI i)) ∧ Fr (fun _ => False) w w' := by
  have hI : InsAt (w.alloc (.cells (icells i) 40)) w.heap.size i := heap_alloc_new w _
  have c0 := hI.c0
  have c4 := hI.c4
  have HF := hideIt (show Fr (fun _ => False) w (w.alloc (.cells (icells i) 40)) from (Fr.refl _ w).alloc _)
  obtain ⟨op, a, b, c, n, s⟩ := i
  unfold icells at c0 c4 HF ⊢
  dsimp only at c0 c4 HF ⊢
  clear hI
  by_cases h1 : op = 12
  · subst h1
    have hp : passI ⟨12, a, b, c, n, s⟩ = n := by simp [passI]
    rw [hp]
    go_enter Try.func53, Try.ntmps53
    go_wp2_with fail
    go_ret
    exact ⟨rfl, HF.out⟩
  · by_cases h2 : op = 13
    · subst h2
      have hp : passI ⟨13, a, b, c, n, s⟩ = n := by simp [passI]
      rw [hp]
      go_enter Try.func53, Try.ntmps53
      go_wp2_with fail
      go_ret
      exact ⟨rfl, HF.out⟩
    · have hp : passI ⟨op, a, b, c, n, s⟩ = 0 := by simp [passI, h1, h2]
      rw [hp]
      have h1b : (op == 12) = false := by simpa using h1
      have h2b : (op == 13) = false := by simpa using h2
      go_enter Try.func53, Try.ntmps53
      go_wp2_with fail
      go_ret
      exact ⟨rfl, HF.out⟩

set_option maxRecDepth 100000 in
theorem gmaynot_any (i : Ins) (w : World) : Calls Try.prog 38 #[.agg (icells i)] w fun e w' => e = .returned (.bool (!(checkE i == 0))) ∧ Fr (fun _ => False) w w' := by
  have hF : Fr (fun _ => False) w (w.alloc (.cells (icells i) 40)) := (Fr.refl _ w).alloc _
  have HF := hideIt hF
  have HC := hideIt (fun w => check_any i w)
  have HR := hideIt (show (w.alloc (.cells (icells i) 40)).rangeAt w.heap.size 0 (icells i).toList from fun j v hv => by
    rw [Nat.zero_add, cell_of_row _ _ _ _ _ _ (heap_alloc_new w _)]
    simpa using hv)
  have HI := hideIt (show (Try.prog.info? 40).map (·.size) = some (icells i).toList.length by kernel_rfl)
  clear hF
  generalize checkE i = e0 at *
  generalize icells i = C at *
  go_enter Try.func38, Try.ntmps38
  go_wp2_with (first | (refine wpList_load_mid rfl 40 (.tmp 1) rfl w.heap.size 0 rfl C.toList _ HR.out Try.underlying40 rfl HI.out ?_))
  refine Calls.mono (HC.out _) ?_
  rintro e w1 ⟨rfl, hF1⟩
  have HF1 := hideIt (HF.out.trans hF1 (fun _ _ e => e))
  clear hF1
  go_wp2_with fail
  go_ret
  exact ⟨rfl, HF1.out⟩

/-- The first place at which something holds, or -1. -/
def FirstP (p : Nat → Prop) (n : Nat) (w : World) (e : Ending) (w' : World) : Prop := Fr (fun _ => False) w w' ∧ ((∃ j, j < n ∧ e = .returned (.int .i64 (j : Int)) ∧ p j ∧ ∀ t, t < j → ¬ p t) ∨ (e = .returned (.int .i64 (-1)) ∧ ∀ t, t < n → ¬ p t))

/-- It passes over more than stand behind it. -/
def beyB (l : List Ins) (j : Nat) : Prop := ∃ h : j < l.length, (l.length : Int) - 1 - j < passI l[j]
/-- It may not be. -/
def badB (l : List Ins) (j : Nat) : Prop := ∃ h : j < l.length, ¬ checkE l[j] = 0

set_option maxRecDepth 100000 in
set_option maxHeartbeats 2000000 in
theorem gidx_any (ao : Option Addr) (cap : Nat) (l : List Ins) (hl : l.length ≤ 1000) (w : World) (hB : InsRow w ao l) : Calls Try.prog 37 #[.slice ao l.length cap, .func (.func 38) #[] #[]] w (FirstP (badB l) l.length w) := by
  have HB := hideIt (fun W (hF : Fr (fun _ => False) w W) => hB.fr hF (fun _ _ _ e => e))
  have HI := hideIt insSize
  clear hB
  go_enter Try.func37, Try.ntmps37
  go_wp2_with fail
  go_loopw [8] (fun s8 wr => ∃ j : Nat, s8 = .int .i64 j ∧ j ≤ l.length ∧ Hid (∀ t, t < j → ¬ badB l t) ∧ Hid (Fr (fun _ => False) w wr)) (fun s8 _ => l.length - (intOf s8).toNat)
  case atStart => exact ⟨0, rfl, by omega, hideIt (fun t h => by omega), hideIt (Fr.refl _ _)⟩
  case round =>
    obtain ⟨j, rfl, hj, HN, HF⟩ := hrel
    by_cases hlt : j < l.length
    · have h1 : (j : Int) < (l.length : Int) := by omega
      obtain ⟨b, off, rfl, hb, hR⟩ := (HB.out wr HF.out).get j hlt
      have HR := hideIt hR
      have HIJ := hideIt (HI.out l[j])
      have HM := hideIt (gmaynot_any l[j] wr)
      have HBD := hideIt (show badB l j ↔ ¬ checkE l[j] = 0 from ⟨fun ⟨_, h⟩ => h, fun h => ⟨hlt, h⟩⟩)
      clear hR
      generalize checkE l[j] = e0 at *
      generalize icells l[j] = C at *
      go_wp2_with (first | (refine wpList_load_mid rfl 40 (.tmp 14) rfl b (off + j * 6) rfl C.toList _ HR.out Try.underlying40 rfl HIJ.out ?_))
      refine Calls.mono HM.out ?_
      rintro e w1 ⟨rfl, hF1⟩
      have HF1 := hideIt (HF.out.trans hF1 (fun _ _ e => e))
      clear hF1 HF HM HR
      by_cases he : e0 = 0
      · have hN2 := hideIt (show ∀ t, t < j + 1 → ¬ badB l t from fun t ht => by
          by_cases e : t = j
          · subst e; exact fun h => HBD.out.1 h he
          · exact HN.out t (by omega))
        subst he
        go_wp2_with fail
        go_roundw
        case measure => simp [intOf]; omega
        case rel => exact ⟨j + 1, by go_num, by omega, hN2, HF1⟩
      · have hb2 : badB l j := HBD.out.2 he
        have HB2 := hideIt hb2
        have he2 : (e0 == 0) = false := by simpa using he
        clear HBD hb2
        go_wp2_with fail
        go_ret
        exact ⟨HF1.out, Or.inl ⟨j, hlt, rfl, HB2.out, HN.out⟩⟩
    · have hje : j = l.length := by omega
      have hjn : ¬ (j : Int) < (l.length : Int) := by omega
      go_wp2_with fail
      go_ret
      exact ⟨HF.out, Or.inr ⟨rfl, fun t ht => HN.out t (by omega)⟩⟩

set_option maxRecDepth 100000 in
set_option maxHeartbeats 2000000 in
theorem gbeyond_any (ao : Option Addr) (cap : Nat) (l : List Ins) (hl : l.length ≤ 1000) (w : World) (hB : InsRow w ao l) : Calls Try.prog 29 #[.slice ao l.length cap] w (FirstP (beyB l) l.length w) := by
  have HB := hideIt (fun W (hF : Fr (fun _ => False) w W) => hB.fr hF (fun _ _ _ e => e))
  have HI := hideIt insSize
  have HIA := hideIt insSizeA
  clear hB
  go_enter Try.func29, Try.ntmps29
  go_wp2_with fail
  go_loopw [7] (fun s7 wr => ∃ j : Nat, s7 = .int .i64 j ∧ j ≤ l.length ∧ Hid (∀ t, t < j → ¬ beyB l t) ∧ Hid (Fr (fun _ => False) w wr)) (fun s7 _ => l.length - (intOf s7).toNat)
  case atStart => exact ⟨0, rfl, by omega, hideIt (fun t h => by omega), hideIt (Fr.refl _ _)⟩
  case round =>
    obtain ⟨j, rfl, hj, HN, HF⟩ := hrel
    by_cases hlt : j < l.length
    · have h1 : (j : Int) < (l.length : Int) := by omega
      obtain ⟨b, off, rfl, hb, hR⟩ := (HB.out wr HF.out).get j hlt
      have HR := hideIt hR
      obtain ⟨q, hq⟩ : ∃ q, wr.heap.size = q := ⟨_, rfl⟩
      have hZ : (wr.alloc (.cells #[.int .i64 0, .int .i64 0, .int .i64 0, .int .i64 0, .int .i64 0, .string ⟨#[]⟩] 40)).heap[q]? = some (.cells #[.int .i64 0, .int .i64 0, .int .i64 0, .int .i64 0, .int .i64 0, .string ⟨#[]⟩] 40) := by rw [← hq]; exact heap_alloc_new wr _
      have HT := hideIt (there_row hZ (icells l[j]).size (show 6 ≤ 6 from Nat.le_refl _))
      have HO := hideIt (icells_one l[j])
      have HIJ := hideIt (HI.out l[j])
      have HIK := hideIt (HIA.out l[j])
      have HW := hideIt (fun W (h : W = (wr.alloc (.cells #[.int .i64 0, .int .i64 0, .int .i64 0, .int .i64 0, .int .i64 0, .string ⟨#[]⟩] 40)).setCells q 0 (icells l[j]).toList) => show W.rangeAt q 0 (icells l[j]).toList ∧ Fr (fun _ => False) wr W by
        subst h
        have hS := store_over (V := icells l[j]) hZ rfl
        refine ⟨fun t v hv => ?_, ((Fr.refl (fun _ => False) wr).alloc _).trans hS.2 (fun i hi e => by omega)⟩
        rw [Nat.zero_add, cell_of_row _ _ _ _ _ _ hS.1]
        simpa using hv)
      have HM := hideIt (fun w => gpasses_any l[j] w)
      have HBD := hideIt (show beyB l j ↔ (l.length : Int) - 1 - j < passI l[j] from ⟨fun ⟨_, h⟩ => h, fun h => ⟨hlt, h⟩⟩)
      have HQ := hideIt hq
      clear hR hZ
      generalize passI l[j] = e0 at *
      generalize icells l[j] = C at *
      have w1 : IntKind.i64.wrap ((l.length : Int) - 1) = (l.length : Int) - 1 := by rw [IntKind.wrap_i64]; omega
      have w2 : IntKind.i64.wrap ((l.length : Int) - 1 - (j : Int)) = (l.length : Int) - 1 - (j : Int) := by rw [IntKind.wrap_i64]; omega
      go_wp2_with (first | (refine wpList_load_mid rfl 40 (.tmp 10) rfl b (off + j * 6) rfl C.toList _ HR.out Try.underlying40 rfl HIJ.out ?_) | (refine store_absG rfl 40 (.tmp 4) (.tmp 11) rfl q 0 C rfl rfl HT.out HIK.out HO.out ?_; intro W2 hW2; obtain ⟨hR2, hF2⟩ := HW.out W2 hW2; have HR2 := hideIt hR2; have HF2 := hideIt (HF.out.trans hF2 (fun _ _ e => e)); clear hW2 HW HT hR2 hF2) | (refine wpList_load_mid rfl 40 (.tmp 4) rfl q 0 rfl C.toList _ HR2.out Try.underlying40 rfl HIJ.out ?_))
      refine Calls.mono (HM.out _) ?_
      rintro e w1 ⟨rfl, hF1⟩
      have HF1 := hideIt (HF2.out.trans hF1 (fun _ _ e => e))
      clear hF1 HF HM HR HR2 HF2 hq
      by_cases he : (l.length : Int) - 1 - j < e0
      · have HB2 := hideIt (HBD.out.2 he)
        clear HBD
        go_wp2_with fail
        go_ret
        exact ⟨HF1.out, Or.inl ⟨j, hlt, rfl, HB2.out, HN.out⟩⟩
      · have hN2 := hideIt (show ∀ t, t < j + 1 → ¬ beyB l t from fun t ht => by
          by_cases e : t = j
          · subst e; exact fun h => he (HBD.out.1 h)
          · exact HN.out t (by omega))
        have he2 : e0 ≤ (l.length : Int) - 1 - j := by omega
        clear HBD
        go_wp2_with fail
        go_roundw
        case measure => simp [intOf]; omega
        case rel => exact ⟨j + 1, by go_num, by omega, hN2, HF1⟩
    · have hje : j = l.length := by omega
      have hjn : ¬ (j : Int) < (l.length : Int) := by omega
      go_wp2_with fail
      go_ret
      exact ⟨HF.out, Or.inr ⟨rfl, fun t ht => HN.out t (by omega)⟩⟩

end Go.Proofs.Ytojgikaoiegmpaa

/- How many bits a number has: math/bits.Len64 by its own text. -/
namespace Go.Proofs.Ytojgikaoiegmpaa
set_option linter.unusedSimpArgs false
set_option linter.unusedVariables false
set_option maxRecDepth 100000

/-- One step of the table's look-up: k bits are shifted out, the rest is a byte. -/
theorem len_step (k p : Nat) (hp : 2 ^ k = p) (x b : Int) (h0 : 0 ≤ x) (h1 : x ≤ 18446744073709551615) (hb : b = x / (p : Int)) (hlo : (p : Int) ≤ x) (hb2 : b ≤ 255) :
    Lib.len8 b = (Lib.bitLen b.toNat : Int) ∧ Lib.bitLen b.toNat ≤ 8 ∧ Lib.bitLen x.toNat = k + Lib.bitLen b.toNat := by
  have hp0 : 0 < p := by rw [← hp]; exact Nat.two_pow_pos k
  have hb0 : 0 ≤ b := by rw [hb]; exact Int.ediv_nonneg h0 (by omega)
  have s := Lib.bitLen_shift k x.toNat (by rw [hp]; omega) (by rw [show (2 : Nat) ^ 64 = 18446744073709551616 by decide]; omega)
  have e : b.toNat = x.toNat / 2 ^ k := by
    rw [hp, hb]
    obtain ⟨m, rfl⟩ := Int.eq_ofNat_of_zero_le h0
    rw [← Int.natCast_ediv]
    exact Int.toNat_natCast _
  exact ⟨Lib.len8_of b hb0 hb2, Lib.bitLen_le8' b hb0 hb2, by rw [e]; exact s⟩

theorem len_wrap (a k c : Int) (n m : Nat) (ha : a = c) (hc : c = n) (hn : n ≤ 8) (h : m = k + n) (hk0 : 0 ≤ k) (hk : k ≤ 56) :
    (k + ((a + 9223372036854775808) % 18446744073709551616 - 9223372036854775808) + 9223372036854775808) % 18446744073709551616 - 9223372036854775808 = (m : Int) := by
  subst ha hc
  omega

set_option maxRecDepth 100000 in
set_option maxHeartbeats 4000000 in
theorem len64_any (x : Int) (w : World) (h0 : 0 ≤ x) (h1 : x ≤ 18446744073709551615) : Calls Try.prog 95 #[.int .u64 x] w fun e w' => e = .returned (.int .i64 (Lib.bitLen x.toNat)) ∧ w' = w := by
  go_enter Try.func95, Try.ntmps95
  go_wp2
  all_goals (go_ret; refine ⟨congrArg Ending.returned (congrArg (Value.int IntKind.i64) ?_), rfl⟩)
  · obtain ⟨e1, e2, e3⟩ := len_step 56 72057594037927936 (by decide) x (x / 4294967296 / 65536 / 256 % 256) h0 h1 (by omega) (by omega) (by omega)
    exact len_wrap _ _ _ _ _ rfl e1 e2 (by omega) (by omega) (by omega)
  · obtain ⟨e1, e2, e3⟩ := len_step 48 281474976710656 (by decide) x (x / 4294967296 / 65536 % 256) h0 h1 (by omega) (by omega) (by omega)
    exact len_wrap _ _ _ _ _ rfl e1 e2 (by omega) (by omega) (by omega)
  · obtain ⟨e1, e2, e3⟩ := len_step 40 1099511627776 (by decide) x (x / 4294967296 / 256 % 256) h0 h1 (by omega) (by omega) (by omega)
    exact len_wrap _ _ _ _ _ rfl e1 e2 (by omega) (by omega) (by omega)
  · obtain ⟨e1, e2, e3⟩ := len_step 32 4294967296 (by decide) x (x / 4294967296 % 256) h0 h1 (by omega) (by omega) (by omega)
    exact len_wrap _ _ _ _ _ rfl e1 e2 (by omega) (by omega) (by omega)
  · obtain ⟨e1, e2, e3⟩ := len_step 24 16777216 (by decide) x (x / 65536 / 256 % 256) h0 h1 (by omega) (by omega) (by omega)
    exact len_wrap _ _ _ _ _ rfl e1 e2 (by omega) (by omega) (by omega)
  · obtain ⟨e1, e2, e3⟩ := len_step 16 65536 (by decide) x (x / 65536 % 256) h0 h1 (by omega) (by omega) (by omega)
    exact len_wrap _ _ _ _ _ rfl e1 e2 (by omega) (by omega) (by omega)
  · obtain ⟨e1, e2, e3⟩ := len_step 8 256 (by decide) x (x / 256 % 256) h0 h1 (by omega) (by omega) (by omega)
    exact len_wrap _ _ _ _ _ rfl e1 e2 (by omega) (by omega) (by omega)
  · rw [show x % 256 = x by omega]
    exact Lib.len8_int x h0 (by omega)

end Go.Proofs.Ytojgikaoiegmpaa

/- Size, Val, Num of package word. -/
namespace Go.Proofs.Ytojgikaoiegmpaa
open Go.RowKit Go.IntWalk
set_option linter.unusedSimpArgs false
set_option linter.unusedVariables false
set_option maxRecDepth 100000

theorem sevens_bits (n : Nat) (hn : n < 18446744073709551616) : (sevens n).length = max 1 ((Lib.bitLen n + 6) / 7) := by
  induction n using Nat.strongRecOn with
  | ind n ih =>
    by_cases h : n < 128
    · have := Lib.bitLen_le n 7 (by omega) (by simpa using h)
      rw [sevens_lt h]
      simp
      omega
    · rw [sevens_ge h, List.length_cons, ih (n / 128) (by omega) (by omega)]
      have s := Lib.bitLen_shift 7 n (by simpa using h) (by rw [show (2 : Nat) ^ 64 = 18446744073709551616 by decide]; exact hn)
      rw [show (2 : Nat) ^ 7 = 128 by decide] at s
      have hp : 0 < Lib.bitLen (n / 128) := by
        rcases Nat.eq_zero_or_pos (Lib.bitLen (n / 128)) with h0 | h0
        · have hs := Lib.bitLen_half (n / 128) (by omega) (by rw [show (2 : Nat) ^ 64 = 18446744073709551616 by decide]; omega)
          omega
        · exact h0
      omega

theorem size_neg (n : Int) (w : World) (h : n < 0) : Calls Try.prog 87 #[.int .i64 n] w fun e w' => e = .returned (.int .i64 0) ∧ w' = w := by
  go_enter Try.func87, Try.ntmps87
  go_wp2
  go_ret
  exact ⟨rfl, rfl⟩

theorem size_nat (n : Nat) (w : World) (h : n ≤ 9223372036854775807) : Calls Try.prog 87 #[.int .i64 n] w fun e w' => e = .returned (.int .i64 (sevens n).length) ∧ w' = w := by
  have hs := sevens_bits n (by omega)
  have hl := Lib.bitLen_le n 63 (by omega) (by rw [show (2 : Nat) ^ 63 = 9223372036854775808 by decide]; omega)
  have HS := hideIt hs
  clear hs
  go_enter Try.func87, Try.ntmps87
  go_wp2_with (go_at_call 95; refine (len64_any _ _ (by omega) (by omega)).mono ?_; rintro e w' ⟨rfl, rfl⟩)
  go_ret
  exact ⟨congrArg Ending.returned (congrArg (Value.int IntKind.i64) (by have := HS.out; show max (1 : Int) (((Lib.bitLen n : Nat) : Int) + 7 - 1 |> (· / 7)) = _; simp only; omega)), rfl⟩

/-- A number's eight bytes, the highest first. -/
def valB (n : Nat) : List UInt8 := [UInt8.ofNat (n / 72057594037927936), UInt8.ofNat (n / 281474976710656 % 256), UInt8.ofNat (n / 1099511627776 % 256), UInt8.ofNat (n / 4294967296 % 256), UInt8.ofNat (n / 16777216 % 256), UInt8.ofNat (n / 65536 % 256), UInt8.ofNat (n / 256 % 256), UInt8.ofNat (n % 256)]


theorem ofNat_int (m : Nat) (h : m < 256) : ((UInt8.ofNat m).toNat : Int) = m := by
  simp
  omega



end Go.Proofs.Ytojgikaoiegmpaa

/- Package prog: where instructions begin (measure), walked. -/
namespace Go.Proofs.Ytojgikaoiegmpaa
open Go.RowKit Go.IntWalk
set_option linter.unusedSimpArgs false
set_option linter.unusedVariables false
set_option maxRecDepth 100000

/-- Where instruction k begins in the bytes of a list. -/
noncomputable def bgn (l : List Ins) (k : Nat) : Nat := (sevens l.length).length + ((l.take k).map fun i => (codeI i).length).sum
theorem bgn_zero (l : List Ins) : bgn l 0 = (sevens l.length).length := by simp [bgn]
theorem bgn_succ (l : List Ins) (k : Nat) (h : k < l.length) : bgn l (k + 1) = bgn l k + (codeI l[k]).length := by
  unfold bgn
  rw [List.take_succ_eq_append_getElem h, List.map_append, List.sum_append]
  simp only [List.map_cons, List.map_nil, List.sum_cons, List.sum_nil]
  omega
theorem bgn_le (l : List Ins) (hc : ∀ i ∈ l, (codeI i).length ≤ 1000) (h7 : (sevens l.length).length ≤ 10) : ∀ k, k ≤ l.length → bgn l k ≤ 10 + 1000 * k := by
  intro k
  induction k with
  | zero => intro _; rw [bgn_zero]; omega
  | succ k ih =>
    intro h
    have h1 := ih (by omega)
    have h2 := hc _ (List.getElem_mem (show k < l.length by omega))
    rw [bgn_succ l k (by omega)]
    omega
theorem ylm {P : Program} {o : Oper} {a : Act} {w : World} (ty : TypeId) (x : Operand) (ho : o.op = .load ty x) (b off : Nat) (hx : a.eval x = .pointer (some ⟨b, off, none⟩)) (cs : Array Value) (d : TypeDesc) (hc : w.rangeAt b off cs.toList)
    (hu : P.underlying ty = some d) (hd : d.isRow = true) (hi : (P.info? ty).map (·.size) = some cs.toList.length) : (execOp a.eval o).run P w = .ok (.value (.agg cs)) w := by
  unfold execOp
  simp only [ho, hx, Instr.loadAt, Instr.sureAddr, Sem.run_bind, Sem.run_pure, Result.andThen_ok, run_loadVar_mid w b off ty cs.toList d hc hu hd hi]

/-- So many places are laid. -/
def Plcs (w : World) (p : Nat) (l : List Ins) (k : Nat) : Prop := ∃ A : Array Value, w.heap[p]? = some (.cells A 54 (0, 0)) ∧ A.size = 61 ∧ ∀ t, t ≤ k → A[t]? = some (.int .i64 (bgn l t : Int))
theorem Plcs.cell {w : World} {p : Nat} {l : List Ins} {k : Nat} (h : Plcs w p l k) (t : Nat) (ht : t ≤ k) : w.cell? ⟨p, t, none⟩ = some (.int .i64 (bgn l t : Int)) := by
  obtain ⟨A, h1, _, h3⟩ := h
  rw [cell_of_row w p t _ _ _ h1]
  exact h3 t ht
theorem Plcs.there {w : World} {p : Nat} {l : List Ins} {k : Nat} (h : Plcs w p l k) (t : Nat) (ht : t < 61) : (∃ v, w.cell? ⟨p, t, none⟩ = some v) ∧ w.frozen? ⟨p, t, none⟩ = false := by
  obtain ⟨A, h1, h2, h3⟩ := h
  refine ⟨⟨A[t]'(by omega), ?_⟩, frozen_of_row w p t _ _ h1⟩
  rw [cell_of_row w p t _ _ _ h1, Array.getElem?_eq_getElem]
theorem Plcs.step {w : World} {p : Nat} {l : List Ins} {k : Nat} (h : Plcs w p l k) (hk : k < 60) : Plcs (w.setCell ⟨p, k + 1, none⟩ (.int .i64 (bgn l (k + 1) : Int))) p l (k + 1) := by
  obtain ⟨A, h1, h2, h3⟩ := h
  refine ⟨_, heap_setCell_same w p (k + 1) _ _ _ h1, by simpa using h2, fun t ht => ?_⟩
  by_cases e : t = k + 1
  · subst e
    rw [Array.getElem?_setIfInBounds]
    simp [h2]
    omega
  · rw [Array.getElem?_setIfInBounds, if_neg (Ne.symm e)]
    exact h3 t (by omega)
theorem Plcs.fr {S : Nat → Prop} {w w' : World} {p : Nat} {l : List Ins} {k : Nat} (h : Plcs w p l k) (hF : Fr S w w') (hS : ¬ S p) : Plcs w' p l k := by
  obtain ⟨A, h1, h2, h3⟩ := h
  exact ⟨A, (hF.block p (Array.getElem?_eq_some_iff.1 h1).1 hS).trans h1, h2, h3⟩

theorem sevens_short (n : Nat) (h : n ≤ 60) : (sevens n).length ≤ 10 := by
  have : ∀ n, n ≤ 60 → (sevens n).length ≤ 10 := by decide
  exact this n h

set_option maxRecDepth 100000 in
set_option maxHeartbeats 4000000 in
theorem gmeasure_any (p : Nat) (ao : Option Addr) (cap : Nat) (l : List Ins) (hl : l.length ≤ 60) (hc : ∀ i ∈ l, (codeI i).length ≤ 1000) (w : World) (A : Array Value) (hA : w.heap[p]? = some (.cells A 54 (0, 0))) (hA2 : A.size = 61) (hB : ∀ W, Fr (fun k => k = p) w W → InsRow W ao l) :
    Calls Try.prog 66 #[.pointer (some ⟨p, 0, none⟩), .slice ao l.length cap] w fun e w' => e = .returned (.slice (some ⟨p, 0, none⟩) (l.length + 1) 61) ∧ Plcs w' p l l.length ∧ Fr (fun k => k = p) w w' := by
  have h7 := sevens_short l.length hl
  have HBG := hideIt (bgn_le l hc h7)
  have HB := hideIt hB
  have HI := hideIt insSize
  have HIA := hideIt insSizeA
  have HSZ := hideIt (size_nat l.length w (by omega))
  have HLL := hideIt hl
  have hw1 : IntKind.i64.wrap ((l.length : Int) + 1) = (l.length : Int) + 1 := by rw [IntKind.wrap_i64]; omega
  have hb1 : (0 : Int) ≤ (l.length : Int) + 1 := by omega
  have hb2 : (l.length : Int) + 1 ≤ 61 := by omega
  have hb3 : ((l.length : Int) + 1).toNat = l.length + 1 := by omega
  have c0 : ∃ v, w.cell? ⟨p, 0, none⟩ = some v := ⟨A[0]'(by omega), by rw [cell_of_row w p 0 _ _ _ hA, Array.getElem?_eq_getElem]⟩
  obtain ⟨v0, c0⟩ := c0
  have f0 := frozen_of_row w p 0 _ _ hA
  have HP0 := hideIt (show Plcs (w.setCell ⟨p, 0, none⟩ (.int .i64 ((sevens l.length).length : Int))) p l 0 from ⟨_, heap_setCell_same w p 0 _ _ _ hA, by simpa using hA2, fun t ht => by
    obtain rfl : t = 0 := by omega
    rw [Array.getElem?_setIfInBounds, bgn_zero]
    simp [hA2]⟩)
  have HF0 := hideIt ((Fr.refl (fun k => k = p) w).setCell (p := ⟨p, 0, none⟩) (fun _ => rfl) (.int .i64 ((sevens l.length).length : Int)))
  clear hB hA h7 hc
  go_enter Try.func66, Try.ntmps66
  go_wp2_with fail
  refine Calls.mono HSZ.out ?_
  rintro e w1 ⟨rfl, rfl⟩
  go_wp2_with fail
  clear c0 f0 hw1 hb1 hb2 hb3
  go_loopw [21] (fun s21 wr => ∃ k : Nat, s21 = .int .i64 k ∧ k ≤ l.length ∧ Hid (Plcs wr p l k) ∧ Hid (Fr (fun k => k = p) w1 wr)) (fun s21 _ => l.length - (intOf s21).toNat)
  case atStart => exact ⟨0, rfl, by omega, HP0, HF0⟩
  case round =>
    clear HP0 HF0
    obtain ⟨k, rfl, hk, HP, HF⟩ := hrel
    by_cases hlt : k < l.length
    · have h1 : (k : Int) < (l.length : Int) := by omega
      have hk60 : k < 60 := by omega
      obtain ⟨b, off, rfl, hb, hR⟩ := (HB.out wr HF.out).get k hlt
      have HR := hideIt hR
      obtain ⟨q, hq⟩ : ∃ q, wr.heap.size = q := ⟨_, rfl⟩
      have hZ : (wr.alloc (.cells #[.int .i64 0, .int .i64 0, .int .i64 0, .int .i64 0, .int .i64 0, .string ⟨#[]⟩] 40)).heap[q]? = some (.cells #[.int .i64 0, .int .i64 0, .int .i64 0, .int .i64 0, .int .i64 0, .string ⟨#[]⟩] 40) := by rw [← hq]; exact heap_alloc_new wr _
      have HT := hideIt (there_row hZ (icells l[k]).size (show 6 ≤ 6 from Nat.le_refl _))
      have HO := hideIt (icells_one l[k])
      have HIJ := hideIt (HI.out l[k])
      have HIK := hideIt (HIA.out l[k])
      have HW := hideIt (fun W (h : W = (wr.alloc (.cells #[.int .i64 0, .int .i64 0, .int .i64 0, .int .i64 0, .int .i64 0, .string ⟨#[]⟩] 40)).setCells q 0 (icells l[k]).toList) => show W.heap[q]? = some (.cells (icells l[k]) 40 (0, 0)) ∧ Fr (fun _ => False) wr W by
        subst h
        have hS := store_over (V := icells l[k]) hZ rfl
        exact ⟨hS.1, ((Fr.refl (fun _ => False) wr).alloc _).trans hS.2 (fun i hi e => by omega)⟩)
      have HRQ := hideIt (fun (W : World) (h : W.heap[q]? = some (.cells (icells l[k]) 40 (0, 0))) => show W.rangeAt q 0 (icells l[k]).toList from fun t v hv => by
        rw [Nat.zero_add, cell_of_row _ _ _ _ _ _ h]
        simpa using hv)
      have HM := hideIt (fun w => size_any l[k] w)
      have HBS := hideIt (bgn_succ l k hlt)
      have hb0 := HBG.out k (by omega)
      have hb9 := HBG.out (k + 1) (by omega)
      have HQP := hideIt (show p < q by
        obtain ⟨A, h, _⟩ := HP.out
        have := (Array.getElem?_eq_some_iff.1 h).1
        omega)
      obtain ⟨v, hv⟩ : ∃ v, bgn l k = v := ⟨_, rfl⟩
      obtain ⟨v2, hv2⟩ : ∃ v, bgn l (k + 1) = v := ⟨_, rfl⟩
      have HV2 := hideIt hv2
      rw [hv, hv2] at HBS
      rw [hv] at hb0
      rw [hv2] at hb9
      have hck := HP.out.cell k (Nat.le_refl _)
      rw [hv] at hck
      obtain ⟨cl, hcl⟩ : ∃ c, (codeI l[k]).length = c := ⟨_, rfl⟩
      rw [hcl] at HBS HM
      have hadd : IntKind.i64.wrap ((v : Int) + (cl : Int)) = (v2 : Int) := by have := HBS.out; rw [IntKind.wrap_i64]; omega
      clear hR hZ hv hv2 hcl hb0 hb9
      generalize hCC : icells l[k] = C at *
      have w1 : IntKind.i64.wrap ((k : Int) + 1) = (k : Int) + 1 := by rw [IntKind.wrap_i64]; omega
      have n1 : (0 : Int) ≤ (k : Int) + 1 := by omega
      have n2 : (k : Int) + 1 < (l.length : Int) + 1 := by omega
      have n2b : (k : Int) < (l.length : Int) + 1 := by omega
      have n3 : ((k : Int) + 1).toNat = k + 1 := by omega
      go_wp2_with (first | (refine wpList_load_mid rfl 40 (.tmp 24) rfl b (off + k * 6) rfl C.toList _ HR.out Try.underlying40 rfl HIJ.out ?_) | (refine store_absG rfl 40 (.tmp 7) (.tmp 25) rfl q 0 C rfl rfl HT.out HIK.out HO.out ?_; intro W2 hW2; obtain ⟨hQ2, hF2⟩ := HW.out W2 hW2; have HQ2 := hideIt hQ2; have HP2 := hideIt (HP.out.fr hF2 (fun e => e)); have HF2 := hideIt (HF.out.trans hF2 (fun _ _ e => e.elim)); have hck2 : W2.cell? ⟨p, k, none⟩ = some (.int .i64 (v : Int)) := (World.cell?_of_block (a := ⟨p, k, none⟩) (hF2.block p (block_lt_of_cell hck) (fun e => e))).trans hck; clear hW2 HW HT hQ2 hF2))
      have HCK := hideIt hck2
      clear hck hck2 HF HP HR hq
      refine wp_region_held_drew (S := (fun w' => w'.cell? ⟨p, k, none⟩ = some (.int .i64 (v : Int)) ∧ w'.rangeAt q 0 C.toList)) (by kernel_rfl) ?_ (fun hHeld => ?_)
      · exact ⟨HCK.out, HRQ.out _ HQ2.out⟩
      refine wpAnyH_take (i := 0) (v := ?v1) rfl (by kernel_rfl) (by kernel_rfl) (by kernel_rfl) (fun _ _ _ h => h) (Or.inl ⟨by kernel_rfl, ?hy1⟩) (by assumption) ?rest1
      case hy1 => intro w hSw; (try dsimp only at hSw); go_simp; (try with_reducible rfl)
      try simp only [Act.put, List.getElem_toArray, List.getElem_cons_zero, List.getElem_cons_succ, List.setIfInBounds_toArray, List.set_cons_zero, List.set_cons_succ]
      refine wpAnyH_take (i := 1) (v := ?v2) rfl (by kernel_rfl) (by kernel_rfl) (by kernel_rfl) (fun _ _ _ h => h) (Or.inl ⟨by kernel_rfl, ?hy2⟩) (by assumption) ?rest2
      case hy2 => intro w hSw; (try dsimp only at hSw); go_simp; (try with_reducible rfl)
      try simp only [Act.put, List.getElem_toArray, List.getElem_cons_zero, List.getElem_cons_succ, List.setIfInBounds_toArray, List.set_cons_zero, List.set_cons_succ]
      refine wpAnyH_take (i := 2) (v := ?v3) rfl (by kernel_rfl) (by kernel_rfl) (by kernel_rfl) (fun _ _ _ h => h) (Or.inl ⟨by kernel_rfl, ?hy3⟩) (by assumption) ?rest3
      case hy3 => intro w hSw; (try dsimp only at hSw); go_simp; (try with_reducible rfl)
      try simp only [Act.put, List.getElem_toArray, List.getElem_cons_zero, List.getElem_cons_succ, List.setIfInBounds_toArray, List.set_cons_zero, List.set_cons_succ]
      refine wpAnyH_take (i := 3) (v := ?v4) rfl (by kernel_rfl) (by kernel_rfl) (by kernel_rfl) (fun _ _ _ h => h) (Or.inl ⟨by kernel_rfl, ?hy4⟩) (by assumption) ?rest4
      case hy4 => intro w hSw; (try dsimp only at hSw); go_simp; (try with_reducible rfl)
      try simp only [Act.put, List.getElem_toArray, List.getElem_cons_zero, List.getElem_cons_succ, List.setIfInBounds_toArray, List.set_cons_zero, List.set_cons_succ]
      refine wpAnyH_take (i := 4) (v := ?v5) rfl (by kernel_rfl) (by kernel_rfl) (by kernel_rfl) (fun _ _ _ h => h) (Or.inl ⟨by kernel_rfl, ?hy5⟩) (by assumption) ?rest5
      case hy5 => intro w hSw; (try dsimp only at hSw); go_simp; (try with_reducible rfl)
      try simp only [Act.put, List.getElem_toArray, List.getElem_cons_zero, List.getElem_cons_succ, List.setIfInBounds_toArray, List.set_cons_zero, List.set_cons_succ]
      refine wpAnyH_take (i := 5) (v := ?v6) rfl (by kernel_rfl) (by kernel_rfl) (by kernel_rfl) (fun _ _ _ h => h) (Or.inl ⟨by kernel_rfl, ?hy6⟩) (by assumption) ?rest6
      case hy6 => intro w hSw; (try dsimp only at hSw); go_simp; (try with_reducible rfl)
      try simp only [Act.put, List.getElem_toArray, List.getElem_cons_zero, List.getElem_cons_succ, List.setIfInBounds_toArray, List.set_cons_zero, List.set_cons_succ]
      refine wpAnyH_take (i := 6) (v := .int .i64 (v : Int)) rfl (by kernel_rfl) (by kernel_rfl) (by kernel_rfl) (fun _ _ _ h => h) (Or.inl ⟨by kernel_rfl, fun w0 hSw => by have hc := hSw.1; go_simp⟩) (by assumption) ?_
      try simp only [Act.put, List.getElem_toArray, List.getElem_cons_zero, List.getElem_cons_succ, List.setIfInBounds_toArray, List.set_cons_zero, List.set_cons_succ]
      refine wpAnyH_take (i := 7) (v := (.agg C)) rfl (by kernel_rfl) (by kernel_rfl) (by kernel_rfl) (fun _ _ _ h => h) (Or.inl ⟨by kernel_rfl, fun w0 hSw => ylm 40 (.tmp 7) rfl q 0 rfl C _ hSw.2 Try.underlying40 rfl HIJ.out⟩) (by assumption) ?_
      try simp only [Act.put, List.getElem_toArray, List.getElem_cons_zero, List.getElem_cons_succ, List.setIfInBounds_toArray, List.set_cons_zero, List.set_cons_succ]
      refine wpAnyH_ready (rs := [8]) (by kernel_rfl) (by simp) ?_
      refine AllReadyH.cons rfl (fun K hK => ?_) AllReadyH.nil
      go_simp
      refine Calls.mono (HM.out _) ?_
      rintro e w3 ⟨rfl, hF3⟩
      have hF23 : Fr (fun _ => False) W2 w3 := (Fr.refl _ _).drew.trans hF3 (fun _ _ e => e)
      have HCK3 := hideIt ((World.cell?_of_block (a := ⟨p, k, none⟩) (hF23.block p (block_lt_of_cell HCK.out) (fun e => e))).trans HCK.out)
      have HQ3 := hideIt ((hF23.block q (Array.getElem?_eq_some_iff.1 HQ2.out).1 (fun e => e)).trans HQ2.out)
      have HP3 := hideIt (HP2.out.fr hF23 (fun e => e))
      have HF3 := hideIt (HF2.out.trans hF23 (fun _ _ e => e.elim))
      have hth := HP3.out.there (k + 1) (by omega)
      obtain ⟨⟨u, hu⟩, hfz⟩ := hth
      refine hK.out _ _ ?_ (fun hHeld => ?_)
      · exact ⟨HCK3.out, HRQ.out _ HQ3.out⟩
      clear hK K
      try simp only [Act.put, List.getElem_toArray, List.getElem_cons_zero, List.getElem_cons_succ, List.setIfInBounds_toArray, List.set_cons_zero, List.set_cons_succ]
      refine wpAnyH_take (i := 9) (v := .int .i64 (v2 : Int)) rfl (by kernel_rfl) (by kernel_rfl) (by kernel_rfl) (fun _ _ _ h => h) (Or.inl ⟨by kernel_rfl, fun w0 hSw => by go_simp⟩) (by assumption) ?_
      try simp only [Act.put, List.getElem_toArray, List.getElem_cons_zero, List.getElem_cons_succ, List.setIfInBounds_toArray, List.set_cons_zero, List.set_cons_succ]
      refine wpAnyH_take (i := 10) (v := ?v7) rfl (by kernel_rfl) (by kernel_rfl) (by kernel_rfl) (fun _ _ _ h => h) (Or.inl ⟨by kernel_rfl, ?hy7⟩) (by assumption) ?rest7
      case hy7 => intro w hSw; (try dsimp only at hSw); go_simp; (try with_reducible rfl)
      try simp only [Act.put, List.getElem_toArray, List.getElem_cons_zero, List.getElem_cons_succ, List.setIfInBounds_toArray, List.set_cons_zero, List.set_cons_succ]
      refine wpAnyH_ready (rs := [11]) (by kernel_rfl) (by simp) ?_
      refine AllReadyH.cons rfl (fun K hK => ?_) AllReadyH.nil
      go_simp
      refine hK.out _ _ ?_ (fun hHeld => ?_)
      · exact ⟨(World.cell?_setCell_other _ _ _ _ (by intro e; injection e with _ e2; omega)).trans HCK3.out, HRQ.out _ ((heap_setCell_other w3 _ _ _ (by have := HQP.out; show q ≠ p; omega)).trans HQ3.out)⟩
      clear hK K
      try simp only [Act.put, List.getElem_toArray, List.getElem_cons_zero, List.getElem_cons_succ, List.setIfInBounds_toArray, List.set_cons_zero, List.set_cons_succ]
      refine wpAnyH_done (by kernel_rfl) ?_ _
      have HP4 := hideIt (HP3.out.step hk60)
      rw [HV2.out] at HP4
      have HF4 := hideIt (HF3.out.setCell (p := ⟨p, k + 1, none⟩) (fun _ => rfl) (.int .i64 (v2 : Int)))
      clear hHeld hF3 hF23 hu hfz HCK3 HQ3 HP3 HF3
      go_wp2_with fail
      go_roundw
      case measure => simp [intOf]; omega
      case rel => exact ⟨k + 1, by go_num, by omega, HP4, HF4⟩
    · have hje : k = l.length := by omega
      have hjn : ¬ (k : Int) < (l.length : Int) := by omega
      have HPP := hideIt (show Plcs wr p l l.length by rw [← hje]; exact HP.out)
      go_wp2_with fail
      go_ret
      exact ⟨rfl, HPP.out, HF.out⟩

end Go.Proofs.Ytojgikaoiegmpaa

/- Package prog: overlong, Check, walked. -/
namespace Go.Proofs.Ytojgikaoiegmpaa
open Go.RowKit Go.IntWalk
set_option linter.unusedSimpArgs false
set_option linter.unusedVariables false
set_option maxRecDepth 100000

theorem codeI_lenU (i : Ins) : (codeI i).length ≤ 1000 := by
  rcases checkE_or i with h | h
  · obtain ⟨m, hG⟩ := good_of i h
    rw [hG.code]
    have h1 := encs_len (ltrs m) i (ltrs_ok m hG.hi) hG.fit
    have h2 := (ltrs_nodup m hG.hi).2
    simp only [List.length_cons]
    omega
  · unfold codeI
    rw [if_neg (by rw [h]; decide)]
    simp

theorem gover1_any (v : Int) (w : World) : Calls Try.prog 68 #[.int .i64 v] w fun e w' => e = .returned (.bool (decide (512 < v))) ∧ Fr (fun _ => False) w w' := by
  by_cases h : 512 < v
  · have hd : decide (512 < v) = true := by simpa using h
    rw [hd]
    go_enter Try.func68, Try.ntmps68
    go_wp2_with fail
    go_ret
    exact ⟨rfl, Fr.refl _ _⟩
  · have hd : decide (512 < v) = false := by simpa using h
    rw [hd]
    go_enter Try.func68, Try.ntmps68
    go_wp2_with fail
    go_ret
    exact ⟨rfl, Fr.refl _ _⟩

/-- Above what the bytes may be. -/
def isOvr (v : Int) : Prop := 512 < v
set_option maxRecDepth 100000 in
set_option maxHeartbeats 2000000 in
theorem gidxints_any (p off cap n : Nat) (f : Nat → Int) (hn : n ≤ 1000) (w : World) (hB : ∀ j, j < n → w.cell? ⟨p, off + j, none⟩ = some (.int .i64 (f j))) : Calls Try.prog 67 #[.slice (some ⟨p, off, none⟩) n cap, .func (.func 68) #[] #[]] w (FirstP (fun j => isOvr (f j)) n w) := by
  have HB := hideIt (fun W (hF : Fr (fun _ => False) w W) (j : Nat) (hj : j < n) => show W.cell? ⟨p, off + j, none⟩ = some (.int .i64 (f j)) from (World.cell?_of_block (a := ⟨p, off + j, none⟩) (hF.block p (block_lt_of_cell (hB j hj)) (fun e => e))).trans (hB j hj))
  clear hB
  go_enter Try.func67, Try.ntmps67
  go_wp2_with fail
  go_loopw [8] (fun s8 wr => ∃ j : Nat, s8 = .int .i64 j ∧ j ≤ n ∧ Hid (∀ t, t < j → ¬ isOvr (f t)) ∧ Hid (Fr (fun _ => False) w wr)) (fun s8 _ => n - (intOf s8).toNat)
  case atStart => exact ⟨0, rfl, by omega, hideIt (fun t h => by omega), hideIt (Fr.refl _ _)⟩
  case round =>
    obtain ⟨j, rfl, hj, HN, HF⟩ := hrel
    by_cases hlt : j < n
    · have h1 : (j : Int) < (n : Int) := by omega
      have hc := HB.out wr HF.out j hlt
      have HM := hideIt (gover1_any (f j) wr)
      obtain ⟨v, hv⟩ : ∃ v, f j = v := ⟨_, rfl⟩
      have HV := hideIt hv
      rw [hv] at hc HM
      clear hv
      go_wp2_with fail
      refine Calls.mono HM.out ?_
      rintro e w1 ⟨rfl, hF1⟩
      have HF1 := hideIt (HF.out.trans hF1 (fun _ _ e => e))
      clear hF1 HF HM hc
      by_cases he : 512 < v
      · have HB2 := hideIt (show isOvr (f j) by rw [HV.out]; exact he)
        have he2 : decide (512 < v) = true := by simpa using he
        go_wp2_with fail
        go_ret
        exact ⟨HF1.out, Or.inl ⟨j, hlt, rfl, HB2.out, HN.out⟩⟩
      · have hN2 := hideIt (show ∀ t, t < j + 1 → ¬ isOvr (f t) from fun t ht => by
          by_cases e : t = j
          · subst e; rw [HV.out]; exact he
          · exact HN.out t (by omega))
        have he2 : decide (512 < v) = false := by simpa using he
        go_wp2_with fail
        go_roundw
        case measure => simp [intOf]; omega
        case rel => exact ⟨j + 1, by go_num, by omega, hN2, HF1⟩
    · have hje : j = n := by omega
      have hjn : ¬ (j : Int) < (n : Int) := by omega
      go_wp2_with fail
      go_ret
      exact ⟨HF.out, Or.inr ⟨rfl, fun t ht => HN.out t (by omega)⟩⟩

theorem zeroPl (w : World) : (zeroValue 54).run Try.prog w = .ok (.agg (List.replicate 61 (Value.int .i64 0)).toArray) w := by
  have h : (Try.prog.info? 54).map (·.zero) = some (some (.agg (List.replicate 61 (Value.int .i64 0)).toArray)) := by kernel_rfl
  cases hq : Try.prog.info? 54 with
  | none => simp [hq] at h
  | some i =>
    have hz : i.zero = some (.agg (List.replicate 61 (Value.int .i64 0)).toArray) := by simpa [hq] using h
    simp [zeroValue, typeInfo, hq, hz, Sem.run_bind]

/-- The bytes are too many with it. -/
def ovrB (l : List Ins) (j : Nat) : Prop := isOvr (bgn l (j + 1) : Int)

set_option maxRecDepth 100000 in
set_option maxHeartbeats 2000000 in
theorem goverlong_any (ao : Option Addr) (cap : Nat) (l : List Ins) (hl : l.length ≤ 60) (w : World) (hB : InsRow w ao l) : Calls Try.prog 39 #[.slice ao l.length cap] w (FirstP (ovrB l) l.length w) := by
  have hzv := zeroPl
  obtain ⟨Z, hZ⟩ : ∃ Z, (List.replicate 61 (Value.int .i64 0)).toArray = Z := ⟨_, rfl⟩
  have hZs : Z.size = 61 := by rw [← hZ]; simp
  have HA := hideIt (show (w.alloc (.cells Z 54)).heap[w.heap.size]? = some (.cells Z 54 (0, 0)) from heap_alloc_new w _)
  have HF0 := hideIt (show Fr (fun _ => False) w (w.alloc (.cells Z 54)) from (Fr.refl _ w).alloc _)
  have HB := hideIt (fun W (hF : Fr (fun k => k = w.heap.size) (w.alloc (.cells Z 54)) W) => hB.fr (((Fr.refl (fun k => k = w.heap.size) w).alloc _).trans hF (fun _ _ e => e)) (fun k hk _ e => by omega))
  have HM := hideIt (gmeasure_any w.heap.size ao cap l hl (fun i _ => codeI_lenU i) _ Z HA.out hZs HB.out)
  have HLL := hideIt hl
  rw [hZ] at hzv
  have n1 : (1 : Int) ≤ (l.length : Int) + 1 := by omega
  have n2 : ((l.length : Int) + 1 - 1).toNat = l.length := by omega
  have n3 : l.length + 1 - 1 = l.length := by omega
  clear hB hZ
  go_enter Try.func39, Try.ntmps39
  go_wp2_with fail
  refine Calls.mono HM.out ?_
  rintro e w1 ⟨rfl, hP, hF1⟩
  have HP := hideIt hP
  have HF1 := hideIt (HF0.out.trans hF1 (fun i hi e => by omega))
  clear hP hF1 HM HF0 HA HB
  go_wp2_with fail
  refine Calls.mono (gidxints_any w.heap.size 1 60 l.length (fun j => (bgn l (j + 1) : Int)) (by have := HLL.out; omega) w1 (fun j hj => by rw [Nat.add_comm 1 j]; exact HP.out.cell (j + 1) (by omega))) ?_
  rintro e w2 ⟨hF2, h⟩
  have HF2 := hideIt (HF1.out.trans hF2 (fun _ _ e => e))
  have HH := hideIt h
  clear hF2 h
  rcases HH.out with ⟨j, hj, rfl, hp, hq⟩ | ⟨rfl, hq⟩
  · go_wp2_with fail
    go_ret
    exact ⟨HF2.out, Or.inl ⟨j, hj, rfl, hp, hq⟩⟩
  · go_wp2_with fail
    go_ret
    exact ⟨HF2.out, Or.inr ⟨rfl, hq⟩⟩

/-- What Check tells. -/
def ChkP (l : List Ins) (err at_ : Int) : Prop :=
  (60 < l.length ∧ err = 3 ∧ at_ = 60) ∨ (l.length ≤ 60 ∧
    ((∃ j : Nat, j < l.length ∧ err = 2 ∧ at_ = j ∧ badB l j ∧ ∀ t, t < j → ¬ badB l t) ∨ ((∀ t, t < l.length → ¬ badB l t) ∧
      ((∃ j : Nat, j < l.length ∧ err = 5 ∧ at_ = j ∧ beyB l j ∧ ∀ t, t < j → ¬ beyB l t) ∨ ((∀ t, t < l.length → ¬ beyB l t) ∧
        ((∃ j : Nat, j < l.length ∧ err = 3 ∧ at_ = j ∧ ovrB l j ∧ ∀ t, t < j → ¬ ovrB l t) ∨ ((∀ t, t < l.length → ¬ ovrB l t) ∧ err = 0 ∧ at_ = 0)))))))

set_option maxRecDepth 100000 in
set_option maxHeartbeats 2000000 in
theorem gcheck_any (ao : Option Addr) (cap : Nat) (l : List Ins) (hl : l.length ≤ 140737488355328) (w : World) (hB : InsRow w ao l) : Calls Try.prog 14 #[.slice ao l.length cap] w fun e w' => (∃ err at_ : Int, e = .returned (.tuple #[.int .i64 err, .int .i64 at_]) ∧ ChkP l err at_) ∧ Fr (fun _ => False) w w' := by
  by_cases h60 : 60 < l.length
  · have h1 : (60 : Int) < (l.length : Int) := by omega
    go_enter Try.func14, Try.ntmps14
    go_wp2_with fail
    go_ret2
    exact ⟨⟨3, 60, rfl, Or.inl ⟨h60, rfl, rfl⟩⟩, Fr.refl _ _⟩
  · have h1 : ¬ (60 : Int) < (l.length : Int) := by omega
    have h6 : l.length ≤ 60 := by omega
    have H6 := hideIt h6
    have HB := hideIt (fun W (hF : Fr (fun _ => False) w W) => hB.fr hF (fun _ _ _ e => e))
    have HC := hideIt (fun W (hF : Fr (fun _ => False) w W) => gidx_any ao cap l (by omega) W (HB.out W hF))
    have HD := hideIt (fun W (hF : Fr (fun _ => False) w W) => gbeyond_any ao cap l (by omega) W (HB.out W hF))
    have HE := hideIt (fun W (hF : Fr (fun _ => False) w W) => goverlong_any ao cap l h6 W (HB.out W hF))
    clear hB
    go_enter Try.func14, Try.ntmps14
    go_wp2_with fail
    refine Calls.mono (HC.out _ (Fr.refl _ _)) ?_
    rintro e w1 ⟨hF1, h⟩
    have HF1 := hideIt hF1
    have HX := hideIt h
    clear h hF1 HC
    rcases HX.out with ⟨j, hj, rfl, hp, hq⟩ | ⟨rfl, hq⟩
    · have g0 : (0 : Int) ≤ (j : Int) := by omega
      have HP := hideIt hp
      have HQ := hideIt hq
      clear hp hq
      go_wp2_with fail
      go_ret2
      exact ⟨⟨2, j, rfl, Or.inr ⟨H6.out, Or.inl ⟨j, hj, rfl, rfl, HP.out, HQ.out⟩⟩⟩, HF1.out⟩
    · have HQ := hideIt hq
      clear hq
      go_wp2_with fail
      refine Calls.mono (HD.out _ HF1.out) ?_
      rintro e w2 ⟨hF2, h⟩
      have HF2 := hideIt (HF1.out.trans hF2 (fun _ _ e => e))
      have HY := hideIt h
      clear h hF2 HD
      rcases HY.out with ⟨j, hj, rfl, hp, hq⟩ | ⟨rfl, hq⟩
      · have g0 : (0 : Int) ≤ (j : Int) := by omega
        have HP := hideIt hp
        have HQ2 := hideIt hq
        clear hp hq
        go_wp2_with fail
        go_ret2
        exact ⟨⟨5, j, rfl, Or.inr ⟨H6.out, Or.inr ⟨HQ.out, Or.inl ⟨j, hj, rfl, rfl, HP.out, HQ2.out⟩⟩⟩⟩, HF2.out⟩
      · have HQ2 := hideIt hq
        clear hq
        go_wp2_with fail
        refine Calls.mono (HE.out _ HF2.out) ?_
        rintro e w3 ⟨hF3, h⟩
        have HF3 := hideIt (HF2.out.trans hF3 (fun _ _ e => e))
        have HZ := hideIt h
        clear h hF3 HE
        rcases HZ.out with ⟨j, hj, rfl, hp, hq⟩ | ⟨rfl, hq⟩
        · have g0 : (0 : Int) ≤ (j : Int) := by omega
          have HP := hideIt hp
          have HQ3 := hideIt hq
          clear hp hq
          go_wp2_with fail
          go_ret2
          exact ⟨⟨3, j, rfl, Or.inr ⟨H6.out, Or.inr ⟨HQ.out, Or.inr ⟨HQ2.out, Or.inl ⟨j, hj, rfl, rfl, HP.out, HQ3.out⟩⟩⟩⟩⟩, HF3.out⟩
        · have HQ3 := hideIt hq
          clear hq
          go_wp2_with fail
          go_ret2
          exact ⟨⟨0, 0, rfl, Or.inr ⟨H6.out, Or.inr ⟨HQ.out, Or.inr ⟨HQ2.out, Or.inr ⟨HQ3.out, rfl, rfl⟩⟩⟩⟩⟩, HF3.out⟩

end Go.Proofs.Ytojgikaoiegmpaa

/- Package prog: head; append onto bytes whose whole room is bytes; joined, walked. -/
namespace Go.Proofs.Ytojgikaoiegmpaa
open Go.RowKit Go.IntWalk
set_option linter.unusedSimpArgs false
set_option linter.unusedVariables false
set_option maxRecDepth 100000

set_option maxRecDepth 100000 in
theorem ghead_any (n : Nat) (hn : n ≤ 60) (w : World) : Calls Try.prog 34 #[.int .i64 n] w fun e w' => ∃ ao cap, e = .returned (.slice ao 1 cap) ∧ Full w' ao cap [UInt8.ofNat n] ∧ Fr (fun _ => False) w w' ∧ ∀ k, blk ao k → w.heap.size ≤ k := by
  go_enter Try.func34, Try.ntmps34
  go_wp2_with fail
  refine Calls.mono (new_any w) ?_
  rintro e w2 ⟨rfl, hW2, hF2, hsz2⟩
  have HW2 := hideIt hW2
  have HF2 := hideIt hF2
  clear hW2 hF2
  go_wp2_with fail
  refine Calls.mono (wint_any (w.heap.size + 1) w.heap.size none 0 ([], false) n w2 HW2.out (by omega) (by simp)) ?_
  rintro e w3 ⟨rfl, hP⟩
  rw [wInt_small (n : Int) (by omega) (by omega) [], Int.toNat_natCast] at hP
  obtain ⟨ao, cap, ⟨at_, ea, hWA⟩, hF3, hn3⟩ := hP
  have HF3 := hideIt (HF2.out.trans hF3 (fun k hk e => by rcases e with e | ⟨_, e, _⟩; omega; cases e))
  have HWA := hideIt hWA
  clear hF3 hn3 hWA
  go_wp2_with fail
  refine Calls.mono (out_full (w.heap.size + 1) w.heap.size ao cap _ at_ ea w3 HWA.out (by simp)) ?_
  rintro e w7 ⟨ao7, cap7, rfl, hfull, hF7, hn7⟩
  have HQ := hideIt (And.intro hfull (And.intro (HF3.out.trans hF7 (fun _ _ e => e)) (fun k hk => Nat.le_trans HF3.out.size (hn7 k hk))))
  clear hfull hF7 hn7
  go_wp2_with fail
  go_ret
  exact ⟨ao7, cap7, rfl, HQ.out.1, HQ.out.2.1, HQ.out.2.2⟩

/-- append onto bytes whose whole room is bytes: so is what comes of it. -/
theorem app_full (w : World) (tx : TypeId) (ao : Option Addr) (cap : Nat) (bs cs : List UInt8) (hown : Full w ao cap bs) (x : Value) (hs : Src Try.prog 1 tx x cs.length (bv cs) w) (hb : bs.length + cs.length ≤ 140737488355328) :
    ∃ ao' cap' w', (Builtin.append_ #[22, tx] 22 #[.slice ao bs.length cap, x]).run Try.prog w = .ok (.slice ao' (bs.length + cs.length) cap') w' ∧ Full w' ao' cap' (bs ++ cs) ∧ Fr (blk ao) w w' ∧ (ao' = ao ∨ ao' = some ⟨w.heap.size, 0, none⟩) := by
  obtain ⟨i, hi, hz, hsize, hby⟩ := info_parts Try.infoU8
  have hm : bs.length + cs.length ≤ maxLen := by unfold maxLen; omega
  have hfr : ∀ (cur : Array Value), Fr (blk ao) w (w.drew.alloc (.cells cur 5)) := fun cur => (Fr.refl _ _).drew.alloc _
  have grow : cap < bs.length + cs.length → (Builtin.firstCells i.size bs.length (.slice ao bs.length cap)).run Try.prog w.drew = .ok (bv bs).toArray w.drew →
      ∃ ao' cap' w', (Builtin.append_ #[22, tx] 22 #[.slice ao bs.length cap, x]).run Try.prog w = .ok (.slice ao' (bs.length + cs.length) cap') w' ∧ Full w' ao' cap' (bs ++ cs) ∧ Fr (blk ao) w w' ∧ (ao' = ao ∨ ao' = some ⟨w.heap.size, 0, none⟩) := by
    intro hlt hold
    have hr := run_append_grow_src (P := Try.prog) w 22 tx 22 5 i (.int .u8 0) Try.underlying22 hi hz ao bs.length cap (bv bs) hold x cs.length (bv cs) (by rw [hsize]; exact hs) hlt (by unfold maxLen at hm; omega) (growslice_fits hlt (by rw [hby]; omega))
    refine ⟨_, _, _, hr, ?_, hfr _, Or.inr rfl⟩
    have hge := grownCap_ge w (bs.length + cs.length) cap 5
    have hcm := grownCap_le_maxLen w (bs.length + cs.length) cap 5 hm
    refine Or.inr ⟨w.heap.size, List.replicate (grownCap w (bs.length + cs.length) cap 5 - (bs.length + cs.length)) 0, rfl, ?_, ?_, hcm⟩
    · rw [show w.heap.size = w.drew.heap.size from rfl, heap_alloc_new w.drew _]
      congr 2
      apply Array.ext'
      have hz2 := zero_bytes (grownCap w (bs.length + cs.length) cap 5 - (bs.length + cs.length))
      have e1 : (Value.int IntKind.u8 0).cells = #[.int .u8 0] := rfl
      simp [bv_append, e1, hz2]
    · simp only [List.length_append, List.length_replicate]
      omega
  rcases hown with ⟨rfl, rfl, rfl⟩ | ⟨g, zs, rfl, hg, hcap, hcm⟩
  · by_cases hc : cs = []
    · subst hc
      refine ⟨none, 0, w, ?_, Or.inl ⟨rfl, rfl, rfl⟩, Fr.refl _ _, Or.inl rfl⟩
      exact run_append_nothing (P := Try.prog) w 22 tx 22 5 i Try.underlying22 hi none 0 0 (Nat.le_refl _) x (by rw [hsize]; exact hs)
    · exact grow (by have := List.length_pos_iff.2 hc; simpa using this) (run_firstCells_none w.drew i.size 0 0 0)
  · by_cases hroom : bs.length + cs.length ≤ cap
    · have hzl : cs.length ≤ zs.length := by rw [hcap, List.length_append] at hroom; omega
      have hst := run_storeCells_at Try.prog g (bs.length * i.size) 5 (bv cs) 0 _ w hg (by rw [hsize, bv_length]; simp [bv_length]; omega) (bv_one cs)
      simp only [Nat.add_zero] at hst
      have hcells := hs.cells
      rw [← hsize] at hcells
      refine ⟨some ⟨g, 0, none⟩, cap, w.setRow g ((bv (bs ++ zs)).toArray.toList.take (bs.length * i.size) ++ bv cs ++ (bv (bs ++ zs)).toArray.toList.drop (bs.length * i.size + (bv cs).length)).toArray, ?_, ?_, ?_, Or.inl rfl⟩
      · rcases hs.kind with ⟨e', hk⟩ | hk <;> simp [Builtin.append_, run_underlying Try.underlying22, run_underlying hk, sizeOf, typeInfo, hi, hs.len, hroom, hcells, Addr.add_lit, hst]
      · refine Or.inr ⟨g, zs.drop cs.length, rfl, ?_, ?_, hcm⟩
        · rw [setRow_heap w g _ _ 5 _ hg]
          congr 2
          apply Array.ext'
          have e1 : (bv bs).length = bs.length := bv_length bs
          simp only [hsize, Nat.mul_one, bv_append, bv_length]
          rw [show (bv bs ++ bv zs).take bs.length = bv bs by rw [← e1, List.take_left], show (bv bs ++ bv zs).drop (bs.length + cs.length) = bv (zs.drop cs.length) by rw [← e1, List.drop_append, List.drop_of_length_le (by omega)]; simp [bv]]
        · rw [hcap]; simp; omega
      · exact ⟨rfl, rfl, rfl, by simp, fun k _ hk => setRow_other w g k _ (fun e => hk ⟨⟨g, 0, none⟩, rfl, by simp [e]⟩)⟩
    · refine grow (by omega) (run_firstCells_some w.drew i.size bs.length ⟨g, 0, none⟩ bs.length cap (bv bs) (by rw [hsize, bv_length]; omega) (fun j u hu => ?_))
      have hj : j < bs.length := by have := (List.getElem?_eq_some_iff.1 hu).1; rwa [bv_length] at this
      have h2 : w.cell? ⟨g, j, none⟩ = some u := by
        refine (cellOfHeap hg j ?_)
        simp only [List.getElem?_toArray, bv_append]
        rw [List.getElem?_append_left (by rw [bv_length]; exact hj)]
        exact hu
      simpa [Addr.add_lit] using h2

end Go.Proofs.Ytojgikaoiegmpaa

/- Package prog: joined, walked. -/
namespace Go.Proofs.Ytojgikaoiegmpaa
open Go.RowKit Go.IntWalk
set_option linter.unusedSimpArgs false
set_option linter.unusedVariables false
set_option maxRecDepth 100000

/-- Rows of bytes, wherever they lie. -/
def BtRow (w : World) (ao : Option Addr) (xs : List (List UInt8)) : Prop := xs = [] ∨ ∃ b off, ao = some ⟨b, off, none⟩ ∧ b < w.heap.size ∧ ∀ j (h : j < xs.length), ∃ a c, w.cell? ⟨b, off + j, none⟩ = some (.slice a xs[j].length c) ∧ BsAt w a xs[j]
theorem BtRow.get {w : World} {ao : Option Addr} {xs : List (List UInt8)} (h : BtRow w ao xs) (j : Nat) (hj : j < xs.length) : ∃ b off, ao = some ⟨b, off, none⟩ ∧ b < w.heap.size ∧ ∃ a c, w.cell? ⟨b, off + j, none⟩ = some (.slice a xs[j].length c) ∧ BsAt w a xs[j] := by
  rcases h with rfl | ⟨b, off, e, hb, hc⟩
  · simp at hj
  · exact ⟨b, off, e, hb, hc j hj⟩
theorem BtRow.fr {w w' : World} {ao : Option Addr} {xs : List (List UInt8)} (h : BtRow w ao xs) (hF : Fr (fun _ => False) w w') : BtRow w' ao xs := by
  rcases h with rfl | ⟨b, off, e, hb, hc⟩
  · exact Or.inl rfl
  · have := hF.size
    refine Or.inr ⟨b, off, e, by omega, fun j hj => ?_⟩
    obtain ⟨a, c, h1, h2⟩ := hc j hj
    exact ⟨a, c, (World.cell?_of_block (a := ⟨b, off + j, none⟩) (hF.block b hb (fun e => e))).trans h1, h2.fr hF (fun _ _ _ e => e)⟩

/-- The first j of them, one behind the other. -/
def joi (xs : List (List UInt8)) (j : Nat) : List UInt8 := (xs.take j).flatten
theorem joi_zero (xs : List (List UInt8)) : joi xs 0 = [] := rfl
theorem joi_succ (xs : List (List UInt8)) (j : Nat) (h : j < xs.length) : joi xs (j + 1) = joi xs j ++ xs[j] := by
  unfold joi
  rw [List.take_succ_eq_append_getElem h, List.flatten_append]
  simp
theorem joi_all (xs : List (List UInt8)) : joi xs xs.length = xs.flatten := by
  unfold joi
  rw [List.take_length]
theorem joi_le (xs : List (List UInt8)) (hx : ∀ x ∈ xs, x.length ≤ 1000) : ∀ j, j ≤ xs.length → (joi xs j).length ≤ 1000 * j := by
  intro j
  induction j with
  | zero => intro _; simp [joi_zero]
  | succ j ih =>
    intro h
    have h1 := ih (by omega)
    have h2 := hx _ (List.getElem_mem (show j < xs.length by omega))
    rw [joi_succ xs j (by omega), List.length_append]
    omega

set_option maxRecDepth 100000 in
set_option maxHeartbeats 2000000 in
theorem gjoined_any (ao : Option Addr) (cap : Nat) (xs : List (List UInt8)) (hn : xs.length ≤ 1000) (hx : ∀ x ∈ xs, x.length ≤ 1000) (w : World) (hB : BtRow w ao xs) : Calls Try.prog 36 #[.slice ao xs.length cap] w fun e w' => ∃ ao' cap', e = .returned (.slice ao' xs.flatten.length cap') ∧ Full w' ao' cap' xs.flatten ∧ Fr (fun _ => False) w w' ∧ ∀ k, blk ao' k → w.heap.size ≤ k := by
  have HB := hideIt (fun W (hF : Fr (fun _ => False) w W) => hB.fr hF)
  have HL := hideIt (joi_le xs hx)
  obtain ⟨y, hy⟩ : ∃ y, xs.flatten = y := ⟨_, rfl⟩
  rw [hy]
  have HY := hideIt ((joi_all xs).trans hy)
  clear hB hx hy
  go_enter Try.func36, Try.ntmps36
  go_wp2_with fail
  go_loopw [3, 8] (fun s3 s8 wr => ∃ (j : Nat) (a : Option Addr) (c : Nat), s3 = .slice a (joi xs j).length c ∧ s8 = .int .i64 j ∧ j ≤ xs.length ∧ Hid (Full wr a c (joi xs j)) ∧ Hid (∀ k, blk a k → w.heap.size ≤ k) ∧ Hid (Fr (fun _ => False) w wr)) (fun _ s8 _ => xs.length - (intOf s8).toNat)
  case atStart => exact ⟨0, none, 0, rfl, rfl, by omega, hideIt (Or.inl ⟨rfl, joi_zero xs, rfl⟩), hideIt (fun k hk => by obtain ⟨_, e, _⟩ := hk; cases e), hideIt (Fr.refl _ _)⟩
  case round =>
    obtain ⟨j, a, c, rfl, rfl, hj, HA, HN, HF⟩ := hrel
    by_cases hlt : j < xs.length
    · have h1 : (j : Int) < (xs.length : Int) := by omega
      obtain ⟨b, off, rfl, hb, a2, c2, hcell, hbs⟩ := (HB.out wr HF.out).get j hlt
      have hl1 := HL.out j hj
      have hl2 := HL.out (j + 1) hlt
      have hjs := joi_succ xs j hlt
      have hll : (joi xs (j + 1)).length = (joi xs j).length + xs[j].length := by rw [hjs, List.length_append]
      obtain ⟨ao4, cap4, w4, hrun4, hfull4, hF4, hor4⟩ := app_full wr 22 a c (joi xs j) xs[j] HA.out _ (hbs.src c2) (by omega)
      have HR4 := hideIt hrun4
      have HA4 := hideIt (show Full w4 ao4 cap4 (joi xs (j + 1)) by rw [hjs]; exact hfull4)
      have HN4 := hideIt (show ∀ k, blk ao4 k → w.heap.size ≤ k from fun k hk => by
        rcases hor4 with e | e
        · rw [e] at hk; exact HN.out k hk
        · rw [e] at hk
          obtain ⟨x, e1, e2⟩ := hk
          obtain rfl := Option.some.inj e1
          have := HF.out.size
          simp only at e2
          omega)
      have HF4 := hideIt (HF.out.trans hF4 (fun k hk e => by have := HN.out k e; omega))
      have HLL := hideIt hll
      clear hrun4 hfull4 hF4 hor4 hbs hjs hl1 hl2 hll
      go_wp2_with (first | (at_builtin; refine wpList_append_run _ rfl (.tmp 12) (.tmp 13) 22 22 rfl _ _ _ _ rfl rfl HR4.out ?_))
      go_roundw
      case measure => simp [intOf]; omega
      case rel => exact ⟨j + 1, ao4, cap4, by rw [HLL.out], by go_num, by omega, HA4, HN4, HF4⟩
    · have hje : j = xs.length := by omega
      have hjn : ¬ (j : Int) < (xs.length : Int) := by omega
      go_wp2_with fail
      go_ret
      subst hje
      obtain rfl := HY.out
      exact ⟨a, c, rfl, HA.out, HF.out, HN.out⟩

end Go.Proofs.Ytojgikaoiegmpaa

/- append onto rows of elements of any size (as in D, La, Td; for a seat that has none of them). -/
namespace Go.Proofs.Ytojgikaoiegmpaa
open Go.RowKit Go.IntWalk
set_option linter.unusedSimpArgs false
set_option linter.unusedVariables false
set_option maxRecDepth 100000

/-- append onto a row of the call's own, of whatever is appended: the row is the same, or a new one. -/
theorem append_rowE {P : Program} (w : World) (t tx ty e : TypeId) (i : TypeInfo) (z : Value) (ht : P.underlying t = some (.slice e)) (hi : P.info? e = some i) (hz : i.zero = some z) (size bytes : Nat) (hsize : i.size = size) (hby : i.bytes = bytes) (hzs : z.cells.size = size)
    (ao : Option Addr) (cap n m : Nat) (xs ys : List Value) (hown : w.ownsRow 0 e size (.slice ao n cap) n xs) (x : Value) (hs : Src P size tx x m ys w) (hm : n + m ≤ maxLen) (hb : (n + m) * bytes ≤ 140737488355328) :
    ∃ ao' cap' w', (Builtin.append_ #[t, tx] ty #[.slice ao n cap, x]).run P w = .ok (.slice ao' (n + m) cap') w' ∧ w'.ownsRow 0 e size (.slice ao' (n + m) cap') (n + m) (xs ++ ys) ∧ Fr (blk ao) w w' ∧ (ao' = ao ∨ ao' = some ⟨w.heap.size, 0, none⟩) := by
  subst hsize
  have hxl : xs.length = n * i.size := hown.1
  have hyl : ys.length = m * i.size := hs.newsLen
  have hall : (xs ++ ys).length = (n + m) * i.size := by rw [List.length_append, hxl, hyl, Nat.add_mul]
  have grow : cap < n + m → (Builtin.firstCells i.size n (.slice ao n cap)).run P w.drew = .ok xs.toArray w.drew →
      ∃ ao' cap' w', (Builtin.append_ #[t, tx] ty #[.slice ao n cap, x]).run P w = .ok (.slice ao' (n + m) cap') w' ∧ w'.ownsRow 0 e i.size (.slice ao' (n + m) cap') (n + m) (xs ++ ys) ∧ Fr (blk ao) w w' ∧ (ao' = ao ∨ ao' = some ⟨w.heap.size, 0, none⟩) := by
    intro hlt hold
    have hr := run_append_grow_src (P := P) w t tx ty e i z ht hi hz ao n cap xs hold x m ys hs hlt (by unfold maxLen at hm; omega) (growslice_fits hlt (by rw [hby]; omega))
    refine ⟨_, _, _, hr, ?_, (Fr.refl _ _).drew.alloc _, Or.inr rfl⟩
    have hge := grownCap_ge w (n + m) cap e
    have hcm := grownCap_le_maxLen w (n + m) cap e hm
    refine ⟨hall, Or.inr ⟨w.heap.size, _, _, rfl, Nat.zero_le _, heap_alloc_new w.drew _, hge, hcm, ?_, ?_⟩⟩
    · simp only [Array.size_append, List.size_toArray, size_zeroCells, hzs, hall]
      rw [← Nat.add_mul, Nat.add_sub_cancel' hge]
    · simp only [Array.toList_append]
      rw [← hall]
      exact List.take_left
  rcases hown.2 with ⟨hv, hn⟩ | ⟨g, c, cur, hv, _, hg, hle, hcm, hcs, htake⟩
  · obtain ⟨rfl, _, rfl⟩ := Value.slice.inj hv
    subst hn
    obtain rfl : xs = [] := List.eq_nil_of_length_eq_zero (by simpa using hxl)
    by_cases hc : m = 0
    · subst hc
      obtain rfl : ys = [] := List.eq_nil_of_length_eq_zero (by simpa using hyl)
      exact ⟨none, 0, w, run_append_nothing (P := P) w t tx ty e i ht hi none 0 0 (Nat.le_refl _) x hs, hown, Fr.refl _ _, Or.inl rfl⟩
    · exact grow (by omega) (run_firstCells_none w.drew i.size 0 0 0)
  · obtain ⟨rfl, _, rfl⟩ := Value.slice.inj hv
    by_cases hroom : n + m ≤ cap
    · have hfit : n * i.size + ys.length ≤ cur.size := by rw [hyl, hcs, ← Nat.add_mul]; exact Nat.mul_le_mul_right _ hroom
      have hst := run_storeCells_at P g (n * i.size) e ys 0 cur w hg (by simpa using hfit) hs.one
      simp only [Nat.add_zero] at hst
      refine ⟨some ⟨g, 0, none⟩, cap, w.setRow g (cur.toList.take (n * i.size) ++ ys ++ cur.toList.drop (n * i.size + ys.length)).toArray, ?_, ?_, ?_, Or.inl rfl⟩
      · rcases hs.kind with ⟨e', hk⟩ | hk <;> simp [Builtin.append_, run_underlying ht, run_underlying hk, sizeOf, typeInfo, hi, hs.len, hroom, hs.cells, Addr.add_lit, hst]
      · refine ⟨hall, Or.inr ⟨g, cap, _, rfl, Nat.zero_le _, setRow_heap w g cur _ e _ hg, hroom, hcm, ?_, ?_⟩⟩
        · simp only [List.size_toArray, List.length_append, List.length_take, List.length_drop, Array.length_toList]
          rw [← hcs]
          omega
        · simp only [htake]
          rw [← hall]
          exact List.take_left
      · exact ⟨rfl, rfl, rfl, by simp, fun k _ hk => setRow_other w g k _ (fun e => hk ⟨⟨g, 0, none⟩, rfl, by simp [e]⟩)⟩
    · refine grow (by omega) (run_firstCells_some w.drew i.size n ⟨g, 0, none⟩ n cap xs hxl (fun j u hu => ?_))
      have := hown.cells (g := g) rfl j u hu
      simpa using this


end Go.Proofs.Ytojgikaoiegmpaa

/- Rows of elements of any type: where they lie, appended to. -/
namespace Go.Proofs.Ytojgikaoiegmpaa
open Go.RowKit Go.IntWalk
set_option linter.unusedSimpArgs false
set_option linter.unusedVariables false
set_option maxRecDepth 100000

section
variable {α : Type}

theorem flatE_len (enc : α → List Value) (size : Nat) (hlen : ∀ x, (enc x).length = size) (l : List α) : (l.flatMap enc).length = l.length * size := by
  induction l with
  | nil => simp
  | cons x l ih => rw [List.flatMap_cons, List.length_append, ih, hlen, List.length_cons, Nat.add_mul, Nat.one_mul, Nat.add_comm]

theorem flatE_get (enc : α → List Value) (size : Nat) (hlen : ∀ x, (enc x).length = size) : ∀ (l : List α) (i j : Nat) (hi : i < l.length) (hj : j < size), (l.flatMap enc)[i * size + j]? = (enc l[i])[j]?
  | [], i, _, hi, _ => absurd hi (by simp)
  | x :: l, i, j, hi, hj => by
    rw [List.flatMap_cons]
    cases i with
    | zero =>
      rw [Nat.zero_mul, Nat.zero_add, List.getElem?_append_left (by rw [hlen]; exact hj)]
      rfl
    | succ i =>
      have e : (i + 1) * size + j = i * size + j + size := by rw [Nat.add_mul, Nat.one_mul]; omega
      rw [List.getElem?_append_right (by rw [hlen]; omega), hlen, e, Nat.add_sub_cancel]
      exact flatE_get enc size hlen l i j (by simpa using hi) hj

/-- Elements, wherever they lie. -/
def AtOf (enc : α → List Value) (size : Nat) (w : World) (ao : Option Addr) (l : List α) : Prop :=
  (ao = none ∧ l = []) ∨ ∃ b off, ao = some ⟨b, off, none⟩ ∧ b < w.heap.size ∧ ∀ i (h : i < l.length) j v, (enc l[i])[j]? = some v → w.cell? ⟨b, off + i * size + j, none⟩ = some v
theorem AtOf.fr {enc : α → List Value} {size : Nat} {S : Nat → Prop} {w w' : World} {ao : Option Addr} {l : List α} (h : AtOf enc size w ao l) (hF : Fr S w w') (hS : ∀ k, blk ao k → ¬ S k) : AtOf enc size w' ao l := by
  rcases h with h | ⟨b, off, rfl, hlt, hc⟩
  · exact Or.inl h
  · have := hF.size
    refine Or.inr ⟨b, off, rfl, by omega, fun i hi j v hv => ?_⟩
    exact (World.cell?_of_block (a := ⟨b, off + i * size + j, none⟩) (hF.block b hlt (hS b ⟨_, rfl, rfl⟩))).trans (hc i hi j v hv)

/-- Elements in a row of the call's own. -/
def RowOf (enc : α → List Value) (size : Nat) (e : TypeId) (w : World) (ao : Option Addr) (cap : Nat) (l : List α) : Prop := w.ownsRow 0 e size (.slice ao l.length cap) l.length (l.flatMap enc)
variable {enc : α → List Value} {size : Nat} {e : TypeId}
theorem RowOf.nil (w : World) : RowOf enc size e w none 0 [] := World.ownsRow_nil _ _ _ _
theorem RowOf.keep {w w' : World} {ao : Option Addr} {cap : Nat} {l : List α} (h : RowOf enc size e w ao cap l) (hb : ∀ k, k < w.heap.size → blk ao k → w'.heap[k]? = w.heap[k]?) : RowOf enc size e w' ao cap l := by
  refine ⟨h.1, ?_⟩
  rcases h.2 with hn | ⟨g, c, cur, hv, hg, hh, r⟩
  · exact Or.inl hn
  · refine Or.inr ⟨g, c, cur, hv, hg, ?_, r⟩
    have hlt : g < w.heap.size := (Array.getElem?_eq_some_iff.1 hh).1
    rw [hb g hlt ⟨⟨g, 0, none⟩, by simpa using (Value.slice.inj hv).1, rfl⟩]
    exact hh
theorem RowOf.fr {S : Nat → Prop} {w w' : World} {ao : Option Addr} {cap : Nat} {l : List α} (h : RowOf enc size e w ao cap l) (hF : Fr S w w') (hS : ∀ k, blk ao k → ¬ S k) : RowOf enc size e w' ao cap l :=
  h.keep fun k hk e => hF.block k hk (hS k e)
theorem RowOf.lt {w : World} {ao : Option Addr} {cap : Nat} {l : List α} (h : RowOf enc size e w ao cap l) {k : Nat} (hk : blk ao k) : k < w.heap.size := by
  obtain ⟨a, rfl, rfl⟩ := hk
  rcases h.2 with ⟨hv, hn⟩ | ⟨g, c, cur, hv, _, hg, _⟩
  · cases (Value.slice.inj hv).1
  · obtain rfl := Option.some.inj (Value.slice.inj hv).1
    exact (Array.getElem?_eq_some_iff.1 hg).1
theorem RowOf.cap {w : World} {ao : Option Addr} {cap : Nat} {l : List α} (h : RowOf enc size e w ao cap l) : l.length ≤ cap := by
  rcases h.2 with ⟨hv, hn⟩ | ⟨g, c, cur, hv, _, hg, hle, _⟩
  · obtain ⟨_, _, rfl⟩ := Value.slice.inj hv
    omega
  · obtain ⟨_, _, rfl⟩ := Value.slice.inj hv
    exact hle
theorem RowOf.at {w : World} {ao : Option Addr} {cap : Nat} {l : List α} (hlen : ∀ x, (enc x).length = size) (h : RowOf enc size e w ao cap l) : AtOf enc size w ao l := by
  rcases h.2 with ⟨hv, hn⟩ | ⟨g, c, cur, hv, _, hg, hle, hcm, hcs, htake⟩
  · obtain ⟨rfl, _, rfl⟩ := Value.slice.inj hv
    exact Or.inl ⟨rfl, List.eq_nil_of_length_eq_zero hn⟩
  · obtain ⟨rfl, _, rfl⟩ := Value.slice.inj hv
    refine Or.inr ⟨g, 0, rfl, (Array.getElem?_eq_some_iff.1 hg).1, fun i hi j v hv => ?_⟩
    have hj : j < size := by
      have := (List.getElem?_eq_some_iff.1 hv).1
      rwa [hlen] at this
    rw [← flatE_get enc size hlen l i j hi hj, ← htake, List.getElem?_take] at hv
    rw [cell_of_row w g _ _ _ _ hg, Nat.zero_add]
    split at hv
    · simpa using hv
    · cases hv

theorem src_of {P : Program} {tx : TypeId} {w : World} {bo : Option Addr} {ys : List α} (ht : P.underlying tx = some (.slice e)) (hs0 : 0 < size) (hlen : ∀ x, (enc x).length = size) (hone : ∀ x, ∀ u ∈ enc x, u.oneCell' = true) (h : ys = [] ∨ AtOf enc size w bo ys) (c : Nat) : Src P size tx (.slice bo ys.length c) ys.length (ys.flatMap enc) w := by
  have nil : ∀ bo, Src P size tx (.slice bo 0 c) 0 [] w := fun bo => by
    cases bo with
    | none => exact Src.ofNil w ht c
    | some a => exact Src.ofSlice w ht a 0 c [] (by simp) (fun j u hu => by cases hu) (fun u hu => by cases hu)
  rcases h with rfl | ⟨rfl, rfl⟩ | ⟨b, off, rfl, hb, hc⟩
  · exact nil bo
  · exact nil none
  · refine Src.ofSlice w ht ⟨b, off, none⟩ ys.length c (ys.flatMap enc) (flatE_len enc size hlen ys) (fun k u hu => ?_) (fun u hu => ?_)
    · have hk := (List.getElem?_eq_some_iff.1 hu).1
      rw [flatE_len enc size hlen ys] at hk
      have e : k = k / size * size + k % size := by rw [Nat.mul_comm]; exact (Nat.div_add_mod k size).symm
      have hi : k / size < ys.length := Nat.div_lt_of_lt_mul (by rw [Nat.mul_comm]; exact hk)
      rw [e, flatE_get enc size hlen ys _ _ hi (Nat.mod_lt _ hs0)] at hu
      have := hc (k / size) hi (k % size) u hu
      rw [Addr.add_lit, e, ← Nat.add_assoc]
      exact this
    · obtain ⟨x, _, hx⟩ := List.mem_flatMap.1 hu
      exact hone x u hx

theorem row_append {P : Program} {t : TypeId} {i0 : TypeInfo} {z : Value} (ht : P.underlying t = some (.slice e)) (hi : P.info? e = some i0) (hz0 : i0.zero = some z) (bytes : Nat) (hz1 : i0.size = size) (hz2 : i0.bytes = bytes) (hz3 : z.cells.size = size) (hs0 : 0 < size) (hby : bytes ≤ 128) (hlen : ∀ x, (enc x).length = size) (hone : ∀ x, ∀ u ∈ enc x, u.oneCell' = true)
    (w : World) (ao : Option Addr) (cap : Nat) (l ys : List α) (hrow : RowOf enc size e w ao cap l) (bo : Option Addr) (c : Nat) (hs : ys = [] ∨ AtOf enc size w bo ys) (hb : l.length + ys.length ≤ 1099511627776) :
    ∃ ao' cap' w', (Builtin.append_ #[t, t] t #[.slice ao l.length cap, .slice bo ys.length c]).run P w = .ok (.slice ao' (l.length + ys.length) cap') w' ∧ RowOf enc size e w' ao' cap' (l ++ ys) ∧ Fr (blk ao) w w' ∧ (ao' = ao ∨ ao' = some ⟨w.heap.size, 0, none⟩) := by
  have hbb : (l.length + ys.length) * bytes ≤ 1099511627776 * 128 := Nat.mul_le_mul hb hby
  obtain ⟨ao', cap', w', h1, h2, h3, h4⟩ := append_rowE w t t t e i0 z ht hi hz0 size bytes hz1 hz2 hz3 ao cap l.length ys.length _ _ hrow _ (src_of ht hs0 hlen hone hs c) (by unfold maxLen; omega) (by omega)
  refine ⟨ao', cap', w', h1, ?_, h3, h4⟩
  unfold RowOf
  rw [List.length_append, List.flatMap_append]
  exact h2

/-- A row that grows: new, apart from all that was there in W0. -/
structure Grow (enc : α → List Value) (size : Nat) (e : TypeId) (W0 wr : World) (ao : Option Addr) (cap : Nat) (acc : List α) : Prop where
  row : RowOf enc size e wr ao cap acc
  new : ∀ k, blk ao k → W0.heap.size ≤ k
  fr : Fr (fun _ => False) W0 wr
theorem Grow.start {W0 wr : World} (hF : Fr (fun _ => False) W0 wr) : Grow enc size e W0 wr none 0 [] := ⟨RowOf.nil _, fun k ⟨a, e, _⟩ => (by cases e), hF⟩
theorem Grow.quiet {W0 wr w' : World} {ao : Option Addr} {cap : Nat} {acc : List α} (h : Grow enc size e W0 wr ao cap acc) (hF : Fr (fun _ => False) wr w') : Grow enc size e W0 w' ao cap acc :=
  ⟨h.row.fr hF (fun _ _ e => e), h.new, h.fr.trans hF (fun _ _ e => e)⟩
theorem Grow.app {P : Program} {t : TypeId} {i0 : TypeInfo} {z : Value} (ht : P.underlying t = some (.slice e)) (hi : P.info? e = some i0) (hz0 : i0.zero = some z) (bytes : Nat) (hz1 : i0.size = size) (hz2 : i0.bytes = bytes) (hz3 : z.cells.size = size) (hs0 : 0 < size) (hby : bytes ≤ 128) (hlen : ∀ x, (enc x).length = size) (hone : ∀ x, ∀ u ∈ enc x, u.oneCell' = true)
    {W0 wr : World} {ao : Option Addr} {cap : Nat} {acc : List α} (h : Grow enc size e W0 wr ao cap acc) (ys : List α) (bo : Option Addr) (c : Nat) (hs : ys = [] ∨ AtOf enc size wr bo ys) (hb : acc.length + ys.length ≤ 1099511627776) :
    ∃ ao' cap' w', (Builtin.append_ #[t, t] t #[.slice ao acc.length cap, .slice bo ys.length c]).run P wr = .ok (.slice ao' (acc.length + ys.length) cap') w' ∧ Grow enc size e W0 w' ao' cap' (acc ++ ys) := by
  obtain ⟨ao', cap', w', h1, h2, h3, h4⟩ := row_append ht hi hz0 bytes hz1 hz2 hz3 hs0 hby hlen hone wr ao cap acc ys h.row bo c hs hb
  refine ⟨ao', cap', w', h1, ⟨h2, ?_, ?_⟩⟩
  · intro k hk
    rcases h4 with e | e
    · rw [e] at hk; exact h.new k hk
    · rw [e] at hk
      obtain ⟨a, e1, e2⟩ := hk
      obtain rfl := Option.some.inj e1
      have := h.fr.size
      simp at e2
      omega
  · exact h.fr.trans h3 (fun i hi e => absurd (h.new i e) (by omega))
end

end Go.Proofs.Ytojgikaoiegmpaa

/- Package prog: Bytes, walked. -/
namespace Go.Proofs.Ytojgikaoiegmpaa
open Go.RowKit Go.IntWalk
set_option linter.unusedSimpArgs false
set_option linter.unusedVariables false
set_option maxRecDepth 100000

theorem Try.infoBt : (Try.prog.info? 22).map (fun i => (i.zero, i.size, i.bytes)) = some (some (.slice none 0 0), 1, 24) := by kernel_rfl
/-- A slice of bytes, as a cell. -/
def encS (x : Option Addr × Nat × Nat) : List Value := [.slice x.1 x.2.1 x.2.2]

theorem encS_len : ∀ x, (encS x).length = 1 := fun _ => rfl

/-- Parts of bytes in a row that grows: all of them new. -/
structure Parts (W0 wr : World) (pa : Option Addr) (pc : Nat) (rs : List (Option Addr × Nat × Nat)) (xs : List (List UInt8)) : Prop where
  row : RowOf encS 1 22 wr pa pc rs
  len : rs.length = xs.length
  el : ∀ t (h : t < rs.length) (h' : t < xs.length), rs[t].2.1 = xs[t].length ∧ Full wr rs[t].1 rs[t].2.2 xs[t] ∧ ∀ k, blk rs[t].1 k → ¬ blk pa k
  new : ∀ k, blk pa k → W0.heap.size ≤ k
  fr : Fr (fun _ => False) W0 wr
theorem Parts.quiet {W0 wr w' : World} {pa : Option Addr} {pc : Nat} {rs : List (Option Addr × Nat × Nat)} {xs : List (List UInt8)} (h : Parts W0 wr pa pc rs xs) (hF : Fr (fun _ => False) wr w') : Parts W0 w' pa pc rs xs :=
  ⟨h.row.fr hF (fun _ _ e => e), h.len, fun t h1 h2 => ⟨(h.el t h1 h2).1, (h.el t h1 h2).2.1.fr hF (fun _ _ e => e), (h.el t h1 h2).2.2⟩, h.new, h.fr.trans hF (fun _ _ e => e)⟩
theorem Parts.bt {W0 wr : World} {pa : Option Addr} {pc : Nat} {rs : List (Option Addr × Nat × Nat)} {xs : List (List UInt8)} (h : Parts W0 wr pa pc rs xs) : BtRow wr pa xs := by
  rcases h.row.at encS_len with ⟨_, e⟩ | ⟨b, off, e, hb, hc⟩
  · exact Or.inl (List.eq_nil_of_length_eq_zero (by rw [← h.len, e]; rfl))
  · refine Or.inr ⟨b, off, e, hb, fun j hj => ?_⟩
    have hj' : j < rs.length := by rw [h.len]; exact hj
    obtain ⟨e1, e2, _⟩ := h.el j hj' hj
    refine ⟨rs[j].1, rs[j].2.2, ?_, e2.bs⟩
    have := hc j hj' 0 _ rfl
    rw [Nat.mul_one, Nat.add_zero] at this
    rw [this, e1]
theorem slice_oneB (a : Option Addr) (n c : Nat) (w : World) : (Instr.buildSlice 68 1 #[(0, .slice a n c)]).run Try.prog w = .ok (.slice (some ⟨w.heap.size, 0, none⟩) 1 1) (w.alloc (.cells #[.slice a n c] 22)) := by
  obtain ⟨i0, hi, hz0, hz1, hz2⟩ := info_parts Try.infoBt
  refine run_buildSlice w 68 22 1 _ _ i0 (.slice none 0 0) Try.underlying68 hi hz0 (by rw [hz1]; omega) (by rw [hz1]; omega) ?_
  rw [hz1]
  kernel_rfl
theorem wpList_slice_oneG {P : Program} {ops : Array Oper} {rest : List Oper} {o : Oper} {a : Act} {w : World} {Q : Exit → Act → World → Prop} (hg : o.guard = none) (t : TypeId) (y : Operand) (ho : o.op = .buildSlice t 1 #[(0, y)])
    (v0 : Value) (hy : a.eval y = v0) (v : Value) (w' : World) (hrun : (Instr.buildSlice t 1 #[(0, v0)]).run P w = .ok v w')
    (h : wpList P ops Q rest (a.put o.dst v) w') : wpList P ops Q (o :: rest) a w := by
  refine wpList_plain hg fun K hK => ?_
  unfold Oper.wp execOp
  have e : (#[(0, y)].map fun (i, x) => (i, a.eval x)) = #[(0, v0)] := by simp [hy]
  simp only [ho, Sem.run_bind, e, hrun, Result.andThen_ok]
  exact hK _ _ h
theorem Parts.one {W0 wr : World} (hF : Fr (fun _ => False) W0 wr) (a : Option Addr) (c : Nat) (x : List UInt8) (hx : Full wr a c x) : Parts W0 (wr.alloc (.cells #[.slice a x.length c] 22)) (some ⟨wr.heap.size, 0, none⟩) 1 [(a, x.length, c)] [x] where
  row := World.ownsRow_lit wr #[.slice a x.length c] 1 (Nat.zero_le _) (by decide) rfl
  len := rfl
  el := fun t h h' => by
    obtain rfl : t = 0 := by simp at h; exact h
    exact ⟨rfl, hx.fr ((Fr.refl (fun _ => False) wr).alloc _) (fun _ _ e => e), fun k hk hk2 => by
      have := hx.lt hk
      obtain ⟨_, e1, e2⟩ := hk2
      obtain rfl := Option.some.inj e1
      simp only at e2
      omega⟩
  new := fun k hk => by
    obtain ⟨_, e1, e2⟩ := hk
    obtain rfl := Option.some.inj e1
    have := hF.size
    simp only at e2
    omega
  fr := hF.trans ((Fr.refl (fun _ => False) wr).alloc _) (fun _ _ e => e)
theorem Parts.step {W0 wr : World} {pa : Option Addr} {pc : Nat} {rs : List (Option Addr × Nat × Nat)} {xs : List (List UInt8)} (h : Parts W0 wr pa pc rs xs) (hn : xs.length ≤ 1000) (a : Option Addr) (c : Nat) (x : List UInt8) (hx : Full wr a c x) (ha : ∀ k, blk a k → ¬ blk pa k) :
    ∃ pa' pc' w', (Builtin.append_ #[68, 68] 68 #[.slice pa xs.length pc, .slice (some ⟨wr.heap.size, 0, none⟩) 1 1]).run Try.prog (wr.alloc (.cells #[.slice a x.length c] 22)) = .ok (.slice pa' (xs.length + 1) pc') w' ∧ Parts W0 w' pa' pc' (rs ++ [(a, x.length, c)]) (xs ++ [x]) := by
  obtain ⟨i0, hi, hz0, hz1, hz2⟩ := info_parts Try.infoBt
  obtain ⟨w1, hw1⟩ : ∃ w1, wr.alloc (.cells #[.slice a x.length c] 22) = w1 := ⟨_, rfl⟩
  have hF1 : Fr (fun _ => False) wr w1 := by rw [← hw1]; exact (Fr.refl _ wr).alloc _
  have hb1 : w1.heap[wr.heap.size]? = some (.cells #[.slice a x.length c] 22 (0, 0)) := by rw [← hw1]; exact heap_alloc_new wr _
  have hA : AtOf encS 1 w1 (some ⟨wr.heap.size, 0, none⟩) [(a, x.length, c)] := Or.inr ⟨wr.heap.size, 0, rfl, (Array.getElem?_eq_some_iff.1 hb1).1, fun i hi j v hv => by
    obtain rfl : i = 0 := by simp at hi; exact hi
    have hj : j = 0 := by have := (List.getElem?_eq_some_iff.1 hv).1; simp [encS] at this; exact this
    subst hj
    rw [cell_of_row _ _ _ _ _ _ hb1]
    simpa [encS] using hv⟩
  have hq := h.quiet hF1
  obtain ⟨pa', pc', w', h1, h2, h3, h4⟩ := row_append Try.underlying68 hi hz0 24 hz1 hz2 rfl (by decide) (by decide) encS_len (fun x u hu => by simp [encS] at hu; subst hu; rfl) w1 pa pc rs [(a, x.length, c)] hq.row (some ⟨wr.heap.size, 0, none⟩) 1 (Or.inr hA) (by have := h.len; simp; omega)
  rw [h.len] at h1
  refine ⟨pa', pc', w', by rw [hw1]; exact h1, h2, by simp [h.len], ?_, ?_, ?_⟩
  · have key : ∀ (r : Option Addr) (rc : Nat) (y : List UInt8), Full w1 r rc y → (∀ k, blk r k → ¬ blk pa k) → Full w' r rc y ∧ ∀ k, blk r k → ¬ blk pa' k := fun r rc y hf hd => by
      refine ⟨hf.fr h3 hd, fun k hk hk2 => ?_⟩
      rcases h4 with e | e
      · rw [e] at hk2; exact hd k hk hk2
      · rw [e] at hk2
        have := hf.lt hk
        obtain ⟨_, e1, e2⟩ := hk2
        obtain rfl := Option.some.inj e1
        simp only at e2
        omega
    intro t ht ht'
    by_cases hlt : t < rs.length
    · have hlt' : t < xs.length := by rw [← h.len]; exact hlt
      obtain ⟨e1, e2, e3⟩ := hq.el t hlt hlt'
      rw [List.getElem_append_left hlt, List.getElem_append_left hlt']
      exact ⟨e1, key _ _ _ e2 e3⟩
    · obtain rfl : t = rs.length := by simp at ht; omega
      have e1 : (rs ++ [(a, x.length, c)])[rs.length] = (a, x.length, c) := by simp
      have e2 : (xs ++ [x])[rs.length] = x := by simp [h.len]
      rw [e1, e2]
      exact ⟨rfl, key _ _ _ (hx.fr hF1 (fun _ _ e => e)) ha⟩
  · intro k hk
    rcases h4 with e | e
    · rw [e] at hk; exact h.new k hk
    · rw [e] at hk
      obtain ⟨_, e1, e2⟩ := hk
      obtain rfl := Option.some.inj e1
      have := hq.fr.size
      simp only at e2
      omega
  · exact hq.fr.trans h3 (fun i hi e => absurd (h.new i e) (by omega))

end Go.Proofs.Ytojgikaoiegmpaa

/- Package prog: Bytes, walked. -/
namespace Go.Proofs.Ytojgikaoiegmpaa
open Go.RowKit Go.IntWalk
set_option linter.unusedSimpArgs false
set_option linter.unusedVariables false
set_option maxRecDepth 100000

/-- The bytes of a list. -/
noncomputable def progB (l : List Ins) : List UInt8 := [UInt8.ofNat l.length] ++ l.flatMap codeI
/-- The parts, so far. -/
noncomputable def prt (l : List Ins) (k : Nat) : List (List UInt8) := [UInt8.ofNat l.length] :: (l.take k).map codeI
theorem prt_zero (l : List Ins) : prt l 0 = [[UInt8.ofNat l.length]] := rfl
theorem prt_succ (l : List Ins) (k : Nat) (h : k < l.length) : prt l (k + 1) = prt l k ++ [codeI l[k]] := by
  unfold prt
  rw [List.take_succ_eq_append_getElem h, List.map_append]
  rfl
theorem prt_len (l : List Ins) (k : Nat) (h : k ≤ l.length) : (prt l k).length = k + 1 := by
  unfold prt
  simp
  omega
theorem prt_all (l : List Ins) : (prt l l.length).flatten = progB l := by
  unfold prt progB
  rw [List.take_length, List.flatten_cons, List.flatMap_def]
theorem prt_short (l : List Ins) (k : Nat) : ∀ x ∈ prt l k, x.length ≤ 1000 := by
  intro x hx
  unfold prt at hx
  rcases List.mem_cons.1 hx with rfl | hx
  · simp
  · obtain ⟨i, _, rfl⟩ := List.mem_map.1 hx
    exact codeI_lenU i
theorem ChkP.kinds {l : List Ins} {err at_ : Int} (h : ChkP l err at_) : (err = 0 ∧ l.length ≤ 60) ∨ err = 2 ∨ err = 3 ∨ err = 5 := by
  rcases h with ⟨_, h, _⟩ | ⟨h60, ⟨_, _, h, _⟩ | ⟨_, ⟨_, _, h, _⟩ | ⟨_, ⟨_, _, h, _⟩ | ⟨_, h, _⟩⟩⟩⟩
  · exact Or.inr (Or.inr (Or.inl h))
  · exact Or.inr (Or.inl h)
  · exact Or.inr (Or.inr (Or.inr h))
  · exact Or.inr (Or.inr (Or.inl h))
  · exact Or.inl ⟨h, h60⟩

/-- What Bytes answers. -/
def PBytesP (l : List Ins) (w : World) (e : Ending) (w' : World) : Prop :=
  ∃ (ao : Option Addr) (cap : Nat) (err at_ : Int) (bs : List UInt8), ChkP l err at_ ∧ bs = (if err = 0 then progB l else []) ∧ e = .returned (.tuple #[.slice ao bs.length cap, .int .i64 err]) ∧ Full w' ao cap bs ∧ Fr (fun _ => False) w w' ∧ ∀ k, blk ao k → w.heap.size ≤ k

set_option maxRecDepth 100000 in
set_option maxHeartbeats 800000 in
theorem gbytes_any (ao : Option Addr) (cap : Nat) (l : List Ins) (hl : l.length ≤ 140737488355328) (w : World) (hB : InsRow w ao l) : Calls Try.prog 13 #[.slice ao l.length cap] w (PBytesP l w) := by
  have HC := hideIt (gcheck_any ao cap l hl w hB)
  have HB := hideIt (fun W (hF : Fr (fun _ => False) w W) => hB.fr hF (fun _ _ _ e => e))
  clear hB
  go_enter Try.func13, Try.ntmps13
  go_wp2_with fail
  refine Calls.mono HC.out ?_
  rintro e w1 ⟨⟨err, at_, rfl, hP⟩, hF1⟩
  have HF1 := hideIt hF1
  have HP := hideIt hP
  have hk := hP.kinds
  clear hF1 HC hP
  by_cases he : err = 0
  · subst he
    have h60 : l.length ≤ 60 := by
      rcases hk with ⟨_, h⟩ | h | h | h
      · exact h
      · cases h
      · cases h
      · cases h
    clear hk
    go_wp2_with fail
    refine Calls.mono (ghead_any l.length h60 w1) ?_
    rintro e w2 ⟨ah, ch, rfl, hH, hF2, hN2⟩
    have hone : ∀ (x : UInt8), Full w2 ah ch [x] → Parts w (w2.alloc (.cells #[.slice ah 1 ch] 22)) (some ⟨w2.heap.size, 0, none⟩) 1 [(ah, 1, ch)] [[x]] := fun x h => Parts.one (HF1.out.trans hF2 (fun _ _ e => e)) ah ch [x] h
    have HO := hideIt (show Parts w (w2.alloc (.cells #[.slice ah 1 ch] 22)) (some ⟨w2.heap.size, 0, none⟩) 1 [(ah, 1, ch)] (prt l 0) by rw [prt_zero]; exact hone _ hH)
    clear hone
    have HS := hideIt (slice_oneB ah 1 ch w2)
    have H60 := hideIt h60
    clear hH hF2 hN2
    go_wp2_with (first | (refine wpList_slice_oneG rfl 68 (.tmp 21) rfl (.slice ah 1 ch) rfl (.slice (some ⟨w2.heap.size, 0, none⟩) 1 1) (w2.alloc (.cells #[.slice ah 1 ch] 22)) HS.out ?_))
    go_loopw [6, 25] (fun s6 s25 wr => ∃ (k : Nat) (pa : Option Addr) (pc : Nat) (rs : List (Option Addr × Nat × Nat)), s6 = .slice pa (k + 1) pc ∧ s25 = .int .i64 k ∧ k ≤ l.length ∧ Hid (Parts w wr pa pc rs (prt l k))) (fun _ s25 _ => l.length - (intOf s25).toNat)
    case atStart => exact ⟨0, some ⟨w2.heap.size, 0, none⟩, 1, [(ah, 1, ch)], rfl, rfl, by omega, HO⟩
    case round =>
      clear HO HS
      obtain ⟨k, pa, pc, rs, rfl, rfl, hk, HPT⟩ := hrel
      by_cases hlt : k < l.length
      · have h1 : (k : Int) < (l.length : Int) := by omega
        obtain ⟨b, off, rfl, hb, hR⟩ := (HB.out wr HPT.out.fr).get k hlt
        have HR := hideIt hR
        obtain ⟨q, hq⟩ : ∃ q, wr.heap.size = q := ⟨_, rfl⟩
        have hZ : (wr.alloc (.cells #[.int .i64 0, .int .i64 0, .int .i64 0, .int .i64 0, .int .i64 0, .string ⟨#[]⟩] 40)).heap[q]? = some (.cells #[.int .i64 0, .int .i64 0, .int .i64 0, .int .i64 0, .int .i64 0, .string ⟨#[]⟩] 40) := by rw [← hq]; exact heap_alloc_new wr _
        have HT := hideIt (there_row hZ (icells l[k]).size (show 6 ≤ 6 from Nat.le_refl _))
        have HO := hideIt (icells_one l[k])
        have HIJ := hideIt (insSize l[k])
        have HIK := hideIt (insSizeA l[k])
        have HW := hideIt (fun W (h : W = (wr.alloc (.cells #[.int .i64 0, .int .i64 0, .int .i64 0, .int .i64 0, .int .i64 0, .string ⟨#[]⟩] 40)).setCells q 0 (icells l[k]).toList) => show W.rangeAt q 0 (icells l[k]).toList ∧ Fr (fun _ => False) wr W by
          subst h
          have hS := store_over (V := icells l[k]) hZ rfl
          refine ⟨fun t v hv => ?_, ((Fr.refl (fun _ => False) wr).alloc _).trans hS.2 (fun i hi e => by omega)⟩
          rw [Nat.zero_add, cell_of_row _ _ _ _ _ _ hS.1]
          simpa using hv)
        have HM := hideIt (fun w => bytes_any l[k] w)
        have HPS := hideIt (prt_succ l k hlt)
        have HPL := hideIt (prt_len l k hk)
        have HQ := hideIt hq
        clear hR hZ
        unfold BytesP at HM
        generalize codeI l[k] = cI at *
        generalize icells l[k] = C at *
        go_wp2_with (first | (refine wpList_load_mid rfl 40 (.tmp 27) rfl b (off + k * 6) rfl C.toList _ HR.out Try.underlying40 rfl HIJ.out ?_) | (refine store_absG rfl 40 (.tmp 8) (.tmp 28) rfl q 0 C rfl rfl HT.out HIK.out HO.out ?_; intro W2 hW2; obtain ⟨hR2, hF2⟩ := HW.out W2 hW2; have HR2 := hideIt hR2; have HP2 := hideIt (HPT.out.quiet hF2); clear hW2 HW HT hR2 hF2) | (refine wpList_load_mid rfl 40 (.tmp 8) rfl q 0 rfl C.toList _ HR2.out Try.underlying40 rfl HIJ.out ?_))
        refine Calls.mono (HM.out _) ?_
        rintro e w4 ⟨a4, c4, rfl, hf4, hF4, hn4⟩
        obtain ⟨pa', pc', w5, hrun, hP5⟩ := (HP2.out.quiet hF4).step (by have := HPL.out; have := H60.out; omega) a4 c4 cI hf4 (fun x hx hy => by have := hn4 x hx; have := HP2.out.row.lt hy; omega)
        rw [HPL.out] at hrun
        have HRUN := hideIt hrun
        have HP5 := hideIt (show Parts w w5 pa' pc' _ (prt l (k + 1)) by rw [HPS.out]; exact hP5)
        have HS4 := hideIt (slice_oneB a4 cI.length c4 w4)
        clear hf4 hF4 hn4 hrun hP5 HM HR HR2 HP2 HPT hq
        go_wp2_with (first | (refine wpList_slice_oneG rfl 68 (.tmp 35) rfl (.slice a4 cI.length c4) rfl (.slice (some ⟨w4.heap.size, 0, none⟩) 1 1) (w4.alloc (.cells #[.slice a4 cI.length c4] 22)) HS4.out ?_) | (at_builtin; refine wpList_append_run _ rfl (.tmp 34) (.tmp 36) 68 68 rfl _ _ _ _ rfl rfl HRUN.out ?_))
        go_roundw
        case measure => simp [intOf]; omega
        case rel => exact ⟨k + 1, pa', pc', _, rfl, by go_num, by omega, HP5⟩
      · have hje : k = l.length := by omega
        have hjn : ¬ (k : Int) < (l.length : Int) := by omega
        subst hje
        have hpl := prt_len l l.length (Nat.le_refl _)
        have HJ := hideIt (gjoined_any pa pc (prt l l.length) (by rw [hpl]; have := H60.out; omega) (prt_short l _) wr HPT.out.bt)
        rw [hpl, prt_all] at HJ
        have HF := hideIt HPT.out.fr
        clear hpl HPT
        go_wp2_with fail
        refine Calls.mono HJ.out ?_
        rintro e w7 ⟨a7, c7, rfl, hf7, hF7, hn7⟩
        have HQ := hideIt (And.intro hf7 (And.intro (HF.out.trans hF7 (fun _ _ e => e)) (fun k hk => Nat.le_trans HF.out.size (hn7 k hk))))
        clear hf7 hF7 hn7 HJ
        go_wp2_with fail
        go_ret2
        exact ⟨a7, c7, 0, at_, progB l, HP.out, by rw [if_pos rfl], rfl, HQ.out.1, HQ.out.2.1, HQ.out.2.2⟩
  · have hne : (err == 0) = false := by simpa using he
    clear hk
    go_wp2_with fail
    go_ret2
    exact ⟨none, 0, err, at_, [], HP.out, by rw [if_neg he], rfl, Or.inl ⟨rfl, rfl, rfl⟩, HF1.out, fun k hk => by obtain ⟨_, e, _⟩ := hk; cases e⟩

end Go.Proofs.Ytojgikaoiegmpaa

/- Package prog: Same, walked. -/
namespace Go.Proofs.Ytojgikaoiegmpaa
open Go.RowKit Go.IntWalk
set_option linter.unusedSimpArgs false
set_option linter.unusedVariables false
set_option maxRecDepth 100000

/-- Whether two instructions are one. -/
def insQ (i k : Ins) : Bool := i.op == k.op && (i.a == k.a && (i.b == k.b && (i.c == k.c && (i.n == k.n && i.s.toList == k.s.toList))))
theorem insQ_iff (i k : Ins) : insQ i k = true ↔ i = k := by
  constructor
  · intro h
    simp only [insQ, Bool.and_eq_true, beq_iff_eq] at h
    obtain ⟨e0, e1, e2, e3, e4, e5⟩ := h
    have e6 : i.s = k.s := by
      rw [Lib.toList_data, Lib.toList_data] at e5
      cases hi : i.s; cases hk : k.s
      rw [hi, hk] at e5
      simp only [ByteArray.mk.injEq]
      exact Array.ext' e5
    clear e5
    cases i; cases k
    simp only at e0 e1 e2 e3 e4 e6
    subst e0 e1 e2 e3 e4 e6
    rfl
  · rintro rfl
    simp [insQ]
theorem eqInQ (i k : Ins) (w : World) : (Op.equalIn 10000 40 (.agg (icells i)) (.agg (icells k))).run Try.prog w = .ok (insQ i k) w := by
  obtain ⟨op, a, b, c, n, s⟩ := i
  obtain ⟨op', a', b', c', n', s'⟩ := k
  have u3 := Try.underlying9
  have a3 := Try.isAgg9
  have z3 := Try.sizeOf9
  have u4 := Try.underlying3
  have a4 := Try.isAgg3
  have z4 := Try.sizeOf3
  rw [show (10000 : Nat) = 9999 + 1 from rfl, run_equalIn_agg w 9999 40 _ _ (by kernel_rfl) (by kernel_rfl)]
  unfold icells insQ
  simp only [Program.fieldsOf, Try.underlying40]
  go_simp
  by_cases h0 : op = op' <;> by_cases h1 : a = a' <;> by_cases h2 : b = b' <;> by_cases h3 : c = c' <;> by_cases h4 : n = n' <;> by_cases h5 : s.toList = s'.toList <;> simp [h0, h1, h2, h3, h4, h5]
theorem neqQ (i k : Ins) (w : World) : (binOp .neq 40 (.agg (icells i)) (.agg (icells k))).run Try.prog w = .ok (.bool (!insQ i k)) w := by
  rw [run_neq_struct, eqInQ]
  rfl
theorem yields_binQ {P : Program} {o : Oper} {a : Act} {w : World} (op : BinOp) (t t' : TypeId) (x y : Operand) (ho : o.op = .binOp op t x y t') (v1 v2 v : Value) (hx : a.eval x = v1) (hy : a.eval y = v2)
    (hrun : (binOp op t v1 v2).run P w = .ok v w) (hg : (eqGuard op t x y v1 v2).run P w = .ok () w) : (execOp a.eval o).run P w = .ok (.value v) w := by
  unfold execOp
  simp only [ho, hx, hy, Sem.run_bind, hg, hrun, Result.andThen_ok, Sem.run_pure]
theorem grdQ (w : World) (op : BinOp) (x y : Operand) (i k : Ins) : (eqGuard op 40 x y (.agg (icells i)) (.agg (icells k))).run Try.prog w = .ok () w := run_eqGuard_agg w op 40 x y _ _ (by kernel_rfl)

/-- Whether two lists are one. -/
def SameP (l m : List Ins) (w : World) (e : Ending) (w' : World) : Prop := ∃ r : Bool, e = .returned (.bool r) ∧ (r = true ↔ l = m) ∧ Fr (fun _ => False) w w'
set_option maxRecDepth 100000 in
set_option maxHeartbeats 2000000 in
theorem geql_any (ao bo : Option Addr) (cap cap2 : Nat) (l m : List Ins) (hl : l.length ≤ 1099511627776) (hm : m.length ≤ 1099511627776) (w : World) (hA : InsRow w ao l) (hB : InsRow w bo m) : Calls Try.prog 46 #[.slice ao l.length cap, .slice bo m.length cap2] w (SameP l m w) := by
  have HA := hideIt (fun W (hF : Fr (fun _ => False) w W) => hA.fr hF (fun _ _ _ e => e))
  have HB := hideIt (fun W (hF : Fr (fun _ => False) w W) => hB.fr hF (fun _ _ _ e => e))
  clear hA hB
  by_cases hne : l.length = m.length
  · have hml : ((m.length : Nat) : Int) = ((l.length : Nat) : Int) := by omega
    have HNE := hideIt hne
    rw [show m.length = l.length from hne.symm]
    clear hne hml
    go_enter Try.func46, Try.ntmps46
    go_wp2_with fail
    go_loopw [13] (fun s13 wr => ∃ k : Nat, s13 = .int .i64 k ∧ k ≤ l.length ∧ Hid (l.take k = m.take k) ∧ Hid (Fr (fun _ => False) w wr)) (fun s13 _ => l.length - (intOf s13).toNat)
    case atStart => exact ⟨0, rfl, by omega, hideIt (by simp), hideIt (Fr.refl _ _)⟩
    case round =>
      obtain ⟨k, rfl, hk, HT, HF⟩ := hrel
      by_cases hlt : k < l.length
      · have h1 : (k : Int) < (l.length : Int) := by omega
        have hlt2 : k < m.length := by have := HNE.out; omega
        obtain ⟨b, off, rfl, hb, hR⟩ := (HA.out wr HF.out).get k hlt
        obtain ⟨b2, off2, rfl, hb2, hR2⟩ := (HB.out wr HF.out).get k hlt2
        have HR := hideIt hR
        have HR2 := hideIt hR2
        have HIJ := hideIt (insSize l[k])
        have HIJ2 := hideIt (insSize m[k])
        have HQN := hideIt (fun w => neqQ l[k] m[k] w)
        have HQG := hideIt (fun w (x y : Operand) => grdQ w .neq x y l[k] m[k])
        have HQI := hideIt (insQ_iff l[k] m[k])
        clear hR hR2
        generalize insQ l[k] m[k] = q at *
        generalize icells l[k] = C at *
        generalize icells m[k] = D at *
        have n0 : (0 : Int) ≤ (k : Int) := by omega
        go_wp2_with fail
        refine wp_region_held_drew (S := (fun w' => w'.rangeAt b (off + k * 6) C.toList ∧ w'.rangeAt b2 (off2 + k * 6) D.toList)) (by kernel_rfl) ?_ (fun hHeld => ?_)
        · exact ⟨HR.out, HR2.out⟩
        refine wpAnyH_take (i := 0) (v := ?v1) rfl (by kernel_rfl) (by kernel_rfl) (by kernel_rfl) (fun _ _ _ h => h) (Or.inl ⟨by kernel_rfl, ?hy1⟩) (by assumption) ?rest1
        case hy1 => intro w hSw; (try dsimp only at hSw); go_simp; (try with_reducible rfl)
        try simp only [Act.put, List.getElem_toArray, List.getElem_cons_zero, List.getElem_cons_succ, List.setIfInBounds_toArray, List.set_cons_zero, List.set_cons_succ]
        refine wpAnyH_take (i := 1) (v := ?v2) rfl (by kernel_rfl) (by kernel_rfl) (by kernel_rfl) (fun _ _ _ h => h) (Or.inl ⟨by kernel_rfl, ?hy2⟩) (by assumption) ?rest2
        case hy2 => intro w hSw; (try dsimp only at hSw); go_simp; (try with_reducible rfl)
        try simp only [Act.put, List.getElem_toArray, List.getElem_cons_zero, List.getElem_cons_succ, List.setIfInBounds_toArray, List.set_cons_zero, List.set_cons_succ]
        refine wpAnyH_take (i := 2) (v := ?v3) rfl (by kernel_rfl) (by kernel_rfl) (by kernel_rfl) (fun _ _ _ h => h) (Or.inl ⟨by kernel_rfl, ?hy3⟩) (by assumption) ?rest3
        case hy3 => intro w hSw; (try dsimp only at hSw); go_simp; (try with_reducible rfl)
        try simp only [Act.put, List.getElem_toArray, List.getElem_cons_zero, List.getElem_cons_succ, List.setIfInBounds_toArray, List.set_cons_zero, List.set_cons_succ]
        refine wpAnyH_take (i := 4) (v := ?v4) rfl (by kernel_rfl) (by kernel_rfl) (by kernel_rfl) (fun _ _ _ h => h) (Or.inl ⟨by kernel_rfl, ?hy4⟩) (by assumption) ?rest4
        case hy4 => intro w hSw; (try dsimp only at hSw); go_simp; (try with_reducible rfl)
        try simp only [Act.put, List.getElem_toArray, List.getElem_cons_zero, List.getElem_cons_succ, List.setIfInBounds_toArray, List.set_cons_zero, List.set_cons_succ]
        refine wpAnyH_take (i := 5) (v := ?v5) rfl (by kernel_rfl) (by kernel_rfl) (by kernel_rfl) (fun _ _ _ h => h) (Or.inl ⟨by kernel_rfl, ?hy5⟩) (by assumption) ?rest5
        case hy5 => intro w hSw; (try dsimp only at hSw); go_simp; (try with_reducible rfl)
        try simp only [Act.put, List.getElem_toArray, List.getElem_cons_zero, List.getElem_cons_succ, List.setIfInBounds_toArray, List.set_cons_zero, List.set_cons_succ]
        refine wpAnyH_take (i := 6) (v := ?v6) rfl (by kernel_rfl) (by kernel_rfl) (by kernel_rfl) (fun _ _ _ h => h) (Or.inl ⟨by kernel_rfl, ?hy6⟩) (by assumption) ?rest6
        case hy6 => intro w hSw; (try dsimp only at hSw); go_simp; (try with_reducible rfl)
        try simp only [Act.put, List.getElem_toArray, List.getElem_cons_zero, List.getElem_cons_succ, List.setIfInBounds_toArray, List.set_cons_zero, List.set_cons_succ]
        refine wpAnyH_take (i := 3) (v := (.agg C)) rfl (by kernel_rfl) (by kernel_rfl) (by kernel_rfl) (fun _ _ _ h => h) (Or.inl ⟨by kernel_rfl, fun w0 hSw => ylm 40 (.tmp 18) rfl b (off + k * 6) rfl C _ hSw.1 Try.underlying40 rfl HIJ.out⟩) (by assumption) ?_
        try simp only [Act.put, List.getElem_toArray, List.getElem_cons_zero, List.getElem_cons_succ, List.setIfInBounds_toArray, List.set_cons_zero, List.set_cons_succ]
        refine wpAnyH_take (i := 7) (v := (.agg D)) rfl (by kernel_rfl) (by kernel_rfl) (by kernel_rfl) (fun _ _ _ h => h) (Or.inl ⟨by kernel_rfl, fun w0 hSw => ylm 40 (.tmp 22) rfl b2 (off2 + k * 6) rfl D _ hSw.2 Try.underlying40 rfl HIJ2.out⟩) (by assumption) ?_
        try simp only [Act.put, List.getElem_toArray, List.getElem_cons_zero, List.getElem_cons_succ, List.setIfInBounds_toArray, List.set_cons_zero, List.set_cons_succ]
        refine wpAnyH_take (i := 8) (v := .bool (!q)) rfl (by kernel_rfl) (by kernel_rfl) (by kernel_rfl) (fun _ _ _ h => h) (Or.inl ⟨by kernel_rfl, fun w0 hSw => yields_binQ .neq 40 40 (.tmp 19) (.tmp 23) rfl (.agg C) (.agg D) (.bool (!q)) rfl rfl (HQN.out _) (HQG.out _ _ _)⟩) (by assumption) ?_
        try simp only [Act.put, List.getElem_toArray, List.getElem_cons_zero, List.getElem_cons_succ, List.setIfInBounds_toArray, List.set_cons_zero, List.set_cons_succ]
        refine wpAnyH_done (by kernel_rfl) ?_ _
        have HF2 := hideIt (HF.out.trans ((Fr.refl (fun _ => False) wr).drew) (fun _ _ e => e))
        clear hHeld HF
        by_cases hq : q = true
        · have HT2 := hideIt (show l.take (k + 1) = m.take (k + 1) by
            rw [List.take_succ_eq_append_getElem hlt, List.take_succ_eq_append_getElem hlt2, HT.out, HQI.out.1 hq])
          subst hq
          go_wp2_with fail
          go_roundw
          case measure => simp [intOf]; omega
          case rel => exact ⟨k + 1, by go_num, by omega, HT2, HF2⟩
        · have HX := hideIt (show ¬ l = m from fun h => hq (HQI.out.2 (by subst h; rfl)))
          have hq2 : q = false := by simpa using hq
          subst hq2
          go_wp2_with fail
          go_ret
          exact ⟨false, rfl, ⟨fun h => (by cases h), fun h => absurd h HX.out⟩, HF2.out⟩
      · have hje : k = l.length := by omega
        have hjn : ¬ (k : Int) < (l.length : Int) := by omega
        have HLM := hideIt (show l = m by
          have h := HT.out
          rwa [List.take_of_length_le (by omega), List.take_of_length_le (by have := HNE.out; omega)] at h)
        go_wp2_with fail
        go_ret
        exact ⟨true, rfl, ⟨fun _ => HLM.out, fun _ => rfl⟩, HF.out⟩
  · have hne2 : ¬ ((l.length : Nat) : Int) = ((m.length : Nat) : Int) := by omega
    have hne3 : (((l.length : Nat) : Int) == ((m.length : Nat) : Int)) = false := beq_eq_false_iff_ne.2 hne2
    have HNE := hideIt hne
    go_enter Try.func46, Try.ntmps46
    go_wp2_with fail
    go_ret
    exact ⟨false, rfl, ⟨fun h => (by cases h), fun h => absurd (by rw [h]) HNE.out⟩, Fr.refl _ _⟩

theorem gsame_any (ao bo : Option Addr) (cap cap2 : Nat) (l m : List Ins) (hl : l.length ≤ 1099511627776) (hm : m.length ≤ 1099511627776) (w : World) (hA : InsRow w ao l) (hB : InsRow w bo m) : Calls Try.prog 23 #[.slice ao l.length cap, .slice bo m.length cap2] w (SameP l m w) := by
  have HC := hideIt (geql_any ao bo cap cap2 l m hl hm w hA hB)
  clear hA hB
  go_enter Try.func23, Try.ntmps23
  go_wp2_with fail
  refine Calls.mono HC.out ?_
  rintro e w1 ⟨r, rfl, hr, hF⟩
  have HR := hideIt (And.intro hr hF)
  clear hr hF
  go_wp2_with fail
  go_ret
  exact ⟨r, rfl, HR.out.1, HR.out.2⟩

end Go.Proofs.Ytojgikaoiegmpaa

/- Code: Read, from a place within the bytes. -/
namespace Go.Proofs.Ytojgikaoiegmpaa
open Go.RowKit Go.IntWalk Go.Lib
set_option linter.unusedSimpArgs false
set_option linter.unusedVariables false
set_option maxRecDepth 100000

set_option maxRecDepth 100000 in
set_option maxHeartbeats 2000000 in
theorem read_in1 (ao : Option Addr) (cap : Nat) (bs : List UInt8) (a : Nat) (w : World) (h : BsAt w ao bs) (hcap0 : ao = none → cap = 0) (hcl : bs.length ≤ cap) (hb : bs.length ≤ 140737488355328) (hale : a ≤ bs.length) (hca : cap = a) :
    Calls Try.prog 52 #[.slice ao bs.length cap, .int .i64 (a : Int)] w fun e w' => e = .returned (readV (readR bs a)) ∧ Fr (fun _ => False) w w' := by
  have hd1 : decide ((a : Int) < 0) = false := decide_eq_false (by omega)
  have hd2 : decide ((bs.length : Int) < (a : Int)) = false := decide_eq_false (by omega)
  have HOP := hideIt (open_end ao bs a w ((w.alloc (.cells (icells zeroI) 40)).alloc (.cells #[.int .i64 0, .int .i64 0] 28)) h (((Fr.refl _ w).alloc _).alloc _) (by omega))
  have hcs : (win bs a).length ≤ 67 := by rw [win_len]; omega
  generalize hcsE : win bs a = cs at *
  have HCS := hideIt hcsE
  clear hcsE
  obtain ⟨m, hm0⟩ : ∃ m : Nat, (rInt cs 1 15 (0, 0, 0)).1 = m := ⟨_, (Int.toNat_of_nonneg (rInt_rng cs 1 15 (0, 0, 0) (by decide)).1).symm⟩
  have hm : m ≤ 15 := by have := (rInt_rng cs 1 15 (0, 0, 0) (by decide)).2; omega
  have HFB1 := hideIt (rInt_fb (bs := cs) (lo := 1) (hi := 15) (s := (0, 0, 0)) ⟨Nat.zero_le _, Int.le_refl _, by show (0 : Int) ≤ cs.length; omega⟩)
  have HRI := hideIt (fun p t ao cap w h hb => by have := rint_any p t ao cap cs (0, 0, 0) 1 15 w h hb; rw [hm0] at this; exact this)
  have HRD := hideIt (show rdI cs = tks cs (ltrs m) (⟨m, 0, 0, 0, 0, ⟨#[]⟩⟩, (rInt cs 1 15 (0, 0, 0)).2) by unfold rdI; rw [hm0, Int.toNat_natCast])
  generalize (rInt cs 1 15 (0, 0, 0)).2 = s1 at *
  clear hm0
  have HK := hideIt kinds_any
  have hidx := idx_run m hm
  go_enter Try.func52, Try.ntmps52
  go_wp2_with fail
  refine Calls.mono HOP.out ?_
  rintro e w1 ⟨p, t, ao1, cap1, rfl, hR, hF1, hp, ht, hn⟩
  simp at hp ht hn
  clear HOP
  have HR := hideIt hR
  have HF1 := hideIt hF1
  have HN := hideIt hn
  have hs1 : w.heap.size + 2 ≤ w1.heap.size := by have := hF1.size; simp at this; omega
  have hpl : p < w1.heap.size := hR.lt
  have htl : t < w1.heap.size := hR.tp.lt
  have HSL := hideIt (fun k (hk : wset t ao1 k) => hR.setlt hk)
  clear hR hF1 hn
  go_wp2_with fail
  refine Calls.mono (HRI.out p t ao1 cap1 w1 ⟨HR.out, Nat.zero_le _⟩ (by omega)) ?_
  rintro e w2 ⟨rfl, hR2, hF2⟩
  have HR2 := hideIt hR2
  have HF2 := hideIt (HF1.out.mono (S' := fun k => w.heap.size + 2 ≤ k) (fun _ e => e.elim) |>.trans hF2 (fun k _ e => by omega))
  have hs2 : w1.heap.size ≤ w2.heap.size := hF2.size
  clear hR2 hF2 HRI HR HF1
  go_wp2_with fail
  have HI1 := hideIt (fun w' (hF : Fr (fun _ => False) (w2.alloc (.cells (icells ⟨m, 0, 0, 0, 0, ⟨#[]⟩⟩) 40)) w') => show InsAt w' w2.heap.size ⟨m, 0, 0, 0, 0, ⟨#[]⟩⟩ from (hF.block w2.heap.size (by simp) (fun e => e)).trans (heap_new rfl))
  refine wp_region_held_drew (S := fun w0 => w0.cell? ⟨w2.heap.size, 0, none⟩ = some (.int .i64 (m : Int))) (by kernel_rfl) ?_ (fun hHeld => ?_)
  · exact (HI1.out _ (Fr.refl _ _).drew).c0
  refine wpAnyH_take (i := 1) (v := ?v1) rfl (by kernel_rfl) (by kernel_rfl) (by kernel_rfl) (fun _ _ _ h => h) (Or.inl ⟨by rfl, ?hy1⟩) (by assumption) ?rest1
  case hy1 => intro w hSw; (try dsimp only at hSw); go_simp; (try with_reducible rfl)
  try simp only [Act.put, List.setIfInBounds_toArray, List.set_cons_zero, List.set_cons_succ]
  refine wpAnyH_take (i := 2) (v := ?v2) rfl (by kernel_rfl) (by kernel_rfl) (by kernel_rfl) (fun _ _ _ h => h) (Or.inl ⟨by rfl, ?hy2⟩) (by assumption) ?rest2
  case hy2 => intro w hSw; (try dsimp only at hSw); go_simp; (try with_reducible rfl)
  try simp only [Act.put, List.setIfInBounds_toArray, List.set_cons_zero, List.set_cons_succ]
  refine wpAnyH_ready (rs := [0]) (by kernel_rfl) (by simp) ?_
  refine AllReadyH.cons rfl (fun K hK => ?_) AllReadyH.nil
  go_simp
  refine Calls.mono (HK.out _) ?_
  rintro e w4 ⟨rfl, hF⟩
  have HF := hideIt hF
  clear hF
  refine hK.out _ _ ?_ (fun hHeld => ?_)
  · exact (HI1.out _ ((Fr.refl _ _).drew.trans HF.out (fun _ _ e => e))).c0
  clear hK K
  try simp only [Act.put, List.setIfInBounds_toArray, List.set_cons_zero, List.set_cons_succ]
  refine wpAnyH_take (i := 3) (v := ?v3) rfl (by kernel_rfl) (by kernel_rfl) (by kernel_rfl) (fun _ _ _ h => h) (Or.inl ⟨by rfl, ?hy3⟩) (by assumption) ?rest3
  case hy3 => intro w hSw; (try dsimp only at hSw); go_simp; first | done | exact hidx w | (with_reducible rfl) | rfl
  try simp only [Act.put, List.setIfInBounds_toArray, List.set_cons_zero, List.set_cons_succ]
  refine wpAnyH_ready (rs := [4]) (by kernel_rfl) (by simp) ?_
  refine AllReadyH.cons rfl (fun K hK => ?_) AllReadyH.nil
  go_simp
  refine hK.out _ _ ?_ (fun hHeld => ?_)
  · exact (HI1.out _ (((Fr.refl _ _).drew.trans HF.out (fun _ _ e => e)).alloc _)).c0
  clear hK K
  try simp only [Act.put, List.setIfInBounds_toArray, List.set_cons_zero, List.set_cons_succ]
  refine wpAnyH_done (by kernel_rfl) ?_ _
  skip
  go_wp2_with fail
  have hs4 : w2.heap.size < w4.heap.size := by have := HF.out.size; simp at this; omega
  have HFC := hideIt (((Fr.refl (fun _ => False) (w2.alloc (.cells (icells ⟨m, 0, 0, 0, 0, ⟨#[]⟩⟩) 40))).drew.trans HF.out (fun _ _ e => e)).alloc (.stringIter (kindT m) 0))
  have HIW := hideIt (HI1.out _ HFC.out)
  have HRW := hideIt ((HR2.out.fr0 ((Fr.refl _ _).alloc _)).fr0 HFC.out)
  have HFW := hideIt ((HF2.out.alloc _).trans HFC.out (fun _ _ e => e.elim))
  clear HI1 HK hidx HF hHeld HR2 HF2 HFC
  go_loopw [10] (fun _ wr => ∃ (pos : Nat) (i : Ins) (s : Nat × Int × Int), Hid (wr.heap[w4.heap.size]? = some (.stringIter (kindT m) pos)) ∧ Hid (InsAt wr w2.heap.size i) ∧ Hid (ROk wr p t ao1 cap1 cs s) ∧ Hid (Fr (fun k => w.heap.size + 2 ≤ k) ((w.alloc (.cells (icells zeroI) 40)).alloc (.cells #[.int .i64 0, .int .i64 0] 28)) wr) ∧ Hid (FB cs s ∧ rdI cs = tks cs ((ltrs m).drop pos) (i, s))) (fun _ wr => (kindT m).size - wr.iterPos w4.heap.size)
  case atStart => exact ⟨0, ⟨m, 0, 0, 0, 0, ⟨#[]⟩⟩, s1, hideIt (heap_new rfl), HIW, HRW, HFW, hideIt ⟨HFB1.out, HRD.out⟩⟩
  case round =>
    obtain ⟨pos, i, s, HIT, HJ, HRO, HFR, HP⟩ := hrel
    have hne : w2.heap.size ≠ w4.heap.size := by omega
    by_cases hp4 : pos < (kindT m).size
    · obtain ⟨hl, hd0, _⟩ := ltrs_at m pos hm hp4
      have HD := hideIt hd0
      have hnx := fun ty => run_next_ascii_at (P := Try.prog) wr w4.heap.size (kindT m) pos ty HIT.out hp4 (by have := hl; omega)
      clear hd0
      generalize ((kindT m)[pos]'hp4).toNat = l at *
      have HFI := hideIt ((Fr.refl (fun k => k = w4.heap.size) wr).iterAt (k := w4.heap.size) (fun _ => rfl) (kindT m) (pos + 1))
      have HJ1 := hideIt (HJ.out.fr HFI.out hne)
      have HR1 := hideIt (show ROk _ p t ao1 cap1 cs s from ⟨HRO.out.1.fr HFI.out (by omega) (fun k hk e => by have := HSL.out k hk; omega), HRO.out.2⟩)
      have HIT1 := hideIt (iterAt_heap wr w4.heap.size (kindT m) pos (pos + 1) HIT.out)
      have HFR1 := hideIt (HFR.out.trans HFI.out (fun i hi e => by omega))
      have hpos0 := hideIt (iterPos_of HIT.out)
      generalize wr.iterAt w4.heap.size (kindT m) (pos + 1) = W1 at *
      go_wp2_with fail
      refine Calls.mono (find_w w2.heap.size l hl _) ?_
      rintro e w5 ⟨rfl, hF5⟩
      have HJ5 := hideIt (HJ1.out.fr hF5 (fun e => e))
      have HR5 := hideIt (HR1.out.fr0 hF5)
      have HIT5 := hideIt ((hF5.block w4.heap.size (Array.getElem?_eq_some_iff.1 HIT1.out).1 (fun e => e)).trans HIT1.out)
      have HFR5 := hideIt (HFR1.out.trans hF5 (fun _ _ e => e.elim))
      clear hF5
      go_wp2_with fail
      refine Calls.mono (take_w w2.heap.size l hl p t i ao1 cap1 cs s w5 HJ5.out HR5.out (by omega) (fun e => by have := HSL.out _ e; omega) (by omega)) ?_
      rintro e w6 ⟨rfl, hI6, hR6, hF6⟩
      have HI6 := hideIt hI6
      have HR6 := hideIt hR6
      have HF6 := hideIt hF6
      clear hI6 hR6 hF6
      have hk5 : w4.heap.size < w5.heap.size := (Array.getElem?_eq_some_iff.1 HIT5.out).1
      have HIT6 := hideIt ((HF6.out.block w4.heap.size hk5 (by omega)).trans HIT5.out)
      go_wp2_with fail
      go_roundw
      case measure =>
        rw [iterPos_of HIT6.out, hpos0.out]
        omega
      case rel =>
        exact ⟨pos + 1, (tk cs l i s).1, (tk cs l i s).2, HIT6, HI6, HR6, hideIt (HFR5.out.trans HF6.out (fun k hk e => by omega)), hideIt ⟨tk_fb HP.out.1, by rw [HP.out.2, HD.out]; rfl⟩⟩
    · have hnx := fun ty => run_next_end_at (P := Try.prog) wr w4.heap.size (kindT m) pos ty HIT.out hp4
      have HX := hideIt (show rdI cs = (i, s) by rw [HP.out.2, ltrs_end m pos hp4]; rfl)
      have HFBs := hideIt HP.out.1
      clear HP HRD HFB1
      have hA := (HFR.out.block w.heap.size (by simp; omega) (by omega)).trans (heap_old (heap_new rfl))
      have hF := (HFR.out.block (w.heap.size + 1) (by simp) (by omega)).trans (heap_new (by simp))
      obtain ⟨sp, se, sa⟩ := s
      have hsp : (sp : Int) ≤ 67 := by have := HFBs.out.1; dsimp only at this; omega
      have hsa : 0 ≤ sa ∧ sa ≤ 67 := by have := HFBs.out.2; dsimp only at this; omega
      obtain ⟨hsa0, hsa1⟩ := hsa
      go_wp2_with fail
      refine Calls.mono (rfault_any p t ao1 cap1 cs (sp, se, sa) wr HRO.out) ?_
      rintro e w7 ⟨rfl, hF7⟩
      have hs7 : wr.heap.size ≤ w7.heap.size := hF7.size
      have HF8 := hideIt (hF7.alloc (.cells #[.int .i64 se, .int .i64 sa] 28))
      have HJ8 := hideIt (HJ.out.fr HF8.out (fun e => e))
      have HR8 := hideIt (HRO.out.fr0 HF8.out)
      have HG8 := hideIt (show (w7.alloc (.cells #[.int .i64 se, .int .i64 sa] 28)).drew.cell? ⟨w7.heap.size, 0, none⟩ = some (.int .i64 se) ∧ (w7.alloc (.cells #[.int .i64 se, .int .i64 sa] 28)).drew.cell? ⟨w7.heap.size, 1, none⟩ = some (.int .i64 sa) from ⟨cellOfHeap (heap_new rfl) 0 rfl, cellOfHeap (heap_new rfl) 1 rfl⟩)
      have hA8 := (HF8.out.block w.heap.size (by have := (Array.getElem?_eq_some_iff.1 hA).1; omega) (fun e => e)).trans hA
      have hF8 := (HF8.out.block (w.heap.size + 1) (by have := (Array.getElem?_eq_some_iff.1 hF).1; omega) (fun e => e)).trans hF
      have hQ8 := HJ8.out.lt
      have HA8h := hideIt (show (w7.alloc (.cells #[.int .i64 se, .int .i64 sa] 28)).drew.heap[w.heap.size]? = _ from hA8)
      have HF8h := hideIt (show (w7.alloc (.cells #[.int .i64 se, .int .i64 sa] 28)).drew.heap[w.heap.size + 1]? = _ from hF8)
      have hFlt : w.heap.size + 1 < (w7.alloc (.cells #[.int .i64 se, .int .i64 sa] 28)).drew.heap.size := (Array.getElem?_eq_some_iff.1 hF8).1
      have HG9 := hideIt (fun (w' : World) (h : w'.heap[w7.heap.size]? = some (.cells #[.int .i64 se, .int .i64 sa] 28)) => And.intro (cellOfHeap h 0 rfl) (cellOfHeap h 1 rfl))
      have HFRw := hideIt ((((Fr.refl (fun _ => False) w).alloc (.cells (icells zeroI) 40)).alloc (.cells #[.int .i64 0, .int .i64 0] 28)).trans (HFR.out.trans HF8.out (fun _ _ e => e.elim)) (fun k hk e => by omega) |>.drew)
      have hsz : w.heap.size + 2 ≤ wr.heap.size := by have := HFR.out.size; simp at this; omega
      have hwr1 : IntKind.i64.wrap ((a : Int) + sa) = (a : Int) + sa := i64_in _ (by omega)
      have hwr2 : IntKind.i64.wrap ((a : Int) + (sp : Int)) = (a : Int) + (sp : Int) := i64_in _ (by omega)
      have hGA : w7.heap.size ≠ w.heap.size := by omega
      have hGF : w7.heap.size ≠ w.heap.size + 1 := by omega
      have hQA : w2.heap.size ≠ w.heap.size := by omega
      have hQF : w2.heap.size ≠ w.heap.size + 1 := by omega
      clear hF7 hA hF hA8 hF8
      by_cases hz : se = 0
      · subst hz
        have HE := hideIt (show readR bs a = (i, (a : Int) + sp, 0, 0) by unfold readR; rw [if_neg (by omega), Int.toNat_natCast, HCS.out, HX.out]; exact if_pos rfl)
        go_wp2_with fail
        refine wp_region_held_drew (S := fun w0 => InsAt w0 w2.heap.size i) (by kernel_rfl) ?_ (fun hHeld => ?_)
        · exact HJ8.out.keep rfl
        refine wpAnyH_take (i := 0) (v := ?v201) rfl (by kernel_rfl) (by kernel_rfl) (by kernel_rfl) (fun _ _ _ h => h) (Or.inl ⟨by rfl, ?hy201⟩) (by assumption) ?rest201
        case hy201 => intro w hSw; (try dsimp only at hSw); have c0 := hSw.c0; have c1 := hSw.c1; have c2 := hSw.c2; have c3 := hSw.c3; have c4 := hSw.c4; have c5 := hSw.c5; go_simp; (try with_reducible rfl)
        try simp only [Act.put, List.getElem_toArray, List.getElem_cons_zero, List.getElem_cons_succ, List.setIfInBounds_toArray, List.set_cons_zero, List.set_cons_succ]
        refine wpAnyH_take (i := 1) (v := ?v202) rfl (by kernel_rfl) (by kernel_rfl) (by kernel_rfl) (fun _ _ _ h => h) (Or.inl ⟨by rfl, ?hy202⟩) (by assumption) ?rest202
        case hy202 => intro w hSw; (try dsimp only at hSw); go_simp; (try with_reducible rfl)
        try simp only [Act.put, List.getElem_toArray, List.getElem_cons_zero, List.getElem_cons_succ, List.setIfInBounds_toArray, List.set_cons_zero, List.set_cons_succ]
        refine wpAnyH_take (i := 2) (v := ?v203) rfl (by kernel_rfl) (by kernel_rfl) (by kernel_rfl) (fun _ _ _ h => h) (Or.inl ⟨by rfl, ?hy203⟩) (by assumption) ?rest203
        case hy203 => intro w hSw; (try dsimp only at hSw); go_simp; (try with_reducible rfl)
        try simp only [Act.put, List.getElem_toArray, List.getElem_cons_zero, List.getElem_cons_succ, List.setIfInBounds_toArray, List.set_cons_zero, List.set_cons_succ]
        refine wpAnyH_take (i := 5) (v := ?v204) rfl (by kernel_rfl) (by kernel_rfl) (by kernel_rfl) (fun _ _ _ h => h) (Or.inl ⟨by rfl, ?hy204⟩) (by assumption) ?rest204
        case hy204 => intro w hSw; (try dsimp only at hSw); go_simp; (try with_reducible rfl)
        try simp only [Act.put, List.getElem_toArray, List.getElem_cons_zero, List.getElem_cons_succ, List.setIfInBounds_toArray, List.set_cons_zero, List.set_cons_succ]
        refine wpAnyH_ready (rs := [3]) (by kernel_rfl) (by simp) ?_
        refine AllReadyH.cons rfl (fun K hK => ?_) AllReadyH.nil
        go_simp
        refine Calls.mono (rat_any p t ao1 cap1 cs (sp, 0, sa) _ (HR8.out.fr0 (Fr.refl _ _).drew)) ?_
        rintro e w9 ⟨rfl, rfl⟩
        refine hK.out _ _ ?_ (fun hHeld => ?_)
        · exact HJ8.out.keep rfl
        clear hK K
        try simp only [Act.put, List.getElem_toArray, List.getElem_cons_zero, List.getElem_cons_succ, List.setIfInBounds_toArray, List.set_cons_zero, List.set_cons_succ]
        refine wpAnyH_take (i := 4) (v := ?v205) rfl (by kernel_rfl) (by kernel_rfl) (by kernel_rfl) (fun _ _ _ h => h) (Or.inl ⟨by rfl, ?hy205⟩) (by assumption) ?rest205
        case hy205 => intro w hSw; (try dsimp only at hSw); go_simp; (try with_reducible rfl)
        try simp only [Act.put, List.getElem_toArray, List.getElem_cons_zero, List.getElem_cons_succ, List.setIfInBounds_toArray, List.set_cons_zero, List.set_cons_succ]
        refine wpAnyH_ready (rs := [6]) (by kernel_rfl) (by simp) ?_
        refine AllReadyH.cons rfl (fun K hK => ?_) AllReadyH.nil
        rw [if_pos (by rfl)]
        refine wp_store_mid 40 _ _ rfl w.heap.size 0 (icells i) rfl rfl (there_row HA8h.out _ (Nat.le_refl _)) (by kernel_rfl) (icells_one _) ?_
        obtain ⟨hst, hfr⟩ := store_over (V := (icells i)) HA8h.out (by rfl)
        have HA10 := hideIt hst
        have HFr10 := hideIt hfr
        have HG10 := hideIt ((hfr.block (w.heap.size + 1) hFlt (by omega)).trans HF8h.out)
        clear hst hfr
        generalize hW10 : World.setCells _ w.heap.size 0 _ = W10 at *
        clear hW10
        refine hK.out _ _ ?_ (fun hHeld => ?_)
        · exact HJ8.out.keep (HFr10.out.block w2.heap.size HJ8.out.lt hQA)
        clear hK K
        try simp only [Act.put, List.getElem_toArray, List.getElem_cons_zero, List.getElem_cons_succ, List.setIfInBounds_toArray, List.set_cons_zero, List.set_cons_succ]
        refine wpAnyH_take (i := 7) (v := ?v206) rfl (by kernel_rfl) (by kernel_rfl) (by kernel_rfl) (fun _ _ _ h => h) (Or.inl ⟨by rfl, ?hy206⟩) (by assumption) ?rest206
        case hy206 => intro w hSw; (try dsimp only at hSw); go_simp; (try with_reducible rfl)
        try simp only [Act.put, List.getElem_toArray, List.getElem_cons_zero, List.getElem_cons_succ, List.setIfInBounds_toArray, List.set_cons_zero, List.set_cons_succ]
        refine wpAnyH_ready (rs := [8]) (by kernel_rfl) (by simp) ?_
        refine AllReadyH.cons rfl (fun K hK => ?_) AllReadyH.nil
        rw [if_pos (by rfl)]
        refine wp_store_mid 28 _ _ rfl (w.heap.size + 1) 0 #[.int .i64 0, .int .i64 0] rfl rfl (there_row HG10.out _ (Nat.le_refl _)) (by kernel_rfl) (fault_one _ _) ?_
        obtain ⟨hst, hfr⟩ := store_over (V := #[.int .i64 0, .int .i64 0]) HG10.out (by rfl)
        have HG11 := hideIt hst
        have HFr11 := hideIt ((HFr10.out.mono (S' := fun k => k = w.heap.size ∨ k = w.heap.size + 1) (fun _ e => Or.inl e)).trans hfr (fun _ _ e => Or.inr e))
        have HA11 := hideIt ((hfr.block w.heap.size (Array.getElem?_eq_some_iff.1 HA10.out).1 (by omega)).trans HA10.out)
        clear hst hfr
        generalize hW11 : World.setCells _ (w.heap.size + 1) 0 _ = W11 at *
        clear hW11
        refine hK.out _ _ ?_ (fun hHeld => ?_)
        · exact HJ8.out.keep (HFr11.out.block w2.heap.size HJ8.out.lt (by omega))
        clear hK K
        try simp only [Act.put, List.getElem_toArray, List.getElem_cons_zero, List.getElem_cons_succ, List.setIfInBounds_toArray, List.set_cons_zero, List.set_cons_succ]
        refine wpAnyH_done (by kernel_rfl) ?_ _
        go_wp2_with fail
        have hA0 := cellOfHeap HA11.out 0 rfl
        have hA1 := cellOfHeap HA11.out 1 rfl
        have hA2 := cellOfHeap HA11.out 2 rfl
        have hA3 := cellOfHeap HA11.out 3 rfl
        have hA4 := cellOfHeap HA11.out 4 rfl
        have hA5 := cellOfHeap HA11.out 5 rfl
        have hF0 := cellOfHeap HG11.out 0 rfl
        have hF1 := cellOfHeap HG11.out 1 rfl
        refine bodyPost_ret (v := readV (i, (a : Int) + sp, 0, 0)) (by simp [results, Try.results52, go_sem, readV, icells, zeroI, hA0, hA1, hA2, hA3, hA4, hA5, hF0, hF1]) rfl ⟨by rw [HE.out], ?_⟩
        exact HFRw.out.trans HFr11.out (fun k hk e => by omega)
      · have HE := hideIt (show readR bs a = (zeroI, 0, se, (a : Int) + sa) by unfold readR; rw [if_neg (by omega), Int.toNat_natCast, HCS.out, HX.out]; exact if_neg hz)
        go_wp2_with fail
        refine wp_region_held_drew (S := fun w0 => w0.cell? ⟨w7.heap.size, 0, none⟩ = some (.int .i64 se) ∧ w0.cell? ⟨w7.heap.size, 1, none⟩ = some (.int .i64 sa)) (by kernel_rfl) ?_ (fun hHeld => ?_)
        · exact HG8.out
        refine wpAnyH_take (i := 0) (v := ?v207) rfl (by kernel_rfl) (by kernel_rfl) (by kernel_rfl) (fun _ _ _ h => h) (Or.inl ⟨by rfl, ?hy207⟩) (by assumption) ?rest207
        case hy207 => intro w hSw; (try dsimp only at hSw); go_simp; (try with_reducible rfl)
        try simp only [Act.put, List.getElem_toArray, List.getElem_cons_zero, List.getElem_cons_succ, List.setIfInBounds_toArray, List.set_cons_zero, List.set_cons_succ]
        refine wpAnyH_take (i := 1) (v := ?v208) rfl (by kernel_rfl) (by kernel_rfl) (by kernel_rfl) (fun _ _ _ h => h) (Or.inl ⟨by rfl, ?hy208⟩) (by assumption) ?rest208
        case hy208 => intro w hSw; (try dsimp only at hSw); go_simp; (try with_reducible rfl)
        try simp only [Act.put, List.getElem_toArray, List.getElem_cons_zero, List.getElem_cons_succ, List.setIfInBounds_toArray, List.set_cons_zero, List.set_cons_succ]
        refine wpAnyH_take (i := 2) (v := ?v209) rfl (by kernel_rfl) (by kernel_rfl) (by kernel_rfl) (fun _ _ _ h => h) (Or.inl ⟨by rfl, ?hy209⟩) (by assumption) ?rest209
        case hy209 => intro w hSw; (try dsimp only at hSw); go_simp; (try with_reducible rfl)
        try simp only [Act.put, List.getElem_toArray, List.getElem_cons_zero, List.getElem_cons_succ, List.setIfInBounds_toArray, List.set_cons_zero, List.set_cons_succ]
        refine wpAnyH_take (i := 3) (v := ?v210) rfl (by kernel_rfl) (by kernel_rfl) (by kernel_rfl) (fun _ _ _ h => h) (Or.inl ⟨by rfl, ?hy210⟩) (by assumption) ?rest210
        case hy210 => intro w hSw; (try dsimp only at hSw); go_simp; (try with_reducible rfl)
        try simp only [Act.put, List.getElem_toArray, List.getElem_cons_zero, List.getElem_cons_succ, List.setIfInBounds_toArray, List.set_cons_zero, List.set_cons_succ]
        refine wpAnyH_take (i := 4) (v := ?v211) rfl (by kernel_rfl) (by kernel_rfl) (by kernel_rfl) (fun _ _ _ h => h) (Or.inl ⟨by rfl, ?hy211⟩) (by assumption) ?rest211
        case hy211 => intro w hSw; (try dsimp only at hSw); go_simp; (try with_reducible rfl)
        try simp only [Act.put, List.getElem_toArray, List.getElem_cons_zero, List.getElem_cons_succ, List.setIfInBounds_toArray, List.set_cons_zero, List.set_cons_succ]
        refine wpAnyH_take (i := 5) (v := ?v212) rfl (by kernel_rfl) (by kernel_rfl) (by kernel_rfl) (fun _ _ _ h => h) (Or.inl ⟨by rfl, ?hy212⟩) (by assumption) ?rest212
        case hy212 => intro w hSw; (try dsimp only at hSw); go_simp; (try with_reducible rfl)
        try simp only [Act.put, List.getElem_toArray, List.getElem_cons_zero, List.getElem_cons_succ, List.setIfInBounds_toArray, List.set_cons_zero, List.set_cons_succ]
        refine wpAnyH_take (i := 6) (v := ?v213) rfl (by kernel_rfl) (by kernel_rfl) (by kernel_rfl) (fun _ _ _ h => h) (Or.inl ⟨by rfl, ?hy213⟩) (by assumption) ?rest213
        case hy213 => intro w hSw; (try dsimp only at hSw); go_simp; (try with_reducible rfl)
        try simp only [Act.put, List.getElem_toArray, List.getElem_cons_zero, List.getElem_cons_succ, List.setIfInBounds_toArray, List.set_cons_zero, List.set_cons_succ]
        refine wpAnyH_take (i := 7) (v := ?v214) rfl (by kernel_rfl) (by kernel_rfl) (by kernel_rfl) (fun _ _ _ h => h) (Or.inl ⟨by rfl, ?hy214⟩) (by assumption) ?rest214
        case hy214 => intro w hSw; (try dsimp only at hSw); go_simp; (try with_reducible rfl)
        try simp only [Act.put, List.getElem_toArray, List.getElem_cons_zero, List.getElem_cons_succ, List.setIfInBounds_toArray, List.set_cons_zero, List.set_cons_succ]
        refine wpAnyH_ready (rs := [8]) (by kernel_rfl) (by simp) ?_
        refine AllReadyH.cons rfl (fun K hK => ?_) AllReadyH.nil
        rw [if_pos (by rfl)]
        refine wp_store_mid 40 _ _ rfl w.heap.size 0 (icells zeroI) rfl rfl (there_row HA8h.out _ (Nat.le_refl _)) (by kernel_rfl) (icells_one _) ?_
        obtain ⟨hst, hfr⟩ := store_over (V := (icells zeroI)) HA8h.out (by rfl)
        have HA10 := hideIt hst
        have HFr10 := hideIt hfr
        have HG10 := hideIt ((hfr.block (w.heap.size + 1) hFlt (by omega)).trans HF8h.out)
        clear hst hfr
        generalize hW10 : World.setCells _ w.heap.size 0 _ = W10 at *
        clear hW10
        refine hK.out _ _ ?_ (fun hHeld => ?_)
        · exact HG9.out _ ((HFr10.out.block w7.heap.size (by simp) hGA).trans (heap_new rfl))
        clear hK K
        try simp only [Act.put, List.getElem_toArray, List.getElem_cons_zero, List.getElem_cons_succ, List.setIfInBounds_toArray, List.set_cons_zero, List.set_cons_succ]
        refine wpAnyH_take (i := 9) (v := ?v215) rfl (by kernel_rfl) (by kernel_rfl) (by kernel_rfl) (fun _ _ _ h => h) (Or.inl ⟨by rfl, ?hy215⟩) (by assumption) ?rest215
        case hy215 => intro w hSw; (try dsimp only at hSw); go_simp; (try with_reducible rfl)
        try simp only [Act.put, List.getElem_toArray, List.getElem_cons_zero, List.getElem_cons_succ, List.setIfInBounds_toArray, List.set_cons_zero, List.set_cons_succ]
        refine wpAnyH_ready (rs := [10]) (by kernel_rfl) (by simp) ?_
        refine AllReadyH.cons rfl (fun K hK => ?_) AllReadyH.nil
        rw [if_pos (by rfl)]
        refine wp_store_mid 28 _ _ rfl (w.heap.size + 1) 0 #[.int .i64 se, .int .i64 ((a : Int) + sa)] rfl rfl (there_row HG10.out _ (Nat.le_refl _)) (by kernel_rfl) (fault_one _ _) ?_
        obtain ⟨hst, hfr⟩ := store_over (V := #[.int .i64 se, .int .i64 ((a : Int) + sa)]) HG10.out (by rfl)
        have HG11 := hideIt hst
        have HFr11 := hideIt ((HFr10.out.mono (S' := fun k => k = w.heap.size ∨ k = w.heap.size + 1) (fun _ e => Or.inl e)).trans hfr (fun _ _ e => Or.inr e))
        have HA11 := hideIt ((hfr.block w.heap.size (Array.getElem?_eq_some_iff.1 HA10.out).1 (by omega)).trans HA10.out)
        clear hst hfr
        generalize hW11 : World.setCells _ (w.heap.size + 1) 0 _ = W11 at *
        clear hW11
        refine hK.out _ _ ?_ (fun hHeld => ?_)
        · exact HG9.out _ ((HFr11.out.block w7.heap.size (by simp) (by omega)).trans (heap_new rfl))
        clear hK K
        try simp only [Act.put, List.getElem_toArray, List.getElem_cons_zero, List.getElem_cons_succ, List.setIfInBounds_toArray, List.set_cons_zero, List.set_cons_succ]
        refine wpAnyH_done (by kernel_rfl) ?_ _
        go_wp2_with fail
        have hA0 := cellOfHeap HA11.out 0 rfl
        have hA1 := cellOfHeap HA11.out 1 rfl
        have hA2 := cellOfHeap HA11.out 2 rfl
        have hA3 := cellOfHeap HA11.out 3 rfl
        have hA4 := cellOfHeap HA11.out 4 rfl
        have hA5 := cellOfHeap HA11.out 5 rfl
        have hF0 := cellOfHeap HG11.out 0 rfl
        have hF1 := cellOfHeap HG11.out 1 rfl
        refine bodyPost_ret (v := readV (zeroI, 0, se, (a : Int) + sa)) (by simp [results, Try.results52, go_sem, readV, icells, zeroI, hA0, hA1, hA2, hA3, hA4, hA5, hF0, hF1]) rfl ⟨by rw [HE.out], ?_⟩
        exact HFRw.out.trans HFr11.out (fun k hk e => by omega)

end Go.Proofs.Ytojgikaoiegmpaa

/- Code: Read, from a place within the bytes. -/
namespace Go.Proofs.Ytojgikaoiegmpaa
open Go.RowKit Go.IntWalk Go.Lib
set_option linter.unusedSimpArgs false
set_option linter.unusedVariables false
set_option maxRecDepth 100000

set_option maxRecDepth 100000 in
set_option maxHeartbeats 2000000 in
theorem read_in2 (ao : Option Addr) (cap : Nat) (bs : List UInt8) (a : Nat) (w : World) (h : BsAt w ao bs) (hcap0 : ao = none → cap = 0) (hcl : bs.length ≤ cap) (hb : bs.length ≤ 140737488355328) (hale : a ≤ bs.length) (hca : ¬ cap = a) (hq : (bs.length : Int) ≤ (a : Int) + 67) :
    Calls Try.prog 52 #[.slice ao bs.length cap, .int .i64 (a : Int)] w fun e w' => e = .returned (readV (readR bs a)) ∧ Fr (fun _ => False) w w' := by
  have hd1 : decide ((a : Int) < 0) = false := decide_eq_false (by omega)
  have hd2 : decide ((bs.length : Int) < (a : Int)) = false := decide_eq_false (by omega)
  have HOP := hideIt (open_mid ao cap bs a (bs.length - a) w ((w.alloc (.cells (icells zeroI) 40)).alloc (.cells #[.int .i64 0, .int .i64 0] 28)) h hcap0 hcl hale (((Fr.refl _ w).alloc _).alloc _) hca (by omega))
  have hq2 : ¬ ((a : Int) + 67 < (bs.length : Int)) := by omega
  have hcs : (win bs a).length ≤ 67 := by rw [win_len]; omega
  generalize hcsE : win bs a = cs at *
  have HCS := hideIt hcsE
  clear hcsE
  obtain ⟨m, hm0⟩ : ∃ m : Nat, (rInt cs 1 15 (0, 0, 0)).1 = m := ⟨_, (Int.toNat_of_nonneg (rInt_rng cs 1 15 (0, 0, 0) (by decide)).1).symm⟩
  have hm : m ≤ 15 := by have := (rInt_rng cs 1 15 (0, 0, 0) (by decide)).2; omega
  have HFB1 := hideIt (rInt_fb (bs := cs) (lo := 1) (hi := 15) (s := (0, 0, 0)) ⟨Nat.zero_le _, Int.le_refl _, by show (0 : Int) ≤ cs.length; omega⟩)
  have HRI := hideIt (fun p t ao cap w h hb => by have := rint_any p t ao cap cs (0, 0, 0) 1 15 w h hb; rw [hm0] at this; exact this)
  have HRD := hideIt (show rdI cs = tks cs (ltrs m) (⟨m, 0, 0, 0, 0, ⟨#[]⟩⟩, (rInt cs 1 15 (0, 0, 0)).2) by unfold rdI; rw [hm0, Int.toNat_natCast])
  generalize (rInt cs 1 15 (0, 0, 0)).2 = s1 at *
  clear hm0
  have HK := hideIt kinds_any
  have hidx := idx_run m hm
  go_enter Try.func52, Try.ntmps52
  go_wp2_with fail
  refine Calls.mono HOP.out ?_
  rintro e w1 ⟨p, t, ao1, cap1, rfl, hR, hF1, hp, ht, hn⟩
  simp at hp ht hn
  clear HOP
  have HR := hideIt hR
  have HF1 := hideIt hF1
  have HN := hideIt hn
  have hs1 : w.heap.size + 2 ≤ w1.heap.size := by have := hF1.size; simp at this; omega
  have hpl : p < w1.heap.size := hR.lt
  have htl : t < w1.heap.size := hR.tp.lt
  have HSL := hideIt (fun k (hk : wset t ao1 k) => hR.setlt hk)
  clear hR hF1 hn
  go_wp2_with fail
  refine Calls.mono (HRI.out p t ao1 cap1 w1 ⟨HR.out, Nat.zero_le _⟩ (by omega)) ?_
  rintro e w2 ⟨rfl, hR2, hF2⟩
  have HR2 := hideIt hR2
  have HF2 := hideIt (HF1.out.mono (S' := fun k => w.heap.size + 2 ≤ k) (fun _ e => e.elim) |>.trans hF2 (fun k _ e => by omega))
  have hs2 : w1.heap.size ≤ w2.heap.size := hF2.size
  clear hR2 hF2 HRI HR HF1
  go_wp2_with fail
  have HI1 := hideIt (fun w' (hF : Fr (fun _ => False) (w2.alloc (.cells (icells ⟨m, 0, 0, 0, 0, ⟨#[]⟩⟩) 40)) w') => show InsAt w' w2.heap.size ⟨m, 0, 0, 0, 0, ⟨#[]⟩⟩ from (hF.block w2.heap.size (by simp) (fun e => e)).trans (heap_new rfl))
  refine wp_region_held_drew (S := fun w0 => w0.cell? ⟨w2.heap.size, 0, none⟩ = some (.int .i64 (m : Int))) (by kernel_rfl) ?_ (fun hHeld => ?_)
  · exact (HI1.out _ (Fr.refl _ _).drew).c0
  refine wpAnyH_take (i := 1) (v := ?v1) rfl (by kernel_rfl) (by kernel_rfl) (by kernel_rfl) (fun _ _ _ h => h) (Or.inl ⟨by rfl, ?hy1⟩) (by assumption) ?rest1
  case hy1 => intro w hSw; (try dsimp only at hSw); go_simp; (try with_reducible rfl)
  try simp only [Act.put, List.setIfInBounds_toArray, List.set_cons_zero, List.set_cons_succ]
  refine wpAnyH_take (i := 2) (v := ?v2) rfl (by kernel_rfl) (by kernel_rfl) (by kernel_rfl) (fun _ _ _ h => h) (Or.inl ⟨by rfl, ?hy2⟩) (by assumption) ?rest2
  case hy2 => intro w hSw; (try dsimp only at hSw); go_simp; (try with_reducible rfl)
  try simp only [Act.put, List.setIfInBounds_toArray, List.set_cons_zero, List.set_cons_succ]
  refine wpAnyH_ready (rs := [0]) (by kernel_rfl) (by simp) ?_
  refine AllReadyH.cons rfl (fun K hK => ?_) AllReadyH.nil
  go_simp
  refine Calls.mono (HK.out _) ?_
  rintro e w4 ⟨rfl, hF⟩
  have HF := hideIt hF
  clear hF
  refine hK.out _ _ ?_ (fun hHeld => ?_)
  · exact (HI1.out _ ((Fr.refl _ _).drew.trans HF.out (fun _ _ e => e))).c0
  clear hK K
  try simp only [Act.put, List.setIfInBounds_toArray, List.set_cons_zero, List.set_cons_succ]
  refine wpAnyH_take (i := 3) (v := ?v3) rfl (by kernel_rfl) (by kernel_rfl) (by kernel_rfl) (fun _ _ _ h => h) (Or.inl ⟨by rfl, ?hy3⟩) (by assumption) ?rest3
  case hy3 => intro w hSw; (try dsimp only at hSw); go_simp; first | done | exact hidx w | (with_reducible rfl) | rfl
  try simp only [Act.put, List.setIfInBounds_toArray, List.set_cons_zero, List.set_cons_succ]
  refine wpAnyH_ready (rs := [4]) (by kernel_rfl) (by simp) ?_
  refine AllReadyH.cons rfl (fun K hK => ?_) AllReadyH.nil
  go_simp
  refine hK.out _ _ ?_ (fun hHeld => ?_)
  · exact (HI1.out _ (((Fr.refl _ _).drew.trans HF.out (fun _ _ e => e)).alloc _)).c0
  clear hK K
  try simp only [Act.put, List.setIfInBounds_toArray, List.set_cons_zero, List.set_cons_succ]
  refine wpAnyH_done (by kernel_rfl) ?_ _
  skip
  go_wp2_with fail
  have hs4 : w2.heap.size < w4.heap.size := by have := HF.out.size; simp at this; omega
  have HFC := hideIt (((Fr.refl (fun _ => False) (w2.alloc (.cells (icells ⟨m, 0, 0, 0, 0, ⟨#[]⟩⟩) 40))).drew.trans HF.out (fun _ _ e => e)).alloc (.stringIter (kindT m) 0))
  have HIW := hideIt (HI1.out _ HFC.out)
  have HRW := hideIt ((HR2.out.fr0 ((Fr.refl _ _).alloc _)).fr0 HFC.out)
  have HFW := hideIt ((HF2.out.alloc _).trans HFC.out (fun _ _ e => e.elim))
  clear HI1 HK hidx HF hHeld HR2 HF2 HFC
  go_loopw [10] (fun _ wr => ∃ (pos : Nat) (i : Ins) (s : Nat × Int × Int), Hid (wr.heap[w4.heap.size]? = some (.stringIter (kindT m) pos)) ∧ Hid (InsAt wr w2.heap.size i) ∧ Hid (ROk wr p t ao1 cap1 cs s) ∧ Hid (Fr (fun k => w.heap.size + 2 ≤ k) ((w.alloc (.cells (icells zeroI) 40)).alloc (.cells #[.int .i64 0, .int .i64 0] 28)) wr) ∧ Hid (FB cs s ∧ rdI cs = tks cs ((ltrs m).drop pos) (i, s))) (fun _ wr => (kindT m).size - wr.iterPos w4.heap.size)
  case atStart => exact ⟨0, ⟨m, 0, 0, 0, 0, ⟨#[]⟩⟩, s1, hideIt (heap_new rfl), HIW, HRW, HFW, hideIt ⟨HFB1.out, HRD.out⟩⟩
  case round =>
    obtain ⟨pos, i, s, HIT, HJ, HRO, HFR, HP⟩ := hrel
    have hne : w2.heap.size ≠ w4.heap.size := by omega
    by_cases hp4 : pos < (kindT m).size
    · obtain ⟨hl, hd0, _⟩ := ltrs_at m pos hm hp4
      have HD := hideIt hd0
      have hnx := fun ty => run_next_ascii_at (P := Try.prog) wr w4.heap.size (kindT m) pos ty HIT.out hp4 (by have := hl; omega)
      clear hd0
      generalize ((kindT m)[pos]'hp4).toNat = l at *
      have HFI := hideIt ((Fr.refl (fun k => k = w4.heap.size) wr).iterAt (k := w4.heap.size) (fun _ => rfl) (kindT m) (pos + 1))
      have HJ1 := hideIt (HJ.out.fr HFI.out hne)
      have HR1 := hideIt (show ROk _ p t ao1 cap1 cs s from ⟨HRO.out.1.fr HFI.out (by omega) (fun k hk e => by have := HSL.out k hk; omega), HRO.out.2⟩)
      have HIT1 := hideIt (iterAt_heap wr w4.heap.size (kindT m) pos (pos + 1) HIT.out)
      have HFR1 := hideIt (HFR.out.trans HFI.out (fun i hi e => by omega))
      have hpos0 := hideIt (iterPos_of HIT.out)
      generalize wr.iterAt w4.heap.size (kindT m) (pos + 1) = W1 at *
      go_wp2_with fail
      refine Calls.mono (find_w w2.heap.size l hl _) ?_
      rintro e w5 ⟨rfl, hF5⟩
      have HJ5 := hideIt (HJ1.out.fr hF5 (fun e => e))
      have HR5 := hideIt (HR1.out.fr0 hF5)
      have HIT5 := hideIt ((hF5.block w4.heap.size (Array.getElem?_eq_some_iff.1 HIT1.out).1 (fun e => e)).trans HIT1.out)
      have HFR5 := hideIt (HFR1.out.trans hF5 (fun _ _ e => e.elim))
      clear hF5
      go_wp2_with fail
      refine Calls.mono (take_w w2.heap.size l hl p t i ao1 cap1 cs s w5 HJ5.out HR5.out (by omega) (fun e => by have := HSL.out _ e; omega) (by omega)) ?_
      rintro e w6 ⟨rfl, hI6, hR6, hF6⟩
      have HI6 := hideIt hI6
      have HR6 := hideIt hR6
      have HF6 := hideIt hF6
      clear hI6 hR6 hF6
      have hk5 : w4.heap.size < w5.heap.size := (Array.getElem?_eq_some_iff.1 HIT5.out).1
      have HIT6 := hideIt ((HF6.out.block w4.heap.size hk5 (by omega)).trans HIT5.out)
      go_wp2_with fail
      go_roundw
      case measure =>
        rw [iterPos_of HIT6.out, hpos0.out]
        omega
      case rel =>
        exact ⟨pos + 1, (tk cs l i s).1, (tk cs l i s).2, HIT6, HI6, HR6, hideIt (HFR5.out.trans HF6.out (fun k hk e => by omega)), hideIt ⟨tk_fb HP.out.1, by rw [HP.out.2, HD.out]; rfl⟩⟩
    · have hnx := fun ty => run_next_end_at (P := Try.prog) wr w4.heap.size (kindT m) pos ty HIT.out hp4
      have HX := hideIt (show rdI cs = (i, s) by rw [HP.out.2, ltrs_end m pos hp4]; rfl)
      have HFBs := hideIt HP.out.1
      clear HP HRD HFB1
      have hA := (HFR.out.block w.heap.size (by simp; omega) (by omega)).trans (heap_old (heap_new rfl))
      have hF := (HFR.out.block (w.heap.size + 1) (by simp) (by omega)).trans (heap_new (by simp))
      obtain ⟨sp, se, sa⟩ := s
      have hsp : (sp : Int) ≤ 67 := by have := HFBs.out.1; dsimp only at this; omega
      have hsa : 0 ≤ sa ∧ sa ≤ 67 := by have := HFBs.out.2; dsimp only at this; omega
      obtain ⟨hsa0, hsa1⟩ := hsa
      go_wp2_with fail
      refine Calls.mono (rfault_any p t ao1 cap1 cs (sp, se, sa) wr HRO.out) ?_
      rintro e w7 ⟨rfl, hF7⟩
      have hs7 : wr.heap.size ≤ w7.heap.size := hF7.size
      have HF8 := hideIt (hF7.alloc (.cells #[.int .i64 se, .int .i64 sa] 28))
      have HJ8 := hideIt (HJ.out.fr HF8.out (fun e => e))
      have HR8 := hideIt (HRO.out.fr0 HF8.out)
      have HG8 := hideIt (show (w7.alloc (.cells #[.int .i64 se, .int .i64 sa] 28)).drew.cell? ⟨w7.heap.size, 0, none⟩ = some (.int .i64 se) ∧ (w7.alloc (.cells #[.int .i64 se, .int .i64 sa] 28)).drew.cell? ⟨w7.heap.size, 1, none⟩ = some (.int .i64 sa) from ⟨cellOfHeap (heap_new rfl) 0 rfl, cellOfHeap (heap_new rfl) 1 rfl⟩)
      have hA8 := (HF8.out.block w.heap.size (by have := (Array.getElem?_eq_some_iff.1 hA).1; omega) (fun e => e)).trans hA
      have hF8 := (HF8.out.block (w.heap.size + 1) (by have := (Array.getElem?_eq_some_iff.1 hF).1; omega) (fun e => e)).trans hF
      have hQ8 := HJ8.out.lt
      have HA8h := hideIt (show (w7.alloc (.cells #[.int .i64 se, .int .i64 sa] 28)).drew.heap[w.heap.size]? = _ from hA8)
      have HF8h := hideIt (show (w7.alloc (.cells #[.int .i64 se, .int .i64 sa] 28)).drew.heap[w.heap.size + 1]? = _ from hF8)
      have hFlt : w.heap.size + 1 < (w7.alloc (.cells #[.int .i64 se, .int .i64 sa] 28)).drew.heap.size := (Array.getElem?_eq_some_iff.1 hF8).1
      have HG9 := hideIt (fun (w' : World) (h : w'.heap[w7.heap.size]? = some (.cells #[.int .i64 se, .int .i64 sa] 28)) => And.intro (cellOfHeap h 0 rfl) (cellOfHeap h 1 rfl))
      have HFRw := hideIt ((((Fr.refl (fun _ => False) w).alloc (.cells (icells zeroI) 40)).alloc (.cells #[.int .i64 0, .int .i64 0] 28)).trans (HFR.out.trans HF8.out (fun _ _ e => e.elim)) (fun k hk e => by omega) |>.drew)
      have hsz : w.heap.size + 2 ≤ wr.heap.size := by have := HFR.out.size; simp at this; omega
      have hwr1 : IntKind.i64.wrap ((a : Int) + sa) = (a : Int) + sa := i64_in _ (by omega)
      have hwr2 : IntKind.i64.wrap ((a : Int) + (sp : Int)) = (a : Int) + (sp : Int) := i64_in _ (by omega)
      have hGA : w7.heap.size ≠ w.heap.size := by omega
      have hGF : w7.heap.size ≠ w.heap.size + 1 := by omega
      have hQA : w2.heap.size ≠ w.heap.size := by omega
      have hQF : w2.heap.size ≠ w.heap.size + 1 := by omega
      clear hF7 hA hF hA8 hF8
      by_cases hz : se = 0
      · subst hz
        have HE := hideIt (show readR bs a = (i, (a : Int) + sp, 0, 0) by unfold readR; rw [if_neg (by omega), Int.toNat_natCast, HCS.out, HX.out]; exact if_pos rfl)
        go_wp2_with fail
        refine wp_region_held_drew (S := fun w0 => InsAt w0 w2.heap.size i) (by kernel_rfl) ?_ (fun hHeld => ?_)
        · exact HJ8.out.keep rfl
        refine wpAnyH_take (i := 0) (v := ?v201) rfl (by kernel_rfl) (by kernel_rfl) (by kernel_rfl) (fun _ _ _ h => h) (Or.inl ⟨by rfl, ?hy201⟩) (by assumption) ?rest201
        case hy201 => intro w hSw; (try dsimp only at hSw); have c0 := hSw.c0; have c1 := hSw.c1; have c2 := hSw.c2; have c3 := hSw.c3; have c4 := hSw.c4; have c5 := hSw.c5; go_simp; (try with_reducible rfl)
        try simp only [Act.put, List.getElem_toArray, List.getElem_cons_zero, List.getElem_cons_succ, List.setIfInBounds_toArray, List.set_cons_zero, List.set_cons_succ]
        refine wpAnyH_take (i := 1) (v := ?v202) rfl (by kernel_rfl) (by kernel_rfl) (by kernel_rfl) (fun _ _ _ h => h) (Or.inl ⟨by rfl, ?hy202⟩) (by assumption) ?rest202
        case hy202 => intro w hSw; (try dsimp only at hSw); go_simp; (try with_reducible rfl)
        try simp only [Act.put, List.getElem_toArray, List.getElem_cons_zero, List.getElem_cons_succ, List.setIfInBounds_toArray, List.set_cons_zero, List.set_cons_succ]
        refine wpAnyH_take (i := 2) (v := ?v203) rfl (by kernel_rfl) (by kernel_rfl) (by kernel_rfl) (fun _ _ _ h => h) (Or.inl ⟨by rfl, ?hy203⟩) (by assumption) ?rest203
        case hy203 => intro w hSw; (try dsimp only at hSw); go_simp; (try with_reducible rfl)
        try simp only [Act.put, List.getElem_toArray, List.getElem_cons_zero, List.getElem_cons_succ, List.setIfInBounds_toArray, List.set_cons_zero, List.set_cons_succ]
        refine wpAnyH_take (i := 5) (v := ?v204) rfl (by kernel_rfl) (by kernel_rfl) (by kernel_rfl) (fun _ _ _ h => h) (Or.inl ⟨by rfl, ?hy204⟩) (by assumption) ?rest204
        case hy204 => intro w hSw; (try dsimp only at hSw); go_simp; (try with_reducible rfl)
        try simp only [Act.put, List.getElem_toArray, List.getElem_cons_zero, List.getElem_cons_succ, List.setIfInBounds_toArray, List.set_cons_zero, List.set_cons_succ]
        refine wpAnyH_ready (rs := [3]) (by kernel_rfl) (by simp) ?_
        refine AllReadyH.cons rfl (fun K hK => ?_) AllReadyH.nil
        go_simp
        refine Calls.mono (rat_any p t ao1 cap1 cs (sp, 0, sa) _ (HR8.out.fr0 (Fr.refl _ _).drew)) ?_
        rintro e w9 ⟨rfl, rfl⟩
        refine hK.out _ _ ?_ (fun hHeld => ?_)
        · exact HJ8.out.keep rfl
        clear hK K
        try simp only [Act.put, List.getElem_toArray, List.getElem_cons_zero, List.getElem_cons_succ, List.setIfInBounds_toArray, List.set_cons_zero, List.set_cons_succ]
        refine wpAnyH_take (i := 4) (v := ?v205) rfl (by kernel_rfl) (by kernel_rfl) (by kernel_rfl) (fun _ _ _ h => h) (Or.inl ⟨by rfl, ?hy205⟩) (by assumption) ?rest205
        case hy205 => intro w hSw; (try dsimp only at hSw); go_simp; (try with_reducible rfl)
        try simp only [Act.put, List.getElem_toArray, List.getElem_cons_zero, List.getElem_cons_succ, List.setIfInBounds_toArray, List.set_cons_zero, List.set_cons_succ]
        refine wpAnyH_ready (rs := [6]) (by kernel_rfl) (by simp) ?_
        refine AllReadyH.cons rfl (fun K hK => ?_) AllReadyH.nil
        rw [if_pos (by rfl)]
        refine wp_store_mid 40 _ _ rfl w.heap.size 0 (icells i) rfl rfl (there_row HA8h.out _ (Nat.le_refl _)) (by kernel_rfl) (icells_one _) ?_
        obtain ⟨hst, hfr⟩ := store_over (V := (icells i)) HA8h.out (by rfl)
        have HA10 := hideIt hst
        have HFr10 := hideIt hfr
        have HG10 := hideIt ((hfr.block (w.heap.size + 1) hFlt (by omega)).trans HF8h.out)
        clear hst hfr
        generalize hW10 : World.setCells _ w.heap.size 0 _ = W10 at *
        clear hW10
        refine hK.out _ _ ?_ (fun hHeld => ?_)
        · exact HJ8.out.keep (HFr10.out.block w2.heap.size HJ8.out.lt hQA)
        clear hK K
        try simp only [Act.put, List.getElem_toArray, List.getElem_cons_zero, List.getElem_cons_succ, List.setIfInBounds_toArray, List.set_cons_zero, List.set_cons_succ]
        refine wpAnyH_take (i := 7) (v := ?v206) rfl (by kernel_rfl) (by kernel_rfl) (by kernel_rfl) (fun _ _ _ h => h) (Or.inl ⟨by rfl, ?hy206⟩) (by assumption) ?rest206
        case hy206 => intro w hSw; (try dsimp only at hSw); go_simp; (try with_reducible rfl)
        try simp only [Act.put, List.getElem_toArray, List.getElem_cons_zero, List.getElem_cons_succ, List.setIfInBounds_toArray, List.set_cons_zero, List.set_cons_succ]
        refine wpAnyH_ready (rs := [8]) (by kernel_rfl) (by simp) ?_
        refine AllReadyH.cons rfl (fun K hK => ?_) AllReadyH.nil
        rw [if_pos (by rfl)]
        refine wp_store_mid 28 _ _ rfl (w.heap.size + 1) 0 #[.int .i64 0, .int .i64 0] rfl rfl (there_row HG10.out _ (Nat.le_refl _)) (by kernel_rfl) (fault_one _ _) ?_
        obtain ⟨hst, hfr⟩ := store_over (V := #[.int .i64 0, .int .i64 0]) HG10.out (by rfl)
        have HG11 := hideIt hst
        have HFr11 := hideIt ((HFr10.out.mono (S' := fun k => k = w.heap.size ∨ k = w.heap.size + 1) (fun _ e => Or.inl e)).trans hfr (fun _ _ e => Or.inr e))
        have HA11 := hideIt ((hfr.block w.heap.size (Array.getElem?_eq_some_iff.1 HA10.out).1 (by omega)).trans HA10.out)
        clear hst hfr
        generalize hW11 : World.setCells _ (w.heap.size + 1) 0 _ = W11 at *
        clear hW11
        refine hK.out _ _ ?_ (fun hHeld => ?_)
        · exact HJ8.out.keep (HFr11.out.block w2.heap.size HJ8.out.lt (by omega))
        clear hK K
        try simp only [Act.put, List.getElem_toArray, List.getElem_cons_zero, List.getElem_cons_succ, List.setIfInBounds_toArray, List.set_cons_zero, List.set_cons_succ]
        refine wpAnyH_done (by kernel_rfl) ?_ _
        go_wp2_with fail
        have hA0 := cellOfHeap HA11.out 0 rfl
        have hA1 := cellOfHeap HA11.out 1 rfl
        have hA2 := cellOfHeap HA11.out 2 rfl
        have hA3 := cellOfHeap HA11.out 3 rfl
        have hA4 := cellOfHeap HA11.out 4 rfl
        have hA5 := cellOfHeap HA11.out 5 rfl
        have hF0 := cellOfHeap HG11.out 0 rfl
        have hF1 := cellOfHeap HG11.out 1 rfl
        refine bodyPost_ret (v := readV (i, (a : Int) + sp, 0, 0)) (by simp [results, Try.results52, go_sem, readV, icells, zeroI, hA0, hA1, hA2, hA3, hA4, hA5, hF0, hF1]) rfl ⟨by rw [HE.out], ?_⟩
        exact HFRw.out.trans HFr11.out (fun k hk e => by omega)
      · have HE := hideIt (show readR bs a = (zeroI, 0, se, (a : Int) + sa) by unfold readR; rw [if_neg (by omega), Int.toNat_natCast, HCS.out, HX.out]; exact if_neg hz)
        go_wp2_with fail
        refine wp_region_held_drew (S := fun w0 => w0.cell? ⟨w7.heap.size, 0, none⟩ = some (.int .i64 se) ∧ w0.cell? ⟨w7.heap.size, 1, none⟩ = some (.int .i64 sa)) (by kernel_rfl) ?_ (fun hHeld => ?_)
        · exact HG8.out
        refine wpAnyH_take (i := 0) (v := ?v207) rfl (by kernel_rfl) (by kernel_rfl) (by kernel_rfl) (fun _ _ _ h => h) (Or.inl ⟨by rfl, ?hy207⟩) (by assumption) ?rest207
        case hy207 => intro w hSw; (try dsimp only at hSw); go_simp; (try with_reducible rfl)
        try simp only [Act.put, List.getElem_toArray, List.getElem_cons_zero, List.getElem_cons_succ, List.setIfInBounds_toArray, List.set_cons_zero, List.set_cons_succ]
        refine wpAnyH_take (i := 1) (v := ?v208) rfl (by kernel_rfl) (by kernel_rfl) (by kernel_rfl) (fun _ _ _ h => h) (Or.inl ⟨by rfl, ?hy208⟩) (by assumption) ?rest208
        case hy208 => intro w hSw; (try dsimp only at hSw); go_simp; (try with_reducible rfl)
        try simp only [Act.put, List.getElem_toArray, List.getElem_cons_zero, List.getElem_cons_succ, List.setIfInBounds_toArray, List.set_cons_zero, List.set_cons_succ]
        refine wpAnyH_take (i := 2) (v := ?v209) rfl (by kernel_rfl) (by kernel_rfl) (by kernel_rfl) (fun _ _ _ h => h) (Or.inl ⟨by rfl, ?hy209⟩) (by assumption) ?rest209
        case hy209 => intro w hSw; (try dsimp only at hSw); go_simp; (try with_reducible rfl)
        try simp only [Act.put, List.getElem_toArray, List.getElem_cons_zero, List.getElem_cons_succ, List.setIfInBounds_toArray, List.set_cons_zero, List.set_cons_succ]
        refine wpAnyH_take (i := 3) (v := ?v210) rfl (by kernel_rfl) (by kernel_rfl) (by kernel_rfl) (fun _ _ _ h => h) (Or.inl ⟨by rfl, ?hy210⟩) (by assumption) ?rest210
        case hy210 => intro w hSw; (try dsimp only at hSw); go_simp; (try with_reducible rfl)
        try simp only [Act.put, List.getElem_toArray, List.getElem_cons_zero, List.getElem_cons_succ, List.setIfInBounds_toArray, List.set_cons_zero, List.set_cons_succ]
        refine wpAnyH_take (i := 4) (v := ?v211) rfl (by kernel_rfl) (by kernel_rfl) (by kernel_rfl) (fun _ _ _ h => h) (Or.inl ⟨by rfl, ?hy211⟩) (by assumption) ?rest211
        case hy211 => intro w hSw; (try dsimp only at hSw); go_simp; (try with_reducible rfl)
        try simp only [Act.put, List.getElem_toArray, List.getElem_cons_zero, List.getElem_cons_succ, List.setIfInBounds_toArray, List.set_cons_zero, List.set_cons_succ]
        refine wpAnyH_take (i := 5) (v := ?v212) rfl (by kernel_rfl) (by kernel_rfl) (by kernel_rfl) (fun _ _ _ h => h) (Or.inl ⟨by rfl, ?hy212⟩) (by assumption) ?rest212
        case hy212 => intro w hSw; (try dsimp only at hSw); go_simp; (try with_reducible rfl)
        try simp only [Act.put, List.getElem_toArray, List.getElem_cons_zero, List.getElem_cons_succ, List.setIfInBounds_toArray, List.set_cons_zero, List.set_cons_succ]
        refine wpAnyH_take (i := 6) (v := ?v213) rfl (by kernel_rfl) (by kernel_rfl) (by kernel_rfl) (fun _ _ _ h => h) (Or.inl ⟨by rfl, ?hy213⟩) (by assumption) ?rest213
        case hy213 => intro w hSw; (try dsimp only at hSw); go_simp; (try with_reducible rfl)
        try simp only [Act.put, List.getElem_toArray, List.getElem_cons_zero, List.getElem_cons_succ, List.setIfInBounds_toArray, List.set_cons_zero, List.set_cons_succ]
        refine wpAnyH_take (i := 7) (v := ?v214) rfl (by kernel_rfl) (by kernel_rfl) (by kernel_rfl) (fun _ _ _ h => h) (Or.inl ⟨by rfl, ?hy214⟩) (by assumption) ?rest214
        case hy214 => intro w hSw; (try dsimp only at hSw); go_simp; (try with_reducible rfl)
        try simp only [Act.put, List.getElem_toArray, List.getElem_cons_zero, List.getElem_cons_succ, List.setIfInBounds_toArray, List.set_cons_zero, List.set_cons_succ]
        refine wpAnyH_ready (rs := [8]) (by kernel_rfl) (by simp) ?_
        refine AllReadyH.cons rfl (fun K hK => ?_) AllReadyH.nil
        rw [if_pos (by rfl)]
        refine wp_store_mid 40 _ _ rfl w.heap.size 0 (icells zeroI) rfl rfl (there_row HA8h.out _ (Nat.le_refl _)) (by kernel_rfl) (icells_one _) ?_
        obtain ⟨hst, hfr⟩ := store_over (V := (icells zeroI)) HA8h.out (by rfl)
        have HA10 := hideIt hst
        have HFr10 := hideIt hfr
        have HG10 := hideIt ((hfr.block (w.heap.size + 1) hFlt (by omega)).trans HF8h.out)
        clear hst hfr
        generalize hW10 : World.setCells _ w.heap.size 0 _ = W10 at *
        clear hW10
        refine hK.out _ _ ?_ (fun hHeld => ?_)
        · exact HG9.out _ ((HFr10.out.block w7.heap.size (by simp) hGA).trans (heap_new rfl))
        clear hK K
        try simp only [Act.put, List.getElem_toArray, List.getElem_cons_zero, List.getElem_cons_succ, List.setIfInBounds_toArray, List.set_cons_zero, List.set_cons_succ]
        refine wpAnyH_take (i := 9) (v := ?v215) rfl (by kernel_rfl) (by kernel_rfl) (by kernel_rfl) (fun _ _ _ h => h) (Or.inl ⟨by rfl, ?hy215⟩) (by assumption) ?rest215
        case hy215 => intro w hSw; (try dsimp only at hSw); go_simp; (try with_reducible rfl)
        try simp only [Act.put, List.getElem_toArray, List.getElem_cons_zero, List.getElem_cons_succ, List.setIfInBounds_toArray, List.set_cons_zero, List.set_cons_succ]
        refine wpAnyH_ready (rs := [10]) (by kernel_rfl) (by simp) ?_
        refine AllReadyH.cons rfl (fun K hK => ?_) AllReadyH.nil
        rw [if_pos (by rfl)]
        refine wp_store_mid 28 _ _ rfl (w.heap.size + 1) 0 #[.int .i64 se, .int .i64 ((a : Int) + sa)] rfl rfl (there_row HG10.out _ (Nat.le_refl _)) (by kernel_rfl) (fault_one _ _) ?_
        obtain ⟨hst, hfr⟩ := store_over (V := #[.int .i64 se, .int .i64 ((a : Int) + sa)]) HG10.out (by rfl)
        have HG11 := hideIt hst
        have HFr11 := hideIt ((HFr10.out.mono (S' := fun k => k = w.heap.size ∨ k = w.heap.size + 1) (fun _ e => Or.inl e)).trans hfr (fun _ _ e => Or.inr e))
        have HA11 := hideIt ((hfr.block w.heap.size (Array.getElem?_eq_some_iff.1 HA10.out).1 (by omega)).trans HA10.out)
        clear hst hfr
        generalize hW11 : World.setCells _ (w.heap.size + 1) 0 _ = W11 at *
        clear hW11
        refine hK.out _ _ ?_ (fun hHeld => ?_)
        · exact HG9.out _ ((HFr11.out.block w7.heap.size (by simp) (by omega)).trans (heap_new rfl))
        clear hK K
        try simp only [Act.put, List.getElem_toArray, List.getElem_cons_zero, List.getElem_cons_succ, List.setIfInBounds_toArray, List.set_cons_zero, List.set_cons_succ]
        refine wpAnyH_done (by kernel_rfl) ?_ _
        go_wp2_with fail
        have hA0 := cellOfHeap HA11.out 0 rfl
        have hA1 := cellOfHeap HA11.out 1 rfl
        have hA2 := cellOfHeap HA11.out 2 rfl
        have hA3 := cellOfHeap HA11.out 3 rfl
        have hA4 := cellOfHeap HA11.out 4 rfl
        have hA5 := cellOfHeap HA11.out 5 rfl
        have hF0 := cellOfHeap HG11.out 0 rfl
        have hF1 := cellOfHeap HG11.out 1 rfl
        refine bodyPost_ret (v := readV (zeroI, 0, se, (a : Int) + sa)) (by simp [results, Try.results52, go_sem, readV, icells, zeroI, hA0, hA1, hA2, hA3, hA4, hA5, hF0, hF1]) rfl ⟨by rw [HE.out], ?_⟩
        exact HFRw.out.trans HFr11.out (fun k hk e => by omega)

end Go.Proofs.Ytojgikaoiegmpaa
