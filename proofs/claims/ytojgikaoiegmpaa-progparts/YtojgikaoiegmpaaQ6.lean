/- ProgParts, part 6 of the road: what the program's functions do, each by its own walk. -/
import Derived.Test.YtojgikaoiegmpaaQ5
import Derived.Stop.BytesEq
import Derived.Deep.RegionHeld2
import Derived.Deep.RegionHeld3
import Derived.Deep.MidRow

/- The document's own writer (retconref01.Writer). -/
namespace Go.Proofs.Ytojgikaoiegmpaa
open Go.RowKit Go.IntWalk
set_option linter.unusedSimpArgs false
set_option linter.unusedVariables false
set_option maxRecDepth 100000

section
variable {w w' : World} {p : Nat} {ao : Option Addr} {cap : Nat} {bs : List UInt8} {bad : Bool}
end
end Go.Proofs.Ytojgikaoiegmpaa

/- The document's own writer: texts, IDs, what it tells. -/
namespace Go.Proofs.Ytojgikaoiegmpaa
open Go.RowKit Go.IntWalk
set_option linter.unusedSimpArgs false
set_option linter.unusedVariables false
set_option maxRecDepth 100000

theorem str_src (w : World) (x : ByteArray) : Src Try.prog 1 9 (.string x) x.data.toList.length (bv x.data.toList) w := by
  have := Src.ofString (P := Try.prog) w Try.underlying9 x
  simpa [byteCells, bv] using this

/-- A new row is new, behind whatever was made ahead of it. -/
theorem new_or {w w2 : World} {ao ao3 : Option Addr} (hs : w.heap.size ≤ w2.heap.size) (h : ao3 = ao ∨ ao3 = some ⟨w2.heap.size, 0, none⟩) : ao3 = ao ∨ ∀ k, blk ao3 k → w.heap.size ≤ k :=
  h.imp id fun e k hk => by
    subst e
    obtain ⟨_, e1, rfl⟩ := hk
    obtain rfl := Option.some.inj e1
    exact hs

end Go.Proofs.Ytojgikaoiegmpaa

/- Bytes that are told are new memory, all of it bytes; and they are written over. -/
namespace Go.Proofs.Ytojgikaoiegmpaa
open Go.RowKit Go.IntWalk
set_option linter.unusedSimpArgs false
set_option linter.unusedVariables false
set_option maxRecDepth 100000

/-- A slice whose whole room is bytes, of memory of its own. -/
def Full (w : World) (ao : Option Addr) (cap : Nat) (bs : List UInt8) : Prop :=
  (ao = none ∧ bs = [] ∧ cap = 0) ∨ ∃ g zs, ao = some ⟨g, 0, none⟩ ∧ w.heap[g]? = some (.cells (bv (bs ++ zs)).toArray 5 (0, 0)) ∧ cap = (bs ++ zs).length ∧ cap ≤ maxLen

theorem Full.bs {w : World} {ao : Option Addr} {cap : Nat} {bs : List UInt8} (h : Full w ao cap bs) : BsAt w ao bs := by
  rcases h with ⟨rfl, rfl, _⟩ | ⟨g, zs, rfl, hh, _⟩
  · exact Or.inl ⟨rfl, rfl⟩
  · refine Or.inr ⟨g, 0, rfl, fun j hj => ?_⟩
    rw [Nat.zero_add]
    refine cellOfHeap hh j ?_
    simp only [List.getElem?_toArray]
    rw [bv_get _ _ (by simp; omega), List.getElem_append_left hj]
theorem Full.lt {w : World} {ao : Option Addr} {cap : Nat} {bs : List UInt8} (h : Full w ao cap bs) {k : Nat} (hk : blk ao k) : k < w.heap.size := by
  obtain ⟨a, rfl, rfl⟩ := hk
  rcases h with ⟨h0, _⟩ | ⟨g, zs, h0, hh, _⟩
  · cases h0
  · obtain rfl := Option.some.inj h0
    exact (Array.getElem?_eq_some_iff.1 hh).1
theorem Full.fr {S : Nat → Prop} {w w' : World} {ao : Option Addr} {cap : Nat} {bs : List UInt8} (h : Full w ao cap bs) (hF : Fr S w w') (hS : ∀ k, blk ao k → ¬ S k) : Full w' ao cap bs := by
  rcases h with h | ⟨g, zs, rfl, hh, r⟩
  · exact Or.inl h
  · exact Or.inr ⟨g, zs, rfl, (hF.block g (Array.getElem?_eq_some_iff.1 hh).1 (hS g ⟨_, rfl, rfl⟩)).trans hh, r⟩

theorem zero_bytes (k : Nat) : Builtin.zeroCells #[.int .u8 0] k = (bv (List.replicate k 0)).toArray := by
  apply Array.ext'
  simp [Builtin.zeroCells, bv]
  apply List.ext_getElem
  · simp
  · intro i h1 h2
    simp [Nat.mod_one]

theorem clone_full (ao : Option Addr) (cap : Nat) (bs : List UInt8) (w : World) (h : BsAt w ao bs) (hcap : ao = none → cap = 0) (hb : bs.length ≤ 140737488355328) :
    Calls Try.prog 47 #[.slice ao bs.length cap] w fun e w' => ∃ ao' cap', e = .returned (.slice ao' bs.length cap') ∧ Full w' ao' cap' bs ∧ Fr (fun _ => False) w w' ∧ ∀ k, blk ao' k → w.heap.size ≤ k := by
  cases ao with
  | none =>
    obtain rfl := hcap rfl
    rcases h with ⟨_, rfl⟩ | ⟨_, _, e, _⟩
    · refine (clone_nil w).mono ?_
      rintro e w' ⟨rfl, rfl⟩
      exact ⟨none, 0, rfl, Or.inl ⟨rfl, rfl, rfl⟩, Fr.refl _ _, fun k ⟨_, e, _⟩ => by cases e⟩
    · cases e
  | some a =>
    have hF0 : Fr (fun _ => False) w (w.alloc (.cells #[] 5)) := (Fr.refl _ _).alloc _
    have h1 : BsAt (w.alloc (.cells #[] 5)) (some a) bs := h.fr hF0 (fun _ _ _ e => e)
    have hs := h1.src cap
    obtain ⟨i0, hi, hz0, hz1, hz2⟩ := info_parts Try.infoU8
    have hnil : ∀ (a : Option Addr) (n c : Nat) (w : World), (binOp .eql 22 (.slice a n c) (.slice none 0 0)).run Try.prog w = .ok (.bool a.isNone) w := fun a n c w => Lib.run_eql_slice_nil (P := Try.prog) w 22 5 a n c 0 0 Try.underlying22
    have key : ∃ ao' cap' w', (Builtin.append_ #[22, 22] 22 #[.slice (some ⟨w.heap.size, 0, none⟩) 0 0, .slice (some a) bs.length cap]).run Try.prog (w.alloc (.cells #[] 5)) = .ok (.slice ao' bs.length cap') w' ∧ Full w' ao' cap' bs ∧ Fr (fun _ => False) w w' ∧ ∀ k, blk ao' k → w.heap.size ≤ k := by
      by_cases he : bs = []
      · subst he
        refine ⟨some ⟨w.heap.size, 0, none⟩, 0, _, run_append_nothing (P := Try.prog) _ 22 22 22 5 i0 Try.underlying22 hi _ 0 0 (Nat.le_refl _) _ (by rw [hz1]; exact hs), Or.inr ⟨w.heap.size, [], rfl, heap_new rfl, rfl, Nat.zero_le _⟩, hF0, ?_⟩
        rintro k ⟨x, e1, rfl⟩
        obtain rfl := Option.some.inj e1
        exact Nat.le_refl _
      · have hpos : 0 < bs.length := List.length_pos_iff.2 he
        have hr := run_append_grow_src (P := Try.prog) (w.alloc (.cells #[] 5)) 22 22 22 5 i0 (.int .u8 0) Try.underlying22 hi hz0 (some ⟨w.heap.size, 0, none⟩) 0 0 [] (run_firstCells_some _ _ 0 _ 0 0 [] (by simp) (fun j u hu => by cases hu)) _ bs.length (bv bs) (by rw [hz1]; exact hs) (by omega) (by omega) (growslice_fits (by omega) (by rw [hz2]; omega))
        have hge := grownCap_ge (w.alloc (.cells #[] 5)) (0 + bs.length) 0 5
        have hcm := grownCap_le_maxLen (w.alloc (.cells #[] 5)) (0 + bs.length) 0 5 (by unfold maxLen; omega)
        refine ⟨_, _, _, by simpa using hr, Or.inr ⟨(w.alloc (.cells #[] 5)).heap.size, List.replicate (grownCap (w.alloc (.cells #[] 5)) (0 + bs.length) 0 5 - (0 + bs.length)) 0, rfl, ?_, ?_, by simpa using hcm⟩, (hF0.drew.alloc _), ?_⟩
        · rw [bv_append]
          have e : (Value.int .u8 0).cells = #[.int .u8 0] := rfl
          simp only [e, zero_bytes, List.nil_append, Nat.zero_add]
          have := heap_alloc_new ((w.alloc (.cells #[] 5)).drew) (.cells ((bv bs).toArray ++ (bv (List.replicate (grownCap (w.alloc (.cells #[] 5)) bs.length 0 5 - bs.length) 0)).toArray) 5)
          simpa using this
        · simp only [List.length_append, List.length_replicate, Nat.zero_add]
          simp only [Nat.zero_add] at hge
          omega
        · rintro k ⟨x, e1, rfl⟩
          obtain rfl := Option.some.inj e1
          simp
    obtain ⟨ao', cap', w1, hrun, hfull, hF, hn⟩ := key
    have HR := hideIt hrun
    clear hrun
    go_enter Try.func47, Try.ntmps47
    go_wp2_with (first | (at_builtin; refine wpList_append_run _ rfl (.tmp 5) (.tmp 6) 22 22 rfl _ _ _ _ rfl rfl HR.out ?_))
    go_ret
    exact ⟨ao', cap', rfl, hfull, hF, hn⟩

theorem out_full (p t : Nat) (ao : Option Addr) (cap : Nat) (bs : List UInt8) (at_ ea : Int) (w : World) (h : WAt w p t ao cap bs at_ 0 ea) (hb : bs.length ≤ 140737488355328) :
    Calls Try.prog 61 #[.pointer (some ⟨p, 0, none⟩)] w fun e w' => ∃ ao' cap', e = .returned (.tuple #[.slice ao' bs.length cap', .int .i64 0]) ∧ Full w' ao' cap' bs ∧ Fr (fun _ => False) w w' ∧ ∀ k, blk ao' k → w.heap.size ≤ k := by
  have hc := h.c
  have h0 := h.tp.c0
  have h2 := h.tp.c2
  go_enter Try.func61, Try.ntmps61
  go_wp2_with (go_at_call 81; refine (wnone_some p t _ hc).mono ?_; rintro e w' ⟨rfl, rfl⟩)
  refine (clone_full ao cap bs _ h.tp.row.bs h.tp.row.cap0 hb).mono ?_
  rintro e w' ⟨ao', cap', rfl, hrow, hF, hnew⟩
  go_wp2
  go_ret2
  exact ⟨ao', cap', rfl, hrow, hF, hnew⟩

theorem xor_fin : ∀ n : Fin 256, bits .xor .u8 (n.val : Int) 90 = (((UInt8.ofNat n.val) ^^^ 90).toNat : Int) := by decide +kernel

end Go.Proofs.Ytojgikaoiegmpaa

/- Code: Bytes, Size. -/
namespace Go.Proofs.Ytojgikaoiegmpaa
open Go.RowKit Go.IntWalk Go.Lib
set_option linter.unusedSimpArgs false
set_option linter.unusedVariables false
set_option maxRecDepth 100000

theorem WOk.frS {S : Nat → Prop} {w w' : World} {p t : Nat} {ao : Option Addr} {cap : Nat} {s : List UInt8 × Bool} (h : WOk w p t ao cap s) (hf : Fr S w w') (hp : ¬ S p) (hS : ∀ k, wset t ao k → ¬ S k) : WOk w' p t ao cap s := by
  obtain ⟨a, e, h⟩ := h
  exact ⟨a, e, h.fr hf hp hS⟩

/-- What Bytes answers. -/
def BytesP (i : Ins) (w : World) (e : Ending) (w' : World) : Prop :=
  ∃ ao cap, e = .returned (.tuple #[.slice ao (codeI i).length cap, .int .i64 (checkE i)]) ∧ Full w' ao cap (codeI i) ∧ Fr (fun _ => False) w w' ∧ ∀ k, blk ao k → w.heap.size ≤ k

theorem bytes_bad (i : Ins) (h2 : checkE i = 2) (w : World) : Calls Try.prog 35 #[.agg (icells i)] w (BytesP i w) := by
  have HC := hideIt (fun w => by have := check_any i w; rw [h2] at this; exact this)
  have hcode : codeI i = [] := by unfold codeI; rw [if_neg (by rw [h2]; decide)]
  have HE := hideIt (And.intro hcode h2)
  clear hcode h2
  obtain ⟨op, a, b, c, n, s⟩ := i
  unfold icells
  go_enter Try.func35, Try.ntmps35
  go_wp2_with fail
  refine Calls.mono (HC.out _) ?_
  rintro e w1 ⟨rfl, hF1⟩
  have HF1 := hideIt hF1
  clear hF1
  go_wp2_with fail
  go_ret2
  exact ⟨none, 0, by rw [HE.out.1, HE.out.2]; rfl, by rw [HE.out.1]; exact Or.inl ⟨rfl, rfl, rfl⟩, ((Fr.refl _ _).alloc _).trans HF1.out (fun _ _ e => e), fun k hk => by obtain ⟨_, e, _⟩ := hk; cases e⟩

set_option maxRecDepth 100000 in
set_option maxHeartbeats 2000000 in
theorem bytes_good (i : Ins) (m : Nat) (hG : Good i m) (w : World) : Calls Try.prog 35 #[.agg (icells i)] w (BytesP i w) := by
  have HC := hideIt (fun w => by have := check_any i w; rw [hG.check] at this; exact this)
  have HE := hideIt (And.intro hG.code hG.check)
  have HG := hideIt hG
  have hm : m ≤ 15 := hG.hi
  have hlen4 := (ltrs_nodup m hm).2
  have hop := hG.op
  clear hG
  have HII := hideIt (show ∀ w1, Fr (fun _ => False) (w.alloc (.cells (icells i) 40)) w1 → InsAt w1 w.heap.size i from fun w1 hF => (hF.block w.heap.size (by simp) (fun e => e)).trans (heap_new rfl))
  obtain ⟨op, a, b, c, n, s⟩ := i
  obtain rfl : op = m := hop
  have HK := hideIt kinds_any
  have hidx := idx_run m hm
  unfold icells
  go_enter Try.func35, Try.ntmps35
  go_wp2_with fail
  refine Calls.mono (HC.out _) ?_
  rintro e w1 ⟨rfl, hF1⟩
  have HF1 := hideIt hF1
  have hs1 : w.heap.size < w1.heap.size := by have := hF1.size; simp at this; omega
  clear hF1
  go_wp2_with fail
  refine Calls.mono (new_any w1) ?_
  rintro e w2 ⟨rfl, hW2, hF2, hsz2⟩
  have HI2 := hideIt (HII.out _ (HF1.out.trans hF2 (fun _ _ e => e)))
  have HF2 := hideIt (((Fr.refl (fun _ => False) w).alloc _).trans (HF1.out.trans hF2 (fun _ _ e => e)) (fun _ _ e => e))
  have HW2 := hideIt hW2
  clear hW2 hF2
  have c0 := HI2.out.c0
  dsimp only at c0
  go_wp2_with fail
  refine Calls.mono (wint_any (w1.heap.size + 1) w1.heap.size none 0 ([], false) m w2 HW2.out (by omega) (by simp)) ?_
  rintro e w3 ⟨rfl, hP⟩
  rw [wInt_small (m : Int) (by omega) (by omega) [], Int.toNat_natCast] at hP
  obtain ⟨ao, cap, hW3, hF3, hn3⟩ := hP
  have hnP : ¬ wset w1.heap.size none w.heap.size := by
    rintro (e | ⟨_, e, _⟩)
    · omega
    · cases e
  have HI1 := hideIt (fun w' (hF : Fr (fun _ => False) w3 w') => (HI2.out.fr hF3 hnP).fr hF (fun e => e))
  have HF3 := hideIt (HF2.out.trans hF3 (fun k hk e => by rcases e with e | ⟨_, e, _⟩; omega; cases e))
  have HW3 := hideIt hW3
  have HL3 := hideIt (show ∀ k, blk ao k → k < w3.heap.size from by obtain ⟨_, _, h⟩ := hW3; exact fun k hk => h.tp.row.lt hk)
  have HN3 := hideIt (show ∀ k, blk ao k → w2.heap.size ≤ k from hn3.elim (fun e k hk => by subst e; obtain ⟨_, e, _⟩ := hk; cases e) id)
  have hs3 : w2.heap.size ≤ w3.heap.size := hF3.size
  clear hW3 hF3 hn3 c0
  go_wp2_with fail
  refine wp_region_held_drew (S := fun w0 => w0.cell? ⟨w.heap.size, 0, none⟩ = some (.int .i64 (m : Int))) (by kernel_rfl) ?_ (fun hHeld => ?_)
  · exact (HI1.out _ (Fr.refl _ _).drew).c0
  refine wpAnyH_take (i := 1) (v := ?v1) rfl (by kernel_rfl) (by kernel_rfl) (by kernel_rfl) (fun _ _ _ h => h) (Or.inl ⟨by rfl, ?hy1⟩) (by assumption) ?rest1
  case hy1 => intro w hSw; (try dsimp only at hSw); go_simp; (try with_reducible rfl)
  try simp only [Act.put, List.setIfInBounds_toArray, List.set_cons_zero, List.set_cons_succ]
  refine wpAnyH_take (i := 2) (v := ?v2) rfl (by kernel_rfl) (by kernel_rfl) (by kernel_rfl) (fun _ _ _ h => h) (Or.inl ⟨by rfl, ?hy2⟩) (by assumption) ?rest2
  case hy2 => intro w hSw; (try dsimp only at hSw); go_simp; (try with_reducible rfl)
  try simp only [Act.put, List.setIfInBounds_toArray, List.set_cons_zero, List.set_cons_succ]
  refine wpAnyH_ready (rs := [0]) (by kernel_rfl) (by simp) ?_
  refine AllReadyH.cons rfl (fun K hK => ?_) AllReadyH.nil
  go_simp
  refine Calls.mono (HK.out _) ?_
  rintro e w4 ⟨rfl, hF⟩
  have HF := hideIt hF
  clear hF
  refine hK.out _ _ ?_ (fun hHeld => ?_)
  · exact (HI1.out _ ((Fr.refl _ _).drew.trans HF.out (fun _ _ e => e))).c0
  clear hK K
  try simp only [Act.put, List.setIfInBounds_toArray, List.set_cons_zero, List.set_cons_succ]
  refine wpAnyH_take (i := 3) (v := ?v3) rfl (by kernel_rfl) (by kernel_rfl) (by kernel_rfl) (fun _ _ _ h => h) (Or.inl ⟨by rfl, ?hy3⟩) (by assumption) ?rest3
  case hy3 => intro w hSw; (try dsimp only at hSw); go_simp; first | done | exact hidx w | (with_reducible rfl) | rfl
  try simp only [Act.put, List.setIfInBounds_toArray, List.set_cons_zero, List.set_cons_succ]
  refine wpAnyH_ready (rs := [4]) (by kernel_rfl) (by simp) ?_
  refine AllReadyH.cons rfl (fun K hK => ?_) AllReadyH.nil
  go_simp
  refine hK.out _ _ ?_ (fun hHeld => ?_)
  · exact (HI1.out _ (((Fr.refl _ _).drew.trans HF.out (fun _ _ e => e)).alloc _)).c0
  clear hK K
  try simp only [Act.put, List.setIfInBounds_toArray, List.set_cons_zero, List.set_cons_succ]
  refine wpAnyH_done (by kernel_rfl) ?_ _
  skip
  go_wp2_with fail
  have hs4 : w3.heap.size ≤ w4.heap.size := HF.out.size
  have HFW := hideIt (HF3.out.trans ((Fr.refl (fun _ => False) w3).drew.trans HF.out (fun _ _ e => e)) (fun _ _ e => e))
  have HIW := hideIt (HI1.out _ (((Fr.refl _ _).drew.trans HF.out (fun _ _ e => e)).alloc (.stringIter (kindT m) 0)))
  have HWW := hideIt (HW3.out.fr0 (((Fr.refl _ _).drew.trans HF.out (fun _ _ e => e)).alloc (.stringIter (kindT m) 0)))
  clear HI1 HK hidx HF hHeld HW3 HF3 HII HC HF1 HI2 HF2 HW2
  go_loopw [7] (fun _ wr => ∃ (pos : Nat) (ao : Option Addr) (cap : Nat), Hid (wr.heap[w4.heap.size]? = some (.stringIter (kindT m) pos)) ∧ Hid (InsAt wr w.heap.size ⟨m, a, b, c, n, s⟩) ∧ Hid (WOk wr (w1.heap.size + 1) w1.heap.size ao cap (UInt8.ofNat m :: encs ((ltrs m).take pos) ⟨m, a, b, c, n, s⟩, false)) ∧ Hid (Fr (fun _ => False) w wr) ∧ Hid (¬ wset w1.heap.size ao w.heap.size ∧ ¬ wset w1.heap.size ao w4.heap.size ∧ (∀ k, wset w1.heap.size ao k → w.heap.size ≤ k) ∧ pos ≤ (ltrs m).length)) (fun _ wr => (kindT m).size - wr.iterPos w4.heap.size)
  case atStart =>
    refine ⟨0, ao, cap, hideIt (heap_new rfl), HIW, HWW, hideIt (HFW.out.alloc _), hideIt ⟨?_, ?_, ?_, Nat.zero_le _⟩⟩
    · rintro (e | e)
      · omega
      · have := HN3.out _ e; omega
    · rintro (e | e)
      · omega
      · have := HL3.out _ e; omega
    · rintro k (e | e)
      · omega
      · have := HN3.out _ e; omega
  case round =>
    obtain ⟨pos, ao, cap, HIT, HJ, HW, HFR, HP⟩ := hrel
    have hne : w.heap.size ≠ w4.heap.size := by omega
    by_cases hp : pos < (kindT m).size
    · obtain ⟨hl, _, ht0⟩ := ltrs_at m pos hm hp
      have hfit : fitsB ((kindT m)[pos]'hp).toNat ⟨m, a, b, c, n, s⟩ = true := HG.out.fit _ (by rw [ltrs_get m pos hp]; exact List.getElem_mem _)
      have HT := hideIt ht0
      have hnx := fun ty => run_next_ascii_at (P := Try.prog) wr w4.heap.size (kindT m) pos ty HIT.out hp (by have := hl; omega)
      clear ht0
      generalize ((kindT m)[pos]'hp).toNat = l at *
      have HFI := hideIt ((Fr.refl (fun k => k = w4.heap.size) wr).iterAt (k := w4.heap.size) (fun _ => rfl) (kindT m) (pos + 1))
      have HJ1 := hideIt (HJ.out.fr HFI.out hne)
      have HW1 := hideIt (HW.out.frS HFI.out (by omega) (fun k hk e => HP.out.2.1 (e ▸ hk)))
      have HIT1 := hideIt (iterAt_heap wr w4.heap.size (kindT m) pos (pos + 1) HIT.out)
      have HFR1 := hideIt (HFR.out.trans HFI.out (fun i hi e => by omega))
      have hpos0 := hideIt (iterPos_of HIT.out)
      generalize wr.iterAt w4.heap.size (kindT m) (pos + 1) = W1 at *
      have hblen : (UInt8.ofNat m :: encs ((ltrs m).take pos) ⟨m, a, b, c, n, s⟩).length + 84 ≤ 140737488355328 := by
        have h1 := encs_len ((ltrs m).take pos) ⟨m, a, b, c, n, s⟩ (fun l hl => ltrs_ok m hm l (List.mem_of_mem_take hl)) (fun l hl => HG.out.fit l (List.mem_of_mem_take hl))
        rw [List.length_take] at h1
        rw [List.length_cons]
        omega
      go_wp2_with fail
      refine Calls.mono (find_w w.heap.size l hl _) ?_
      rintro e w5 ⟨rfl, hF5⟩
      have HJ5 := hideIt (HJ1.out.fr hF5 (fun e => e))
      have HW5 := hideIt (HW1.out.fr0 hF5)
      have HIT5 := hideIt ((hF5.block w4.heap.size (Array.getElem?_eq_some_iff.1 HIT1.out).1 (fun e => e)).trans HIT1.out)
      have HFR5 := hideIt (HFR1.out.trans hF5 (fun _ _ e => e))
      clear hF5
      go_wp2_with fail
      refine Calls.mono (write_w w.heap.size l hl ⟨m, a, b, c, n, s⟩ (w1.heap.size + 1) w1.heap.size ao cap _ w5 HJ5.out hfit HW5.out hblen) ?_
      rintro e w6 ⟨rfl, hP6⟩
      rw [wL_fits l hl _ hfit] at hP6
      obtain ⟨ao6, cap6, hW6, hF6, hn6⟩ := hP6
      have HW6 := hideIt hW6
      have HF6 := hideIt hF6
      have HN6 := hideIt hn6
      have hz5 := HFR5.out.size
      clear hW6 hF6 hn6
      have hk5 : w4.heap.size < w5.heap.size := (Array.getElem?_eq_some_iff.1 HIT5.out).1
      have HIT6 := hideIt ((HF6.out.block w4.heap.size hk5 HP.out.2.1).trans HIT5.out)
      go_wp2_with fail
      go_roundw
      case measure =>
        rw [iterPos_of HIT6.out, hpos0.out]
        omega
      case rel =>
        refine ⟨pos + 1, ao6, cap6, HIT6, hideIt (HJ5.out.fr HF6.out HP.out.1), hideIt ?_, hideIt (HFR5.out.trans HF6.out (fun k hk e => by have := HP.out.2.2.1 k e; omega)), hideIt ⟨?_, ?_, ?_, ?_⟩⟩
        · have := HW6.out
          rw [HT.out, encs_snoc]
          exact this
        · exact wset_old (Nat.le_refl _) HJ5.out.lt HN6.out HP.out.1
        · exact wset_old (Nat.le_refl _) hk5 HN6.out HP.out.2.1
        · intro k hk
          rcases hk with e | e
          · exact HP.out.2.2.1 k (Or.inl e)
          · rcases HN6.out with h | h
            · exact HP.out.2.2.1 k (Or.inr (h ▸ e))
            · have := h k e; omega
        · rw [ltrs_length]; omega
    · have hnx := fun ty => run_next_end_at (P := Try.prog) wr w4.heap.size (kindT m) pos ty HIT.out hp
      have htk : (ltrs m).take pos = ltrs m := List.take_of_length_le (by rw [ltrs_length]; omega)
      obtain ⟨at_, ea, hWA⟩ := HW.out
      rw [htk] at hWA
      have hWA' : WAt wr (w1.heap.size + 1) w1.heap.size ao cap (UInt8.ofNat m :: encs (ltrs m) ⟨m, a, b, c, n, s⟩) at_ 0 ea := by simpa using hWA
      have HWA := hideIt hWA'
      clear hWA hWA' htk
      have hblen : (UInt8.ofNat m :: encs (ltrs m) ⟨m, a, b, c, n, s⟩).length ≤ 140737488355328 := by
        have h1 := encs_len (ltrs m) ⟨m, a, b, c, n, s⟩ (ltrs_ok m hm) HG.out.fit
        rw [List.length_cons]
        omega
      go_wp2_with fail
      refine Calls.mono (out_full (w1.heap.size + 1) w1.heap.size ao cap _ at_ ea wr HWA.out hblen) ?_
      rintro e w7 ⟨ao7, cap7, rfl, hfull, hF7, hn7⟩
      have HQ := hideIt (And.intro hfull (And.intro hF7 hn7))
      clear hfull hF7 hn7
      go_wp2_with fail
      go_ret2
      exact ⟨ao7, cap7, by rw [HE.out.1, HE.out.2]; rfl, by rw [HE.out.1]; exact HQ.out.1, HFR.out.trans HQ.out.2.1 (fun _ _ e => e), fun k hk => Nat.le_trans HFR.out.size (HQ.out.2.2 k hk)⟩

theorem bytes_any (i : Ins) (w : World) : Calls Try.prog 35 #[.agg (icells i)] w (BytesP i w) := by
  rcases checkE_or i with h | h
  · obtain ⟨m, hG⟩ := good_of i h
    exact bytes_good i m hG w
  · exact bytes_bad i h w

theorem size_any (i : Ins) (w : World) : Calls Try.prog 88 #[.agg (icells i)] w fun e w' => e = .returned (.int .i64 (codeI i).length) ∧ Fr (fun _ => False) w w' := by
  have HB := hideIt (bytes_any i)
  obtain ⟨op, a, b, c, n, s⟩ := i
  unfold icells
  go_enter Try.func88, Try.ntmps88
  go_wp2_with fail
  refine Calls.mono (HB.out _) ?_
  rintro e w1 ⟨ao, cap, rfl, _, hF, _⟩
  have HF := hideIt hF
  clear hF
  go_wp2_with fail
  go_ret
  exact ⟨rfl, ((Fr.refl _ _).alloc _).trans HF.out (fun _ _ e => e)⟩

end Go.Proofs.Ytojgikaoiegmpaa

/- Package prog: rows of instructions; passes, mayNot, beyond, walked. -/
namespace Go.Proofs.Ytojgikaoiegmpaa
open Go.RowKit Go.IntWalk
set_option linter.unusedSimpArgs false
set_option linter.unusedVariables false
set_option maxRecDepth 100000

theorem store_absG {P : Program} {ops : Array Oper} {rest : List Oper} {op : Oper} {a : Act} {w : World} {Q : Exit → Act → World → Prop} (hgd : op.guard = none) (ty : TypeId) (x y : Operand) (ho : op.op = .store ty x y)
    (b o : Nat) (cells : Array Value) (hx : a.eval x = .pointer (some ⟨b, o, none⟩)) (hy : a.eval y = .agg cells)
    (ht : w.there b o cells.size) (hi : (P.info? ty).map (·.size) = some cells.size) (h1 : cells.all (·.oneCell') = true)
    (h : ∀ W, W = w.setCells b o cells.toList → wpList P ops Q rest (a.put op.dst undef) W) : wpList P ops Q (op :: rest) a w :=
  wpList_store_mid hgd ty x y ho b o cells hx hy ht hi h1 (h _ rfl)

/-- A row of instructions, wherever it lies. -/
def InsRow (w : World) (ao : Option Addr) (l : List Ins) : Prop := l = [] ∨ ∃ b off, ao = some ⟨b, off, none⟩ ∧ b < w.heap.size ∧ ∀ j (h : j < l.length), w.rangeAt b (off + j * 6) (icells l[j]).toList
theorem InsRow.get {w : World} {ao : Option Addr} {l : List Ins} (h : InsRow w ao l) (j : Nat) (hj : j < l.length) : ∃ b off, ao = some ⟨b, off, none⟩ ∧ b < w.heap.size ∧ w.rangeAt b (off + j * 6) (icells l[j]).toList := by
  rcases h with rfl | ⟨b, off, e, hb, hc⟩
  · simp at hj
  · exact ⟨b, off, e, hb, hc j hj⟩
theorem InsRow.fr {S : Nat → Prop} {w w' : World} {ao : Option Addr} {l : List Ins} (h : InsRow w ao l) (hF : Fr S w w') (hS : ∀ k, k < w.heap.size → blk ao k → ¬ S k) : InsRow w' ao l := by
  rcases h with rfl | ⟨b, off, e, hb, hc⟩
  · exact Or.inl rfl
  · have := hF.size
    refine Or.inr ⟨b, off, e, by omega, fun j hj t v hv => ?_⟩
    exact (World.cell?_of_block (a := ⟨b, off + j * 6 + t, none⟩) (hF.block b hb (hS b hb ⟨_, e, rfl⟩))).trans (hc j hj t v hv)

theorem insSize6 : (Try.prog.info? 40).map (·.size) = some 6 := by kernel_rfl
theorem insSize (i : Ins) : (Try.prog.info? 40).map (·.size) = some (icells i).toList.length := insSize6
theorem insSizeA (i : Ins) : (Try.prog.info? 40).map (·.size) = some (icells i).size := insSize6

/-- How many instructions one may pass over. -/
def passI (i : Ins) : Int := if i.op = 12 ∨ i.op = 13 then i.n else 0
theorem gpasses_any (i : Ins) (w : World) : Calls Try.prog 53 #[.agg (icells i)] w fun e w' => e = .returned (.int .i64 (passI i)) ∧ Fr (fun _ => False) w w' := by
  have hI : InsAt (w.alloc (.cells (icells i) 40)) w.heap.size i := heap_alloc_new w _
  have c0 := hI.c0
  have c4 := hI.c4
  have HF := hideIt (show Fr (fun _ => False) w (w.alloc (.cells (icells i) 40)) from (Fr.refl _ w).alloc _)
  obtain ⟨op, a, b, c, n, s⟩ := i
  unfold icells at c0 c4 HF ⊢
  dsimp only at c0 c4 HF ⊢
  clear hI
  by_cases h1 : op = 12
  · subst h1
    have hp : passI ⟨12, a, b, c, n, s⟩ = n := by simp [passI]
    rw [hp]
    go_enter Try.func53, Try.ntmps53
    go_wp2_with fail
    go_ret
    exact ⟨rfl, HF.out⟩
  · by_cases h2 : op = 13
    · subst h2
      have hp : passI ⟨13, a, b, c, n, s⟩ = n := by simp [passI]
      rw [hp]
      go_enter Try.func53, Try.ntmps53
      go_wp2_with fail
      go_ret
      exact ⟨rfl, HF.out⟩
    · have hp : passI ⟨op, a, b, c, n, s⟩ = 0 := by simp [passI, h1, h2]
      rw [hp]
      have h1b : (op == 12) = false := by simpa using h1
      have h2b : (op == 13) = false := by simpa using h2
      go_enter Try.func53, Try.ntmps53
      go_wp2_with fail
      go_ret
      exact ⟨rfl, HF.out⟩

set_option maxRecDepth 100000 in
theorem gmaynot_any (i : Ins) (w : World) : Calls Try.prog 38 #[.agg (icells i)] w fun e w' => e = .returned (.bool (!(checkE i == 0))) ∧ Fr (fun _ => False) w w' := by
  have hF : Fr (fun _ => False) w (w.alloc (.cells (icells i) 40)) := (Fr.refl _ w).alloc _
  have HF := hideIt hF
  have HC := hideIt (fun w => check_any i w)
  have HR := hideIt (show (w.alloc (.cells (icells i) 40)).rangeAt w.heap.size 0 (icells i).toList from fun j v hv => by
    rw [Nat.zero_add, cell_of_row _ _ _ _ _ _ (heap_alloc_new w _)]
    simpa using hv)
  have HI := hideIt (show (Try.prog.info? 40).map (·.size) = some (icells i).toList.length by kernel_rfl)
  clear hF
  generalize checkE i = e0 at *
  generalize icells i = C at *
  go_enter Try.func38, Try.ntmps38
  go_wp2_with (first | (refine wpList_load_mid rfl 40 (.tmp 1) rfl w.heap.size 0 rfl C.toList _ HR.out Try.underlying40 rfl HI.out ?_))
  refine Calls.mono (HC.out _) ?_
  rintro e w1 ⟨rfl, hF1⟩
  have HF1 := hideIt (HF.out.trans hF1 (fun _ _ e => e))
  clear hF1
  go_wp2_with fail
  go_ret
  exact ⟨rfl, HF1.out⟩

/-- The first place at which something holds, or -1. -/
def FirstP (p : Nat → Prop) (n : Nat) (w : World) (e : Ending) (w' : World) : Prop := Fr (fun _ => False) w w' ∧ ((∃ j, j < n ∧ e = .returned (.int .i64 (j : Int)) ∧ p j ∧ ∀ t, t < j → ¬ p t) ∨ (e = .returned (.int .i64 (-1)) ∧ ∀ t, t < n → ¬ p t))

/-- It passes over more than stand behind it. -/
def beyB (l : List Ins) (j : Nat) : Prop := ∃ h : j < l.length, (l.length : Int) - 1 - j < passI l[j]
/-- It may not be. -/
def badB (l : List Ins) (j : Nat) : Prop := ∃ h : j < l.length, ¬ checkE l[j] = 0

set_option maxRecDepth 100000 in
set_option maxHeartbeats 2000000 in
theorem gidx_any (ao : Option Addr) (cap : Nat) (l : List Ins) (hl : l.length ≤ 1000) (w : World) (hB : InsRow w ao l) : Calls Try.prog 37 #[.slice ao l.length cap, .func (.func 38) #[] #[]] w (FirstP (badB l) l.length w) := by
  have HB := hideIt (fun W (hF : Fr (fun _ => False) w W) => hB.fr hF (fun _ _ _ e => e))
  have HI := hideIt insSize
  clear hB
  go_enter Try.func37, Try.ntmps37
  go_wp2_with fail
  go_loopw [8] (fun s8 wr => ∃ j : Nat, s8 = .int .i64 j ∧ j ≤ l.length ∧ Hid (∀ t, t < j → ¬ badB l t) ∧ Hid (Fr (fun _ => False) w wr)) (fun s8 _ => l.length - (intOf s8).toNat)
  case atStart => exact ⟨0, rfl, by omega, hideIt (fun t h => by omega), hideIt (Fr.refl _ _)⟩
  case round =>
    obtain ⟨j, rfl, hj, HN, HF⟩ := hrel
    by_cases hlt : j < l.length
    · have h1 : (j : Int) < (l.length : Int) := by omega
      obtain ⟨b, off, rfl, hb, hR⟩ := (HB.out wr HF.out).get j hlt
      have HR := hideIt hR
      have HIJ := hideIt (HI.out l[j])
      have HM := hideIt (gmaynot_any l[j] wr)
      have HBD := hideIt (show badB l j ↔ ¬ checkE l[j] = 0 from ⟨fun ⟨_, h⟩ => h, fun h => ⟨hlt, h⟩⟩)
      clear hR
      generalize checkE l[j] = e0 at *
      generalize icells l[j] = C at *
      go_wp2_with (first | (refine wpList_load_mid rfl 40 (.tmp 14) rfl b (off + j * 6) rfl C.toList _ HR.out Try.underlying40 rfl HIJ.out ?_))
      refine Calls.mono HM.out ?_
      rintro e w1 ⟨rfl, hF1⟩
      have HF1 := hideIt (HF.out.trans hF1 (fun _ _ e => e))
      clear hF1 HF HM HR
      by_cases he : e0 = 0
      · have hN2 := hideIt (show ∀ t, t < j + 1 → ¬ badB l t from fun t ht => by
          by_cases e : t = j
          · subst e; exact fun h => HBD.out.1 h he
          · exact HN.out t (by omega))
        subst he
        go_wp2_with fail
        go_roundw
        case measure => simp [intOf]; omega
        case rel => exact ⟨j + 1, by go_num, by omega, hN2, HF1⟩
      · have hb2 : badB l j := HBD.out.2 he
        have HB2 := hideIt hb2
        have he2 : (e0 == 0) = false := by simpa using he
        clear HBD hb2
        go_wp2_with fail
        go_ret
        exact ⟨HF1.out, Or.inl ⟨j, hlt, rfl, HB2.out, HN.out⟩⟩
    · have hje : j = l.length := by omega
      have hjn : ¬ (j : Int) < (l.length : Int) := by omega
      go_wp2_with fail
      go_ret
      exact ⟨HF.out, Or.inr ⟨rfl, fun t ht => HN.out t (by omega)⟩⟩

set_option maxRecDepth 100000 in
set_option maxHeartbeats 2000000 in
theorem gbeyond_any (ao : Option Addr) (cap : Nat) (l : List Ins) (hl : l.length ≤ 1000) (w : World) (hB : InsRow w ao l) : Calls Try.prog 29 #[.slice ao l.length cap] w (FirstP (beyB l) l.length w) := by
  have HB := hideIt (fun W (hF : Fr (fun _ => False) w W) => hB.fr hF (fun _ _ _ e => e))
  have HI := hideIt insSize
  have HIA := hideIt insSizeA
  clear hB
  go_enter Try.func29, Try.ntmps29
  go_wp2_with fail
  go_loopw [7] (fun s7 wr => ∃ j : Nat, s7 = .int .i64 j ∧ j ≤ l.length ∧ Hid (∀ t, t < j → ¬ beyB l t) ∧ Hid (Fr (fun _ => False) w wr)) (fun s7 _ => l.length - (intOf s7).toNat)
  case atStart => exact ⟨0, rfl, by omega, hideIt (fun t h => by omega), hideIt (Fr.refl _ _)⟩
  case round =>
    obtain ⟨j, rfl, hj, HN, HF⟩ := hrel
    by_cases hlt : j < l.length
    · have h1 : (j : Int) < (l.length : Int) := by omega
      obtain ⟨b, off, rfl, hb, hR⟩ := (HB.out wr HF.out).get j hlt
      have HR := hideIt hR
      obtain ⟨q, hq⟩ : ∃ q, wr.heap.size = q := ⟨_, rfl⟩
      have hZ : (wr.alloc (.cells #[.int .i64 0, .int .i64 0, .int .i64 0, .int .i64 0, .int .i64 0, .string ⟨#[]⟩] 40)).heap[q]? = some (.cells #[.int .i64 0, .int .i64 0, .int .i64 0, .int .i64 0, .int .i64 0, .string ⟨#[]⟩] 40) := by rw [← hq]; exact heap_alloc_new wr _
      have HT := hideIt (there_row hZ (icells l[j]).size (show 6 ≤ 6 from Nat.le_refl _))
      have HO := hideIt (icells_one l[j])
      have HIJ := hideIt (HI.out l[j])
      have HIK := hideIt (HIA.out l[j])
      have HW := hideIt (fun W (h : W = (wr.alloc (.cells #[.int .i64 0, .int .i64 0, .int .i64 0, .int .i64 0, .int .i64 0, .string ⟨#[]⟩] 40)).setCells q 0 (icells l[j]).toList) => show W.rangeAt q 0 (icells l[j]).toList ∧ Fr (fun _ => False) wr W by
        subst h
        have hS := store_over (V := icells l[j]) hZ rfl
        refine ⟨fun t v hv => ?_, ((Fr.refl (fun _ => False) wr).alloc _).trans hS.2 (fun i hi e => by omega)⟩
        rw [Nat.zero_add, cell_of_row _ _ _ _ _ _ hS.1]
        simpa using hv)
      have HM := hideIt (fun w => gpasses_any l[j] w)
      have HBD := hideIt (show beyB l j ↔ (l.length : Int) - 1 - j < passI l[j] from ⟨fun ⟨_, h⟩ => h, fun h => ⟨hlt, h⟩⟩)
      have HQ := hideIt hq
      clear hR hZ
      generalize passI l[j] = e0 at *
      generalize icells l[j] = C at *
      have w1 : IntKind.i64.wrap ((l.length : Int) - 1) = (l.length : Int) - 1 := by rw [IntKind.wrap_i64]; omega
      have w2 : IntKind.i64.wrap ((l.length : Int) - 1 - (j : Int)) = (l.length : Int) - 1 - (j : Int) := by rw [IntKind.wrap_i64]; omega
      go_wp2_with (first | (refine wpList_load_mid rfl 40 (.tmp 10) rfl b (off + j * 6) rfl C.toList _ HR.out Try.underlying40 rfl HIJ.out ?_) | (refine store_absG rfl 40 (.tmp 4) (.tmp 11) rfl q 0 C rfl rfl HT.out HIK.out HO.out ?_; intro W2 hW2; obtain ⟨hR2, hF2⟩ := HW.out W2 hW2; have HR2 := hideIt hR2; have HF2 := hideIt (HF.out.trans hF2 (fun _ _ e => e)); clear hW2 HW HT hR2 hF2) | (refine wpList_load_mid rfl 40 (.tmp 4) rfl q 0 rfl C.toList _ HR2.out Try.underlying40 rfl HIJ.out ?_))
      refine Calls.mono (HM.out _) ?_
      rintro e w1 ⟨rfl, hF1⟩
      have HF1 := hideIt (HF2.out.trans hF1 (fun _ _ e => e))
      clear hF1 HF HM HR HR2 HF2 hq
      by_cases he : (l.length : Int) - 1 - j < e0
      · have HB2 := hideIt (HBD.out.2 he)
        clear HBD
        go_wp2_with fail
        go_ret
        exact ⟨HF1.out, Or.inl ⟨j, hlt, rfl, HB2.out, HN.out⟩⟩
      · have hN2 := hideIt (show ∀ t, t < j + 1 → ¬ beyB l t from fun t ht => by
          by_cases e : t = j
          · subst e; exact fun h => he (HBD.out.1 h)
          · exact HN.out t (by omega))
        have he2 : e0 ≤ (l.length : Int) - 1 - j := by omega
        clear HBD
        go_wp2_with fail
        go_roundw
        case measure => simp [intOf]; omega
        case rel => exact ⟨j + 1, by go_num, by omega, hN2, HF1⟩
    · have hje : j = l.length := by omega
      have hjn : ¬ (j : Int) < (l.length : Int) := by omega
      go_wp2_with fail
      go_ret
      exact ⟨HF.out, Or.inr ⟨rfl, fun t ht => HN.out t (by omega)⟩⟩

end Go.Proofs.Ytojgikaoiegmpaa

/- Code: Read; what the chapter's examples say (is, fails). -/
namespace Go.Proofs.Ytojgikaoiegmpaa
open Go.RowKit Go.IntWalk Go.Lib
set_option linter.unusedSimpArgs false
set_option linter.unusedVariables false
set_option maxRecDepth 100000

theorem read_any (ao : Option Addr) (cap : Nat) (bs : List UInt8) (at_ : Int) (w : World) (h : BsAt w ao bs) (hcap0 : ao = none → cap = 0) (hcl : bs.length ≤ cap) (hb : bs.length ≤ 140737488355328) :
    Calls Try.prog 52 #[.slice ao bs.length cap, .int .i64 at_] w fun e w' => e = .returned (readV (readR bs at_)) ∧ Fr (fun _ => False) w w' := by
  by_cases hx : at_ < 0 ∨ (bs.length : Int) < at_
  · exact read_out ao cap bs at_ w hx
  · obtain ⟨a, rfl⟩ : ∃ a : Nat, at_ = a := ⟨at_.toNat, by omega⟩
    have hale : a ≤ bs.length := by omega
    by_cases h1 : cap = a
    · exact read_in1 ao cap bs a w h hcap0 hcl hb hale h1
    by_cases h2 : (bs.length : Int) ≤ (a : Int) + 67
    · exact read_in2 ao cap bs a w h hcap0 hcl hb hale h1 h2
    · exact read_in3 ao cap bs a w h hcap0 hcl hb hale h1 (by omega)

theorem bs_new (u : World) (bs : List UInt8) (C : Array Value) (hC : (bv bs).toArray = C) (hl : bs.length ≤ 100) : BsAt (u.alloc (.cells C 5)) (some ⟨u.heap.size, 0, none⟩) bs := by
  subst hC
  refine Full.bs (cap := bs.length) (Or.inr ⟨u.heap.size, [], rfl, by rw [List.append_nil]; exact heap_new rfl, by simp, ?_⟩)
  unfold maxLen
  omega

theorem zI : icells zeroI = #[.int .i64 0, .int .i64 0, .int .i64 0, .int .i64 0, .int .i64 0, .string ⟨#[]⟩] := rfl

theorem read_new (bs : List UInt8) (C : Array Value) (n : Nat) (at_ : Int) (v : Value) (hC : (bv bs).toArray = C) (hn : bs.length = n) (hr : readV (readR bs at_) = v) (hl : n ≤ 100) (u : World) (k : Nat) (hk : k = u.heap.size) :
    Calls Try.prog 52 #[.slice (some ⟨k, 0, none⟩) n n, .int .i64 at_] (u.alloc (.cells C 5)) fun e w' => e = .returned v ∧ Fr (fun _ => False) (u.alloc (.cells C 5)) w' := by
  subst hn hr hk
  exact read_any (some ⟨u.heap.size, 0, none⟩) bs.length bs at_ _ (bs_new u bs C hC hl) (fun e => by cases e) (Nat.le_refl _) (by omega)

end Go.Proofs.Ytojgikaoiegmpaa

/- Code: awake, CodeKnown. -/
namespace Go.Proofs.Ytojgikaoiegmpaa
open Go.RowKit Go.IntWalk Go.Lib
set_option linter.unusedSimpArgs false
set_option linter.unusedVariables false
set_option maxRecDepth 100000

theorem ex1 : readR [9, 2, 1, 2] 1 = (⟨2, 1, 2, 0, 0, ⟨#[]⟩⟩, 4, 0, 0) := by kernel_rfl
theorem ex2 : readR [2, 8] 0 = (zeroI, 0, 5, 1) := by kernel_rfl
theorem ex3 : readR [16] 0 = (zeroI, 0, 5, 0) := by kernel_rfl
theorem ex4 : readR [2, 1] 0 = (zeroI, 0, 4, 2) := by kernel_rfl
theorem ex5 : readR [15] 2 = (zeroI, 0, 5, 0) := by kernel_rfl
theorem cx1 : codeL ⟨1, 1, 0, 0, 0, ⟨#[97, 98]⟩⟩ = [1, 1, 2, 97, 98] := by kernel_rfl
theorem cx2 : codeL ⟨6, 0, 1, 2, 16, ⟨#[]⟩⟩ = [6, 0, 1, 2, 16] := by kernel_rfl
theorem gx1 : Good ⟨1, 1, 0, 0, 0, ⟨#[97, 98]⟩⟩ 1 := ⟨rfl, by decide, by decide, by decide, ⟨1, 0, 0, 0, 0, ⟨#[]⟩⟩, by kernel_rfl, rfl, rfl, rfl, rfl, rfl⟩
theorem gx2 : Good ⟨15, 0, 0, 0, 0, ⟨#[]⟩⟩ 15 := ⟨rfl, by decide, by decide, by decide, ⟨15, 0, 0, 0, 0, ⟨#[]⟩⟩, by kernel_rfl, rfl, rfl, rfl, rfl, rfl⟩
theorem gx3 : Good ⟨6, 0, 1, 2, 16, ⟨#[]⟩⟩ 6 := ⟨rfl, by decide, by decide, by decide, ⟨6, 0, 0, 0, 0, ⟨#[]⟩⟩, by kernel_rfl, rfl, rfl, rfl, rfl, rfl⟩
theorem gx4 : Good ⟨13, 0, 0, 0, 60, ⟨#[]⟩⟩ 13 := ⟨rfl, by decide, by decide, by decide, ⟨13, 0, 0, 0, 0, ⟨#[]⟩⟩, by kernel_rfl, rfl, rfl, rfl, rfl, rfl⟩
theorem gx5 : Good ⟨2, 1, 2, 0, 0, ⟨#[]⟩⟩ 2 := ⟨rfl, by decide, by decide, by decide, ⟨2, 0, 0, 0, 0, ⟨#[]⟩⟩, by kernel_rfl, rfl, rfl, rfl, rfl, rfl⟩
theorem kx1 : checkE ⟨15, 1, 0, 0, 0, ⟨#[]⟩⟩ = 2 := checkE_left _ ⟨15, 1, 0, 0, 0, ⟨#[]⟩⟩ (by kernel_rfl) (fun e => by have := e.1; simp at this)
theorem kx2 : checkE ⟨1, 8, 0, 0, 0, ⟨#[]⟩⟩ = 2 := checkE_none _ (by kernel_rfl)
theorem kx3 : checkE ⟨6, 0, 0, 0, 17, ⟨#[]⟩⟩ = 2 := checkE_none _ (by kernel_rfl)
theorem kx4 : checkE ⟨0, 0, 0, 0, 0, ⟨#[]⟩⟩ = 2 := checkE_out _ (fun e => by have := e.1; simp at this)

end Go.Proofs.Ytojgikaoiegmpaa

/- The document's own reader (retconref01.Reader): how many bytes the number at its place has. -/
namespace Go.Proofs.Ytojgikaoiegmpaa
open Go.RowKit Go.IntWalk
set_option linter.unusedSimpArgs false
set_option linter.unusedVariables false
set_option maxRecDepth 100000

/-- The document's reader in memory: the bytes that came in, its place, its fault. -/
structure YAt (w : World) (p : Nat) (ao : Option Addr) (cap : Nat) (bs : List UInt8) (at_ er ea : Int) : Prop where
  box : w.heap[p]? = some (.cells #[.slice ao bs.length cap, .int .i64 at_, .int .i64 er, .int .i64 ea] 63 (0, 0))
  bytes : BsAt w ao bs

section
variable {w w' : World} {p : Nat} {ao : Option Addr} {cap : Nat} {bs : List UInt8} {at_ er ea : Int}
theorem YAt.lt (h : YAt w p ao cap bs at_ er ea) : p < w.heap.size := (Array.getElem?_eq_some_iff.1 h.box).1
theorem YAt.c0 (h : YAt w p ao cap bs at_ er ea) : w.cell? ⟨p, 0, none⟩ = some (.slice ao bs.length cap) := cellOfHeap h.box 0 rfl
theorem YAt.c1 (h : YAt w p ao cap bs at_ er ea) : w.cell? ⟨p, 1, none⟩ = some (.int .i64 at_) := cellOfHeap h.box 1 rfl
theorem YAt.c2 (h : YAt w p ao cap bs at_ er ea) : w.cell? ⟨p, 2, none⟩ = some (.int .i64 er) := cellOfHeap h.box 2 rfl
theorem YAt.c3 (h : YAt w p ao cap bs at_ er ea) : w.cell? ⟨p, 3, none⟩ = some (.int .i64 ea) := cellOfHeap h.box 3 rfl
theorem YAt.fr {S : Nat → Prop} (h : YAt w p ao cap bs at_ er ea) (hf : Fr S w w') (hp : ¬ S p) (hS : ∀ k, k < w.heap.size → blk ao k → ¬ S k) : YAt w' p ao cap bs at_ er ea :=
  ⟨(hf.block p h.lt hp).trans h.box, h.bytes.fr hf hS⟩
end

/-- What size tells: a number's bytes, or 0 and the fault. -/
def sizeV (len at_ : Int) : Except Nat (Nat × Nat) → Int × Int × Int
  | .error 0 => (0, 4, len)
  | .error 1 => (0, 5, at_)
  | .error _ => (0, 4, at_)
  | .ok (_, k) => (k, 0, 0)

set_option maxRecDepth 100000 in
set_option maxHeartbeats 2000000 in
theorem ysize_any (p : Nat) (ao : Option Addr) (cap : Nat) (bs : List UInt8) (at_ : Nat) (er ea : Int) (w : World) (h : YAt w p ao cap bs at_ er ea) (hat : at_ ≤ bs.length) (hb : bs.length ≤ 140737488355328) :
    Calls Try.prog 79 #[.pointer (some ⟨p, 0, none⟩)] w fun e w' => e = .returned (.tuple #[.int .i64 (sizeV bs.length at_ (scan (bs.drop at_) 0 0)).1, .agg #[.int .i64 (sizeV bs.length at_ (scan (bs.drop at_) 0 0)).2.1, .int .i64 (sizeV bs.length at_ (scan (bs.drop at_) 0 0)).2.2]]) ∧ Fr (fun _ => False) w w' := by
  have c0 := h.c0
  have c1 := h.c1
  have hpl := h.lt
  have HBY := hideIt h.bytes
  obtain ⟨R, hR⟩ : ∃ R, scan (bs.drop at_) 0 0 = R := ⟨_, rfl⟩
  rw [hR]
  have HR := hideIt hR
  clear h hR
  go_enter Try.func79, Try.ntmps79
  go_wp2_with fail
  go_loopw [4] (fun i wr => ∃ j : Nat, i = .int .i64 ((j : Int) + 1) ∧ j ≤ 9 ∧ at_ + j ≤ bs.length + 1 ∧ Hid (if j = 9 then R = .error 1 else ∃ acc, scan (bs.drop (at_ + j)) j acc = R ∧ at_ + j ≤ bs.length) ∧ wr = w.alloc (.cells #[.int .i64 0, .int .i64 0] 28))
    (fun i _ => (10 - intOf i).toNat)
  case atStart => exact ⟨0, rfl, by omega, by omega, hideIt ⟨0, HR.out, hat⟩, rfl⟩
  case round =>
    obtain ⟨j, rfl, hj, hal, HI, rfl⟩ := hrel
    have hF0 : Fr (fun _ => False) w (w.alloc (.cells #[.int .i64 0, .int .i64 0] 28)) := (Fr.refl _ _).alloc _
    by_cases h9 : j = 9
    · have hRe : R = .error 1 := by have := HI.out; rw [if_pos h9] at this; exact this
      subst hRe
      have hj9 : ¬ ((j : Int) + 1 ≤ 9) := by omega
      clear HI HR h9
      go_wp2_with fail
      go_region_held2 (fun w' => w'.cell? ⟨p, 0, none⟩ = some (.slice ao bs.length cap) ∧ w'.cell? ⟨p, 1, none⟩ = some (.int .i64 (at_ : Int))) (go_keep) (fail)
      go_wp2_with fail
      exact bodyPost_ret (v := .tuple #[.int .i64 0, .agg #[.int .i64 5, .int .i64 (at_ : Int)]]) (by simp [results, Try.results79, go_sem]) rfl ⟨rfl, ((Fr.refl _ _).alloc _).drew⟩
    · obtain ⟨acc, hacc, hle⟩ : ∃ acc, scan (bs.drop (at_ + j)) j acc = R ∧ at_ + j ≤ bs.length := by have := HI.out; rw [if_neg h9] at this; exact this
      have hj9 : (j : Int) + 1 ≤ 9 := by omega
      have hidx : (at_ : Int) + ((j : Int) + 1) - 1 = ((at_ + j : Nat) : Int) := by omega
      clear HI
      by_cases hend : at_ + j = bs.length
      · have hRe : R = .error 0 := by rw [← hacc, hend, List.drop_length]; rfl
        subst hRe
        have hge : (bs.length : Int) ≤ ((at_ + j : Nat) : Int) := by omega
        clear HR hacc h9 hend
        go_wp2_with fail
        go_region_held2 (fun w' => w'.cell? ⟨p, 0, none⟩ = some (.slice ao bs.length cap) ∧ w'.cell? ⟨p, 1, none⟩ = some (.int .i64 (at_ : Int))) (go_keep) (fail)
        go_wp2_with fail
        exact bodyPost_ret (v := .tuple #[.int .i64 0, .agg #[.int .i64 4, .int .i64 (bs.length : Int)]]) (by simp [results, Try.results79, go_sem]) rfl ⟨rfl, ((Fr.refl _ _).alloc _).drew⟩
      · have hlt : at_ + j < bs.length := by omega
        have hlt' : ¬ ((bs.length : Int) ≤ ((at_ + j : Nat) : Int)) := by omega
        have hlt2 : ((at_ + j : Nat) : Int) < (bs.length : Int) := by omega
        obtain ⟨b, off, rfl, hcell⟩ : ∃ b off, ao = some ⟨b, off, none⟩ ∧ w.cell? ⟨b, off + (at_ + j), none⟩ = some (.int .u8 (bs[at_ + j].toNat : Int)) := by
          rcases HBY.out with ⟨_, h0⟩ | ⟨b, off, e, hc⟩
          · rw [h0] at hlt
            exact absurd hlt (by simp)
          · exact ⟨b, off, e, hc _ hlt⟩
        have hbl := block_lt_of_cell hcell
        have hdr : bs.drop (at_ + j) = bs[at_ + j] :: bs.drop (at_ + j + 1) := List.drop_eq_getElem_cons hlt
        rw [hdr, scan] at hacc
        have hx := UInt8.toNat_lt bs[at_ + j]
        have HAC := hideIt hacc
        clear hacc hdr
        generalize bs[at_ + j] = x at *
        obtain ⟨xn, hxn⟩ : ∃ xn, x.toNat = xn := ⟨_, rfl⟩
        rw [hxn] at hcell hx HAC
        clear hxn x
        generalize hq : at_ + j = q at *
        clear HR
        by_cases hz : xn = 0 ∧ 0 < j
        · obtain ⟨rfl, hj0⟩ := hz
          have hRe : R = .error 2 := by
            have := HAC.out
            rw [if_neg (by omega), if_pos ⟨rfl, hj0⟩] at this
            exact this.symm
          subst hRe
          have hj1 : (1 : Int) < (j : Int) + 1 := by omega
          clear HAC
          go_wp2_with fail
          go_region_held2 (fun w' => w'.cell? ⟨p, 0, none⟩ = some (.slice (some ⟨b, off, none⟩) bs.length cap) ∧ w'.cell? ⟨p, 1, none⟩ = some (.int .i64 (at_ : Int))) (go_keep) (fail)
          go_wp2_with fail
          exact bodyPost_ret (v := .tuple #[.int .i64 0, .agg #[.int .i64 4, .int .i64 (at_ : Int)]]) (by simp [results, Try.results79, go_sem]) rfl ⟨rfl, ((Fr.refl _ _).alloc _).drew⟩
        · by_cases h128 : xn < 128
          · obtain ⟨m, hRe⟩ : ∃ m, R = .ok (m, j + 1) := by
              have := HAC.out
              rw [if_neg (by omega), if_neg hz, if_pos h128] at this
              exact ⟨_, this.symm⟩
            subst hRe
            have h128' : (xn : Int) < 128 := by omega
            clear HAC
            by_cases hx0 : xn = 0
            · have hx0' : ((xn : Int) == 0) = true := by simpa using hx0
              have hj1 : ¬ ((1 : Int) < (j : Int) + 1) := by omega
              have hj2 : (j : Int) + 1 ≤ 1 := by omega
              have hj3 : decide ((1 : Int) < (j : Int) + 1) = false := by simpa using hj1
              clear hz hx0
              go_wp2_with fail
              exact bodyPost_ret (v := .tuple #[.int .i64 ((j : Int) + 1), .agg #[.int .i64 0, .int .i64 0]]) (by simp [results, Try.results79, go_sem]) rfl ⟨by simp [sizeV], (Fr.refl _ _).alloc _⟩
            · have hx0' : ((xn : Int) == 0) = false := by simpa using hx0
              clear hz hx0
              go_wp2_with fail
              exact bodyPost_ret (v := .tuple #[.int .i64 ((j : Int) + 1), .agg #[.int .i64 0, .int .i64 0]]) (by simp [results, Try.results79, go_sem]) rfl ⟨by simp [sizeV], (Fr.refl _ _).alloc _⟩
          · have hx0' : ((xn : Int) == 0) = false := by
              have : ¬ xn = 0 := by omega
              simpa using this
            have h128' : ¬ ((xn : Int) < 128) := by omega
            have HNX := hideIt (show (if j + 1 = 9 then R = .error 1 else ∃ acc, scan (bs.drop (at_ + (j + 1))) (j + 1) acc = R ∧ at_ + (j + 1) ≤ bs.length) by
              have := HAC.out
              by_cases he : j + 1 = 9
              · rw [if_pos he]
                rw [if_pos ⟨by omega, he⟩] at this
                exact this.symm
              · rw [if_neg he]
                rw [if_neg (by omega), if_neg hz, if_neg h128] at this
                refine ⟨acc + xn % 128 * 128 ^ j, ?_, by omega⟩
                rw [show at_ + (j + 1) = q + 1 by omega]
                exact this)
            clear HAC hz
            go_wp2_with fail
            go_roundw
            case measure => simp [intOf]; omega
            case rel => exact ⟨j + 1, by go_num, by omega, by omega, HNX, trivial⟩

end Go.Proofs.Ytojgikaoiegmpaa

/- The document's own reader: the number at its place (peek). -/
namespace Go.Proofs.Ytojgikaoiegmpaa
open Go.RowKit Go.IntWalk
set_option linter.unusedSimpArgs false
set_option linter.unusedVariables false
set_option maxRecDepth 100000

theorem scan_back : ∀ (bs : List UInt8) (i acc n k : Nat), i ≤ 8 → scan bs i acc = .ok (n, k) → ∃ m, n = acc + m * 128 ^ i ∧ k = i + (sevens m).length ∧ bs.take (sevens m).length = sevens m ∧ (0 < i → 0 < m)
  | [], i, acc, n, k, _, h => by simp [scan] at h
  | b :: bs, i, acc, n, k, hi, h => by
    rw [scan] at h
    by_cases c1 : 128 ≤ b.toNat ∧ i + 1 = 9
    · rw [if_pos c1] at h
      cases h
    rw [if_neg c1] at h
    by_cases c2 : b.toNat = 0 ∧ 0 < i
    · rw [if_pos c2] at h
      cases h
    rw [if_neg c2] at h
    have hb : UInt8.ofNat b.toNat = b := by simp
    by_cases c3 : b.toNat < 128
    · rw [if_pos c3] at h
      have e : n = acc + b.toNat % 128 * 128 ^ i ∧ k = i + 1 := by
        injection h with h
        injection h with h1 h2
        exact ⟨h1.symm, h2.symm⟩
      refine ⟨b.toNat, by rw [e.1, Nat.mod_eq_of_lt c3], by rw [sevens_lt c3]; exact e.2, by rw [sevens_lt c3, hb]; rfl, fun h0 => ?_⟩
      rcases Nat.eq_zero_or_pos b.toNat with hz | hz
      · exact absurd ⟨hz, h0⟩ c2
      · exact hz
    · rw [if_neg c3] at h
      obtain ⟨m, h1, h2, h3, h4⟩ := scan_back bs (i + 1) _ n k (by omega) h
      have hm := h4 (by omega)
      have hlt := UInt8.toNat_lt b
      have hge : ¬ (b.toNat % 128 + 128 * m < 128) := by omega
      have hs : sevens (b.toNat % 128 + 128 * m) = b :: sevens m := by
        rw [sevens_ge hge, show (b.toNat % 128 + 128 * m) % 128 + 128 = b.toNat by omega, show (b.toNat % 128 + 128 * m) / 128 = m by omega, hb]
      refine ⟨b.toNat % 128 + 128 * m, ?_, ?_, ?_, fun _ => by omega⟩
      · rw [h1, Nat.pow_succ, Nat.add_mul, Nat.add_assoc]
        congr 2
        rw [Nat.mul_comm (128 ^ i) 128, ← Nat.mul_assoc, Nat.mul_comm m 128]
      · rw [hs, List.length_cons]
        omega
      · rw [hs, List.length_cons, List.take_succ_cons, h3]

theorem rdNum_back {bs : List UInt8} {at_ n m : Nat} {low high above : Int} (h : rdNum bs at_ low high above = .inr (n, m)) : m = at_ + (sevens n).length ∧ (bs.drop at_).take (sevens n).length = sevens n := by
  unfold rdNum at h
  split at h
  · cases h
  · cases h
  · cases h
  · rename_i n' k hs
    obtain ⟨q, h1, h2, h3, _⟩ := scan_back _ 0 0 n' k (by omega) hs
    have e1 : n' = q := by simpa using h1
    subst e1
    split at h
    · cases h
    · split at h
      · cases h
      · injection h with h
        injection h with ha hb
        subst ha
        exact ⟨by rw [← hb, h2]; omega, h3⟩
theorem rdNum_fault {bs : List UInt8} {at_ : Nat} {low high above e a : Int} (hat : at_ ≤ bs.length) (h : rdNum bs at_ low high above = .inl (e, a)) : (e = 4 ∨ e = 5 ∨ e = above) ∧ (at_ : Int) ≤ a ∧ a ≤ (bs.length : Int) := by
  unfold rdNum at h
  split at h
  · injection h with h
    injection h with h1 h2
    exact ⟨Or.inl h1.symm, by omega, by omega⟩
  · injection h with h
    injection h with h1 h2
    exact ⟨Or.inr (Or.inl h1.symm), by omega, by omega⟩
  · injection h with h
    injection h with h1 h2
    exact ⟨Or.inl h1.symm, by omega, by omega⟩
  · split at h
    · injection h with h
      injection h with h1 h2
      exact ⟨Or.inr (Or.inl h1.symm), by omega, by omega⟩
    · split at h
      · injection h with h
        injection h with h1 h2
        exact ⟨Or.inr (Or.inr h1.symm), by omega, by omega⟩
      · cases h

/-- The number that the bytes from i on say, up to k, the lowest first. -/
def high (bs : List UInt8) : Nat → Nat
  | 0 => 0
  | n + 1 => (bs.headD 0).toNat % 128 + 128 * high bs.tail n
theorem high_step (bs : List UInt8) (n i : Nat) (hi : i < n) (hn : n ≤ bs.length) : high (bs.drop i) (n - i) = (bs[i]'(by omega)).toNat % 128 + 128 * high (bs.drop (i + 1)) (n - (i + 1)) := by
  rw [show n - i = (n - (i + 1)) + 1 by omega, high, List.drop_eq_getElem_cons (by omega)]
  simp [List.getElem?_eq_getElem (show i < bs.length by omega)]
theorem scan_high : ∀ (bs : List UInt8) (i acc n k : Nat), scan bs i acc = .ok (n, k) → i < k ∧ k - i ≤ bs.length ∧ n = acc + high bs (k - i) * 128 ^ i
  | [], i, acc, n, k, h => by simp [scan] at h
  | b :: bs, i, acc, n, k, h => by
    rw [scan] at h
    by_cases c1 : 128 ≤ b.toNat ∧ i + 1 = 9
    · rw [if_pos c1] at h
      cases h
    rw [if_neg c1] at h
    by_cases c2 : b.toNat = 0 ∧ 0 < i
    · rw [if_pos c2] at h
      cases h
    rw [if_neg c2] at h
    by_cases c3 : b.toNat < 128
    · rw [if_pos c3] at h
      injection h with h
      injection h with h1 h2
      subst h1 h2
      refine ⟨by omega, by simp, ?_⟩
      rw [show i + 1 - i = 0 + 1 by omega, high]
      simp [high]
    · rw [if_neg c3] at h
      obtain ⟨h1, h2, h3⟩ := scan_high bs (i + 1) _ n k h
      refine ⟨by omega, by simp; omega, ?_⟩
      rw [h3, show k - i = (k - (i + 1)) + 1 by omega, high]
      simp only [List.headD_cons, List.tail_cons]
      rw [Nat.add_mul, Nat.pow_succ, Nat.add_assoc]
      congr 2
      rw [Nat.mul_comm (128 ^ i) 128, ← Nat.mul_assoc, Nat.mul_comm (high bs _) 128]
theorem high_lt (bs : List UInt8) : ∀ n, high bs n < 128 ^ n := by
  intro n
  induction n generalizing bs with
  | zero => simp [high]
  | succ n ih =>
    have := ih bs.tail
    rw [high, Nat.pow_succ]
    omega

theorem YAt.faulted {w : World} {p : Nat} {ao : Option Addr} {cap : Nat} {bs : List UInt8} {at_ er ea : Int} (h : YAt w p ao cap bs at_ er ea) (hap : ¬ blk ao p) (e a : Int) : YAt ((w.setCell ⟨p, 2, none⟩ (.int .i64 e)).setCell ⟨p, 3, none⟩ (.int .i64 a)) p ao cap bs at_ e a := by
  have hF : Fr (fun k => k = p) w ((w.setCell ⟨p, 2, none⟩ (.int .i64 e)).setCell ⟨p, 3, none⟩ (.int .i64 a)) := ((Fr.refl (fun k => k = p) w).setCell (p := ⟨p, 2, none⟩) (fun _ => rfl) _).setCell (p := ⟨p, 3, none⟩) (fun _ => rfl) _
  refine ⟨?_, h.bytes.fr hF (fun k _ hk e => hap (by subst e; exact hk))⟩
  rw [heap_setCell_same _ p 3 _ _ _ (heap_setCell_same w p 2 _ _ _ h.box)]
  rfl

theorem ypeek_shut (p : Nat) (ao : Option Addr) (cap : Nat) (bs : List UInt8) (at_ : Nat) (er ea low hi above : Int) (w : World) (h : YAt w p ao cap bs at_ er ea) (her : er ≠ 0) :
    Calls Try.prog 54 #[.pointer (some ⟨p, 0, none⟩), .int .i64 low, .int .i64 hi, .int .i64 above] w fun e w' => e = .returned (.tuple #[.int .i64 0, .int .i64 0]) ∧ w' = w := by
  have c2 := h.c2
  have her' : (er != 0) = true := by simpa using her
  clear her
  go_enter Try.func54, Try.ntmps54
  go_wp2
  go_ret2
  exact ⟨rfl, rfl⟩

/-- There is no number: the fault is kept. -/
theorem ypeek_none (p : Nat) (ao : Option Addr) (cap : Nat) (bs : List UInt8) (at_ : Nat) (ea low hi above e0 a0 : Int) (w : World) (h : YAt w p ao cap bs at_ 0 ea) (hap : ¬ blk ao p) (hat : at_ ≤ bs.length) (hb : bs.length ≤ 140737488355328) (hs : sizeV bs.length at_ (scan (bs.drop at_) 0 0) = (0, e0, a0)) :
    Calls Try.prog 54 #[.pointer (some ⟨p, 0, none⟩), .int .i64 low, .int .i64 hi, .int .i64 above] w fun e w' => e = .returned (.tuple #[.int .i64 0, .int .i64 0]) ∧ YAt w' p ao cap bs at_ e0 a0 ∧ Fr (fun k => k = p) w w' := by
  have HSZ := hideIt (by have := ysize_any p ao cap bs at_ 0 ea w h hat hb; rw [hs] at this; exact this)
  have c2 := h.c2
  have HY := hideIt h
  clear h hs
  go_enter Try.func54, Try.ntmps54
  go_wp2_with fail
  refine Calls.mono HSZ.out ?_
  rintro e w1 ⟨rfl, hF1⟩
  have hY1 := HY.out.fr hF1 (fun e => e) (fun _ _ _ e => e)
  have hpl1 := hY1.lt
  have d0 := hY1.c0
  have d1 := hY1.c1
  have d2 := hY1.c2
  have d3 := hY1.c3
  have z2 := frozen_of_row w1 p 2 _ _ hY1.box
  have z3 := frozen_of_row w1 p 3 _ _ hY1.box
  have HFIN := hideIt (fun (e0 a0 : Int) (o : Obj) => (hY1.faulted hap e0 a0).fr ((Fr.refl (fun _ => False) _).alloc o) (fun e => e) (fun _ _ _ e => e))
  have HFR := hideIt (fun (e0 a0 : Int) (o : Obj) => ((hF1.mono (S' := fun k => k = p) (fun _ e => e.elim)).trans (((Fr.refl (fun k => k = p) w1).setCell (p := ⟨p, 2, none⟩) (fun _ => rfl) (.int .i64 e0)).setCell (p := ⟨p, 3, none⟩) (fun _ => rfl) (.int .i64 a0)) (fun _ _ e => e)).alloc o)
  have HY1 := hideIt hY1
  have HF1 := hideIt hF1
  clear hF1 hY1
  go_wp2_with fail
  go_loopw [12, 13] (fun n i wr => n = .int .i64 0 ∧ i = .int .i64 (-1) ∧ wr = w1.alloc (.cells #[.int .i64 e0, .int .i64 a0] 28)) (fun _ _ _ => 0)
  case atStart => exact ⟨rfl, rfl, rfl⟩
  case round =>
    obtain ⟨rfl, rfl, rfl⟩ := hrel
    go_wp2_with fail
    go_ret2
    exact ⟨rfl, HFIN.out e0 a0 _, HFR.out e0 a0 _⟩

/-- There is a number: it is told, or the bounds' fault is kept. -/
def PeekPost (w : World) (p : Nat) (ao : Option Addr) (cap : Nat) (bs : List UInt8) (at_ n k : Nat) (ea low hi above : Int) (e : Ending) (w' : World) : Prop :=
  Fr (fun k => k = p) w w' ∧ if (n : Int) < low then e = .returned (.tuple #[.int .i64 0, .int .i64 0]) ∧ YAt w' p ao cap bs at_ 5 at_
    else if hi < (n : Int) then e = .returned (.tuple #[.int .i64 0, .int .i64 0]) ∧ YAt w' p ao cap bs at_ above at_
    else e = .returned (.tuple #[.int .i64 n, .int .i64 k]) ∧ YAt w' p ao cap bs at_ 0 ea

set_option maxRecDepth 100000 in
set_option maxHeartbeats 2000000 in
theorem ypeek_num (p : Nat) (ao : Option Addr) (cap : Nat) (bs : List UInt8) (at_ : Nat) (ea low hi above : Int) (n k : Nat) (w : World) (h : YAt w p ao cap bs at_ 0 ea) (hap : ¬ blk ao p) (hat : at_ ≤ bs.length) (hb : bs.length ≤ 140737488355328) (hs : scan (bs.drop at_) 0 0 = .ok (n, k)) :
    Calls Try.prog 54 #[.pointer (some ⟨p, 0, none⟩), .int .i64 low, .int .i64 hi, .int .i64 above] w (PeekPost w p ao cap bs at_ n k ea low hi above) := by
  have hso := scan_ok hs hat
  obtain ⟨hk0, hkl, hhi⟩ := scan_high _ 0 0 n k hs
  rw [Nat.sub_zero, Nat.pow_zero, Nat.mul_one, Nat.zero_add] at hhi
  rw [Nat.sub_zero, List.length_drop] at hkl
  have HSZ := hideIt (by have := ysize_any p ao cap bs at_ 0 ea w h hat hb; rw [hs] at this; simp only [sizeV] at this; exact this)
  have c2 := h.c2
  have HY := hideIt h
  have HHI := hideIt hhi
  have hk9 : k ≤ 9 := by
    have := rdNum_back (bs := bs) (at_ := at_) (n := n) (m := at_ + k) (low := 0) (high := (n : Int)) (above := 0) (by unfold rdNum; rw [hs]; simp)
    have h9 := sevens_nine (n := n) (by omega)
    omega
  clear h hs hhi
  go_enter Try.func54, Try.ntmps54
  go_wp2_with fail
  refine Calls.mono HSZ.out ?_
  rintro e w1 ⟨rfl, hF1⟩
  have hY1 := HY.out.fr hF1 (fun e => e) (fun _ _ _ e => e)
  have hpl1 := hY1.lt
  have d0 := hY1.c0
  have d1 := hY1.c1
  have d2 := hY1.c2
  have d3 := hY1.c3
  have z2 := frozen_of_row w1 p 2 _ _ hY1.box
  have z3 := frozen_of_row w1 p 3 _ _ hY1.box
  have HFIN := hideIt (fun (e0 a0 : Int) (o : Obj) => (hY1.faulted hap e0 a0).fr ((Fr.refl (fun _ => False) _).alloc o) (fun e => e) (fun _ _ _ e => e))
  have HFR := hideIt (fun (e0 a0 : Int) (o : Obj) => ((hF1.mono (S' := fun k => k = p) (fun _ e => e.elim)).trans (((Fr.refl (fun k => k = p) w1).setCell (p := ⟨p, 2, none⟩) (fun _ => rfl) (.int .i64 e0)).setCell (p := ⟨p, 3, none⟩) (fun _ => rfl) (.int .i64 a0)) (fun _ _ e => e)).alloc o)
  have HY1 := hideIt hY1
  have HF1 := hideIt hF1
  clear hF1 hY1
  have hk0' : ((k : Int) == 0) = false := by
    have : ¬ k = 0 := by omega
    simpa using this
  go_wp2_with fail
  go_loopw [12, 13] (fun v i wr => ∃ m d : Nat, m ≤ k ∧ i = .int .i64 ((m : Int) - 1) ∧ v = .int .i64 (high (bs.drop (at_ + m)) (k - m) : Nat) ∧ wr = (w1.alloc (.cells #[.int .i64 0, .int .i64 0] 28)).drewN d) (fun _ i _ => (intOf i + 1).toNat)
  case atStart => exact ⟨k, 0, Nat.le_refl _, rfl, by rw [Nat.sub_self]; rfl, rfl⟩
  case round =>
    obtain ⟨m, d, hm, rfl, rfl, rfl⟩ := hrel
    by_cases h0 : 0 < m
    · have hlt : at_ + (m - 1) < bs.length := by omega
      obtain ⟨b, off, rfl, hcell⟩ : ∃ b off, ao = some ⟨b, off, none⟩ ∧ w1.cell? ⟨b, off + (at_ + (m - 1)), none⟩ = some (.int .u8 (bs[at_ + (m - 1)].toNat : Int)) := by
        rcases HY1.out.bytes with ⟨_, h0⟩ | ⟨b, off, e, hc⟩
        · rw [h0] at hlt
          exact absurd hlt (by simp)
        · exact ⟨b, off, e, hc _ hlt⟩
      have hbl := block_lt_of_cell hcell
      have hst := high_step (bs.drop at_) k (m - 1) (by omega) (by rw [List.length_drop]; omega)
      rw [List.drop_drop, List.drop_drop, List.getElem_drop, show m - 1 + 1 = m by omega] at hst
      have hlo := high_lt (bs.drop (at_ + m)) (k - m)
      have hpw : 128 ^ (k - m) ≤ 128 ^ 8 := Nat.pow_le_pow_right (by decide) (by omega)
      have h88 : (128 : Nat) ^ 8 = 72057594037927936 := by decide
      have hx := UInt8.toNat_lt bs[at_ + (m - 1)]
      have HST := hideIt hst
      clear hst
      generalize high (bs.drop (at_ + m)) (k - m) = q at *
      generalize bs[at_ + (m - 1)] = x at *
      have hq : q < 72057594037927936 := by omega
      have hm1 : (0 : Int) ≤ (m : Int) - 1 := by omega
      have hm2 : (1 : Int) ≤ (m : Int) := by omega
      have hidx : (at_ : Int) + ((m : Int) - 1) = ((at_ + (m - 1) : Nat) : Int) := by omega
      generalize hQ : at_ + (m - 1) = Q at *
      clear hlo hpw h88
      go_wp2_with fail
      go_quiet (fail)
      go_wp2_with fail
      exact ⟨⟨m - 1, d + nq, by omega, by congr 1; omega, by rw [hQ, HST.out]; congr 1; omega, rfl⟩, by simp [intOf]; omega⟩
    · have hm0 : m = 0 := by omega
      have HV := hideIt (show high (bs.drop (at_ + m)) (k - m) = n by rw [hm0, Nat.add_zero, Nat.sub_zero]; exact HHI.out.symm)
      rw [HV.out]
      have hneg : ¬ ((0 : Int) ≤ (m : Int) - 1) := by omega
      have hneg2 : ¬ ((1 : Int) ≤ (m : Int)) := by omega
      have HYD := hideIt (HY1.out.fr (((Fr.refl (fun _ => False) w1).alloc (.cells #[.int .i64 0, .int .i64 0] 28)).drewN d) (fun e => e) (fun _ _ _ e => e))
      have HZD := hideIt (((HF1.out.alloc (.cells #[.int .i64 0, .int .i64 0] 28)).drewN d).mono (S' := fun k => k = p) (fun _ e => e.elim))
      have HFD := hideIt (fun (e0 a0 : Int) => HYD.out.faulted hap e0 a0)
      have HRD := hideIt (fun (e0 a0 : Int) => (HZD.out.setCell (p := ⟨p, 2, none⟩) (fun _ => rfl) (.int .i64 e0)).setCell (p := ⟨p, 3, none⟩) (fun _ => rfl) (.int .i64 a0))
      clear hm0 HV HFIN HFR HY1 HF1 HHI HY HSZ
      by_cases hlow : (n : Int) < low
      · have HP := hideIt (show ∀ e w', Fr (fun k => k = p) w w' → e = .returned (.tuple #[.int .i64 0, .int .i64 0]) → YAt w' p ao cap bs at_ 5 at_ → PeekPost w p ao cap bs at_ n k ea low hi above e w' from fun e w' h1 h2 h3 => ⟨h1, by rw [if_pos hlow]; exact ⟨h2, h3⟩⟩)
        go_wp2_with fail
        go_ret2
        exact HP.out _ _ (HRD.out 5 at_) rfl (HFD.out 5 at_)
      · by_cases hhigh : hi < (n : Int)
        · have HP := hideIt (show ∀ e w', Fr (fun k => k = p) w w' → e = .returned (.tuple #[.int .i64 0, .int .i64 0]) → YAt w' p ao cap bs at_ above at_ → PeekPost w p ao cap bs at_ n k ea low hi above e w' from fun e w' h1 h2 h3 => ⟨h1, by rw [if_neg hlow, if_pos hhigh]; exact ⟨h2, h3⟩⟩)
          go_wp2_with fail
          go_ret2
          exact HP.out _ _ (HRD.out above at_) rfl (HFD.out above at_)
        · have HP := hideIt (show ∀ e w', Fr (fun k => k = p) w w' → e = .returned (.tuple #[.int .i64 n, .int .i64 k]) → YAt w' p ao cap bs at_ 0 ea → PeekPost w p ao cap bs at_ n k ea low hi above e w' from fun e w' h1 h2 h3 => ⟨h1, by rw [if_neg hlow, if_neg hhigh]; exact ⟨h2, h3⟩⟩)
          go_wp2_with fail
          go_ret2
          exact HP.out _ _ HZD.out rfl HYD.out

end Go.Proofs.Ytojgikaoiegmpaa

/- The document's own reader: numbers. -/
namespace Go.Proofs.Ytojgikaoiegmpaa
open Go.RowKit Go.IntWalk
set_option linter.unusedSimpArgs false
set_option linter.unusedVariables false
set_option maxRecDepth 100000

/-- The document's reader, by its place and its fault; it is apart from the bytes that it reads. -/
def YOk (w : World) (p : Nat) (ao : Option Addr) (cap : Nat) (bs : List UInt8) (s : Nat × Int × Int) : Prop := YAt w p ao cap bs s.1 s.2.1 s.2.2 ∧ ¬ blk ao p ∧ s.1 ≤ bs.length

/-- What peek tells, and the fault behind it. -/
def yPeek (bs : List UInt8) (low hi above : Int) (s : Nat × Int × Int) : (Int × Int) × (Nat × Int × Int) :=
  if s.2.1 ≠ 0 then ((0, 0), s) else match rdNum bs s.1 low hi above with
    | .inl (e, a) => ((0, 0), (s.1, e, a))
    | .inr (n, m) => ((n, (m : Int) - s.1), (s.1, 0, s.2.2))

theorem ypeek_any (p : Nat) (ao : Option Addr) (cap : Nat) (bs : List UInt8) (s : Nat × Int × Int) (low hi above : Int) (w : World) (h : YOk w p ao cap bs s) (hb : bs.length ≤ 140737488355328) :
    Calls Try.prog 54 #[.pointer (some ⟨p, 0, none⟩), .int .i64 low, .int .i64 hi, .int .i64 above] w fun e w' => e = .returned (.tuple #[.int .i64 (yPeek bs low hi above s).1.1, .int .i64 (yPeek bs low hi above s).1.2]) ∧ YOk w' p ao cap bs (yPeek bs low hi above s).2 ∧ Fr (fun k => k = p) w w' := by
  obtain ⟨at_, er, ea⟩ := s
  obtain ⟨hY, hap, hat⟩ := h
  simp only at hY hat
  unfold yPeek
  by_cases her : er = 0
  · subst her
    simp only [ne_eq, not_true_eq_false, if_false]
    cases hs : scan (bs.drop at_) 0 0 with
    | error x =>
      obtain ⟨e0, a0, h1, h2⟩ : ∃ e0 a0, sizeV bs.length at_ (scan (bs.drop at_) 0 0) = (0, e0, a0) ∧ rdNum bs at_ low hi above = .inl (e0, a0) := by
        unfold rdNum
        rw [hs]
        match x with
        | 0 => exact ⟨_, _, rfl, rfl⟩
        | 1 => exact ⟨_, _, rfl, rfl⟩
        | n + 2 => exact ⟨_, _, rfl, rfl⟩
      rw [h2]
      refine (ypeek_none p ao cap bs at_ ea low hi above e0 a0 w hY hap hat hb h1).mono ?_
      rintro e w' ⟨rfl, hY', hF⟩
      exact ⟨rfl, ⟨hY', hap, hat⟩, hF⟩
    | ok nk =>
      obtain ⟨n, k⟩ := nk
      refine (ypeek_num p ao cap bs at_ ea low hi above n k w hY hap hat hb hs).mono ?_
      rintro e w' ⟨hF, hp⟩
      unfold rdNum
      rw [hs]
      simp only
      split at hp
      · rename_i h1
        rw [if_pos h1]
        exact ⟨hp.1, ⟨hp.2, hap, hat⟩, hF⟩
      · rename_i h1
        rw [if_neg h1]
        split at hp
        · rename_i h2
          rw [if_pos h2]
          exact ⟨hp.1, ⟨hp.2, hap, hat⟩, hF⟩
        · rename_i h2
          rw [if_neg h2]
          refine ⟨?_, ⟨hp.2, hap, hat⟩, hF⟩
          rw [hp.1]
          simp
          omega
  · simp only [ne_eq, her, not_false_eq_true, if_true]
    refine (ypeek_shut p ao cap bs at_ er ea low hi above w hY her).mono ?_
    rintro e w' ⟨rfl, rfl⟩
    exact ⟨rfl, ⟨hY, hap, hat⟩, Fr.refl _ _⟩

theorem YAt.moved {w : World} {p : Nat} {ao : Option Addr} {cap : Nat} {bs : List UInt8} {at_ er ea : Int} (h : YAt w p ao cap bs at_ er ea) (hap : ¬ blk ao p) (n : Int) : YAt (w.setCell ⟨p, 1, none⟩ (.int .i64 n)) p ao cap bs n er ea := by
  have hF : Fr (fun k => k = p) w (w.setCell ⟨p, 1, none⟩ (.int .i64 n)) := (Fr.refl (fun k => k = p) w).setCell (p := ⟨p, 1, none⟩) (fun _ => rfl) _
  refine ⟨?_, h.bytes.fr hF (fun k _ hk e => hap (by subst e; exact hk))⟩
  rw [heap_setCell_same w p 1 _ _ _ h.box]
  rfl

theorem yint_any (p : Nat) (ao : Option Addr) (cap : Nat) (bs : List UInt8) (s : Nat × Int × Int) (low hi : Int) (w : World) (h : YOk w p ao cap bs s) (hb : bs.length ≤ 140737488355328) :
    Calls Try.prog 55 #[.pointer (some ⟨p, 0, none⟩), .int .i64 low, .int .i64 hi] w fun e w' => e = .returned (.int .i64 (rInt bs low hi s).1) ∧ YOk w' p ao cap bs (rInt bs low hi s).2 ∧ Fr (fun k => k = p) w w' := by
  have HPK := hideIt (ypeek_any p ao cap bs s low hi 5 w h hb)
  obtain ⟨v, k, at_, er, ea, hv, hr1, hr2⟩ : ∃ (v k : Int) (at_ : Nat) (er ea : Int), yPeek bs low hi 5 s = ((v, k), (at_, er, ea)) ∧ (rInt bs low hi s).1 = v ∧ ∃ m : Nat, (rInt bs low hi s).2 = (m, er, ea) ∧ (at_ : Int) + k = m ∧ m ≤ bs.length := by
    obtain ⟨a0, e0, f0⟩ := s
    obtain ⟨hY, hap, hat⟩ := h
    simp only at hat
    by_cases her : e0 = 0
    · subst her
      cases hn : rdNum bs a0 low hi 5 with
      | inl f => exact ⟨0, 0, a0, f.1, f.2, by simp [yPeek, hn], by simp [rInt, hn], a0, by simp [rInt, hn], by omega, hat⟩
      | inr f =>
        have hle := rdNum_le hn hat
        exact ⟨f.1, (f.2 : Int) - a0, a0, 0, f0, by simp [yPeek, hn], by simp [rInt, hn], f.2, by simp [rInt, hn], by omega, hle⟩
    · exact ⟨0, 0, a0, e0, f0, by simp [yPeek, her], by simp [rInt, her], a0, by simp [rInt, her], by omega, hat⟩
  obtain ⟨m, hr2, hm, hml⟩ := hr2
  rw [hv] at HPK
  rw [hr1, hr2]
  clear hv hr1 hr2 h
  simp only at HPK
  have hkb : -140737488355328 ≤ k ∧ k ≤ 140737488355328 ∨ True := Or.inr trivial
  clear hkb
  go_enter Try.func55, Try.ntmps55
  go_wp2_with fail
  refine Calls.mono HPK.out ?_
  rintro e w1 ⟨rfl, ⟨hY1, hap1, hat1⟩, hF1⟩
  simp only at hY1 hat1
  have c1 := hY1.c1
  have hz := frozen_of_row w1 p 1 _ _ hY1.box
  have hpl := hY1.lt
  have hwr : IntKind.i64.wrap ((at_ : Int) + k) = (m : Int) := by rw [IntKind.wrap_i64]; omega
  have hwr2 : wrap64 ((at_ : Int) + k) = (m : Int) := by simp only [wrap64]; omega
  have HFIN := hideIt (hY1.moved hap1 m)
  have HFR := hideIt (hF1.setCell (p := ⟨p, 1, none⟩) (fun _ => rfl) (.int .i64 (m : Int)))
  have HML := hideIt hml
  clear hF1 hY1 hm hml
  go_wp2_with fail
  go_ret
  exact ⟨rfl, ⟨HFIN.out, hap1, HML.out⟩, HFR.out⟩

theorem ycount_any (p : Nat) (ao : Option Addr) (cap : Nat) (bs : List UInt8) (s : Nat × Int × Int) (most : Int) (w : World) (h : YOk w p ao cap bs s) (hb : bs.length ≤ 140737488355328) :
    Calls Try.prog 31 #[.pointer (some ⟨p, 0, none⟩), .int .i64 most] w fun e w' => e = .returned (.int .i64 (rCount bs most s).1) ∧ YOk w' p ao cap bs (rCount bs most s).2 ∧ Fr (fun k => k = p) w w' := by
  have HPK := hideIt (ypeek_any p ao cap bs s 0 most 3 w h hb)
  obtain ⟨v, k, at_, er, ea, hv, hr1, hr2⟩ : ∃ (v k : Int) (at_ : Nat) (er ea : Int), yPeek bs 0 most 3 s = ((v, k), (at_, er, ea)) ∧ (rCount bs most s).1 = v ∧ ∃ m : Nat, (rCount bs most s).2 = (m, er, ea) ∧ (at_ : Int) + k = m ∧ m ≤ bs.length := by
    obtain ⟨a0, e0, f0⟩ := s
    obtain ⟨hY, hap, hat⟩ := h
    simp only at hat
    by_cases her : e0 = 0
    · subst her
      cases hn : rdNum bs a0 0 most 3 with
      | inl f => exact ⟨0, 0, a0, f.1, f.2, by simp [yPeek, hn], by simp [rCount, hn], a0, by simp [rCount, hn], by omega, hat⟩
      | inr f =>
        have hle := rdNum_le hn hat
        exact ⟨f.1, (f.2 : Int) - a0, a0, 0, f0, by simp [yPeek, hn], by simp [rCount, hn], f.2, by simp [rCount, hn], by omega, hle⟩
    · exact ⟨0, 0, a0, e0, f0, by simp [yPeek, her], by simp [rCount, her], a0, by simp [rCount, her], by omega, hat⟩
  obtain ⟨m, hr2, hm, hml⟩ := hr2
  rw [hv] at HPK
  rw [hr1, hr2]
  clear hv hr1 hr2 h
  simp only at HPK
  have hkb : -140737488355328 ≤ k ∧ k ≤ 140737488355328 ∨ True := Or.inr trivial
  clear hkb
  go_enter Try.func31, Try.ntmps31
  go_wp2_with fail
  refine Calls.mono HPK.out ?_
  rintro e w1 ⟨rfl, ⟨hY1, hap1, hat1⟩, hF1⟩
  simp only at hY1 hat1
  have c1 := hY1.c1
  have hz := frozen_of_row w1 p 1 _ _ hY1.box
  have hpl := hY1.lt
  have hwr : IntKind.i64.wrap ((at_ : Int) + k) = (m : Int) := by rw [IntKind.wrap_i64]; omega
  have hwr2 : wrap64 ((at_ : Int) + k) = (m : Int) := by simp only [wrap64]; omega
  have HFIN := hideIt (hY1.moved hap1 m)
  have HFR := hideIt (hF1.setCell (p := ⟨p, 1, none⟩) (fun _ => rfl) (.int .i64 (m : Int)))
  have HML := hideIt hml
  clear hF1 hY1 hm hml
  go_wp2_with fail
  go_ret
  exact ⟨rfl, ⟨HFIN.out, hap1, HML.out⟩, HFR.out⟩

end Go.Proofs.Ytojgikaoiegmpaa

/- The document's own reader: bytes that are passed over, texts. -/
namespace Go.Proofs.Ytojgikaoiegmpaa
open Go.RowKit Go.IntWalk
set_option linter.unusedSimpArgs false
set_option linter.unusedVariables false
set_option maxRecDepth 100000

section
variable (p : Nat) (ao : Option Addr) (cap : Nat) (bs : List UInt8) (at_ : Nat) (er ea k n : Int) (w : World)
theorem ypass_shut (h : YAt w p ao cap bs at_ er ea) (her : er ≠ 0) (hk : 0 ≤ k) (hk2 : k ≤ 140737488355328) (hat : at_ ≤ 140737488355328) :
    Calls Try.prog 80 #[.pointer (some ⟨p, 0, none⟩), .int .i64 k, .int .i64 n] w fun e w' => e = .returned (.slice none 0 0) ∧ w' = w := by
  have c1 := h.c1
  have c2 := h.c2
  have her' : (er != 0) = true := by simpa using her
  clear her
  go_enter Try.func80, Try.ntmps80
  go_wp2
  go_ret
  exact ⟨rfl, rfl⟩

theorem ypass_long (h : YAt w p ao cap bs at_ 0 ea) (hap : ¬ blk ao p) (f : Nat) (hf : (at_ : Int) + k = f) (hfl : f ≤ bs.length) (hb : bs.length ≤ 140737488355328) (hn : (bs.length : Int) - f < n) :
    Calls Try.prog 80 #[.pointer (some ⟨p, 0, none⟩), .int .i64 k, .int .i64 n] w fun e w' => e = .returned (.slice none 0 0) ∧ YAt w' p ao cap bs at_ 4 bs.length ∧ Fr (fun k => k = p) w w' := by
  have c0 := h.c0
  have c1 := h.c1
  have c2 := h.c2
  have c3 := h.c3
  have hpl := h.lt
  have z2 := frozen_of_row w p 2 _ _ h.box
  have z3 := frozen_of_row w p 3 _ _ h.box
  have hwr : IntKind.i64.wrap ((at_ : Int) + k) = (f : Int) := by rw [IntKind.wrap_i64]; omega
  have hwr2 : wrap64 ((at_ : Int) + k) = (f : Int) := by simp only [wrap64]; omega
  have HFIN := hideIt (h.faulted hap 4 bs.length)
  have HFR := hideIt (((Fr.refl (fun k => k = p) w).setCell (p := ⟨p, 2, none⟩) (fun _ => rfl) (.int .i64 4)).setCell (p := ⟨p, 3, none⟩) (fun _ => rfl) (.int .i64 (bs.length : Int)))
  clear h hf
  go_enter Try.func80, Try.ntmps80
  go_wp2_with fail
  go_ret
  exact ⟨rfl, HFIN.out, HFR.out⟩

theorem ypass_ok (h : YAt w p ao cap bs at_ 0 ea) (hap : ¬ blk ao p) (f m : Nat) (hf : (at_ : Int) + k = f) (hm : n = (m : Int)) (hfm : f + m ≤ bs.length) (hb : bs.length ≤ 140737488355328) (hcl : bs.length ≤ cap) (hcm : cap ≤ maxLen) (hne0 : ao ≠ none) :
    Calls Try.prog 80 #[.pointer (some ⟨p, 0, none⟩), .int .i64 k, .int .i64 n] w fun e w' => ∃ ao' cap', e = .returned (.slice ao' m cap') ∧ BsAt w' ao' ((bs.drop f).take m) ∧ YAt w' p ao cap bs ((f : Int) + m) 0 ea ∧ Fr (fun k => k = p) w w' := by
  subst hm
  have c0 := h.c0
  have c1 := h.c1
  have c2 := h.c2
  have hpl := h.lt
  have z1 := frozen_of_row w p 1 _ _ h.box
  unfold maxLen at hcm
  have hwr : IntKind.i64.wrap ((at_ : Int) + k) = (f : Int) := by rw [IntKind.wrap_i64]; omega
  have hwr2 : wrap64 ((at_ : Int) + k) = (f : Int) := by simp only [wrap64]; omega
  have hy := h.moved hap ((f + m : Nat) : Int)
  have hF : Fr (fun k => k = p) w (w.setCell ⟨p, 1, none⟩ (.int .i64 ((f + m : Nat) : Int))) := (Fr.refl (fun k => k = p) w).setCell (p := ⟨p, 1, none⟩) (fun _ => rfl) _
  have hng : ¬ ((bs.length : Int) - f < m) := by omega
  have ecast : ((f + m : Nat) : Int) = (f : Int) + m := by omega
  rw [ecast] at hy hF
  rcases h.bytes with ⟨rfl, rfl⟩ | ⟨b, off, rfl, hc⟩
  · exact absurd rfl hne0
  · have hbs : BsAt (w.setCell ⟨p, 1, none⟩ (.int .i64 ((f : Int) + m))) (some ⟨b, off + f, none⟩) ((bs.drop f).take m) := by
      refine Or.inr ⟨b, off + f, rfl, fun j hj => ?_⟩
      have hj' : j < m := by simp at hj; omega
      have hne : b ≠ p := fun e => hap ⟨_, rfl, e⟩
      have h1 := hc (f + j) (by omega)
      rw [← Nat.add_assoc] at h1
      have h2 := (World.cell?_of_block (a := ⟨b, off + f + j, none⟩) (hF.block b (block_lt_of_cell h1) hne)).trans h1
      rw [h2]
      simp
    have HBS := hideIt hbs
    have HY := hideIt hy
    have HF := hideIt hF
    clear hy hF h hf hbs hne0
    by_cases hcf : f = cap
    · subst hcf
      have hm0 : m = 0 := by omega
      have HB0 := hideIt (show BsAt (w.setCell ⟨p, 1, none⟩ (.int .i64 ((f : Int) + m))) (some ⟨b, off, none⟩) ((bs.drop f).take m) from Or.inr ⟨b, off, rfl, fun j hj => by rw [hm0] at hj; simp at hj⟩)
      clear hm0
      go_enter Try.func80, Try.ntmps80
      go_wp2_with fail
      all_goals go_ret
      all_goals first | exact ⟨_, ⟨_, rfl⟩, HB0.out, HY.out, HF.out⟩ | exact ⟨_, ⟨_, rfl⟩, HBS.out, HY.out, HF.out⟩
    · go_enter Try.func80, Try.ntmps80
      go_wp2_with fail
      all_goals go_ret
      all_goals exact ⟨_, ⟨_, rfl⟩, HBS.out, HY.out, HF.out⟩
theorem ypass_ok2 (h : YAt w p ao cap bs at_ 0 ea) (hap : ¬ blk ao p) (f m : Nat) (hf : (at_ : Int) + k = f) (hm : n = (m : Int)) (hfm : f + m ≤ bs.length) (hb : bs.length ≤ 140737488355328) (hcl : bs.length ≤ cap) (hcm : cap ≤ maxLen) (hne0 : ao ≠ none) :
    Calls Try.prog 80 #[.pointer (some ⟨p, 0, none⟩), .int .i64 k, .int .i64 n] w fun e w' => ∃ ao' cap', e = .returned (.slice ao' m cap') ∧ BsAt w' ao' ((bs.drop f).take m) ∧ YAt w' p ao cap bs ((f : Int) + m) 0 ea ∧ Fr (fun k => k = p) w w' ∧ ∀ k, blk ao' k → blk ao k := by
  subst hm
  have c0 := h.c0
  have c1 := h.c1
  have c2 := h.c2
  have hpl := h.lt
  have z1 := frozen_of_row w p 1 _ _ h.box
  unfold maxLen at hcm
  have hwr : IntKind.i64.wrap ((at_ : Int) + k) = (f : Int) := by rw [IntKind.wrap_i64]; omega
  have hwr2 : wrap64 ((at_ : Int) + k) = (f : Int) := by simp only [wrap64]; omega
  have hy := h.moved hap ((f + m : Nat) : Int)
  have hF : Fr (fun k => k = p) w (w.setCell ⟨p, 1, none⟩ (.int .i64 ((f + m : Nat) : Int))) := (Fr.refl (fun k => k = p) w).setCell (p := ⟨p, 1, none⟩) (fun _ => rfl) _
  have hng : ¬ ((bs.length : Int) - f < m) := by omega
  have ecast : ((f + m : Nat) : Int) = (f : Int) + m := by omega
  rw [ecast] at hy hF
  rcases h.bytes with ⟨rfl, rfl⟩ | ⟨b, off, rfl, hc⟩
  · exact absurd rfl hne0
  · have hbs : BsAt (w.setCell ⟨p, 1, none⟩ (.int .i64 ((f : Int) + m))) (some ⟨b, off + f, none⟩) ((bs.drop f).take m) := by
      refine Or.inr ⟨b, off + f, rfl, fun j hj => ?_⟩
      have hj' : j < m := by simp at hj; omega
      have hne : b ≠ p := fun e => hap ⟨_, rfl, e⟩
      have h1 := hc (f + j) (by omega)
      rw [← Nat.add_assoc] at h1
      have h2 := (World.cell?_of_block (a := ⟨b, off + f + j, none⟩) (hF.block b (block_lt_of_cell h1) hne)).trans h1
      rw [h2]
      simp
    have HBS := hideIt hbs
    have HY := hideIt hy
    have HF := hideIt hF
    clear hy hF h hf hbs hne0
    by_cases hcf : f = cap
    · subst hcf
      have hm0 : m = 0 := by omega
      have HB0 := hideIt (show BsAt (w.setCell ⟨p, 1, none⟩ (.int .i64 ((f : Int) + m))) (some ⟨b, off, none⟩) ((bs.drop f).take m) from Or.inr ⟨b, off, rfl, fun j hj => by rw [hm0] at hj; simp at hj⟩)
      clear hm0
      go_enter Try.func80, Try.ntmps80
      go_wp2_with fail
      all_goals go_ret
      all_goals first | exact ⟨_, ⟨_, rfl⟩, HB0.out, HY.out, HF.out, fun k ⟨_, e, e2⟩ => by obtain rfl := Option.some.inj e; exact ⟨_, rfl, e2⟩⟩ | exact ⟨_, ⟨_, rfl⟩, HBS.out, HY.out, HF.out, fun k ⟨_, e, e2⟩ => by obtain rfl := Option.some.inj e; exact ⟨_, rfl, e2⟩⟩
    · go_enter Try.func80, Try.ntmps80
      go_wp2_with fail
      all_goals go_ret
      all_goals exact ⟨_, ⟨_, rfl⟩, HBS.out, HY.out, HF.out, fun k ⟨_, e, e2⟩ => by obtain rfl := Option.some.inj e; exact ⟨_, rfl, e2⟩⟩
end

end Go.Proofs.Ytojgikaoiegmpaa

/- The document's own reader: texts, what is left, the end. -/
namespace Go.Proofs.Ytojgikaoiegmpaa
open Go.RowKit Go.IntWalk
set_option linter.unusedSimpArgs false
set_option linter.unusedVariables false
set_option maxRecDepth 100000

/-- Text, out of what peek and pass do. -/
theorem ytext_via (p : Nat) (most v k : Int) (x : List UInt8) (w : World) (R : World → Prop)
    (hpk : Calls Try.prog 54 #[.pointer (some ⟨p, 0, none⟩), .int .i64 0, .int .i64 most, .int .i64 3] w fun e w1 => e = .returned (.tuple #[.int .i64 v, .int .i64 k]) ∧
      Calls Try.prog 80 #[.pointer (some ⟨p, 0, none⟩), .int .i64 k, .int .i64 v] w1 fun e2 w2 => ∃ ao' cap', e2 = .returned (.slice ao' x.length cap') ∧ BsAt w2 ao' x ∧ R w2) :
    Calls Try.prog 58 #[.pointer (some ⟨p, 0, none⟩), .int .i64 most] w fun e w' => e = .returned (.string ⟨x.toArray⟩) ∧ R w' := by
  have HPK := hideIt hpk
  clear hpk
  go_enter Try.func58, Try.ntmps58
  go_wp2_with fail
  refine Calls.mono HPK.out ?_
  rintro e w1 ⟨rfl, hps⟩
  have HPS := hideIt hps
  clear hps
  go_wp2_with fail
  refine Calls.mono HPS.out ?_
  rintro e w2 ⟨ao', cap', rfl, hbs, hR⟩
  have hcv := hbs.conv cap'
  have HR := hideIt hR
  clear hbs hR
  go_wp2_with fail
  go_ret
  exact ⟨rfl, HR.out⟩

theorem ytext_any (p : Nat) (ao : Option Addr) (cap : Nat) (bs : List UInt8) (s : Nat × Int × Int) (most : Int) (w : World) (h : YOk w p ao cap bs s) (hb : bs.length ≤ 140737488355328) (hcl : bs.length ≤ cap) (hcm : cap ≤ maxLen) :
    Calls Try.prog 58 #[.pointer (some ⟨p, 0, none⟩), .int .i64 most] w fun e w' => e = .returned (.string ⟨(rText bs most s).1.toArray⟩) ∧ YOk w' p ao cap bs (rText bs most s).2 ∧ Fr (fun k => k = p) w w' := by
  have hpk := ypeek_any p ao cap bs s 0 most 3 w h hb
  obtain ⟨at_, er, ea⟩ := s
  obtain ⟨hY, hap, hat⟩ := h
  simp only at hY hat
  by_cases her : er = 0
  · subst her
    cases hn : rdNum bs at_ 0 most 3 with
    | inl f =>
      obtain ⟨e0, a0⟩ := f
      obtain ⟨he, _, _⟩ := rdNum_fault hat hn
      have e1 : yPeek bs 0 most 3 (at_, 0, ea) = ((0, 0), (at_, e0, a0)) := by simp [yPeek, hn]
      have e2 : rText bs most (at_, 0, ea) = ([], (at_, e0, a0)) := by simp [rText, rdText, hn]
      rw [e1] at hpk
      rw [e2]
      refine ytext_via p most 0 0 [] w (fun w' => YOk w' p ao cap bs (at_, e0, a0) ∧ Fr (fun k => k = p) w w') (hpk.mono ?_)
      rintro e w1 ⟨rfl, ⟨hY1, _, _⟩, hF1⟩
      simp only at hY1
      refine ⟨rfl, (ypass_shut p ao cap bs at_ e0 a0 0 0 w1 hY1 (by omega) (by omega) (by omega) (by omega)).mono ?_⟩
      rintro e w2 ⟨rfl, rfl⟩
      exact ⟨none, 0, rfl, Or.inl ⟨rfl, rfl⟩, ⟨hY1, hap, hat⟩, hF1⟩
    | inr f =>
      obtain ⟨n, m⟩ := f
      have hro := rdNum_room hn hat
      have e1 : yPeek bs 0 most 3 (at_, 0, ea) = (((n : Int), (m : Int) - at_), (at_, 0, ea)) := by simp [yPeek, hn]
      rw [e1] at hpk
      by_cases hl : bs.length < m + n
      · have e2 : rText bs most (at_, 0, ea) = ([], (at_, 4, (bs.length : Int))) := by simp [rText, rdText, hn, hl]
        rw [e2]
        refine ytext_via p most n ((m : Int) - at_) [] w (fun w' => YOk w' p ao cap bs (at_, 4, (bs.length : Int)) ∧ Fr (fun k => k = p) w w') (hpk.mono ?_)
        rintro e w1 ⟨rfl, ⟨hY1, _, _⟩, hF1⟩
        simp only at hY1
        refine ⟨rfl, (ypass_long p ao cap bs at_ ea ((m : Int) - at_) n w1 hY1 hap m (by omega) (by omega) hb (by omega)).mono ?_⟩
        rintro e w2 ⟨rfl, hY2, hF2⟩
        exact ⟨none, 0, rfl, Or.inl ⟨rfl, rfl⟩, ⟨hY2, hap, hat⟩, hF1.trans hF2 (fun _ _ e => e)⟩
      · have e2 : rText bs most (at_, 0, ea) = ((bs.drop m).take n, (m + n, 0, ea)) := by simp [rText, rdText, hn, hl]
        rw [e2]
        have hxl : ((bs.drop m).take n).length = n := by simp; omega
        refine ytext_via p most n ((m : Int) - at_) ((bs.drop m).take n) w (fun w' => YOk w' p ao cap bs (m + n, 0, ea) ∧ Fr (fun k => k = p) w w') (hpk.mono ?_)
        rintro e w1 ⟨rfl, ⟨hY1, _, _⟩, hF1⟩
        simp only at hY1
        have hne : ao ≠ none := by
          rintro rfl
          rcases hY1.bytes with ⟨_, e⟩ | ⟨_, _, e, _⟩
          · rw [e] at hro
            simp at hro
            omega
          · cases e
        refine ⟨rfl, (ypass_ok p ao cap bs at_ ea ((m : Int) - at_) n w1 hY1 hap m n (by omega) rfl (by omega) hb hcl hcm hne).mono ?_⟩
        rintro e w2 ⟨ao', cap', rfl, hB2, hY2, hF2⟩
        refine ⟨ao', cap', by rw [hxl], hB2, ⟨?_, hap, by simp only; omega⟩, hF1.trans hF2 (fun _ _ e => e)⟩
        simpa using hY2
  · have e1 : yPeek bs 0 most 3 (at_, er, ea) = ((0, 0), (at_, er, ea)) := by simp [yPeek, her]
    have e2 : rText bs most (at_, er, ea) = ([], (at_, er, ea)) := by simp [rText, her]
    rw [e1] at hpk
    rw [e2]
    refine ytext_via p most 0 0 [] w (fun w' => YOk w' p ao cap bs (at_, er, ea) ∧ Fr (fun k => k = p) w w') (hpk.mono ?_)
    rintro e w1 ⟨rfl, ⟨hY1, _, _⟩, hF1⟩
    simp only at hY1
    refine ⟨rfl, (ypass_shut p ao cap bs at_ er ea 0 0 w1 hY1 her (by omega) (by omega) (by omega)).mono ?_⟩
    rintro e w2 ⟨rfl, rfl⟩
    exact ⟨none, 0, rfl, Or.inl ⟨rfl, rfl⟩, ⟨hY1, hap, hat⟩, hF1⟩

theorem yopen_any (ao : Option Addr) (cap : Nat) (bs : List UInt8) (w : World) (h : BsAt w ao bs) (hlt : ∀ k, blk ao k → k < w.heap.size) :
    Calls Try.prog 30 #[.slice ao bs.length cap] w fun e w' => e = .returned (.pointer (some ⟨w.heap.size, 0, none⟩)) ∧ YOk w' w.heap.size ao cap bs (0, 0, 0) ∧ Fr (fun _ => False) w w' ∧ w'.heap.size = w.heap.size + 1 := by
  go_enter Try.func30, Try.ntmps30
  go_wp2
  go_ret
  have hF : Fr (fun _ => False) w (w.alloc (.cells #[.slice ao bs.length cap, .int .i64 0, .int .i64 0, .int .i64 0] 63)) := (Fr.refl _ _).alloc _
  exact ⟨rfl, ⟨⟨heap_new rfl, h.fr hF (fun _ _ _ e => e)⟩, fun e => by have := hlt _ e; omega, Nat.zero_le _⟩, hF, by simp⟩


end Go.Proofs.Ytojgikaoiegmpaa

/- Code: the document's Read: its reader beside the instruction. -/
namespace Go.Proofs.Ytojgikaoiegmpaa
open Go.RowKit Go.IntWalk Go.Lib
set_option linter.unusedSimpArgs false
set_option linter.unusedVariables false
set_option maxRecDepth 100000

/-- The document's reader under way, beside the instruction that it reads and the results' cells. -/
structure RS (w wk : World) (q : Nat) (ao : Option Addr) (cap : Nat) (bs : List UInt8) (s : Nat × Int × Int) (J : Ins) : Prop where
  y : YOk wk (w.heap.size + 2) ao cap bs s
  j : InsAt wk q J
  a : wk.heap[w.heap.size]? = some (.cells (icells zeroI) 40)
  f : wk.heap[w.heap.size + 1]? = some (.cells #[.int .i64 0, .int .i64 0] 28)
  fr : Fr (fun _ => False) w wk
  hq : w.heap.size + 2 < q
  nb : ∀ k, blk ao k → k < w.heap.size

theorem RS.step {w wk w' : World} {q : Nat} {ao : Option Addr} {cap : Nat} {bs : List UInt8} {s s' : Nat × Int × Int} {J : Ins} (h : RS w wk q ao cap bs s J) (hy : YOk w' (w.heap.size + 2) ao cap bs s') (hF : Fr (fun k => k = w.heap.size + 2) wk w') : RS w w' q ao cap bs s' J :=
  ⟨hy, h.j.fr hF (fun e => by have := h.hq; omega), (hF.block _ (Array.getElem?_eq_some_iff.1 h.a).1 (by omega)).trans h.a, (hF.block _ (Array.getElem?_eq_some_iff.1 h.f).1 (by omega)).trans h.f, h.fr.trans hF (fun k hk e => by omega), h.hq, h.nb⟩
theorem RS.stay {w wk w' : World} {q : Nat} {ao : Option Addr} {cap : Nat} {bs : List UInt8} {s : Nat × Int × Int} {J : Ins} (h : RS w wk q ao cap bs s J) (hF : Fr (fun _ => False) wk w') : RS w w' q ao cap bs s J :=
  ⟨⟨h.y.1.fr hF (fun e => e) (fun _ _ _ e => e), h.y.2⟩, h.j.fr hF (fun e => e), (hF.block _ (Array.getElem?_eq_some_iff.1 h.a).1 (fun e => e)).trans h.a, (hF.block _ (Array.getElem?_eq_some_iff.1 h.f).1 (fun e => e)).trans h.f, h.fr.trans hF (fun _ _ e => e), h.hq, h.nb⟩
theorem RS.into {w wk w' : World} {q : Nat} {ao : Option Addr} {cap : Nat} {bs : List UInt8} {s : Nat × Int × Int} {J J' : Ins} (h : RS w wk q ao cap bs s J) (hF : Fr (fun k => k = q) wk w') (hj : InsAt w' q J') : RS w w' q ao cap bs s J' :=
  ⟨⟨h.y.1.fr hF (by have := h.hq; omega) (fun k _ hk e => by have := h.nb k hk; have := h.hq; omega), h.y.2⟩, hj, (hF.block _ (Array.getElem?_eq_some_iff.1 h.a).1 (by have := h.hq; omega)).trans h.a, (hF.block _ (Array.getElem?_eq_some_iff.1 h.f).1 (by have := h.hq; omega)).trans h.f, h.fr.trans hF (fun k hk e => by have := h.hq; omega), h.hq, h.nb⟩
theorem RS.putN {w wk : World} {q : Nat} {ao : Option Addr} {cap : Nat} {bs : List UInt8} {s : Nat × Int × Int} {J : Ins} (h : RS w wk q ao cap bs s J) (f : Nat) (h1 : 1 ≤ f) (h4 : f ≤ 4) (v : Int) : RS w (wk.setCell ⟨q, f, none⟩ (.int .i64 v)) q ao cap bs s (J.put f v) :=
  h.into ((Fr.refl (fun k => k = q) wk).setCell (p := ⟨q, f, none⟩) (fun _ => rfl) _) (h.j.putN f h1 h4 v)
theorem RS.putS {w wk : World} {q : Nat} {ao : Option Addr} {cap : Nat} {bs : List UInt8} {s : Nat × Int × Int} {J : Ins} (h : RS w wk q ao cap bs s J) (v : ByteArray) : RS w (wk.setCell ⟨q, 5, none⟩ (.string v)) q ao cap bs s { J with s := v } :=
  h.into ((Fr.refl (fun k => k = q) wk).setCell (p := ⟨q, 5, none⟩) (fun _ => rfl) _) (h.j.putS v)

theorem rs_int {w wk : World} {q : Nat} {ao : Option Addr} {cap : Nat} {bs : List UInt8} {s s' : Nat × Int × Int} {J : Ins} (h : RS w wk q ao cap bs s J) (hb : bs.length ≤ 140737488355328) (lo hi v : Int) (hr : rInt bs lo hi s = (v, s')) :
    Calls Try.prog 55 #[.pointer (some ⟨w.heap.size + 2, 0, none⟩), .int .i64 lo, .int .i64 hi] wk fun e w' => e = .returned (.int .i64 v) ∧ RS w w' q ao cap bs s' J := by
  refine (yint_any (w.heap.size + 2) ao cap bs s lo hi wk h.y hb).mono ?_
  rintro e w' ⟨rfl, hy, hF⟩
  rw [hr] at hy ⊢
  exact ⟨rfl, h.step hy hF⟩
theorem rs_text {w wk : World} {q : Nat} {ao : Option Addr} {cap : Nat} {bs : List UInt8} {s s' : Nat × Int × Int} {J : Ins} (h : RS w wk q ao cap bs s J) (hb : bs.length ≤ 140737488355328) (hcl : bs.length ≤ cap) (hcm : cap ≤ maxLen) (x : List UInt8) (hr : rText bs 64 s = (x, s')) :
    Calls Try.prog 58 #[.pointer (some ⟨w.heap.size + 2, 0, none⟩), .int .i64 64] wk fun e w' => e = .returned (.string ⟨x.toArray⟩) ∧ RS w w' q ao cap bs s' J := by
  refine (ytext_any (w.heap.size + 2) ao cap bs s 64 wk h.y hb hcl hcm).mono ?_
  rintro e w' ⟨rfl, hy, hF⟩
  rw [hr] at hy ⊢
  exact ⟨rfl, h.step hy hF⟩

/-- What the document's Read tells, of an instruction and the reader's state behind it. -/
def endR (J : Ins) (s : Nat × Int × Int) : Ins × Int × Int × Int := if s.2.1 = 0 then (J, s.1, 0, 0) else (zeroI, 0, s.2.1, s.2.2)

theorem RS.held {w wk : World} {q : Nat} {ao : Option Addr} {cap : Nat} {bs : List UInt8} {s : Nat × Int × Int} {J : Ins} (h : RS w wk q ao cap bs s J) (w' : World) (hF : Fr (fun k => k = w.heap.size ∨ k = w.heap.size + 1) wk w') :
    InsAt w' q J ∧ w'.cell? ⟨w.heap.size + 2, 1, none⟩ = some (.int .i64 (s.1 : Int)) ∧ w'.cell? ⟨w.heap.size + 2, 2, none⟩ = some (.int .i64 s.2.1) ∧ w'.cell? ⟨w.heap.size + 2, 3, none⟩ = some (.int .i64 s.2.2) := by
  have hb := (hF.block _ h.y.1.lt (by omega)).trans h.y.1.box
  exact ⟨h.j.fr hF (fun e => by have := h.hq; omega), cellOfHeap hb 1 rfl, cellOfHeap hb 2 rfl, cellOfHeap hb 3 rfl⟩
theorem RS.adrew {w wk : World} {q : Nat} {ao : Option Addr} {cap : Nat} {bs : List UInt8} {s : Nat × Int × Int} {J : Ins} (h : RS w wk q ao cap bs s J) : wk.drew.heap[w.heap.size]? = some (.cells (icells zeroI) 40) := h.a
theorem RS.fdrew {w wk : World} {q : Nat} {ao : Option Addr} {cap : Nat} {bs : List UInt8} {s : Nat × Int × Int} {J : Ins} (h : RS w wk q ao cap bs s J) : wk.drew.heap[w.heap.size + 1]? = some (.cells #[.int .i64 0, .int .i64 0] 28) := h.f
theorem RS.flt {w wk : World} {q : Nat} {ao : Option Addr} {cap : Nat} {bs : List UInt8} {s : Nat × Int × Int} {J : Ins} (h : RS w wk q ao cap bs s J) : w.heap.size + 1 < wk.drew.heap.size := (Array.getElem?_eq_some_iff.1 h.f).1
theorem RS.frdrew {w wk : World} {q : Nat} {ao : Option Addr} {cap : Nat} {bs : List UInt8} {s : Nat × Int × Int} {J : Ins} (h : RS w wk q ao cap bs s J) : Fr (fun _ => False) w wk.drew := h.fr.drew

end Go.Proofs.Ytojgikaoiegmpaa

/- Code, on paper: what the document's Read tells is what Read tells. -/
namespace Go.Proofs.Ytojgikaoiegmpaa
open Go.RowKit Go.IntWalk Go.Lib
set_option linter.unusedSimpArgs false
set_option linter.unusedVariables false
set_option maxRecDepth 100000

/-! A window of 67 bytes is enough. -/
theorem scan_take (bs : List UInt8) : ∀ (i acc k : Nat), 9 ≤ k + i → i ≤ 8 → scan (bs.take k) i acc = scan bs i acc := by
  induction bs with
  | nil => intro i acc k _ _; rw [List.take_nil]
  | cons b bs ih =>
    intro i acc k hk hi
    obtain ⟨k, rfl⟩ : ∃ j, k = j + 1 := ⟨k - 1, by omega⟩
    rw [List.take_succ_cons]
    by_cases h1 : 128 ≤ b.toNat ∧ i + 1 = 9
    · rw [scan_big h1, scan_big h1]
    by_cases h2 : b.toNat = 0 ∧ 0 < i
    · rw [scan_zero h2, scan_zero h2]
    by_cases h3 : b.toNat < 128
    · rw [scan_last h2 h3, scan_last h2 h3]
    · rw [scan_more h1 h3, scan_more h1 h3]
      exact ih (i + 1) _ k (by omega) (by omega)
theorem scan_far (bs : List UInt8) : ∀ (i acc : Nat), 9 ≤ bs.length + i → i ≤ 8 → scan bs i acc ≠ .error 0 := by
  induction bs with
  | nil => intro i acc hk hi; simp at hk; omega
  | cons b bs ih =>
    intro i acc hk hi
    rw [List.length_cons] at hk
    by_cases h1 : 128 ≤ b.toNat ∧ i + 1 = 9
    · rw [scan_big h1]; simp
    by_cases h2 : b.toNat = 0 ∧ 0 < i
    · rw [scan_zero h2]; simp
    by_cases h3 : b.toNat < 128
    · rw [scan_last h2 h3]; simp
    · rw [scan_more h1 h3]
      exact ih (i + 1) _ (by omega) (by omega)

theorem drop_take67 (cs : List UInt8) (p : Nat) : (cs.take 67).drop p = (cs.drop p).take (67 - p) := by rw [List.drop_take]

theorem rdNum_win (cs : List UInt8) (p : Nat) (lo hi ab : Int) (hl : 67 ≤ cs.length) (hp : p ≤ 58) : rdNum (cs.take 67) p lo hi ab = rdNum cs p lo hi ab := by
  unfold rdNum
  rw [drop_take67, scan_take _ 0 0 (67 - p) (by omega) (by omega)]
  have hf := scan_far (cs.drop p) 0 0 (by rw [List.length_drop]; omega) (by omega)
  split
  · rename_i h; exact absurd h hf
  · rfl
  · rfl
  · rfl

theorem rInt_win (cs : List UInt8) (lo hi : Int) (s : Nat × Int × Int) (hl : 67 ≤ cs.length) (hp : s.1 ≤ 58) : rInt (cs.take 67) lo hi s = rInt cs lo hi s := by
  unfold rInt
  rw [rdNum_win cs s.1 lo hi 5 hl hp]
theorem rText_win (cs : List UInt8) (s : Nat × Int × Int) (hl : 67 ≤ cs.length) (hp : s.1 ≤ 2) : rText (cs.take 67) 64 s = rText cs 64 s := by
  unfold rText rdText
  rw [rdNum_win cs s.1 0 64 3 hl (by omega)]
  by_cases hs : s.2.1 ≠ 0
  · rw [if_pos hs, if_pos hs]
  · rw [if_neg hs, if_neg hs]
    cases hn : rdNum cs s.1 0 64 3 with
    | inl f => rfl
    | inr g =>
      obtain ⟨n, m⟩ := g
      have hb := rInt_back (bs := cs) (lo := 0) (hi := 64) (p := s.1) (x := 0) (v := n) (q := m) (y := 0) (by decide) (by decide) (by omega) (by
        unfold rInt
        rw [if_neg (by simp)]
        simp only
        have : rdNum cs s.1 0 64 5 = .inr (n, m) := by
          unfold rdNum at hn ⊢
          split at hn
          · cases hn
          · cases hn
          · cases hn
          · split at hn
            · cases hn
            · split at hn
              · cases hn
              · rename_i g1 g2
                rw [if_neg g1, if_neg g2]
                exact hn
        rw [this])
      obtain ⟨_, h0, h64, _, hm, _⟩ := hb
      simp only
      rw [if_neg (by rw [List.length_take]; omega), if_neg (by omega)]
      simp only
      rw [drop_take67, List.take_take, Nat.min_eq_left (by omega)]

theorem tk_win (cs : List UInt8) (l : Nat) (hl : Ltr l) (j : Ins) (s : Nat × Int × Int) (h67 : 67 ≤ cs.length) (hp : s.1 ≤ 58) (ht : l = 83 → s.1 ≤ 2) : tk (cs.take 67) l j s = tk cs l j s := by
  unfold tk
  by_cases h5 : fld l = 5
  · have hl83 : l = 83 := by rcases hl with rfl | rfl | rfl | rfl | rfl | rfl <;> first | rfl | exact absurd h5 (by decide)
    rw [if_pos h5, if_pos h5, rText_win cs s h67 (ht hl83)]
  · rw [if_neg h5, if_neg h5, rInt_win cs _ _ s h67 hp]

/-- With a fault all readers tell the same. -/
theorem tk_shut (cs ds : List UInt8) (l : Nat) (j : Ins) (s : Nat × Int × Int) (h : s.2.1 ≠ 0) : tk cs l j s = tk ds l j s := by
  unfold tk rText rInt
  simp only [if_pos h]
theorem tks_shut (cs ds : List UInt8) : ∀ (ls : List Nat) (j : Ins) (s : Nat × Int × Int), s.2.1 ≠ 0 → tks cs ls (j, s) = tks ds ls (j, s)
  | [], _, _, _ => rfl
  | l :: ls, j, s, h => by
    show tks cs ls (tk cs l j s) = tks ds ls (tk ds l j s)
    rw [tk_shut cs ds l j s h]
    have e := tk_sticks ds l j s h
    rw [show tk ds l j s = ((tk ds l j s).1, s) from Prod.ext rfl e]
    exact tks_shut cs ds ls _ s h

/-- A thing that is no text has one byte. -/
theorem tk_next (cs : List UInt8) (l : Nat) (hl : Ltr l) (h83 : l ≠ 83) (j : Ins) (p : Nat) (x : Int) (hp : p ≤ cs.length) (h0 : (tk cs l j (p, 0, x)).2.2.1 = 0) : (tk cs l j (p, 0, x)).2.1 = p + 1 := by
  have hb := tk_back l hl cs j p x hp h0
  rw [hb.2.2.2.1]
  have : (encL l (tk cs l j (p, 0, x)).1).length = 1 := by
    unfold encL
    rw [if_neg (fun e => h83 (by rcases hl with rfl | rfl | rfl | rfl | rfl | rfl <;> first | rfl | exact absurd e (by decide)))]
    rfl
  omega

theorem tks_win (cs : List UInt8) (h67 : 67 ≤ cs.length) (ls : List Nat) : ∀ (j : Ins) (p : Nat) (x : Int), (∀ l ∈ ls, Ltr l) → p + ls.length ≤ 50 → (∀ k, ls[k]? = some 83 → p + k ≤ 2 ∧ k + 1 = ls.length) → tks (cs.take 67) ls (j, (p, 0, x)) = tks cs ls (j, (p, 0, x)) := by
  induction ls with
  | nil => intro j p x _ _ _; rfl
  | cons l ls ih =>
    intro j p x hL hp ht
    rw [List.length_cons] at hp
    show tks _ ls (tk (cs.take 67) l j (p, 0, x)) = tks cs ls (tk cs l j (p, 0, x))
    rw [tk_win cs l (hL l (List.mem_cons_self ..)) j (p, 0, x) h67 (by show p ≤ 58; omega) (fun e => by have := (ht 0 (by rw [e]; rfl)).1; show p ≤ 2; omega)]
    by_cases he : (tk cs l j (p, 0, x)).2.2.1 = 0
    · by_cases h83 : l = 83
      · have hnil := (ht 0 (by rw [h83]; rfl)).2
        have : ls = [] := List.eq_nil_of_length_eq_zero (by simpa using hnil)
        subst this
        rfl
      · have hn := tk_next cs l (hL l (List.mem_cons_self ..)) h83 j p x (by omega) he
        cases htk : tk cs l j (p, 0, x) with
        | mk j1 s1 =>
          obtain ⟨q, e, y⟩ := s1
          rw [htk] at he hn
          obtain rfl : e = 0 := he
          obtain rfl : q = p + 1 := hn
          exact ih j1 (p + 1) y (fun l hl => hL l (List.mem_cons_of_mem _ hl)) (by omega) (fun k hk => by have := ht (k + 1) (by simpa using hk); rw [List.length_cons] at this; omega)
    · cases htk : tk cs l j (p, 0, x) with
      | mk j1 s1 =>
        rw [htk] at he
        exact tks_shut _ _ ls j1 s1 he

/-! Bytes ahead shift the places alone. -/
def Sh (a : Nat) (X Y : Ins × (Nat × Int × Int)) : Prop := X.1 = Y.1 ∧ X.2.1 = a + Y.2.1 ∧ X.2.2.1 = Y.2.2.1 ∧ (Y.2.2.1 ≠ 0 → X.2.2.2 = a + Y.2.2.2)

theorem rdNum_sh (bs : List UInt8) (a p : Nat) (ha : a ≤ bs.length) (lo hi ab : Int) :
    rdNum bs (a + p) lo hi ab = match rdNum (bs.drop a) p lo hi ab with
      | .inl (e, x) => .inl (e, a + x)
      | .inr (n, m) => .inr (n, a + m) := by
  unfold rdNum
  rw [List.drop_drop]
  cases scan (bs.drop (a + p)) 0 0 with
  | error x =>
    match x with
    | 0 => simp only [List.length_drop]; congr 2; omega
    | 1 => simp only [Int.natCast_add]
    | x + 2 => simp only [Int.natCast_add]
  | ok g =>
    obtain ⟨n, k⟩ := g
    simp only
    by_cases h1 : (n : Int) < lo
    · rw [if_pos h1, if_pos h1]; simp only [Int.natCast_add]
    · rw [if_neg h1, if_neg h1]
      by_cases h2 : hi < (n : Int)
      · rw [if_pos h2, if_pos h2]; simp only [Int.natCast_add]
      · rw [if_neg h2, if_neg h2]; simp only [Nat.add_assoc]

theorem rInt_sh (bs : List UInt8) (a : Nat) (ha : a ≤ bs.length) (lo hi : Int) (s s' : Nat × Int × Int) (h1 : s.1 = a + s'.1) (h2 : s.2.1 = s'.2.1) (h3 : s'.2.1 ≠ 0 → s.2.2 = a + s'.2.2) :
    (rInt bs lo hi s).1 = (rInt (bs.drop a) lo hi s').1 ∧ (rInt bs lo hi s).2.1 = a + (rInt (bs.drop a) lo hi s').2.1 ∧ (rInt bs lo hi s).2.2.1 = (rInt (bs.drop a) lo hi s').2.2.1 ∧ ((rInt (bs.drop a) lo hi s').2.2.1 ≠ 0 → (rInt bs lo hi s).2.2.2 = a + (rInt (bs.drop a) lo hi s').2.2.2) := by
  obtain ⟨p, e, x⟩ := s
  obtain ⟨p', e', x'⟩ := s'
  obtain rfl : p = a + p' := h1
  obtain rfl : e = e' := h2
  unfold rInt
  by_cases he : e ≠ 0
  · rw [if_pos he, if_pos he]
    exact ⟨rfl, rfl, rfl, h3⟩
  · rw [if_neg he, if_neg he]
    simp only
    rw [rdNum_sh bs a p' ha lo hi 5]
    cases rdNum (bs.drop a) p' lo hi 5 with
    | inl f => obtain ⟨e1, x1⟩ := f; exact ⟨rfl, rfl, rfl, fun _ => rfl⟩
    | inr g => obtain ⟨n, m⟩ := g; exact ⟨rfl, rfl, rfl, fun h => absurd rfl h⟩

theorem rText_sh (bs : List UInt8) (a : Nat) (ha : a ≤ bs.length) (most : Int) (s s' : Nat × Int × Int) (h1 : s.1 = a + s'.1) (h2 : s.2.1 = s'.2.1) (h3 : s'.2.1 ≠ 0 → s.2.2 = a + s'.2.2) :
    (rText bs most s).1 = (rText (bs.drop a) most s').1 ∧ (rText bs most s).2.1 = a + (rText (bs.drop a) most s').2.1 ∧ (rText bs most s).2.2.1 = (rText (bs.drop a) most s').2.2.1 ∧ ((rText (bs.drop a) most s').2.2.1 ≠ 0 → (rText bs most s).2.2.2 = a + (rText (bs.drop a) most s').2.2.2) := by
  obtain ⟨p, e, x⟩ := s
  obtain ⟨p', e', x'⟩ := s'
  obtain rfl : p = a + p' := h1
  obtain rfl : e = e' := h2
  unfold rText rdText
  by_cases he : e ≠ 0
  · rw [if_pos he, if_pos he]
    exact ⟨rfl, rfl, rfl, h3⟩
  · rw [if_neg he, if_neg he]
    simp only
    rw [rdNum_sh bs a p' ha 0 most 3]
    cases rdNum (bs.drop a) p' 0 most 3 with
    | inl f => obtain ⟨e1, x1⟩ := f; exact ⟨rfl, rfl, rfl, fun _ => rfl⟩
    | inr g =>
      obtain ⟨n, m⟩ := g
      simp only
      by_cases hl : bs.length < a + m + n
      · rw [if_pos hl, if_pos (by rw [List.length_drop]; omega)]
        refine ⟨rfl, rfl, rfl, fun _ => ?_⟩
        show (bs.length : Int) = a + ((bs.drop a).length : Int)
        rw [List.length_drop]
        omega
      · rw [if_neg hl, if_neg (by rw [List.length_drop]; omega)]
        refine ⟨?_, ?_, rfl, fun h => absurd rfl h⟩
        · show (bs.drop (a + m)).take n = ((bs.drop a).drop m).take n
          rw [List.drop_drop]
        · show a + m + n = a + (m + n)
          omega

theorem tk_sh (bs : List UInt8) (a : Nat) (ha : a ≤ bs.length) (l : Nat) (X Y : Ins × (Nat × Int × Int)) (h : Sh a X Y) : Sh a (tk bs l X.1 X.2) (tk (bs.drop a) l Y.1 Y.2) := by
  obtain ⟨j, s⟩ := X
  obtain ⟨j', s'⟩ := Y
  obtain ⟨h0, h1, h2, h3⟩ := h
  obtain rfl : j = j' := h0
  unfold tk
  by_cases h5 : fld l = 5
  · rw [if_pos h5, if_pos h5]
    obtain ⟨g0, g1, g2, g3⟩ := rText_sh bs a ha 64 s s' h1 h2 h3
    exact ⟨by show ({ j with s := _ } : Ins) = { j with s := _ }; rw [g0], g1, g2, g3⟩
  · rw [if_neg h5, if_neg h5]
    obtain ⟨g0, g1, g2, g3⟩ := rInt_sh bs a ha (lowL l) (highL l) s s' h1 h2 h3
    exact ⟨by show j.put _ _ = j.put _ _; rw [g0], g1, g2, g3⟩
theorem tks_sh (bs : List UInt8) (a : Nat) (ha : a ≤ bs.length) : ∀ (ls : List Nat) (X Y : Ins × (Nat × Int × Int)), Sh a X Y → Sh a (tks bs ls X) (tks (bs.drop a) ls Y)
  | [], _, _, h => h
  | l :: ls, X, Y, h => tks_sh bs a ha ls _ _ (tk_sh bs a ha l X Y h)

theorem last83 : ∀ m : Fin 16, ∀ k : Fin 5, (ltrs m.val)[k.val]? = some 83 → 1 + k.val ≤ 2 ∧ k.val + 1 = (ltrs m.val).length := by decide

theorem rdI_win (cs : List UInt8) : rdI (cs.take 67) = rdI cs := by
  by_cases h67 : 67 ≤ cs.length
  · unfold rdI
    rw [rInt_win cs 1 15 (0, 0, 0) h67 (by decide)]
    cases hr : rInt cs 1 15 (0, 0, 0) with
    | mk v s =>
      obtain ⟨q, e, y⟩ := s
      simp only
      by_cases he : e = 0
      · subst he
        obtain ⟨rfl, h1, h2, _, h4, _⟩ := rInt_back (by decide) (by decide) (Nat.zero_le _) hr
        obtain rfl : q = 1 := by omega
        obtain ⟨m, rfl⟩ : ∃ m : Nat, v = m := ⟨v.toNat, by omega⟩
        rw [Int.toNat_natCast]
        have hm : m < 16 := by omega
        have hlen := (ltrs_nodup m (by omega)).2
        refine tks_win cs h67 (ltrs m) _ 1 0 (ltrs_ok m (by omega)) (by omega) (fun k hk => ?_)
        have hk5 : k < 5 := by
          have := (List.getElem?_eq_some_iff.1 hk).1
          omega
        exact last83 ⟨m, hm⟩ ⟨k, hk5⟩ hk
      · exact tks_shut _ _ _ _ _ he
  · rw [List.take_of_length_le (by omega)]

/-- What the document's Read tells, from a place within the bytes. -/
def refR (bs : List UInt8) (a : Nat) : Ins × Int × Int × Int :=
  endR (tks bs (ltrs (rInt bs 1 15 (a, 0, 0)).1.toNat) (⟨(rInt bs 1 15 (a, 0, 0)).1, 0, 0, 0, 0, ⟨#[]⟩⟩, (rInt bs 1 15 (a, 0, 0)).2)).1 (tks bs (ltrs (rInt bs 1 15 (a, 0, 0)).1.toNat) (⟨(rInt bs 1 15 (a, 0, 0)).1, 0, 0, 0, 0, ⟨#[]⟩⟩, (rInt bs 1 15 (a, 0, 0)).2)).2
theorem refR_eq (bs : List UInt8) (a : Nat) (ha : a ≤ bs.length) : refR bs a = readR bs (a : Int) := by
  have h0 := rInt_sh bs a ha 1 15 (a, 0, 0) (0, 0, 0) (by rfl) rfl (fun h => absurd rfl h)
  have hS : Sh a (⟨(rInt bs 1 15 (a, 0, 0)).1, 0, 0, 0, 0, ⟨#[]⟩⟩, (rInt bs 1 15 (a, 0, 0)).2) (⟨(rInt (bs.drop a) 1 15 (0, 0, 0)).1, 0, 0, 0, 0, ⟨#[]⟩⟩, (rInt (bs.drop a) 1 15 (0, 0, 0)).2) :=
    ⟨by rw [h0.1], h0.2.1, h0.2.2.1, h0.2.2.2⟩
  have h := tks_sh bs a ha (ltrs (rInt (bs.drop a) 1 15 (0, 0, 0)).1.toNat) _ _ hS
  have hw : rdI (win bs a) = rdI (bs.drop a) := rdI_win (bs.drop a)
  have hI : rdI (bs.drop a) = tks (bs.drop a) (ltrs (rInt (bs.drop a) 1 15 (0, 0, 0)).1.toNat) (⟨(rInt (bs.drop a) 1 15 (0, 0, 0)).1, 0, 0, 0, 0, ⟨#[]⟩⟩, (rInt (bs.drop a) 1 15 (0, 0, 0)).2) := rfl
  rw [← hI] at h
  have hR : refR bs a = endR (tks bs (ltrs (rInt (bs.drop a) 1 15 (0, 0, 0)).1.toNat) (⟨(rInt bs 1 15 (a, 0, 0)).1, 0, 0, 0, 0, ⟨#[]⟩⟩, (rInt bs 1 15 (a, 0, 0)).2)).1 (tks bs (ltrs (rInt (bs.drop a) 1 15 (0, 0, 0)).1.toNat) (⟨(rInt bs 1 15 (a, 0, 0)).1, 0, 0, 0, 0, ⟨#[]⟩⟩, (rInt bs 1 15 (a, 0, 0)).2)).2 := by
    unfold refR
    rw [h0.1]
  rw [hR]
  unfold readR
  rw [if_neg (by omega), Int.toNat_natCast, hw]
  generalize tks bs _ _ = X at *
  generalize rdI (bs.drop a) = Y at *
  obtain ⟨g0, g1, g2, g3⟩ := h
  unfold endR
  rw [g0, g2]
  by_cases he : Y.2.2.1 = 0
  · rw [if_pos he, if_pos he, g1, Int.natCast_add]
  · rw [if_neg he, if_neg he, g3 he]

end Go.Proofs.Ytojgikaoiegmpaa

/- Code: the document's Read: letters none, letters A. -/
namespace Go.Proofs.Ytojgikaoiegmpaa
open Go.RowKit Go.IntWalk Go.Lib
set_option linter.unusedSimpArgs false
set_option linter.unusedVariables false
set_option maxRecDepth 100000

set_option maxRecDepth 100000 in
set_option maxHeartbeats 4000000 in
theorem vread_O (ao : Option Addr) (cap : Nat) (bs : List UInt8) (a : Nat) (w : World) (hB : BsAt w ao bs) (hb : bs.length ≤ 140737488355328) (hcl : bs.length ≤ cap) (hcm : cap ≤ maxLen) (hnb : ∀ k, blk ao k → k < w.heap.size) (ha : a ≤ bs.length) (v : Int) (s0 : Nat × Int × Int) (h0 : rInt bs 1 15 (a, 0, 0) = (v, s0)) (ht : hasT v = (false, false, false, false, false)) :
    Calls Try.prog 32 #[.slice ao bs.length cap, .int .i64 (a : Int)] w fun e w' => e = .returned (readV (endR ⟨v, 0, 0, 0, 0, ⟨#[]⟩⟩ s0)) ∧ Fr (fun _ => False) w w' := by
  have hd1 : decide ((a : Int) < 0) = false := decide_eq_false (by omega)
  have hd2 : decide ((bs.length : Int) < (a : Int)) = false := decide_eq_false (by omega)
  have HH := hideIt (fun w => by have := vhas_any v w; rw [ht] at this; exact this)
  unfold hasV at HH
  have HY0 := hideIt (show YOk ((((w.alloc (.cells (icells zeroI) 40)).alloc (.cells #[.int .i64 0, .int .i64 0] 28))).alloc (.cells #[.slice ao bs.length cap, .int .i64 (a : Int), .int .i64 0, .int .i64 0] 63)) (w.heap.size + 2) ao cap bs (a, 0, 0) from
    ⟨⟨heap_new (by simp), hB.fr ((((Fr.refl (fun _ => False) w).alloc _).alloc _).alloc _) (fun _ _ _ e => e)⟩, fun e => by have := hnb _ e; omega, ha⟩)
  have HNB := hideIt hnb
  have HCM := hideIt hcm
  clear hB ht hnb hcm
  go_enter Try.func32, Try.ntmps32
  go_wp2_with fail
  refine Calls.mono (yint_any (w.heap.size + 2) ao cap bs (a, 0, 0) 1 15 _ HY0.out hb) ?_
  rw [h0]
  rintro e w2 ⟨rfl, hy, hF⟩
  have hFa : Fr (fun _ => False) w w2 := ((((Fr.refl (fun _ => False) w).alloc _).alloc _).alloc _).trans hF (fun k hk e => by omega)
  have hsz : w.heap.size + 2 < w2.heap.size := hy.1.lt
  have hF3 : Fr (fun _ => False) w2 (w2.alloc (.cells (icells ⟨v, 0, 0, 0, 0, ⟨#[]⟩⟩) 40)) := (Fr.refl _ _).alloc _
  have HR0 := hideIt (show RS w (w2.alloc (.cells (icells ⟨v, 0, 0, 0, 0, ⟨#[]⟩⟩) 40)) w2.heap.size ao cap bs s0 ⟨v, 0, 0, 0, 0, ⟨#[]⟩⟩ from
    ⟨⟨hy.1.fr hF3 (fun e => e) (fun _ _ _ e => e), hy.2⟩, heap_new rfl, heap_old ((hF.block w.heap.size (by simp; omega) (by omega)).trans (heap_old (heap_old (heap_new rfl)))), heap_old ((hF.block (w.heap.size + 1) (by simp) (by omega)).trans (heap_old (heap_new (by simp)))), hFa.trans hF3 (fun _ _ e => e), hsz, HNB.out⟩)
  clear hy hF hFa hF3 HY0 HNB h0 ha
  go_wp2_with fail
  refine Calls.mono (HH.out _) ?_
  rintro e wx ⟨rfl, rfl⟩
  clear HH
  unfold icells at HR0
  obtain ⟨pl, er, ea⟩ := s0
  have c2 := HR0.out.y.1.c2
  dsimp only at c2
  by_cases hz : er = 0
  · subst hz
    have HE := hideIt (show endR ⟨v, 0, 0, 0, 0, ⟨#[]⟩⟩ (pl, 0, ea) = (⟨v, 0, 0, 0, 0, ⟨#[]⟩⟩, (pl : Int), 0, 0) from if_pos rfl)
    have HS := hideIt HR0.out.held
    have HA8h := hideIt HR0.out.adrew
    have HF8h := hideIt HR0.out.fdrew
    have HFL := hideIt HR0.out.flt
    have HFRw := hideIt HR0.out.frdrew
    go_wp2_with fail
    refine wp_region_held_drew (S := fun w0 => InsAt w0 w2.heap.size ⟨v, 0, 0, 0, 0, ⟨#[]⟩⟩ ∧ w0.cell? ⟨w.heap.size + 2, 1, none⟩ = some (.int .i64 (pl : Int)) ∧ w0.cell? ⟨w.heap.size + 2, 2, none⟩ = some (.int .i64 0) ∧ w0.cell? ⟨w.heap.size + 2, 3, none⟩ = some (.int .i64 ea)) (by kernel_rfl) ?_ (fun hHeld => ?_)
    · exact HS.out _ (Fr.refl _ _).drew
    refine wpAnyH_take (i := 0) (v := ?v301) rfl (by kernel_rfl) (by kernel_rfl) (by kernel_rfl) (fun _ _ _ h => h) (Or.inl ⟨by rfl, ?hy301⟩) (by assumption) ?rest301
    case hy301 => intro w hSw; (try dsimp only at hSw); obtain ⟨hSI, hS1, hS2, hS3⟩ := hSw; have c0 := hSI.c0; have c1 := hSI.c1; have c2 := hSI.c2; have c3 := hSI.c3; have c4 := hSI.c4; have c5 := hSI.c5; go_simp; (try with_reducible rfl)
    try simp only [Act.put, List.getElem_toArray, List.getElem_cons_zero, List.getElem_cons_succ, List.setIfInBounds_toArray, List.set_cons_zero, List.set_cons_succ]
    refine wpAnyH_take (i := 1) (v := ?v302) rfl (by kernel_rfl) (by kernel_rfl) (by kernel_rfl) (fun _ _ _ h => h) (Or.inl ⟨by rfl, ?hy302⟩) (by assumption) ?rest302
    case hy302 => intro w hSw; (try dsimp only at hSw); go_simp; (try with_reducible rfl)
    try simp only [Act.put, List.getElem_toArray, List.getElem_cons_zero, List.getElem_cons_succ, List.setIfInBounds_toArray, List.set_cons_zero, List.set_cons_succ]
    refine wpAnyH_take (i := 2) (v := ?v303) rfl (by kernel_rfl) (by kernel_rfl) (by kernel_rfl) (fun _ _ _ h => h) (Or.inl ⟨by rfl, ?hy303⟩) (by assumption) ?rest303
    case hy303 => intro w hSw; (try dsimp only at hSw); go_simp; (try with_reducible rfl)
    try simp only [Act.put, List.getElem_toArray, List.getElem_cons_zero, List.getElem_cons_succ, List.setIfInBounds_toArray, List.set_cons_zero, List.set_cons_succ]
    refine wpAnyH_take (i := 3) (v := ?v304) rfl (by kernel_rfl) (by kernel_rfl) (by kernel_rfl) (fun _ _ _ h => h) (Or.inl ⟨by rfl, ?hy304⟩) (by assumption) ?rest304
    case hy304 => intro w hSw; (try dsimp only at hSw); go_simp; (try with_reducible rfl)
    try simp only [Act.put, List.getElem_toArray, List.getElem_cons_zero, List.getElem_cons_succ, List.setIfInBounds_toArray, List.set_cons_zero, List.set_cons_succ]
    refine wpAnyH_take (i := 4) (v := ?v305) rfl (by kernel_rfl) (by kernel_rfl) (by kernel_rfl) (fun _ _ _ h => h) (Or.inl ⟨by rfl, ?hy305⟩) (by assumption) ?rest305
    case hy305 => intro w hSw; (try dsimp only at hSw); go_simp; (try with_reducible rfl)
    try simp only [Act.put, List.getElem_toArray, List.getElem_cons_zero, List.getElem_cons_succ, List.setIfInBounds_toArray, List.set_cons_zero, List.set_cons_succ]
    refine wpAnyH_take (i := 5) (v := ?v306) rfl (by kernel_rfl) (by kernel_rfl) (by kernel_rfl) (fun _ _ _ h => h) (Or.inl ⟨by rfl, ?hy306⟩) (by assumption) ?rest306
    case hy306 => intro w hSw; (try dsimp only at hSw); go_simp; (try with_reducible rfl)
    try simp only [Act.put, List.getElem_toArray, List.getElem_cons_zero, List.getElem_cons_succ, List.setIfInBounds_toArray, List.set_cons_zero, List.set_cons_succ]
    refine wpAnyH_ready (rs := [6]) (by kernel_rfl) (by simp) ?_
    refine AllReadyH.cons rfl (fun K hK => ?_) AllReadyH.nil
    rw [if_pos (by rfl)]
    refine wp_store_mid 40 _ _ rfl w.heap.size 0 (icells ⟨v, 0, 0, 0, 0, ⟨#[]⟩⟩) rfl rfl (there_row HA8h.out _ (Nat.le_refl _)) (by kernel_rfl) (icells_one _) ?_
    obtain ⟨hst, hfr⟩ := store_over (V := (icells ⟨v, 0, 0, 0, 0, ⟨#[]⟩⟩)) HA8h.out (by rfl)
    have HA10 := hideIt hst
    have HFr10 := hideIt (hfr.mono (S' := fun k => k = w.heap.size ∨ k = w.heap.size + 1) (fun _ e => Or.inl e))
    have HG10 := hideIt ((hfr.block (w.heap.size + 1) HFL.out (by omega)).trans HF8h.out)
    clear hst hfr
    generalize hW10 : World.setCells _ w.heap.size 0 _ = W10 at *
    clear hW10
    refine hK.out _ _ ?_ (fun hHeld => ?_)
    · exact HS.out _ ((Fr.refl _ _).drew.trans HFr10.out (fun _ _ e => e))
    clear hK K
    try simp only [Act.put, List.getElem_toArray, List.getElem_cons_zero, List.getElem_cons_succ, List.setIfInBounds_toArray, List.set_cons_zero, List.set_cons_succ]
    refine wpAnyH_take (i := 7) (v := ?v307) rfl (by kernel_rfl) (by kernel_rfl) (by kernel_rfl) (fun _ _ _ h => h) (Or.inl ⟨by rfl, ?hy307⟩) (by assumption) ?rest307
    case hy307 => intro w hSw; (try dsimp only at hSw); go_simp; (try with_reducible rfl)
    try simp only [Act.put, List.getElem_toArray, List.getElem_cons_zero, List.getElem_cons_succ, List.setIfInBounds_toArray, List.set_cons_zero, List.set_cons_succ]
    refine wpAnyH_ready (rs := [8]) (by kernel_rfl) (by simp) ?_
    refine AllReadyH.cons rfl (fun K hK => ?_) AllReadyH.nil
    rw [if_pos (by rfl)]
    refine wp_store_mid 28 _ _ rfl (w.heap.size + 1) 0 #[.int .i64 0, .int .i64 0] rfl rfl (there_row HG10.out _ (Nat.le_refl _)) (by kernel_rfl) (fault_one _ _) ?_
    obtain ⟨hst, hfr⟩ := store_over (V := #[.int .i64 0, .int .i64 0]) HG10.out (by rfl)
    have HG11 := hideIt hst
    have HFr11 := hideIt (HFr10.out.trans hfr (fun _ _ e => Or.inr e))
    have HA11 := hideIt ((hfr.block w.heap.size (Array.getElem?_eq_some_iff.1 HA10.out).1 (by omega)).trans HA10.out)
    clear hst hfr
    generalize hW11 : World.setCells _ (w.heap.size + 1) 0 _ = W11 at *
    clear hW11
    refine hK.out _ _ ?_ (fun hHeld => ?_)
    · exact HS.out _ ((Fr.refl _ _).drew.trans HFr11.out (fun _ _ e => e))
    clear hK K
    try simp only [Act.put, List.getElem_toArray, List.getElem_cons_zero, List.getElem_cons_succ, List.setIfInBounds_toArray, List.set_cons_zero, List.set_cons_succ]
    refine wpAnyH_done (by kernel_rfl) ?_ _
    go_wp2_with fail
    have hA0 := cellOfHeap HA11.out 0 rfl
    have hA1 := cellOfHeap HA11.out 1 rfl
    have hA2 := cellOfHeap HA11.out 2 rfl
    have hA3 := cellOfHeap HA11.out 3 rfl
    have hA4 := cellOfHeap HA11.out 4 rfl
    have hA5 := cellOfHeap HA11.out 5 rfl
    have hF0 := cellOfHeap HG11.out 0 rfl
    have hF1 := cellOfHeap HG11.out 1 rfl
    refine bodyPost_ret (v := readV (⟨v, 0, 0, 0, 0, ⟨#[]⟩⟩, (pl : Int), 0, 0)) (by simp [results, Try.results32, go_sem, readV, icells, zeroI, hA0, hA1, hA2, hA3, hA4, hA5, hF0, hF1]) rfl ⟨by rw [HE.out], ?_⟩
    exact HFRw.out.trans HFr11.out (fun k hk e => by omega)
  · have HE := hideIt (show endR ⟨v, 0, 0, 0, 0, ⟨#[]⟩⟩ (pl, er, ea) = (zeroI, 0, er, ea) from if_neg hz)
    have hzb : (er != 0) = true := by simpa using hz
    have HS := hideIt HR0.out.held
    have HA8h := hideIt HR0.out.adrew
    have HF8h := hideIt HR0.out.fdrew
    have HFL := hideIt HR0.out.flt
    have HFRw := hideIt HR0.out.frdrew
    go_wp2_with fail
    refine wp_region_held_drew (S := fun w0 => InsAt w0 w2.heap.size ⟨v, 0, 0, 0, 0, ⟨#[]⟩⟩ ∧ w0.cell? ⟨w.heap.size + 2, 1, none⟩ = some (.int .i64 (pl : Int)) ∧ w0.cell? ⟨w.heap.size + 2, 2, none⟩ = some (.int .i64 er) ∧ w0.cell? ⟨w.heap.size + 2, 3, none⟩ = some (.int .i64 ea)) (by kernel_rfl) ?_ (fun hHeld => ?_)
    · exact HS.out _ (Fr.refl _ _).drew
    refine wpAnyH_take (i := 0) (v := ?v308) rfl (by kernel_rfl) (by kernel_rfl) (by kernel_rfl) (fun _ _ _ h => h) (Or.inl ⟨by rfl, ?hy308⟩) (by assumption) ?rest308
    case hy308 => intro w hSw; (try dsimp only at hSw); go_simp; (try with_reducible rfl)
    try simp only [Act.put, List.getElem_toArray, List.getElem_cons_zero, List.getElem_cons_succ, List.setIfInBounds_toArray, List.set_cons_zero, List.set_cons_succ]
    refine wpAnyH_take (i := 1) (v := ?v309) rfl (by kernel_rfl) (by kernel_rfl) (by kernel_rfl) (fun _ _ _ h => h) (Or.inl ⟨by rfl, ?hy309⟩) (by assumption) ?rest309
    case hy309 => intro w hSw; (try dsimp only at hSw); go_simp; (try with_reducible rfl)
    try simp only [Act.put, List.getElem_toArray, List.getElem_cons_zero, List.getElem_cons_succ, List.setIfInBounds_toArray, List.set_cons_zero, List.set_cons_succ]
    refine wpAnyH_take (i := 2) (v := ?v310) rfl (by kernel_rfl) (by kernel_rfl) (by kernel_rfl) (fun _ _ _ h => h) (Or.inl ⟨by rfl, ?hy310⟩) (by assumption) ?rest310
    case hy310 => intro w hSw; (try dsimp only at hSw); go_simp; (try with_reducible rfl)
    try simp only [Act.put, List.getElem_toArray, List.getElem_cons_zero, List.getElem_cons_succ, List.setIfInBounds_toArray, List.set_cons_zero, List.set_cons_succ]
    refine wpAnyH_take (i := 3) (v := ?v311) rfl (by kernel_rfl) (by kernel_rfl) (by kernel_rfl) (fun _ _ _ h => h) (Or.inl ⟨by rfl, ?hy311⟩) (by assumption) ?rest311
    case hy311 => intro w hSw; (try dsimp only at hSw); go_simp; (try with_reducible rfl)
    try simp only [Act.put, List.getElem_toArray, List.getElem_cons_zero, List.getElem_cons_succ, List.setIfInBounds_toArray, List.set_cons_zero, List.set_cons_succ]
    refine wpAnyH_take (i := 4) (v := ?v312) rfl (by kernel_rfl) (by kernel_rfl) (by kernel_rfl) (fun _ _ _ h => h) (Or.inl ⟨by rfl, ?hy312⟩) (by assumption) ?rest312
    case hy312 => intro w hSw; (try dsimp only at hSw); go_simp; (try with_reducible rfl)
    try simp only [Act.put, List.getElem_toArray, List.getElem_cons_zero, List.getElem_cons_succ, List.setIfInBounds_toArray, List.set_cons_zero, List.set_cons_succ]
    refine wpAnyH_ready (rs := [5]) (by kernel_rfl) (by simp) ?_
    refine AllReadyH.cons rfl (fun K hK => ?_) AllReadyH.nil
    rw [if_pos (by rfl)]
    refine wp_store_mid 40 _ _ rfl w.heap.size 0 (icells zeroI) rfl rfl (there_row HA8h.out _ (Nat.le_refl _)) (by kernel_rfl) (icells_one _) ?_
    obtain ⟨hst, hfr⟩ := store_over (V := (icells zeroI)) HA8h.out (by rfl)
    have HA10 := hideIt hst
    have HFr10 := hideIt (hfr.mono (S' := fun k => k = w.heap.size ∨ k = w.heap.size + 1) (fun _ e => Or.inl e))
    have HG10 := hideIt ((hfr.block (w.heap.size + 1) HFL.out (by omega)).trans HF8h.out)
    clear hst hfr
    generalize hW10 : World.setCells _ w.heap.size 0 _ = W10 at *
    clear hW10
    refine hK.out _ _ ?_ (fun hHeld => ?_)
    · exact HS.out _ ((Fr.refl _ _).drew.trans HFr10.out (fun _ _ e => e))
    clear hK K
    try simp only [Act.put, List.getElem_toArray, List.getElem_cons_zero, List.getElem_cons_succ, List.setIfInBounds_toArray, List.set_cons_zero, List.set_cons_succ]
    refine wpAnyH_take (i := 6) (v := ?v313) rfl (by kernel_rfl) (by kernel_rfl) (by kernel_rfl) (fun _ _ _ h => h) (Or.inl ⟨by rfl, ?hy313⟩) (by assumption) ?rest313
    case hy313 => intro w hSw; (try dsimp only at hSw); go_simp; (try with_reducible rfl)
    try simp only [Act.put, List.getElem_toArray, List.getElem_cons_zero, List.getElem_cons_succ, List.setIfInBounds_toArray, List.set_cons_zero, List.set_cons_succ]
    refine wpAnyH_ready (rs := [7]) (by kernel_rfl) (by simp) ?_
    refine AllReadyH.cons rfl (fun K hK => ?_) AllReadyH.nil
    rw [if_pos (by rfl)]
    refine wp_store_mid 28 _ _ rfl (w.heap.size + 1) 0 #[.int .i64 er, .int .i64 ea] rfl rfl (there_row HG10.out _ (Nat.le_refl _)) (by kernel_rfl) (fault_one _ _) ?_
    obtain ⟨hst, hfr⟩ := store_over (V := #[.int .i64 er, .int .i64 ea]) HG10.out (by rfl)
    have HG11 := hideIt hst
    have HFr11 := hideIt (HFr10.out.trans hfr (fun _ _ e => Or.inr e))
    have HA11 := hideIt ((hfr.block w.heap.size (Array.getElem?_eq_some_iff.1 HA10.out).1 (by omega)).trans HA10.out)
    clear hst hfr
    generalize hW11 : World.setCells _ (w.heap.size + 1) 0 _ = W11 at *
    clear hW11
    refine hK.out _ _ ?_ (fun hHeld => ?_)
    · exact HS.out _ ((Fr.refl _ _).drew.trans HFr11.out (fun _ _ e => e))
    clear hK K
    try simp only [Act.put, List.getElem_toArray, List.getElem_cons_zero, List.getElem_cons_succ, List.setIfInBounds_toArray, List.set_cons_zero, List.set_cons_succ]
    refine wpAnyH_done (by kernel_rfl) ?_ _
    go_wp2_with fail
    have hA0 := cellOfHeap HA11.out 0 rfl
    have hA1 := cellOfHeap HA11.out 1 rfl
    have hA2 := cellOfHeap HA11.out 2 rfl
    have hA3 := cellOfHeap HA11.out 3 rfl
    have hA4 := cellOfHeap HA11.out 4 rfl
    have hA5 := cellOfHeap HA11.out 5 rfl
    have hF0 := cellOfHeap HG11.out 0 rfl
    have hF1 := cellOfHeap HG11.out 1 rfl
    refine bodyPost_ret (v := readV (zeroI, 0, er, ea)) (by simp [results, Try.results32, go_sem, readV, icells, zeroI, hA0, hA1, hA2, hA3, hA4, hA5, hF0, hF1]) rfl ⟨by rw [HE.out], ?_⟩
    exact HFRw.out.trans HFr11.out (fun k hk e => by omega)

set_option maxRecDepth 100000 in
set_option maxHeartbeats 4000000 in
theorem vread_A (ao : Option Addr) (cap : Nat) (bs : List UInt8) (a : Nat) (w : World) (hB : BsAt w ao bs) (hb : bs.length ≤ 140737488355328) (hcl : bs.length ≤ cap) (hcm : cap ≤ maxLen) (hnb : ∀ k, blk ao k → k < w.heap.size) (ha : a ≤ bs.length) (v : Int) (va : Int) (s0 s1 : Nat × Int × Int) (h0 : rInt bs 1 15 (a, 0, 0) = (v, s0)) (h1 : rInt bs 0 7 s0 = (va, s1)) (ht : hasT v = (true, false, false, false, false)) :
    Calls Try.prog 32 #[.slice ao bs.length cap, .int .i64 (a : Int)] w fun e w' => e = .returned (readV (endR ⟨v, va, 0, 0, 0, ⟨#[]⟩⟩ s1)) ∧ Fr (fun _ => False) w w' := by
  have hd1 : decide ((a : Int) < 0) = false := decide_eq_false (by omega)
  have hd2 : decide ((bs.length : Int) < (a : Int)) = false := decide_eq_false (by omega)
  have HH := hideIt (fun w => by have := vhas_any v w; rw [ht] at this; exact this)
  unfold hasV at HH
  have HY0 := hideIt (show YOk ((((w.alloc (.cells (icells zeroI) 40)).alloc (.cells #[.int .i64 0, .int .i64 0] 28))).alloc (.cells #[.slice ao bs.length cap, .int .i64 (a : Int), .int .i64 0, .int .i64 0] 63)) (w.heap.size + 2) ao cap bs (a, 0, 0) from
    ⟨⟨heap_new (by simp), hB.fr ((((Fr.refl (fun _ => False) w).alloc _).alloc _).alloc _) (fun _ _ _ e => e)⟩, fun e => by have := hnb _ e; omega, ha⟩)
  have HNB := hideIt hnb
  have HCM := hideIt hcm
  clear hB ht hnb hcm
  go_enter Try.func32, Try.ntmps32
  go_wp2_with fail
  refine Calls.mono (yint_any (w.heap.size + 2) ao cap bs (a, 0, 0) 1 15 _ HY0.out hb) ?_
  rw [h0]
  rintro e w2 ⟨rfl, hy, hF⟩
  have hFa : Fr (fun _ => False) w w2 := ((((Fr.refl (fun _ => False) w).alloc _).alloc _).alloc _).trans hF (fun k hk e => by omega)
  have hsz : w.heap.size + 2 < w2.heap.size := hy.1.lt
  have hF3 : Fr (fun _ => False) w2 (w2.alloc (.cells (icells ⟨v, 0, 0, 0, 0, ⟨#[]⟩⟩) 40)) := (Fr.refl _ _).alloc _
  have HR0 := hideIt (show RS w (w2.alloc (.cells (icells ⟨v, 0, 0, 0, 0, ⟨#[]⟩⟩) 40)) w2.heap.size ao cap bs s0 ⟨v, 0, 0, 0, 0, ⟨#[]⟩⟩ from
    ⟨⟨hy.1.fr hF3 (fun e => e) (fun _ _ _ e => e), hy.2⟩, heap_new rfl, heap_old ((hF.block w.heap.size (by simp; omega) (by omega)).trans (heap_old (heap_old (heap_new rfl)))), heap_old ((hF.block (w.heap.size + 1) (by simp) (by omega)).trans (heap_old (heap_new (by simp)))), hFa.trans hF3 (fun _ _ e => e), hsz, HNB.out⟩)
  clear hy hF hFa hF3 HY0 HNB h0 ha
  go_wp2_with fail
  refine Calls.mono (HH.out _) ?_
  rintro e wx ⟨rfl, rfl⟩
  clear HH
  unfold icells at HR0
  go_wp2_with fail
  refine Calls.mono (rs_int HR0.out hb 0 7 va h1) ?_
  rintro e w10 ⟨rfl, hR⟩
  have hc := hR.j.c1
  have hzf := hR.j.fz 1
  have hlt := hR.j.lt
  dsimp only [Ins.put] at hc
  have HR1 := hideIt (hR.putN 1 (by decide) (by decide) va)
  clear hR HR0
  obtain ⟨pl, er, ea⟩ := s1
  have c2 := HR1.out.y.1.c2
  dsimp only at c2
  by_cases hz : er = 0
  · subst hz
    have HE := hideIt (show endR ⟨v, va, 0, 0, 0, ⟨#[]⟩⟩ (pl, 0, ea) = (⟨v, va, 0, 0, 0, ⟨#[]⟩⟩, (pl : Int), 0, 0) from if_pos rfl)
    have HS := hideIt HR1.out.held
    have HA8h := hideIt HR1.out.adrew
    have HF8h := hideIt HR1.out.fdrew
    have HFL := hideIt HR1.out.flt
    have HFRw := hideIt HR1.out.frdrew
    go_wp2_with fail
    refine wp_region_held_drew (S := fun w0 => InsAt w0 w2.heap.size ⟨v, va, 0, 0, 0, ⟨#[]⟩⟩ ∧ w0.cell? ⟨w.heap.size + 2, 1, none⟩ = some (.int .i64 (pl : Int)) ∧ w0.cell? ⟨w.heap.size + 2, 2, none⟩ = some (.int .i64 0) ∧ w0.cell? ⟨w.heap.size + 2, 3, none⟩ = some (.int .i64 ea)) (by kernel_rfl) ?_ (fun hHeld => ?_)
    · exact HS.out _ (Fr.refl _ _).drew
    refine wpAnyH_take (i := 0) (v := ?v314) rfl (by kernel_rfl) (by kernel_rfl) (by kernel_rfl) (fun _ _ _ h => h) (Or.inl ⟨by rfl, ?hy314⟩) (by assumption) ?rest314
    case hy314 => intro w hSw; (try dsimp only at hSw); obtain ⟨hSI, hS1, hS2, hS3⟩ := hSw; have c0 := hSI.c0; have c1 := hSI.c1; have c2 := hSI.c2; have c3 := hSI.c3; have c4 := hSI.c4; have c5 := hSI.c5; go_simp; (try with_reducible rfl)
    try simp only [Act.put, List.getElem_toArray, List.getElem_cons_zero, List.getElem_cons_succ, List.setIfInBounds_toArray, List.set_cons_zero, List.set_cons_succ]
    refine wpAnyH_take (i := 1) (v := ?v315) rfl (by kernel_rfl) (by kernel_rfl) (by kernel_rfl) (fun _ _ _ h => h) (Or.inl ⟨by rfl, ?hy315⟩) (by assumption) ?rest315
    case hy315 => intro w hSw; (try dsimp only at hSw); go_simp; (try with_reducible rfl)
    try simp only [Act.put, List.getElem_toArray, List.getElem_cons_zero, List.getElem_cons_succ, List.setIfInBounds_toArray, List.set_cons_zero, List.set_cons_succ]
    refine wpAnyH_take (i := 2) (v := ?v316) rfl (by kernel_rfl) (by kernel_rfl) (by kernel_rfl) (fun _ _ _ h => h) (Or.inl ⟨by rfl, ?hy316⟩) (by assumption) ?rest316
    case hy316 => intro w hSw; (try dsimp only at hSw); go_simp; (try with_reducible rfl)
    try simp only [Act.put, List.getElem_toArray, List.getElem_cons_zero, List.getElem_cons_succ, List.setIfInBounds_toArray, List.set_cons_zero, List.set_cons_succ]
    refine wpAnyH_take (i := 3) (v := ?v317) rfl (by kernel_rfl) (by kernel_rfl) (by kernel_rfl) (fun _ _ _ h => h) (Or.inl ⟨by rfl, ?hy317⟩) (by assumption) ?rest317
    case hy317 => intro w hSw; (try dsimp only at hSw); go_simp; (try with_reducible rfl)
    try simp only [Act.put, List.getElem_toArray, List.getElem_cons_zero, List.getElem_cons_succ, List.setIfInBounds_toArray, List.set_cons_zero, List.set_cons_succ]
    refine wpAnyH_take (i := 4) (v := ?v318) rfl (by kernel_rfl) (by kernel_rfl) (by kernel_rfl) (fun _ _ _ h => h) (Or.inl ⟨by rfl, ?hy318⟩) (by assumption) ?rest318
    case hy318 => intro w hSw; (try dsimp only at hSw); go_simp; (try with_reducible rfl)
    try simp only [Act.put, List.getElem_toArray, List.getElem_cons_zero, List.getElem_cons_succ, List.setIfInBounds_toArray, List.set_cons_zero, List.set_cons_succ]
    refine wpAnyH_take (i := 5) (v := ?v319) rfl (by kernel_rfl) (by kernel_rfl) (by kernel_rfl) (fun _ _ _ h => h) (Or.inl ⟨by rfl, ?hy319⟩) (by assumption) ?rest319
    case hy319 => intro w hSw; (try dsimp only at hSw); go_simp; (try with_reducible rfl)
    try simp only [Act.put, List.getElem_toArray, List.getElem_cons_zero, List.getElem_cons_succ, List.setIfInBounds_toArray, List.set_cons_zero, List.set_cons_succ]
    refine wpAnyH_ready (rs := [6]) (by kernel_rfl) (by simp) ?_
    refine AllReadyH.cons rfl (fun K hK => ?_) AllReadyH.nil
    rw [if_pos (by rfl)]
    refine wp_store_mid 40 _ _ rfl w.heap.size 0 (icells ⟨v, va, 0, 0, 0, ⟨#[]⟩⟩) rfl rfl (there_row HA8h.out _ (Nat.le_refl _)) (by kernel_rfl) (icells_one _) ?_
    obtain ⟨hst, hfr⟩ := store_over (V := (icells ⟨v, va, 0, 0, 0, ⟨#[]⟩⟩)) HA8h.out (by rfl)
    have HA10 := hideIt hst
    have HFr10 := hideIt (hfr.mono (S' := fun k => k = w.heap.size ∨ k = w.heap.size + 1) (fun _ e => Or.inl e))
    have HG10 := hideIt ((hfr.block (w.heap.size + 1) HFL.out (by omega)).trans HF8h.out)
    clear hst hfr
    generalize hW10 : World.setCells _ w.heap.size 0 _ = W10 at *
    clear hW10
    refine hK.out _ _ ?_ (fun hHeld => ?_)
    · exact HS.out _ ((Fr.refl _ _).drew.trans HFr10.out (fun _ _ e => e))
    clear hK K
    try simp only [Act.put, List.getElem_toArray, List.getElem_cons_zero, List.getElem_cons_succ, List.setIfInBounds_toArray, List.set_cons_zero, List.set_cons_succ]
    refine wpAnyH_take (i := 7) (v := ?v320) rfl (by kernel_rfl) (by kernel_rfl) (by kernel_rfl) (fun _ _ _ h => h) (Or.inl ⟨by rfl, ?hy320⟩) (by assumption) ?rest320
    case hy320 => intro w hSw; (try dsimp only at hSw); go_simp; (try with_reducible rfl)
    try simp only [Act.put, List.getElem_toArray, List.getElem_cons_zero, List.getElem_cons_succ, List.setIfInBounds_toArray, List.set_cons_zero, List.set_cons_succ]
    refine wpAnyH_ready (rs := [8]) (by kernel_rfl) (by simp) ?_
    refine AllReadyH.cons rfl (fun K hK => ?_) AllReadyH.nil
    rw [if_pos (by rfl)]
    refine wp_store_mid 28 _ _ rfl (w.heap.size + 1) 0 #[.int .i64 0, .int .i64 0] rfl rfl (there_row HG10.out _ (Nat.le_refl _)) (by kernel_rfl) (fault_one _ _) ?_
    obtain ⟨hst, hfr⟩ := store_over (V := #[.int .i64 0, .int .i64 0]) HG10.out (by rfl)
    have HG11 := hideIt hst
    have HFr11 := hideIt (HFr10.out.trans hfr (fun _ _ e => Or.inr e))
    have HA11 := hideIt ((hfr.block w.heap.size (Array.getElem?_eq_some_iff.1 HA10.out).1 (by omega)).trans HA10.out)
    clear hst hfr
    generalize hW11 : World.setCells _ (w.heap.size + 1) 0 _ = W11 at *
    clear hW11
    refine hK.out _ _ ?_ (fun hHeld => ?_)
    · exact HS.out _ ((Fr.refl _ _).drew.trans HFr11.out (fun _ _ e => e))
    clear hK K
    try simp only [Act.put, List.getElem_toArray, List.getElem_cons_zero, List.getElem_cons_succ, List.setIfInBounds_toArray, List.set_cons_zero, List.set_cons_succ]
    refine wpAnyH_done (by kernel_rfl) ?_ _
    go_wp2_with fail
    have hA0 := cellOfHeap HA11.out 0 rfl
    have hA1 := cellOfHeap HA11.out 1 rfl
    have hA2 := cellOfHeap HA11.out 2 rfl
    have hA3 := cellOfHeap HA11.out 3 rfl
    have hA4 := cellOfHeap HA11.out 4 rfl
    have hA5 := cellOfHeap HA11.out 5 rfl
    have hF0 := cellOfHeap HG11.out 0 rfl
    have hF1 := cellOfHeap HG11.out 1 rfl
    refine bodyPost_ret (v := readV (⟨v, va, 0, 0, 0, ⟨#[]⟩⟩, (pl : Int), 0, 0)) (by simp [results, Try.results32, go_sem, readV, icells, zeroI, hA0, hA1, hA2, hA3, hA4, hA5, hF0, hF1]) rfl ⟨by rw [HE.out], ?_⟩
    exact HFRw.out.trans HFr11.out (fun k hk e => by omega)
  · have HE := hideIt (show endR ⟨v, va, 0, 0, 0, ⟨#[]⟩⟩ (pl, er, ea) = (zeroI, 0, er, ea) from if_neg hz)
    have hzb : (er != 0) = true := by simpa using hz
    have HS := hideIt HR1.out.held
    have HA8h := hideIt HR1.out.adrew
    have HF8h := hideIt HR1.out.fdrew
    have HFL := hideIt HR1.out.flt
    have HFRw := hideIt HR1.out.frdrew
    go_wp2_with fail
    refine wp_region_held_drew (S := fun w0 => InsAt w0 w2.heap.size ⟨v, va, 0, 0, 0, ⟨#[]⟩⟩ ∧ w0.cell? ⟨w.heap.size + 2, 1, none⟩ = some (.int .i64 (pl : Int)) ∧ w0.cell? ⟨w.heap.size + 2, 2, none⟩ = some (.int .i64 er) ∧ w0.cell? ⟨w.heap.size + 2, 3, none⟩ = some (.int .i64 ea)) (by kernel_rfl) ?_ (fun hHeld => ?_)
    · exact HS.out _ (Fr.refl _ _).drew
    refine wpAnyH_take (i := 0) (v := ?v321) rfl (by kernel_rfl) (by kernel_rfl) (by kernel_rfl) (fun _ _ _ h => h) (Or.inl ⟨by rfl, ?hy321⟩) (by assumption) ?rest321
    case hy321 => intro w hSw; (try dsimp only at hSw); go_simp; (try with_reducible rfl)
    try simp only [Act.put, List.getElem_toArray, List.getElem_cons_zero, List.getElem_cons_succ, List.setIfInBounds_toArray, List.set_cons_zero, List.set_cons_succ]
    refine wpAnyH_take (i := 1) (v := ?v322) rfl (by kernel_rfl) (by kernel_rfl) (by kernel_rfl) (fun _ _ _ h => h) (Or.inl ⟨by rfl, ?hy322⟩) (by assumption) ?rest322
    case hy322 => intro w hSw; (try dsimp only at hSw); go_simp; (try with_reducible rfl)
    try simp only [Act.put, List.getElem_toArray, List.getElem_cons_zero, List.getElem_cons_succ, List.setIfInBounds_toArray, List.set_cons_zero, List.set_cons_succ]
    refine wpAnyH_take (i := 2) (v := ?v323) rfl (by kernel_rfl) (by kernel_rfl) (by kernel_rfl) (fun _ _ _ h => h) (Or.inl ⟨by rfl, ?hy323⟩) (by assumption) ?rest323
    case hy323 => intro w hSw; (try dsimp only at hSw); go_simp; (try with_reducible rfl)
    try simp only [Act.put, List.getElem_toArray, List.getElem_cons_zero, List.getElem_cons_succ, List.setIfInBounds_toArray, List.set_cons_zero, List.set_cons_succ]
    refine wpAnyH_take (i := 3) (v := ?v324) rfl (by kernel_rfl) (by kernel_rfl) (by kernel_rfl) (fun _ _ _ h => h) (Or.inl ⟨by rfl, ?hy324⟩) (by assumption) ?rest324
    case hy324 => intro w hSw; (try dsimp only at hSw); go_simp; (try with_reducible rfl)
    try simp only [Act.put, List.getElem_toArray, List.getElem_cons_zero, List.getElem_cons_succ, List.setIfInBounds_toArray, List.set_cons_zero, List.set_cons_succ]
    refine wpAnyH_take (i := 4) (v := ?v325) rfl (by kernel_rfl) (by kernel_rfl) (by kernel_rfl) (fun _ _ _ h => h) (Or.inl ⟨by rfl, ?hy325⟩) (by assumption) ?rest325
    case hy325 => intro w hSw; (try dsimp only at hSw); go_simp; (try with_reducible rfl)
    try simp only [Act.put, List.getElem_toArray, List.getElem_cons_zero, List.getElem_cons_succ, List.setIfInBounds_toArray, List.set_cons_zero, List.set_cons_succ]
    refine wpAnyH_ready (rs := [5]) (by kernel_rfl) (by simp) ?_
    refine AllReadyH.cons rfl (fun K hK => ?_) AllReadyH.nil
    rw [if_pos (by rfl)]
    refine wp_store_mid 40 _ _ rfl w.heap.size 0 (icells zeroI) rfl rfl (there_row HA8h.out _ (Nat.le_refl _)) (by kernel_rfl) (icells_one _) ?_
    obtain ⟨hst, hfr⟩ := store_over (V := (icells zeroI)) HA8h.out (by rfl)
    have HA10 := hideIt hst
    have HFr10 := hideIt (hfr.mono (S' := fun k => k = w.heap.size ∨ k = w.heap.size + 1) (fun _ e => Or.inl e))
    have HG10 := hideIt ((hfr.block (w.heap.size + 1) HFL.out (by omega)).trans HF8h.out)
    clear hst hfr
    generalize hW10 : World.setCells _ w.heap.size 0 _ = W10 at *
    clear hW10
    refine hK.out _ _ ?_ (fun hHeld => ?_)
    · exact HS.out _ ((Fr.refl _ _).drew.trans HFr10.out (fun _ _ e => e))
    clear hK K
    try simp only [Act.put, List.getElem_toArray, List.getElem_cons_zero, List.getElem_cons_succ, List.setIfInBounds_toArray, List.set_cons_zero, List.set_cons_succ]
    refine wpAnyH_take (i := 6) (v := ?v326) rfl (by kernel_rfl) (by kernel_rfl) (by kernel_rfl) (fun _ _ _ h => h) (Or.inl ⟨by rfl, ?hy326⟩) (by assumption) ?rest326
    case hy326 => intro w hSw; (try dsimp only at hSw); go_simp; (try with_reducible rfl)
    try simp only [Act.put, List.getElem_toArray, List.getElem_cons_zero, List.getElem_cons_succ, List.setIfInBounds_toArray, List.set_cons_zero, List.set_cons_succ]
    refine wpAnyH_ready (rs := [7]) (by kernel_rfl) (by simp) ?_
    refine AllReadyH.cons rfl (fun K hK => ?_) AllReadyH.nil
    rw [if_pos (by rfl)]
    refine wp_store_mid 28 _ _ rfl (w.heap.size + 1) 0 #[.int .i64 er, .int .i64 ea] rfl rfl (there_row HG10.out _ (Nat.le_refl _)) (by kernel_rfl) (fault_one _ _) ?_
    obtain ⟨hst, hfr⟩ := store_over (V := #[.int .i64 er, .int .i64 ea]) HG10.out (by rfl)
    have HG11 := hideIt hst
    have HFr11 := hideIt (HFr10.out.trans hfr (fun _ _ e => Or.inr e))
    have HA11 := hideIt ((hfr.block w.heap.size (Array.getElem?_eq_some_iff.1 HA10.out).1 (by omega)).trans HA10.out)
    clear hst hfr
    generalize hW11 : World.setCells _ (w.heap.size + 1) 0 _ = W11 at *
    clear hW11
    refine hK.out _ _ ?_ (fun hHeld => ?_)
    · exact HS.out _ ((Fr.refl _ _).drew.trans HFr11.out (fun _ _ e => e))
    clear hK K
    try simp only [Act.put, List.getElem_toArray, List.getElem_cons_zero, List.getElem_cons_succ, List.setIfInBounds_toArray, List.set_cons_zero, List.set_cons_succ]
    refine wpAnyH_done (by kernel_rfl) ?_ _
    go_wp2_with fail
    have hA0 := cellOfHeap HA11.out 0 rfl
    have hA1 := cellOfHeap HA11.out 1 rfl
    have hA2 := cellOfHeap HA11.out 2 rfl
    have hA3 := cellOfHeap HA11.out 3 rfl
    have hA4 := cellOfHeap HA11.out 4 rfl
    have hA5 := cellOfHeap HA11.out 5 rfl
    have hF0 := cellOfHeap HG11.out 0 rfl
    have hF1 := cellOfHeap HG11.out 1 rfl
    refine bodyPost_ret (v := readV (zeroI, 0, er, ea)) (by simp [results, Try.results32, go_sem, readV, icells, zeroI, hA0, hA1, hA2, hA3, hA4, hA5, hF0, hF1]) rfl ⟨by rw [HE.out], ?_⟩
    exact HFRw.out.trans HFr11.out (fun k hk e => by omega)

end Go.Proofs.Ytojgikaoiegmpaa

/- Code: the document's Read: letters AS, letters AB. -/
namespace Go.Proofs.Ytojgikaoiegmpaa
open Go.RowKit Go.IntWalk Go.Lib
set_option linter.unusedSimpArgs false
set_option linter.unusedVariables false
set_option maxRecDepth 100000

set_option maxRecDepth 100000 in
set_option maxHeartbeats 4000000 in
theorem vread_AS (ao : Option Addr) (cap : Nat) (bs : List UInt8) (a : Nat) (w : World) (hB : BsAt w ao bs) (hb : bs.length ≤ 140737488355328) (hcl : bs.length ≤ cap) (hcm : cap ≤ maxLen) (hnb : ∀ k, blk ao k → k < w.heap.size) (ha : a ≤ bs.length) (v : Int) (va : Int) (vs : List UInt8) (s0 s1 s2 : Nat × Int × Int) (h0 : rInt bs 1 15 (a, 0, 0) = (v, s0)) (h1 : rInt bs 0 7 s0 = (va, s1)) (h2 : rText bs 64 s1 = (vs, s2)) (ht : hasT v = (true, false, false, false, true)) :
    Calls Try.prog 32 #[.slice ao bs.length cap, .int .i64 (a : Int)] w fun e w' => e = .returned (readV (endR ⟨v, va, 0, 0, 0, ⟨vs.toArray⟩⟩ s2)) ∧ Fr (fun _ => False) w w' := by
  have hd1 : decide ((a : Int) < 0) = false := decide_eq_false (by omega)
  have hd2 : decide ((bs.length : Int) < (a : Int)) = false := decide_eq_false (by omega)
  have HH := hideIt (fun w => by have := vhas_any v w; rw [ht] at this; exact this)
  unfold hasV at HH
  have HY0 := hideIt (show YOk ((((w.alloc (.cells (icells zeroI) 40)).alloc (.cells #[.int .i64 0, .int .i64 0] 28))).alloc (.cells #[.slice ao bs.length cap, .int .i64 (a : Int), .int .i64 0, .int .i64 0] 63)) (w.heap.size + 2) ao cap bs (a, 0, 0) from
    ⟨⟨heap_new (by simp), hB.fr ((((Fr.refl (fun _ => False) w).alloc _).alloc _).alloc _) (fun _ _ _ e => e)⟩, fun e => by have := hnb _ e; omega, ha⟩)
  have HNB := hideIt hnb
  have HCM := hideIt hcm
  clear hB ht hnb hcm
  go_enter Try.func32, Try.ntmps32
  go_wp2_with fail
  refine Calls.mono (yint_any (w.heap.size + 2) ao cap bs (a, 0, 0) 1 15 _ HY0.out hb) ?_
  rw [h0]
  rintro e w2 ⟨rfl, hy, hF⟩
  have hFa : Fr (fun _ => False) w w2 := ((((Fr.refl (fun _ => False) w).alloc _).alloc _).alloc _).trans hF (fun k hk e => by omega)
  have hsz : w.heap.size + 2 < w2.heap.size := hy.1.lt
  have hF3 : Fr (fun _ => False) w2 (w2.alloc (.cells (icells ⟨v, 0, 0, 0, 0, ⟨#[]⟩⟩) 40)) := (Fr.refl _ _).alloc _
  have HR0 := hideIt (show RS w (w2.alloc (.cells (icells ⟨v, 0, 0, 0, 0, ⟨#[]⟩⟩) 40)) w2.heap.size ao cap bs s0 ⟨v, 0, 0, 0, 0, ⟨#[]⟩⟩ from
    ⟨⟨hy.1.fr hF3 (fun e => e) (fun _ _ _ e => e), hy.2⟩, heap_new rfl, heap_old ((hF.block w.heap.size (by simp; omega) (by omega)).trans (heap_old (heap_old (heap_new rfl)))), heap_old ((hF.block (w.heap.size + 1) (by simp) (by omega)).trans (heap_old (heap_new (by simp)))), hFa.trans hF3 (fun _ _ e => e), hsz, HNB.out⟩)
  clear hy hF hFa hF3 HY0 HNB h0 ha
  go_wp2_with fail
  refine Calls.mono (HH.out _) ?_
  rintro e wx ⟨rfl, rfl⟩
  clear HH
  unfold icells at HR0
  go_wp2_with fail
  refine Calls.mono (rs_int HR0.out hb 0 7 va h1) ?_
  rintro e w10 ⟨rfl, hR⟩
  have hc := hR.j.c1
  have hzf := hR.j.fz 1
  have hlt := hR.j.lt
  dsimp only [Ins.put] at hc
  have HR1 := hideIt (hR.putN 1 (by decide) (by decide) va)
  clear hR HR0
  go_wp2_with fail
  clear hc hzf hlt
  refine Calls.mono (rs_text HR1.out hb hcl HCM.out vs h2) ?_
  rintro e w11 ⟨rfl, hR⟩
  have hc := hR.j.c5
  have hzf := hR.j.fz 5
  have hlt := hR.j.lt
  dsimp only [Ins.put] at hc
  have HR2 := hideIt (hR.putS ⟨vs.toArray⟩)
  clear hR HR1
  obtain ⟨pl, er, ea⟩ := s2
  have c2 := HR2.out.y.1.c2
  dsimp only at c2
  by_cases hz : er = 0
  · subst hz
    have HE := hideIt (show endR ⟨v, va, 0, 0, 0, ⟨vs.toArray⟩⟩ (pl, 0, ea) = (⟨v, va, 0, 0, 0, ⟨vs.toArray⟩⟩, (pl : Int), 0, 0) from if_pos rfl)
    have HS := hideIt HR2.out.held
    have HA8h := hideIt HR2.out.adrew
    have HF8h := hideIt HR2.out.fdrew
    have HFL := hideIt HR2.out.flt
    have HFRw := hideIt HR2.out.frdrew
    go_wp2_with fail
    refine wp_region_held_drew (S := fun w0 => InsAt w0 w2.heap.size ⟨v, va, 0, 0, 0, ⟨vs.toArray⟩⟩ ∧ w0.cell? ⟨w.heap.size + 2, 1, none⟩ = some (.int .i64 (pl : Int)) ∧ w0.cell? ⟨w.heap.size + 2, 2, none⟩ = some (.int .i64 0) ∧ w0.cell? ⟨w.heap.size + 2, 3, none⟩ = some (.int .i64 ea)) (by kernel_rfl) ?_ (fun hHeld => ?_)
    · exact HS.out _ (Fr.refl _ _).drew
    refine wpAnyH_take (i := 0) (v := ?v327) rfl (by kernel_rfl) (by kernel_rfl) (by kernel_rfl) (fun _ _ _ h => h) (Or.inl ⟨by rfl, ?hy327⟩) (by assumption) ?rest327
    case hy327 => intro w hSw; (try dsimp only at hSw); obtain ⟨hSI, hS1, hS2, hS3⟩ := hSw; have c0 := hSI.c0; have c1 := hSI.c1; have c2 := hSI.c2; have c3 := hSI.c3; have c4 := hSI.c4; have c5 := hSI.c5; go_simp; (try with_reducible rfl)
    try simp only [Act.put, List.getElem_toArray, List.getElem_cons_zero, List.getElem_cons_succ, List.setIfInBounds_toArray, List.set_cons_zero, List.set_cons_succ]
    refine wpAnyH_take (i := 1) (v := ?v328) rfl (by kernel_rfl) (by kernel_rfl) (by kernel_rfl) (fun _ _ _ h => h) (Or.inl ⟨by rfl, ?hy328⟩) (by assumption) ?rest328
    case hy328 => intro w hSw; (try dsimp only at hSw); go_simp; (try with_reducible rfl)
    try simp only [Act.put, List.getElem_toArray, List.getElem_cons_zero, List.getElem_cons_succ, List.setIfInBounds_toArray, List.set_cons_zero, List.set_cons_succ]
    refine wpAnyH_take (i := 2) (v := ?v329) rfl (by kernel_rfl) (by kernel_rfl) (by kernel_rfl) (fun _ _ _ h => h) (Or.inl ⟨by rfl, ?hy329⟩) (by assumption) ?rest329
    case hy329 => intro w hSw; (try dsimp only at hSw); go_simp; (try with_reducible rfl)
    try simp only [Act.put, List.getElem_toArray, List.getElem_cons_zero, List.getElem_cons_succ, List.setIfInBounds_toArray, List.set_cons_zero, List.set_cons_succ]
    refine wpAnyH_take (i := 3) (v := ?v330) rfl (by kernel_rfl) (by kernel_rfl) (by kernel_rfl) (fun _ _ _ h => h) (Or.inl ⟨by rfl, ?hy330⟩) (by assumption) ?rest330
    case hy330 => intro w hSw; (try dsimp only at hSw); go_simp; (try with_reducible rfl)
    try simp only [Act.put, List.getElem_toArray, List.getElem_cons_zero, List.getElem_cons_succ, List.setIfInBounds_toArray, List.set_cons_zero, List.set_cons_succ]
    refine wpAnyH_take (i := 4) (v := ?v331) rfl (by kernel_rfl) (by kernel_rfl) (by kernel_rfl) (fun _ _ _ h => h) (Or.inl ⟨by rfl, ?hy331⟩) (by assumption) ?rest331
    case hy331 => intro w hSw; (try dsimp only at hSw); go_simp; (try with_reducible rfl)
    try simp only [Act.put, List.getElem_toArray, List.getElem_cons_zero, List.getElem_cons_succ, List.setIfInBounds_toArray, List.set_cons_zero, List.set_cons_succ]
    refine wpAnyH_take (i := 5) (v := ?v332) rfl (by kernel_rfl) (by kernel_rfl) (by kernel_rfl) (fun _ _ _ h => h) (Or.inl ⟨by rfl, ?hy332⟩) (by assumption) ?rest332
    case hy332 => intro w hSw; (try dsimp only at hSw); go_simp; (try with_reducible rfl)
    try simp only [Act.put, List.getElem_toArray, List.getElem_cons_zero, List.getElem_cons_succ, List.setIfInBounds_toArray, List.set_cons_zero, List.set_cons_succ]
    refine wpAnyH_ready (rs := [6]) (by kernel_rfl) (by simp) ?_
    refine AllReadyH.cons rfl (fun K hK => ?_) AllReadyH.nil
    rw [if_pos (by rfl)]
    refine wp_store_mid 40 _ _ rfl w.heap.size 0 (icells ⟨v, va, 0, 0, 0, ⟨vs.toArray⟩⟩) rfl rfl (there_row HA8h.out _ (Nat.le_refl _)) (by kernel_rfl) (icells_one _) ?_
    obtain ⟨hst, hfr⟩ := store_over (V := (icells ⟨v, va, 0, 0, 0, ⟨vs.toArray⟩⟩)) HA8h.out (by rfl)
    have HA10 := hideIt hst
    have HFr10 := hideIt (hfr.mono (S' := fun k => k = w.heap.size ∨ k = w.heap.size + 1) (fun _ e => Or.inl e))
    have HG10 := hideIt ((hfr.block (w.heap.size + 1) HFL.out (by omega)).trans HF8h.out)
    clear hst hfr
    generalize hW10 : World.setCells _ w.heap.size 0 _ = W10 at *
    clear hW10
    refine hK.out _ _ ?_ (fun hHeld => ?_)
    · exact HS.out _ ((Fr.refl _ _).drew.trans HFr10.out (fun _ _ e => e))
    clear hK K
    try simp only [Act.put, List.getElem_toArray, List.getElem_cons_zero, List.getElem_cons_succ, List.setIfInBounds_toArray, List.set_cons_zero, List.set_cons_succ]
    refine wpAnyH_take (i := 7) (v := ?v333) rfl (by kernel_rfl) (by kernel_rfl) (by kernel_rfl) (fun _ _ _ h => h) (Or.inl ⟨by rfl, ?hy333⟩) (by assumption) ?rest333
    case hy333 => intro w hSw; (try dsimp only at hSw); go_simp; (try with_reducible rfl)
    try simp only [Act.put, List.getElem_toArray, List.getElem_cons_zero, List.getElem_cons_succ, List.setIfInBounds_toArray, List.set_cons_zero, List.set_cons_succ]
    refine wpAnyH_ready (rs := [8]) (by kernel_rfl) (by simp) ?_
    refine AllReadyH.cons rfl (fun K hK => ?_) AllReadyH.nil
    rw [if_pos (by rfl)]
    refine wp_store_mid 28 _ _ rfl (w.heap.size + 1) 0 #[.int .i64 0, .int .i64 0] rfl rfl (there_row HG10.out _ (Nat.le_refl _)) (by kernel_rfl) (fault_one _ _) ?_
    obtain ⟨hst, hfr⟩ := store_over (V := #[.int .i64 0, .int .i64 0]) HG10.out (by rfl)
    have HG11 := hideIt hst
    have HFr11 := hideIt (HFr10.out.trans hfr (fun _ _ e => Or.inr e))
    have HA11 := hideIt ((hfr.block w.heap.size (Array.getElem?_eq_some_iff.1 HA10.out).1 (by omega)).trans HA10.out)
    clear hst hfr
    generalize hW11 : World.setCells _ (w.heap.size + 1) 0 _ = W11 at *
    clear hW11
    refine hK.out _ _ ?_ (fun hHeld => ?_)
    · exact HS.out _ ((Fr.refl _ _).drew.trans HFr11.out (fun _ _ e => e))
    clear hK K
    try simp only [Act.put, List.getElem_toArray, List.getElem_cons_zero, List.getElem_cons_succ, List.setIfInBounds_toArray, List.set_cons_zero, List.set_cons_succ]
    refine wpAnyH_done (by kernel_rfl) ?_ _
    go_wp2_with fail
    have hA0 := cellOfHeap HA11.out 0 rfl
    have hA1 := cellOfHeap HA11.out 1 rfl
    have hA2 := cellOfHeap HA11.out 2 rfl
    have hA3 := cellOfHeap HA11.out 3 rfl
    have hA4 := cellOfHeap HA11.out 4 rfl
    have hA5 := cellOfHeap HA11.out 5 rfl
    have hF0 := cellOfHeap HG11.out 0 rfl
    have hF1 := cellOfHeap HG11.out 1 rfl
    refine bodyPost_ret (v := readV (⟨v, va, 0, 0, 0, ⟨vs.toArray⟩⟩, (pl : Int), 0, 0)) (by simp [results, Try.results32, go_sem, readV, icells, zeroI, hA0, hA1, hA2, hA3, hA4, hA5, hF0, hF1]) rfl ⟨by rw [HE.out], ?_⟩
    exact HFRw.out.trans HFr11.out (fun k hk e => by omega)
  · have HE := hideIt (show endR ⟨v, va, 0, 0, 0, ⟨vs.toArray⟩⟩ (pl, er, ea) = (zeroI, 0, er, ea) from if_neg hz)
    have hzb : (er != 0) = true := by simpa using hz
    have HS := hideIt HR2.out.held
    have HA8h := hideIt HR2.out.adrew
    have HF8h := hideIt HR2.out.fdrew
    have HFL := hideIt HR2.out.flt
    have HFRw := hideIt HR2.out.frdrew
    go_wp2_with fail
    refine wp_region_held_drew (S := fun w0 => InsAt w0 w2.heap.size ⟨v, va, 0, 0, 0, ⟨vs.toArray⟩⟩ ∧ w0.cell? ⟨w.heap.size + 2, 1, none⟩ = some (.int .i64 (pl : Int)) ∧ w0.cell? ⟨w.heap.size + 2, 2, none⟩ = some (.int .i64 er) ∧ w0.cell? ⟨w.heap.size + 2, 3, none⟩ = some (.int .i64 ea)) (by kernel_rfl) ?_ (fun hHeld => ?_)
    · exact HS.out _ (Fr.refl _ _).drew
    refine wpAnyH_take (i := 0) (v := ?v334) rfl (by kernel_rfl) (by kernel_rfl) (by kernel_rfl) (fun _ _ _ h => h) (Or.inl ⟨by rfl, ?hy334⟩) (by assumption) ?rest334
    case hy334 => intro w hSw; (try dsimp only at hSw); go_simp; (try with_reducible rfl)
    try simp only [Act.put, List.getElem_toArray, List.getElem_cons_zero, List.getElem_cons_succ, List.setIfInBounds_toArray, List.set_cons_zero, List.set_cons_succ]
    refine wpAnyH_take (i := 1) (v := ?v335) rfl (by kernel_rfl) (by kernel_rfl) (by kernel_rfl) (fun _ _ _ h => h) (Or.inl ⟨by rfl, ?hy335⟩) (by assumption) ?rest335
    case hy335 => intro w hSw; (try dsimp only at hSw); go_simp; (try with_reducible rfl)
    try simp only [Act.put, List.getElem_toArray, List.getElem_cons_zero, List.getElem_cons_succ, List.setIfInBounds_toArray, List.set_cons_zero, List.set_cons_succ]
    refine wpAnyH_take (i := 2) (v := ?v336) rfl (by kernel_rfl) (by kernel_rfl) (by kernel_rfl) (fun _ _ _ h => h) (Or.inl ⟨by rfl, ?hy336⟩) (by assumption) ?rest336
    case hy336 => intro w hSw; (try dsimp only at hSw); go_simp; (try with_reducible rfl)
    try simp only [Act.put, List.getElem_toArray, List.getElem_cons_zero, List.getElem_cons_succ, List.setIfInBounds_toArray, List.set_cons_zero, List.set_cons_succ]
    refine wpAnyH_take (i := 3) (v := ?v337) rfl (by kernel_rfl) (by kernel_rfl) (by kernel_rfl) (fun _ _ _ h => h) (Or.inl ⟨by rfl, ?hy337⟩) (by assumption) ?rest337
    case hy337 => intro w hSw; (try dsimp only at hSw); go_simp; (try with_reducible rfl)
    try simp only [Act.put, List.getElem_toArray, List.getElem_cons_zero, List.getElem_cons_succ, List.setIfInBounds_toArray, List.set_cons_zero, List.set_cons_succ]
    refine wpAnyH_take (i := 4) (v := ?v338) rfl (by kernel_rfl) (by kernel_rfl) (by kernel_rfl) (fun _ _ _ h => h) (Or.inl ⟨by rfl, ?hy338⟩) (by assumption) ?rest338
    case hy338 => intro w hSw; (try dsimp only at hSw); go_simp; (try with_reducible rfl)
    try simp only [Act.put, List.getElem_toArray, List.getElem_cons_zero, List.getElem_cons_succ, List.setIfInBounds_toArray, List.set_cons_zero, List.set_cons_succ]
    refine wpAnyH_ready (rs := [5]) (by kernel_rfl) (by simp) ?_
    refine AllReadyH.cons rfl (fun K hK => ?_) AllReadyH.nil
    rw [if_pos (by rfl)]
    refine wp_store_mid 40 _ _ rfl w.heap.size 0 (icells zeroI) rfl rfl (there_row HA8h.out _ (Nat.le_refl _)) (by kernel_rfl) (icells_one _) ?_
    obtain ⟨hst, hfr⟩ := store_over (V := (icells zeroI)) HA8h.out (by rfl)
    have HA10 := hideIt hst
    have HFr10 := hideIt (hfr.mono (S' := fun k => k = w.heap.size ∨ k = w.heap.size + 1) (fun _ e => Or.inl e))
    have HG10 := hideIt ((hfr.block (w.heap.size + 1) HFL.out (by omega)).trans HF8h.out)
    clear hst hfr
    generalize hW10 : World.setCells _ w.heap.size 0 _ = W10 at *
    clear hW10
    refine hK.out _ _ ?_ (fun hHeld => ?_)
    · exact HS.out _ ((Fr.refl _ _).drew.trans HFr10.out (fun _ _ e => e))
    clear hK K
    try simp only [Act.put, List.getElem_toArray, List.getElem_cons_zero, List.getElem_cons_succ, List.setIfInBounds_toArray, List.set_cons_zero, List.set_cons_succ]
    refine wpAnyH_take (i := 6) (v := ?v339) rfl (by kernel_rfl) (by kernel_rfl) (by kernel_rfl) (fun _ _ _ h => h) (Or.inl ⟨by rfl, ?hy339⟩) (by assumption) ?rest339
    case hy339 => intro w hSw; (try dsimp only at hSw); go_simp; (try with_reducible rfl)
    try simp only [Act.put, List.getElem_toArray, List.getElem_cons_zero, List.getElem_cons_succ, List.setIfInBounds_toArray, List.set_cons_zero, List.set_cons_succ]
    refine wpAnyH_ready (rs := [7]) (by kernel_rfl) (by simp) ?_
    refine AllReadyH.cons rfl (fun K hK => ?_) AllReadyH.nil
    rw [if_pos (by rfl)]
    refine wp_store_mid 28 _ _ rfl (w.heap.size + 1) 0 #[.int .i64 er, .int .i64 ea] rfl rfl (there_row HG10.out _ (Nat.le_refl _)) (by kernel_rfl) (fault_one _ _) ?_
    obtain ⟨hst, hfr⟩ := store_over (V := #[.int .i64 er, .int .i64 ea]) HG10.out (by rfl)
    have HG11 := hideIt hst
    have HFr11 := hideIt (HFr10.out.trans hfr (fun _ _ e => Or.inr e))
    have HA11 := hideIt ((hfr.block w.heap.size (Array.getElem?_eq_some_iff.1 HA10.out).1 (by omega)).trans HA10.out)
    clear hst hfr
    generalize hW11 : World.setCells _ (w.heap.size + 1) 0 _ = W11 at *
    clear hW11
    refine hK.out _ _ ?_ (fun hHeld => ?_)
    · exact HS.out _ ((Fr.refl _ _).drew.trans HFr11.out (fun _ _ e => e))
    clear hK K
    try simp only [Act.put, List.getElem_toArray, List.getElem_cons_zero, List.getElem_cons_succ, List.setIfInBounds_toArray, List.set_cons_zero, List.set_cons_succ]
    refine wpAnyH_done (by kernel_rfl) ?_ _
    go_wp2_with fail
    have hA0 := cellOfHeap HA11.out 0 rfl
    have hA1 := cellOfHeap HA11.out 1 rfl
    have hA2 := cellOfHeap HA11.out 2 rfl
    have hA3 := cellOfHeap HA11.out 3 rfl
    have hA4 := cellOfHeap HA11.out 4 rfl
    have hA5 := cellOfHeap HA11.out 5 rfl
    have hF0 := cellOfHeap HG11.out 0 rfl
    have hF1 := cellOfHeap HG11.out 1 rfl
    refine bodyPost_ret (v := readV (zeroI, 0, er, ea)) (by simp [results, Try.results32, go_sem, readV, icells, zeroI, hA0, hA1, hA2, hA3, hA4, hA5, hF0, hF1]) rfl ⟨by rw [HE.out], ?_⟩
    exact HFRw.out.trans HFr11.out (fun k hk e => by omega)

set_option maxRecDepth 100000 in
set_option maxHeartbeats 4000000 in
theorem vread_AB (ao : Option Addr) (cap : Nat) (bs : List UInt8) (a : Nat) (w : World) (hB : BsAt w ao bs) (hb : bs.length ≤ 140737488355328) (hcl : bs.length ≤ cap) (hcm : cap ≤ maxLen) (hnb : ∀ k, blk ao k → k < w.heap.size) (ha : a ≤ bs.length) (v : Int) (va : Int) (vb : Int) (s0 s1 s2 : Nat × Int × Int) (h0 : rInt bs 1 15 (a, 0, 0) = (v, s0)) (h1 : rInt bs 0 7 s0 = (va, s1)) (h2 : rInt bs 0 7 s1 = (vb, s2)) (ht : hasT v = (true, true, false, false, false)) :
    Calls Try.prog 32 #[.slice ao bs.length cap, .int .i64 (a : Int)] w fun e w' => e = .returned (readV (endR ⟨v, va, vb, 0, 0, ⟨#[]⟩⟩ s2)) ∧ Fr (fun _ => False) w w' := by
  have hd1 : decide ((a : Int) < 0) = false := decide_eq_false (by omega)
  have hd2 : decide ((bs.length : Int) < (a : Int)) = false := decide_eq_false (by omega)
  have HH := hideIt (fun w => by have := vhas_any v w; rw [ht] at this; exact this)
  unfold hasV at HH
  have HY0 := hideIt (show YOk ((((w.alloc (.cells (icells zeroI) 40)).alloc (.cells #[.int .i64 0, .int .i64 0] 28))).alloc (.cells #[.slice ao bs.length cap, .int .i64 (a : Int), .int .i64 0, .int .i64 0] 63)) (w.heap.size + 2) ao cap bs (a, 0, 0) from
    ⟨⟨heap_new (by simp), hB.fr ((((Fr.refl (fun _ => False) w).alloc _).alloc _).alloc _) (fun _ _ _ e => e)⟩, fun e => by have := hnb _ e; omega, ha⟩)
  have HNB := hideIt hnb
  have HCM := hideIt hcm
  clear hB ht hnb hcm
  go_enter Try.func32, Try.ntmps32
  go_wp2_with fail
  refine Calls.mono (yint_any (w.heap.size + 2) ao cap bs (a, 0, 0) 1 15 _ HY0.out hb) ?_
  rw [h0]
  rintro e w2 ⟨rfl, hy, hF⟩
  have hFa : Fr (fun _ => False) w w2 := ((((Fr.refl (fun _ => False) w).alloc _).alloc _).alloc _).trans hF (fun k hk e => by omega)
  have hsz : w.heap.size + 2 < w2.heap.size := hy.1.lt
  have hF3 : Fr (fun _ => False) w2 (w2.alloc (.cells (icells ⟨v, 0, 0, 0, 0, ⟨#[]⟩⟩) 40)) := (Fr.refl _ _).alloc _
  have HR0 := hideIt (show RS w (w2.alloc (.cells (icells ⟨v, 0, 0, 0, 0, ⟨#[]⟩⟩) 40)) w2.heap.size ao cap bs s0 ⟨v, 0, 0, 0, 0, ⟨#[]⟩⟩ from
    ⟨⟨hy.1.fr hF3 (fun e => e) (fun _ _ _ e => e), hy.2⟩, heap_new rfl, heap_old ((hF.block w.heap.size (by simp; omega) (by omega)).trans (heap_old (heap_old (heap_new rfl)))), heap_old ((hF.block (w.heap.size + 1) (by simp) (by omega)).trans (heap_old (heap_new (by simp)))), hFa.trans hF3 (fun _ _ e => e), hsz, HNB.out⟩)
  clear hy hF hFa hF3 HY0 HNB h0 ha
  go_wp2_with fail
  refine Calls.mono (HH.out _) ?_
  rintro e wx ⟨rfl, rfl⟩
  clear HH
  unfold icells at HR0
  go_wp2_with fail
  refine Calls.mono (rs_int HR0.out hb 0 7 va h1) ?_
  rintro e w10 ⟨rfl, hR⟩
  have hc := hR.j.c1
  have hzf := hR.j.fz 1
  have hlt := hR.j.lt
  dsimp only [Ins.put] at hc
  have HR1 := hideIt (hR.putN 1 (by decide) (by decide) va)
  clear hR HR0
  go_wp2_with fail
  clear hc hzf hlt
  refine Calls.mono (rs_int HR1.out hb 0 7 vb h2) ?_
  rintro e w11 ⟨rfl, hR⟩
  have hc := hR.j.c2
  have hzf := hR.j.fz 2
  have hlt := hR.j.lt
  dsimp only [Ins.put] at hc
  have HR2 := hideIt (hR.putN 2 (by decide) (by decide) vb)
  clear hR HR1
  obtain ⟨pl, er, ea⟩ := s2
  have c2 := HR2.out.y.1.c2
  dsimp only at c2
  by_cases hz : er = 0
  · subst hz
    have HE := hideIt (show endR ⟨v, va, vb, 0, 0, ⟨#[]⟩⟩ (pl, 0, ea) = (⟨v, va, vb, 0, 0, ⟨#[]⟩⟩, (pl : Int), 0, 0) from if_pos rfl)
    have HS := hideIt HR2.out.held
    have HA8h := hideIt HR2.out.adrew
    have HF8h := hideIt HR2.out.fdrew
    have HFL := hideIt HR2.out.flt
    have HFRw := hideIt HR2.out.frdrew
    go_wp2_with fail
    refine wp_region_held_drew (S := fun w0 => InsAt w0 w2.heap.size ⟨v, va, vb, 0, 0, ⟨#[]⟩⟩ ∧ w0.cell? ⟨w.heap.size + 2, 1, none⟩ = some (.int .i64 (pl : Int)) ∧ w0.cell? ⟨w.heap.size + 2, 2, none⟩ = some (.int .i64 0) ∧ w0.cell? ⟨w.heap.size + 2, 3, none⟩ = some (.int .i64 ea)) (by kernel_rfl) ?_ (fun hHeld => ?_)
    · exact HS.out _ (Fr.refl _ _).drew
    refine wpAnyH_take (i := 0) (v := ?v340) rfl (by kernel_rfl) (by kernel_rfl) (by kernel_rfl) (fun _ _ _ h => h) (Or.inl ⟨by rfl, ?hy340⟩) (by assumption) ?rest340
    case hy340 => intro w hSw; (try dsimp only at hSw); obtain ⟨hSI, hS1, hS2, hS3⟩ := hSw; have c0 := hSI.c0; have c1 := hSI.c1; have c2 := hSI.c2; have c3 := hSI.c3; have c4 := hSI.c4; have c5 := hSI.c5; go_simp; (try with_reducible rfl)
    try simp only [Act.put, List.getElem_toArray, List.getElem_cons_zero, List.getElem_cons_succ, List.setIfInBounds_toArray, List.set_cons_zero, List.set_cons_succ]
    refine wpAnyH_take (i := 1) (v := ?v341) rfl (by kernel_rfl) (by kernel_rfl) (by kernel_rfl) (fun _ _ _ h => h) (Or.inl ⟨by rfl, ?hy341⟩) (by assumption) ?rest341
    case hy341 => intro w hSw; (try dsimp only at hSw); go_simp; (try with_reducible rfl)
    try simp only [Act.put, List.getElem_toArray, List.getElem_cons_zero, List.getElem_cons_succ, List.setIfInBounds_toArray, List.set_cons_zero, List.set_cons_succ]
    refine wpAnyH_take (i := 2) (v := ?v342) rfl (by kernel_rfl) (by kernel_rfl) (by kernel_rfl) (fun _ _ _ h => h) (Or.inl ⟨by rfl, ?hy342⟩) (by assumption) ?rest342
    case hy342 => intro w hSw; (try dsimp only at hSw); go_simp; (try with_reducible rfl)
    try simp only [Act.put, List.getElem_toArray, List.getElem_cons_zero, List.getElem_cons_succ, List.setIfInBounds_toArray, List.set_cons_zero, List.set_cons_succ]
    refine wpAnyH_take (i := 3) (v := ?v343) rfl (by kernel_rfl) (by kernel_rfl) (by kernel_rfl) (fun _ _ _ h => h) (Or.inl ⟨by rfl, ?hy343⟩) (by assumption) ?rest343
    case hy343 => intro w hSw; (try dsimp only at hSw); go_simp; (try with_reducible rfl)
    try simp only [Act.put, List.getElem_toArray, List.getElem_cons_zero, List.getElem_cons_succ, List.setIfInBounds_toArray, List.set_cons_zero, List.set_cons_succ]
    refine wpAnyH_take (i := 4) (v := ?v344) rfl (by kernel_rfl) (by kernel_rfl) (by kernel_rfl) (fun _ _ _ h => h) (Or.inl ⟨by rfl, ?hy344⟩) (by assumption) ?rest344
    case hy344 => intro w hSw; (try dsimp only at hSw); go_simp; (try with_reducible rfl)
    try simp only [Act.put, List.getElem_toArray, List.getElem_cons_zero, List.getElem_cons_succ, List.setIfInBounds_toArray, List.set_cons_zero, List.set_cons_succ]
    refine wpAnyH_take (i := 5) (v := ?v345) rfl (by kernel_rfl) (by kernel_rfl) (by kernel_rfl) (fun _ _ _ h => h) (Or.inl ⟨by rfl, ?hy345⟩) (by assumption) ?rest345
    case hy345 => intro w hSw; (try dsimp only at hSw); go_simp; (try with_reducible rfl)
    try simp only [Act.put, List.getElem_toArray, List.getElem_cons_zero, List.getElem_cons_succ, List.setIfInBounds_toArray, List.set_cons_zero, List.set_cons_succ]
    refine wpAnyH_ready (rs := [6]) (by kernel_rfl) (by simp) ?_
    refine AllReadyH.cons rfl (fun K hK => ?_) AllReadyH.nil
    rw [if_pos (by rfl)]
    refine wp_store_mid 40 _ _ rfl w.heap.size 0 (icells ⟨v, va, vb, 0, 0, ⟨#[]⟩⟩) rfl rfl (there_row HA8h.out _ (Nat.le_refl _)) (by kernel_rfl) (icells_one _) ?_
    obtain ⟨hst, hfr⟩ := store_over (V := (icells ⟨v, va, vb, 0, 0, ⟨#[]⟩⟩)) HA8h.out (by rfl)
    have HA10 := hideIt hst
    have HFr10 := hideIt (hfr.mono (S' := fun k => k = w.heap.size ∨ k = w.heap.size + 1) (fun _ e => Or.inl e))
    have HG10 := hideIt ((hfr.block (w.heap.size + 1) HFL.out (by omega)).trans HF8h.out)
    clear hst hfr
    generalize hW10 : World.setCells _ w.heap.size 0 _ = W10 at *
    clear hW10
    refine hK.out _ _ ?_ (fun hHeld => ?_)
    · exact HS.out _ ((Fr.refl _ _).drew.trans HFr10.out (fun _ _ e => e))
    clear hK K
    try simp only [Act.put, List.getElem_toArray, List.getElem_cons_zero, List.getElem_cons_succ, List.setIfInBounds_toArray, List.set_cons_zero, List.set_cons_succ]
    refine wpAnyH_take (i := 7) (v := ?v346) rfl (by kernel_rfl) (by kernel_rfl) (by kernel_rfl) (fun _ _ _ h => h) (Or.inl ⟨by rfl, ?hy346⟩) (by assumption) ?rest346
    case hy346 => intro w hSw; (try dsimp only at hSw); go_simp; (try with_reducible rfl)
    try simp only [Act.put, List.getElem_toArray, List.getElem_cons_zero, List.getElem_cons_succ, List.setIfInBounds_toArray, List.set_cons_zero, List.set_cons_succ]
    refine wpAnyH_ready (rs := [8]) (by kernel_rfl) (by simp) ?_
    refine AllReadyH.cons rfl (fun K hK => ?_) AllReadyH.nil
    rw [if_pos (by rfl)]
    refine wp_store_mid 28 _ _ rfl (w.heap.size + 1) 0 #[.int .i64 0, .int .i64 0] rfl rfl (there_row HG10.out _ (Nat.le_refl _)) (by kernel_rfl) (fault_one _ _) ?_
    obtain ⟨hst, hfr⟩ := store_over (V := #[.int .i64 0, .int .i64 0]) HG10.out (by rfl)
    have HG11 := hideIt hst
    have HFr11 := hideIt (HFr10.out.trans hfr (fun _ _ e => Or.inr e))
    have HA11 := hideIt ((hfr.block w.heap.size (Array.getElem?_eq_some_iff.1 HA10.out).1 (by omega)).trans HA10.out)
    clear hst hfr
    generalize hW11 : World.setCells _ (w.heap.size + 1) 0 _ = W11 at *
    clear hW11
    refine hK.out _ _ ?_ (fun hHeld => ?_)
    · exact HS.out _ ((Fr.refl _ _).drew.trans HFr11.out (fun _ _ e => e))
    clear hK K
    try simp only [Act.put, List.getElem_toArray, List.getElem_cons_zero, List.getElem_cons_succ, List.setIfInBounds_toArray, List.set_cons_zero, List.set_cons_succ]
    refine wpAnyH_done (by kernel_rfl) ?_ _
    go_wp2_with fail
    have hA0 := cellOfHeap HA11.out 0 rfl
    have hA1 := cellOfHeap HA11.out 1 rfl
    have hA2 := cellOfHeap HA11.out 2 rfl
    have hA3 := cellOfHeap HA11.out 3 rfl
    have hA4 := cellOfHeap HA11.out 4 rfl
    have hA5 := cellOfHeap HA11.out 5 rfl
    have hF0 := cellOfHeap HG11.out 0 rfl
    have hF1 := cellOfHeap HG11.out 1 rfl
    refine bodyPost_ret (v := readV (⟨v, va, vb, 0, 0, ⟨#[]⟩⟩, (pl : Int), 0, 0)) (by simp [results, Try.results32, go_sem, readV, icells, zeroI, hA0, hA1, hA2, hA3, hA4, hA5, hF0, hF1]) rfl ⟨by rw [HE.out], ?_⟩
    exact HFRw.out.trans HFr11.out (fun k hk e => by omega)
  · have HE := hideIt (show endR ⟨v, va, vb, 0, 0, ⟨#[]⟩⟩ (pl, er, ea) = (zeroI, 0, er, ea) from if_neg hz)
    have hzb : (er != 0) = true := by simpa using hz
    have HS := hideIt HR2.out.held
    have HA8h := hideIt HR2.out.adrew
    have HF8h := hideIt HR2.out.fdrew
    have HFL := hideIt HR2.out.flt
    have HFRw := hideIt HR2.out.frdrew
    go_wp2_with fail
    refine wp_region_held_drew (S := fun w0 => InsAt w0 w2.heap.size ⟨v, va, vb, 0, 0, ⟨#[]⟩⟩ ∧ w0.cell? ⟨w.heap.size + 2, 1, none⟩ = some (.int .i64 (pl : Int)) ∧ w0.cell? ⟨w.heap.size + 2, 2, none⟩ = some (.int .i64 er) ∧ w0.cell? ⟨w.heap.size + 2, 3, none⟩ = some (.int .i64 ea)) (by kernel_rfl) ?_ (fun hHeld => ?_)
    · exact HS.out _ (Fr.refl _ _).drew
    refine wpAnyH_take (i := 0) (v := ?v347) rfl (by kernel_rfl) (by kernel_rfl) (by kernel_rfl) (fun _ _ _ h => h) (Or.inl ⟨by rfl, ?hy347⟩) (by assumption) ?rest347
    case hy347 => intro w hSw; (try dsimp only at hSw); go_simp; (try with_reducible rfl)
    try simp only [Act.put, List.getElem_toArray, List.getElem_cons_zero, List.getElem_cons_succ, List.setIfInBounds_toArray, List.set_cons_zero, List.set_cons_succ]
    refine wpAnyH_take (i := 1) (v := ?v348) rfl (by kernel_rfl) (by kernel_rfl) (by kernel_rfl) (fun _ _ _ h => h) (Or.inl ⟨by rfl, ?hy348⟩) (by assumption) ?rest348
    case hy348 => intro w hSw; (try dsimp only at hSw); go_simp; (try with_reducible rfl)
    try simp only [Act.put, List.getElem_toArray, List.getElem_cons_zero, List.getElem_cons_succ, List.setIfInBounds_toArray, List.set_cons_zero, List.set_cons_succ]
    refine wpAnyH_take (i := 2) (v := ?v349) rfl (by kernel_rfl) (by kernel_rfl) (by kernel_rfl) (fun _ _ _ h => h) (Or.inl ⟨by rfl, ?hy349⟩) (by assumption) ?rest349
    case hy349 => intro w hSw; (try dsimp only at hSw); go_simp; (try with_reducible rfl)
    try simp only [Act.put, List.getElem_toArray, List.getElem_cons_zero, List.getElem_cons_succ, List.setIfInBounds_toArray, List.set_cons_zero, List.set_cons_succ]
    refine wpAnyH_take (i := 3) (v := ?v350) rfl (by kernel_rfl) (by kernel_rfl) (by kernel_rfl) (fun _ _ _ h => h) (Or.inl ⟨by rfl, ?hy350⟩) (by assumption) ?rest350
    case hy350 => intro w hSw; (try dsimp only at hSw); go_simp; (try with_reducible rfl)
    try simp only [Act.put, List.getElem_toArray, List.getElem_cons_zero, List.getElem_cons_succ, List.setIfInBounds_toArray, List.set_cons_zero, List.set_cons_succ]
    refine wpAnyH_take (i := 4) (v := ?v351) rfl (by kernel_rfl) (by kernel_rfl) (by kernel_rfl) (fun _ _ _ h => h) (Or.inl ⟨by rfl, ?hy351⟩) (by assumption) ?rest351
    case hy351 => intro w hSw; (try dsimp only at hSw); go_simp; (try with_reducible rfl)
    try simp only [Act.put, List.getElem_toArray, List.getElem_cons_zero, List.getElem_cons_succ, List.setIfInBounds_toArray, List.set_cons_zero, List.set_cons_succ]
    refine wpAnyH_ready (rs := [5]) (by kernel_rfl) (by simp) ?_
    refine AllReadyH.cons rfl (fun K hK => ?_) AllReadyH.nil
    rw [if_pos (by rfl)]
    refine wp_store_mid 40 _ _ rfl w.heap.size 0 (icells zeroI) rfl rfl (there_row HA8h.out _ (Nat.le_refl _)) (by kernel_rfl) (icells_one _) ?_
    obtain ⟨hst, hfr⟩ := store_over (V := (icells zeroI)) HA8h.out (by rfl)
    have HA10 := hideIt hst
    have HFr10 := hideIt (hfr.mono (S' := fun k => k = w.heap.size ∨ k = w.heap.size + 1) (fun _ e => Or.inl e))
    have HG10 := hideIt ((hfr.block (w.heap.size + 1) HFL.out (by omega)).trans HF8h.out)
    clear hst hfr
    generalize hW10 : World.setCells _ w.heap.size 0 _ = W10 at *
    clear hW10
    refine hK.out _ _ ?_ (fun hHeld => ?_)
    · exact HS.out _ ((Fr.refl _ _).drew.trans HFr10.out (fun _ _ e => e))
    clear hK K
    try simp only [Act.put, List.getElem_toArray, List.getElem_cons_zero, List.getElem_cons_succ, List.setIfInBounds_toArray, List.set_cons_zero, List.set_cons_succ]
    refine wpAnyH_take (i := 6) (v := ?v352) rfl (by kernel_rfl) (by kernel_rfl) (by kernel_rfl) (fun _ _ _ h => h) (Or.inl ⟨by rfl, ?hy352⟩) (by assumption) ?rest352
    case hy352 => intro w hSw; (try dsimp only at hSw); go_simp; (try with_reducible rfl)
    try simp only [Act.put, List.getElem_toArray, List.getElem_cons_zero, List.getElem_cons_succ, List.setIfInBounds_toArray, List.set_cons_zero, List.set_cons_succ]
    refine wpAnyH_ready (rs := [7]) (by kernel_rfl) (by simp) ?_
    refine AllReadyH.cons rfl (fun K hK => ?_) AllReadyH.nil
    rw [if_pos (by rfl)]
    refine wp_store_mid 28 _ _ rfl (w.heap.size + 1) 0 #[.int .i64 er, .int .i64 ea] rfl rfl (there_row HG10.out _ (Nat.le_refl _)) (by kernel_rfl) (fault_one _ _) ?_
    obtain ⟨hst, hfr⟩ := store_over (V := #[.int .i64 er, .int .i64 ea]) HG10.out (by rfl)
    have HG11 := hideIt hst
    have HFr11 := hideIt (HFr10.out.trans hfr (fun _ _ e => Or.inr e))
    have HA11 := hideIt ((hfr.block w.heap.size (Array.getElem?_eq_some_iff.1 HA10.out).1 (by omega)).trans HA10.out)
    clear hst hfr
    generalize hW11 : World.setCells _ (w.heap.size + 1) 0 _ = W11 at *
    clear hW11
    refine hK.out _ _ ?_ (fun hHeld => ?_)
    · exact HS.out _ ((Fr.refl _ _).drew.trans HFr11.out (fun _ _ e => e))
    clear hK K
    try simp only [Act.put, List.getElem_toArray, List.getElem_cons_zero, List.getElem_cons_succ, List.setIfInBounds_toArray, List.set_cons_zero, List.set_cons_succ]
    refine wpAnyH_done (by kernel_rfl) ?_ _
    go_wp2_with fail
    have hA0 := cellOfHeap HA11.out 0 rfl
    have hA1 := cellOfHeap HA11.out 1 rfl
    have hA2 := cellOfHeap HA11.out 2 rfl
    have hA3 := cellOfHeap HA11.out 3 rfl
    have hA4 := cellOfHeap HA11.out 4 rfl
    have hA5 := cellOfHeap HA11.out 5 rfl
    have hF0 := cellOfHeap HG11.out 0 rfl
    have hF1 := cellOfHeap HG11.out 1 rfl
    refine bodyPost_ret (v := readV (zeroI, 0, er, ea)) (by simp [results, Try.results32, go_sem, readV, icells, zeroI, hA0, hA1, hA2, hA3, hA4, hA5, hF0, hF1]) rfl ⟨by rw [HE.out], ?_⟩
    exact HFRw.out.trans HFr11.out (fun k hk e => by omega)

end Go.Proofs.Ytojgikaoiegmpaa

/- Code: the document's Read: letters ABC, letters N. -/
namespace Go.Proofs.Ytojgikaoiegmpaa
open Go.RowKit Go.IntWalk Go.Lib
set_option linter.unusedSimpArgs false
set_option linter.unusedVariables false
set_option maxRecDepth 100000

set_option maxRecDepth 100000 in
set_option maxHeartbeats 4000000 in
theorem vread_ABC (ao : Option Addr) (cap : Nat) (bs : List UInt8) (a : Nat) (w : World) (hB : BsAt w ao bs) (hb : bs.length ≤ 140737488355328) (hcl : bs.length ≤ cap) (hcm : cap ≤ maxLen) (hnb : ∀ k, blk ao k → k < w.heap.size) (ha : a ≤ bs.length) (v : Int) (va : Int) (vb : Int) (vc : Int) (s0 s1 s2 s3 : Nat × Int × Int) (h0 : rInt bs 1 15 (a, 0, 0) = (v, s0)) (h1 : rInt bs 0 7 s0 = (va, s1)) (h2 : rInt bs 0 7 s1 = (vb, s2)) (h3 : rInt bs 0 7 s2 = (vc, s3)) (ht : hasT v = (true, true, true, false, false)) :
    Calls Try.prog 32 #[.slice ao bs.length cap, .int .i64 (a : Int)] w fun e w' => e = .returned (readV (endR ⟨v, va, vb, vc, 0, ⟨#[]⟩⟩ s3)) ∧ Fr (fun _ => False) w w' := by
  have hd1 : decide ((a : Int) < 0) = false := decide_eq_false (by omega)
  have hd2 : decide ((bs.length : Int) < (a : Int)) = false := decide_eq_false (by omega)
  have HH := hideIt (fun w => by have := vhas_any v w; rw [ht] at this; exact this)
  unfold hasV at HH
  have HY0 := hideIt (show YOk ((((w.alloc (.cells (icells zeroI) 40)).alloc (.cells #[.int .i64 0, .int .i64 0] 28))).alloc (.cells #[.slice ao bs.length cap, .int .i64 (a : Int), .int .i64 0, .int .i64 0] 63)) (w.heap.size + 2) ao cap bs (a, 0, 0) from
    ⟨⟨heap_new (by simp), hB.fr ((((Fr.refl (fun _ => False) w).alloc _).alloc _).alloc _) (fun _ _ _ e => e)⟩, fun e => by have := hnb _ e; omega, ha⟩)
  have HNB := hideIt hnb
  have HCM := hideIt hcm
  clear hB ht hnb hcm
  go_enter Try.func32, Try.ntmps32
  go_wp2_with fail
  refine Calls.mono (yint_any (w.heap.size + 2) ao cap bs (a, 0, 0) 1 15 _ HY0.out hb) ?_
  rw [h0]
  rintro e w2 ⟨rfl, hy, hF⟩
  have hFa : Fr (fun _ => False) w w2 := ((((Fr.refl (fun _ => False) w).alloc _).alloc _).alloc _).trans hF (fun k hk e => by omega)
  have hsz : w.heap.size + 2 < w2.heap.size := hy.1.lt
  have hF3 : Fr (fun _ => False) w2 (w2.alloc (.cells (icells ⟨v, 0, 0, 0, 0, ⟨#[]⟩⟩) 40)) := (Fr.refl _ _).alloc _
  have HR0 := hideIt (show RS w (w2.alloc (.cells (icells ⟨v, 0, 0, 0, 0, ⟨#[]⟩⟩) 40)) w2.heap.size ao cap bs s0 ⟨v, 0, 0, 0, 0, ⟨#[]⟩⟩ from
    ⟨⟨hy.1.fr hF3 (fun e => e) (fun _ _ _ e => e), hy.2⟩, heap_new rfl, heap_old ((hF.block w.heap.size (by simp; omega) (by omega)).trans (heap_old (heap_old (heap_new rfl)))), heap_old ((hF.block (w.heap.size + 1) (by simp) (by omega)).trans (heap_old (heap_new (by simp)))), hFa.trans hF3 (fun _ _ e => e), hsz, HNB.out⟩)
  clear hy hF hFa hF3 HY0 HNB h0 ha
  go_wp2_with fail
  refine Calls.mono (HH.out _) ?_
  rintro e wx ⟨rfl, rfl⟩
  clear HH
  unfold icells at HR0
  go_wp2_with fail
  refine Calls.mono (rs_int HR0.out hb 0 7 va h1) ?_
  rintro e w10 ⟨rfl, hR⟩
  have hc := hR.j.c1
  have hzf := hR.j.fz 1
  have hlt := hR.j.lt
  dsimp only [Ins.put] at hc
  have HR1 := hideIt (hR.putN 1 (by decide) (by decide) va)
  clear hR HR0
  go_wp2_with fail
  clear hc hzf hlt
  refine Calls.mono (rs_int HR1.out hb 0 7 vb h2) ?_
  rintro e w11 ⟨rfl, hR⟩
  have hc := hR.j.c2
  have hzf := hR.j.fz 2
  have hlt := hR.j.lt
  dsimp only [Ins.put] at hc
  have HR2 := hideIt (hR.putN 2 (by decide) (by decide) vb)
  clear hR HR1
  go_wp2_with fail
  clear hc hzf hlt
  refine Calls.mono (rs_int HR2.out hb 0 7 vc h3) ?_
  rintro e w12 ⟨rfl, hR⟩
  have hc := hR.j.c3
  have hzf := hR.j.fz 3
  have hlt := hR.j.lt
  dsimp only [Ins.put] at hc
  have HR3 := hideIt (hR.putN 3 (by decide) (by decide) vc)
  clear hR HR2
  obtain ⟨pl, er, ea⟩ := s3
  have c2 := HR3.out.y.1.c2
  dsimp only at c2
  by_cases hz : er = 0
  · subst hz
    have HE := hideIt (show endR ⟨v, va, vb, vc, 0, ⟨#[]⟩⟩ (pl, 0, ea) = (⟨v, va, vb, vc, 0, ⟨#[]⟩⟩, (pl : Int), 0, 0) from if_pos rfl)
    have HS := hideIt HR3.out.held
    have HA8h := hideIt HR3.out.adrew
    have HF8h := hideIt HR3.out.fdrew
    have HFL := hideIt HR3.out.flt
    have HFRw := hideIt HR3.out.frdrew
    go_wp2_with fail
    refine wp_region_held_drew (S := fun w0 => InsAt w0 w2.heap.size ⟨v, va, vb, vc, 0, ⟨#[]⟩⟩ ∧ w0.cell? ⟨w.heap.size + 2, 1, none⟩ = some (.int .i64 (pl : Int)) ∧ w0.cell? ⟨w.heap.size + 2, 2, none⟩ = some (.int .i64 0) ∧ w0.cell? ⟨w.heap.size + 2, 3, none⟩ = some (.int .i64 ea)) (by kernel_rfl) ?_ (fun hHeld => ?_)
    · exact HS.out _ (Fr.refl _ _).drew
    refine wpAnyH_take (i := 0) (v := ?v353) rfl (by kernel_rfl) (by kernel_rfl) (by kernel_rfl) (fun _ _ _ h => h) (Or.inl ⟨by rfl, ?hy353⟩) (by assumption) ?rest353
    case hy353 => intro w hSw; (try dsimp only at hSw); obtain ⟨hSI, hS1, hS2, hS3⟩ := hSw; have c0 := hSI.c0; have c1 := hSI.c1; have c2 := hSI.c2; have c3 := hSI.c3; have c4 := hSI.c4; have c5 := hSI.c5; go_simp; (try with_reducible rfl)
    try simp only [Act.put, List.getElem_toArray, List.getElem_cons_zero, List.getElem_cons_succ, List.setIfInBounds_toArray, List.set_cons_zero, List.set_cons_succ]
    refine wpAnyH_take (i := 1) (v := ?v354) rfl (by kernel_rfl) (by kernel_rfl) (by kernel_rfl) (fun _ _ _ h => h) (Or.inl ⟨by rfl, ?hy354⟩) (by assumption) ?rest354
    case hy354 => intro w hSw; (try dsimp only at hSw); go_simp; (try with_reducible rfl)
    try simp only [Act.put, List.getElem_toArray, List.getElem_cons_zero, List.getElem_cons_succ, List.setIfInBounds_toArray, List.set_cons_zero, List.set_cons_succ]
    refine wpAnyH_take (i := 2) (v := ?v355) rfl (by kernel_rfl) (by kernel_rfl) (by kernel_rfl) (fun _ _ _ h => h) (Or.inl ⟨by rfl, ?hy355⟩) (by assumption) ?rest355
    case hy355 => intro w hSw; (try dsimp only at hSw); go_simp; (try with_reducible rfl)
    try simp only [Act.put, List.getElem_toArray, List.getElem_cons_zero, List.getElem_cons_succ, List.setIfInBounds_toArray, List.set_cons_zero, List.set_cons_succ]
    refine wpAnyH_take (i := 3) (v := ?v356) rfl (by kernel_rfl) (by kernel_rfl) (by kernel_rfl) (fun _ _ _ h => h) (Or.inl ⟨by rfl, ?hy356⟩) (by assumption) ?rest356
    case hy356 => intro w hSw; (try dsimp only at hSw); go_simp; (try with_reducible rfl)
    try simp only [Act.put, List.getElem_toArray, List.getElem_cons_zero, List.getElem_cons_succ, List.setIfInBounds_toArray, List.set_cons_zero, List.set_cons_succ]
    refine wpAnyH_take (i := 4) (v := ?v357) rfl (by kernel_rfl) (by kernel_rfl) (by kernel_rfl) (fun _ _ _ h => h) (Or.inl ⟨by rfl, ?hy357⟩) (by assumption) ?rest357
    case hy357 => intro w hSw; (try dsimp only at hSw); go_simp; (try with_reducible rfl)
    try simp only [Act.put, List.getElem_toArray, List.getElem_cons_zero, List.getElem_cons_succ, List.setIfInBounds_toArray, List.set_cons_zero, List.set_cons_succ]
    refine wpAnyH_take (i := 5) (v := ?v358) rfl (by kernel_rfl) (by kernel_rfl) (by kernel_rfl) (fun _ _ _ h => h) (Or.inl ⟨by rfl, ?hy358⟩) (by assumption) ?rest358
    case hy358 => intro w hSw; (try dsimp only at hSw); go_simp; (try with_reducible rfl)
    try simp only [Act.put, List.getElem_toArray, List.getElem_cons_zero, List.getElem_cons_succ, List.setIfInBounds_toArray, List.set_cons_zero, List.set_cons_succ]
    refine wpAnyH_ready (rs := [6]) (by kernel_rfl) (by simp) ?_
    refine AllReadyH.cons rfl (fun K hK => ?_) AllReadyH.nil
    rw [if_pos (by rfl)]
    refine wp_store_mid 40 _ _ rfl w.heap.size 0 (icells ⟨v, va, vb, vc, 0, ⟨#[]⟩⟩) rfl rfl (there_row HA8h.out _ (Nat.le_refl _)) (by kernel_rfl) (icells_one _) ?_
    obtain ⟨hst, hfr⟩ := store_over (V := (icells ⟨v, va, vb, vc, 0, ⟨#[]⟩⟩)) HA8h.out (by rfl)
    have HA10 := hideIt hst
    have HFr10 := hideIt (hfr.mono (S' := fun k => k = w.heap.size ∨ k = w.heap.size + 1) (fun _ e => Or.inl e))
    have HG10 := hideIt ((hfr.block (w.heap.size + 1) HFL.out (by omega)).trans HF8h.out)
    clear hst hfr
    generalize hW10 : World.setCells _ w.heap.size 0 _ = W10 at *
    clear hW10
    refine hK.out _ _ ?_ (fun hHeld => ?_)
    · exact HS.out _ ((Fr.refl _ _).drew.trans HFr10.out (fun _ _ e => e))
    clear hK K
    try simp only [Act.put, List.getElem_toArray, List.getElem_cons_zero, List.getElem_cons_succ, List.setIfInBounds_toArray, List.set_cons_zero, List.set_cons_succ]
    refine wpAnyH_take (i := 7) (v := ?v359) rfl (by kernel_rfl) (by kernel_rfl) (by kernel_rfl) (fun _ _ _ h => h) (Or.inl ⟨by rfl, ?hy359⟩) (by assumption) ?rest359
    case hy359 => intro w hSw; (try dsimp only at hSw); go_simp; (try with_reducible rfl)
    try simp only [Act.put, List.getElem_toArray, List.getElem_cons_zero, List.getElem_cons_succ, List.setIfInBounds_toArray, List.set_cons_zero, List.set_cons_succ]
    refine wpAnyH_ready (rs := [8]) (by kernel_rfl) (by simp) ?_
    refine AllReadyH.cons rfl (fun K hK => ?_) AllReadyH.nil
    rw [if_pos (by rfl)]
    refine wp_store_mid 28 _ _ rfl (w.heap.size + 1) 0 #[.int .i64 0, .int .i64 0] rfl rfl (there_row HG10.out _ (Nat.le_refl _)) (by kernel_rfl) (fault_one _ _) ?_
    obtain ⟨hst, hfr⟩ := store_over (V := #[.int .i64 0, .int .i64 0]) HG10.out (by rfl)
    have HG11 := hideIt hst
    have HFr11 := hideIt (HFr10.out.trans hfr (fun _ _ e => Or.inr e))
    have HA11 := hideIt ((hfr.block w.heap.size (Array.getElem?_eq_some_iff.1 HA10.out).1 (by omega)).trans HA10.out)
    clear hst hfr
    generalize hW11 : World.setCells _ (w.heap.size + 1) 0 _ = W11 at *
    clear hW11
    refine hK.out _ _ ?_ (fun hHeld => ?_)
    · exact HS.out _ ((Fr.refl _ _).drew.trans HFr11.out (fun _ _ e => e))
    clear hK K
    try simp only [Act.put, List.getElem_toArray, List.getElem_cons_zero, List.getElem_cons_succ, List.setIfInBounds_toArray, List.set_cons_zero, List.set_cons_succ]
    refine wpAnyH_done (by kernel_rfl) ?_ _
    go_wp2_with fail
    have hA0 := cellOfHeap HA11.out 0 rfl
    have hA1 := cellOfHeap HA11.out 1 rfl
    have hA2 := cellOfHeap HA11.out 2 rfl
    have hA3 := cellOfHeap HA11.out 3 rfl
    have hA4 := cellOfHeap HA11.out 4 rfl
    have hA5 := cellOfHeap HA11.out 5 rfl
    have hF0 := cellOfHeap HG11.out 0 rfl
    have hF1 := cellOfHeap HG11.out 1 rfl
    refine bodyPost_ret (v := readV (⟨v, va, vb, vc, 0, ⟨#[]⟩⟩, (pl : Int), 0, 0)) (by simp [results, Try.results32, go_sem, readV, icells, zeroI, hA0, hA1, hA2, hA3, hA4, hA5, hF0, hF1]) rfl ⟨by rw [HE.out], ?_⟩
    exact HFRw.out.trans HFr11.out (fun k hk e => by omega)
  · have HE := hideIt (show endR ⟨v, va, vb, vc, 0, ⟨#[]⟩⟩ (pl, er, ea) = (zeroI, 0, er, ea) from if_neg hz)
    have hzb : (er != 0) = true := by simpa using hz
    have HS := hideIt HR3.out.held
    have HA8h := hideIt HR3.out.adrew
    have HF8h := hideIt HR3.out.fdrew
    have HFL := hideIt HR3.out.flt
    have HFRw := hideIt HR3.out.frdrew
    go_wp2_with fail
    refine wp_region_held_drew (S := fun w0 => InsAt w0 w2.heap.size ⟨v, va, vb, vc, 0, ⟨#[]⟩⟩ ∧ w0.cell? ⟨w.heap.size + 2, 1, none⟩ = some (.int .i64 (pl : Int)) ∧ w0.cell? ⟨w.heap.size + 2, 2, none⟩ = some (.int .i64 er) ∧ w0.cell? ⟨w.heap.size + 2, 3, none⟩ = some (.int .i64 ea)) (by kernel_rfl) ?_ (fun hHeld => ?_)
    · exact HS.out _ (Fr.refl _ _).drew
    refine wpAnyH_take (i := 0) (v := ?v360) rfl (by kernel_rfl) (by kernel_rfl) (by kernel_rfl) (fun _ _ _ h => h) (Or.inl ⟨by rfl, ?hy360⟩) (by assumption) ?rest360
    case hy360 => intro w hSw; (try dsimp only at hSw); go_simp; (try with_reducible rfl)
    try simp only [Act.put, List.getElem_toArray, List.getElem_cons_zero, List.getElem_cons_succ, List.setIfInBounds_toArray, List.set_cons_zero, List.set_cons_succ]
    refine wpAnyH_take (i := 1) (v := ?v361) rfl (by kernel_rfl) (by kernel_rfl) (by kernel_rfl) (fun _ _ _ h => h) (Or.inl ⟨by rfl, ?hy361⟩) (by assumption) ?rest361
    case hy361 => intro w hSw; (try dsimp only at hSw); go_simp; (try with_reducible rfl)
    try simp only [Act.put, List.getElem_toArray, List.getElem_cons_zero, List.getElem_cons_succ, List.setIfInBounds_toArray, List.set_cons_zero, List.set_cons_succ]
    refine wpAnyH_take (i := 2) (v := ?v362) rfl (by kernel_rfl) (by kernel_rfl) (by kernel_rfl) (fun _ _ _ h => h) (Or.inl ⟨by rfl, ?hy362⟩) (by assumption) ?rest362
    case hy362 => intro w hSw; (try dsimp only at hSw); go_simp; (try with_reducible rfl)
    try simp only [Act.put, List.getElem_toArray, List.getElem_cons_zero, List.getElem_cons_succ, List.setIfInBounds_toArray, List.set_cons_zero, List.set_cons_succ]
    refine wpAnyH_take (i := 3) (v := ?v363) rfl (by kernel_rfl) (by kernel_rfl) (by kernel_rfl) (fun _ _ _ h => h) (Or.inl ⟨by rfl, ?hy363⟩) (by assumption) ?rest363
    case hy363 => intro w hSw; (try dsimp only at hSw); go_simp; (try with_reducible rfl)
    try simp only [Act.put, List.getElem_toArray, List.getElem_cons_zero, List.getElem_cons_succ, List.setIfInBounds_toArray, List.set_cons_zero, List.set_cons_succ]
    refine wpAnyH_take (i := 4) (v := ?v364) rfl (by kernel_rfl) (by kernel_rfl) (by kernel_rfl) (fun _ _ _ h => h) (Or.inl ⟨by rfl, ?hy364⟩) (by assumption) ?rest364
    case hy364 => intro w hSw; (try dsimp only at hSw); go_simp; (try with_reducible rfl)
    try simp only [Act.put, List.getElem_toArray, List.getElem_cons_zero, List.getElem_cons_succ, List.setIfInBounds_toArray, List.set_cons_zero, List.set_cons_succ]
    refine wpAnyH_ready (rs := [5]) (by kernel_rfl) (by simp) ?_
    refine AllReadyH.cons rfl (fun K hK => ?_) AllReadyH.nil
    rw [if_pos (by rfl)]
    refine wp_store_mid 40 _ _ rfl w.heap.size 0 (icells zeroI) rfl rfl (there_row HA8h.out _ (Nat.le_refl _)) (by kernel_rfl) (icells_one _) ?_
    obtain ⟨hst, hfr⟩ := store_over (V := (icells zeroI)) HA8h.out (by rfl)
    have HA10 := hideIt hst
    have HFr10 := hideIt (hfr.mono (S' := fun k => k = w.heap.size ∨ k = w.heap.size + 1) (fun _ e => Or.inl e))
    have HG10 := hideIt ((hfr.block (w.heap.size + 1) HFL.out (by omega)).trans HF8h.out)
    clear hst hfr
    generalize hW10 : World.setCells _ w.heap.size 0 _ = W10 at *
    clear hW10
    refine hK.out _ _ ?_ (fun hHeld => ?_)
    · exact HS.out _ ((Fr.refl _ _).drew.trans HFr10.out (fun _ _ e => e))
    clear hK K
    try simp only [Act.put, List.getElem_toArray, List.getElem_cons_zero, List.getElem_cons_succ, List.setIfInBounds_toArray, List.set_cons_zero, List.set_cons_succ]
    refine wpAnyH_take (i := 6) (v := ?v365) rfl (by kernel_rfl) (by kernel_rfl) (by kernel_rfl) (fun _ _ _ h => h) (Or.inl ⟨by rfl, ?hy365⟩) (by assumption) ?rest365
    case hy365 => intro w hSw; (try dsimp only at hSw); go_simp; (try with_reducible rfl)
    try simp only [Act.put, List.getElem_toArray, List.getElem_cons_zero, List.getElem_cons_succ, List.setIfInBounds_toArray, List.set_cons_zero, List.set_cons_succ]
    refine wpAnyH_ready (rs := [7]) (by kernel_rfl) (by simp) ?_
    refine AllReadyH.cons rfl (fun K hK => ?_) AllReadyH.nil
    rw [if_pos (by rfl)]
    refine wp_store_mid 28 _ _ rfl (w.heap.size + 1) 0 #[.int .i64 er, .int .i64 ea] rfl rfl (there_row HG10.out _ (Nat.le_refl _)) (by kernel_rfl) (fault_one _ _) ?_
    obtain ⟨hst, hfr⟩ := store_over (V := #[.int .i64 er, .int .i64 ea]) HG10.out (by rfl)
    have HG11 := hideIt hst
    have HFr11 := hideIt (HFr10.out.trans hfr (fun _ _ e => Or.inr e))
    have HA11 := hideIt ((hfr.block w.heap.size (Array.getElem?_eq_some_iff.1 HA10.out).1 (by omega)).trans HA10.out)
    clear hst hfr
    generalize hW11 : World.setCells _ (w.heap.size + 1) 0 _ = W11 at *
    clear hW11
    refine hK.out _ _ ?_ (fun hHeld => ?_)
    · exact HS.out _ ((Fr.refl _ _).drew.trans HFr11.out (fun _ _ e => e))
    clear hK K
    try simp only [Act.put, List.getElem_toArray, List.getElem_cons_zero, List.getElem_cons_succ, List.setIfInBounds_toArray, List.set_cons_zero, List.set_cons_succ]
    refine wpAnyH_done (by kernel_rfl) ?_ _
    go_wp2_with fail
    have hA0 := cellOfHeap HA11.out 0 rfl
    have hA1 := cellOfHeap HA11.out 1 rfl
    have hA2 := cellOfHeap HA11.out 2 rfl
    have hA3 := cellOfHeap HA11.out 3 rfl
    have hA4 := cellOfHeap HA11.out 4 rfl
    have hA5 := cellOfHeap HA11.out 5 rfl
    have hF0 := cellOfHeap HG11.out 0 rfl
    have hF1 := cellOfHeap HG11.out 1 rfl
    refine bodyPost_ret (v := readV (zeroI, 0, er, ea)) (by simp [results, Try.results32, go_sem, readV, icells, zeroI, hA0, hA1, hA2, hA3, hA4, hA5, hF0, hF1]) rfl ⟨by rw [HE.out], ?_⟩
    exact HFRw.out.trans HFr11.out (fun k hk e => by omega)

set_option maxRecDepth 100000 in
set_option maxHeartbeats 4000000 in
theorem vread_N (ao : Option Addr) (cap : Nat) (bs : List UInt8) (a : Nat) (w : World) (hB : BsAt w ao bs) (hb : bs.length ≤ 140737488355328) (hcl : bs.length ≤ cap) (hcm : cap ≤ maxLen) (hnb : ∀ k, blk ao k → k < w.heap.size) (ha : a ≤ bs.length) (v : Int) (vn : Int) (mx : Int) (s0 s1 : Nat × Int × Int) (h0 : rInt bs 1 15 (a, 0, 0) = (v, s0)) (h1 : rInt bs 1 mx s0 = (vn, s1)) (hmx : mostZ v = mx) (ht : hasT v = (false, false, false, true, false)) :
    Calls Try.prog 32 #[.slice ao bs.length cap, .int .i64 (a : Int)] w fun e w' => e = .returned (readV (endR ⟨v, 0, 0, 0, vn, ⟨#[]⟩⟩ s1)) ∧ Fr (fun _ => False) w w' := by
  have hd1 : decide ((a : Int) < 0) = false := decide_eq_false (by omega)
  have hd2 : decide ((bs.length : Int) < (a : Int)) = false := decide_eq_false (by omega)
  have HH := hideIt (fun w => by have := vhas_any v w; rw [ht] at this; exact this)
  unfold hasV at HH
  have HM := hideIt (fun w => by have := vmost_any v w; rw [hmx] at this; exact this)
  have HY0 := hideIt (show YOk ((((w.alloc (.cells (icells zeroI) 40)).alloc (.cells #[.int .i64 0, .int .i64 0] 28))).alloc (.cells #[.slice ao bs.length cap, .int .i64 (a : Int), .int .i64 0, .int .i64 0] 63)) (w.heap.size + 2) ao cap bs (a, 0, 0) from
    ⟨⟨heap_new (by simp), hB.fr ((((Fr.refl (fun _ => False) w).alloc _).alloc _).alloc _) (fun _ _ _ e => e)⟩, fun e => by have := hnb _ e; omega, ha⟩)
  have HNB := hideIt hnb
  have HCM := hideIt hcm
  clear hB ht hnb hcm hmx
  go_enter Try.func32, Try.ntmps32
  go_wp2_with fail
  refine Calls.mono (yint_any (w.heap.size + 2) ao cap bs (a, 0, 0) 1 15 _ HY0.out hb) ?_
  rw [h0]
  rintro e w2 ⟨rfl, hy, hF⟩
  have hFa : Fr (fun _ => False) w w2 := ((((Fr.refl (fun _ => False) w).alloc _).alloc _).alloc _).trans hF (fun k hk e => by omega)
  have hsz : w.heap.size + 2 < w2.heap.size := hy.1.lt
  have hF3 : Fr (fun _ => False) w2 (w2.alloc (.cells (icells ⟨v, 0, 0, 0, 0, ⟨#[]⟩⟩) 40)) := (Fr.refl _ _).alloc _
  have HR0 := hideIt (show RS w (w2.alloc (.cells (icells ⟨v, 0, 0, 0, 0, ⟨#[]⟩⟩) 40)) w2.heap.size ao cap bs s0 ⟨v, 0, 0, 0, 0, ⟨#[]⟩⟩ from
    ⟨⟨hy.1.fr hF3 (fun e => e) (fun _ _ _ e => e), hy.2⟩, heap_new rfl, heap_old ((hF.block w.heap.size (by simp; omega) (by omega)).trans (heap_old (heap_old (heap_new rfl)))), heap_old ((hF.block (w.heap.size + 1) (by simp) (by omega)).trans (heap_old (heap_new (by simp)))), hFa.trans hF3 (fun _ _ e => e), hsz, HNB.out⟩)
  clear hy hF hFa hF3 HY0 HNB h0 ha
  go_wp2_with fail
  refine Calls.mono (HH.out _) ?_
  rintro e wx ⟨rfl, rfl⟩
  clear HH
  unfold icells at HR0
  go_wp2_with fail
  refine Calls.mono (HM.out _) ?_
  rintro e wx ⟨rfl, rfl⟩
  go_wp2_with fail
  refine Calls.mono (rs_int HR0.out hb 1 mx vn h1) ?_
  rintro e w10 ⟨rfl, hR⟩
  have hc := hR.j.c4
  have hzf := hR.j.fz 4
  have hlt := hR.j.lt
  dsimp only [Ins.put] at hc
  have HR1 := hideIt (hR.putN 4 (by decide) (by decide) vn)
  clear hR HR0
  obtain ⟨pl, er, ea⟩ := s1
  have c2 := HR1.out.y.1.c2
  dsimp only at c2
  by_cases hz : er = 0
  · subst hz
    have HE := hideIt (show endR ⟨v, 0, 0, 0, vn, ⟨#[]⟩⟩ (pl, 0, ea) = (⟨v, 0, 0, 0, vn, ⟨#[]⟩⟩, (pl : Int), 0, 0) from if_pos rfl)
    have HS := hideIt HR1.out.held
    have HA8h := hideIt HR1.out.adrew
    have HF8h := hideIt HR1.out.fdrew
    have HFL := hideIt HR1.out.flt
    have HFRw := hideIt HR1.out.frdrew
    go_wp2_with fail
    refine wp_region_held_drew (S := fun w0 => InsAt w0 w2.heap.size ⟨v, 0, 0, 0, vn, ⟨#[]⟩⟩ ∧ w0.cell? ⟨w.heap.size + 2, 1, none⟩ = some (.int .i64 (pl : Int)) ∧ w0.cell? ⟨w.heap.size + 2, 2, none⟩ = some (.int .i64 0) ∧ w0.cell? ⟨w.heap.size + 2, 3, none⟩ = some (.int .i64 ea)) (by kernel_rfl) ?_ (fun hHeld => ?_)
    · exact HS.out _ (Fr.refl _ _).drew
    refine wpAnyH_take (i := 0) (v := ?v366) rfl (by kernel_rfl) (by kernel_rfl) (by kernel_rfl) (fun _ _ _ h => h) (Or.inl ⟨by rfl, ?hy366⟩) (by assumption) ?rest366
    case hy366 => intro w hSw; (try dsimp only at hSw); obtain ⟨hSI, hS1, hS2, hS3⟩ := hSw; have c0 := hSI.c0; have c1 := hSI.c1; have c2 := hSI.c2; have c3 := hSI.c3; have c4 := hSI.c4; have c5 := hSI.c5; go_simp; (try with_reducible rfl)
    try simp only [Act.put, List.getElem_toArray, List.getElem_cons_zero, List.getElem_cons_succ, List.setIfInBounds_toArray, List.set_cons_zero, List.set_cons_succ]
    refine wpAnyH_take (i := 1) (v := ?v367) rfl (by kernel_rfl) (by kernel_rfl) (by kernel_rfl) (fun _ _ _ h => h) (Or.inl ⟨by rfl, ?hy367⟩) (by assumption) ?rest367
    case hy367 => intro w hSw; (try dsimp only at hSw); go_simp; (try with_reducible rfl)
    try simp only [Act.put, List.getElem_toArray, List.getElem_cons_zero, List.getElem_cons_succ, List.setIfInBounds_toArray, List.set_cons_zero, List.set_cons_succ]
    refine wpAnyH_take (i := 2) (v := ?v368) rfl (by kernel_rfl) (by kernel_rfl) (by kernel_rfl) (fun _ _ _ h => h) (Or.inl ⟨by rfl, ?hy368⟩) (by assumption) ?rest368
    case hy368 => intro w hSw; (try dsimp only at hSw); go_simp; (try with_reducible rfl)
    try simp only [Act.put, List.getElem_toArray, List.getElem_cons_zero, List.getElem_cons_succ, List.setIfInBounds_toArray, List.set_cons_zero, List.set_cons_succ]
    refine wpAnyH_take (i := 3) (v := ?v369) rfl (by kernel_rfl) (by kernel_rfl) (by kernel_rfl) (fun _ _ _ h => h) (Or.inl ⟨by rfl, ?hy369⟩) (by assumption) ?rest369
    case hy369 => intro w hSw; (try dsimp only at hSw); go_simp; (try with_reducible rfl)
    try simp only [Act.put, List.getElem_toArray, List.getElem_cons_zero, List.getElem_cons_succ, List.setIfInBounds_toArray, List.set_cons_zero, List.set_cons_succ]
    refine wpAnyH_take (i := 4) (v := ?v370) rfl (by kernel_rfl) (by kernel_rfl) (by kernel_rfl) (fun _ _ _ h => h) (Or.inl ⟨by rfl, ?hy370⟩) (by assumption) ?rest370
    case hy370 => intro w hSw; (try dsimp only at hSw); go_simp; (try with_reducible rfl)
    try simp only [Act.put, List.getElem_toArray, List.getElem_cons_zero, List.getElem_cons_succ, List.setIfInBounds_toArray, List.set_cons_zero, List.set_cons_succ]
    refine wpAnyH_take (i := 5) (v := ?v371) rfl (by kernel_rfl) (by kernel_rfl) (by kernel_rfl) (fun _ _ _ h => h) (Or.inl ⟨by rfl, ?hy371⟩) (by assumption) ?rest371
    case hy371 => intro w hSw; (try dsimp only at hSw); go_simp; (try with_reducible rfl)
    try simp only [Act.put, List.getElem_toArray, List.getElem_cons_zero, List.getElem_cons_succ, List.setIfInBounds_toArray, List.set_cons_zero, List.set_cons_succ]
    refine wpAnyH_ready (rs := [6]) (by kernel_rfl) (by simp) ?_
    refine AllReadyH.cons rfl (fun K hK => ?_) AllReadyH.nil
    rw [if_pos (by rfl)]
    refine wp_store_mid 40 _ _ rfl w.heap.size 0 (icells ⟨v, 0, 0, 0, vn, ⟨#[]⟩⟩) rfl rfl (there_row HA8h.out _ (Nat.le_refl _)) (by kernel_rfl) (icells_one _) ?_
    obtain ⟨hst, hfr⟩ := store_over (V := (icells ⟨v, 0, 0, 0, vn, ⟨#[]⟩⟩)) HA8h.out (by rfl)
    have HA10 := hideIt hst
    have HFr10 := hideIt (hfr.mono (S' := fun k => k = w.heap.size ∨ k = w.heap.size + 1) (fun _ e => Or.inl e))
    have HG10 := hideIt ((hfr.block (w.heap.size + 1) HFL.out (by omega)).trans HF8h.out)
    clear hst hfr
    generalize hW10 : World.setCells _ w.heap.size 0 _ = W10 at *
    clear hW10
    refine hK.out _ _ ?_ (fun hHeld => ?_)
    · exact HS.out _ ((Fr.refl _ _).drew.trans HFr10.out (fun _ _ e => e))
    clear hK K
    try simp only [Act.put, List.getElem_toArray, List.getElem_cons_zero, List.getElem_cons_succ, List.setIfInBounds_toArray, List.set_cons_zero, List.set_cons_succ]
    refine wpAnyH_take (i := 7) (v := ?v372) rfl (by kernel_rfl) (by kernel_rfl) (by kernel_rfl) (fun _ _ _ h => h) (Or.inl ⟨by rfl, ?hy372⟩) (by assumption) ?rest372
    case hy372 => intro w hSw; (try dsimp only at hSw); go_simp; (try with_reducible rfl)
    try simp only [Act.put, List.getElem_toArray, List.getElem_cons_zero, List.getElem_cons_succ, List.setIfInBounds_toArray, List.set_cons_zero, List.set_cons_succ]
    refine wpAnyH_ready (rs := [8]) (by kernel_rfl) (by simp) ?_
    refine AllReadyH.cons rfl (fun K hK => ?_) AllReadyH.nil
    rw [if_pos (by rfl)]
    refine wp_store_mid 28 _ _ rfl (w.heap.size + 1) 0 #[.int .i64 0, .int .i64 0] rfl rfl (there_row HG10.out _ (Nat.le_refl _)) (by kernel_rfl) (fault_one _ _) ?_
    obtain ⟨hst, hfr⟩ := store_over (V := #[.int .i64 0, .int .i64 0]) HG10.out (by rfl)
    have HG11 := hideIt hst
    have HFr11 := hideIt (HFr10.out.trans hfr (fun _ _ e => Or.inr e))
    have HA11 := hideIt ((hfr.block w.heap.size (Array.getElem?_eq_some_iff.1 HA10.out).1 (by omega)).trans HA10.out)
    clear hst hfr
    generalize hW11 : World.setCells _ (w.heap.size + 1) 0 _ = W11 at *
    clear hW11
    refine hK.out _ _ ?_ (fun hHeld => ?_)
    · exact HS.out _ ((Fr.refl _ _).drew.trans HFr11.out (fun _ _ e => e))
    clear hK K
    try simp only [Act.put, List.getElem_toArray, List.getElem_cons_zero, List.getElem_cons_succ, List.setIfInBounds_toArray, List.set_cons_zero, List.set_cons_succ]
    refine wpAnyH_done (by kernel_rfl) ?_ _
    go_wp2_with fail
    have hA0 := cellOfHeap HA11.out 0 rfl
    have hA1 := cellOfHeap HA11.out 1 rfl
    have hA2 := cellOfHeap HA11.out 2 rfl
    have hA3 := cellOfHeap HA11.out 3 rfl
    have hA4 := cellOfHeap HA11.out 4 rfl
    have hA5 := cellOfHeap HA11.out 5 rfl
    have hF0 := cellOfHeap HG11.out 0 rfl
    have hF1 := cellOfHeap HG11.out 1 rfl
    refine bodyPost_ret (v := readV (⟨v, 0, 0, 0, vn, ⟨#[]⟩⟩, (pl : Int), 0, 0)) (by simp [results, Try.results32, go_sem, readV, icells, zeroI, hA0, hA1, hA2, hA3, hA4, hA5, hF0, hF1]) rfl ⟨by rw [HE.out], ?_⟩
    exact HFRw.out.trans HFr11.out (fun k hk e => by omega)
  · have HE := hideIt (show endR ⟨v, 0, 0, 0, vn, ⟨#[]⟩⟩ (pl, er, ea) = (zeroI, 0, er, ea) from if_neg hz)
    have hzb : (er != 0) = true := by simpa using hz
    have HS := hideIt HR1.out.held
    have HA8h := hideIt HR1.out.adrew
    have HF8h := hideIt HR1.out.fdrew
    have HFL := hideIt HR1.out.flt
    have HFRw := hideIt HR1.out.frdrew
    go_wp2_with fail
    refine wp_region_held_drew (S := fun w0 => InsAt w0 w2.heap.size ⟨v, 0, 0, 0, vn, ⟨#[]⟩⟩ ∧ w0.cell? ⟨w.heap.size + 2, 1, none⟩ = some (.int .i64 (pl : Int)) ∧ w0.cell? ⟨w.heap.size + 2, 2, none⟩ = some (.int .i64 er) ∧ w0.cell? ⟨w.heap.size + 2, 3, none⟩ = some (.int .i64 ea)) (by kernel_rfl) ?_ (fun hHeld => ?_)
    · exact HS.out _ (Fr.refl _ _).drew
    refine wpAnyH_take (i := 0) (v := ?v373) rfl (by kernel_rfl) (by kernel_rfl) (by kernel_rfl) (fun _ _ _ h => h) (Or.inl ⟨by rfl, ?hy373⟩) (by assumption) ?rest373
    case hy373 => intro w hSw; (try dsimp only at hSw); go_simp; (try with_reducible rfl)
    try simp only [Act.put, List.getElem_toArray, List.getElem_cons_zero, List.getElem_cons_succ, List.setIfInBounds_toArray, List.set_cons_zero, List.set_cons_succ]
    refine wpAnyH_take (i := 1) (v := ?v374) rfl (by kernel_rfl) (by kernel_rfl) (by kernel_rfl) (fun _ _ _ h => h) (Or.inl ⟨by rfl, ?hy374⟩) (by assumption) ?rest374
    case hy374 => intro w hSw; (try dsimp only at hSw); go_simp; (try with_reducible rfl)
    try simp only [Act.put, List.getElem_toArray, List.getElem_cons_zero, List.getElem_cons_succ, List.setIfInBounds_toArray, List.set_cons_zero, List.set_cons_succ]
    refine wpAnyH_take (i := 2) (v := ?v375) rfl (by kernel_rfl) (by kernel_rfl) (by kernel_rfl) (fun _ _ _ h => h) (Or.inl ⟨by rfl, ?hy375⟩) (by assumption) ?rest375
    case hy375 => intro w hSw; (try dsimp only at hSw); go_simp; (try with_reducible rfl)
    try simp only [Act.put, List.getElem_toArray, List.getElem_cons_zero, List.getElem_cons_succ, List.setIfInBounds_toArray, List.set_cons_zero, List.set_cons_succ]
    refine wpAnyH_take (i := 3) (v := ?v376) rfl (by kernel_rfl) (by kernel_rfl) (by kernel_rfl) (fun _ _ _ h => h) (Or.inl ⟨by rfl, ?hy376⟩) (by assumption) ?rest376
    case hy376 => intro w hSw; (try dsimp only at hSw); go_simp; (try with_reducible rfl)
    try simp only [Act.put, List.getElem_toArray, List.getElem_cons_zero, List.getElem_cons_succ, List.setIfInBounds_toArray, List.set_cons_zero, List.set_cons_succ]
    refine wpAnyH_take (i := 4) (v := ?v377) rfl (by kernel_rfl) (by kernel_rfl) (by kernel_rfl) (fun _ _ _ h => h) (Or.inl ⟨by rfl, ?hy377⟩) (by assumption) ?rest377
    case hy377 => intro w hSw; (try dsimp only at hSw); go_simp; (try with_reducible rfl)
    try simp only [Act.put, List.getElem_toArray, List.getElem_cons_zero, List.getElem_cons_succ, List.setIfInBounds_toArray, List.set_cons_zero, List.set_cons_succ]
    refine wpAnyH_ready (rs := [5]) (by kernel_rfl) (by simp) ?_
    refine AllReadyH.cons rfl (fun K hK => ?_) AllReadyH.nil
    rw [if_pos (by rfl)]
    refine wp_store_mid 40 _ _ rfl w.heap.size 0 (icells zeroI) rfl rfl (there_row HA8h.out _ (Nat.le_refl _)) (by kernel_rfl) (icells_one _) ?_
    obtain ⟨hst, hfr⟩ := store_over (V := (icells zeroI)) HA8h.out (by rfl)
    have HA10 := hideIt hst
    have HFr10 := hideIt (hfr.mono (S' := fun k => k = w.heap.size ∨ k = w.heap.size + 1) (fun _ e => Or.inl e))
    have HG10 := hideIt ((hfr.block (w.heap.size + 1) HFL.out (by omega)).trans HF8h.out)
    clear hst hfr
    generalize hW10 : World.setCells _ w.heap.size 0 _ = W10 at *
    clear hW10
    refine hK.out _ _ ?_ (fun hHeld => ?_)
    · exact HS.out _ ((Fr.refl _ _).drew.trans HFr10.out (fun _ _ e => e))
    clear hK K
    try simp only [Act.put, List.getElem_toArray, List.getElem_cons_zero, List.getElem_cons_succ, List.setIfInBounds_toArray, List.set_cons_zero, List.set_cons_succ]
    refine wpAnyH_take (i := 6) (v := ?v378) rfl (by kernel_rfl) (by kernel_rfl) (by kernel_rfl) (fun _ _ _ h => h) (Or.inl ⟨by rfl, ?hy378⟩) (by assumption) ?rest378
    case hy378 => intro w hSw; (try dsimp only at hSw); go_simp; (try with_reducible rfl)
    try simp only [Act.put, List.getElem_toArray, List.getElem_cons_zero, List.getElem_cons_succ, List.setIfInBounds_toArray, List.set_cons_zero, List.set_cons_succ]
    refine wpAnyH_ready (rs := [7]) (by kernel_rfl) (by simp) ?_
    refine AllReadyH.cons rfl (fun K hK => ?_) AllReadyH.nil
    rw [if_pos (by rfl)]
    refine wp_store_mid 28 _ _ rfl (w.heap.size + 1) 0 #[.int .i64 er, .int .i64 ea] rfl rfl (there_row HG10.out _ (Nat.le_refl _)) (by kernel_rfl) (fault_one _ _) ?_
    obtain ⟨hst, hfr⟩ := store_over (V := #[.int .i64 er, .int .i64 ea]) HG10.out (by rfl)
    have HG11 := hideIt hst
    have HFr11 := hideIt (HFr10.out.trans hfr (fun _ _ e => Or.inr e))
    have HA11 := hideIt ((hfr.block w.heap.size (Array.getElem?_eq_some_iff.1 HA10.out).1 (by omega)).trans HA10.out)
    clear hst hfr
    generalize hW11 : World.setCells _ (w.heap.size + 1) 0 _ = W11 at *
    clear hW11
    refine hK.out _ _ ?_ (fun hHeld => ?_)
    · exact HS.out _ ((Fr.refl _ _).drew.trans HFr11.out (fun _ _ e => e))
    clear hK K
    try simp only [Act.put, List.getElem_toArray, List.getElem_cons_zero, List.getElem_cons_succ, List.setIfInBounds_toArray, List.set_cons_zero, List.set_cons_succ]
    refine wpAnyH_done (by kernel_rfl) ?_ _
    go_wp2_with fail
    have hA0 := cellOfHeap HA11.out 0 rfl
    have hA1 := cellOfHeap HA11.out 1 rfl
    have hA2 := cellOfHeap HA11.out 2 rfl
    have hA3 := cellOfHeap HA11.out 3 rfl
    have hA4 := cellOfHeap HA11.out 4 rfl
    have hA5 := cellOfHeap HA11.out 5 rfl
    have hF0 := cellOfHeap HG11.out 0 rfl
    have hF1 := cellOfHeap HG11.out 1 rfl
    refine bodyPost_ret (v := readV (zeroI, 0, er, ea)) (by simp [results, Try.results32, go_sem, readV, icells, zeroI, hA0, hA1, hA2, hA3, hA4, hA5, hF0, hF1]) rfl ⟨by rw [HE.out], ?_⟩
    exact HFRw.out.trans HFr11.out (fun k hk e => by omega)

end Go.Proofs.Ytojgikaoiegmpaa

/- Code: the document's Read: letters ABCN, letters AN. -/
namespace Go.Proofs.Ytojgikaoiegmpaa
open Go.RowKit Go.IntWalk Go.Lib
set_option linter.unusedSimpArgs false
set_option linter.unusedVariables false
set_option maxRecDepth 100000

set_option maxRecDepth 100000 in
set_option maxHeartbeats 4000000 in
theorem vread_ABCN (ao : Option Addr) (cap : Nat) (bs : List UInt8) (a : Nat) (w : World) (hB : BsAt w ao bs) (hb : bs.length ≤ 140737488355328) (hcl : bs.length ≤ cap) (hcm : cap ≤ maxLen) (hnb : ∀ k, blk ao k → k < w.heap.size) (ha : a ≤ bs.length) (v : Int) (va : Int) (vb : Int) (vc : Int) (vn : Int) (mx : Int) (s0 s1 s2 s3 s4 : Nat × Int × Int) (h0 : rInt bs 1 15 (a, 0, 0) = (v, s0)) (h1 : rInt bs 0 7 s0 = (va, s1)) (h2 : rInt bs 0 7 s1 = (vb, s2)) (h3 : rInt bs 0 7 s2 = (vc, s3)) (h4 : rInt bs 1 mx s3 = (vn, s4)) (hmx : mostZ v = mx) (ht : hasT v = (true, true, true, true, false)) :
    Calls Try.prog 32 #[.slice ao bs.length cap, .int .i64 (a : Int)] w fun e w' => e = .returned (readV (endR ⟨v, va, vb, vc, vn, ⟨#[]⟩⟩ s4)) ∧ Fr (fun _ => False) w w' := by
  have hd1 : decide ((a : Int) < 0) = false := decide_eq_false (by omega)
  have hd2 : decide ((bs.length : Int) < (a : Int)) = false := decide_eq_false (by omega)
  have HH := hideIt (fun w => by have := vhas_any v w; rw [ht] at this; exact this)
  unfold hasV at HH
  have HM := hideIt (fun w => by have := vmost_any v w; rw [hmx] at this; exact this)
  have HY0 := hideIt (show YOk ((((w.alloc (.cells (icells zeroI) 40)).alloc (.cells #[.int .i64 0, .int .i64 0] 28))).alloc (.cells #[.slice ao bs.length cap, .int .i64 (a : Int), .int .i64 0, .int .i64 0] 63)) (w.heap.size + 2) ao cap bs (a, 0, 0) from
    ⟨⟨heap_new (by simp), hB.fr ((((Fr.refl (fun _ => False) w).alloc _).alloc _).alloc _) (fun _ _ _ e => e)⟩, fun e => by have := hnb _ e; omega, ha⟩)
  have HNB := hideIt hnb
  have HCM := hideIt hcm
  clear hB ht hnb hcm hmx
  go_enter Try.func32, Try.ntmps32
  go_wp2_with fail
  refine Calls.mono (yint_any (w.heap.size + 2) ao cap bs (a, 0, 0) 1 15 _ HY0.out hb) ?_
  rw [h0]
  rintro e w2 ⟨rfl, hy, hF⟩
  have hFa : Fr (fun _ => False) w w2 := ((((Fr.refl (fun _ => False) w).alloc _).alloc _).alloc _).trans hF (fun k hk e => by omega)
  have hsz : w.heap.size + 2 < w2.heap.size := hy.1.lt
  have hF3 : Fr (fun _ => False) w2 (w2.alloc (.cells (icells ⟨v, 0, 0, 0, 0, ⟨#[]⟩⟩) 40)) := (Fr.refl _ _).alloc _
  have HR0 := hideIt (show RS w (w2.alloc (.cells (icells ⟨v, 0, 0, 0, 0, ⟨#[]⟩⟩) 40)) w2.heap.size ao cap bs s0 ⟨v, 0, 0, 0, 0, ⟨#[]⟩⟩ from
    ⟨⟨hy.1.fr hF3 (fun e => e) (fun _ _ _ e => e), hy.2⟩, heap_new rfl, heap_old ((hF.block w.heap.size (by simp; omega) (by omega)).trans (heap_old (heap_old (heap_new rfl)))), heap_old ((hF.block (w.heap.size + 1) (by simp) (by omega)).trans (heap_old (heap_new (by simp)))), hFa.trans hF3 (fun _ _ e => e), hsz, HNB.out⟩)
  clear hy hF hFa hF3 HY0 HNB h0 ha
  go_wp2_with fail
  refine Calls.mono (HH.out _) ?_
  rintro e wx ⟨rfl, rfl⟩
  clear HH
  unfold icells at HR0
  go_wp2_with fail
  refine Calls.mono (rs_int HR0.out hb 0 7 va h1) ?_
  rintro e w10 ⟨rfl, hR⟩
  have hc := hR.j.c1
  have hzf := hR.j.fz 1
  have hlt := hR.j.lt
  dsimp only [Ins.put] at hc
  have HR1 := hideIt (hR.putN 1 (by decide) (by decide) va)
  clear hR HR0
  go_wp2_with fail
  clear hc hzf hlt
  refine Calls.mono (rs_int HR1.out hb 0 7 vb h2) ?_
  rintro e w11 ⟨rfl, hR⟩
  have hc := hR.j.c2
  have hzf := hR.j.fz 2
  have hlt := hR.j.lt
  dsimp only [Ins.put] at hc
  have HR2 := hideIt (hR.putN 2 (by decide) (by decide) vb)
  clear hR HR1
  go_wp2_with fail
  clear hc hzf hlt
  refine Calls.mono (rs_int HR2.out hb 0 7 vc h3) ?_
  rintro e w12 ⟨rfl, hR⟩
  have hc := hR.j.c3
  have hzf := hR.j.fz 3
  have hlt := hR.j.lt
  dsimp only [Ins.put] at hc
  have HR3 := hideIt (hR.putN 3 (by decide) (by decide) vc)
  clear hR HR2
  have c0 := HR3.out.j.c0
  dsimp only [Ins.put] at c0
  go_wp2_with fail
  clear hc hzf hlt
  refine Calls.mono (HM.out _) ?_
  rintro e wx ⟨rfl, rfl⟩
  go_wp2_with fail
  refine Calls.mono (rs_int HR3.out hb 1 mx vn h4) ?_
  rintro e w13 ⟨rfl, hR⟩
  have hc := hR.j.c4
  have hzf := hR.j.fz 4
  have hlt := hR.j.lt
  dsimp only [Ins.put] at hc
  have HR4 := hideIt (hR.putN 4 (by decide) (by decide) vn)
  clear hR HR3
  obtain ⟨pl, er, ea⟩ := s4
  have c2 := HR4.out.y.1.c2
  dsimp only at c2
  by_cases hz : er = 0
  · subst hz
    have HE := hideIt (show endR ⟨v, va, vb, vc, vn, ⟨#[]⟩⟩ (pl, 0, ea) = (⟨v, va, vb, vc, vn, ⟨#[]⟩⟩, (pl : Int), 0, 0) from if_pos rfl)
    have HS := hideIt HR4.out.held
    have HA8h := hideIt HR4.out.adrew
    have HF8h := hideIt HR4.out.fdrew
    have HFL := hideIt HR4.out.flt
    have HFRw := hideIt HR4.out.frdrew
    go_wp2_with fail
    refine wp_region_held_drew (S := fun w0 => InsAt w0 w2.heap.size ⟨v, va, vb, vc, vn, ⟨#[]⟩⟩ ∧ w0.cell? ⟨w.heap.size + 2, 1, none⟩ = some (.int .i64 (pl : Int)) ∧ w0.cell? ⟨w.heap.size + 2, 2, none⟩ = some (.int .i64 0) ∧ w0.cell? ⟨w.heap.size + 2, 3, none⟩ = some (.int .i64 ea)) (by kernel_rfl) ?_ (fun hHeld => ?_)
    · exact HS.out _ (Fr.refl _ _).drew
    refine wpAnyH_take (i := 0) (v := ?v379) rfl (by kernel_rfl) (by kernel_rfl) (by kernel_rfl) (fun _ _ _ h => h) (Or.inl ⟨by rfl, ?hy379⟩) (by assumption) ?rest379
    case hy379 => intro w hSw; (try dsimp only at hSw); obtain ⟨hSI, hS1, hS2, hS3⟩ := hSw; have c0 := hSI.c0; have c1 := hSI.c1; have c2 := hSI.c2; have c3 := hSI.c3; have c4 := hSI.c4; have c5 := hSI.c5; go_simp; (try with_reducible rfl)
    try simp only [Act.put, List.getElem_toArray, List.getElem_cons_zero, List.getElem_cons_succ, List.setIfInBounds_toArray, List.set_cons_zero, List.set_cons_succ]
    refine wpAnyH_take (i := 1) (v := ?v380) rfl (by kernel_rfl) (by kernel_rfl) (by kernel_rfl) (fun _ _ _ h => h) (Or.inl ⟨by rfl, ?hy380⟩) (by assumption) ?rest380
    case hy380 => intro w hSw; (try dsimp only at hSw); go_simp; (try with_reducible rfl)
    try simp only [Act.put, List.getElem_toArray, List.getElem_cons_zero, List.getElem_cons_succ, List.setIfInBounds_toArray, List.set_cons_zero, List.set_cons_succ]
    refine wpAnyH_take (i := 2) (v := ?v381) rfl (by kernel_rfl) (by kernel_rfl) (by kernel_rfl) (fun _ _ _ h => h) (Or.inl ⟨by rfl, ?hy381⟩) (by assumption) ?rest381
    case hy381 => intro w hSw; (try dsimp only at hSw); go_simp; (try with_reducible rfl)
    try simp only [Act.put, List.getElem_toArray, List.getElem_cons_zero, List.getElem_cons_succ, List.setIfInBounds_toArray, List.set_cons_zero, List.set_cons_succ]
    refine wpAnyH_take (i := 3) (v := ?v382) rfl (by kernel_rfl) (by kernel_rfl) (by kernel_rfl) (fun _ _ _ h => h) (Or.inl ⟨by rfl, ?hy382⟩) (by assumption) ?rest382
    case hy382 => intro w hSw; (try dsimp only at hSw); go_simp; (try with_reducible rfl)
    try simp only [Act.put, List.getElem_toArray, List.getElem_cons_zero, List.getElem_cons_succ, List.setIfInBounds_toArray, List.set_cons_zero, List.set_cons_succ]
    refine wpAnyH_take (i := 4) (v := ?v383) rfl (by kernel_rfl) (by kernel_rfl) (by kernel_rfl) (fun _ _ _ h => h) (Or.inl ⟨by rfl, ?hy383⟩) (by assumption) ?rest383
    case hy383 => intro w hSw; (try dsimp only at hSw); go_simp; (try with_reducible rfl)
    try simp only [Act.put, List.getElem_toArray, List.getElem_cons_zero, List.getElem_cons_succ, List.setIfInBounds_toArray, List.set_cons_zero, List.set_cons_succ]
    refine wpAnyH_take (i := 5) (v := ?v384) rfl (by kernel_rfl) (by kernel_rfl) (by kernel_rfl) (fun _ _ _ h => h) (Or.inl ⟨by rfl, ?hy384⟩) (by assumption) ?rest384
    case hy384 => intro w hSw; (try dsimp only at hSw); go_simp; (try with_reducible rfl)
    try simp only [Act.put, List.getElem_toArray, List.getElem_cons_zero, List.getElem_cons_succ, List.setIfInBounds_toArray, List.set_cons_zero, List.set_cons_succ]
    refine wpAnyH_ready (rs := [6]) (by kernel_rfl) (by simp) ?_
    refine AllReadyH.cons rfl (fun K hK => ?_) AllReadyH.nil
    rw [if_pos (by rfl)]
    refine wp_store_mid 40 _ _ rfl w.heap.size 0 (icells ⟨v, va, vb, vc, vn, ⟨#[]⟩⟩) rfl rfl (there_row HA8h.out _ (Nat.le_refl _)) (by kernel_rfl) (icells_one _) ?_
    obtain ⟨hst, hfr⟩ := store_over (V := (icells ⟨v, va, vb, vc, vn, ⟨#[]⟩⟩)) HA8h.out (by rfl)
    have HA10 := hideIt hst
    have HFr10 := hideIt (hfr.mono (S' := fun k => k = w.heap.size ∨ k = w.heap.size + 1) (fun _ e => Or.inl e))
    have HG10 := hideIt ((hfr.block (w.heap.size + 1) HFL.out (by omega)).trans HF8h.out)
    clear hst hfr
    generalize hW10 : World.setCells _ w.heap.size 0 _ = W10 at *
    clear hW10
    refine hK.out _ _ ?_ (fun hHeld => ?_)
    · exact HS.out _ ((Fr.refl _ _).drew.trans HFr10.out (fun _ _ e => e))
    clear hK K
    try simp only [Act.put, List.getElem_toArray, List.getElem_cons_zero, List.getElem_cons_succ, List.setIfInBounds_toArray, List.set_cons_zero, List.set_cons_succ]
    refine wpAnyH_take (i := 7) (v := ?v385) rfl (by kernel_rfl) (by kernel_rfl) (by kernel_rfl) (fun _ _ _ h => h) (Or.inl ⟨by rfl, ?hy385⟩) (by assumption) ?rest385
    case hy385 => intro w hSw; (try dsimp only at hSw); go_simp; (try with_reducible rfl)
    try simp only [Act.put, List.getElem_toArray, List.getElem_cons_zero, List.getElem_cons_succ, List.setIfInBounds_toArray, List.set_cons_zero, List.set_cons_succ]
    refine wpAnyH_ready (rs := [8]) (by kernel_rfl) (by simp) ?_
    refine AllReadyH.cons rfl (fun K hK => ?_) AllReadyH.nil
    rw [if_pos (by rfl)]
    refine wp_store_mid 28 _ _ rfl (w.heap.size + 1) 0 #[.int .i64 0, .int .i64 0] rfl rfl (there_row HG10.out _ (Nat.le_refl _)) (by kernel_rfl) (fault_one _ _) ?_
    obtain ⟨hst, hfr⟩ := store_over (V := #[.int .i64 0, .int .i64 0]) HG10.out (by rfl)
    have HG11 := hideIt hst
    have HFr11 := hideIt (HFr10.out.trans hfr (fun _ _ e => Or.inr e))
    have HA11 := hideIt ((hfr.block w.heap.size (Array.getElem?_eq_some_iff.1 HA10.out).1 (by omega)).trans HA10.out)
    clear hst hfr
    generalize hW11 : World.setCells _ (w.heap.size + 1) 0 _ = W11 at *
    clear hW11
    refine hK.out _ _ ?_ (fun hHeld => ?_)
    · exact HS.out _ ((Fr.refl _ _).drew.trans HFr11.out (fun _ _ e => e))
    clear hK K
    try simp only [Act.put, List.getElem_toArray, List.getElem_cons_zero, List.getElem_cons_succ, List.setIfInBounds_toArray, List.set_cons_zero, List.set_cons_succ]
    refine wpAnyH_done (by kernel_rfl) ?_ _
    go_wp2_with fail
    have hA0 := cellOfHeap HA11.out 0 rfl
    have hA1 := cellOfHeap HA11.out 1 rfl
    have hA2 := cellOfHeap HA11.out 2 rfl
    have hA3 := cellOfHeap HA11.out 3 rfl
    have hA4 := cellOfHeap HA11.out 4 rfl
    have hA5 := cellOfHeap HA11.out 5 rfl
    have hF0 := cellOfHeap HG11.out 0 rfl
    have hF1 := cellOfHeap HG11.out 1 rfl
    refine bodyPost_ret (v := readV (⟨v, va, vb, vc, vn, ⟨#[]⟩⟩, (pl : Int), 0, 0)) (by simp [results, Try.results32, go_sem, readV, icells, zeroI, hA0, hA1, hA2, hA3, hA4, hA5, hF0, hF1]) rfl ⟨by rw [HE.out], ?_⟩
    exact HFRw.out.trans HFr11.out (fun k hk e => by omega)
  · have HE := hideIt (show endR ⟨v, va, vb, vc, vn, ⟨#[]⟩⟩ (pl, er, ea) = (zeroI, 0, er, ea) from if_neg hz)
    have hzb : (er != 0) = true := by simpa using hz
    have HS := hideIt HR4.out.held
    have HA8h := hideIt HR4.out.adrew
    have HF8h := hideIt HR4.out.fdrew
    have HFL := hideIt HR4.out.flt
    have HFRw := hideIt HR4.out.frdrew
    go_wp2_with fail
    refine wp_region_held_drew (S := fun w0 => InsAt w0 w2.heap.size ⟨v, va, vb, vc, vn, ⟨#[]⟩⟩ ∧ w0.cell? ⟨w.heap.size + 2, 1, none⟩ = some (.int .i64 (pl : Int)) ∧ w0.cell? ⟨w.heap.size + 2, 2, none⟩ = some (.int .i64 er) ∧ w0.cell? ⟨w.heap.size + 2, 3, none⟩ = some (.int .i64 ea)) (by kernel_rfl) ?_ (fun hHeld => ?_)
    · exact HS.out _ (Fr.refl _ _).drew
    refine wpAnyH_take (i := 0) (v := ?v386) rfl (by kernel_rfl) (by kernel_rfl) (by kernel_rfl) (fun _ _ _ h => h) (Or.inl ⟨by rfl, ?hy386⟩) (by assumption) ?rest386
    case hy386 => intro w hSw; (try dsimp only at hSw); go_simp; (try with_reducible rfl)
    try simp only [Act.put, List.getElem_toArray, List.getElem_cons_zero, List.getElem_cons_succ, List.setIfInBounds_toArray, List.set_cons_zero, List.set_cons_succ]
    refine wpAnyH_take (i := 1) (v := ?v387) rfl (by kernel_rfl) (by kernel_rfl) (by kernel_rfl) (fun _ _ _ h => h) (Or.inl ⟨by rfl, ?hy387⟩) (by assumption) ?rest387
    case hy387 => intro w hSw; (try dsimp only at hSw); go_simp; (try with_reducible rfl)
    try simp only [Act.put, List.getElem_toArray, List.getElem_cons_zero, List.getElem_cons_succ, List.setIfInBounds_toArray, List.set_cons_zero, List.set_cons_succ]
    refine wpAnyH_take (i := 2) (v := ?v388) rfl (by kernel_rfl) (by kernel_rfl) (by kernel_rfl) (fun _ _ _ h => h) (Or.inl ⟨by rfl, ?hy388⟩) (by assumption) ?rest388
    case hy388 => intro w hSw; (try dsimp only at hSw); go_simp; (try with_reducible rfl)
    try simp only [Act.put, List.getElem_toArray, List.getElem_cons_zero, List.getElem_cons_succ, List.setIfInBounds_toArray, List.set_cons_zero, List.set_cons_succ]
    refine wpAnyH_take (i := 3) (v := ?v389) rfl (by kernel_rfl) (by kernel_rfl) (by kernel_rfl) (fun _ _ _ h => h) (Or.inl ⟨by rfl, ?hy389⟩) (by assumption) ?rest389
    case hy389 => intro w hSw; (try dsimp only at hSw); go_simp; (try with_reducible rfl)
    try simp only [Act.put, List.getElem_toArray, List.getElem_cons_zero, List.getElem_cons_succ, List.setIfInBounds_toArray, List.set_cons_zero, List.set_cons_succ]
    refine wpAnyH_take (i := 4) (v := ?v390) rfl (by kernel_rfl) (by kernel_rfl) (by kernel_rfl) (fun _ _ _ h => h) (Or.inl ⟨by rfl, ?hy390⟩) (by assumption) ?rest390
    case hy390 => intro w hSw; (try dsimp only at hSw); go_simp; (try with_reducible rfl)
    try simp only [Act.put, List.getElem_toArray, List.getElem_cons_zero, List.getElem_cons_succ, List.setIfInBounds_toArray, List.set_cons_zero, List.set_cons_succ]
    refine wpAnyH_ready (rs := [5]) (by kernel_rfl) (by simp) ?_
    refine AllReadyH.cons rfl (fun K hK => ?_) AllReadyH.nil
    rw [if_pos (by rfl)]
    refine wp_store_mid 40 _ _ rfl w.heap.size 0 (icells zeroI) rfl rfl (there_row HA8h.out _ (Nat.le_refl _)) (by kernel_rfl) (icells_one _) ?_
    obtain ⟨hst, hfr⟩ := store_over (V := (icells zeroI)) HA8h.out (by rfl)
    have HA10 := hideIt hst
    have HFr10 := hideIt (hfr.mono (S' := fun k => k = w.heap.size ∨ k = w.heap.size + 1) (fun _ e => Or.inl e))
    have HG10 := hideIt ((hfr.block (w.heap.size + 1) HFL.out (by omega)).trans HF8h.out)
    clear hst hfr
    generalize hW10 : World.setCells _ w.heap.size 0 _ = W10 at *
    clear hW10
    refine hK.out _ _ ?_ (fun hHeld => ?_)
    · exact HS.out _ ((Fr.refl _ _).drew.trans HFr10.out (fun _ _ e => e))
    clear hK K
    try simp only [Act.put, List.getElem_toArray, List.getElem_cons_zero, List.getElem_cons_succ, List.setIfInBounds_toArray, List.set_cons_zero, List.set_cons_succ]
    refine wpAnyH_take (i := 6) (v := ?v391) rfl (by kernel_rfl) (by kernel_rfl) (by kernel_rfl) (fun _ _ _ h => h) (Or.inl ⟨by rfl, ?hy391⟩) (by assumption) ?rest391
    case hy391 => intro w hSw; (try dsimp only at hSw); go_simp; (try with_reducible rfl)
    try simp only [Act.put, List.getElem_toArray, List.getElem_cons_zero, List.getElem_cons_succ, List.setIfInBounds_toArray, List.set_cons_zero, List.set_cons_succ]
    refine wpAnyH_ready (rs := [7]) (by kernel_rfl) (by simp) ?_
    refine AllReadyH.cons rfl (fun K hK => ?_) AllReadyH.nil
    rw [if_pos (by rfl)]
    refine wp_store_mid 28 _ _ rfl (w.heap.size + 1) 0 #[.int .i64 er, .int .i64 ea] rfl rfl (there_row HG10.out _ (Nat.le_refl _)) (by kernel_rfl) (fault_one _ _) ?_
    obtain ⟨hst, hfr⟩ := store_over (V := #[.int .i64 er, .int .i64 ea]) HG10.out (by rfl)
    have HG11 := hideIt hst
    have HFr11 := hideIt (HFr10.out.trans hfr (fun _ _ e => Or.inr e))
    have HA11 := hideIt ((hfr.block w.heap.size (Array.getElem?_eq_some_iff.1 HA10.out).1 (by omega)).trans HA10.out)
    clear hst hfr
    generalize hW11 : World.setCells _ (w.heap.size + 1) 0 _ = W11 at *
    clear hW11
    refine hK.out _ _ ?_ (fun hHeld => ?_)
    · exact HS.out _ ((Fr.refl _ _).drew.trans HFr11.out (fun _ _ e => e))
    clear hK K
    try simp only [Act.put, List.getElem_toArray, List.getElem_cons_zero, List.getElem_cons_succ, List.setIfInBounds_toArray, List.set_cons_zero, List.set_cons_succ]
    refine wpAnyH_done (by kernel_rfl) ?_ _
    go_wp2_with fail
    have hA0 := cellOfHeap HA11.out 0 rfl
    have hA1 := cellOfHeap HA11.out 1 rfl
    have hA2 := cellOfHeap HA11.out 2 rfl
    have hA3 := cellOfHeap HA11.out 3 rfl
    have hA4 := cellOfHeap HA11.out 4 rfl
    have hA5 := cellOfHeap HA11.out 5 rfl
    have hF0 := cellOfHeap HG11.out 0 rfl
    have hF1 := cellOfHeap HG11.out 1 rfl
    refine bodyPost_ret (v := readV (zeroI, 0, er, ea)) (by simp [results, Try.results32, go_sem, readV, icells, zeroI, hA0, hA1, hA2, hA3, hA4, hA5, hF0, hF1]) rfl ⟨by rw [HE.out], ?_⟩
    exact HFRw.out.trans HFr11.out (fun k hk e => by omega)

set_option maxRecDepth 100000 in
set_option maxHeartbeats 4000000 in
theorem vread_AN (ao : Option Addr) (cap : Nat) (bs : List UInt8) (a : Nat) (w : World) (hB : BsAt w ao bs) (hb : bs.length ≤ 140737488355328) (hcl : bs.length ≤ cap) (hcm : cap ≤ maxLen) (hnb : ∀ k, blk ao k → k < w.heap.size) (ha : a ≤ bs.length) (v : Int) (va : Int) (vn : Int) (mx : Int) (s0 s1 s2 : Nat × Int × Int) (h0 : rInt bs 1 15 (a, 0, 0) = (v, s0)) (h1 : rInt bs 0 7 s0 = (va, s1)) (h2 : rInt bs 1 mx s1 = (vn, s2)) (hmx : mostZ v = mx) (ht : hasT v = (true, false, false, true, false)) :
    Calls Try.prog 32 #[.slice ao bs.length cap, .int .i64 (a : Int)] w fun e w' => e = .returned (readV (endR ⟨v, va, 0, 0, vn, ⟨#[]⟩⟩ s2)) ∧ Fr (fun _ => False) w w' := by
  have hd1 : decide ((a : Int) < 0) = false := decide_eq_false (by omega)
  have hd2 : decide ((bs.length : Int) < (a : Int)) = false := decide_eq_false (by omega)
  have HH := hideIt (fun w => by have := vhas_any v w; rw [ht] at this; exact this)
  unfold hasV at HH
  have HM := hideIt (fun w => by have := vmost_any v w; rw [hmx] at this; exact this)
  have HY0 := hideIt (show YOk ((((w.alloc (.cells (icells zeroI) 40)).alloc (.cells #[.int .i64 0, .int .i64 0] 28))).alloc (.cells #[.slice ao bs.length cap, .int .i64 (a : Int), .int .i64 0, .int .i64 0] 63)) (w.heap.size + 2) ao cap bs (a, 0, 0) from
    ⟨⟨heap_new (by simp), hB.fr ((((Fr.refl (fun _ => False) w).alloc _).alloc _).alloc _) (fun _ _ _ e => e)⟩, fun e => by have := hnb _ e; omega, ha⟩)
  have HNB := hideIt hnb
  have HCM := hideIt hcm
  clear hB ht hnb hcm hmx
  go_enter Try.func32, Try.ntmps32
  go_wp2_with fail
  refine Calls.mono (yint_any (w.heap.size + 2) ao cap bs (a, 0, 0) 1 15 _ HY0.out hb) ?_
  rw [h0]
  rintro e w2 ⟨rfl, hy, hF⟩
  have hFa : Fr (fun _ => False) w w2 := ((((Fr.refl (fun _ => False) w).alloc _).alloc _).alloc _).trans hF (fun k hk e => by omega)
  have hsz : w.heap.size + 2 < w2.heap.size := hy.1.lt
  have hF3 : Fr (fun _ => False) w2 (w2.alloc (.cells (icells ⟨v, 0, 0, 0, 0, ⟨#[]⟩⟩) 40)) := (Fr.refl _ _).alloc _
  have HR0 := hideIt (show RS w (w2.alloc (.cells (icells ⟨v, 0, 0, 0, 0, ⟨#[]⟩⟩) 40)) w2.heap.size ao cap bs s0 ⟨v, 0, 0, 0, 0, ⟨#[]⟩⟩ from
    ⟨⟨hy.1.fr hF3 (fun e => e) (fun _ _ _ e => e), hy.2⟩, heap_new rfl, heap_old ((hF.block w.heap.size (by simp; omega) (by omega)).trans (heap_old (heap_old (heap_new rfl)))), heap_old ((hF.block (w.heap.size + 1) (by simp) (by omega)).trans (heap_old (heap_new (by simp)))), hFa.trans hF3 (fun _ _ e => e), hsz, HNB.out⟩)
  clear hy hF hFa hF3 HY0 HNB h0 ha
  go_wp2_with fail
  refine Calls.mono (HH.out _) ?_
  rintro e wx ⟨rfl, rfl⟩
  clear HH
  unfold icells at HR0
  go_wp2_with fail
  refine Calls.mono (rs_int HR0.out hb 0 7 va h1) ?_
  rintro e w10 ⟨rfl, hR⟩
  have hc := hR.j.c1
  have hzf := hR.j.fz 1
  have hlt := hR.j.lt
  dsimp only [Ins.put] at hc
  have HR1 := hideIt (hR.putN 1 (by decide) (by decide) va)
  clear hR HR0
  have c0 := HR1.out.j.c0
  dsimp only [Ins.put] at c0
  go_wp2_with fail
  clear hc hzf hlt
  refine Calls.mono (HM.out _) ?_
  rintro e wx ⟨rfl, rfl⟩
  go_wp2_with fail
  refine Calls.mono (rs_int HR1.out hb 1 mx vn h2) ?_
  rintro e w11 ⟨rfl, hR⟩
  have hc := hR.j.c4
  have hzf := hR.j.fz 4
  have hlt := hR.j.lt
  dsimp only [Ins.put] at hc
  have HR2 := hideIt (hR.putN 4 (by decide) (by decide) vn)
  clear hR HR1
  obtain ⟨pl, er, ea⟩ := s2
  have c2 := HR2.out.y.1.c2
  dsimp only at c2
  by_cases hz : er = 0
  · subst hz
    have HE := hideIt (show endR ⟨v, va, 0, 0, vn, ⟨#[]⟩⟩ (pl, 0, ea) = (⟨v, va, 0, 0, vn, ⟨#[]⟩⟩, (pl : Int), 0, 0) from if_pos rfl)
    have HS := hideIt HR2.out.held
    have HA8h := hideIt HR2.out.adrew
    have HF8h := hideIt HR2.out.fdrew
    have HFL := hideIt HR2.out.flt
    have HFRw := hideIt HR2.out.frdrew
    go_wp2_with fail
    refine wp_region_held_drew (S := fun w0 => InsAt w0 w2.heap.size ⟨v, va, 0, 0, vn, ⟨#[]⟩⟩ ∧ w0.cell? ⟨w.heap.size + 2, 1, none⟩ = some (.int .i64 (pl : Int)) ∧ w0.cell? ⟨w.heap.size + 2, 2, none⟩ = some (.int .i64 0) ∧ w0.cell? ⟨w.heap.size + 2, 3, none⟩ = some (.int .i64 ea)) (by kernel_rfl) ?_ (fun hHeld => ?_)
    · exact HS.out _ (Fr.refl _ _).drew
    refine wpAnyH_take (i := 0) (v := ?v392) rfl (by kernel_rfl) (by kernel_rfl) (by kernel_rfl) (fun _ _ _ h => h) (Or.inl ⟨by rfl, ?hy392⟩) (by assumption) ?rest392
    case hy392 => intro w hSw; (try dsimp only at hSw); obtain ⟨hSI, hS1, hS2, hS3⟩ := hSw; have c0 := hSI.c0; have c1 := hSI.c1; have c2 := hSI.c2; have c3 := hSI.c3; have c4 := hSI.c4; have c5 := hSI.c5; go_simp; (try with_reducible rfl)
    try simp only [Act.put, List.getElem_toArray, List.getElem_cons_zero, List.getElem_cons_succ, List.setIfInBounds_toArray, List.set_cons_zero, List.set_cons_succ]
    refine wpAnyH_take (i := 1) (v := ?v393) rfl (by kernel_rfl) (by kernel_rfl) (by kernel_rfl) (fun _ _ _ h => h) (Or.inl ⟨by rfl, ?hy393⟩) (by assumption) ?rest393
    case hy393 => intro w hSw; (try dsimp only at hSw); go_simp; (try with_reducible rfl)
    try simp only [Act.put, List.getElem_toArray, List.getElem_cons_zero, List.getElem_cons_succ, List.setIfInBounds_toArray, List.set_cons_zero, List.set_cons_succ]
    refine wpAnyH_take (i := 2) (v := ?v394) rfl (by kernel_rfl) (by kernel_rfl) (by kernel_rfl) (fun _ _ _ h => h) (Or.inl ⟨by rfl, ?hy394⟩) (by assumption) ?rest394
    case hy394 => intro w hSw; (try dsimp only at hSw); go_simp; (try with_reducible rfl)
    try simp only [Act.put, List.getElem_toArray, List.getElem_cons_zero, List.getElem_cons_succ, List.setIfInBounds_toArray, List.set_cons_zero, List.set_cons_succ]
    refine wpAnyH_take (i := 3) (v := ?v395) rfl (by kernel_rfl) (by kernel_rfl) (by kernel_rfl) (fun _ _ _ h => h) (Or.inl ⟨by rfl, ?hy395⟩) (by assumption) ?rest395
    case hy395 => intro w hSw; (try dsimp only at hSw); go_simp; (try with_reducible rfl)
    try simp only [Act.put, List.getElem_toArray, List.getElem_cons_zero, List.getElem_cons_succ, List.setIfInBounds_toArray, List.set_cons_zero, List.set_cons_succ]
    refine wpAnyH_take (i := 4) (v := ?v396) rfl (by kernel_rfl) (by kernel_rfl) (by kernel_rfl) (fun _ _ _ h => h) (Or.inl ⟨by rfl, ?hy396⟩) (by assumption) ?rest396
    case hy396 => intro w hSw; (try dsimp only at hSw); go_simp; (try with_reducible rfl)
    try simp only [Act.put, List.getElem_toArray, List.getElem_cons_zero, List.getElem_cons_succ, List.setIfInBounds_toArray, List.set_cons_zero, List.set_cons_succ]
    refine wpAnyH_take (i := 5) (v := ?v397) rfl (by kernel_rfl) (by kernel_rfl) (by kernel_rfl) (fun _ _ _ h => h) (Or.inl ⟨by rfl, ?hy397⟩) (by assumption) ?rest397
    case hy397 => intro w hSw; (try dsimp only at hSw); go_simp; (try with_reducible rfl)
    try simp only [Act.put, List.getElem_toArray, List.getElem_cons_zero, List.getElem_cons_succ, List.setIfInBounds_toArray, List.set_cons_zero, List.set_cons_succ]
    refine wpAnyH_ready (rs := [6]) (by kernel_rfl) (by simp) ?_
    refine AllReadyH.cons rfl (fun K hK => ?_) AllReadyH.nil
    rw [if_pos (by rfl)]
    refine wp_store_mid 40 _ _ rfl w.heap.size 0 (icells ⟨v, va, 0, 0, vn, ⟨#[]⟩⟩) rfl rfl (there_row HA8h.out _ (Nat.le_refl _)) (by kernel_rfl) (icells_one _) ?_
    obtain ⟨hst, hfr⟩ := store_over (V := (icells ⟨v, va, 0, 0, vn, ⟨#[]⟩⟩)) HA8h.out (by rfl)
    have HA10 := hideIt hst
    have HFr10 := hideIt (hfr.mono (S' := fun k => k = w.heap.size ∨ k = w.heap.size + 1) (fun _ e => Or.inl e))
    have HG10 := hideIt ((hfr.block (w.heap.size + 1) HFL.out (by omega)).trans HF8h.out)
    clear hst hfr
    generalize hW10 : World.setCells _ w.heap.size 0 _ = W10 at *
    clear hW10
    refine hK.out _ _ ?_ (fun hHeld => ?_)
    · exact HS.out _ ((Fr.refl _ _).drew.trans HFr10.out (fun _ _ e => e))
    clear hK K
    try simp only [Act.put, List.getElem_toArray, List.getElem_cons_zero, List.getElem_cons_succ, List.setIfInBounds_toArray, List.set_cons_zero, List.set_cons_succ]
    refine wpAnyH_take (i := 7) (v := ?v398) rfl (by kernel_rfl) (by kernel_rfl) (by kernel_rfl) (fun _ _ _ h => h) (Or.inl ⟨by rfl, ?hy398⟩) (by assumption) ?rest398
    case hy398 => intro w hSw; (try dsimp only at hSw); go_simp; (try with_reducible rfl)
    try simp only [Act.put, List.getElem_toArray, List.getElem_cons_zero, List.getElem_cons_succ, List.setIfInBounds_toArray, List.set_cons_zero, List.set_cons_succ]
    refine wpAnyH_ready (rs := [8]) (by kernel_rfl) (by simp) ?_
    refine AllReadyH.cons rfl (fun K hK => ?_) AllReadyH.nil
    rw [if_pos (by rfl)]
    refine wp_store_mid 28 _ _ rfl (w.heap.size + 1) 0 #[.int .i64 0, .int .i64 0] rfl rfl (there_row HG10.out _ (Nat.le_refl _)) (by kernel_rfl) (fault_one _ _) ?_
    obtain ⟨hst, hfr⟩ := store_over (V := #[.int .i64 0, .int .i64 0]) HG10.out (by rfl)
    have HG11 := hideIt hst
    have HFr11 := hideIt (HFr10.out.trans hfr (fun _ _ e => Or.inr e))
    have HA11 := hideIt ((hfr.block w.heap.size (Array.getElem?_eq_some_iff.1 HA10.out).1 (by omega)).trans HA10.out)
    clear hst hfr
    generalize hW11 : World.setCells _ (w.heap.size + 1) 0 _ = W11 at *
    clear hW11
    refine hK.out _ _ ?_ (fun hHeld => ?_)
    · exact HS.out _ ((Fr.refl _ _).drew.trans HFr11.out (fun _ _ e => e))
    clear hK K
    try simp only [Act.put, List.getElem_toArray, List.getElem_cons_zero, List.getElem_cons_succ, List.setIfInBounds_toArray, List.set_cons_zero, List.set_cons_succ]
    refine wpAnyH_done (by kernel_rfl) ?_ _
    go_wp2_with fail
    have hA0 := cellOfHeap HA11.out 0 rfl
    have hA1 := cellOfHeap HA11.out 1 rfl
    have hA2 := cellOfHeap HA11.out 2 rfl
    have hA3 := cellOfHeap HA11.out 3 rfl
    have hA4 := cellOfHeap HA11.out 4 rfl
    have hA5 := cellOfHeap HA11.out 5 rfl
    have hF0 := cellOfHeap HG11.out 0 rfl
    have hF1 := cellOfHeap HG11.out 1 rfl
    refine bodyPost_ret (v := readV (⟨v, va, 0, 0, vn, ⟨#[]⟩⟩, (pl : Int), 0, 0)) (by simp [results, Try.results32, go_sem, readV, icells, zeroI, hA0, hA1, hA2, hA3, hA4, hA5, hF0, hF1]) rfl ⟨by rw [HE.out], ?_⟩
    exact HFRw.out.trans HFr11.out (fun k hk e => by omega)
  · have HE := hideIt (show endR ⟨v, va, 0, 0, vn, ⟨#[]⟩⟩ (pl, er, ea) = (zeroI, 0, er, ea) from if_neg hz)
    have hzb : (er != 0) = true := by simpa using hz
    have HS := hideIt HR2.out.held
    have HA8h := hideIt HR2.out.adrew
    have HF8h := hideIt HR2.out.fdrew
    have HFL := hideIt HR2.out.flt
    have HFRw := hideIt HR2.out.frdrew
    go_wp2_with fail
    refine wp_region_held_drew (S := fun w0 => InsAt w0 w2.heap.size ⟨v, va, 0, 0, vn, ⟨#[]⟩⟩ ∧ w0.cell? ⟨w.heap.size + 2, 1, none⟩ = some (.int .i64 (pl : Int)) ∧ w0.cell? ⟨w.heap.size + 2, 2, none⟩ = some (.int .i64 er) ∧ w0.cell? ⟨w.heap.size + 2, 3, none⟩ = some (.int .i64 ea)) (by kernel_rfl) ?_ (fun hHeld => ?_)
    · exact HS.out _ (Fr.refl _ _).drew
    refine wpAnyH_take (i := 0) (v := ?v399) rfl (by kernel_rfl) (by kernel_rfl) (by kernel_rfl) (fun _ _ _ h => h) (Or.inl ⟨by rfl, ?hy399⟩) (by assumption) ?rest399
    case hy399 => intro w hSw; (try dsimp only at hSw); go_simp; (try with_reducible rfl)
    try simp only [Act.put, List.getElem_toArray, List.getElem_cons_zero, List.getElem_cons_succ, List.setIfInBounds_toArray, List.set_cons_zero, List.set_cons_succ]
    refine wpAnyH_take (i := 1) (v := ?v400) rfl (by kernel_rfl) (by kernel_rfl) (by kernel_rfl) (fun _ _ _ h => h) (Or.inl ⟨by rfl, ?hy400⟩) (by assumption) ?rest400
    case hy400 => intro w hSw; (try dsimp only at hSw); go_simp; (try with_reducible rfl)
    try simp only [Act.put, List.getElem_toArray, List.getElem_cons_zero, List.getElem_cons_succ, List.setIfInBounds_toArray, List.set_cons_zero, List.set_cons_succ]
    refine wpAnyH_take (i := 2) (v := ?v401) rfl (by kernel_rfl) (by kernel_rfl) (by kernel_rfl) (fun _ _ _ h => h) (Or.inl ⟨by rfl, ?hy401⟩) (by assumption) ?rest401
    case hy401 => intro w hSw; (try dsimp only at hSw); go_simp; (try with_reducible rfl)
    try simp only [Act.put, List.getElem_toArray, List.getElem_cons_zero, List.getElem_cons_succ, List.setIfInBounds_toArray, List.set_cons_zero, List.set_cons_succ]
    refine wpAnyH_take (i := 3) (v := ?v402) rfl (by kernel_rfl) (by kernel_rfl) (by kernel_rfl) (fun _ _ _ h => h) (Or.inl ⟨by rfl, ?hy402⟩) (by assumption) ?rest402
    case hy402 => intro w hSw; (try dsimp only at hSw); go_simp; (try with_reducible rfl)
    try simp only [Act.put, List.getElem_toArray, List.getElem_cons_zero, List.getElem_cons_succ, List.setIfInBounds_toArray, List.set_cons_zero, List.set_cons_succ]
    refine wpAnyH_take (i := 4) (v := ?v403) rfl (by kernel_rfl) (by kernel_rfl) (by kernel_rfl) (fun _ _ _ h => h) (Or.inl ⟨by rfl, ?hy403⟩) (by assumption) ?rest403
    case hy403 => intro w hSw; (try dsimp only at hSw); go_simp; (try with_reducible rfl)
    try simp only [Act.put, List.getElem_toArray, List.getElem_cons_zero, List.getElem_cons_succ, List.setIfInBounds_toArray, List.set_cons_zero, List.set_cons_succ]
    refine wpAnyH_ready (rs := [5]) (by kernel_rfl) (by simp) ?_
    refine AllReadyH.cons rfl (fun K hK => ?_) AllReadyH.nil
    rw [if_pos (by rfl)]
    refine wp_store_mid 40 _ _ rfl w.heap.size 0 (icells zeroI) rfl rfl (there_row HA8h.out _ (Nat.le_refl _)) (by kernel_rfl) (icells_one _) ?_
    obtain ⟨hst, hfr⟩ := store_over (V := (icells zeroI)) HA8h.out (by rfl)
    have HA10 := hideIt hst
    have HFr10 := hideIt (hfr.mono (S' := fun k => k = w.heap.size ∨ k = w.heap.size + 1) (fun _ e => Or.inl e))
    have HG10 := hideIt ((hfr.block (w.heap.size + 1) HFL.out (by omega)).trans HF8h.out)
    clear hst hfr
    generalize hW10 : World.setCells _ w.heap.size 0 _ = W10 at *
    clear hW10
    refine hK.out _ _ ?_ (fun hHeld => ?_)
    · exact HS.out _ ((Fr.refl _ _).drew.trans HFr10.out (fun _ _ e => e))
    clear hK K
    try simp only [Act.put, List.getElem_toArray, List.getElem_cons_zero, List.getElem_cons_succ, List.setIfInBounds_toArray, List.set_cons_zero, List.set_cons_succ]
    refine wpAnyH_take (i := 6) (v := ?v404) rfl (by kernel_rfl) (by kernel_rfl) (by kernel_rfl) (fun _ _ _ h => h) (Or.inl ⟨by rfl, ?hy404⟩) (by assumption) ?rest404
    case hy404 => intro w hSw; (try dsimp only at hSw); go_simp; (try with_reducible rfl)
    try simp only [Act.put, List.getElem_toArray, List.getElem_cons_zero, List.getElem_cons_succ, List.setIfInBounds_toArray, List.set_cons_zero, List.set_cons_succ]
    refine wpAnyH_ready (rs := [7]) (by kernel_rfl) (by simp) ?_
    refine AllReadyH.cons rfl (fun K hK => ?_) AllReadyH.nil
    rw [if_pos (by rfl)]
    refine wp_store_mid 28 _ _ rfl (w.heap.size + 1) 0 #[.int .i64 er, .int .i64 ea] rfl rfl (there_row HG10.out _ (Nat.le_refl _)) (by kernel_rfl) (fault_one _ _) ?_
    obtain ⟨hst, hfr⟩ := store_over (V := #[.int .i64 er, .int .i64 ea]) HG10.out (by rfl)
    have HG11 := hideIt hst
    have HFr11 := hideIt (HFr10.out.trans hfr (fun _ _ e => Or.inr e))
    have HA11 := hideIt ((hfr.block w.heap.size (Array.getElem?_eq_some_iff.1 HA10.out).1 (by omega)).trans HA10.out)
    clear hst hfr
    generalize hW11 : World.setCells _ (w.heap.size + 1) 0 _ = W11 at *
    clear hW11
    refine hK.out _ _ ?_ (fun hHeld => ?_)
    · exact HS.out _ ((Fr.refl _ _).drew.trans HFr11.out (fun _ _ e => e))
    clear hK K
    try simp only [Act.put, List.getElem_toArray, List.getElem_cons_zero, List.getElem_cons_succ, List.setIfInBounds_toArray, List.set_cons_zero, List.set_cons_succ]
    refine wpAnyH_done (by kernel_rfl) ?_ _
    go_wp2_with fail
    have hA0 := cellOfHeap HA11.out 0 rfl
    have hA1 := cellOfHeap HA11.out 1 rfl
    have hA2 := cellOfHeap HA11.out 2 rfl
    have hA3 := cellOfHeap HA11.out 3 rfl
    have hA4 := cellOfHeap HA11.out 4 rfl
    have hA5 := cellOfHeap HA11.out 5 rfl
    have hF0 := cellOfHeap HG11.out 0 rfl
    have hF1 := cellOfHeap HG11.out 1 rfl
    refine bodyPost_ret (v := readV (zeroI, 0, er, ea)) (by simp [results, Try.results32, go_sem, readV, icells, zeroI, hA0, hA1, hA2, hA3, hA4, hA5, hF0, hF1]) rfl ⟨by rw [HE.out], ?_⟩
    exact HFRw.out.trans HFr11.out (fun k hk e => by omega)

end Go.Proofs.Ytojgikaoiegmpaa

/- Code: Pick; a copy of bytes. -/
namespace Go.Proofs.Ytojgikaoiegmpaa
open Go.RowKit Go.IntWalk Go.Lib
set_option linter.unusedSimpArgs false
set_option linter.unusedVariables false
set_option maxRecDepth 100000

theorem pick_any (x : Int) (n : Nat) (hn : 1 ≤ n) (hb : n ≤ 1000000) (w : World) : Calls Try.prog 21 #[.int .i64 x, .int .i64 n] w fun e w' => (∃ r : Nat, e = .returned (.int .i64 r) ∧ r < n) ∧ w' = w := by
  have hn0 : ((n : Int) == 0) = false := by simp; omega
  have hn1 : ¬ (n : Int) < 1 := by omega
  have h1 := Int.tmod_lt_of_pos x (show (0 : Int) < n by omega)
  have h2 := Int.lt_tmod_of_pos x (show (0 : Int) < n by omega)
  go_enter Try.func21, Try.ntmps21
  go_wp2
  all_goals
    go_ret
    first | exact ⟨⟨(x.tmod n + n).toNat, by rw [Int.toNat_of_nonneg (by omega)]; rfl, by omega⟩, rfl⟩ | exact ⟨⟨(x.tmod n).toNat, by rw [Int.toNat_of_nonneg (by omega)]; rfl, by omega⟩, rfl⟩

end Go.Proofs.Ytojgikaoiegmpaa
