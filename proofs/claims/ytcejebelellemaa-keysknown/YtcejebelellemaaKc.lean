/- Keys: sets gathered and told in order: rising, gather, Sort, Union. -/
import Derived.Test.YtcejebelellemaaKb
namespace Go.Proofs.Ytcejebelellemaa
open Go.RowKit Go.IntWalk Go.Sort Go.Maps Go.Shelf
set_option linter.unusedSimpArgs false
set_option linter.unusedVariables false

theorem Try.sortsK (m : Nat) : AnyZ.SortsIn Try.prog Try.msorted_ren Fence.wide m :=
  ⟨fun blk off cap ss W hH hblk hsz => callsIn_wide.2 (AnyM.slices_Sort_string Try.msort blk off cap ss W hH hblk hsz),
   fun p cap W => callsIn_wide.2 (AnyM.slices_Sort_string_none Try.msort p cap W)⟩

theorem mkeys_in (mb : Option Nat) (W : World) : CallsIn Fence.wide 5 Try.prog 47 #[.map mb] W fun e w' => e = .returned (.func (.func 63) #[] #[.pointer (some ⟨W.heap.size, 0, none⟩)]) ∧ w' = W.alloc (.cells #[.map mb] 43) :=
  AnyZ.keys_in Try.mkeys Fence.wide 5 trivial rfl mb W

set_option maxHeartbeats 1000000 in
theorem msorted_in (b n : Nat) (D : DataW Unit) (w : World) (hown : w.ownsMap Try.prog 9 unitR b n D) (hmax : Maps.size D ≤ maxLen) (hbytes : Maps.size D * 16 ≤ 140737488355328) :
    CallsIn Fence.wide 5 Try.prog 46 #[.func (.func 63) #[] #[.pointer (some ⟨w.heap.size, 0, none⟩)]] (w.alloc (.cells #[.map (some b)] 43)) fun e w' => ∃ (v : Value) (ss : List By), e = .returned v ∧ ss.Perm (strKeys D) ∧
      w'.ownsRow (w.alloc (.cells #[.map (some b)] 43)).heap.size 9 1 v ss.length ((ss.mergeSort (fun x y => decide (x ≤ y))).map encStr) ∧ (v = .slice none 0 0 ↔ ss = []) ∧ Below (w.alloc (.cells #[.map (some b)] 43)).heap.size (w.alloc (.cells #[.map (some b)] 43)) w' := by
  have hbl := hown.lt
  have hseq : SeqGives Fence.wide 2 Try.prog 63 #[.pointer (some ⟨w.heap.size, 0, none⟩)] encStr (fun ss => ss.Perm (strKeys D)) (Maps.size D) (w.alloc (.cells #[.map (some b)] 43)) :=
    AnyZ.keys_gives (ρ := Try.mkeys_ren) { Try.mkeys with } Fence.wide _ trivial rfl (by omega) w.heap.size b n D _ (by simp) (by simp) (by
      obtain ⟨es, clock, hb, Ft, hs, hD⟩ := hown
      exact ⟨es, clock, (Below.heap_alloc _ _ b hbl).trans hb, Ft, hs, hD⟩)
  exact AnyZ.sorted_in Try.msorted Fence.wide 5 trivial trivial trivial trivial rfl (by omega) (Try.sortsK _) (enters_of Try.func62 (by kernel_rfl) rfl) 63 #[.pointer (some ⟨w.heap.size, 0, none⟩)] trivial (enters_of Try.func63 (by kernel_rfl) rfl) _ _ hmax hbytes _ hseq

/-- What a set's keys in order leave. -/
def RisePost (l : List ByteArray) (w : World) (e : Ending) (w' : World) : Prop :=
  ∃ ao cap, e = .returned (.slice ao l.length cap) ∧ KsRow w' ao cap l ∧ Fr (fun _ => False) w w' ∧ ∀ k, blk ao k → w.heap.size ≤ k

theorem rise_fin {o : Obj} {w w1 w' : World} {l : List ByteArray} {v : Value} {n : Nat} (hrow : w'.ownsRow w1.heap.size 9 1 v n (l.map Value.string)) (hn : n = l.length) (h1 : w1 = w.alloc o) (hb : Below w1.heap.size w1 w') : RisePost l w (.returned v) w' := by
  subst hn h1
  have hF : Fr (fun _ => False) w w' := ((Fr.refl _ w).alloc o).trans (Fr.of_new hb) (fun _ _ e => e)
  rcases hrow.2 with ⟨hv, hn⟩ | ⟨g, c, cur, hv, hg, r⟩
  · subst hv
    obtain rfl : l = [] := List.eq_nil_of_length_eq_zero hn
    exact ⟨none, 0, rfl, KsRow.nil _, hF, fun k ⟨a, e, _⟩ => by cases e⟩
  · subst hv
    refine ⟨some ⟨g, 0, none⟩, c, rfl, ownsRow_base_a hrow (Nat.zero_le _), hF, fun k ⟨a, e1, e2⟩ => ?_⟩
    obtain rfl := Option.some.inj e1
    simp at hg e2
    omega

set_option maxHeartbeats 1000000 in
theorem krising_any (b : Nat) (l : List ByteArray) (w : World) (h : SetAt w b l) (hl : l.length ≤ 1099511627776) : Calls Try.prog 34 #[.map (some b)] w (RisePost (setL l) w) := by
  obtain ⟨n, D, hown, hn, h3⟩ := h
  have hsz := hown.size_le
  have hmax : Maps.size D ≤ maxLen := by unfold maxLen; omega
  have hbytes : Maps.size D * 16 ≤ 140737488355328 := by omega
  have HF := hideIt (fun (ss : List By) (hp : ss.Perm (strKeys D)) => set_sorted hown h3 hp)
  clear h3
  refine (callsIn_wide (n := 6)).1 ?_
  have hfK : Fence.wide.fn 47 := trivial
  have hfS : Fence.wide.fn 46 := trivial
  refine callsIn_of_wp Try.func34 rfl trivial ?_ rfl
  simp only [Try.ntmps34, List.size_toArray, List.length_cons, List.length_nil, Nat.reduceAdd, Nat.reduceSub, Array.replicate_succ, Array.replicate_zero, List.push_toArray, List.append_toArray, List.nil_append, List.cons_append]
  gi_wp2_with (first
    | (gi_at_call 47; refine (mkeys_in _ _).mono ?_; rintro e w' ⟨rfl, rfl⟩)
    | (gi_at_call 46; refine (msorted_in b n D w hown hmax hbytes).mono ?_; rintro e w' ⟨v, ss, rfl, hS, hrow, hnil, hb⟩))
  go_ret
  obtain ⟨e1, e2⟩ := HF.out _ hS
  rw [e1] at hrow
  exact rise_fin hrow e2 rfl hb

/-- A list among others: where it lies, its room, its keys. -/
abbrev KL := Option Addr × Nat × List ByteArray

def LsAt (w : World) (b off : Nat) (ls : List KL) : Prop :=
  ∀ i (h : i < ls.length), w.cell? ⟨b, off + i, none⟩ = some (.slice ls[i].1 ls[i].2.2.length ls[i].2.1) ∧ (ls[i].2.2 = [] ∨ KsAt w ls[i].1 ls[i].2.2)

theorem LsAt.fr0 {w w' : World} {b off : Nat} {ls : List KL} (h : LsAt w b off ls) (hF : Fr (fun _ => False) w w') : LsAt w' b off ls :=
  fun i hi => ⟨hF.cell0 (h i hi).1, kats_fr0 (h i hi).2 hF⟩

/-- Their keys. -/
def allK (ls : List KL) : List ByteArray := ls.flatMap fun x => x.2.2

theorem allK_snoc (ls : List KL) (j : Nat) (h : j < ls.length) : allK (ls.take (j + 1)) = allK (ls.take j) ++ ls[j].2.2 := by
  rw [List.take_succ_eq_append_getElem h]
  unfold allK
  rw [List.flatMap_append, List.flatMap_cons, List.flatMap_nil, List.append_nil]

theorem allK_len (ls : List KL) (j : Nat) : (allK (ls.take j)).length ≤ (allK ls).length := by
  have : allK ls = allK (ls.take j) ++ allK (ls.drop j) := by unfold allK; rw [← List.flatMap_append, List.take_append_drop]
  rw [this]
  simp

theorem wpList_mapUpdate_run {P : Program} (w : World) {ops : Array Oper} {rest : List Oper} {o : Oper} {a : Act} {Q : Exit → Act → World → Prop} (hg : o.guard = none) (m x v : Operand) (t : TypeId) (hop : o.op = Op.mapUpdate t m x v)
    (mv xv vv : Value) (w' : World) (hm : a.eval m = mv) (hx : a.eval x = xv) (hv : a.eval v = vv) (hrun : (Instr.mapUpdate t mv xv vv).run P w = .ok () w') (hK : wpList P ops Q rest (a.put o.dst undef) w') : wpList P ops Q (o :: rest) a w := by
  refine wpList_plain hg fun K' hK' => ?_
  unfold Oper.wp
  simp [execOp, hop, hm, hx, hv, hrun, Result.andThen]
  exact hK' _ _ hK

def GathPost (l : List ByteArray) (w : World) (e : Ending) (w' : World) : Prop :=
  ∃ g, e = .returned (.map (some g)) ∧ w.heap.size ≤ g ∧ SetAt w' g l ∧ Fr (fun _ => False) w w'

set_option maxRecDepth 100000 in
set_option maxHeartbeats 1000000 in
theorem kgather_any (b off cap : Nat) (ls : List KL) (w : World) (h : LsAt w b off ls) (hn : ls.length ≤ 1000) (hl : (allK ls).length ≤ 1099511627776) (hk : ∀ x ∈ allK ls, x.size ≤ maxLen) :
    Calls Try.prog 33 #[.slice (some ⟨b, off, none⟩) ls.length cap] w (GathPost (allK ls) w) := by
  have HH := hideIt h
  have HK := hideIt hk
  have HL := hideIt hl
  clear h hk hl
  go_enter Try.func33, Try.ntmps33
  have hmm := @run_makeMap Try.prog
  go_wp2_with fail
  clear hmm
  go_loopw [11] (fun i wr => ∃ j : Nat, i = .int .i64 j ∧ j ≤ ls.length ∧ Hid (SetAt wr w.heap.size (allK (ls.take j))) ∧ Fr (fun _ => False) w wr) (fun i _ => ls.length - (intOf i).toNat)
  case atStart => exact ⟨0, rfl, Nat.zero_le _, hideIt (SetAt.made w), (Fr.refl _ w).alloc _⟩
  case round =>
    obtain ⟨j, rfl, hj, HS, hF⟩ := hrel
    have HF := hideIt hF
    clear hF
    by_cases hlt : j < ls.length
    · obtain ⟨c0, hks⟩ := HH.out.fr0 HF.out j hlt
      have HKF := hideIt (fun w' (hF : Fr (fun _ => False) w w') => (HH.out.fr0 hF j hlt).2)
      have HA := hideIt (allK_snoc ls j hlt)
      have HN := hideIt (allK_len ls (j + 1))
      have HM := hideIt (fun x (hx : x ∈ ls[j].2.2) => HK.out x (List.mem_flatMap.2 ⟨ls[j], List.getElem_mem hlt, hx⟩))
      clear hks
      generalize ls[j] = y at *
      obtain ⟨aj, cj, lj⟩ := y
      dsimp only at *
      go_wp2_with fail
      go_loopw [17] (fun i wr' => ∃ q : Nat, i = .int .i64 q ∧ q ≤ lj.length ∧ Hid (SetAt wr' w.heap.size (allK (ls.take j) ++ lj.take q)) ∧ Fr (fun _ => False) w wr') (fun i _ => lj.length - (intOf i).toNat)
      case atStart => exact ⟨0, rfl, Nat.zero_le _, hideIt (by simpa using HS.out), HF.out⟩
      case round =>
        obtain ⟨q, rfl, hq, HS2, hF2⟩ := hrel
        have HF2 := hideIt hF2
        clear hF2
        have hlj : lj.length ≤ 1099511627776 := by have := HN.out; have h2 := HL.out; rw [HA.out, List.length_append] at this; omega
        by_cases hlt2 : q < lj.length
        · obtain ⟨b2, off2, rfl, hb2, c2⟩ := KsAt.get (HKF.out _ HF2.out) q hlt2
          have HT := hideIt (List.take_succ_eq_append_getElem hlt2)
          obtain ⟨w3, hrun, hs3, hf3⟩ := HS2.out.put lj[q] (by have := HN.out; have h2 := HL.out; rw [HA.out, List.length_append] at this; rw [List.length_append, List.length_take]; unfold maxLen; omega) (HM.out _ (List.getElem_mem hlt2))
          have HR := hideIt hrun
          have HS3 := hideIt hs3
          have HF3 := hideIt (HF2.out.trans hf3 (fun i hi e => by omega))
          clear hrun hs3 hf3
          generalize lj[q] = x at *
          go_wp2_with (first | (at_mapUpdate; refine wpList_mapUpdate_run _ rfl _ _ _ _ rfl _ _ _ _ rfl rfl rfl HR.out ?_))
          go_roundw
          case measure => simp [intOf]; omega
          case rel => exact ⟨q + 1, by go_num, by omega, hideIt (by rw [HT.out, ← List.append_assoc]; exact HS3.out), HF3.out⟩
        · obtain rfl : q = lj.length := by omega
          go_wp2_with fail
          go_roundw
          case measure => simp [intOf]; omega
          case rel => exact ⟨j + 1, by go_num, by omega, hideIt (by have := HS2.out; rw [List.take_length] at this; rw [HA.out]; exact this), HF2.out⟩
    · obtain rfl : j = ls.length := by omega
      go_wp2_with fail
      go_ret
      refine ⟨w.heap.size, rfl, Nat.le_refl _, ?_, HF.out⟩
      have := HS.out
      rwa [List.take_length] at this

theorem LsAt.one {w : World} {a : Option Addr} {c : Nat} {l : List ByteArray} (h : l = [] ∨ KsAt w a l) (t : TypeId) : LsAt (w.alloc (.cells #[.slice a l.length c] t)) w.heap.size 0 [(a, c, l)] := by
  intro i hi
  obtain rfl : i = 0 := by simpa using hi
  exact ⟨cellNew _ _ _ _ _ rfl, kats_fr0 h ((Fr.refl _ _).alloc _)⟩

theorem LsAt.two {w : World} {a a' : Option Addr} {c c' : Nat} {l l' : List ByteArray} (h : l = [] ∨ KsAt w a l) (h' : l' = [] ∨ KsAt w a' l') (t : TypeId) : LsAt (w.alloc (.cells #[.slice a l.length c, .slice a' l'.length c'] t)) w.heap.size 0 [(a, c, l), (a', c', l')] := by
  intro i hi
  have h2 : i < 2 := hi
  rcases (show i = 0 ∨ i = 1 by omega) with rfl | rfl
  · exact ⟨cellNew _ _ _ _ _ rfl, kats_fr0 h ((Fr.refl _ _).alloc _)⟩
  · exact ⟨cellNew _ _ _ _ _ rfl, kats_fr0 h' ((Fr.refl _ _).alloc _)⟩

set_option maxRecDepth 100000 in
set_option maxHeartbeats 1000000 in
theorem ksort_any (ao : Option Addr) (cap : Nat) (l : List ByteArray) (w : World) (h : l = [] ∨ KsAt w ao l) (hl : l.length ≤ 1099511627776) (hk : ∀ x ∈ l, x.size ≤ maxLen) :
    Calls Try.prog 11 #[.slice ao l.length cap] w (RisePost (setL l) w) := by
  have e : allK [(ao, cap, l)] = l := by simp [allK]
  have hG := hideIt (show Calls Try.prog 33 #[.slice (some ⟨w.heap.size, 0, none⟩) 1 1] (w.alloc (.cells #[.slice ao l.length cap] 22)) (GathPost l (w.alloc (.cells #[.slice ao l.length cap] 22))) from by
    have := kgather_any w.heap.size 0 1 [(ao, cap, l)] _ (LsAt.one h 22) (by simp) (by rw [e]; exact hl) (by rw [e]; exact hk)
    rw [e] at this
    exact this)
  have HF0 := hideIt ((Fr.refl (fun _ => False) w).alloc (.cells #[.slice ao l.length cap] 22))
  clear h hk e
  go_enter Try.func11, Try.ntmps11
  go_wp2_with fail
  refine Calls.mono hG.out ?_
  rintro e w1 ⟨g, rfl, _, hs, hF1⟩
  have hR := hideIt (krising_any _ l w1 hs hl)
  have HF1 := hideIt (HF0.out.trans hF1 (fun _ _ e => e))
  clear hs hF1
  go_wp2_with fail
  refine Calls.mono hR.out ?_
  rintro e w2 ⟨ao', cap', rfl, hrow, hF2, hnew⟩
  have HFIN := hideIt (show RisePost (setL l) w (.returned (.slice ao' (setL l).length cap')) w2 from ⟨ao', cap', rfl, hrow, HF1.out.trans hF2 (fun _ _ e => e), fun k hk => Nat.le_trans HF1.out.size (hnew k hk)⟩)
  clear hrow hF2 hnew
  generalize setL l = sl at *
  go_wp2_with fail
  go_ret
  exact HFIN.out

set_option maxRecDepth 100000 in
set_option maxHeartbeats 1000000 in
theorem kunion_any (ao bo : Option Addr) (ca cb : Nat) (l m : List ByteArray) (w : World) (h : l = [] ∨ KsAt w ao l) (h' : m = [] ∨ KsAt w bo m) (hl : l.length + m.length ≤ 1099511627776) (hk : ∀ x ∈ l ++ m, x.size ≤ maxLen) :
    Calls Try.prog 12 #[.slice ao l.length ca, .slice bo m.length cb] w (RisePost (setL (l ++ m)) w) := by
  have e : allK [(ao, ca, l), (bo, cb, m)] = l ++ m := by simp [allK]
  have hG := hideIt (show Calls Try.prog 33 #[.slice (some ⟨w.heap.size, 0, none⟩) 2 2] (w.alloc (.cells #[.slice ao l.length ca, .slice bo m.length cb] 22)) (GathPost (l ++ m) (w.alloc (.cells #[.slice ao l.length ca, .slice bo m.length cb] 22))) from by
    have := kgather_any w.heap.size 0 2 [(ao, ca, l), (bo, cb, m)] _ (LsAt.two h h' 22) (by simp) (by rw [e, List.length_append]; exact hl) (by rw [e]; exact hk)
    rw [e] at this
    exact this)
  have HF0 := hideIt ((Fr.refl (fun _ => False) w).alloc (.cells #[.slice ao l.length ca, .slice bo m.length cb] 22))
  have HL := hideIt (show (l ++ m).length ≤ 1099511627776 by rw [List.length_append]; exact hl)
  clear h h' hk e hl
  generalize l ++ m = lm at *
  go_enter Try.func12, Try.ntmps12
  go_wp2_with fail
  refine Calls.mono hG.out ?_
  rintro e w1 ⟨g, rfl, _, hs, hF1⟩
  have hR := hideIt (krising_any _ lm w1 hs HL.out)
  have HF1 := hideIt (HF0.out.trans hF1 (fun _ _ e => e))
  clear hs hF1
  go_wp2_with fail
  refine Calls.mono hR.out ?_
  rintro e w2 ⟨ao', cap', rfl, hrow, hF2, hnew⟩
  have HFIN := hideIt (show RisePost (setL lm) w (.returned (.slice ao' (setL lm).length cap')) w2 from ⟨ao', cap', rfl, hrow, HF1.out.trans hF2 (fun _ _ e => e), fun k hk => Nat.le_trans HF1.out.size (hnew k hk)⟩)
  clear hrow hF2 hnew
  generalize setL lm = sl at *
  go_wp2_with fail
  go_ret
  exact HFIN.out

end Go.Proofs.Ytcejebelellemaa
