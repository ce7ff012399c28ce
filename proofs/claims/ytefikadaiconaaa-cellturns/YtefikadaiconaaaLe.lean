/- Cell: writes in memory, the map of the latest ones. -/
import Derived.Test.YtefikadaiconaaaLd
namespace Go.Proofs.Ytefikadaiconaaa
open Go.RowKit Go.IntWalk Go.Sort Go.Maps Go.Shelf
set_option linter.unusedSimpArgs false
set_option linter.unusedVariables false

/-- A write: its key, its value, whether it deletes. -/
abbrev Wr := ByteArray × ByteArray × Bool
def wrV (x : Wr) : Value := .agg #[.string x.1, .string x.2.1, .bool x.2.2]
def wrD (x : Wr) : DataW Unit := .agg [.lit (.string x.1.data.toList), .lit (.string x.2.1.data.toList), .lit (.bool x.2.2)]
def wr0 : Wr := (⟨#[]⟩, ⟨#[]⟩, false)
def wrR : Value → Option (DataW Unit × List MemPlace)
  | .agg ⟨[.string a, .string b, .bool c]⟩ => some (wrD (a, b, c), [])
  | _ => none
theorem wrR_of (x : Wr) : wrR (wrV x) = some (wrD x, []) := rfl
theorem wrD_inj {x y : Wr} (h : wrD x = wrD y) : x = y := by
  obtain ⟨a, b, c⟩ := x
  obtain ⟨a', b', c'⟩ := y
  simp only [wrD, DataW.agg.injEq, List.cons.injEq, DataW.lit.injEq, Lit.string.injEq, Lit.bool.injEq, and_true] at h
  obtain ⟨h1, h2, h3⟩ := h
  have e1 : a = a' := by cases a; cases a'; simp only [ByteArray.mk.injEq]; exact Array.ext' h1
  have e2 : b = b' := by cases b; cases b'; simp only [ByteArray.mk.injEq]; exact Array.ext' h2
  rw [e1, e2, h3]
theorem wrR_inv {v : Value} {x : Wr} {ps : List MemPlace} (h : wrR v = some (wrD x, ps)) : v = wrV x := by
  unfold wrR at h
  split at h
  · simp only [Option.some.injEq, Prod.mk.injEq] at h
    rw [← wrD_inj h.1]
    rfl
  · cases h

/-- Writes, wherever they lie. -/
def WsAt (w : World) (ao : Option Addr) (l : List Wr) : Prop :=
  (ao = none ∧ l = []) ∨ ∃ b off, ao = some ⟨b, off, none⟩ ∧ b < w.heap.size ∧ ∀ i (h : i < l.length), w.cell? ⟨b, off + i * 3, none⟩ = some (.string l[i].1) ∧ w.cell? ⟨b, off + i * 3 + 1, none⟩ = some (.string l[i].2.1) ∧ w.cell? ⟨b, off + i * 3 + 2, none⟩ = some (.bool l[i].2.2)
theorem WsAt.fr0 {w w' : World} {ao : Option Addr} {l : List Wr} (h : WsAt w ao l) (hF : Fr (fun _ => False) w w') : WsAt w' ao l := by
  rcases h with h | ⟨b, off, rfl, hlt, hc⟩
  · exact Or.inl h
  · have := hF.size
    exact Or.inr ⟨b, off, rfl, by omega, fun i hi => ⟨hF.cell0 (hc i hi).1, hF.cell0 (hc i hi).2.1, hF.cell0 (hc i hi).2.2⟩⟩
theorem wats_fr0 {w w' : World} {ao : Option Addr} {l : List Wr} (h : l = [] ∨ WsAt w ao l) (hF : Fr (fun _ => False) w w') : l = [] ∨ WsAt w' ao l := h.imp_right fun h => h.fr0 hF
theorem ws_get {w : World} {ao : Option Addr} {l : List Wr} (h : l = [] ∨ WsAt w ao l) (k : Nat) (hk : k < l.length) : ∃ b off, ao = some ⟨b, off, none⟩ ∧ b < w.heap.size ∧ w.cell? ⟨b, off + k * 3, none⟩ = some (.string l[k].1) ∧ w.cell? ⟨b, off + k * 3 + 1, none⟩ = some (.string l[k].2.1) ∧ w.cell? ⟨b, off + k * 3 + 2, none⟩ = some (.bool l[k].2.2) := by
  rcases h with h | ⟨_, h⟩ | ⟨b, off, h1, h2, h3⟩
  · subst h; simp at hk
  · subst h; simp at hk
  · exact ⟨b, off, h1, h2, h3 k hk⟩

/-- The last write of a key. -/
def lastW (ws : List Wr) (k : ByteArray) : Wr := (ws.reverse.find? fun x => decide (x.1 = k)).getD wr0
theorem lastW_snoc (ws : List Wr) (x : Wr) (k : ByteArray) : lastW (ws ++ [x]) k = if x.1 = k then x else lastW ws k := by
  unfold lastW
  rw [List.reverse_append, List.reverse_singleton, List.singleton_append, List.find?_cons]
  by_cases h : x.1 = k
  · rw [if_pos h, decide_eq_true h]
    rfl
  · rw [if_neg h, decide_eq_false h]

/-- Block b is the map of the latest ones of some writes. -/
def LatAt (w : World) (b : Nat) (ws : List Wr) : Prop :=
  ∃ n D, w.ownsMap Try.prog 9 wrR b n D ∧ n ≤ ws.length ∧ (∀ x : By, has D (.string x) = true ↔ ∃ k ∈ ws.map Prod.fst, k.toList = x) ∧ ∀ k : ByteArray, D.atKey (.string k.toList) (wrD wr0) = wrD (lastW ws k)
theorem LatAt.made (w : World) : LatAt (w.alloc (.map #[] 0)) w.heap.size [] :=
  ⟨0, .map [], World.ownsMap_made _ _ _ _, Nat.le_refl _, fun x => by simp [has_eq], fun k => rfl⟩
theorem LatAt.lt {w : World} {b : Nat} {l : List Wr} (h : LatAt w b l) : b < w.heap.size := by
  obtain ⟨n, D, h1, _⟩ := h
  exact h1.lt
theorem LatAt.keep {w w' : World} {b : Nat} {l : List Wr} (h : LatAt w b l) (hb : w'.heap[b]? = w.heap[b]?) : LatAt w' b l := by
  obtain ⟨n, D, ⟨es, clock, h1, h2⟩, h3⟩ := h
  exact ⟨n, D, ⟨es, clock, hb.trans h1, h2⟩, h3⟩
theorem LatAt.fr {S : Nat → Prop} {w w' : World} {b : Nat} {l : List Wr} (h : LatAt w b l) (hF : Fr S w w') (hS : ¬ S b) : LatAt w' b l := h.keep (hF.block b h.lt hS)

theorem keyOf_text (k : ByteArray) (h : k.size ≤ maxLen) : keyOf Try.prog 9 (.string k) = some (.string k.toList) := by
  have hu := Try.underlying9
  rw [Lib.toList_data]
  simp [keyOf, hu, mapKey, h]

theorem LatAt.put {w : World} {b : Nat} {l : List Wr} (h : LatAt w b l) (x : Wr) (hl : l.length < maxLen) (hk : x.1.size ≤ maxLen) :
    ∃ w', (Instr.mapUpdate 67 (.map (some b)) (.string x.1) (wrV x)).run Try.prog w = .ok () w' ∧ LatAt w' b (l ++ [x]) ∧ Fr (fun i => i = b) w w' := by
  obtain ⟨n, D, h1, h2, h3, h4⟩ := h
  have K := string_keyed Try.underlying9
  have hkey := keyOf_text x.1 hk
  obtain ⟨w', hrun, hown, hg⟩ := h1.update K Try.underlying67 (by omega) hkey (val := wrV x) (d := wrD x) (ps := []) rfl
  refine ⟨w', hrun, ⟨n + 1, _, hown, by simp; omega, fun y => ?_, fun k => ?_⟩, ⟨hg.os, hg.tape, hg.output, hg.size, fun i hi hne => hg.block i hi (fun e => hne (Option.some.inj e))⟩⟩
  · rw [List.map_append]
    by_cases hx : y = x.1.toList
    · subst hx
      exact ⟨fun _ => ⟨x.1, by simp, rfl⟩, fun _ => has_put_same h1.isMap (K.key hkey) _⟩
    · rw [has_put_other (by simpa using hx), h3 y]
      constructor
      · rintro ⟨z, hz, e⟩
        exact ⟨z, List.mem_append_left _ hz, e⟩
      · rintro ⟨z, hz, e⟩
        rcases List.mem_append.1 hz with h | h
        · exact ⟨z, h, e⟩
        · rw [List.map_cons, List.map_nil] at h
          rw [List.mem_singleton.1 h] at e
          exact absurd e.symm hx
  · rw [lastW_snoc]
    by_cases hx : x.1 = k
    · rw [if_pos hx, ← hx]
      exact atKey_put_same h1.isMap (K.key hkey) _ _
    · rw [if_neg hx, ← h4 k]
      exact atKey_put_other (by simpa using fun e => hx (toList_inj e).symm) _ _

theorem LatAt.look {w : World} {b : Nat} {l : List Wr} (h : LatAt w b l) (k : ByteArray) (hk : k.size ≤ maxLen) :
    (Instr.lookup 67 (.map (some b)) (.string k) false).run Try.prog w = .ok (wrV (lastW l k)) w := by
  obtain ⟨n, D, h1, h2, h3, h4⟩ := h
  have K := string_keyed Try.underlying9
  obtain ⟨v, ps, hrun, hv⟩ := h1.lookup K Try.underlying67 (Try.zeroValue52 w) (zd := wrD wr0) (zp := []) rfl (keyOf_text k hk)
  rw [h4 k] at hv
  rw [hrun, wrR_inv hv]

/-- The keys of such a map, whatever order they came in, sorted. -/
theorem lat_sorted {w : World} {b n : Nat} {D : DataW Unit} {l : List ByteArray} (h1 : w.ownsMap Try.prog 9 wrR b n D) (h3 : ∀ x : By, has D (.string x) = true ↔ ∃ k ∈ l, k.toList = x) {ss : List By} (hp : ss.Perm (strKeys D)) :
    (ss.mergeSort (fun x y => decide (x ≤ y))).map encStr = (setL l).map Value.string ∧ ss.length = (setL l).length := by
  have K := string_keyed Try.underlying9
  have hnd : ((setL l).map ByteArray.toList).Nodup := List.pairwise_map.2 ((setL_rises l).nodup.imp (fun h e => h (toList_inj e)))
  have hc : Collected D (fun _ => false) ((setL l).map ByteArray.toList) := ⟨hnd, fun x => by
    rw [h3 x, List.mem_map]
    constructor
    · rintro ⟨k, hk, e⟩
      exact ⟨⟨k, (mem_setL l k).1 hk, e⟩, rfl⟩
    · rintro ⟨⟨k, hk, e⟩, _⟩
      exact ⟨k, (mem_setL l k).2 hk, e⟩⟩
  have hp2 := hp.trans (hc.perm h1 K Try.underlying9 (fun _ => rfl)).symm
  have hs : ss.mergeSort (fun x y => decide (x ≤ y)) = (setL l).map ByteArray.toList := by
    refine (mergeSort_of_perm hp2).trans (List.mergeSort_of_pairwise (List.pairwise_map.2 ((setL_rises l).imp (fun h => ?_))))
    exact decide_eq_true (List.le_of_lt h)
  constructor
  · rw [hs, List.map_map]
    exact List.map_congr_left (fun k _ => encStr_toList k)
  · rw [hp2.length_eq, List.length_map]

theorem Try.sortsK (m : Nat) : AnyZ.SortsIn Try.prog Try.msorted_ren Fence.wide m :=
  ⟨fun blk off cap ss W hH hblk hsz => callsIn_wide.2 (AnyM.slices_Sort_string Try.msort blk off cap ss W hH hblk hsz),
   fun p cap W => callsIn_wide.2 (AnyM.slices_Sort_string_none Try.msort p cap W)⟩

theorem mkeys_in (mb : Option Nat) (W : World) : CallsIn Fence.wide 5 Try.prog 59 #[.map mb] W fun e w' => e = .returned (.func (.func 63) #[] #[.pointer (some ⟨W.heap.size, 0, none⟩)]) ∧ w' = W.alloc (.cells #[.map mb] 67) :=
  AnyZ.keys_in Try.mkeys Fence.wide 5 trivial rfl mb W

set_option maxHeartbeats 1000000 in
theorem msorted_in (b n : Nat) (D : DataW Unit) (w : World) (hown : w.ownsMap Try.prog 9 wrR b n D) (hmax : Maps.size D ≤ maxLen) (hbytes : Maps.size D * 16 ≤ 140737488355328) :
    CallsIn Fence.wide 5 Try.prog 58 #[.func (.func 63) #[] #[.pointer (some ⟨w.heap.size, 0, none⟩)]] (w.alloc (.cells #[.map (some b)] 67)) fun e w' => ∃ (v : Value) (ss : List By), e = .returned v ∧ ss.Perm (strKeys D) ∧
      w'.ownsRow (w.alloc (.cells #[.map (some b)] 67)).heap.size 9 1 v ss.length ((ss.mergeSort (fun x y => decide (x ≤ y))).map encStr) ∧ (v = .slice none 0 0 ↔ ss = []) ∧ Below (w.alloc (.cells #[.map (some b)] 67)).heap.size (w.alloc (.cells #[.map (some b)] 67)) w' := by
  have hbl := hown.lt
  have hseq : SeqGives Fence.wide 2 Try.prog 63 #[.pointer (some ⟨w.heap.size, 0, none⟩)] encStr (fun ss => ss.Perm (strKeys D)) (Maps.size D) (w.alloc (.cells #[.map (some b)] 67)) :=
    AnyZ.keys_gives (ρ := Try.mkeys_ren) { Try.mkeys with } Fence.wide _ trivial rfl (by omega) w.heap.size b n D _ (by simp) (by simp) (by
      obtain ⟨es, clock, hb, Ft, hs, hD⟩ := hown
      exact ⟨es, clock, (Below.heap_alloc _ _ b hbl).trans hb, Ft, hs, hD⟩)
  exact AnyZ.sorted_in Try.msorted Fence.wide 5 trivial trivial trivial trivial rfl (by omega) (Try.sortsK _) (enters_of Try.func62 (by kernel_rfl) rfl) 63 #[.pointer (some ⟨w.heap.size, 0, none⟩)] trivial (enters_of Try.func63 (by kernel_rfl) rfl) _ _ hmax hbytes _ hseq

/-- What a map's keys in order leave. -/
def RisePost (l : List ByteArray) (w : World) (e : Ending) (w' : World) : Prop :=
  ∃ ao cap, e = .returned (.slice ao l.length cap) ∧ KsRow w' ao cap l ∧ Fr (fun _ => False) w w' ∧ ∀ k, blk ao k → w.heap.size ≤ k

theorem rise_fin {o : Obj} {w w1 w' : World} {l : List ByteArray} {v : Value} {n : Nat} (hrow : w'.ownsRow w1.heap.size 9 1 v n (l.map Value.string)) (hn : n = l.length) (h1 : w1 = w.alloc o) (hb : Below w1.heap.size w1 w') : RisePost l w (.returned v) w' := by
  subst hn h1
  have hF : Fr (fun _ => False) w w' := ((Fr.refl _ w).alloc o).trans (Fr.of_new hb) (fun _ _ e => e)
  rcases hrow.2 with ⟨hv, hn⟩ | ⟨g, c, cur, hv, hg, r⟩
  · subst hv
    obtain rfl : l = [] := List.eq_nil_of_length_eq_zero hn
    exact ⟨none, 0, rfl, KsRow.nil _, hF, fun k ⟨a, e, _⟩ => by cases e⟩
  · subst hv
    refine ⟨some ⟨g, 0, none⟩, c, rfl, ownsRow_base_a hrow (Nat.zero_le _), hF, fun k ⟨a, e1, e2⟩ => ?_⟩
    obtain rfl := Option.some.inj e1
    simp at hg e2
    omega

set_option maxHeartbeats 1000000 in
theorem erising_any (b : Nat) (l : List Wr) (w : World) (h : LatAt w b l) (hl : l.length ≤ 1099511627776) : Calls Try.prog 54 #[.map (some b)] w (RisePost (setL (l.map Prod.fst)) w) := by
  obtain ⟨n, D, hown, hn, h3, _⟩ := h
  have hsz := hown.size_le
  have hmax : Maps.size D ≤ maxLen := by unfold maxLen; omega
  have hbytes : Maps.size D * 16 ≤ 140737488355328 := by omega
  have HF := hideIt (fun (ss : List By) (hp : ss.Perm (strKeys D)) => lat_sorted hown h3 hp)
  clear h3
  refine (callsIn_wide (n := 6)).1 ?_
  have hfK : Fence.wide.fn 59 := trivial
  have hfS : Fence.wide.fn 58 := trivial
  refine callsIn_of_wp Try.func54 rfl trivial ?_ rfl
  simp only [Try.ntmps54, List.size_toArray, List.length_cons, List.length_nil, Nat.reduceAdd, Nat.reduceSub, Array.replicate_succ, Array.replicate_zero, List.push_toArray, List.append_toArray, List.nil_append, List.cons_append]
  gi_wp2_with (first
    | (gi_at_call 59; refine (mkeys_in _ _).mono ?_; rintro e w' ⟨rfl, rfl⟩)
    | (gi_at_call 58; refine (msorted_in b n D w hown hmax hbytes).mono ?_; rintro e w' ⟨v, ss, rfl, hS, hrow, hnil, hb⟩))
  go_ret
  obtain ⟨e1, e2⟩ := HF.out _ hS
  rw [e1] at hrow
  exact rise_fin hrow e2 rfl hb

/-- Whether a write may be. -/
def mayB (x : Wr) : Bool := keyB x.1 && valB x.2.1 && (!x.2.2 || decide (x.2.1.size = 0))

set_option maxRecDepth 100000 in
set_option maxHeartbeats 1000000 in
theorem emaybe_any (x : Wr) (w : World) : Calls Try.prog 43 #[wrV x] w fun e w' => e = .returned (.bool (mayB x)) ∧ Fr (fun _ => False) w w' := by
  have HK := hideIt (fun u => ekey_any x.1 u)
  have HV := hideIt (fun u => evalue_any x.2.1 u)
  unfold mayB wrV
  obtain ⟨k, v, d⟩ := x
  dsimp only at *
  have hpe := pk_empty v
  generalize keyB k = kb at *
  generalize valB v = vb at *
  by_cases hv0 : v.size = 0
  · have e1 : v.toList.isEmpty = true := by rw [hpe]; exact decide_eq_true hv0
    rw [decide_eq_true hv0]
    clear hpe hv0
    cases kb <;> cases vb <;> cases d
    all_goals
      go_enter Try.func43, Try.ntmps43
      go_wp2_with (first | (go_at_call 20; refine (HK.out _).mono ?_; rintro e w' ⟨rfl, rfl⟩) | (go_at_call 42; refine (HV.out _).mono ?_; rintro e w' ⟨rfl, rfl⟩))
      go_ret
      exact ⟨rfl, (Fr.refl _ _).alloc _⟩
  · have e1 : v.toList.isEmpty = false := by rw [hpe]; exact decide_eq_false hv0
    rw [decide_eq_false hv0]
    clear hpe hv0
    cases kb <;> cases vb <;> cases d
    all_goals
      go_enter Try.func43, Try.ntmps43
      go_wp2_with (first | (go_at_call 20; refine (HK.out _).mono ?_; rintro e w' ⟨rfl, rfl⟩) | (go_at_call 42; refine (HV.out _).mono ?_; rintro e w' ⟨rfl, rfl⟩))
      go_ret
      exact ⟨rfl, (Fr.refl _ _).alloc _⟩

theorem wpList_mapUpdate_run {P : Program} (w : World) {ops : Array Oper} {rest : List Oper} {o : Oper} {a : Act} {Q : Exit → Act → World → Prop} (hg : o.guard = none) (m x v : Operand) (t : TypeId) (hop : o.op = Op.mapUpdate t m x v)
    (mv xv vv : Value) (w' : World) (hm : a.eval m = mv) (hx : a.eval x = xv) (hv : a.eval v = vv) (hrun : (Instr.mapUpdate t mv xv vv).run P w = .ok () w') (hK : wpList P ops Q rest (a.put o.dst undef) w') : wpList P ops Q (o :: rest) a w := by
  refine wpList_plain hg fun K' hK' => ?_
  unfold Oper.wp
  simp [execOp, hop, hm, hx, hv, hrun, Result.andThen]
  exact hK' _ _ hK

set_option maxRecDepth 100000 in
set_option maxHeartbeats 1000000 in
theorem elay_any (b : Nat) (l : List Wr) (x : Wr) (w : World) (h : LatAt w b l) (hl : l.length < maxLen) (hk : x.1.size ≤ maxLen) :
    Calls Try.prog 44 #[.map (some b), wrV x] w fun e w' => e = .returned (.tuple #[]) ∧ LatAt w' b (l ++ [x]) ∧ Fr (fun k => k = b) w w' := by
  have hF0 : Fr (fun _ => False) w (w.alloc (.cells #[.string x.1, .string x.2.1, .bool x.2.2] 52)) := (Fr.refl _ _).alloc _
  obtain ⟨w1, hrun, hL, hF⟩ := (h.fr hF0 (fun e => e)).put x hl hk
  have HR := hideIt hrun
  have HL := hideIt hL
  have HFF := hideIt ((hF0.mono (fun _ e => e.elim)).trans hF (fun i hi e => e))
  clear hrun hL hF hF0 h
  unfold wrV at *
  go_enter Try.func44, Try.ntmps44
  go_wp2_with (first | (at_mapUpdate; refine wpList_mapUpdate_run _ rfl _ _ _ _ rfl _ _ _ _ rfl rfl rfl HR.out ?_))
  go_end0
  exact ⟨rfl, HL.out, HFF.out⟩

end Go.Proofs.Ytefikadaiconaaa
