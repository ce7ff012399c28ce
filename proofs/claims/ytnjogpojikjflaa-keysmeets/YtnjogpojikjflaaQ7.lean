/- KeysMeets, part 7 of the road: what the program's functions do, each by its own walk. -/
import Derived.Test.YtnjogpojikjflaaQ5
import Derived.Test.YtnjogpojikjflaaQ2
import Derived.Test.YtnjogpojikjflaaQ6
import Derived.Deep.QuietTactic
import Derived.Laws.Shifts
import Derived.OwnWalkIn

/- Keys in memory: rows of texts, sets in maps, the keys of a set in order. -/
namespace Go.Proofs.Ytnjogpojikjflaa
open Go.RowKit Go.IntWalk Go.Sort Go.Maps Go.Shelf
set_option linter.unusedSimpArgs false
set_option linter.unusedVariables false
set_option maxRecDepth 100000

/-- Texts, wherever they lie. -/
def KsAt (w : World) (ao : Option Addr) (l : List ByteArray) : Prop :=
  (ao = none ∧ l = []) ∨ ∃ b off, ao = some ⟨b, off, none⟩ ∧ b < w.heap.size ∧ ∀ i (h : i < l.length), w.cell? ⟨b, off + i, none⟩ = some (.string l[i])

theorem KsAt.keep {w w' : World} {ao : Option Addr} {l : List ByteArray} (h : KsAt w ao l) (hs : w.heap.size ≤ w'.heap.size) (hb : ∀ k, k < w.heap.size → blk ao k → w'.heap[k]? = w.heap[k]?) : KsAt w' ao l := by
  rcases h with h | ⟨b, off, rfl, hlt, hc⟩
  · exact Or.inl h
  · refine Or.inr ⟨b, off, rfl, by omega, fun i hi => ?_⟩
    have e := hb b hlt ⟨_, rfl, rfl⟩
    exact (World.cell?_of_block (a := ⟨b, off + i, none⟩) e).trans (hc i hi)

theorem KsAt.fr {S : Nat → Prop} {w w' : World} {ao : Option Addr} {l : List ByteArray} (h : KsAt w ao l) (hF : Fr S w w') (hS : ∀ k, blk ao k → ¬ S k) : KsAt w' ao l :=
  h.keep hF.size fun k hk e => hF.block k hk (hS k e)

theorem KsAt.fr0 {w w' : World} {ao : Option Addr} {l : List ByteArray} (h : KsAt w ao l) (hF : Fr (fun _ => False) w w') : KsAt w' ao l := h.fr hF (fun _ _ e => e)

theorem KsAt.get {w : World} {ao : Option Addr} {l : List ByteArray} (h : l = [] ∨ KsAt w ao l) (k : Nat) (hk : k < l.length) : ∃ b off, ao = some ⟨b, off, none⟩ ∧ b < w.heap.size ∧ w.cell? ⟨b, off + k, none⟩ = some (.string l[k]) := by
  rcases h with h | ⟨_, h⟩ | ⟨b, off, h1, h2, h3⟩
  · subst h; simp at hk
  · subst h; simp at hk
  · exact ⟨b, off, h1, h2, h3 k hk⟩

theorem kats_fr0 {w w' : World} {ao : Option Addr} {l : List ByteArray} (h : l = [] ∨ KsAt w ao l) (hF : Fr (fun _ => False) w w') : l = [] ∨ KsAt w' ao l := h.imp_right fun h => h.fr0 hF

/-- What lies at the other end of a row's tail. -/
theorem KsAt.drop {w : World} {b off : Nat} {l : List ByteArray} (h : KsAt w (some ⟨b, off, none⟩) l) (n : Nat) : KsAt w (some ⟨b, off + n, none⟩) (l.drop n) := by
  rcases h with ⟨e, _⟩ | ⟨b', off', e, hb, hc⟩
  · cases e
  · obtain ⟨rfl, rfl⟩ : b = b' ∧ off = off' := by simpa using e
    refine Or.inr ⟨b, off + n, rfl, hb, fun i hi => ?_⟩
    rw [List.length_drop] at hi
    rw [List.getElem_drop, Nat.add_assoc]
    exact hc (n + i) (by omega)

/-- Texts in a row of the call's own. -/
def KsRow (w : World) (ao : Option Addr) (cap : Nat) (l : List ByteArray) : Prop := w.ownsRow 0 9 1 (.slice ao l.length cap) l.length (l.map Value.string)

theorem KsRow.nil (w : World) : KsRow w none 0 [] := World.ownsRow_nil _ _ _ _

theorem KsRow.keep {w w' : World} {ao : Option Addr} {cap : Nat} {l : List ByteArray} (h : KsRow w ao cap l) (hb : ∀ k, k < w.heap.size → blk ao k → w'.heap[k]? = w.heap[k]?) : KsRow w' ao cap l := by
  refine ⟨h.1, ?_⟩
  rcases h.2 with hn | ⟨g, c, cur, hv, hg, hh, r⟩
  · exact Or.inl hn
  · refine Or.inr ⟨g, c, cur, hv, hg, ?_, r⟩
    have hlt : g < w.heap.size := (Array.getElem?_eq_some_iff.1 hh).1
    rw [hb g hlt ⟨⟨g, 0, none⟩, by simpa using (Value.slice.inj hv).1, rfl⟩]
    exact hh

theorem KsRow.fr {S : Nat → Prop} {w w' : World} {ao : Option Addr} {cap : Nat} {l : List ByteArray} (h : KsRow w ao cap l) (hF : Fr S w w') (hS : ∀ k, blk ao k → ¬ S k) : KsRow w' ao cap l :=
  h.keep fun k hk e => hF.block k hk (hS k e)

theorem KsRow.fr0 {w w' : World} {ao : Option Addr} {cap : Nat} {l : List ByteArray} (h : KsRow w ao cap l) (hF : Fr (fun _ => False) w w') : KsRow w' ao cap l := h.fr hF (fun _ _ e => e)

theorem KsRow.form {w : World} {ao : Option Addr} {cap : Nat} {l : List ByteArray} (h : KsRow w ao cap l) :
    (ao = none ∧ l = [] ∧ cap = 0) ∨ ∃ g cur, ao = some ⟨g, 0, none⟩ ∧ w.heap[g]? = some (.cells cur 9 (0, 0)) ∧ l.length ≤ cap ∧ cap ≤ maxLen ∧ cur.size = cap ∧ cur.toList.take l.length = l.map Value.string := by
  rcases h.2 with ⟨hv, hn⟩ | ⟨g, c, cur, hv, _, hg, hle, hcm, hcs, htake⟩
  · obtain ⟨rfl, _, rfl⟩ := Value.slice.inj hv
    exact Or.inl ⟨rfl, List.eq_nil_of_length_eq_zero hn, rfl⟩
  · obtain ⟨rfl, _, rfl⟩ := Value.slice.inj hv
    exact Or.inr ⟨g, cur, rfl, hg, hle, hcm, by simpa using hcs, by simpa using htake⟩

theorem KsRow.lt {w : World} {ao : Option Addr} {cap : Nat} {l : List ByteArray} (h : KsRow w ao cap l) {k : Nat} (hk : blk ao k) : k < w.heap.size := by
  obtain ⟨a, rfl, rfl⟩ := hk
  rcases h.form with ⟨h0, _⟩ | ⟨g, cur, h0, hh, _⟩
  · cases h0
  · obtain rfl := Option.some.inj h0
    exact (Array.getElem?_eq_some_iff.1 hh).1

theorem KsRow.cap {w : World} {ao : Option Addr} {cap : Nat} {l : List ByteArray} (h : KsRow w ao cap l) : l.length ≤ cap := by
  rcases h.form with ⟨_, rfl, rfl⟩ | ⟨g, cur, _, _, hle, _⟩
  · exact Nat.le_refl _
  · exact hle

theorem KsRow.at {w : World} {ao : Option Addr} {cap : Nat} {l : List ByteArray} (h : KsRow w ao cap l) : KsAt w ao l := by
  rcases h.form with ⟨rfl, rfl, _⟩ | ⟨g, cur, rfl, hg, hle, hcm, hcs, htake⟩
  · exact Or.inl ⟨rfl, rfl⟩
  · refine Or.inr ⟨g, 0, rfl, (Array.getElem?_eq_some_iff.1 hg).1, fun i hi => ?_⟩
    rw [cell_of_row w g _ _ _ _ hg, Nat.zero_add]
    have e : (cur.toList.take l.length)[i]? = (l.map Value.string)[i]? := by rw [htake]
    rw [List.getElem?_take, if_pos hi] at e
    simpa [hi] using e

theorem Try.infoStr : (Try.prog.info? 9).map (fun i => (i.zero, i.size, i.bytes)) = some (some (.string ⟨#[]⟩), 1, 16) := by kernel_rfl

theorem ks_src {w : World} {bo : Option Addr} {ys : List ByteArray} (h : ys = [] ∨ KsAt w bo ys) (c : Nat) : Src Try.prog 1 22 (.slice bo ys.length c) ys.length (ys.map Value.string) w := by
  have nil : ∀ bo, Src Try.prog 1 22 (.slice bo 0 c) 0 [] w := fun bo => by
    cases bo with
    | none => exact Src.ofNil w Try.underlying22 c
    | some a => exact Src.ofSlice w Try.underlying22 a 0 c [] (by simp) (fun j u hu => by cases hu) (fun u hu => by cases hu)
  rcases h with rfl | ⟨rfl, rfl⟩ | ⟨b, off, rfl, hb, hc⟩
  · exact nil bo
  · exact nil none
  · refine Src.ofSlice w Try.underlying22 ⟨b, off, none⟩ ys.length c (ys.map Value.string) (by simp) (fun k u hu => ?_) (fun u hu => ?_)
    · have hk := (List.getElem?_eq_some_iff.1 hu).1
      rw [List.length_map] at hk
      rw [List.getElem?_map, List.getElem?_eq_getElem hk] at hu
      obtain rfl := Option.some.inj hu
      rw [Addr.add_lit]
      exact hc k hk
    · obtain ⟨x, _, rfl⟩ := List.mem_map.1 hu
      rfl

theorem ks_append (w : World) (ao : Option Addr) (cap : Nat) (l ys : List ByteArray) (hrow : KsRow w ao cap l) (bo : Option Addr) (c : Nat) (hs : ys = [] ∨ KsAt w bo ys) (hb : l.length + ys.length ≤ 1099511627776) :
    ∃ ao' cap' w', (Builtin.append_ #[22, 22] 22 #[.slice ao l.length cap, .slice bo ys.length c]).run Try.prog w = .ok (.slice ao' (l.length + ys.length) cap') w' ∧ KsRow w' ao' cap' (l ++ ys) ∧ Fr (blk ao) w w' ∧ (ao' = ao ∨ ao' = some ⟨w.heap.size, 0, none⟩) := by
  obtain ⟨i0, hi, hz0, hz1, hz2⟩ := info_parts Try.infoStr
  obtain ⟨ao', cap', w', h1, h2, h3, h4⟩ := append_rowE w 22 22 22 9 i0 _ Try.underlying22 hi hz0 1 16 hz1 hz2 rfl ao cap l.length ys.length _ _ hrow _ (ks_src hs c) (by unfold maxLen; omega) (by omega)
  refine ⟨ao', cap', w', h1, ?_, h3, h4⟩
  unfold KsRow
  rw [List.length_append, List.map_append]
  exact h2

/-- One text in a new block. -/
theorem ks_new (w : World) (l : List ByteArray) (t : TypeId) : KsAt (w.alloc (.cells (l.map Value.string).toArray t)) (some ⟨w.heap.size, 0, none⟩) l := by
  refine Or.inr ⟨w.heap.size, 0, rfl, by simp, fun i hi => ?_⟩
  rw [cellNew _ _ _ _ _ rfl, Nat.zero_add]
  simp [hi]

theorem keyOf_str' (k : ByteArray) (h : k.size ≤ maxLen) : keyOf Try.prog 9 (.string k) = some (.string k.toList) := by
  have hu := Try.underlying9
  rw [Lib.toList_data]
  simp [keyOf, hu, mapKey, h]

/-- A map's elements, all alike. -/
def unitR : Value → Option (DataW Unit × List MemPlace)
  | .agg ⟨[]⟩ => some (.nil, [])
  | _ => none

theorem unitR_inv {v : Value} {z : DataW Unit × List MemPlace} (h : unitR v = some z) : v = .agg #[] := by
  unfold unitR at h
  split at h
  · rfl
  · cases h

/-- Block b is a set that was made of the keys l. -/
def SetAt (w : World) (b : Nat) (l : List ByteArray) : Prop :=
  ∃ n D, w.ownsMap Try.prog 9 unitR b n D ∧ n ≤ l.length ∧ ∀ x : By, has D (.string x) = true ↔ ∃ k ∈ l, k.toList = x

theorem SetAt.made (w : World) : SetAt (w.alloc (.map #[] 0)) w.heap.size [] :=
  ⟨0, .map [], World.ownsMap_made _ _ _ _, Nat.le_refl _, fun x => by simp [has_eq]⟩

theorem SetAt.lt {w : World} {b : Nat} {l : List ByteArray} (h : SetAt w b l) : b < w.heap.size := by
  obtain ⟨n, D, h1, _⟩ := h
  exact h1.lt

theorem SetAt.keep {w w' : World} {b : Nat} {l : List ByteArray} (h : SetAt w b l) (hb : w'.heap[b]? = w.heap[b]?) : SetAt w' b l := by
  obtain ⟨n, D, ⟨es, clock, h1, h2⟩, h3⟩ := h
  exact ⟨n, D, ⟨es, clock, hb.trans h1, h2⟩, h3⟩

theorem SetAt.fr {S : Nat → Prop} {w w' : World} {b : Nat} {l : List ByteArray} (h : SetAt w b l) (hF : Fr S w w') (hS : ¬ S b) : SetAt w' b l := h.keep (hF.block b h.lt hS)

theorem SetAt.put {w : World} {b : Nat} {l : List ByteArray} (h : SetAt w b l) (k : ByteArray) (hl : l.length < maxLen) (hk : k.size ≤ maxLen) :
    ∃ w', (Instr.mapUpdate 38 (.map (some b)) (.string k) (.agg #[])).run Try.prog w = .ok () w' ∧ SetAt w' b (l ++ [k]) ∧ Fr (fun i => i = b) w w' := by
  obtain ⟨n, D, h1, h2, h3⟩ := h
  have K := string_keyed Try.underlying9
  have hkey := keyOf_str' k hk
  obtain ⟨w', hrun, hown, hg⟩ := h1.update K Try.underlying38 (by omega) hkey (val := .agg #[]) (d := .nil) (ps := []) rfl
  refine ⟨w', hrun, ⟨n + 1, _, hown, by simp; omega, fun x => ?_⟩, ⟨hg.os, hg.tape, hg.output, hg.size, fun i hi hne => hg.block i hi (fun e => hne (Option.some.inj e))⟩⟩
  by_cases hx : x = k.toList
  · subst hx
    exact ⟨fun _ => ⟨k, by simp, rfl⟩, fun _ => has_put_same h1.isMap (K.key hkey) _⟩
  · rw [has_put_other (by simpa using hx), h3 x]
    constructor
    · rintro ⟨y, hy, e⟩
      exact ⟨y, List.mem_append_left _ hy, e⟩
    · rintro ⟨y, hy, e⟩
      rcases List.mem_append.1 hy with h | h
      · exact ⟨y, h, e⟩
      · rw [List.mem_singleton.1 h] at e
        exact absurd e.symm hx

theorem SetAt.look {w : World} {b : Nat} {l : List ByteArray} (h : SetAt w b l) (k : ByteArray) (hk : k.size ≤ maxLen) :
    (Instr.lookup 38 (.map (some b)) (.string k) true).run Try.prog w = .ok (.tuple #[.agg #[], .bool (inL l k)]) w := by
  obtain ⟨n, D, h1, h2, h3⟩ := h
  have K := string_keyed Try.underlying9
  obtain ⟨v, ps, hrun, hv⟩ := h1.look_ok K Try.underlying38 (Try.zeroValue47 w) (zd := .nil) (zp := []) rfl (keyOf_str' k hk)
  obtain rfl := unitR_inv hv
  rw [hrun]
  have e : has D (.string k.toList) = inL l k := by
    rw [Bool.eq_iff_iff, h3, inL_iff]
    exact ⟨fun ⟨y, hy, e⟩ => toList_inj e ▸ hy, fun hm => ⟨k, hm, rfl⟩⟩
  rw [e]

theorem encStr_toList (k : ByteArray) : encStr k.toList = .string k := by
  rw [Lib.toList_data]

/-- The keys of a set, whatever order they came in, sorted. -/
theorem set_sorted {w : World} {b n : Nat} {D : DataW Unit} {l : List ByteArray} (h1 : w.ownsMap Try.prog 9 unitR b n D) (h3 : ∀ x : By, has D (.string x) = true ↔ ∃ k ∈ l, k.toList = x) {ss : List By} (hp : ss.Perm (strKeys D)) :
    (ss.mergeSort (fun x y => decide (x ≤ y))).map encStr = (setL l).map Value.string ∧ ss.length = (setL l).length := by
  have K := string_keyed Try.underlying9
  have hnd : ((setL l).map ByteArray.toList).Nodup := List.pairwise_map.2 ((setL_rises l).nodup.imp (fun h e => h (toList_inj e)))
  have hc : Collected D (fun _ => false) ((setL l).map ByteArray.toList) := ⟨hnd, fun x => by
    rw [h3 x, List.mem_map]
    constructor
    · rintro ⟨k, hk, e⟩
      exact ⟨⟨k, (mem_setL l k).1 hk, e⟩, rfl⟩
    · rintro ⟨⟨k, hk, e⟩, _⟩
      exact ⟨k, (mem_setL l k).2 hk, e⟩⟩
  have hp2 := hp.trans (hc.perm h1 K Try.underlying9 (fun _ => rfl)).symm
  have hs : ss.mergeSort (fun x y => decide (x ≤ y)) = (setL l).map ByteArray.toList := by
    refine (mergeSort_of_perm hp2).trans (List.mergeSort_of_pairwise (List.pairwise_map.2 ((setL_rises l).imp (fun h => ?_))))
    exact decide_eq_true (List.le_of_lt h)
  constructor
  · rw [hs, List.map_map]
    exact List.map_congr_left (fun k _ => encStr_toList k)
  · rw [hp2.length_eq, List.length_map]

end Go.Proofs.Ytnjogpojikjflaa

/- Keys: sets gathered and told in order: rising, gather, Sort, Union. -/
namespace Go.Proofs.Ytnjogpojikjflaa
open Go.RowKit Go.IntWalk Go.Sort Go.Maps Go.Shelf
set_option linter.unusedSimpArgs false
set_option linter.unusedVariables false
set_option maxRecDepth 100000

theorem Try.sortsK (m : Nat) : AnyZ.SortsIn Try.prog Try.msorted_ren Fence.wide m :=
  ⟨fun blk off cap ss W hH hblk hsz => callsIn_wide.2 (AnyM.slices_Sort_string Try.msort blk off cap ss W hH hblk hsz),
   fun p cap W => callsIn_wide.2 (AnyM.slices_Sort_string_none Try.msort p cap W)⟩

theorem mkeys_in (mb : Option Nat) (W : World) : CallsIn Fence.wide 5 Try.prog 38 #[.map mb] W fun e w' => e = .returned (.func (.func 53) #[] #[.pointer (some ⟨W.heap.size, 0, none⟩)]) ∧ w' = W.alloc (.cells #[.map mb] 38) :=
  AnyZ.keys_in Try.mkeys Fence.wide 5 trivial rfl mb W

set_option maxHeartbeats 1000000 in
theorem msorted_in (b n : Nat) (D : DataW Unit) (w : World) (hown : w.ownsMap Try.prog 9 unitR b n D) (hmax : Maps.size D ≤ maxLen) (hbytes : Maps.size D * 16 ≤ 140737488355328) :
    CallsIn Fence.wide 5 Try.prog 37 #[.func (.func 53) #[] #[.pointer (some ⟨w.heap.size, 0, none⟩)]] (w.alloc (.cells #[.map (some b)] 38)) fun e w' => ∃ (v : Value) (ss : List By), e = .returned v ∧ ss.Perm (strKeys D) ∧
      w'.ownsRow (w.alloc (.cells #[.map (some b)] 38)).heap.size 9 1 v ss.length ((ss.mergeSort (fun x y => decide (x ≤ y))).map encStr) ∧ (v = .slice none 0 0 ↔ ss = []) ∧ Below (w.alloc (.cells #[.map (some b)] 38)).heap.size (w.alloc (.cells #[.map (some b)] 38)) w' := by
  have hbl := hown.lt
  have hseq : SeqGives Fence.wide 2 Try.prog 53 #[.pointer (some ⟨w.heap.size, 0, none⟩)] encStr (fun ss => ss.Perm (strKeys D)) (Maps.size D) (w.alloc (.cells #[.map (some b)] 38)) :=
    AnyZ.keys_gives (ρ := Try.mkeys_ren) { Try.mkeys with } Fence.wide _ trivial rfl (by omega) w.heap.size b n D _ (by simp) (by simp) (by
      obtain ⟨es, clock, hb, Ft, hs, hD⟩ := hown
      exact ⟨es, clock, (Below.heap_alloc _ _ b hbl).trans hb, Ft, hs, hD⟩)
  exact AnyZ.sorted_in Try.msorted Fence.wide 5 trivial trivial trivial trivial rfl (by omega) (Try.sortsK _) (enters_of Try.func52 (by kernel_rfl) rfl) 53 #[.pointer (some ⟨w.heap.size, 0, none⟩)] trivial (enters_of Try.func53 (by kernel_rfl) rfl) _ _ hmax hbytes _ hseq

/-- What a set's keys in order leave. -/
def RisePost (l : List ByteArray) (w : World) (e : Ending) (w' : World) : Prop :=
  ∃ ao cap, e = .returned (.slice ao l.length cap) ∧ KsRow w' ao cap l ∧ Fr (fun _ => False) w w' ∧ ∀ k, blk ao k → w.heap.size ≤ k

theorem rise_fin {o : Obj} {w w1 w' : World} {l : List ByteArray} {v : Value} {n : Nat} (hrow : w'.ownsRow w1.heap.size 9 1 v n (l.map Value.string)) (hn : n = l.length) (h1 : w1 = w.alloc o) (hb : Below w1.heap.size w1 w') : RisePost l w (.returned v) w' := by
  subst hn h1
  have hF : Fr (fun _ => False) w w' := ((Fr.refl _ w).alloc o).trans (Fr.of_new hb) (fun _ _ e => e)
  rcases hrow.2 with ⟨hv, hn⟩ | ⟨g, c, cur, hv, hg, r⟩
  · subst hv
    obtain rfl : l = [] := List.eq_nil_of_length_eq_zero hn
    exact ⟨none, 0, rfl, KsRow.nil _, hF, fun k ⟨a, e, _⟩ => by cases e⟩
  · subst hv
    refine ⟨some ⟨g, 0, none⟩, c, rfl, ownsRow_base_a hrow (Nat.zero_le _), hF, fun k ⟨a, e1, e2⟩ => ?_⟩
    obtain rfl := Option.some.inj e1
    simp at hg e2
    omega

set_option maxHeartbeats 1000000 in
theorem krising_any (b : Nat) (l : List ByteArray) (w : World) (h : SetAt w b l) (hl : l.length ≤ 1099511627776) : Calls Try.prog 28 #[.map (some b)] w (RisePost (setL l) w) := by
  obtain ⟨n, D, hown, hn, h3⟩ := h
  have hsz := hown.size_le
  have hmax : Maps.size D ≤ maxLen := by unfold maxLen; omega
  have hbytes : Maps.size D * 16 ≤ 140737488355328 := by omega
  have HF := hideIt (fun (ss : List By) (hp : ss.Perm (strKeys D)) => set_sorted hown h3 hp)
  clear h3
  refine (callsIn_wide (n := 6)).1 ?_
  have hfK : Fence.wide.fn 38 := trivial
  have hfS : Fence.wide.fn 37 := trivial
  refine callsIn_of_wp Try.func28 rfl trivial ?_ rfl
  simp only [Try.ntmps28, List.size_toArray, List.length_cons, List.length_nil, Nat.reduceAdd, Nat.reduceSub, Array.replicate_succ, Array.replicate_zero, List.push_toArray, List.append_toArray, List.nil_append, List.cons_append]
  gi_wp2_with (first
    | (gi_at_call 38; refine (mkeys_in _ _).mono ?_; rintro e w' ⟨rfl, rfl⟩)
    | (gi_at_call 37; refine (msorted_in b n D w hown hmax hbytes).mono ?_; rintro e w' ⟨v, ss, rfl, hS, hrow, hnil, hb⟩))
  go_ret
  obtain ⟨e1, e2⟩ := HF.out _ hS
  rw [e1] at hrow
  exact rise_fin hrow e2 rfl hb

/-- A list among others: where it lies, its room, its keys. -/
abbrev KL := Option Addr × Nat × List ByteArray

def LsAt (w : World) (b off : Nat) (ls : List KL) : Prop :=
  ∀ i (h : i < ls.length), w.cell? ⟨b, off + i, none⟩ = some (.slice ls[i].1 ls[i].2.2.length ls[i].2.1) ∧ (ls[i].2.2 = [] ∨ KsAt w ls[i].1 ls[i].2.2)

theorem LsAt.fr0 {w w' : World} {b off : Nat} {ls : List KL} (h : LsAt w b off ls) (hF : Fr (fun _ => False) w w') : LsAt w' b off ls :=
  fun i hi => ⟨hF.cell0 (h i hi).1, kats_fr0 (h i hi).2 hF⟩

/-- Their keys. -/
def allK (ls : List KL) : List ByteArray := ls.flatMap fun x => x.2.2

theorem allK_snoc (ls : List KL) (j : Nat) (h : j < ls.length) : allK (ls.take (j + 1)) = allK (ls.take j) ++ ls[j].2.2 := by
  rw [List.take_succ_eq_append_getElem h]
  unfold allK
  rw [List.flatMap_append, List.flatMap_cons, List.flatMap_nil, List.append_nil]

theorem allK_len (ls : List KL) (j : Nat) : (allK (ls.take j)).length ≤ (allK ls).length := by
  have : allK ls = allK (ls.take j) ++ allK (ls.drop j) := by unfold allK; rw [← List.flatMap_append, List.take_append_drop]
  rw [this]
  simp

theorem wpList_mapUpdate_run {P : Program} (w : World) {ops : Array Oper} {rest : List Oper} {o : Oper} {a : Act} {Q : Exit → Act → World → Prop} (hg : o.guard = none) (m x v : Operand) (t : TypeId) (hop : o.op = Op.mapUpdate t m x v)
    (mv xv vv : Value) (w' : World) (hm : a.eval m = mv) (hx : a.eval x = xv) (hv : a.eval v = vv) (hrun : (Instr.mapUpdate t mv xv vv).run P w = .ok () w') (hK : wpList P ops Q rest (a.put o.dst undef) w') : wpList P ops Q (o :: rest) a w := by
  refine wpList_plain hg fun K' hK' => ?_
  unfold Oper.wp
  simp [execOp, hop, hm, hx, hv, hrun, Result.andThen]
  exact hK' _ _ hK

def GathPost (l : List ByteArray) (w : World) (e : Ending) (w' : World) : Prop :=
  ∃ g, e = .returned (.map (some g)) ∧ w.heap.size ≤ g ∧ SetAt w' g l ∧ Fr (fun _ => False) w w'

set_option maxRecDepth 100000 in
set_option maxHeartbeats 1000000 in
theorem kgather_any (b off cap : Nat) (ls : List KL) (w : World) (h : LsAt w b off ls) (hn : ls.length ≤ 1000) (hl : (allK ls).length ≤ 1099511627776) (hk : ∀ x ∈ allK ls, x.size ≤ maxLen) :
    Calls Try.prog 27 #[.slice (some ⟨b, off, none⟩) ls.length cap] w (GathPost (allK ls) w) := by
  have HH := hideIt h
  have HK := hideIt hk
  have HL := hideIt hl
  clear h hk hl
  go_enter Try.func27, Try.ntmps27
  have hmm := @run_makeMap Try.prog
  go_wp2_with fail
  clear hmm
  go_loopw [11] (fun i wr => ∃ j : Nat, i = .int .i64 j ∧ j ≤ ls.length ∧ Hid (SetAt wr w.heap.size (allK (ls.take j))) ∧ Fr (fun _ => False) w wr) (fun i _ => ls.length - (intOf i).toNat)
  case atStart => exact ⟨0, rfl, Nat.zero_le _, hideIt (SetAt.made w), (Fr.refl _ w).alloc _⟩
  case round =>
    obtain ⟨j, rfl, hj, HS, hF⟩ := hrel
    have HF := hideIt hF
    clear hF
    by_cases hlt : j < ls.length
    · obtain ⟨c0, hks⟩ := HH.out.fr0 HF.out j hlt
      have HKF := hideIt (fun w' (hF : Fr (fun _ => False) w w') => (HH.out.fr0 hF j hlt).2)
      have HA := hideIt (allK_snoc ls j hlt)
      have HN := hideIt (allK_len ls (j + 1))
      have HM := hideIt (fun x (hx : x ∈ ls[j].2.2) => HK.out x (List.mem_flatMap.2 ⟨ls[j], List.getElem_mem hlt, hx⟩))
      clear hks
      generalize ls[j] = y at *
      obtain ⟨aj, cj, lj⟩ := y
      dsimp only at *
      go_wp2_with fail
      go_loopw [17] (fun i wr' => ∃ q : Nat, i = .int .i64 q ∧ q ≤ lj.length ∧ Hid (SetAt wr' w.heap.size (allK (ls.take j) ++ lj.take q)) ∧ Fr (fun _ => False) w wr') (fun i _ => lj.length - (intOf i).toNat)
      case atStart => exact ⟨0, rfl, Nat.zero_le _, hideIt (by simpa using HS.out), HF.out⟩
      case round =>
        obtain ⟨q, rfl, hq, HS2, hF2⟩ := hrel
        have HF2 := hideIt hF2
        clear hF2
        have hlj : lj.length ≤ 1099511627776 := by have := HN.out; have h2 := HL.out; rw [HA.out, List.length_append] at this; omega
        by_cases hlt2 : q < lj.length
        · obtain ⟨b2, off2, rfl, hb2, c2⟩ := KsAt.get (HKF.out _ HF2.out) q hlt2
          have HT := hideIt (List.take_succ_eq_append_getElem hlt2)
          obtain ⟨w3, hrun, hs3, hf3⟩ := HS2.out.put lj[q] (by have := HN.out; have h2 := HL.out; rw [HA.out, List.length_append] at this; rw [List.length_append, List.length_take]; unfold maxLen; omega) (HM.out _ (List.getElem_mem hlt2))
          have HR := hideIt hrun
          have HS3 := hideIt hs3
          have HF3 := hideIt (HF2.out.trans hf3 (fun i hi e => by omega))
          clear hrun hs3 hf3
          generalize lj[q] = x at *
          go_wp2_with (first | (at_mapUpdate; refine wpList_mapUpdate_run _ rfl _ _ _ _ rfl _ _ _ _ rfl rfl rfl HR.out ?_))
          go_roundw
          case measure => simp [intOf]; omega
          case rel => exact ⟨q + 1, by go_num, by omega, hideIt (by rw [HT.out, ← List.append_assoc]; exact HS3.out), HF3.out⟩
        · obtain rfl : q = lj.length := by omega
          go_wp2_with fail
          go_roundw
          case measure => simp [intOf]; omega
          case rel => exact ⟨j + 1, by go_num, by omega, hideIt (by have := HS2.out; rw [List.take_length] at this; rw [HA.out]; exact this), HF2.out⟩
    · obtain rfl : j = ls.length := by omega
      go_wp2_with fail
      go_ret
      refine ⟨w.heap.size, rfl, Nat.le_refl _, ?_, HF.out⟩
      have := HS.out
      rwa [List.take_length] at this

theorem LsAt.one {w : World} {a : Option Addr} {c : Nat} {l : List ByteArray} (h : l = [] ∨ KsAt w a l) (t : TypeId) : LsAt (w.alloc (.cells #[.slice a l.length c] t)) w.heap.size 0 [(a, c, l)] := by
  intro i hi
  obtain rfl : i = 0 := by simpa using hi
  exact ⟨cellNew _ _ _ _ _ rfl, kats_fr0 h ((Fr.refl _ _).alloc _)⟩

theorem LsAt.two {w : World} {a a' : Option Addr} {c c' : Nat} {l l' : List ByteArray} (h : l = [] ∨ KsAt w a l) (h' : l' = [] ∨ KsAt w a' l') (t : TypeId) : LsAt (w.alloc (.cells #[.slice a l.length c, .slice a' l'.length c'] t)) w.heap.size 0 [(a, c, l), (a', c', l')] := by
  intro i hi
  have h2 : i < 2 := hi
  rcases (show i = 0 ∨ i = 1 by omega) with rfl | rfl
  · exact ⟨cellNew _ _ _ _ _ rfl, kats_fr0 h ((Fr.refl _ _).alloc _)⟩
  · exact ⟨cellNew _ _ _ _ _ rfl, kats_fr0 h' ((Fr.refl _ _).alloc _)⟩

set_option maxRecDepth 100000 in
set_option maxHeartbeats 1000000 in
theorem ksort_any (ao : Option Addr) (cap : Nat) (l : List ByteArray) (w : World) (h : l = [] ∨ KsAt w ao l) (hl : l.length ≤ 1099511627776) (hk : ∀ x ∈ l, x.size ≤ maxLen) :
    Calls Try.prog 7 #[.slice ao l.length cap] w (RisePost (setL l) w) := by
  have e : allK [(ao, cap, l)] = l := by simp [allK]
  have hG := hideIt (show Calls Try.prog 27 #[.slice (some ⟨w.heap.size, 0, none⟩) 1 1] (w.alloc (.cells #[.slice ao l.length cap] 22)) (GathPost l (w.alloc (.cells #[.slice ao l.length cap] 22))) from by
    have := kgather_any w.heap.size 0 1 [(ao, cap, l)] _ (LsAt.one h 22) (by simp) (by rw [e]; exact hl) (by rw [e]; exact hk)
    rw [e] at this
    exact this)
  have HF0 := hideIt ((Fr.refl (fun _ => False) w).alloc (.cells #[.slice ao l.length cap] 22))
  clear h hk e
  go_enter Try.func7, Try.ntmps7
  go_wp2_with fail
  refine Calls.mono hG.out ?_
  rintro e w1 ⟨g, rfl, _, hs, hF1⟩
  have hR := hideIt (krising_any _ l w1 hs hl)
  have HF1 := hideIt (HF0.out.trans hF1 (fun _ _ e => e))
  clear hs hF1
  go_wp2_with fail
  refine Calls.mono hR.out ?_
  rintro e w2 ⟨ao', cap', rfl, hrow, hF2, hnew⟩
  have HFIN := hideIt (show RisePost (setL l) w (.returned (.slice ao' (setL l).length cap')) w2 from ⟨ao', cap', rfl, hrow, HF1.out.trans hF2 (fun _ _ e => e), fun k hk => Nat.le_trans HF1.out.size (hnew k hk)⟩)
  clear hrow hF2 hnew
  generalize setL l = sl at *
  go_wp2_with fail
  go_ret
  exact HFIN.out

set_option maxRecDepth 100000 in
set_option maxHeartbeats 1000000 in
theorem kunion_any (ao bo : Option Addr) (ca cb : Nat) (l m : List ByteArray) (w : World) (h : l = [] ∨ KsAt w ao l) (h' : m = [] ∨ KsAt w bo m) (hl : l.length + m.length ≤ 1099511627776) (hk : ∀ x ∈ l ++ m, x.size ≤ maxLen) :
    Calls Try.prog 8 #[.slice ao l.length ca, .slice bo m.length cb] w (RisePost (setL (l ++ m)) w) := by
  have e : allK [(ao, ca, l), (bo, cb, m)] = l ++ m := by simp [allK]
  have hG := hideIt (show Calls Try.prog 27 #[.slice (some ⟨w.heap.size, 0, none⟩) 2 2] (w.alloc (.cells #[.slice ao l.length ca, .slice bo m.length cb] 22)) (GathPost (l ++ m) (w.alloc (.cells #[.slice ao l.length ca, .slice bo m.length cb] 22))) from by
    have := kgather_any w.heap.size 0 2 [(ao, ca, l), (bo, cb, m)] _ (LsAt.two h h' 22) (by simp) (by rw [e, List.length_append]; exact hl) (by rw [e]; exact hk)
    rw [e] at this
    exact this)
  have HF0 := hideIt ((Fr.refl (fun _ => False) w).alloc (.cells #[.slice ao l.length ca, .slice bo m.length cb] 22))
  have HL := hideIt (show (l ++ m).length ≤ 1099511627776 by rw [List.length_append]; exact hl)
  clear h h' hk e hl
  generalize l ++ m = lm at *
  go_enter Try.func8, Try.ntmps8
  go_wp2_with fail
  refine Calls.mono hG.out ?_
  rintro e w1 ⟨g, rfl, _, hs, hF1⟩
  have hR := hideIt (krising_any _ lm w1 hs HL.out)
  have HF1 := hideIt (HF0.out.trans hF1 (fun _ _ e => e))
  clear hs hF1
  go_wp2_with fail
  refine Calls.mono hR.out ?_
  rintro e w2 ⟨ao', cap', rfl, hrow, hF2, hnew⟩
  have HFIN := hideIt (show RisePost (setL lm) w (.returned (.slice ao' (setL lm).length cap')) w2 from ⟨ao', cap', rfl, hrow, HF1.out.trans hF2 (fun _ _ e => e), fun k hk => Nat.le_trans HF1.out.size (hnew k hk)⟩)
  clear hrow hF2 hnew
  generalize setL lm = sl at *
  go_wp2_with fail
  go_ret
  exact HFIN.out

end Go.Proofs.Ytnjogpojikjflaa

/- Keys: Has, Check, a set asked, and what the statements ask of lists: how long they are, whether two are the same, a copy. -/
namespace Go.Proofs.Ytnjogpojikjflaa
open Go.RowKit Go.IntWalk
set_option linter.unusedSimpArgs false
set_option linter.unusedVariables false
set_option maxRecDepth 100000

theorem le_maxLen {n : Nat} (h : n ≤ 100) : n ≤ maxLen := by unfold maxLen; omega

theorem key_eq (x y : ByteArray) : (x.toList == y.toList) = decide (x = y) := by
  rw [Bool.eq_iff_iff, decide_eq_true_eq, beq_iff_eq]
  exact ⟨toList_inj, fun e => by rw [e]⟩

set_option maxRecDepth 100000 in
set_option maxHeartbeats 1000000 in
theorem kidx_any (ao : Option Addr) (cap : Nat) (l : List ByteArray) (k : ByteArray) (w : World) (h : l = [] ∨ KsAt w ao l) (hl : l.length ≤ 9223372036854775807) :
    Calls Try.prog 42 #[.slice ao l.length cap, .string k] w fun e w' => ∃ n : Int, e = .returned (.int .i64 n) ∧ decide (0 ≤ n) = inL l k ∧ w' = w := by
  have HH := hideIt h
  clear h
  go_enter Try.func42, Try.ntmps42
  go_wp2_with fail
  go_loop [8] (fun i => ∃ j : Nat, i = .int .i64 j ∧ j ≤ l.length ∧ Hid (∀ x ∈ l.take j, x ≠ k)) (fun i => l.length - (intOf i).toNat)
  case atStart => exact ⟨0, rfl, Nat.zero_le _, hideIt (by simp)⟩
  case round =>
    obtain ⟨j, rfl, hj, HB⟩ := hrel
    by_cases hlt : j < l.length
    · obtain ⟨b, off, rfl, hbl, c0⟩ := KsAt.get HH.out j hlt
      have HT := hideIt (List.take_succ_eq_append_getElem hlt)
      have HM := hideIt (List.getElem_mem hlt)
      generalize l[j] = x at *
      by_cases hx : x = k
      · have hq : (k.toList == x.toList) = true := by rw [hx]; simp
        have HX := hideIt hx
        clear hx
        go_wp2_with fail
        go_ret
        exact ⟨j, rfl, by rw [show inL l k = true from (inL_iff l k).2 (HX.out ▸ HM.out)]; exact decide_eq_true (by omega), rfl⟩
      · have hq : (k.toList == x.toList) = false := by rw [key_eq]; exact decide_eq_false (fun e => hx e.symm)
        have HX := hideIt hx
        clear hx
        go_wp2_with fail
        go_round
        case rel => exact ⟨j + 1, by go_num, by omega, hideIt (fun y hy => by rw [HT.out] at hy; rcases List.mem_append.1 hy with e | e; exact HB.out y e; rw [List.mem_singleton.1 e]; exact HX.out)⟩
        case measure => simp [intOf]; omega
    · obtain rfl : j = l.length := by omega
      go_wp2_with fail
      go_ret
      refine ⟨-1, rfl, ?_, rfl⟩
      rw [show inL l k = false from (inL_not l k).2 (fun hm => by have := HB.out; rw [List.take_length] at this; exact this k hm rfl)]
      decide

theorem khas_any (ao : Option Addr) (cap : Nat) (l : List ByteArray) (k : ByteArray) (w : World) (h : l = [] ∨ KsAt w ao l) (hl : l.length ≤ 9223372036854775807) :
    Calls Try.prog 19 #[.slice ao l.length cap, .string k] w fun e w' => e = .returned (.bool (inL l k)) ∧ w' = w := by
  have hI := hideIt (kidx_any ao cap l k w h hl)
  clear h
  generalize inL l k = v at *
  go_enter Try.func19, Try.ntmps19
  go_wp2_with (first | (go_at_call 30; go_in) | (go_at_call 42; refine Calls.mono hI.out ?_; rintro e w1 ⟨n, rfl, hn, rfl⟩))
  go_ret
  first | exact ⟨rfl, rfl⟩ | exact ⟨rb hn, rfl⟩

theorem kLt_not (x y : ByteArray) : (Op.bytesLess x.toList y.toList || x.toList == y.toList) = !decide (kLt y x) := by
  rw [le_iff, decide_not]

/-- The keys up to a place rise. -/
def RisesTo (l : List ByteArray) (n : Nat) : Prop := ∀ i, (h : i + 1 < l.length) → i + 1 < n → kLt (l[i]'(by omega)) l[i + 1]

set_option maxRecDepth 100000 in
set_option maxHeartbeats 1000000 in
theorem kcheck_any (ao : Option Addr) (cap : Nat) (l : List ByteArray) (w : World) (h : l = [] ∨ KsAt w ao l) (hl : l.length ≤ 9223372036854775807) :
    Calls Try.prog 17 #[.slice ao l.length cap] w fun e w' => e = .returned (.bool (risesB l)) ∧ Fr (fun _ => False) w w' := by
  have HH := hideIt h
  clear h
  go_enter Try.func17, Try.ntmps17
  go_wp2_with fail
  go_loopw [6] (fun i wr => ∃ j : Nat, i = .int .i64 j ∧ j ≤ l.length ∧ Hid (RisesTo l j) ∧ Fr (fun _ => False) w wr) (fun i _ => l.length - (intOf i).toNat)
  case atStart => exact ⟨0, rfl, Nat.zero_le _, hideIt (fun i _ h => by omega), Fr.refl _ _⟩
  case round =>
    obtain ⟨j, rfl, hj, HB, hF⟩ := hrel
    have HF := hideIt hF
    clear hF
    by_cases hlt : j < l.length
    · cases j with
      | zero =>
        go_wp2_with fail
        go_quiet (fail)
        go_wp2_with fail
        go_roundw
        case measure => simp [intOf]; omega
        case rel => exact ⟨1, by go_num, by omega, hideIt (fun i _ h => by omega), HF.out.drewN _⟩
      | succ n =>
        obtain ⟨b, off, rfl, hbl, c0⟩ := KsAt.get (kats_fr0 HH.out HF.out) (n + 1) hlt
        obtain ⟨b2, off2, e2, _, c1⟩ := KsAt.get (kats_fr0 HH.out HF.out) n (by omega)
        obtain ⟨rfl, rfl⟩ : b = b2 ∧ off = off2 := by simpa using e2
        have HG := hideIt (fun (hx : kLt (l[n]'(by omega)) l[n + 1]) i (h : i + 1 < l.length) (h2 : i + 1 < n + 1 + 1) => show kLt (l[i]'(by omega)) l[i + 1] from by
          by_cases he : i = n
          · subst he; exact hx
          · exact HB.out i h (by omega))
        have HN := hideIt (fun (hx : ¬ kLt (l[n]'(by omega)) l[n + 1]) => show risesB l = false from by
          cases hr : risesB l with
          | false => rfl
          | true => exact absurd ((risesB_get l).1 hr n hlt) hx)
        have h0 : (0 : Int) < ((n + 1 : Nat) : Int) := by omega
        have h1 : IntKind.i64.wrap (((n + 1 : Nat) : Int) - 1) = (n : Int) := by rw [show (((n + 1 : Nat) : Int) - 1) = (n : Int) by omega]; exact i64_in _ (by omega)
        have h2 : (n : Int) < (l.length : Int) := by omega
        have h3 : ((n + 1 : Nat) : Int) < (l.length : Int) := by omega
        clear e2
        generalize l[n + 1] = x at *
        generalize l[n] = y at *
        by_cases hx : kLt y x
        · have hq : (Op.bytesLess x.toList y.toList || x.toList == y.toList) = false := by rw [kLt_not]; simp [hx]
          have HX := hideIt hx
          clear hx
          go_wp2_with fail
          go_quiet (fail)
          go_wp2_with fail
          go_roundw
          case measure => simp [intOf]; omega
          case rel => exact ⟨n + 1 + 1, by go_num, by omega, hideIt (HG.out HX.out), HF.out.drewN _⟩
        · have hq : (Op.bytesLess x.toList y.toList || x.toList == y.toList) = true := by rw [kLt_not]; simp [hx]
          have HX := hideIt (HN.out hx)
          clear hx
          go_wp2_with fail
          go_quiet (fail)
          go_wp2_with fail
          go_ret
          exact ⟨by rw [HX.out]; rfl, HF.out.drewN _⟩
    · obtain rfl : j = l.length := by omega
      have HX := hideIt (show risesB l = true from (risesB_get l).2 (fun i hi => HB.out i hi hi))
      go_wp2_with fail
      go_ret
      exact ⟨by rw [HX.out]; rfl, HF.out⟩

def LongKPost (l : List ByteArray) (m : Nat) (w : World) (e : Ending) (w' : World) : Prop := ∃ b, e = .returned (.bool b) ∧ w' = w ∧ (b = false → l.length ≤ m ∧ ∀ x ∈ l, x.size ≤ 100)

set_option maxRecDepth 100000 in
set_option maxHeartbeats 1000000 in
theorem klong_any (ao : Option Addr) (cap : Nat) (l : List ByteArray) (m : Nat) (w : World) (h : l = [] ∨ KsAt w ao l) (hl : l.length ≤ 9223372036854775807) (hm : m ≤ 1000000) :
    Calls Try.prog 5 #[.slice ao l.length cap, .int .i64 m] w (LongKPost l m w) := by
  have HH := hideIt h
  clear h
  go_enter Try.func5, Try.ntmps5
  go_wp2_with fail
  go_loop [5] (fun i => ∃ k : Nat, i = .int .i64 k ∧ k ≤ l.length ∧ k ≤ m + 1 ∧ Hid (∀ x ∈ l.take k, x.size ≤ 100)) (fun i => l.length - (intOf i).toNat)
  case atStart => exact ⟨0, rfl, Nat.zero_le _, Nat.zero_le _, hideIt (by simp)⟩
  case round =>
    obtain ⟨k, rfl, hk, hkm, HB⟩ := hrel
    by_cases hlt : k < l.length
    · by_cases hm1 : k ≤ m
      · obtain ⟨b, off, rfl, hbl, c0⟩ := KsAt.get HH.out k hlt
        have HT := hideIt (List.take_succ_eq_append_getElem hlt)
        generalize l[k] = x at *
        by_cases h0 : 100 < x.size
        · have h0' : (100 : Int) < (x.size : Int) := by omega
          go_wp2_with fail
          go_ret
          exact ⟨true, rfl, rfl, fun e => by cases e⟩
        · have h0' : ¬ (100 : Int) < (x.size : Int) := by omega
          have HX := hideIt (show x.size ≤ 100 by omega)
          go_wp2_with fail
          go_round
          case rel => exact ⟨k + 1, by go_num, by omega, by omega, hideIt (fun y hy => by rw [HT.out] at hy; rcases List.mem_append.1 hy with e | e; exact HB.out y e; rw [List.mem_singleton.1 e]; exact HX.out)⟩
          case measure => simp [intOf]; omega
      · obtain rfl : k = m + 1 := by omega
        go_wp2_with fail
        go_ret
        exact ⟨_, rfl, rfl, fun e => absurd hlt (by have := of_decide_eq_false e; omega)⟩
    · obtain rfl : k = l.length := by omega
      go_wp2_with fail
      go_ret
      refine ⟨_, rfl, rfl, fun e => ⟨?_, ?_⟩⟩
      · have := of_decide_eq_false e
        omega
      · have := HB.out
        rwa [List.take_length] at this

set_option maxRecDepth 100000 in
set_option maxHeartbeats 1000000 in
theorem ksame_any (ao bo : Option Addr) (ca cb : Nat) (xs ys : List ByteArray) (w : World) (ha : xs = [] ∨ KsAt w ao xs) (hb : ys = [] ∨ KsAt w bo ys) (hx : xs.length ≤ 1099511627776) (hy : ys.length ≤ 1099511627776) :
    Calls Try.prog 15 #[.slice ao xs.length ca, .slice bo ys.length cb] w fun e w' => e = .returned (.bool (decide (xs = ys))) ∧ Fr (fun _ => False) w w' := by
  have HA := hideIt ha
  have HB := hideIt hb
  clear ha hb
  by_cases hl : xs.length = ys.length
  · have hne : ((xs.length : Int) != (ys.length : Int)) = false := by simp [hl]
    have HL := hideIt hl
    go_enter Try.func15, Try.ntmps15
    go_wp2_with fail
    go_loopw [5] (fun i wr => ∃ k : Nat, i = .int .i64 k ∧ k ≤ xs.length ∧ Hid (xs.take k = ys.take k) ∧ Fr (fun _ => False) w wr) (fun i _ => xs.length - (intOf i).toNat)
    case atStart => exact ⟨0, rfl, Nat.zero_le _, hideIt rfl, Fr.refl _ _⟩
    case round =>
      obtain ⟨k, rfl, hk, HT, hF⟩ := hrel
      by_cases hlt : k < xs.length
      · have hlt2 : k < ys.length := by have := HL.out; omega
        obtain ⟨b, off, rfl, hbl, c0⟩ := KsAt.get (kats_fr0 HA.out hF) k hlt
        obtain ⟨b2, off2, rfl, hbl2, c2⟩ := KsAt.get (kats_fr0 HB.out hF) k hlt2
        have HF := hideIt hF
        have HX := hideIt (List.take_succ_eq_append_getElem hlt)
        have HY := hideIt (List.take_succ_eq_append_getElem hlt2)
        have HDX := hideIt (List.getElem?_eq_getElem hlt)
        have HDY := hideIt (List.getElem?_eq_getElem hlt2)
        clear hF
        generalize xs[k] = x at *
        generalize ys[k] = y at *
        by_cases hxy : x = y
        · have hq : (x.toList == y.toList) = true := by rw [hxy]; simp
          have hq2 : (x.toList != y.toList) = false := by rw [hxy]; simp
          have HXY := hideIt hxy
          clear hxy hl hne
          go_wp2_with fail
          go_quiet (fail)
          go_wp2_with fail
          go_roundw
          case measure => simp [intOf]; omega
          case rel => exact ⟨k + 1, by go_num, by omega, hideIt (by rw [HX.out, HY.out, HT.out, HXY.out]), HF.out.drewN _⟩
        · have hq : (x.toList == y.toList) = false := by rw [key_eq]; exact decide_eq_false hxy
          have hq2 : (x.toList != y.toList) = true := by simp only [bne, hq]; rfl
          have HXY : Hid (decide (xs = ys) = false) := hideIt (decide_eq_false fun e => hxy (by have h1 := HDX.out; have h2 := HDY.out; rw [e] at h1; exact Option.some.inj (h1.symm.trans h2)))
          clear hxy hl hne
          go_wp2_with fail
          go_quiet (fail)
          go_wp2_with fail
          go_ret
          exact ⟨by rw [HXY.out]; rfl, HF.out.drewN _⟩
      · obtain rfl : k = xs.length := by omega
        have HXY : Hid (decide (xs = ys) = true) := hideIt (decide_eq_true (by have h := HT.out; rw [List.take_length, HL.out, List.take_length] at h; exact h))
        have HF := hideIt hF
        clear hF hl hne
        go_wp2_with fail
        go_ret
        exact ⟨by rw [HXY.out]; rfl, HF.out⟩
  · have hne : ((xs.length : Int) != (ys.length : Int)) = true := by simp; omega
    have HXY : Hid (decide (xs = ys) = false) := hideIt (decide_eq_false fun e => hl (by rw [e]))
    clear hl
    go_enter Try.func15, Try.ntmps15
    go_wp2_with fail
    go_ret
    exact ⟨by rw [HXY.out]; rfl, Fr.refl _ _⟩

theorem ksethas_any (b : Nat) (l : List ByteArray) (k : ByteArray) (w : World) (h : SetAt w b l) (hk : k.size ≤ maxLen) :
    Calls Try.prog 36 #[.map (some b), .string k] w fun e w' => e = .returned (.bool (inL l k)) ∧ Fr (fun _ => False) w w' := by
  have hrun := h.look k hk
  clear h
  generalize inL l k = r at *
  go_enter Try.func36, Try.ntmps36
  go_wp2_with fail
  go_ret
  exact ⟨rfl, (Fr.refl _ _).alloc _⟩

theorem kcopy_any (ao : Option Addr) (cap : Nat) (l : List ByteArray) (w : World) (h : l = [] ∨ KsAt w ao l) (hb : l.length ≤ 1099511627776) : Calls Try.prog 6 #[.slice ao l.length cap] w (RisePost l w) := by
  have hF0 : Fr (fun _ => False) w (w.alloc (.cells #[] 9)) := (Fr.refl _ _).alloc _
  have hrow0 : KsRow (w.alloc (.cells #[] 9)) (some ⟨w.heap.size, 0, none⟩) 0 [] := World.ownsRow_made w #[] 0 (Nat.zero_le _) (by decide) rfl
  obtain ⟨ao', cap', w1, hrun, hrow, hF, hao⟩ := ks_append _ (some ⟨w.heap.size, 0, none⟩) 0 [] l hrow0 ao cap (kats_fr0 h hF0) (by simpa using hb)
  simp only [List.length_nil, Nat.zero_add, List.nil_append] at hrun hrow
  have HR := hideIt hrun
  have HFIN := hideIt (show RisePost l w (.returned (.slice ao' l.length cap')) w1 from
    ⟨ao', cap', rfl, hrow, hF0.trans hF (fun i hi ⟨a, e1, e2⟩ => by obtain rfl := Option.some.inj e1; simp at e2; omega), fun k hk => by
      obtain ⟨a, e1, e2⟩ := hk
      rcases hao with e | e <;> rw [e] at e1 <;> obtain rfl := Option.some.inj e1 <;> simp at e2 <;> omega⟩)
  clear hrun hrow hF hao hrow0 hF0 h
  go_enter Try.func6, Try.ntmps6
  go_wp2_with (first | (at_builtin; refine wpList_append_run _ rfl (.tmp 3) (.tmp 4) 22 22 rfl _ _ _ _ rfl rfl HR.out ?_))
  go_ret
  exact HFIN.out

end Go.Proofs.Ytnjogpojikjflaa

/- Keys: two lists gone through side by side: head, step, reach, sift, Minus, Both. -/
namespace Go.Proofs.Ytnjogpojikjflaa
open Go.RowKit Go.IntWalk
set_option linter.unusedSimpArgs false
set_option linter.unusedVariables false
set_option maxRecDepth 100000

/-- What is left of a list: in a box p; the list lies below M, boxes do not. -/
def WkAt (w : World) (M p : Nat) (l : List ByteArray) : Prop :=
  M ≤ p ∧ ∃ ao cap, w.cell? ⟨p, 0, none⟩ = some (.slice ao l.length cap) ∧ w.frozen? ⟨p, 0, none⟩ = false ∧ (l = [] ∨ KsAt w ao l) ∧ l.length ≤ cap ∧ ∀ k, blk ao k → k < M

theorem KsAt.fr' {S : Nat → Prop} {w w' : World} {ao : Option Addr} {l : List ByteArray} (h : l = [] ∨ KsAt w ao l) (hF : Fr S w w') (hS : ∀ k, blk ao k → ¬ S k) : l = [] ∨ KsAt w' ao l := h.imp_right fun h => h.fr hF hS

theorem WkAt.fr {S : Nat → Prop} {w w' : World} {M p : Nat} {l : List ByteArray} (h : WkAt w M p l) (hF : Fr S w w') (hp : ¬ S p) (hS : ∀ k, k < M → ¬ S k) : WkAt w' M p l := by
  obtain ⟨h0, ao, cap, hc, hfz, hl, hcap, hb⟩ := h
  have hlt : p < w.heap.size := block_lt_of_cell hc
  have e := hF.block p hlt hp
  refine ⟨h0, ao, cap, (World.cell?_of_block (a := ⟨p, 0, none⟩) e).trans hc, ?_, KsAt.fr' hl hF (fun k hk => hS k (hb k hk)), hcap, hb⟩
  unfold World.frozen? at hfz ⊢
  simp only [e]
  exact hfz

/-- The first of some, nothing if there is none. -/
def headK : List ByteArray → ByteArray
  | [] => ⟨#[]⟩
  | x :: _ => x

theorem headK_nil : headK [] = ⟨#[]⟩ := rfl
theorem headK_cons (x : ByteArray) (r : List ByteArray) : headK (x :: r) = x := rfl

theorem khead_any (ao : Option Addr) (cap : Nat) (l : List ByteArray) (w : World) (h : l = [] ∨ KsAt w ao l) :
    Calls Try.prog 39 #[.slice ao l.length cap] w fun e w' => e = .returned (.tuple #[.string (headK l), .bool (!l.isEmpty)]) ∧ w' = w := by
  cases l with
  | nil =>
    go_enter Try.func39, Try.ntmps39
    go_wp2_with fail
    go_ret2
    exact ⟨rfl, rfl⟩
  | cons x r =>
    obtain ⟨b, off, rfl, hb, c0⟩ := KsAt.get h 0 (by simp)
    have hn : ((((x :: r).length : Nat) : Int) == 0) = false := beq_eq_false_iff_ne.2 (by simp only [List.length_cons]; omega)
    have hp : (0 : Int) < ((x :: r).length : Nat) := by simp only [List.length_cons]; omega
    clear h
    simp only [List.getElem_cons_zero, Nat.add_zero] at c0
    generalize (x :: r).length = n at *
    go_enter Try.func39, Try.ntmps39
    go_wp2_with fail
    go_ret2
    exact ⟨rfl, rfl⟩

set_option maxHeartbeats 1000000 in
theorem kstep_any (M p : Nat) (x : ByteArray) (r : List ByteArray) (w : World) (h : WkAt w M p (x :: r)) :
    Calls Try.prog 41 #[.pointer (some ⟨p, 0, none⟩)] w fun e w' => e = .returned (.tuple #[]) ∧ WkAt w' M p r ∧ Fr (fun i => i = p) w w' := by
  obtain ⟨h0, ao, cap, hc, hfz, hl, hcap, hb⟩ := h
  obtain ⟨b, off, rfl, hbl, cc⟩ := KsAt.get hl 0 (by simp)
  clear cc
  have HL := hideIt hl
  have HB := hideIt hb
  have hbp : b < M := hb b ⟨_, rfl, rfl⟩
  have e1 : (x :: r).length = r.length + 1 := rfl
  rw [e1] at hc hcap
  clear e1
  have f1 : (1 : Int) ≤ ((r.length + 1 : Nat) : Int) := by omega
  have f2 : (1 : Int) ≤ (cap : Int) := by omega
  have f3 : ((r.length + 1 : Nat) : Int) ≤ (cap : Int) := by omega
  have HFIN := hideIt (fun (ao' : Option Addr) (hk : r = [] ∨ KsAt w ao' r) (hb' : ∀ k, blk ao' k → k < M) => show WkAt (w.setCell ⟨p, 0, none⟩ (.slice ao' r.length (cap - 1))) M p r ∧ Fr (fun i => i = p) w (w.setCell ⟨p, 0, none⟩ (.slice ao' r.length (cap - 1))) from by
    have hF : Fr (fun i => i = p) w (w.setCell ⟨p, 0, none⟩ (.slice ao' r.length (cap - 1))) := Fr.setCell (p := ⟨p, 0, none⟩) (Fr.refl (fun i => i = p) w) (fun _ => rfl) _
    exact ⟨⟨h0, ao', cap - 1, World.cell?_setCell_same (h := hc) .., by rw [World.frozen?_setCell]; exact hfz, KsAt.fr' hk hF (fun k hk e => by have := hb' k hk; omega), by omega, hb'⟩, hF⟩)
  by_cases h1 : cap = 1
  · subst h1
    obtain rfl : r = [] := List.eq_nil_of_length_eq_zero (by omega)
    have HF2 := hideIt (HFIN.out (some ⟨b, off, none⟩) (Or.inl rfl) HB.out)
    clear hl hb HFIN
    simp only [List.length_nil] at *
    go_enter Try.func41, Try.ntmps41
    go_wp2_with fail
    go_end0
    exact ⟨rfl, HF2.out⟩
  · have hcn : ¬ (cap : Int) = 1 := by omega
    have hcn2 : ((cap : Int) == 1) = false := beq_eq_false_iff_ne.2 hcn
    have HF2 := hideIt (HFIN.out (some ⟨b, off + 1, none⟩) (by
      rcases HL.out with h | h
      · cases h
      · exact Or.inr (KsAt.drop h 1)) (fun k ⟨a, e, ek⟩ => by obtain rfl := Option.some.inj e; subst ek; exact hbp))
    clear hl hb HFIN
    generalize r.length = n at *
    go_enter Try.func41, Try.ntmps41
    go_wp2_with fail
    go_end0
    exact ⟨rfl, HF2.out⟩

end Go.Proofs.Ytnjogpojikjflaa

/- Keys: reach. -/
namespace Go.Proofs.Ytnjogpojikjflaa
open Go.RowKit Go.IntWalk
set_option linter.unusedSimpArgs false
set_option linter.unusedVariables false
set_option maxRecDepth 100000

/-- What is left behind the keys that are less than one. -/
def dropW (k : ByteArray) : List ByteArray → List ByteArray
  | [] => []
  | x :: r => if kLt x k then dropW k r else x :: r

/-- Whether that one comes next. -/
def hitB (k : ByteArray) (l : List ByteArray) : Bool :=
  match dropW k l with
  | [] => false
  | x :: _ => decide (x = k)

theorem dropW_sub (k : ByteArray) : ∀ l : List ByteArray, (dropW k l).Sublist l
  | [] => by simp [dropW]
  | x :: r => by
    unfold dropW
    split
    · exact (dropW_sub k r).cons x
    · exact List.Sublist.refl _

theorem dropW_rises {k : ByteArray} {l : List ByteArray} (h : Rises l) : Rises (dropW k l) := List.Pairwise.sublist (dropW_sub k l) h

theorem dropW_mem (k y : ByteArray) (hy : ¬ kLt y k) : ∀ l : List ByteArray, y ∈ dropW k l ↔ y ∈ l
  | [] => by simp [dropW]
  | x :: r => by
    unfold dropW
    split
    · rename_i hx
      rw [dropW_mem k y hy r, List.mem_cons]
      exact ⟨Or.inr, fun h => h.resolve_left (fun e => hy (e ▸ hx))⟩
    · exact Iff.rfl

theorem hit_eq {k : ByteArray} {l : List ByteArray} (h : Rises l) : hitB k l = inL l k := by
  rw [Bool.eq_iff_iff, inL_iff, ← dropW_mem k k (kLt_irrefl k) l]
  have hr := dropW_rises (k := k) h
  have hk : ∀ x r, dropW k l = x :: r → ¬ kLt x k := by
    clear h hr
    induction l with
    | nil => intro x r h; simp [dropW] at h
    | cons y l ih =>
      intro x r h
      unfold dropW at h
      split at h
      · exact ih x r h
      · rename_i hy
        cases h
        exact hy
  unfold hitB
  cases hd : dropW k l with
  | nil => simp
  | cons x r =>
    rw [hd] at hr
    simp only [decide_eq_true_eq, List.mem_cons]
    constructor
    · intro e
      exact Or.inl e.symm
    · rintro (e | e)
      · exact e.symm
      · exact absurd ((List.pairwise_cons.1 hr).1 k e) (hk x r hd)

def wkLen (w : World) (p : Nat) : Nat :=
  match w.cell? ⟨p, 0, none⟩ with
  | some (.slice _ n _) => n
  | _ => 0

theorem WkAt.len {w : World} {M p : Nat} {l : List ByteArray} (h : WkAt w M p l) : wkLen w p = l.length := by
  obtain ⟨_, ao, cap, hc, _⟩ := h
  simp [wkLen, hc]

theorem geq_eq (x k : ByteArray) : (!(Op.bytesLess x.toList k.toList)) = decide (¬ kLt x k) := by
  rw [decide_not, bytesLess_eq]

def ReachPost (k : ByteArray) (l : List ByteArray) (M p : Nat) (w : World) (e : Ending) (w' : World) : Prop :=
  e = .returned (.bool (hitB k l)) ∧ WkAt w' M p (dropW k l) ∧ Fr (fun i => i = p) w w'

set_option maxRecDepth 100000 in
set_option maxHeartbeats 1000000 in
theorem kreach_any (M p : Nat) (l : List ByteArray) (k : ByteArray) (w : World) (h : WkAt w M p l) :
    Calls Try.prog 40 #[.pointer (some ⟨p, 0, none⟩), .string k] w (ReachPost k l M p w) := by
  have HH := hideIt h
  clear h
  go_enter Try.func40, Try.ntmps40
  go_wp2_with fail
  go_loopw [5] (fun _ wr => ∃ l2, Hid (WkAt wr M p l2) ∧ Hid (dropW k l2 = dropW k l) ∧ Hid (Fr (fun i => i = p) w wr)) (fun _ wr => wkLen wr p)
  case atStart => exact ⟨l, HH, hideIt rfl, hideIt (Fr.refl _ _)⟩
  case round =>
    obtain ⟨l2, HW, HD, HF⟩ := hrel
    obtain ⟨_, ao, cap, hc, _, hks, _, _⟩ := HW.out
    cases l2 with
    | nil =>
      have hHd := hideIt (show Calls Try.prog 39 #[.slice ao 0 cap] wr (fun e w' => e = .returned (.tuple #[.string ⟨#[]⟩, .bool false]) ∧ w' = wr) from khead_any ao cap [] wr hks)
      simp only [List.length_nil] at hc
      have HX := hideIt (show hitB k l = false by unfold hitB; rw [← HD.out]; rfl)
      have HY := hideIt (show WkAt wr M p (dropW k l) by rw [← HD.out]; exact HW.out)
      clear hks
      go_wp2_with fail
      refine Calls.mono hHd.out ?_
      rintro e w1 ⟨rfl, rfl⟩
      go_wp2_with fail
      go_ret
      exact ⟨by rw [HX.out]; rfl, HY.out, HF.out⟩
    | cons x r =>
      have hHd := hideIt (show Calls Try.prog 39 #[.slice ao (x :: r).length cap] wr (fun e w' => e = .returned (.tuple #[.string x, .bool true]) ∧ w' = wr) from khead_any ao cap (x :: r) wr hks)
      have HLN0 := hideIt (show wkLen wr p = r.length + 1 from HW.out.len)
      have HST := hideIt (kstep_any M p x r wr HW.out)
      clear hks
      generalize (x :: r).length = n at *
      by_cases hx : kLt x k
      · have hq : Op.bytesLess x.toList k.toList = true := by rw [bytesLess_eq]; exact decide_eq_true hx
        have HD2 := hideIt (show dropW k r = dropW k l by rw [← HD.out]; conv => rhs; unfold dropW; rw [if_pos hx])
        clear hx
        go_wp2_with fail
        refine Calls.mono hHd.out ?_
        rintro e w1 ⟨rfl, rfl⟩
        clear hHd
        go_wp2_with fail
        refine Calls.mono HST.out ?_
        rintro e w2 ⟨rfl, hw2, hf2⟩
        have HW2 := hideIt hw2
        have HF2 := hideIt (HF.out.trans hf2 (fun _ _ e => e))
        clear hw2 hf2
        go_wp2_with fail
        go_roundw
        case measure => rw [HLN0.out, HW2.out.len]; exact Nat.lt_succ_self _
        case rel => exact ⟨r, HW2, HD2, HF2⟩
      · have hq : Op.bytesLess x.toList k.toList = false := by rw [bytesLess_eq]; exact decide_eq_false hx
        have HD2 := hideIt (show dropW k l = x :: r by rw [← HD.out]; unfold dropW; rw [if_neg hx])
        have hq2 := key_eq x k
        have HX := hideIt (show hitB k l = decide (x = k) by unfold hitB; rw [HD2.out])
        have HY := hideIt (show WkAt wr M p (dropW k l) by rw [HD2.out]; exact HW.out)
        clear hx
        generalize decide (x = k) = v at *
        go_wp2_with fail
        refine Calls.mono hHd.out ?_
        rintro e w1 ⟨rfl, rfl⟩
        clear hHd
        go_wp2_with fail
        go_ret
        exact ⟨by rw [HX.out]; rfl, HY.out, HF.out⟩

end Go.Proofs.Ytnjogpojikjflaa

/- Keys: sift, Minus, Both. -/
namespace Go.Proofs.Ytnjogpojikjflaa
open Go.RowKit Go.IntWalk
set_option linter.unusedSimpArgs false
set_option linter.unusedVariables false
set_option maxRecDepth 100000

/-- Those of a list that are in another one, or are not. -/
def siftL (a b : List ByteArray) (v : Bool) : List ByteArray := (setL a).filter fun k => inL b k == v

theorem boxes_one {w : World} (a1 a2 : Option Addr) (c1 c2 : Nat) (A B : List ByteArray) (h1 : KsRow w a1 c1 A) (h2 : KsRow w a2 c2 B) (t : TypeId) : WkAt ((w.alloc (.cells #[.slice a1 A.length c1] t)).alloc (.cells #[.slice a2 B.length c2] t)) w.heap.size w.heap.size A := by
  have hF : Fr (fun _ => False) w ((w.alloc (.cells #[.slice a1 A.length c1] t)).alloc (.cells #[.slice a2 B.length c2] t)) := ((Fr.refl _ _).alloc _).alloc _
  refine ⟨Nat.le_refl _, a1, c1, cellA (cellNew _ _ _ _ _ rfl) _, ?_, Or.inr (h1.at.fr0 hF), h1.cap, fun k hk => h1.lt hk⟩
  rw [Fr.frozen0 ((Fr.refl (fun _ => False) _).alloc _) (by simp)]
  exact frozenNew _ _ _ _ _ rfl

theorem boxes_two {w : World} (a1 a2 : Option Addr) (c1 c2 : Nat) (A B : List ByteArray) (h1 : KsRow w a1 c1 A) (h2 : KsRow w a2 c2 B) (t : TypeId) : WkAt ((w.alloc (.cells #[.slice a1 A.length c1] t)).alloc (.cells #[.slice a2 B.length c2] t)) w.heap.size (w.heap.size + 1) B := by
  have hF : Fr (fun _ => False) w ((w.alloc (.cells #[.slice a1 A.length c1] t)).alloc (.cells #[.slice a2 B.length c2] t)) := ((Fr.refl _ _).alloc _).alloc _
  refine ⟨by omega, a2, c2, cellNew _ _ _ _ _ (by simp), frozenNew _ _ _ _ _ (by simp), Or.inr (h2.at.fr0 hF), h2.cap, fun k hk => h2.lt hk⟩

/-- The loop of sift, in memory: what is told so far, what is left of either list. -/
structure SiftSt (M : Nat) (w wr : World) (tl rest l2 : List ByteArray) (ao : Option Addr) (cap : Nat) : Prop where
  row : KsRow wr ao cap tl
  new : ∀ k, blk ao k → M + 2 ≤ k
  mine : WkAt wr M M rest
  other : WkAt wr M (M + 1) l2
  fr : Fr (fun _ => False) w wr
  size : M + 2 ≤ wr.heap.size
  low : w.heap.size ≤ M

theorem SiftSt.reached {M : Nat} {w wr w' : World} {tl rest l2 l2' : List ByteArray} {ao : Option Addr} {cap : Nat} (h : SiftSt M w wr tl rest l2 ao cap) (hw : WkAt w' M (M + 1) l2') (hF : Fr (fun i => i = M + 1) wr w') : SiftSt M w w' tl rest l2' ao cap :=
  ⟨h.row.fr hF (fun k hk e => by have := h.new k hk; omega), h.new, h.mine.fr hF (by omega) (fun k hk e => by omega), hw, h.fr.trans hF (fun i hi e => by have := h.low; omega), Nat.le_trans h.size hF.size, h.low⟩

theorem SiftSt.stepped {M : Nat} {w wr w' : World} {tl rest rest' l2 : List ByteArray} {ao : Option Addr} {cap : Nat} (h : SiftSt M w wr tl rest l2 ao cap) (hw : WkAt w' M M rest') (hF : Fr (fun i => i = M) wr w') : SiftSt M w w' tl rest' l2 ao cap :=
  ⟨h.row.fr hF (fun k hk e => by have := h.new k hk; omega), h.new, hw, h.other.fr hF (by omega) (fun k hk e => by omega), h.fr.trans hF (fun i hi e => by have := h.low; omega), Nat.le_trans h.size hF.size, h.low⟩

theorem SiftSt.grown {M : Nat} {w wr w' : World} {tl tl' rest l2 : List ByteArray} {ao ao' : Option Addr} {cap cap' : Nat} {o : Obj} (h : SiftSt M w wr tl rest l2 ao cap) (hr : KsRow w' ao' cap' tl') (hF : Fr (blk ao) (wr.alloc o) w') (ha : ao' = ao ∨ ao' = some ⟨(wr.alloc o).heap.size, 0, none⟩) : SiftSt M w w' tl' rest l2 ao' cap' := by
  have hF0 : Fr (fun _ => False) wr (wr.alloc o) := (Fr.refl _ _).alloc _
  have hF1 : Fr (blk ao) wr w' := (hF0.mono (fun _ e => e.elim)).trans hF (fun _ _ e => e)
  have hb : ∀ k, blk ao k → M + 2 ≤ k := h.new
  refine ⟨hr, fun k hk => ?_, h.mine.fr hF1 (fun e => by have := hb _ e; omega) (fun k hk e => by have := hb _ e; omega), h.other.fr hF1 (fun e => by have := hb _ e; omega) (fun k hk e => by have := hb _ e; omega), h.fr.trans hF1 (fun i hi e => by have := hb _ e; have := h.low; omega), Nat.le_trans h.size hF1.size, h.low⟩
  rcases ha with e | e
  · subst e; exact hb k hk
  · subst e
    obtain ⟨a, e1, e2⟩ := hk
    obtain rfl := Option.some.inj e1
    have := h.size
    simp at e2
    omega

/-- .. and on paper. -/
def SiftP (A b : List ByteArray) (v : Bool) (rest l2 tl : List ByteArray) : Prop :=
  ∃ pre, A = pre ++ rest ∧ tl = pre.filter (fun k => inL b k == v) ∧ Rises l2 ∧ ∀ k ∈ rest, inL l2 k = inL b k

theorem SiftP.next {A b : List ByteArray} {v : Bool} {x : ByteArray} {r l2 tl tl' : List ByteArray} (h : SiftP A b v (x :: r) l2 tl) (hA : Rises A) (ht : tl' = tl ++ (if inL b x == v then [x] else [])) : SiftP A b v r (dropW x l2) tl' := by
  obtain ⟨pre, h1, h2, h3, h4⟩ := h
  have hr : Rises (x :: r) := by rw [h1] at hA; exact (List.pairwise_append.1 hA).2.1
  refine ⟨pre ++ [x], by rw [h1]; simp, ?_, dropW_rises h3, fun k hk => ?_⟩
  · rw [List.filter_append, ht, ← h2]
    congr 1
    rw [List.filter_cons]
    rfl
  · rw [← h4 k (List.mem_cons_of_mem _ hk)]
    exact inL_eq (dropW_mem x k (fun hkx => kLt_irrefl _ (kLt_trans hkx ((List.pairwise_cons.1 hr).1 k hk))) l2)

theorem SiftP.hit {A b : List ByteArray} {v : Bool} {x : ByteArray} {r l2 tl : List ByteArray} (h : SiftP A b v (x :: r) l2 tl) : hitB x l2 = inL b x := by
  obtain ⟨pre, h1, h2, h3, h4⟩ := h
  rw [hit_eq h3]
  exact h4 x (List.mem_cons_self ..)

theorem SiftP.short {A b : List ByteArray} {v : Bool} {rest l2 tl : List ByteArray} (h : SiftP A b v rest l2 tl) : tl.length ≤ A.length := by
  obtain ⟨pre, h1, h2, _⟩ := h
  rw [h2, h1, List.length_append]
  have := List.length_filter_le (fun k => inL b k == v) pre
  omega

set_option maxRecDepth 100000 in
set_option maxHeartbeats 2000000 in
theorem ksift_any (ao bo : Option Addr) (ca cb : Nat) (a b : List ByteArray) (v : Bool) (w : World) (ha : a = [] ∨ KsAt w ao a) (hb : b = [] ∨ KsAt w bo b) (hal : a.length ≤ 1000000) (hbl : b.length ≤ 1000000) (hak : ∀ x ∈ a, x.size ≤ maxLen) (hbk : ∀ x ∈ b, x.size ≤ maxLen) :
    Calls Try.prog 29 #[.slice ao a.length ca, .slice bo b.length cb, .bool v] w (RisePost (siftL a b v) w) := by
  have hS1 := hideIt (ksort_any ao ca a w ha (by omega) hak)
  have HB := hideIt hb
  have HBK := hideIt hbk
  have hlA := setL_len a
  have hlB := setL_len b
  have HRA := hideIt (setL_rises a)
  have HRB := hideIt (setL_rises b)
  have HMB := hideIt (fun k => inL_eq (mem_setL b k))
  clear ha hb hak hbk
  unfold siftL
  generalize setL a = A at *
  go_enter Try.func29, Try.ntmps29
  go_wp2_with fail
  refine Calls.mono hS1.out ?_
  rintro e w1 ⟨ao1, cap1, rfl, hrow1, hF1, hn1⟩
  have HF1 := hideIt hF1
  have HROW1 := hideIt hrow1
  have hS2 := hideIt (ksort_any bo cb b w1 (kats_fr0 HB.out hF1) (by omega) HBK.out)
  clear hF1 hrow1 hn1 hS1
  generalize setL b = B at *
  go_wp2_with fail
  refine Calls.mono hS2.out ?_
  rintro e w2 ⟨ao2, cap2, rfl, hrow2, hF2, hn2⟩
  have HF2 := hideIt (HF1.out.trans hF2 (fun _ _ e => e))
  have HROW1' := hideIt (HROW1.out.fr0 hF2)
  have HROW2 := hideIt hrow2
  clear hF2 hrow2 hn2 hS2 HROW1 HF1
  go_wp2_with fail
  have HW1 := hideIt (boxes_one ao1 ao2 cap1 cap2 A B HROW1'.out HROW2.out 56)
  have HW2 := hideIt (boxes_two ao1 ao2 cap1 cap2 A B HROW1'.out HROW2.out 56)
  have HF3 := hideIt ((HF2.out.alloc (.cells #[.slice ao1 A.length cap1] 56)).alloc (.cells #[.slice ao2 B.length cap2] 56))
  have HSZ := hideIt (show w2.heap.size + 2 ≤ ((w2.alloc (.cells #[.slice ao1 A.length cap1] 56)).alloc (.cells #[.slice ao2 B.length cap2] 56)).heap.size by simp)
  have HWM := hideIt HF2.out.size
  have hHd := hideIt (khead_any ao1 cap1 A _ (Or.inr (HROW1'.out.at.fr0 (((Fr.refl (fun _ => False) w2).alloc (.cells #[.slice ao1 A.length cap1] 56)).alloc (.cells #[.slice ao2 B.length cap2] 56)))))
  clear HROW1' HROW2 HF2
  generalize (w2.alloc (.cells #[.slice ao1 A.length cap1] 56)).alloc (.cells #[.slice ao2 B.length cap2] 56) = w3 at *
  generalize w2.heap.size = M at *
  refine Calls.mono hHd.out ?_
  rintro e w3' ⟨rfl, rfl⟩
  clear hHd
  go_wp2_with fail
  go_loopw [7, 10, 11] (fun t7 t10 t11 wr => ∃ tl rest l2 ao3 cap3, t7 = .slice ao3 tl.length cap3 ∧ t10 = .string (headK rest) ∧ t11 = .bool (!rest.isEmpty) ∧ Hid (SiftSt M w wr tl rest l2 ao3 cap3) ∧ Hid (SiftP A b v rest l2 tl)) (fun _ _ _ wr => wkLen wr M)
  case atStart => exact ⟨[], A, B, none, 0, rfl, rfl, rfl, hideIt ⟨KsRow.nil _, fun k hk => (by obtain ⟨a, e, _⟩ := hk; cases e), HW1.out, HW2.out, HF3.out, HSZ.out, HWM.out⟩, hideIt ⟨[], rfl, rfl, HRB.out, fun k _ => HMB.out k⟩⟩
  case round =>
    obtain ⟨tl, rest, l2, ao3, cap3, rfl, rfl, rfl, HI, HP⟩ := hrel
    cases rest with
    | nil =>
      have HFIN := hideIt (show RisePost (A.filter fun k => inL b k == v) w (.returned (.slice ao3 tl.length cap3)) wr from by
        obtain ⟨pre, h1, h2, _⟩ := HP.out
        rw [List.append_nil] at h1
        subst h1
        rw [← h2]
        exact ⟨ao3, cap3, rfl, HI.out.row, HI.out.fr, fun k hk => by have := HI.out.new k hk; have h2 := HI.out.low; omega⟩)
      simp only [headK_nil, List.isEmpty_nil, Bool.not_true]
      go_wp2_with fail
      go_ret
      exact HFIN.out
    | cons x r =>
      have HLN := hideIt (show wkLen wr M = r.length + 1 from HI.out.mine.len)
      have hRe := hideIt (by have := kreach_any M (M + 1) l2 x wr HI.out.other; unfold ReachPost at this; rw [HP.out.hit] at this; exact this)
      simp only [headK_cons, List.isEmpty_cons, Bool.not_false]
      have HLT := hideIt HP.out.short
      have HNX := hideIt (fun tl' => HP.out.next (tl' := tl') HRA.out)
      clear HP
      generalize inL b x = q at *
      by_cases hq : q = v
      · subst hq
        have hqq : (q == q) = true := by simp
        go_wp2_with fail
        refine Calls.mono hRe.out ?_
        rintro e w4 ⟨rfl, hw4, hf4⟩
        have HI4 := hideIt (HI.out.reached hw4 hf4)
        clear hRe hw4 hf4
        obtain ⟨ao5, cap5, w5, hrun, hrow5, hf5, hao5⟩ := ks_append (w4.alloc (.cells #[.string x] 9)) ao3 cap3 tl [x] (HI4.out.row.fr0 ((Fr.refl _ _).alloc _)) (some ⟨w4.heap.size, 0, none⟩) 1 (Or.inr (ks_new w4 [x] 9)) (by have := HLT.out; simp; omega)
        rw [← List.length_append] at hrun
        have HR := hideIt hrun
        have HI5 := hideIt (HI4.out.grown hrow5 hf5 hao5)
        have HP5 := hideIt (HNX.out (tl ++ [x]) (by simp))
        clear hrun hrow5 hf5 hao5 HNX HI4 HI
        generalize tl ++ [x] = tl' at *
        have HST := hideIt (kstep_any M M x r w5 HI5.out.mine)
        go_wp2_with (first | (at_builtin; refine wpList_append_run _ rfl (.tmp 35) (.tmp 37) 22 22 rfl _ _ _ _ rfl rfl HR.out ?_))
        refine Calls.mono HST.out ?_
        rintro e w6 ⟨rfl, hw6, hf6⟩
        have HI6 := hideIt (HI5.out.stepped hw6 hf6)
        obtain ⟨_, ao7, cap7, hc7, _, hk7, _, _⟩ := hw6
        have hHd := hideIt (khead_any ao7 cap7 r w6 hk7)
        clear hf6 HI5 HST hk7 HR
        go_wp2_with fail
        refine Calls.mono hHd.out ?_
        rintro e w7 ⟨rfl, rfl⟩
        clear hHd
        go_wp2_with fail
        go_roundw
        case measure => rw [HLN.out, HI6.out.mine.len]; exact Nat.lt_succ_self _
        case rel => exact ⟨tl', r, _, ao5, cap5, rfl, rfl, rfl, HI6, HP5⟩
      · have hqq : (q == v) = false := beq_eq_false_iff_ne.2 hq
        clear hq
        go_wp2_with fail
        refine Calls.mono hRe.out ?_
        rintro e w4 ⟨rfl, hw4, hf4⟩
        have HI4 := hideIt (HI.out.reached hw4 hf4)
        have HP5 := hideIt (HNX.out tl (by rw [hqq]; simp))
        clear hRe hw4 hf4 HNX HI
        have HST := hideIt (kstep_any M M x r w4 HI4.out.mine)
        go_wp2_with fail
        refine Calls.mono HST.out ?_
        rintro e w6 ⟨rfl, hw6, hf6⟩
        have HI6 := hideIt (HI4.out.stepped hw6 hf6)
        obtain ⟨_, ao7, cap7, hc7, _, hk7, _, _⟩ := hw6
        have hHd := hideIt (khead_any ao7 cap7 r w6 hk7)
        clear hf6 HI4 HST hk7
        go_wp2_with fail
        refine Calls.mono hHd.out ?_
        rintro e w7 ⟨rfl, rfl⟩
        clear hHd
        go_wp2_with fail
        go_roundw
        case measure => rw [HLN.out, HI6.out.mine.len]; exact Nat.lt_succ_self _
        case rel => exact ⟨tl, r, _, ao3, cap3, rfl, rfl, rfl, HI6, HP5⟩

theorem kminus_any (ao bo : Option Addr) (ca cb : Nat) (a b : List ByteArray) (w : World) (ha : a = [] ∨ KsAt w ao a) (hb : b = [] ∨ KsAt w bo b) (hal : a.length ≤ 1000000) (hbl : b.length ≤ 1000000) (hak : ∀ x ∈ a, x.size ≤ maxLen) (hbk : ∀ x ∈ b, x.size ≤ maxLen) :
    Calls Try.prog 9 #[.slice ao a.length ca, .slice bo b.length cb] w (RisePost (siftL a b false) w) := by
  have hS := hideIt (ksift_any ao bo ca cb a b false w ha hb hal hbl hak hbk)
  clear ha hb hak hbk
  generalize siftL a b false = s at *
  go_enter Try.func9, Try.ntmps9
  go_wp2_with fail
  refine Calls.mono hS.out ?_
  rintro e w1 ⟨ao1, cap1, rfl, hrow1, hF1, hn1⟩
  have HFIN := hideIt (show RisePost s w (.returned (.slice ao1 s.length cap1)) w1 from ⟨ao1, cap1, rfl, hrow1, hF1, hn1⟩)
  clear hS hrow1 hF1 hn1
  go_wp2_with fail
  go_ret
  exact HFIN.out

theorem kboth_any (ao bo : Option Addr) (ca cb : Nat) (a b : List ByteArray) (w : World) (ha : a = [] ∨ KsAt w ao a) (hb : b = [] ∨ KsAt w bo b) (hal : a.length ≤ 1000000) (hbl : b.length ≤ 1000000) (hak : ∀ x ∈ a, x.size ≤ maxLen) (hbk : ∀ x ∈ b, x.size ≤ maxLen) :
    Calls Try.prog 10 #[.slice ao a.length ca, .slice bo b.length cb] w (RisePost (siftL a b true) w) := by
  have hS := hideIt (ksift_any ao bo ca cb a b true w ha hb hal hbl hak hbk)
  clear ha hb hak hbk
  generalize siftL a b true = s at *
  go_enter Try.func10, Try.ntmps10
  go_wp2_with fail
  refine Calls.mono hS.out ?_
  rintro e w1 ⟨ao1, cap1, rfl, hrow1, hF1, hn1⟩
  have HFIN := hideIt (show RisePost s w (.returned (.slice ao1 s.length cap1)) w1 from ⟨ao1, cap1, rfl, hrow1, hF1, hn1⟩)
  clear hS hrow1 hF1 hn1
  go_wp2_with fail
  go_ret
  exact HFIN.out

theorem siftL_rises (a b : List ByteArray) (v : Bool) : Rises (siftL a b v) := List.Pairwise.filter _ (setL_rises a)
theorem mem_siftL (a b : List ByteArray) (v : Bool) (k : ByteArray) : k ∈ siftL a b v ↔ k ∈ a ∧ inL b k = v := by
  unfold siftL
  rw [List.mem_filter, mem_setL, beq_iff_eq]
theorem siftL_len (a b : List ByteArray) (v : Bool) : (siftL a b v).length ≤ a.length := Nat.le_trans (List.length_filter_le _ _) (setL_len a)

end Go.Proofs.Ytnjogpojikjflaa

/- Keys: what the document's examples say (awake). -/
namespace Go.Proofs.Ytnjogpojikjflaa
open Go.RowKit Go.IntWalk
set_option linter.unusedSimpArgs false
set_option linter.unusedVariables false
set_option maxRecDepth 100000

abbrev kA : ByteArray := ⟨#[97]⟩
abbrev kB : ByteArray := ⟨#[98]⟩

theorem ks_two (w : World) (x y : ByteArray) (t : TypeId) : KsAt (w.alloc (.cells #[.string x, .string y] t)) (some ⟨w.heap.size, 0, none⟩) [x, y] := ks_new w [x, y] t
theorem ks_three (w : World) (x y z : ByteArray) (t : TypeId) : KsAt (w.alloc (.cells #[.string x, .string y, .string z] t)) (some ⟨w.heap.size, 0, none⟩) [x, y, z] := ks_new w [x, y, z] t

set_option maxRecDepth 100000 in
set_option maxHeartbeats 2000000 in
theorem kawake_any (w : World) : Calls Try.prog 21 #[] w fun e w' => e = .returned (.bool true) ∧ Fr (fun _ => False) w w' := by
  have s1 : setL [kB, kA, kB] = [kA, kB] := by kernel_rfl
  have hS := hideIt (show Calls Try.prog 7 #[.slice (some ⟨w.heap.size, 0, none⟩) 3 3] (w.alloc (.cells #[.string kB, .string kA, .string kB] 9)) (RisePost [kA, kB] (w.alloc (.cells #[.string kB, .string kA, .string kB] 9))) from by
    rw [← s1]
    exact ksort_any (some ⟨w.heap.size, 0, none⟩) 3 [kB, kA, kB] _ (Or.inr (ks_three w kB kA kB _)) (by decide) (fun x hx => by simp only [List.mem_cons, List.not_mem_nil, or_false] at hx; rcases hx with rfl | rfl | rfl <;> decide))
  have HF0 := hideIt ((Fr.refl (fun _ => False) w).alloc (.cells #[.string kB, .string kA, .string kB] 9))
  have hN := hideIt (fun (u : World) (ao : Option Addr) (cap : Nat) (h : KsAt u ao [kA, kB]) => show Calls Try.prog 15 #[.slice ao 2 cap, .slice (some ⟨u.heap.size, 0, none⟩) 2 2] (u.alloc (.cells #[.string kA, .string kB] 9)) (fun e w' => e = .returned (.bool true) ∧ Fr (fun _ => False) (u.alloc (.cells #[.string kA, .string kB] 9)) w') from
    ksame_any ao (some ⟨u.heap.size, 0, none⟩) cap 2 [kA, kB] [kA, kB] _ (Or.inr (h.fr0 ((Fr.refl _ _).alloc _))) (Or.inr (ks_two u kA kB _)) (by decide) (by decide))
  have hC1 := hideIt (fun (u : World) => show Calls Try.prog 17 #[.slice (some ⟨u.heap.size, 0, none⟩) 2 2] (u.alloc (.cells #[.string kA, .string kB] 9)) (fun e w' => e = .returned (.bool true) ∧ Fr (fun _ => False) (u.alloc (.cells #[.string kA, .string kB] 9)) w') from by
    have := kcheck_any (some ⟨u.heap.size, 0, none⟩) 2 [kA, kB] _ (Or.inr (ks_two u kA kB 9)) (by decide)
    rw [show risesB [kA, kB] = true by kernel_rfl] at this
    exact this)
  have hC2 := hideIt (fun (u : World) => show Calls Try.prog 17 #[.slice (some ⟨u.heap.size, 0, none⟩) 2 2] (u.alloc (.cells #[.string kA, .string kA] 9)) (fun e w' => e = .returned (.bool false) ∧ Fr (fun _ => False) (u.alloc (.cells #[.string kA, .string kA] 9)) w') from by
    have := kcheck_any (some ⟨u.heap.size, 0, none⟩) 2 [kA, kA] _ (Or.inr (ks_two u kA kA 9)) (by decide)
    rw [show risesB [kA, kA] = false by kernel_rfl] at this
    exact this)
  have hH := hideIt (fun (u : World) => show Calls Try.prog 19 #[.slice (some ⟨u.heap.size, 0, none⟩) 2 2, .string kB] (u.alloc (.cells #[.string kA, .string kB] 9)) (fun e w' => e = .returned (.bool true) ∧ w' = u.alloc (.cells #[.string kA, .string kB] 9)) from by
    have := khas_any (some ⟨u.heap.size, 0, none⟩) 2 [kA, kB] kB _ (Or.inr (ks_two u kA kB 9)) (by decide)
    rw [show inL [kA, kB] kB = true by kernel_rfl] at this
    exact this)
  clear s1
  go_enter Try.func21, Try.ntmps21
  go_wp2_with fail
  refine Calls.mono hS.out ?_
  rintro e w1 ⟨ao1, cap1, rfl, hrow1, hF1, _⟩
  have HF1 := hideIt (HF0.out.trans hF1 (fun _ _ e => e))
  have HN := hideIt (hN.out w1 ao1 cap1 hrow1.at)
  clear hrow1 hF1 hN hS HF0
  go_wp2_with fail
  refine Calls.mono HN.out ?_
  rintro e w2 ⟨rfl, hF2⟩
  have HF2 := hideIt ((HF1.out.alloc _).trans hF2 (fun _ _ e => e))
  clear hF2 HN HF1
  go_wp2_with fail
  refine Calls.mono (hC1.out _) ?_
  rintro e w3 ⟨rfl, hF3⟩
  have HF3 := hideIt ((HF2.out.alloc _).trans hF3 (fun _ _ e => e))
  clear hF3 HF2 hC1
  go_wp2_with fail
  refine Calls.mono (hC2.out _) ?_
  rintro e w4 ⟨rfl, hF4⟩
  have HF4 := hideIt ((HF3.out.alloc _).trans hF4 (fun _ _ e => e))
  clear hF4 HF3 hC2
  go_wp2_with fail
  refine Calls.mono (hH.out _) ?_
  rintro e w5 ⟨rfl, rfl⟩
  clear hH
  go_wp2_with fail
  go_ret
  exact ⟨rfl, HF4.out.alloc _⟩

end Go.Proofs.Ytnjogpojikjflaa

/- KeysParts: what it leans on, and the walk. -/
namespace Go.Proofs.Ytnjogpojikjflaa
open Go.RowKit Go.IntWalk
set_option linter.unusedSimpArgs false
set_option linter.unusedVariables false
set_option maxRecDepth 100000

theorem inL_setL (l : List ByteArray) (k : ByteArray) : inL (setL l) k = inL l k := inL_eq (mem_setL l k)
theorem inL_append (a b : List ByteArray) (k : ByteArray) : inL (a ++ b) k = (inL a k || inL b k) := by
  rw [Bool.eq_iff_iff, Bool.or_eq_true, inL_iff, inL_iff, inL_iff, List.mem_append]
theorem inL_sift (a b : List ByteArray) (v : Bool) (k : ByteArray) : inL (siftL a b v) k = (inL a k && (inL b k == v)) := by
  rw [Bool.eq_iff_iff, Bool.and_eq_true, inL_iff, inL_iff, mem_siftL, beq_iff_eq]

theorem parts_mem (a b : List ByteArray) (k : ByteArray) : k ∈ setL (a ++ b) ↔ k ∈ siftL a b false ∨ k ∈ siftL b a false ∨ k ∈ siftL a b true := by
  rw [mem_setL, List.mem_append, mem_siftL, mem_siftL, mem_siftL, ← inL_iff a k, ← inL_iff b k]
  generalize inL a k = p
  generalize inL b k = q
  revert p q
  decide

theorem parts_len (a b : List ByteArray) : (setL (a ++ b)).length = (siftL a b false).length + (siftL b a false).length + (siftL a b true).length := by
  have hp : (setL (a ++ b)).Perm (siftL a b false ++ siftL b a false ++ siftL a b true) := by
    refine (List.perm_ext_iff_of_nodup (setL_rises _).nodup ?_).2 fun k => ?_
    · refine List.nodup_append.2 ⟨List.nodup_append.2 ⟨(siftL_rises a b false).nodup, (siftL_rises b a false).nodup, ?_⟩, (siftL_rises a b true).nodup, ?_⟩
      · rintro x hx y hy rfl
        have h1 := (mem_siftL _ _ _ _).1 hx
        have h2 := (mem_siftL _ _ _ _).1 hy
        rw [(inL_iff b x).2 h2.1] at h1
        exact absurd h1.2 (by decide)
      · rintro x hx y hy rfl
        have h2 := (mem_siftL _ _ _ _).1 hy
        rcases List.mem_append.1 hx with h | h
        · have h1 := (mem_siftL _ _ _ _).1 h
          rw [h2.2] at h1
          exact absurd h1.2 (by decide)
        · have h1 := (mem_siftL _ _ _ _).1 h
          rw [(inL_iff a x).2 h2.1] at h1
          exact absurd h1.2 (by decide)
    · rw [parts_mem, List.mem_append, List.mem_append, or_assoc]
  rw [hp.length_eq, List.length_append, List.length_append]

theorem parts_again (a b : List ByteArray) : setL (setL (siftL a b false ++ siftL b a false) ++ siftL a b true) = setL (a ++ b) :=
  (setL_of (setL_rises _) (fun k => by
    rw [mem_setL, List.mem_append, mem_setL, List.mem_append, or_assoc, ← parts_mem, mem_setL])).trans rfl

theorem both_swap (a b : List ByteArray) : siftL b a true = siftL a b true :=
  (siftL_rises b a true).unique (siftL_rises a b true) (fun k => by rw [mem_siftL, mem_siftL, inL_iff, inL_iff]; exact And.comm)

theorem union_swap (a b : List ByteArray) : setL (b ++ a) = setL (a ++ b) := setL_eq (fun k => by rw [List.mem_append, List.mem_append]; exact Or.comm)

/-- Contracts, of lists that lie in a world, in every later one. -/
theorem check_later {w0 : World} {ao : Option Addr} {l : List ByteArray} (h : KsAt w0 ao l) (hr : Rises l) (hl : l.length ≤ 9223372036854775807) (cap : Nat) (u : World) (hF : Fr (fun _ => False) w0 u) :
    Calls Try.prog 17 #[.slice ao l.length cap] u fun e w' => e = .returned (.bool true) ∧ Fr (fun _ => False) u w' := by
  have := kcheck_any ao cap l u (Or.inr (h.fr0 hF)) hl
  rw [(risesB_iff l).2 hr] at this
  exact this

theorem has_later {w0 : World} {ao : Option Addr} {l : List ByteArray} (h : l = [] ∨ KsAt w0 ao l) (hl : l.length ≤ 9223372036854775807) (k : ByteArray) (v : Bool) (hv : inL l k = v) (cap : Nat) (u : World) (hF : Fr (fun _ => False) w0 u) :
    Calls Try.prog 19 #[.slice ao l.length cap, .string k] u fun e w' => e = .returned (.bool v) ∧ w' = u := by
  have := khas_any ao cap l k u (kats_fr0 h hF) hl
  rw [hv] at this
  exact this

theorem same_later {w0 w1 : World} {ao bo : Option Addr} {l : List ByteArray} (h : KsAt w0 ao l) (h' : KsAt w1 bo l) (hl : l.length ≤ 1099511627776) (ca cb : Nat) (u : World) (hF : Fr (fun _ => False) w0 u) (hF' : Fr (fun _ => False) w1 u) :
    Calls Try.prog 15 #[.slice ao l.length ca, .slice bo l.length cb] u fun e w' => e = .returned (.bool true) ∧ Fr (fun _ => False) u w' := by
  have := ksame_any ao bo ca cb l l u (Or.inr (h.fr0 hF)) (Or.inr (h'.fr0 hF')) hl hl
  rw [show decide (l = l) = true by simp] at this
  exact this

end Go.Proofs.Ytnjogpojikjflaa

/- Keys, the document's: Has, Check; and, given its Sort, Minus, Both. -/
namespace Go.Proofs.Ytnjogpojikjflaa
open Go.RowKit Go.IntWalk
set_option linter.unusedSimpArgs false
set_option linter.unusedVariables false
set_option maxRecDepth 100000

set_option maxRecDepth 100000 in
set_option maxHeartbeats 1000000 in
theorem vhas_any (ao : Option Addr) (cap : Nat) (l : List ByteArray) (k : ByteArray) (w : World) (h : l = [] ∨ KsAt w ao l) (hl : l.length ≤ 9223372036854775807) :
    Calls Try.prog 20 #[.slice ao l.length cap, .string k] w fun e w' => e = .returned (.bool (inL l k)) ∧ w' = w := by
  have HH := hideIt h
  clear h
  go_enter Try.func20, Try.ntmps20
  go_wp2_with fail
  go_loop [5] (fun i => ∃ j : Nat, i = .int .i64 j ∧ j ≤ l.length ∧ Hid (∀ x ∈ l.take j, x ≠ k)) (fun i => l.length - (intOf i).toNat)
  case atStart => exact ⟨0, rfl, Nat.zero_le _, hideIt (by simp)⟩
  case round =>
    obtain ⟨j, rfl, hj, HB⟩ := hrel
    by_cases hlt : j < l.length
    · obtain ⟨b, off, rfl, hbl, c0⟩ := KsAt.get HH.out j hlt
      have HT := hideIt (List.take_succ_eq_append_getElem hlt)
      have HM := hideIt (List.getElem_mem hlt)
      generalize l[j] = x at *
      by_cases hx : x = k
      · have hq : (x.toList == k.toList) = true := by rw [hx]; simp
        have HX := hideIt (show inL l k = true from (inL_iff l k).2 (hx ▸ HM.out))
        clear hx
        go_wp2_with fail
        go_ret
        exact ⟨by rw [HX.out]; rfl, rfl⟩
      · have hq : (x.toList == k.toList) = false := by rw [key_eq]; exact decide_eq_false hx
        have HX := hideIt hx
        clear hx
        go_wp2_with fail
        go_round
        case rel => exact ⟨j + 1, by go_num, by omega, hideIt (fun y hy => by rw [HT.out] at hy; rcases List.mem_append.1 hy with e | e; exact HB.out y e; rw [List.mem_singleton.1 e]; exact HX.out)⟩
        case measure => simp [intOf]; omega
    · obtain rfl : j = l.length := by omega
      have HX := hideIt (show inL l k = false from (inL_not l k).2 (fun hm => by have := HB.out; rw [List.take_length] at this; exact this k hm rfl))
      go_wp2_with fail
      go_ret
      exact ⟨by rw [HX.out]; rfl, rfl⟩

set_option maxRecDepth 100000 in
set_option maxHeartbeats 1000000 in
theorem vcheck_any (ao : Option Addr) (cap : Nat) (l : List ByteArray) (w : World) (h : l = [] ∨ KsAt w ao l) (hl : l.length ≤ 1000000) :
    Calls Try.prog 18 #[.slice ao l.length cap] w fun e w' => e = .returned (.bool (risesB l)) ∧ Fr (fun _ => False) w w' := by
  have HH := hideIt h
  clear h
  go_enter Try.func18, Try.ntmps18
  go_wp2_with fail
  go_loopw [3] (fun i wr => ∃ j : Nat, i = .int .i64 ((j + 1 : Nat) : Int) ∧ j ≤ l.length ∧ Hid (RisesTo l (j + 1)) ∧ Hid (Fr (fun _ => False) w wr)) (fun i _ => l.length + 1 - (intOf i).toNat)
  case atStart => exact ⟨0, rfl, Nat.zero_le _, hideIt (fun i _ h => by omega), hideIt (Fr.refl _ _)⟩
  case round =>
    obtain ⟨n, rfl, hj, HB, HF⟩ := hrel
    by_cases hlt : n + 1 < l.length
    · obtain ⟨b, off, rfl, hbl, c0⟩ := KsAt.get (kats_fr0 HH.out HF.out) (n + 1) hlt
      obtain ⟨b2, off2, e2, _, c1⟩ := KsAt.get (kats_fr0 HH.out HF.out) n (by omega)
      obtain ⟨rfl, rfl⟩ : b = b2 ∧ off = off2 := by simpa using e2
      have HG := hideIt (fun (hx : kLt (l[n]'(by omega)) l[n + 1]) i (h : i + 1 < l.length) (h2 : i + 1 < n + 1 + 1) => show kLt (l[i]'(by omega)) l[i + 1] from by
        by_cases he : i = n
        · subst he; exact hx
        · exact HB.out i h (by omega))
      have HN := hideIt (fun (hx : ¬ kLt (l[n]'(by omega)) l[n + 1]) => show risesB l = false from by
        cases hr : risesB l with
        | false => rfl
        | true => exact absurd ((risesB_get l).1 hr n hlt) hx)
      have h1 : IntKind.i64.wrap (((n + 1 : Nat) : Int) - 1) = (n : Int) := by rw [show (((n + 1 : Nat) : Int) - 1) = (n : Int) by omega]; exact i64_in _ (by omega)
      have h2 : (n : Int) < (l.length : Int) := by omega
      have h3 : ((n + 1 : Nat) : Int) < (l.length : Int) := by omega
      clear e2
      generalize l[n + 1] = x at *
      generalize l[n] = y at *
      by_cases hx : kLt y x
      · have hq : Op.bytesLess y.toList x.toList = true := by rw [bytesLess_eq]; exact decide_eq_true hx
        have HX := hideIt hx
        clear hx
        go_wp2_with fail
        go_quiet (fail)
        go_wp2_with fail
        go_roundw
        case measure => simp [intOf]; omega
        case rel => exact ⟨n + 1, by go_num, by omega, hideIt (HG.out HX.out), hideIt (HF.out.drewN _)⟩
      · have hq : Op.bytesLess y.toList x.toList = false := by rw [bytesLess_eq]; exact decide_eq_false hx
        have HX := hideIt (HN.out hx)
        clear hx
        go_wp2_with fail
        go_quiet (fail)
        go_wp2_with fail
        go_ret
        exact ⟨by rw [HX.out]; rfl, HF.out.drewN _⟩
    · have h3 : ¬ ((n + 1 : Nat) : Int) < (l.length : Int) := by omega
      have HX := hideIt (show risesB l = true from (risesB_get l).2 (fun i hi => HB.out i hi (by omega)))
      go_wp2_with fail
      go_ret
      exact ⟨by rw [HX.out]; rfl, HF.out⟩

end Go.Proofs.Ytnjogpojikjflaa

/- Keys, the document's, given its Sort: Union, Minus, Both. -/
namespace Go.Proofs.Ytnjogpojikjflaa
open Go.RowKit Go.IntWalk
set_option linter.unusedSimpArgs false
set_option linter.unusedVariables false
set_option maxRecDepth 100000

/-- The document's Sort tells the set of a list. -/
def VSortC : Prop := ∀ (ao : Option Addr) (cap : Nat) (l : List ByteArray) (w : World), (l = [] ∨ KsAt w ao l) → l.length ≤ 1000000 → Calls Try.prog 11 #[.slice ao l.length cap] w (RisePost (setL l) w)

/-- Told so far: in a row of the call's own. -/
structure Told (w wr : World) (tl : List ByteArray) (ao : Option Addr) (cap : Nat) : Prop where
  row : KsRow wr ao cap tl
  new : ∀ k, blk ao k → w.heap.size ≤ k
  fr : Fr (fun _ => False) w wr

theorem Told.start (w : World) : Told w w [] none 0 := ⟨KsRow.nil _, fun k ⟨a, e, _⟩ => (by cases e), Fr.refl _ _⟩

theorem Told.later {w wr w' : World} {tl : List ByteArray} {ao : Option Addr} {cap : Nat} (h : Told w wr tl ao cap) (hF : Fr (fun _ => False) wr w') : Told w w' tl ao cap :=
  ⟨h.row.fr0 hF, h.new, h.fr.trans hF (fun _ _ e => e)⟩

theorem Told.grow {w wr : World} {tl : List ByteArray} {ao : Option Addr} {cap : Nat} (h : Told w wr tl ao cap) (x : ByteArray) (hl : tl.length ≤ 1000000) :
    ∃ ao' cap' w', (Builtin.append_ #[22, 22] 22 #[.slice ao tl.length cap, .slice (some ⟨wr.heap.size, 0, none⟩) 1 1]).run Try.prog (wr.alloc (.cells #[.string x] 9)) = .ok (.slice ao' (tl ++ [x]).length cap') w' ∧ Told w w' (tl ++ [x]) ao' cap' := by
  obtain ⟨ao', cap', w', hrun, hrow, hF, hao⟩ := ks_append (wr.alloc (.cells #[.string x] 9)) ao cap tl [x] (h.row.fr0 ((Fr.refl _ _).alloc _)) (some ⟨wr.heap.size, 0, none⟩) 1 (Or.inr (ks_new wr [x] 9)) (by simp; omega)
  rw [← List.length_append] at hrun
  refine ⟨ao', cap', w', hrun, hrow, fun k hk => ?_, (h.fr.alloc _).trans hF (fun i hi e => by have := h.new i e; omega)⟩
  rcases hao with e | e
  · subst e; exact h.new k hk
  · subst e
    obtain ⟨a, e1, e2⟩ := hk
    obtain rfl := Option.some.inj e1
    have := h.fr.size
    simp at e2
    omega

theorem minus_set (a b : List ByteArray) : setL (a.filter fun k => !inL b k) = siftL a b false :=
  (setL_rises _).unique (siftL_rises a b false) (fun k => by rw [mem_setL, List.mem_filter, mem_siftL]; cases inL b k <;> simp)
theorem both_set (a b : List ByteArray) : setL (a.filter fun k => inL b k) = siftL a b true :=
  (setL_rises _).unique (siftL_rises a b true) (fun k => by rw [mem_setL, List.mem_filter, mem_siftL])

set_option maxRecDepth 100000 in
set_option maxHeartbeats 1000000 in
theorem vminus_of (HV : VSortC) (ao bo : Option Addr) (ca cb : Nat) (a b : List ByteArray) (w : World) (ha : a = [] ∨ KsAt w ao a) (hb : b = [] ∨ KsAt w bo b) (hal : a.length ≤ 1000000) (hbl : b.length ≤ 1000000) :
    Calls Try.prog 13 #[.slice ao a.length ca, .slice bo b.length cb] w (RisePost (siftL a b false) w) := by
  have HA := hideIt ha
  have HB := hideIt hb
  have HS := hideIt HV
  have HMS := hideIt (minus_set a b)
  clear ha hb HV
  go_enter Try.func13, Try.ntmps13
  go_wp2_with fail
  go_loopw [5, 6] (fun t5 i wr => ∃ (j : Nat) (tl : List ByteArray) (ao3 : Option Addr) (cap3 : Nat), t5 = .slice ao3 tl.length cap3 ∧ i = .int .i64 j ∧ j ≤ a.length ∧ Hid (tl = (a.take j).filter fun k => !inL b k) ∧ Hid (Told w wr tl ao3 cap3)) (fun _ i _ => a.length - (intOf i).toNat)
  case atStart => exact ⟨0, [], none, 0, rfl, rfl, Nat.zero_le _, hideIt rfl, hideIt (Told.start w)⟩
  case round =>
    obtain ⟨j, tl, ao3, cap3, rfl, rfl, hj, HT, HI⟩ := hrel
    by_cases hlt : j < a.length
    · obtain ⟨b1, off, rfl, hbl1, c0⟩ := KsAt.get (kats_fr0 HA.out HI.out.fr) j hlt
      have HTT := hideIt (List.take_succ_eq_append_getElem hlt)
      have HLT := hideIt (show tl.length ≤ 1000000 by rw [HT.out]; have := List.length_filter_le (fun k => !inL b k) (a.take j); rw [List.length_take] at this; omega)
      have hH := hideIt (vhas_any bo cb b a[j] _ (kats_fr0 HB.out HI.out.fr) (by omega))
      generalize a[j] = x at *
      cases hx : inL b x with
      | true =>
        rw [hx] at hH
        have HT2 := hideIt (show tl = (a.take (j + 1)).filter fun k => !inL b k by rw [HTT.out, List.filter_append, List.filter_cons, if_neg (by rw [hx]; decide), HT.out]; simp)
        clear hx
        go_wp2_with fail
        refine Calls.mono hH.out ?_
        rintro e w1 ⟨rfl, rfl⟩
        clear hH
        go_wp2_with fail
        go_roundw
        case measure => simp [intOf]; omega
        case rel => exact ⟨j + 1, tl, ao3, cap3, rfl, by go_num, by omega, HT2, HI⟩
      | false =>
        rw [hx] at hH
        obtain ⟨ao4, cap4, w4, hrun, h4⟩ := HI.out.grow x HLT.out
        have HR := hideIt hrun
        have HI4 := hideIt h4
        have HT2 := hideIt (show tl ++ [x] = (a.take (j + 1)).filter fun k => !inL b k by rw [HTT.out, List.filter_append, List.filter_cons, if_pos (by rw [hx]; rfl), HT.out]; rfl)
        clear hx hrun h4
        generalize tl ++ [x] = tl' at *
        go_wp2_with fail
        refine Calls.mono hH.out ?_
        rintro e w1 ⟨rfl, rfl⟩
        clear hH
        go_wp2_with (first | (at_builtin; refine wpList_append_run _ rfl (.tmp 20) (.tmp 25) 22 22 rfl _ _ _ _ rfl rfl HR.out ?_))
        go_roundw
        case measure => simp [intOf]; omega
        case rel => exact ⟨j + 1, tl', ao4, cap4, rfl, by go_num, by omega, HT2, HI4⟩
    · obtain rfl : j = a.length := by omega
      have HT2 := hideIt (show setL tl = siftL a b false by rw [HT.out, List.take_length]; exact HMS.out)
      have HLT := hideIt (show tl.length ≤ 1000000 by rw [HT.out]; have := List.length_filter_le (fun k => !inL b k) (a.take a.length); rw [List.length_take] at this; omega)
      have hR := hideIt (HS.out ao3 cap3 tl wr (Or.inr HI.out.row.at) HLT.out)
      rw [HT2.out] at hR
      go_wp2_with fail
      refine Calls.mono hR.out ?_
      rintro e w2 ⟨ao', cap', rfl, hrow, hF2, hnew⟩
      have HFIN := hideIt (show RisePost (siftL a b false) w (.returned (.slice ao' (siftL a b false).length cap')) w2 from ⟨ao', cap', rfl, hrow, HI.out.fr.trans hF2 (fun _ _ e => e), fun k hk => Nat.le_trans HI.out.fr.size (hnew k hk)⟩)
      clear hrow hF2 hnew hR
      go_wp2_with fail
      go_ret
      exact HFIN.out

set_option maxRecDepth 100000 in
set_option maxHeartbeats 1000000 in
theorem vboth_of (HV : VSortC) (ao bo : Option Addr) (ca cb : Nat) (a b : List ByteArray) (w : World) (ha : a = [] ∨ KsAt w ao a) (hb : b = [] ∨ KsAt w bo b) (hal : a.length ≤ 1000000) (hbl : b.length ≤ 1000000) :
    Calls Try.prog 14 #[.slice ao a.length ca, .slice bo b.length cb] w (RisePost (siftL a b true) w) := by
  have HA := hideIt ha
  have HB := hideIt hb
  have HS := hideIt HV
  have HMS := hideIt (both_set a b)
  clear ha hb HV
  go_enter Try.func14, Try.ntmps14
  go_wp2_with fail
  go_loopw [5, 6] (fun t5 i wr => ∃ (j : Nat) (tl : List ByteArray) (ao3 : Option Addr) (cap3 : Nat), t5 = .slice ao3 tl.length cap3 ∧ i = .int .i64 j ∧ j ≤ a.length ∧ Hid (tl = (a.take j).filter fun k => inL b k) ∧ Hid (Told w wr tl ao3 cap3)) (fun _ i _ => a.length - (intOf i).toNat)
  case atStart => exact ⟨0, [], none, 0, rfl, rfl, Nat.zero_le _, hideIt rfl, hideIt (Told.start w)⟩
  case round =>
    obtain ⟨j, tl, ao3, cap3, rfl, rfl, hj, HT, HI⟩ := hrel
    by_cases hlt : j < a.length
    · obtain ⟨b1, off, rfl, hbl1, c0⟩ := KsAt.get (kats_fr0 HA.out HI.out.fr) j hlt
      have HTT := hideIt (List.take_succ_eq_append_getElem hlt)
      have HLT := hideIt (show tl.length ≤ 1000000 by rw [HT.out]; have := List.length_filter_le (fun k => inL b k) (a.take j); rw [List.length_take] at this; omega)
      have hH := hideIt (vhas_any bo cb b a[j] _ (kats_fr0 HB.out HI.out.fr) (by omega))
      generalize a[j] = x at *
      cases hx : inL b x with
      | false =>
        rw [hx] at hH
        have HT2 := hideIt (show tl = (a.take (j + 1)).filter fun k => inL b k by rw [HTT.out, List.filter_append, List.filter_cons, if_neg (by rw [hx]; decide), HT.out]; simp)
        clear hx
        go_wp2_with fail
        refine Calls.mono hH.out ?_
        rintro e w1 ⟨rfl, rfl⟩
        clear hH
        go_wp2_with fail
        go_roundw
        case measure => simp [intOf]; omega
        case rel => exact ⟨j + 1, tl, ao3, cap3, rfl, by go_num, by omega, HT2, HI⟩
      | true =>
        rw [hx] at hH
        obtain ⟨ao4, cap4, w4, hrun, h4⟩ := HI.out.grow x HLT.out
        have HR := hideIt hrun
        have HI4 := hideIt h4
        have HT2 := hideIt (show tl ++ [x] = (a.take (j + 1)).filter fun k => inL b k by rw [HTT.out, List.filter_append, List.filter_cons, if_pos hx, HT.out]; rfl)
        clear hx hrun h4
        generalize tl ++ [x] = tl' at *
        go_wp2_with fail
        refine Calls.mono hH.out ?_
        rintro e w1 ⟨rfl, rfl⟩
        clear hH
        go_wp2_with (first | (at_builtin; refine wpList_append_run _ rfl (.tmp 19) (.tmp 24) 22 22 rfl _ _ _ _ rfl rfl HR.out ?_))
        go_roundw
        case measure => simp [intOf]; omega
        case rel => exact ⟨j + 1, tl', ao4, cap4, rfl, by go_num, by omega, HT2, HI4⟩
    · obtain rfl : j = a.length := by omega
      have HT2 := hideIt (show setL tl = siftL a b true by rw [HT.out, List.take_length]; exact HMS.out)
      have HLT := hideIt (show tl.length ≤ 1000000 by rw [HT.out]; have := List.length_filter_le (fun k => inL b k) (a.take a.length); rw [List.length_take] at this; omega)
      have hR := hideIt (HS.out ao3 cap3 tl wr (Or.inr HI.out.row.at) HLT.out)
      rw [HT2.out] at hR
      go_wp2_with fail
      refine Calls.mono hR.out ?_
      rintro e w2 ⟨ao', cap', rfl, hrow, hF2, hnew⟩
      have HFIN := hideIt (show RisePost (siftL a b true) w (.returned (.slice ao' (siftL a b true).length cap')) w2 from ⟨ao', cap', rfl, hrow, HI.out.fr.trans hF2 (fun _ _ e => e), fun k hk => Nat.le_trans HI.out.fr.size (hnew k hk)⟩)
      clear hrow hF2 hnew hR
      go_wp2_with fail
      go_ret
      exact HFIN.out

set_option maxRecDepth 100000 in
set_option maxHeartbeats 1000000 in
theorem vunion_of (HV : VSortC) (ao bo : Option Addr) (ca cb : Nat) (a b : List ByteArray) (w : World) (ha : a = [] ∨ KsAt w ao a) (hb : b = [] ∨ KsAt w bo b) (hal : a.length ≤ 400000) (hbl : b.length ≤ 400000) :
    Calls Try.prog 12 #[.slice ao a.length ca, .slice bo b.length cb] w (RisePost (setL (a ++ b)) w) := by
  have hF0 : Fr (fun _ => False) w (w.alloc (.cells #[] 9)) := (Fr.refl _ _).alloc _
  have hrow0 : KsRow (w.alloc (.cells #[] 9)) (some ⟨w.heap.size, 0, none⟩) 0 [] := World.ownsRow_made w #[] 0 (Nat.zero_le _) (by decide) rfl
  obtain ⟨ao1, cap1, w1, hrun, hrow, hF, hao⟩ := ks_append _ (some ⟨w.heap.size, 0, none⟩) 0 [] a hrow0 ao ca (kats_fr0 ha hF0) (by rw [List.length_nil]; omega)
  simp only [List.length_nil, Nat.zero_add, List.nil_append] at hrun hrow
  have hF1 : Fr (fun _ => False) w w1 := hF0.trans hF (fun i hi ⟨x, e1, e2⟩ => by obtain rfl := Option.some.inj e1; simp at e2; omega)
  have hn1 : ∀ k, blk ao1 k → w.heap.size ≤ k := fun k hk => by
    obtain ⟨x, e1, e2⟩ := hk
    rcases hao with e | e <;> rw [e] at e1 <;> obtain rfl := Option.some.inj e1 <;> simp at e2 <;> omega
  obtain ⟨ao2, cap2, w2, hrun2, hrow2, hF2, hao2⟩ := ks_append w1 ao1 cap1 a b hrow bo cb (kats_fr0 hb hF1) (by omega)
  rw [← List.length_append] at hrun2
  have HR1 := hideIt hrun
  have HR2 := hideIt hrun2
  have HF2 := hideIt (hF1.trans hF2 (fun i hi e => by have := hn1 i e; omega))
  have hS := hideIt (HV ao2 cap2 (a ++ b) w2 (Or.inr hrow2.at) (by rw [List.length_append]; omega))
  clear hrun hrow hF hao hrow0 hF0 hF1 hn1 hrun2 hrow2 hF2 hao2 ha hb HV
  generalize a ++ b = ab at *
  go_enter Try.func12, Try.ntmps12
  go_wp2_with (first | (at_builtin; first | refine wpList_append_run _ rfl (.tmp 5) (.tmp 6) 22 22 rfl _ _ _ _ rfl rfl HR1.out ?_ | refine wpList_append_run _ rfl (.tmp 7) (.tmp 8) 22 22 rfl _ _ _ _ rfl rfl HR2.out ?_))
  refine Calls.mono hS.out ?_
  rintro e w3 ⟨ao', cap', rfl, hrow, hF3, hnew⟩
  have HFIN := hideIt (show RisePost (setL ab) w (.returned (.slice ao' (setL ab).length cap')) w3 from ⟨ao', cap', rfl, hrow, HF2.out.trans hF3 (fun _ _ e => e), fun k hk => Nat.le_trans HF2.out.size (hnew k hk)⟩)
  clear hrow hF3 hnew hS
  generalize setL ab = sab at *
  go_wp2_with fail
  go_ret
  exact HFIN.out

end Go.Proofs.Ytnjogpojikjflaa

/- Keys: the document's Sort, walked. -/
namespace Go.Proofs.Ytnjogpojikjflaa
open Go.RowKit Go.IntWalk
set_option linter.unusedSimpArgs false
set_option linter.unusedVariables false
set_option maxRecDepth 100000

theorem katlt {w : World} {b off : Nat} {l : List ByteArray} (h : KsAt w (some ⟨b, off, none⟩) l) : b < w.heap.size := by
  rcases h with ⟨e, _⟩ | ⟨b', off', e, h2, _⟩
  · cases e
  · obtain ⟨rfl, rfl⟩ : b = b' ∧ off = off' := by simpa using e
    exact h2

theorem ktake {w : World} {ao : Option Addr} {l : List ByteArray} (h : KsAt w ao l) (n : Nat) : KsAt w ao (l.take n) := by
  rcases h with ⟨e, h⟩ | ⟨b, off, e, h2, h3⟩
  · exact Or.inl ⟨e, by rw [h]; simp⟩
  · refine Or.inr ⟨b, off, e, h2, fun i hi => ?_⟩
    have hlt : i < l.length := by rw [List.length_take] at hi; omega
    have := h3 i hlt
    rw [List.getElem_take]
    exact this

theorem kdrop2 {w : World} {ao : Option Addr} {l : List ByteArray} {cap : Nat} (h : KsRow w ao cap l) (f : Nat) (hf : f ≤ l.length) : l.drop f = [] ∨ KsAt w (if cap = f then ao else Option.map (fun x => x.add f) ao) (l.drop f) := by
  have hcap := h.cap
  by_cases hc : cap = f
  · exact Or.inl (List.drop_eq_nil_of_le (by omega))
  · rw [if_neg hc]
    rcases h.at with ⟨_, h⟩ | ⟨b, off, rfl, h2, h3⟩
    · exact Or.inl (by rw [h]; simp)
    · right
      show KsAt w (some ((⟨b, off, none⟩ : Addr).add f)) _
      rw [Addr.add_lit]
      exact KsAt.drop (Or.inr ⟨b, off, rfl, h2, h3⟩) f

set_option maxRecDepth 100000 in
set_option maxHeartbeats 8000000 in
theorem vsort_any : VSortC := by
  intro ao cap l w h hl
  have HH := hideIt h
  clear h
  go_enter Try.func11, Try.ntmps11
  go_wp2_with fail
  go_loopw [3, 4] (fun v i wr => ∃ (j : Nat) (aor : Option Addr) (capr : Nat) (m : List ByteArray), i = .int .i64 j ∧ j ≤ l.length ∧ v = .slice aor m.length capr ∧ m.length ≤ j ∧ Hid (m = setL (l.take j)) ∧ KsRow wr aor capr m ∧ Fr (fun _ => False) w wr ∧ ∀ q, blk aor q → w.heap.size ≤ q) (fun _ i _ => l.length - (intOf i).toNat)
  case atStart => exact ⟨0, none, 0, [], rfl, Nat.zero_le _, rfl, Nat.zero_le _, hideIt rfl, KsRow.nil _, Fr.refl _ _, fun _ ⟨_, e, _⟩ => by cases e⟩
  case round =>
    obtain ⟨j, aor, capr, m, rfl, hj, rfl, hmj, HM, hrow, hF, hn⟩ := hrel
    have HROW := hideIt hrow
    have HF := hideIt hF
    have HN := hideIt hn
    clear hrow hF hn
    by_cases hlt : j < l.length
    · obtain ⟨b, off, rfl, hbl, c0⟩ := KsAt.get (kats_fr0 HH.out HF.out) j hlt
      have HT := hideIt (List.take_succ_eq_append_getElem hlt)
      generalize l[j] = x at *
      have HC := hideIt (show ∀ w' : World, Fr (fun _ => False) wr w' → w'.cell? ⟨b, off + j, none⟩ = some (.string x) from fun w' h => h.cell0 c0)
      generalize hw1 : wr = w1 at *
      go_wp2_with fail
      go_loopw [5] (fun i wq => ∃ k : Nat, i = .int .i64 k ∧ k ≤ m.length ∧ Hid (∀ y ∈ m.take k, kLt y x) ∧ Fr (fun _ => False) w1 wq) (fun i _ => m.length - (intOf i).toNat)
      case atStart => exact ⟨0, rfl, Nat.zero_le _, hideIt (by simp), Fr.refl _ _⟩
      case round =>
        obtain ⟨k, rfl, hkm, HB, hFz⟩ := hrel
        have d0 := HC.out wr hFz
        have HROWZ := hideIt (HROW.out.fr0 hFz)
        have HFZ := hideIt (HF.out.trans hFz (fun _ _ e => e))
        have HFz := hideIt hFz
        have HS := hideIt (show ∀ w' : World, Fr (fun _ => False) wr w' → w'.cell? ⟨b, off + j, none⟩ = some (.string x) ∧ Fr (fun _ => False) wr w' from fun w' h => ⟨h.cell0 d0, h⟩)
        have HDD := hideIt (show ∀ w' : World, Fr (fun _ => False) wr w' → (m.drop k = [] ∨ KsAt w' (if capr = k then aor else Option.map (fun x => x.add k) aor) (m.drop k)) from fun w' h => kdrop2 (HROWZ.out.fr0 h) k hkm)
        have hkc : k ≤ capr := Nat.le_trans hkm HROWZ.out.cap
        have hi1 : (0 : Int) ≤ (k : Int) := by omega
        have hi2 : (k : Int) ≤ (m.length : Int) := by omega
        have hi3 : (k : Int) ≤ (capr : Int) := by omega
        clear hFz
        by_cases hkl : k < m.length
        · obtain ⟨b2, off2, rfl, hbl2, y0⟩ := KsAt.get (Or.inr HROWZ.out.at) k hkl
          have HTK := hideIt (List.take_succ_eq_append_getElem hkl)
          have HIT := hideIt (ins_there x m k hkl HB.out)
          have HIA := hideIt (ins_at x m k hkl HB.out)
          generalize m[k] = y at *
          by_cases hy : kLt y x
          · have hq : Op.bytesLess y.toList x.toList = true := by rw [bytesLess_eq]; exact decide_eq_true hy
            have HY := hideIt hy
            clear hy HIT HIA
            go_wp2_with fail
            go_quiet (fail)
            go_wp2_with fail
            go_roundw
            case measure => simp [intOf]; omega
            case rel => exact ⟨k + 1, by go_num, by omega, hideIt (fun z hz => by rw [HTK.out] at hz; rcases List.mem_append.1 hz with e | e; exact HB.out z e; rw [List.mem_singleton.1 e]; exact HY.out), HFz.out.drewN _⟩
          · have hq : Op.bytesLess y.toList x.toList = false := by rw [bytesLess_eq]; exact decide_eq_false hy
            have hke : ((k : Int) == (m.length : Int)) = false := by simp; omega
            by_cases hx : y = x
            · have hq2 : (y.toList == x.toList) = true := by rw [hx]; simp
              have HINS := hideIt (HIT.out hx)
              clear hx hy HIT HIA
              go_wp2_with fail
              go_quiet (fail)
              generalize nq = nq1 at *
              go_wp2_with fail
              go_quiet (fail)
              go_wp2_with fail
              go_roundw
              case measure => simp [intOf]; omega
              case rel => exact ⟨j + 1, _, capr, m, by go_num, by omega, rfl, by omega, hideIt (by rw [HT.out, setL_snoc, ← HM.out]; exact HINS.out.symm), HROWZ.out.fr0 ((Fr.refl _ _).drewN _), HFZ.out.drewN _, HN.out⟩
            · have hq2 : (y.toList == x.toList) = false := by rw [key_eq]; exact decide_eq_false hx
              have HINS := hideIt (HIA.out hy hx)
              clear hx hy HIT HIA
              go_wp2_with fail
              go_quiet (fail)
              generalize nq = nq1 at *
              go_wp2_with fail
              go_quiet (fail)
              go_wp2_with fail
              generalize (some ⟨b2, off2, none⟩ : Option Addr) = aor at *
              have hq0 : Fr (fun _ => False) wr ((wr.drewN nq1).drewN nq) := ((Fr.refl _ _).drewN _).drewN _
              generalize (wr.drewN nq1).drewN nq = wv at *
              refine wp_region_held_drew (S := fun w' => w'.cell? ⟨b, off + j, none⟩ = some (.string x) ∧ Fr (fun _ => False) wr w') (by kernel_rfl) ?_ (fun hHeld => ?_)
              · exact HS.out _ hq0.drew
              generalize wv.drew = wzd at *
              refine wpAnyH_take (i := 1) (v := ?v1) rfl (by kernel_rfl) (by kernel_rfl) (by kernel_rfl) (fun _ _ _ h => h) (Or.inl ⟨by rfl, ?hy1⟩) (by assumption) ?rest1
              case hy1 => intro w hSw; (try dsimp only at hSw); go_simp; (try with_reducible rfl)
              try simp only [Act.put, List.setIfInBounds_toArray, List.set_cons_zero, List.set_cons_succ]
              refine wpAnyH_take (i := 2) (v := ?v2) rfl (by kernel_rfl) (by kernel_rfl) (by kernel_rfl) (fun _ _ _ h => h) (Or.inl ⟨by rfl, ?hy2⟩) (by assumption) ?rest2
              case hy2 => intro w hSw; (try dsimp only at hSw); go_simp; (try with_reducible rfl)
              try simp only [Act.put, List.setIfInBounds_toArray, List.set_cons_zero, List.set_cons_succ]
              refine wpAnyH_take (i := 3) (v := ?v3) rfl (by kernel_rfl) (by kernel_rfl) (by kernel_rfl) (fun _ _ _ h => h) (Or.inl ⟨by rfl, ?hy3⟩) (by assumption) ?rest3
              case hy3 => intro w hSw; (try dsimp only at hSw); go_simp; (try with_reducible rfl)
              try simp only [Act.put, List.setIfInBounds_toArray, List.set_cons_zero, List.set_cons_succ]
              refine wpAnyH_take (i := 5) (v := ?v4) rfl (by kernel_rfl) (by kernel_rfl) (by kernel_rfl) (fun _ _ _ h => h) (Or.inl ⟨by rfl, ?hy4⟩) (by assumption) ?rest4
              case hy4 => intro w hSw; (try dsimp only at hSw); go_simp; (try with_reducible rfl)
              try simp only [Act.put, List.setIfInBounds_toArray, List.set_cons_zero, List.set_cons_succ]
              refine wpAnyH_take (i := 6) (v := ?v5) rfl (by kernel_rfl) (by kernel_rfl) (by kernel_rfl) (fun _ _ _ h => h) (Or.inl ⟨by rfl, ?hy5⟩) (by assumption) ?rest5
              case hy5 => intro w hSw; (try dsimp only at hSw); go_simp; (try with_reducible rfl)
              try simp only [Act.put, List.setIfInBounds_toArray, List.set_cons_zero, List.set_cons_succ]
              refine wpAnyH_take (i := 7) (v := ?v6) rfl (by kernel_rfl) (by kernel_rfl) (by kernel_rfl) (fun _ _ _ h => h) (Or.inl ⟨by rfl, ?hy6⟩) (by assumption) ?rest6
              case hy6 => intro w hSw; (try dsimp only at hSw); go_simp; (try with_reducible rfl)
              try simp only [Act.put, List.setIfInBounds_toArray, List.set_cons_zero, List.set_cons_succ]
              refine wpAnyH_take (i := 8) (v := ?v7) rfl (by kernel_rfl) (by kernel_rfl) (by kernel_rfl) (fun _ _ _ h => h) (Or.inl ⟨by rfl, ?hy7⟩) (by assumption) ?rest7
              case hy7 => intro w hSw; (try dsimp only at hSw); go_simp; (try with_reducible rfl)
              try simp only [Act.put, List.setIfInBounds_toArray, List.set_cons_zero, List.set_cons_succ]
              refine wpAnyH_take (i := 11) (v := ?v8) rfl (by kernel_rfl) (by kernel_rfl) (by kernel_rfl) (fun _ _ _ h => h) (Or.inl ⟨by rfl, ?hy8⟩) (by assumption) ?rest8
              case hy8 => intro w hSw; (try dsimp only at hSw); go_simp; (try with_reducible rfl)
              try simp only [Act.put, List.setIfInBounds_toArray, List.set_cons_zero, List.set_cons_succ]
              refine wpAnyH_take (i := 12) (v := ?v9) rfl (by kernel_rfl) (by kernel_rfl) (by kernel_rfl) (fun _ _ _ h => h) (Or.inl ⟨by rfl, ?hy9⟩) (by assumption) ?rest9
              case hy9 => intro w hSw; (try dsimp only at hSw); go_simp; (try with_reducible rfl)
              try simp only [Act.put, List.setIfInBounds_toArray, List.set_cons_zero, List.set_cons_succ]
              refine wpAnyH_take (i := 13) (v := ?v10) rfl (by kernel_rfl) (by kernel_rfl) (by kernel_rfl) (fun _ _ _ h => h) (Or.inl ⟨by rfl, ?hy10⟩) (by assumption) ?rest10
              case hy10 => intro w hSw; (try dsimp only at hSw); go_simp; (try with_reducible rfl)
              try simp only [Act.put, List.setIfInBounds_toArray, List.set_cons_zero, List.set_cons_succ]
              generalize (if capr = k then aor else Option.map (fun x => x.add k) aor) = aoD at *
              refine wpAnyH_ready (rs := [0, 9]) (by kernel_rfl) (by simp) ?_
              refine AllReadyH.cons rfl (fun K hK => ?_) ?_
              · go_simp
                have hF := hHeld.2.alloc (.cells #[] 9)
                have hg0 := hHeld.2.size
                have row0 : KsRow (wzd.alloc (.cells #[] 9)) (some ⟨wzd.heap.size, 0, none⟩) 0 [] := World.ownsRow_made wzd #[] 0 (Nat.zero_le _) (by decide) rfl
                refine hK.out _ _ ?_ (fun hHeld => ?_)
                · exact HS.out _ hF
                clear hK K hF
                try simp only [Act.put, List.setIfInBounds_toArray, List.set_cons_zero, List.set_cons_succ]
                generalize wzd.alloc (.cells #[] 9) = wc1 at *
                refine wpAnyH_ready (rs := [4, 9]) (by kernel_rfl) (by simp) ?_
                refine AllReadyH.cons rfl (fun K hK => ?_) ?_
                · obtain ⟨ao1, c1, wc2, hrun, row1, hFA, hao1⟩ := ks_append wc1 (some ⟨wzd.heap.size, 0, none⟩) 0 [] (m.take k) row0 aor capr (Or.inr (ktake (HROWZ.out.at.fr0 hHeld.2) k)) (by rw [List.length_take, List.length_nil]; omega)
                  rw [List.length_take, Nat.min_eq_left hkm, List.length_nil, Nat.zero_add] at hrun
                  rw [List.nil_append] at row1
                  have hF := hHeld.2.trans hFA (fun i hi ⟨a, e1, e2⟩ => by obtain rfl := Option.some.inj e1; simp only at e2; omega)
                  have hsz4 := hHeld.2.size
                  have nao1 : ∀ q, blk ao1 q → wr.heap.size ≤ q := by
                    rintro q ⟨a, e1, e2⟩
                    rcases hao1 with e | e <;> rw [e] at e1 <;> obtain rfl := Option.some.inj e1 <;> simp only at e2 <;> omega
                  have HR := hideIt hrun
                  clear hrun hFA hao1
                  refine step_append_run rfl (.tmp 44) (.tmp 47) 22 22 rfl _ _ _ _ rfl rfl HR.out ?_
                  refine hK.out _ _ ?_ (fun hHeld => ?_)
                  · exact HS.out _ hF
                  clear hK K hF HR
                  try simp only [Act.put, List.setIfInBounds_toArray, List.set_cons_zero, List.set_cons_succ]
                  refine wpAnyH_ready (rs := [9]) (by kernel_rfl) (by simp) ?_
                  refine AllReadyH.cons rfl (fun K hK => ?_) AllReadyH.nil
                  go_simp
                  have hF := hHeld.2.alloc (.cells #[.string x] 9)
                  replace row1 := row1.fr0 ((Fr.refl (fun _ => False) wc2).alloc (.cells #[.string x] 9))
                  have hat9 := ks_new wc2 [x] 9
                  refine hK.out _ _ ?_ (fun hHeld => ?_)
                  · exact HS.out _ hF
                  clear hK K hF
                  try simp only [Act.put, List.setIfInBounds_toArray, List.set_cons_zero, List.set_cons_succ]
                  simp only [List.map_cons, List.map_nil] at hat9
                  generalize wc2.alloc (.cells #[.string x] 9) = wc3 at *
                  refine wpAnyH_ready (rs := [10]) (by kernel_rfl) (by simp) ?_
                  refine AllReadyH.cons rfl (fun K hK => ?_) AllReadyH.nil
                  obtain ⟨ao2, c2, wc4, hrun, row2, hFA, hao2⟩ := ks_append wc3 ao1 c1 (m.take k) [x] row1 (some ⟨wc2.heap.size, 0, none⟩) 1 (Or.inr hat9) (by rw [List.length_take, List.length_singleton]; omega)
                  rw [List.length_take, Nat.min_eq_left hkm, List.length_singleton] at hrun
                  have hF := hHeld.2.trans hFA (fun i hi e => by have := nao1 i e; omega)
                  have hsz5 := hHeld.2.size
                  have nao2 : ∀ q, blk ao2 q → wr.heap.size ≤ q := by
                    intro q hq
                    rcases hao2 with e | e
                    · exact nao1 q (e ▸ hq)
                    · obtain ⟨a, e1, e2⟩ := hq
                      rw [e] at e1
                      obtain rfl := Option.some.inj e1
                      simp only at e2
                      omega
                  have HR := hideIt hrun
                  clear hrun hFA hao2 hat9 row1
                  refine step_append_run rfl (.tmp 48) (.tmp 53) 22 22 rfl _ _ _ _ rfl rfl HR.out ?_
                  refine hK.out _ _ ?_ (fun hHeld => ?_)
                  · exact HS.out _ hF
                  clear hK K hF HR
                  try simp only [Act.put, List.setIfInBounds_toArray, List.set_cons_zero, List.set_cons_succ]
                  refine wpAnyH_ready (rs := [14]) (by kernel_rfl) (by simp) ?_
                  refine AllReadyH.cons rfl (fun K hK => ?_) AllReadyH.nil
                  obtain ⟨ao3, c3, wc5, hrun, row3, hFA, hao3⟩ := ks_append wc4 ao2 c2 (m.take k ++ [x]) (m.drop k) row2 aoD (capr - k) (HDD.out _ hHeld.2) (by rw [List.length_append, List.length_take, List.length_singleton, List.length_drop]; omega)
                  have hl1 : (m.take k ++ [x]).length = k + 1 := by rw [List.length_append, List.length_take, Nat.min_eq_left hkm, List.length_singleton]
                  rw [← List.length_append, hl1, List.length_drop] at hrun
                  have hF := hHeld.2.trans hFA (fun i hi e => by have := nao2 i e; omega)
                  have hsz6 := hHeld.2.size
                  have nao3 : ∀ q, blk ao3 q → wr.heap.size ≤ q := by
                    intro q hq
                    rcases hao3 with e | e
                    · exact nao2 q (e ▸ hq)
                    · obtain ⟨a, e1, e2⟩ := hq
                      rw [e] at e1
                      obtain rfl := Option.some.inj e1
                      simp only at e2
                      omega
                  have HR := hideIt hrun
                  clear hrun hFA hao3 row2
                  refine step_append_run rfl (.tmp 54) (.tmp 57) 22 22 rfl _ _ _ _ rfl rfl HR.out ?_
                  refine hK.out _ _ ?_ (fun hHeld => ?_)
                  · exact HS.out _ hF
                  clear hK K hF HR
                  try simp only [Act.put, List.setIfInBounds_toArray, List.set_cons_zero, List.set_cons_succ]
                  refine wpAnyH_take (i := 15) (v := ?v11) rfl (by kernel_rfl) (by kernel_rfl) (by kernel_rfl) (fun _ _ _ h => h) (Or.inl ⟨by rfl, ?hy11⟩) (by assumption) ?rest11
                  case hy11 => intro w hSw; (try dsimp only at hSw); go_simp; (try with_reducible rfl)
                  try simp only [Act.put, List.setIfInBounds_toArray, List.set_cons_zero, List.set_cons_succ]
                  refine wpAnyH_done (by kernel_rfl) ?_ _
                  have HROW3 := hideIt row3
                  have HF3 := hideIt hHeld.2
                  have HN3 := hideIt nao3
                  clear row3 hHeld nao3
                  go_wp2_with fail
                  go_roundw
                  case measure => simp [intOf]; omega
                  case rel => exact ⟨j + 1, ao3, c3, m.take k ++ [x] ++ m.drop k, by go_num, by omega, congrArg (fun n => Value.slice ao3 n c3) (by simp only [List.length_append, List.length_take, List.length_drop, List.length_singleton]; omega), by rw [List.length_append, List.length_append, List.length_take, List.length_drop, List.length_singleton]; omega, hideIt (by rw [HT.out, setL_snoc, ← HM.out]; exact HINS.out.symm), HROW3.out, (HFZ.out.trans HF3.out (fun _ _ e => e)), fun q hq => Nat.le_trans HFZ.out.size (HN3.out q hq)⟩
                refine AllReadyH.cons rfl (fun K hK => ?_) ?_
                · go_simp
                  have hF := hHeld.2.alloc (.cells #[.string x] 9)
                  have l0 : wzd.heap.size < wc1.heap.size := row0.lt ⟨_, rfl, rfl⟩
                  replace row0 := row0.fr0 ((Fr.refl (fun _ => False) wc1).alloc (.cells #[.string x] 9))
                  have hat9 := ks_new wc1 [x] 9
                  refine hK.out _ _ ?_ (fun hHeld => ?_)
                  · exact HS.out _ hF
                  clear hK K hF
                  try simp only [Act.put, List.setIfInBounds_toArray, List.set_cons_zero, List.set_cons_succ]
                  simp only [List.map_cons, List.map_nil] at hat9
                  generalize wc1.alloc (.cells #[.string x] 9) = wc6 at *
                  refine wpAnyH_ready (rs := [4]) (by kernel_rfl) (by simp) ?_
                  refine AllReadyH.cons rfl (fun K hK => ?_) AllReadyH.nil
                  obtain ⟨ao1, c1, wc7, hrun, row1, hFA, hao1⟩ := ks_append wc6 (some ⟨wzd.heap.size, 0, none⟩) 0 [] (m.take k) row0 aor capr (Or.inr (ktake (HROWZ.out.at.fr0 hHeld.2) k)) (by rw [List.length_take, List.length_nil]; omega)
                  rw [List.length_take, Nat.min_eq_left hkm, List.length_nil, Nat.zero_add] at hrun
                  rw [List.nil_append] at row1
                  have hF := hHeld.2.trans hFA (fun i hi ⟨a, e1, e2⟩ => by obtain rfl := Option.some.inj e1; simp only at e2; omega)
                  have hsz4 := hHeld.2.size
                  have nao1 : ∀ q, blk ao1 q → wr.heap.size ≤ q := by
                    rintro q ⟨a, e1, e2⟩
                    rcases hao1 with e | e <;> rw [e] at e1 <;> obtain rfl := Option.some.inj e1 <;> simp only at e2 <;> omega
                  have hat9 := hat9.fr hFA (fun q ⟨a, e1, e2⟩ ⟨a2, e3, e4⟩ => by obtain rfl := Option.some.inj e1; obtain rfl := Option.some.inj e3; simp only at e2 e4; omega)
                  have HR := hideIt hrun
                  clear hrun hFA hao1
                  refine step_append_run rfl (.tmp 44) (.tmp 47) 22 22 rfl _ _ _ _ rfl rfl HR.out ?_
                  refine hK.out _ _ ?_ (fun hHeld => ?_)
                  · exact HS.out _ hF
                  clear hK K hF HR
                  try simp only [Act.put, List.setIfInBounds_toArray, List.set_cons_zero, List.set_cons_succ]
                  refine wpAnyH_ready (rs := [10]) (by kernel_rfl) (by simp) ?_
                  refine AllReadyH.cons rfl (fun K hK => ?_) AllReadyH.nil
                  obtain ⟨ao2, c2, wc8, hrun, row2, hFA, hao2⟩ := ks_append wc7 ao1 c1 (m.take k) [x] row1 (some ⟨wc1.heap.size, 0, none⟩) 1 (Or.inr hat9) (by rw [List.length_take, List.length_singleton]; omega)
                  rw [List.length_take, Nat.min_eq_left hkm, List.length_singleton] at hrun
                  have hF := hHeld.2.trans hFA (fun i hi e => by have := nao1 i e; omega)
                  have hsz5 := hHeld.2.size
                  have nao2 : ∀ q, blk ao2 q → wr.heap.size ≤ q := by
                    intro q hq
                    rcases hao2 with e | e
                    · exact nao1 q (e ▸ hq)
                    · obtain ⟨a, e1, e2⟩ := hq
                      rw [e] at e1
                      obtain rfl := Option.some.inj e1
                      simp only at e2
                      omega
                  have HR := hideIt hrun
                  clear hrun hFA hao2 hat9 row1
                  refine step_append_run rfl (.tmp 48) (.tmp 53) 22 22 rfl _ _ _ _ rfl rfl HR.out ?_
                  refine hK.out _ _ ?_ (fun hHeld => ?_)
                  · exact HS.out _ hF
                  clear hK K hF HR
                  try simp only [Act.put, List.setIfInBounds_toArray, List.set_cons_zero, List.set_cons_succ]
                  refine wpAnyH_ready (rs := [14]) (by kernel_rfl) (by simp) ?_
                  refine AllReadyH.cons rfl (fun K hK => ?_) AllReadyH.nil
                  obtain ⟨ao3, c3, wc9, hrun, row3, hFA, hao3⟩ := ks_append wc8 ao2 c2 (m.take k ++ [x]) (m.drop k) row2 aoD (capr - k) (HDD.out _ hHeld.2) (by rw [List.length_append, List.length_take, List.length_singleton, List.length_drop]; omega)
                  have hl1 : (m.take k ++ [x]).length = k + 1 := by rw [List.length_append, List.length_take, Nat.min_eq_left hkm, List.length_singleton]
                  rw [← List.length_append, hl1, List.length_drop] at hrun
                  have hF := hHeld.2.trans hFA (fun i hi e => by have := nao2 i e; omega)
                  have hsz6 := hHeld.2.size
                  have nao3 : ∀ q, blk ao3 q → wr.heap.size ≤ q := by
                    intro q hq
                    rcases hao3 with e | e
                    · exact nao2 q (e ▸ hq)
                    · obtain ⟨a, e1, e2⟩ := hq
                      rw [e] at e1
                      obtain rfl := Option.some.inj e1
                      simp only at e2
                      omega
                  have HR := hideIt hrun
                  clear hrun hFA hao3 row2
                  refine step_append_run rfl (.tmp 54) (.tmp 57) 22 22 rfl _ _ _ _ rfl rfl HR.out ?_
                  refine hK.out _ _ ?_ (fun hHeld => ?_)
                  · exact HS.out _ hF
                  clear hK K hF HR
                  try simp only [Act.put, List.setIfInBounds_toArray, List.set_cons_zero, List.set_cons_succ]
                  refine wpAnyH_take (i := 15) (v := ?v12) rfl (by kernel_rfl) (by kernel_rfl) (by kernel_rfl) (fun _ _ _ h => h) (Or.inl ⟨by rfl, ?hy12⟩) (by assumption) ?rest12
                  case hy12 => intro w hSw; (try dsimp only at hSw); go_simp; (try with_reducible rfl)
                  try simp only [Act.put, List.setIfInBounds_toArray, List.set_cons_zero, List.set_cons_succ]
                  refine wpAnyH_done (by kernel_rfl) ?_ _
                  have HROW3 := hideIt row3
                  have HF3 := hideIt hHeld.2
                  have HN3 := hideIt nao3
                  clear row3 hHeld nao3
                  go_wp2_with fail
                  go_roundw
                  case measure => simp [intOf]; omega
                  case rel => exact ⟨j + 1, ao3, c3, m.take k ++ [x] ++ m.drop k, by go_num, by omega, congrArg (fun n => Value.slice ao3 n c3) (by simp only [List.length_append, List.length_take, List.length_drop, List.length_singleton]; omega), by rw [List.length_append, List.length_append, List.length_take, List.length_drop, List.length_singleton]; omega, hideIt (by rw [HT.out, setL_snoc, ← HM.out]; exact HINS.out.symm), HROW3.out, (HFZ.out.trans HF3.out (fun _ _ e => e)), fun q hq => Nat.le_trans HFZ.out.size (HN3.out q hq)⟩
                exact AllReadyH.nil
              refine AllReadyH.cons rfl (fun K hK => ?_) ?_
              · go_simp
                have hF := hHeld.2.alloc (.cells #[.string x] 9)
                have hat9 := ks_new wzd [x] 9
                refine hK.out _ _ ?_ (fun hHeld => ?_)
                · exact HS.out _ hF
                clear hK K hF
                try simp only [Act.put, List.setIfInBounds_toArray, List.set_cons_zero, List.set_cons_succ]
                simp only [List.map_cons, List.map_nil] at hat9
                generalize wzd.alloc (.cells #[.string x] 9) = wc10 at *
                refine wpAnyH_ready (rs := [0]) (by kernel_rfl) (by simp) ?_
                refine AllReadyH.cons rfl (fun K hK => ?_) AllReadyH.nil
                go_simp
                have hF := hHeld.2.alloc (.cells #[] 9)
                have hg0 := hHeld.2.size
                have l9 : wzd.heap.size < wc10.heap.size := katlt hat9
                replace hat9 := hat9.fr0 ((Fr.refl (fun _ => False) wc10).alloc (.cells #[] 9))
                have row0 : KsRow (wc10.alloc (.cells #[] 9)) (some ⟨wc10.heap.size, 0, none⟩) 0 [] := World.ownsRow_made wc10 #[] 0 (Nat.zero_le _) (by decide) rfl
                refine hK.out _ _ ?_ (fun hHeld => ?_)
                · exact HS.out _ hF
                clear hK K hF
                try simp only [Act.put, List.setIfInBounds_toArray, List.set_cons_zero, List.set_cons_succ]
                generalize wc10.alloc (.cells #[] 9) = wc11 at *
                refine wpAnyH_ready (rs := [4]) (by kernel_rfl) (by simp) ?_
                refine AllReadyH.cons rfl (fun K hK => ?_) AllReadyH.nil
                obtain ⟨ao1, c1, wc12, hrun, row1, hFA, hao1⟩ := ks_append wc11 (some ⟨wc10.heap.size, 0, none⟩) 0 [] (m.take k) row0 aor capr (Or.inr (ktake (HROWZ.out.at.fr0 hHeld.2) k)) (by rw [List.length_take, List.length_nil]; omega)
                rw [List.length_take, Nat.min_eq_left hkm, List.length_nil, Nat.zero_add] at hrun
                rw [List.nil_append] at row1
                have hF := hHeld.2.trans hFA (fun i hi ⟨a, e1, e2⟩ => by obtain rfl := Option.some.inj e1; simp only at e2; omega)
                have hsz4 := hHeld.2.size
                have nao1 : ∀ q, blk ao1 q → wr.heap.size ≤ q := by
                  rintro q ⟨a, e1, e2⟩
                  rcases hao1 with e | e <;> rw [e] at e1 <;> obtain rfl := Option.some.inj e1 <;> simp only at e2 <;> omega
                have hat9 := hat9.fr hFA (fun q ⟨a, e1, e2⟩ ⟨a2, e3, e4⟩ => by obtain rfl := Option.some.inj e1; obtain rfl := Option.some.inj e3; simp only at e2 e4; omega)
                have HR := hideIt hrun
                clear hrun hFA hao1
                refine step_append_run rfl (.tmp 44) (.tmp 47) 22 22 rfl _ _ _ _ rfl rfl HR.out ?_
                refine hK.out _ _ ?_ (fun hHeld => ?_)
                · exact HS.out _ hF
                clear hK K hF HR
                try simp only [Act.put, List.setIfInBounds_toArray, List.set_cons_zero, List.set_cons_succ]
                refine wpAnyH_ready (rs := [10]) (by kernel_rfl) (by simp) ?_
                refine AllReadyH.cons rfl (fun K hK => ?_) AllReadyH.nil
                obtain ⟨ao2, c2, wc13, hrun, row2, hFA, hao2⟩ := ks_append wc12 ao1 c1 (m.take k) [x] row1 (some ⟨wzd.heap.size, 0, none⟩) 1 (Or.inr hat9) (by rw [List.length_take, List.length_singleton]; omega)
                rw [List.length_take, Nat.min_eq_left hkm, List.length_singleton] at hrun
                have hF := hHeld.2.trans hFA (fun i hi e => by have := nao1 i e; omega)
                have hsz5 := hHeld.2.size
                have nao2 : ∀ q, blk ao2 q → wr.heap.size ≤ q := by
                  intro q hq
                  rcases hao2 with e | e
                  · exact nao1 q (e ▸ hq)
                  · obtain ⟨a, e1, e2⟩ := hq
                    rw [e] at e1
                    obtain rfl := Option.some.inj e1
                    simp only at e2
                    omega
                have HR := hideIt hrun
                clear hrun hFA hao2 hat9 row1
                refine step_append_run rfl (.tmp 48) (.tmp 53) 22 22 rfl _ _ _ _ rfl rfl HR.out ?_
                refine hK.out _ _ ?_ (fun hHeld => ?_)
                · exact HS.out _ hF
                clear hK K hF HR
                try simp only [Act.put, List.setIfInBounds_toArray, List.set_cons_zero, List.set_cons_succ]
                refine wpAnyH_ready (rs := [14]) (by kernel_rfl) (by simp) ?_
                refine AllReadyH.cons rfl (fun K hK => ?_) AllReadyH.nil
                obtain ⟨ao3, c3, wc14, hrun, row3, hFA, hao3⟩ := ks_append wc13 ao2 c2 (m.take k ++ [x]) (m.drop k) row2 aoD (capr - k) (HDD.out _ hHeld.2) (by rw [List.length_append, List.length_take, List.length_singleton, List.length_drop]; omega)
                have hl1 : (m.take k ++ [x]).length = k + 1 := by rw [List.length_append, List.length_take, Nat.min_eq_left hkm, List.length_singleton]
                rw [← List.length_append, hl1, List.length_drop] at hrun
                have hF := hHeld.2.trans hFA (fun i hi e => by have := nao2 i e; omega)
                have hsz6 := hHeld.2.size
                have nao3 : ∀ q, blk ao3 q → wr.heap.size ≤ q := by
                  intro q hq
                  rcases hao3 with e | e
                  · exact nao2 q (e ▸ hq)
                  · obtain ⟨a, e1, e2⟩ := hq
                    rw [e] at e1
                    obtain rfl := Option.some.inj e1
                    simp only at e2
                    omega
                have HR := hideIt hrun
                clear hrun hFA hao3 row2
                refine step_append_run rfl (.tmp 54) (.tmp 57) 22 22 rfl _ _ _ _ rfl rfl HR.out ?_
                refine hK.out _ _ ?_ (fun hHeld => ?_)
                · exact HS.out _ hF
                clear hK K hF HR
                try simp only [Act.put, List.setIfInBounds_toArray, List.set_cons_zero, List.set_cons_succ]
                refine wpAnyH_take (i := 15) (v := ?v13) rfl (by kernel_rfl) (by kernel_rfl) (by kernel_rfl) (fun _ _ _ h => h) (Or.inl ⟨by rfl, ?hy13⟩) (by assumption) ?rest13
                case hy13 => intro w hSw; (try dsimp only at hSw); go_simp; (try with_reducible rfl)
                try simp only [Act.put, List.setIfInBounds_toArray, List.set_cons_zero, List.set_cons_succ]
                refine wpAnyH_done (by kernel_rfl) ?_ _
                have HROW3 := hideIt row3
                have HF3 := hideIt hHeld.2
                have HN3 := hideIt nao3
                clear row3 hHeld nao3
                go_wp2_with fail
                go_roundw
                case measure => simp [intOf]; omega
                case rel => exact ⟨j + 1, ao3, c3, m.take k ++ [x] ++ m.drop k, by go_num, by omega, congrArg (fun n => Value.slice ao3 n c3) (by simp only [List.length_append, List.length_take, List.length_drop, List.length_singleton]; omega), by rw [List.length_append, List.length_append, List.length_take, List.length_drop, List.length_singleton]; omega, hideIt (by rw [HT.out, setL_snoc, ← HM.out]; exact HINS.out.symm), HROW3.out, (HFZ.out.trans HF3.out (fun _ _ e => e)), fun q hq => Nat.le_trans HFZ.out.size (HN3.out q hq)⟩
              exact AllReadyH.nil
        · have HINS := hideIt (show ins x m = m.take k ++ [x] ++ m.drop k by
            have e1 : k = m.length := by omega
            rw [e1, List.take_length, List.drop_length, List.append_nil]
            exact ins_end x m (by have := HB.out; rwa [e1, List.take_length] at this))
          have hke : ¬ (k : Int) < (m.length : Int) := by omega
          have hke2 : ((k : Int) == (m.length : Int)) = true := by simp; omega
          go_wp2_with fail
          go_quiet (fail)
          generalize nq = nq1 at *
          go_wp2_with fail
          go_quiet (fail)
          go_wp2_with fail
          have hq0 : Fr (fun _ => False) wr ((wr.drewN nq1).drewN nq) := ((Fr.refl _ _).drewN _).drewN _
          generalize (wr.drewN nq1).drewN nq = wv at *
          refine wp_region_held_drew (S := fun w' => w'.cell? ⟨b, off + j, none⟩ = some (.string x) ∧ Fr (fun _ => False) wr w') (by kernel_rfl) ?_ (fun hHeld => ?_)
          · exact HS.out _ hq0.drew
          generalize wv.drew = wzd at *
          refine wpAnyH_take (i := 1) (v := ?v14) rfl (by kernel_rfl) (by kernel_rfl) (by kernel_rfl) (fun _ _ _ h => h) (Or.inl ⟨by rfl, ?hy14⟩) (by assumption) ?rest14
          case hy14 => intro w hSw; (try dsimp only at hSw); go_simp; (try with_reducible rfl)
          try simp only [Act.put, List.setIfInBounds_toArray, List.set_cons_zero, List.set_cons_succ]
          refine wpAnyH_take (i := 2) (v := ?v15) rfl (by kernel_rfl) (by kernel_rfl) (by kernel_rfl) (fun _ _ _ h => h) (Or.inl ⟨by rfl, ?hy15⟩) (by assumption) ?rest15
          case hy15 => intro w hSw; (try dsimp only at hSw); go_simp; (try with_reducible rfl)
          try simp only [Act.put, List.setIfInBounds_toArray, List.set_cons_zero, List.set_cons_succ]
          refine wpAnyH_take (i := 3) (v := ?v16) rfl (by kernel_rfl) (by kernel_rfl) (by kernel_rfl) (fun _ _ _ h => h) (Or.inl ⟨by rfl, ?hy16⟩) (by assumption) ?rest16
          case hy16 => intro w hSw; (try dsimp only at hSw); go_simp; (try with_reducible rfl)
          try simp only [Act.put, List.setIfInBounds_toArray, List.set_cons_zero, List.set_cons_succ]
          refine wpAnyH_take (i := 5) (v := ?v17) rfl (by kernel_rfl) (by kernel_rfl) (by kernel_rfl) (fun _ _ _ h => h) (Or.inl ⟨by rfl, ?hy17⟩) (by assumption) ?rest17
          case hy17 => intro w hSw; (try dsimp only at hSw); go_simp; (try with_reducible rfl)
          try simp only [Act.put, List.setIfInBounds_toArray, List.set_cons_zero, List.set_cons_succ]
          refine wpAnyH_take (i := 6) (v := ?v18) rfl (by kernel_rfl) (by kernel_rfl) (by kernel_rfl) (fun _ _ _ h => h) (Or.inl ⟨by rfl, ?hy18⟩) (by assumption) ?rest18
          case hy18 => intro w hSw; (try dsimp only at hSw); go_simp; (try with_reducible rfl)
          try simp only [Act.put, List.setIfInBounds_toArray, List.set_cons_zero, List.set_cons_succ]
          refine wpAnyH_take (i := 7) (v := ?v19) rfl (by kernel_rfl) (by kernel_rfl) (by kernel_rfl) (fun _ _ _ h => h) (Or.inl ⟨by rfl, ?hy19⟩) (by assumption) ?rest19
          case hy19 => intro w hSw; (try dsimp only at hSw); go_simp; (try with_reducible rfl)
          try simp only [Act.put, List.setIfInBounds_toArray, List.set_cons_zero, List.set_cons_succ]
          refine wpAnyH_take (i := 8) (v := ?v20) rfl (by kernel_rfl) (by kernel_rfl) (by kernel_rfl) (fun _ _ _ h => h) (Or.inl ⟨by rfl, ?hy20⟩) (by assumption) ?rest20
          case hy20 => intro w hSw; (try dsimp only at hSw); go_simp; (try with_reducible rfl)
          try simp only [Act.put, List.setIfInBounds_toArray, List.set_cons_zero, List.set_cons_succ]
          refine wpAnyH_take (i := 11) (v := ?v21) rfl (by kernel_rfl) (by kernel_rfl) (by kernel_rfl) (fun _ _ _ h => h) (Or.inl ⟨by rfl, ?hy21⟩) (by assumption) ?rest21
          case hy21 => intro w hSw; (try dsimp only at hSw); go_simp; (try with_reducible rfl)
          try simp only [Act.put, List.setIfInBounds_toArray, List.set_cons_zero, List.set_cons_succ]
          refine wpAnyH_take (i := 12) (v := ?v22) rfl (by kernel_rfl) (by kernel_rfl) (by kernel_rfl) (fun _ _ _ h => h) (Or.inl ⟨by rfl, ?hy22⟩) (by assumption) ?rest22
          case hy22 => intro w hSw; (try dsimp only at hSw); go_simp; (try with_reducible rfl)
          try simp only [Act.put, List.setIfInBounds_toArray, List.set_cons_zero, List.set_cons_succ]
          refine wpAnyH_take (i := 13) (v := ?v23) rfl (by kernel_rfl) (by kernel_rfl) (by kernel_rfl) (fun _ _ _ h => h) (Or.inl ⟨by rfl, ?hy23⟩) (by assumption) ?rest23
          case hy23 => intro w hSw; (try dsimp only at hSw); go_simp; (try with_reducible rfl)
          try simp only [Act.put, List.setIfInBounds_toArray, List.set_cons_zero, List.set_cons_succ]
          generalize (if capr = k then aor else Option.map (fun x => x.add k) aor) = aoD at *
          refine wpAnyH_ready (rs := [0, 9]) (by kernel_rfl) (by simp) ?_
          refine AllReadyH.cons rfl (fun K hK => ?_) ?_
          · go_simp
            have hF := hHeld.2.alloc (.cells #[] 9)
            have hg0 := hHeld.2.size
            have row0 : KsRow (wzd.alloc (.cells #[] 9)) (some ⟨wzd.heap.size, 0, none⟩) 0 [] := World.ownsRow_made wzd #[] 0 (Nat.zero_le _) (by decide) rfl
            refine hK.out _ _ ?_ (fun hHeld => ?_)
            · exact HS.out _ hF
            clear hK K hF
            try simp only [Act.put, List.setIfInBounds_toArray, List.set_cons_zero, List.set_cons_succ]
            generalize wzd.alloc (.cells #[] 9) = wc15 at *
            refine wpAnyH_ready (rs := [4, 9]) (by kernel_rfl) (by simp) ?_
            refine AllReadyH.cons rfl (fun K hK => ?_) ?_
            · obtain ⟨ao1, c1, wc16, hrun, row1, hFA, hao1⟩ := ks_append wc15 (some ⟨wzd.heap.size, 0, none⟩) 0 [] (m.take k) row0 aor capr (Or.inr (ktake (HROWZ.out.at.fr0 hHeld.2) k)) (by rw [List.length_take, List.length_nil]; omega)
              rw [List.length_take, Nat.min_eq_left hkm, List.length_nil, Nat.zero_add] at hrun
              rw [List.nil_append] at row1
              have hF := hHeld.2.trans hFA (fun i hi ⟨a, e1, e2⟩ => by obtain rfl := Option.some.inj e1; simp only at e2; omega)
              have hsz4 := hHeld.2.size
              have nao1 : ∀ q, blk ao1 q → wr.heap.size ≤ q := by
                rintro q ⟨a, e1, e2⟩
                rcases hao1 with e | e <;> rw [e] at e1 <;> obtain rfl := Option.some.inj e1 <;> simp only at e2 <;> omega
              have HR := hideIt hrun
              clear hrun hFA hao1
              refine step_append_run rfl (.tmp 44) (.tmp 47) 22 22 rfl _ _ _ _ rfl rfl HR.out ?_
              refine hK.out _ _ ?_ (fun hHeld => ?_)
              · exact HS.out _ hF
              clear hK K hF HR
              try simp only [Act.put, List.setIfInBounds_toArray, List.set_cons_zero, List.set_cons_succ]
              refine wpAnyH_ready (rs := [9]) (by kernel_rfl) (by simp) ?_
              refine AllReadyH.cons rfl (fun K hK => ?_) AllReadyH.nil
              go_simp
              have hF := hHeld.2.alloc (.cells #[.string x] 9)
              replace row1 := row1.fr0 ((Fr.refl (fun _ => False) wc16).alloc (.cells #[.string x] 9))
              have hat9 := ks_new wc16 [x] 9
              refine hK.out _ _ ?_ (fun hHeld => ?_)
              · exact HS.out _ hF
              clear hK K hF
              try simp only [Act.put, List.setIfInBounds_toArray, List.set_cons_zero, List.set_cons_succ]
              simp only [List.map_cons, List.map_nil] at hat9
              generalize wc16.alloc (.cells #[.string x] 9) = wc17 at *
              refine wpAnyH_ready (rs := [10]) (by kernel_rfl) (by simp) ?_
              refine AllReadyH.cons rfl (fun K hK => ?_) AllReadyH.nil
              obtain ⟨ao2, c2, wc18, hrun, row2, hFA, hao2⟩ := ks_append wc17 ao1 c1 (m.take k) [x] row1 (some ⟨wc16.heap.size, 0, none⟩) 1 (Or.inr hat9) (by rw [List.length_take, List.length_singleton]; omega)
              rw [List.length_take, Nat.min_eq_left hkm, List.length_singleton] at hrun
              have hF := hHeld.2.trans hFA (fun i hi e => by have := nao1 i e; omega)
              have hsz5 := hHeld.2.size
              have nao2 : ∀ q, blk ao2 q → wr.heap.size ≤ q := by
                intro q hq
                rcases hao2 with e | e
                · exact nao1 q (e ▸ hq)
                · obtain ⟨a, e1, e2⟩ := hq
                  rw [e] at e1
                  obtain rfl := Option.some.inj e1
                  simp only at e2
                  omega
              have HR := hideIt hrun
              clear hrun hFA hao2 hat9 row1
              refine step_append_run rfl (.tmp 48) (.tmp 53) 22 22 rfl _ _ _ _ rfl rfl HR.out ?_
              refine hK.out _ _ ?_ (fun hHeld => ?_)
              · exact HS.out _ hF
              clear hK K hF HR
              try simp only [Act.put, List.setIfInBounds_toArray, List.set_cons_zero, List.set_cons_succ]
              refine wpAnyH_ready (rs := [14]) (by kernel_rfl) (by simp) ?_
              refine AllReadyH.cons rfl (fun K hK => ?_) AllReadyH.nil
              obtain ⟨ao3, c3, wc19, hrun, row3, hFA, hao3⟩ := ks_append wc18 ao2 c2 (m.take k ++ [x]) (m.drop k) row2 aoD (capr - k) (HDD.out _ hHeld.2) (by rw [List.length_append, List.length_take, List.length_singleton, List.length_drop]; omega)
              have hl1 : (m.take k ++ [x]).length = k + 1 := by rw [List.length_append, List.length_take, Nat.min_eq_left hkm, List.length_singleton]
              rw [← List.length_append, hl1, List.length_drop] at hrun
              have hF := hHeld.2.trans hFA (fun i hi e => by have := nao2 i e; omega)
              have hsz6 := hHeld.2.size
              have nao3 : ∀ q, blk ao3 q → wr.heap.size ≤ q := by
                intro q hq
                rcases hao3 with e | e
                · exact nao2 q (e ▸ hq)
                · obtain ⟨a, e1, e2⟩ := hq
                  rw [e] at e1
                  obtain rfl := Option.some.inj e1
                  simp only at e2
                  omega
              have HR := hideIt hrun
              clear hrun hFA hao3 row2
              refine step_append_run rfl (.tmp 54) (.tmp 57) 22 22 rfl _ _ _ _ rfl rfl HR.out ?_
              refine hK.out _ _ ?_ (fun hHeld => ?_)
              · exact HS.out _ hF
              clear hK K hF HR
              try simp only [Act.put, List.setIfInBounds_toArray, List.set_cons_zero, List.set_cons_succ]
              refine wpAnyH_take (i := 15) (v := ?v24) rfl (by kernel_rfl) (by kernel_rfl) (by kernel_rfl) (fun _ _ _ h => h) (Or.inl ⟨by rfl, ?hy24⟩) (by assumption) ?rest24
              case hy24 => intro w hSw; (try dsimp only at hSw); go_simp; (try with_reducible rfl)
              try simp only [Act.put, List.setIfInBounds_toArray, List.set_cons_zero, List.set_cons_succ]
              refine wpAnyH_done (by kernel_rfl) ?_ _
              have HROW3 := hideIt row3
              have HF3 := hideIt hHeld.2
              have HN3 := hideIt nao3
              clear row3 hHeld nao3
              go_wp2_with fail
              go_roundw
              case measure => simp [intOf]; omega
              case rel => exact ⟨j + 1, ao3, c3, m.take k ++ [x] ++ m.drop k, by go_num, by omega, congrArg (fun n => Value.slice ao3 n c3) (by simp only [List.length_append, List.length_take, List.length_drop, List.length_singleton]; omega), by rw [List.length_append, List.length_append, List.length_take, List.length_drop, List.length_singleton]; omega, hideIt (by rw [HT.out, setL_snoc, ← HM.out]; exact HINS.out.symm), HROW3.out, (HFZ.out.trans HF3.out (fun _ _ e => e)), fun q hq => Nat.le_trans HFZ.out.size (HN3.out q hq)⟩
            refine AllReadyH.cons rfl (fun K hK => ?_) ?_
            · go_simp
              have hF := hHeld.2.alloc (.cells #[.string x] 9)
              have l0 : wzd.heap.size < wc15.heap.size := row0.lt ⟨_, rfl, rfl⟩
              replace row0 := row0.fr0 ((Fr.refl (fun _ => False) wc15).alloc (.cells #[.string x] 9))
              have hat9 := ks_new wc15 [x] 9
              refine hK.out _ _ ?_ (fun hHeld => ?_)
              · exact HS.out _ hF
              clear hK K hF
              try simp only [Act.put, List.setIfInBounds_toArray, List.set_cons_zero, List.set_cons_succ]
              simp only [List.map_cons, List.map_nil] at hat9
              generalize wc15.alloc (.cells #[.string x] 9) = wc20 at *
              refine wpAnyH_ready (rs := [4]) (by kernel_rfl) (by simp) ?_
              refine AllReadyH.cons rfl (fun K hK => ?_) AllReadyH.nil
              obtain ⟨ao1, c1, wc21, hrun, row1, hFA, hao1⟩ := ks_append wc20 (some ⟨wzd.heap.size, 0, none⟩) 0 [] (m.take k) row0 aor capr (Or.inr (ktake (HROWZ.out.at.fr0 hHeld.2) k)) (by rw [List.length_take, List.length_nil]; omega)
              rw [List.length_take, Nat.min_eq_left hkm, List.length_nil, Nat.zero_add] at hrun
              rw [List.nil_append] at row1
              have hF := hHeld.2.trans hFA (fun i hi ⟨a, e1, e2⟩ => by obtain rfl := Option.some.inj e1; simp only at e2; omega)
              have hsz4 := hHeld.2.size
              have nao1 : ∀ q, blk ao1 q → wr.heap.size ≤ q := by
                rintro q ⟨a, e1, e2⟩
                rcases hao1 with e | e <;> rw [e] at e1 <;> obtain rfl := Option.some.inj e1 <;> simp only at e2 <;> omega
              have hat9 := hat9.fr hFA (fun q ⟨a, e1, e2⟩ ⟨a2, e3, e4⟩ => by obtain rfl := Option.some.inj e1; obtain rfl := Option.some.inj e3; simp only at e2 e4; omega)
              have HR := hideIt hrun
              clear hrun hFA hao1
              refine step_append_run rfl (.tmp 44) (.tmp 47) 22 22 rfl _ _ _ _ rfl rfl HR.out ?_
              refine hK.out _ _ ?_ (fun hHeld => ?_)
              · exact HS.out _ hF
              clear hK K hF HR
              try simp only [Act.put, List.setIfInBounds_toArray, List.set_cons_zero, List.set_cons_succ]
              refine wpAnyH_ready (rs := [10]) (by kernel_rfl) (by simp) ?_
              refine AllReadyH.cons rfl (fun K hK => ?_) AllReadyH.nil
              obtain ⟨ao2, c2, wc22, hrun, row2, hFA, hao2⟩ := ks_append wc21 ao1 c1 (m.take k) [x] row1 (some ⟨wc15.heap.size, 0, none⟩) 1 (Or.inr hat9) (by rw [List.length_take, List.length_singleton]; omega)
              rw [List.length_take, Nat.min_eq_left hkm, List.length_singleton] at hrun
              have hF := hHeld.2.trans hFA (fun i hi e => by have := nao1 i e; omega)
              have hsz5 := hHeld.2.size
              have nao2 : ∀ q, blk ao2 q → wr.heap.size ≤ q := by
                intro q hq
                rcases hao2 with e | e
                · exact nao1 q (e ▸ hq)
                · obtain ⟨a, e1, e2⟩ := hq
                  rw [e] at e1
                  obtain rfl := Option.some.inj e1
                  simp only at e2
                  omega
              have HR := hideIt hrun
              clear hrun hFA hao2 hat9 row1
              refine step_append_run rfl (.tmp 48) (.tmp 53) 22 22 rfl _ _ _ _ rfl rfl HR.out ?_
              refine hK.out _ _ ?_ (fun hHeld => ?_)
              · exact HS.out _ hF
              clear hK K hF HR
              try simp only [Act.put, List.setIfInBounds_toArray, List.set_cons_zero, List.set_cons_succ]
              refine wpAnyH_ready (rs := [14]) (by kernel_rfl) (by simp) ?_
              refine AllReadyH.cons rfl (fun K hK => ?_) AllReadyH.nil
              obtain ⟨ao3, c3, wc23, hrun, row3, hFA, hao3⟩ := ks_append wc22 ao2 c2 (m.take k ++ [x]) (m.drop k) row2 aoD (capr - k) (HDD.out _ hHeld.2) (by rw [List.length_append, List.length_take, List.length_singleton, List.length_drop]; omega)
              have hl1 : (m.take k ++ [x]).length = k + 1 := by rw [List.length_append, List.length_take, Nat.min_eq_left hkm, List.length_singleton]
              rw [← List.length_append, hl1, List.length_drop] at hrun
              have hF := hHeld.2.trans hFA (fun i hi e => by have := nao2 i e; omega)
              have hsz6 := hHeld.2.size
              have nao3 : ∀ q, blk ao3 q → wr.heap.size ≤ q := by
                intro q hq
                rcases hao3 with e | e
                · exact nao2 q (e ▸ hq)
                · obtain ⟨a, e1, e2⟩ := hq
                  rw [e] at e1
                  obtain rfl := Option.some.inj e1
                  simp only at e2
                  omega
              have HR := hideIt hrun
              clear hrun hFA hao3 row2
              refine step_append_run rfl (.tmp 54) (.tmp 57) 22 22 rfl _ _ _ _ rfl rfl HR.out ?_
              refine hK.out _ _ ?_ (fun hHeld => ?_)
              · exact HS.out _ hF
              clear hK K hF HR
              try simp only [Act.put, List.setIfInBounds_toArray, List.set_cons_zero, List.set_cons_succ]
              refine wpAnyH_take (i := 15) (v := ?v25) rfl (by kernel_rfl) (by kernel_rfl) (by kernel_rfl) (fun _ _ _ h => h) (Or.inl ⟨by rfl, ?hy25⟩) (by assumption) ?rest25
              case hy25 => intro w hSw; (try dsimp only at hSw); go_simp; (try with_reducible rfl)
              try simp only [Act.put, List.setIfInBounds_toArray, List.set_cons_zero, List.set_cons_succ]
              refine wpAnyH_done (by kernel_rfl) ?_ _
              have HROW3 := hideIt row3
              have HF3 := hideIt hHeld.2
              have HN3 := hideIt nao3
              clear row3 hHeld nao3
              go_wp2_with fail
              go_roundw
              case measure => simp [intOf]; omega
              case rel => exact ⟨j + 1, ao3, c3, m.take k ++ [x] ++ m.drop k, by go_num, by omega, congrArg (fun n => Value.slice ao3 n c3) (by simp only [List.length_append, List.length_take, List.length_drop, List.length_singleton]; omega), by rw [List.length_append, List.length_append, List.length_take, List.length_drop, List.length_singleton]; omega, hideIt (by rw [HT.out, setL_snoc, ← HM.out]; exact HINS.out.symm), HROW3.out, (HFZ.out.trans HF3.out (fun _ _ e => e)), fun q hq => Nat.le_trans HFZ.out.size (HN3.out q hq)⟩
            exact AllReadyH.nil
          refine AllReadyH.cons rfl (fun K hK => ?_) ?_
          · go_simp
            have hF := hHeld.2.alloc (.cells #[.string x] 9)
            have hat9 := ks_new wzd [x] 9
            refine hK.out _ _ ?_ (fun hHeld => ?_)
            · exact HS.out _ hF
            clear hK K hF
            try simp only [Act.put, List.setIfInBounds_toArray, List.set_cons_zero, List.set_cons_succ]
            simp only [List.map_cons, List.map_nil] at hat9
            generalize wzd.alloc (.cells #[.string x] 9) = wc24 at *
            refine wpAnyH_ready (rs := [0]) (by kernel_rfl) (by simp) ?_
            refine AllReadyH.cons rfl (fun K hK => ?_) AllReadyH.nil
            go_simp
            have hF := hHeld.2.alloc (.cells #[] 9)
            have hg0 := hHeld.2.size
            have l9 : wzd.heap.size < wc24.heap.size := katlt hat9
            replace hat9 := hat9.fr0 ((Fr.refl (fun _ => False) wc24).alloc (.cells #[] 9))
            have row0 : KsRow (wc24.alloc (.cells #[] 9)) (some ⟨wc24.heap.size, 0, none⟩) 0 [] := World.ownsRow_made wc24 #[] 0 (Nat.zero_le _) (by decide) rfl
            refine hK.out _ _ ?_ (fun hHeld => ?_)
            · exact HS.out _ hF
            clear hK K hF
            try simp only [Act.put, List.setIfInBounds_toArray, List.set_cons_zero, List.set_cons_succ]
            generalize wc24.alloc (.cells #[] 9) = wc25 at *
            refine wpAnyH_ready (rs := [4]) (by kernel_rfl) (by simp) ?_
            refine AllReadyH.cons rfl (fun K hK => ?_) AllReadyH.nil
            obtain ⟨ao1, c1, wc26, hrun, row1, hFA, hao1⟩ := ks_append wc25 (some ⟨wc24.heap.size, 0, none⟩) 0 [] (m.take k) row0 aor capr (Or.inr (ktake (HROWZ.out.at.fr0 hHeld.2) k)) (by rw [List.length_take, List.length_nil]; omega)
            rw [List.length_take, Nat.min_eq_left hkm, List.length_nil, Nat.zero_add] at hrun
            rw [List.nil_append] at row1
            have hF := hHeld.2.trans hFA (fun i hi ⟨a, e1, e2⟩ => by obtain rfl := Option.some.inj e1; simp only at e2; omega)
            have hsz4 := hHeld.2.size
            have nao1 : ∀ q, blk ao1 q → wr.heap.size ≤ q := by
              rintro q ⟨a, e1, e2⟩
              rcases hao1 with e | e <;> rw [e] at e1 <;> obtain rfl := Option.some.inj e1 <;> simp only at e2 <;> omega
            have hat9 := hat9.fr hFA (fun q ⟨a, e1, e2⟩ ⟨a2, e3, e4⟩ => by obtain rfl := Option.some.inj e1; obtain rfl := Option.some.inj e3; simp only at e2 e4; omega)
            have HR := hideIt hrun
            clear hrun hFA hao1
            refine step_append_run rfl (.tmp 44) (.tmp 47) 22 22 rfl _ _ _ _ rfl rfl HR.out ?_
            refine hK.out _ _ ?_ (fun hHeld => ?_)
            · exact HS.out _ hF
            clear hK K hF HR
            try simp only [Act.put, List.setIfInBounds_toArray, List.set_cons_zero, List.set_cons_succ]
            refine wpAnyH_ready (rs := [10]) (by kernel_rfl) (by simp) ?_
            refine AllReadyH.cons rfl (fun K hK => ?_) AllReadyH.nil
            obtain ⟨ao2, c2, wc27, hrun, row2, hFA, hao2⟩ := ks_append wc26 ao1 c1 (m.take k) [x] row1 (some ⟨wzd.heap.size, 0, none⟩) 1 (Or.inr hat9) (by rw [List.length_take, List.length_singleton]; omega)
            rw [List.length_take, Nat.min_eq_left hkm, List.length_singleton] at hrun
            have hF := hHeld.2.trans hFA (fun i hi e => by have := nao1 i e; omega)
            have hsz5 := hHeld.2.size
            have nao2 : ∀ q, blk ao2 q → wr.heap.size ≤ q := by
              intro q hq
              rcases hao2 with e | e
              · exact nao1 q (e ▸ hq)
              · obtain ⟨a, e1, e2⟩ := hq
                rw [e] at e1
                obtain rfl := Option.some.inj e1
                simp only at e2
                omega
            have HR := hideIt hrun
            clear hrun hFA hao2 hat9 row1
            refine step_append_run rfl (.tmp 48) (.tmp 53) 22 22 rfl _ _ _ _ rfl rfl HR.out ?_
            refine hK.out _ _ ?_ (fun hHeld => ?_)
            · exact HS.out _ hF
            clear hK K hF HR
            try simp only [Act.put, List.setIfInBounds_toArray, List.set_cons_zero, List.set_cons_succ]
            refine wpAnyH_ready (rs := [14]) (by kernel_rfl) (by simp) ?_
            refine AllReadyH.cons rfl (fun K hK => ?_) AllReadyH.nil
            obtain ⟨ao3, c3, wc28, hrun, row3, hFA, hao3⟩ := ks_append wc27 ao2 c2 (m.take k ++ [x]) (m.drop k) row2 aoD (capr - k) (HDD.out _ hHeld.2) (by rw [List.length_append, List.length_take, List.length_singleton, List.length_drop]; omega)
            have hl1 : (m.take k ++ [x]).length = k + 1 := by rw [List.length_append, List.length_take, Nat.min_eq_left hkm, List.length_singleton]
            rw [← List.length_append, hl1, List.length_drop] at hrun
            have hF := hHeld.2.trans hFA (fun i hi e => by have := nao2 i e; omega)
            have hsz6 := hHeld.2.size
            have nao3 : ∀ q, blk ao3 q → wr.heap.size ≤ q := by
              intro q hq
              rcases hao3 with e | e
              · exact nao2 q (e ▸ hq)
              · obtain ⟨a, e1, e2⟩ := hq
                rw [e] at e1
                obtain rfl := Option.some.inj e1
                simp only at e2
                omega
            have HR := hideIt hrun
            clear hrun hFA hao3 row2
            refine step_append_run rfl (.tmp 54) (.tmp 57) 22 22 rfl _ _ _ _ rfl rfl HR.out ?_
            refine hK.out _ _ ?_ (fun hHeld => ?_)
            · exact HS.out _ hF
            clear hK K hF HR
            try simp only [Act.put, List.setIfInBounds_toArray, List.set_cons_zero, List.set_cons_succ]
            refine wpAnyH_take (i := 15) (v := ?v26) rfl (by kernel_rfl) (by kernel_rfl) (by kernel_rfl) (fun _ _ _ h => h) (Or.inl ⟨by rfl, ?hy26⟩) (by assumption) ?rest26
            case hy26 => intro w hSw; (try dsimp only at hSw); go_simp; (try with_reducible rfl)
            try simp only [Act.put, List.setIfInBounds_toArray, List.set_cons_zero, List.set_cons_succ]
            refine wpAnyH_done (by kernel_rfl) ?_ _
            have HROW3 := hideIt row3
            have HF3 := hideIt hHeld.2
            have HN3 := hideIt nao3
            clear row3 hHeld nao3
            go_wp2_with fail
            go_roundw
            case measure => simp [intOf]; omega
            case rel => exact ⟨j + 1, ao3, c3, m.take k ++ [x] ++ m.drop k, by go_num, by omega, congrArg (fun n => Value.slice ao3 n c3) (by simp only [List.length_append, List.length_take, List.length_drop, List.length_singleton]; omega), by rw [List.length_append, List.length_append, List.length_take, List.length_drop, List.length_singleton]; omega, hideIt (by rw [HT.out, setL_snoc, ← HM.out]; exact HINS.out.symm), HROW3.out, (HFZ.out.trans HF3.out (fun _ _ e => e)), fun q hq => Nat.le_trans HFZ.out.size (HN3.out q hq)⟩
          exact AllReadyH.nil
    · obtain rfl : j = l.length := by omega
      have HM2 := hideIt (show m = setL l by have := HM.out; rwa [List.take_length] at this)
      go_wp2_with fail
      go_ret
      obtain rfl := HM2.out
      exact ⟨aor, capr, rfl, HROW.out, HF.out, HN.out⟩

end Go.Proofs.Ytnjogpojikjflaa

/- Keys: a row whose whole room is texts; it is written over. -/
namespace Go.Proofs.Ytnjogpojikjflaa
open Go.RowKit Go.IntWalk
set_option linter.unusedSimpArgs false
set_option linter.unusedVariables false
set_option maxRecDepth 100000

/-- A row of texts whose spare room is empty texts. -/
def KsFull (w : World) (ao : Option Addr) (cap : Nat) (l : List ByteArray) : Prop :=
  (ao = none ∧ cap = 0 ∧ l = []) ∨ ∃ g z, ao = some ⟨g, 0, none⟩ ∧ w.heap[g]? = some (.cells ((l ++ List.replicate z (⟨#[]⟩ : ByteArray)).map Value.string).toArray 9 (0, 0)) ∧ cap = l.length + z ∧ cap ≤ maxLen

theorem KsFull.row {w : World} {ao : Option Addr} {cap : Nat} {l : List ByteArray} (h : KsFull w ao cap l) : KsRow w ao cap l := by
  rcases h with ⟨rfl, rfl, rfl⟩ | ⟨g, zs, rfl, hg, hc, hm⟩
  · exact KsRow.nil w
  · refine ⟨by simp, Or.inr ⟨g, cap, _, rfl, Nat.zero_le _, hg, by omega, hm, by rw [hc]; simp, ?_⟩⟩
    simp [List.map_append]

theorem KsFull.fr {S : Nat → Prop} {w w' : World} {ao : Option Addr} {cap : Nat} {l : List ByteArray} (h : KsFull w ao cap l) (hF : Fr S w w') (hS : ∀ k, blk ao k → ¬ S k) : KsFull w' ao cap l := by
  rcases h with h | ⟨g, zs, rfl, hg, hc, hm⟩
  · exact Or.inl h
  · exact Or.inr ⟨g, zs, rfl, (hF.block g (Array.getElem?_eq_some_iff.1 hg).1 (hS g ⟨_, rfl, rfl⟩)).trans hg, hc, hm⟩

theorem over_texts_none (w : World) : Calls Try.prog 16 #[.slice none 0 0] w fun e w' => e = .returned (.tuple #[]) ∧ w' = w := by
  go_enter Try.func16, Try.ntmps16
  go_wp2
  refine wp_loop_rounds 1 ?_
  rw [rounds_succ]
  go_wp2
  go_end0
  exact ⟨rfl, rfl⟩

set_option maxRecDepth 100000 in
set_option maxHeartbeats 1000000 in
theorem over_texts_some (g n cap : Nat) (L : List ByteArray) (w : World) (hg : w.heap[g]? = some (.cells (L.map Value.string).toArray 9 (0, 0))) (hc : cap = L.length) (hn : n ≤ cap) (hm : cap ≤ 9223372036854775807) (hz : ∀ y ∈ L, y.size ≤ 1000000) :
    Calls Try.prog 16 #[.slice (some ⟨g, 0, none⟩) n cap] w fun e w' => e = .returned (.tuple #[]) ∧ Fr (fun k => k = g) w w' := by
  have HG := hideIt hg
  have hn1 : (0 : Int) ≤ (cap : Int) := by omega
  have hn2 : (cap : Int) ≤ (cap : Int) := by omega
  clear hg
  go_enter Try.func16, Try.ntmps16
  go_wp2_with fail
  go_loopw [3] (fun i wr => ∃ (j : Nat) (M : List ByteArray), i = .int .i64 j ∧ j ≤ cap ∧ M.length = cap ∧ wr.heap[g]? = some (.cells (M.map Value.string).toArray 9 (0, 0)) ∧ Fr (fun k => k = g) w wr ∧ Hid (M.drop j = L.drop j)) (fun i _ => cap - (intOf i).toNat)
  case atStart => exact ⟨0, L, rfl, Nat.zero_le _, hc.symm, HG.out, Fr.refl _ _, hideIt rfl⟩
  case round =>
    obtain ⟨j, M, rfl, hj, hM, hgr, hF, HD⟩ := hrel
    by_cases hlt : j < cap
    · have hsz : j < M.length := by omega
      have c0 : wr.cell? ⟨g, j, none⟩ = some (.string M[j]) := (cell_of_row wr g _ _ _ _ hgr).trans (by simp [hsz])
      have f0 : wr.frozen? ⟨g, j, none⟩ = false := frozen_of_row wr g _ _ _ hgr
      have HB := hideIt (fun v => heap_setCell_same _ _ j _ _ v hgr)
      have HF := hideIt (fun v => Fr.setCell hF (p := ⟨g, j, none⟩) (fun _ => rfl) v)
      have HS := hideIt (fun (y : ByteArray) => show ((M.map Value.string).toArray.setIfInBounds j (.string y)) = ((M.set j y).map Value.string).toArray by simp [List.map_set])
      have hjl : j < L.length := by omega
      have hxe : M[j] = L[j] := by
        have h1 : (M.drop j)[0]? = (L.drop j)[0]? := by rw [HD.out]
        simpa [hsz, hjl] using h1
      have hxs : M[j].size ≤ 1000000 := by rw [hxe]; exact hz _ (List.getElem_mem hjl)
      have HD2 := hideIt (fun (y : ByteArray) => show (M.set j y).drop (j + 1) = L.drop (j + 1) by
        rw [List.drop_set_of_lt (by omega), ← List.drop_drop, ← List.drop_drop, HD.out])
      clear hxe
      generalize M[j] = x at *
      have hxm : ¬ 9223372036854775807 < x.size + 1 := by omega
      clear hgr hF
      go_wp2_with fail
      go_roundw
      case measure => simp [intOf]; omega
      case rel => exact ⟨j + 1, M.set j _, by go_num, by omega, by simp [hM], (HB.out _).trans (congrArg (fun a => some (Obj.cells a 9 (0, 0))) (HS.out _)), HF.out _, hideIt (HD2.out _)⟩
    · obtain rfl : j = cap := by omega
      have HF := hideIt hF
      clear hgr hF
      go_wp2_with fail
      go_end0
      exact ⟨rfl, HF.out⟩

theorem over_texts_any (ao : Option Addr) (cap : Nat) (l : List ByteArray) (w : World) (h : KsFull w ao cap l) (hz : ∀ y ∈ l, y.size ≤ 1000000) :
    Calls Try.prog 16 #[.slice ao l.length cap] w fun e w' => e = .returned (.tuple #[]) ∧ Fr (blk ao) w w' := by
  rcases h with ⟨rfl, rfl, rfl⟩ | ⟨g, z, rfl, hg, hc, hm⟩
  · refine Calls.mono (over_texts_none w) ?_
    rintro e w' ⟨rfl, rfl⟩
    exact ⟨rfl, Fr.refl _ _⟩
  · refine Calls.mono (over_texts_some g l.length cap _ w hg (by simp [hc]) (by omega) (by unfold maxLen at hm; exact hm) (fun y hy => ?_)) ?_
    · rcases List.mem_append.1 hy with e | e
      · exact hz y e
      · rw [(List.mem_replicate.1 e).2]; decide
    · rintro e w' ⟨rfl, hF⟩
      exact ⟨rfl, hF.mono fun k e => ⟨_, rfl, e.symm⟩⟩

end Go.Proofs.Ytnjogpojikjflaa

/- Keys: append onto a row whose spare room is empty texts: so is what comes of it. -/
namespace Go.Proofs.Ytnjogpojikjflaa
open Go.RowKit Go.IntWalk
set_option linter.unusedSimpArgs false
set_option linter.unusedVariables false
set_option maxRecDepth 100000

theorem zero_texts (k : Nat) : Builtin.zeroCells #[.string ⟨#[]⟩] k = ((List.replicate k (⟨#[]⟩ : ByteArray)).map Value.string).toArray := by
  apply Array.ext'
  simp [Builtin.zeroCells]
  apply List.ext_getElem
  · simp
  · intro i h1 h2
    simp [Nat.mod_one]

theorem texts_one (l : List ByteArray) : ∀ u ∈ l.map Value.string, u.oneCell' = true := by
  intro u hu
  obtain ⟨x, _, rfl⟩ := List.mem_map.1 hu
  rfl

theorem ks_app_full (w : World) (ao : Option Addr) (cap : Nat) (l ys : List ByteArray) (hown : KsFull w ao cap l) (bo : Option Addr) (c : Nat) (hs0 : ys = [] ∨ KsAt w bo ys) (hb : l.length + ys.length ≤ 1099511627776) :
    ∃ ao' cap' w', (Builtin.append_ #[22, 22] 22 #[.slice ao l.length cap, .slice bo ys.length c]).run Try.prog w = .ok (.slice ao' (l.length + ys.length) cap') w' ∧ KsFull w' ao' cap' (l ++ ys) ∧ Fr (blk ao) w w' ∧ (ao' = ao ∨ ao' = some ⟨w.heap.size, 0, none⟩) := by
  obtain ⟨i, hi, hz, hsize, hby⟩ := info_parts Try.infoStr
  have hs := ks_src hs0 c
  have hm : l.length + ys.length ≤ maxLen := by unfold maxLen; omega
  have hfr : ∀ (cur : Array Value), Fr (blk ao) w (w.drew.alloc (.cells cur 9)) := fun cur => (Fr.refl _ _).drew.alloc _
  have grow : cap < l.length + ys.length → (Builtin.firstCells i.size l.length (.slice ao l.length cap)).run Try.prog w.drew = .ok (l.map Value.string).toArray w.drew →
      ∃ ao' cap' w', (Builtin.append_ #[22, 22] 22 #[.slice ao l.length cap, .slice bo ys.length c]).run Try.prog w = .ok (.slice ao' (l.length + ys.length) cap') w' ∧ KsFull w' ao' cap' (l ++ ys) ∧ Fr (blk ao) w w' ∧ (ao' = ao ∨ ao' = some ⟨w.heap.size, 0, none⟩) := by
    intro hlt hold
    have hr := run_append_grow_src (P := Try.prog) w 22 22 22 9 i (.string ⟨#[]⟩) Try.underlying22 hi hz ao l.length cap (l.map Value.string) hold (.slice bo ys.length c) ys.length (ys.map Value.string) (by rw [hsize]; exact hs) hlt (by unfold maxLen at hm; omega) (growslice_fits hlt (by rw [hby]; omega))
    refine ⟨_, _, _, hr, ?_, hfr _, Or.inr rfl⟩
    have hge := grownCap_ge w (l.length + ys.length) cap 9
    have hcm := grownCap_le_maxLen w (l.length + ys.length) cap 9 hm
    refine Or.inr ⟨w.heap.size, grownCap w (l.length + ys.length) cap 9 - (l.length + ys.length), rfl, ?_, ?_, hcm⟩
    · rw [show w.heap.size = w.drew.heap.size from rfl, heap_alloc_new w.drew _]
      congr 2
      apply Array.ext'
      have hz2 := zero_texts (grownCap w (l.length + ys.length) cap 9 - (l.length + ys.length))
      have e1 : (Value.string ⟨#[]⟩).cells = #[.string ⟨#[]⟩] := rfl
      simp [e1, hz2]
    · simp only [List.length_append]
      omega
  rcases hown with ⟨rfl, rfl, rfl⟩ | ⟨g, z, rfl, hg, hcap, hcm⟩
  · by_cases hc : ys = []
    · subst hc
      refine ⟨none, 0, w, ?_, Or.inl ⟨rfl, rfl, rfl⟩, Fr.refl _ _, Or.inl rfl⟩
      exact run_append_nothing (P := Try.prog) w 22 22 22 9 i Try.underlying22 hi none 0 0 (Nat.le_refl _) (.slice bo 0 c) (by rw [hsize]; exact hs)
    · exact grow (by have := List.length_pos_iff.2 hc; simpa using this) (run_firstCells_none w.drew i.size 0 0 0)
  · by_cases hroom : l.length + ys.length ≤ cap
    · have hzl : ys.length ≤ z := by omega
      have hst := run_storeCells_at Try.prog g (l.length * i.size) 9 (ys.map Value.string) 0 _ w hg (by rw [hsize]; simp; omega) (texts_one ys)
      simp only [Nat.add_zero] at hst
      have hcells := hs.cells
      rw [← hsize] at hcells
      refine ⟨some ⟨g, 0, none⟩, cap, w.setRow g (((l ++ List.replicate z (⟨#[]⟩ : ByteArray)).map Value.string).toArray.toList.take (l.length * i.size) ++ ys.map Value.string ++ ((l ++ List.replicate z (⟨#[]⟩ : ByteArray)).map Value.string).toArray.toList.drop (l.length * i.size + (ys.map Value.string).length)).toArray, ?_, ?_, ?_, Or.inl rfl⟩
      · rcases hs.kind with ⟨e', hk⟩ | hk <;> simp [Builtin.append_, run_underlying Try.underlying22, run_underlying hk, sizeOf, typeInfo, hi, hs.len, hroom, hcells, Addr.add_lit, hst]
      · refine Or.inr ⟨g, z - ys.length, rfl, ?_, ?_, hcm⟩
        · rw [setRow_heap w g _ _ 9 _ hg]
          congr 2
          apply Array.ext'
          simp [hsize, List.take_append, List.drop_append]
        · rw [hcap]; simp; omega
      · exact ⟨rfl, rfl, rfl, by simp, fun k _ hk => setRow_other w g k _ (fun e => hk ⟨⟨g, 0, none⟩, rfl, by simp [e]⟩)⟩
    · refine grow (by omega) (run_firstCells_some w.drew i.size l.length ⟨g, 0, none⟩ l.length cap (l.map Value.string) (by rw [hsize]; simp) (fun j u hu => ?_))
      have hj : j < l.length := by have := (List.getElem?_eq_some_iff.1 hu).1; simpa using this
      have h2 : w.cell? ⟨g, j, none⟩ = some u := by
        refine (cell_of_row w g j _ _ _ hg).trans ?_
        rw [List.getElem?_toArray, List.map_append, List.getElem?_append_left (by simpa using hj)]
        exact hu
      simpa [Addr.add_lit] using h2

end Go.Proofs.Ytnjogpojikjflaa

/- Keys: sift, Minus, Both, told in rows whose spare room is empty texts. -/
namespace Go.Proofs.Ytnjogpojikjflaa
open Go.RowKit Go.IntWalk
set_option linter.unusedSimpArgs false
set_option linter.unusedVariables false
set_option maxRecDepth 100000

theorem KsFull.fr0 {w w' : World} {ao : Option Addr} {cap : Nat} {l : List ByteArray} (h : KsFull w ao cap l) (hF : Fr (fun _ => False) w w') : KsFull w' ao cap l := h.fr hF (fun _ _ e => e)

/-- A new row, told, whose spare room is empty texts. -/
def RiseFull (l : List ByteArray) (w : World) (e : Ending) (w' : World) : Prop :=
  ∃ ao cap, e = .returned (.slice ao l.length cap) ∧ KsFull w' ao cap l ∧ Fr (fun _ => False) w w' ∧ ∀ k, blk ao k → w.heap.size ≤ k

/-- The loop of sift, in memory: what is told so far, what is left of either list. -/
structure SiftFt (M : Nat) (w wr : World) (tl rest l2 : List ByteArray) (ao : Option Addr) (cap : Nat) : Prop where
  row : KsFull wr ao cap tl
  new : ∀ k, blk ao k → M + 2 ≤ k
  mine : WkAt wr M M rest
  other : WkAt wr M (M + 1) l2
  fr : Fr (fun _ => False) w wr
  size : M + 2 ≤ wr.heap.size
  low : w.heap.size ≤ M

theorem SiftFt.reached {M : Nat} {w wr w' : World} {tl rest l2 l2' : List ByteArray} {ao : Option Addr} {cap : Nat} (h : SiftFt M w wr tl rest l2 ao cap) (hw : WkAt w' M (M + 1) l2') (hF : Fr (fun i => i = M + 1) wr w') : SiftFt M w w' tl rest l2' ao cap :=
  ⟨h.row.fr hF (fun k hk e => by have := h.new k hk; omega), h.new, h.mine.fr hF (by omega) (fun k hk e => by omega), hw, h.fr.trans hF (fun i hi e => by have := h.low; omega), Nat.le_trans h.size hF.size, h.low⟩

theorem SiftFt.stepped {M : Nat} {w wr w' : World} {tl rest rest' l2 : List ByteArray} {ao : Option Addr} {cap : Nat} (h : SiftFt M w wr tl rest l2 ao cap) (hw : WkAt w' M M rest') (hF : Fr (fun i => i = M) wr w') : SiftFt M w w' tl rest' l2 ao cap :=
  ⟨h.row.fr hF (fun k hk e => by have := h.new k hk; omega), h.new, hw, h.other.fr hF (by omega) (fun k hk e => by omega), h.fr.trans hF (fun i hi e => by have := h.low; omega), Nat.le_trans h.size hF.size, h.low⟩

theorem SiftFt.grown {M : Nat} {w wr w' : World} {tl tl' rest l2 : List ByteArray} {ao ao' : Option Addr} {cap cap' : Nat} {o : Obj} (h : SiftFt M w wr tl rest l2 ao cap) (hr : KsFull w' ao' cap' tl') (hF : Fr (blk ao) (wr.alloc o) w') (ha : ao' = ao ∨ ao' = some ⟨(wr.alloc o).heap.size, 0, none⟩) : SiftFt M w w' tl' rest l2 ao' cap' := by
  have hF0 : Fr (fun _ => False) wr (wr.alloc o) := (Fr.refl _ _).alloc _
  have hF1 : Fr (blk ao) wr w' := (hF0.mono (fun _ e => e.elim)).trans hF (fun _ _ e => e)
  have hb : ∀ k, blk ao k → M + 2 ≤ k := h.new
  refine ⟨hr, fun k hk => ?_, h.mine.fr hF1 (fun e => by have := hb _ e; omega) (fun k hk e => by have := hb _ e; omega), h.other.fr hF1 (fun e => by have := hb _ e; omega) (fun k hk e => by have := hb _ e; omega), h.fr.trans hF1 (fun i hi e => by have := hb _ e; have := h.low; omega), Nat.le_trans h.size hF1.size, h.low⟩
  rcases ha with e | e
  · subst e; exact hb k hk
  · subst e
    obtain ⟨a, e1, e2⟩ := hk
    obtain rfl := Option.some.inj e1
    have := h.size
    simp at e2
    omega

set_option maxRecDepth 100000 in
set_option maxHeartbeats 2000000 in
theorem ksift_full (ao bo : Option Addr) (ca cb : Nat) (a b : List ByteArray) (v : Bool) (w : World) (ha : a = [] ∨ KsAt w ao a) (hb : b = [] ∨ KsAt w bo b) (hal : a.length ≤ 1000000) (hbl : b.length ≤ 1000000) (hak : ∀ x ∈ a, x.size ≤ maxLen) (hbk : ∀ x ∈ b, x.size ≤ maxLen) :
    Calls Try.prog 29 #[.slice ao a.length ca, .slice bo b.length cb, .bool v] w (RiseFull (siftL a b v) w) := by
  have hS1 := hideIt (ksort_any ao ca a w ha (by omega) hak)
  have HB := hideIt hb
  have HBK := hideIt hbk
  have hlA := setL_len a
  have hlB := setL_len b
  have HRA := hideIt (setL_rises a)
  have HRB := hideIt (setL_rises b)
  have HMB := hideIt (fun k => inL_eq (mem_setL b k))
  clear ha hb hak hbk
  unfold siftL
  generalize setL a = A at *
  go_enter Try.func29, Try.ntmps29
  go_wp2_with fail
  refine Calls.mono hS1.out ?_
  rintro e w1 ⟨ao1, cap1, rfl, hrow1, hF1, hn1⟩
  have HF1 := hideIt hF1
  have HROW1 := hideIt hrow1
  have hS2 := hideIt (ksort_any bo cb b w1 (kats_fr0 HB.out hF1) (by omega) HBK.out)
  clear hF1 hrow1 hn1 hS1
  generalize setL b = B at *
  go_wp2_with fail
  refine Calls.mono hS2.out ?_
  rintro e w2 ⟨ao2, cap2, rfl, hrow2, hF2, hn2⟩
  have HF2 := hideIt (HF1.out.trans hF2 (fun _ _ e => e))
  have HROW1' := hideIt (HROW1.out.fr0 hF2)
  have HROW2 := hideIt hrow2
  clear hF2 hrow2 hn2 hS2 HROW1 HF1
  go_wp2_with fail
  have HW1 := hideIt (boxes_one ao1 ao2 cap1 cap2 A B HROW1'.out HROW2.out 56)
  have HW2 := hideIt (boxes_two ao1 ao2 cap1 cap2 A B HROW1'.out HROW2.out 56)
  have HF3 := hideIt ((HF2.out.alloc (.cells #[.slice ao1 A.length cap1] 56)).alloc (.cells #[.slice ao2 B.length cap2] 56))
  have HSZ := hideIt (show w2.heap.size + 2 ≤ ((w2.alloc (.cells #[.slice ao1 A.length cap1] 56)).alloc (.cells #[.slice ao2 B.length cap2] 56)).heap.size by simp)
  have HWM := hideIt HF2.out.size
  have hHd := hideIt (khead_any ao1 cap1 A _ (Or.inr (HROW1'.out.at.fr0 (((Fr.refl (fun _ => False) w2).alloc (.cells #[.slice ao1 A.length cap1] 56)).alloc (.cells #[.slice ao2 B.length cap2] 56)))))
  clear HROW1' HROW2 HF2
  generalize (w2.alloc (.cells #[.slice ao1 A.length cap1] 56)).alloc (.cells #[.slice ao2 B.length cap2] 56) = w3 at *
  generalize w2.heap.size = M at *
  refine Calls.mono hHd.out ?_
  rintro e w3' ⟨rfl, rfl⟩
  clear hHd
  go_wp2_with fail
  go_loopw [7, 10, 11] (fun t7 t10 t11 wr => ∃ tl rest l2 ao3 cap3, t7 = .slice ao3 tl.length cap3 ∧ t10 = .string (headK rest) ∧ t11 = .bool (!rest.isEmpty) ∧ Hid (SiftFt M w wr tl rest l2 ao3 cap3) ∧ Hid (SiftP A b v rest l2 tl)) (fun _ _ _ wr => wkLen wr M)
  case atStart => exact ⟨[], A, B, none, 0, rfl, rfl, rfl, hideIt ⟨Or.inl ⟨rfl, rfl, rfl⟩, fun k hk => (by obtain ⟨a, e, _⟩ := hk; cases e), HW1.out, HW2.out, HF3.out, HSZ.out, HWM.out⟩, hideIt ⟨[], rfl, rfl, HRB.out, fun k _ => HMB.out k⟩⟩
  case round =>
    obtain ⟨tl, rest, l2, ao3, cap3, rfl, rfl, rfl, HI, HP⟩ := hrel
    cases rest with
    | nil =>
      have HFIN := hideIt (show RiseFull (A.filter fun k => inL b k == v) w (.returned (.slice ao3 tl.length cap3)) wr from by
        obtain ⟨pre, h1, h2, _⟩ := HP.out
        rw [List.append_nil] at h1
        subst h1
        rw [← h2]
        exact ⟨ao3, cap3, rfl, HI.out.row, HI.out.fr, fun k hk => by have := HI.out.new k hk; have h2 := HI.out.low; omega⟩)
      simp only [headK_nil, List.isEmpty_nil, Bool.not_true]
      go_wp2_with fail
      go_ret
      exact HFIN.out
    | cons x r =>
      have HLN := hideIt (show wkLen wr M = r.length + 1 from HI.out.mine.len)
      have hRe := hideIt (by have := kreach_any M (M + 1) l2 x wr HI.out.other; unfold ReachPost at this; rw [HP.out.hit] at this; exact this)
      simp only [headK_cons, List.isEmpty_cons, Bool.not_false]
      have HLT := hideIt HP.out.short
      have HNX := hideIt (fun tl' => HP.out.next (tl' := tl') HRA.out)
      clear HP
      generalize inL b x = q at *
      by_cases hq : q = v
      · subst hq
        have hqq : (q == q) = true := by simp
        go_wp2_with fail
        refine Calls.mono hRe.out ?_
        rintro e w4 ⟨rfl, hw4, hf4⟩
        have HI4 := hideIt (HI.out.reached hw4 hf4)
        clear hRe hw4 hf4
        obtain ⟨ao5, cap5, w5, hrun, hrow5, hf5, hao5⟩ := ks_app_full (w4.alloc (.cells #[.string x] 9)) ao3 cap3 tl [x] (HI4.out.row.fr0 ((Fr.refl _ _).alloc _)) (some ⟨w4.heap.size, 0, none⟩) 1 (Or.inr (ks_new w4 [x] 9)) (by have := HLT.out; simp; omega)
        rw [← List.length_append] at hrun
        have HR := hideIt hrun
        have HI5 := hideIt (HI4.out.grown hrow5 hf5 hao5)
        have HP5 := hideIt (HNX.out (tl ++ [x]) (by simp))
        clear hrun hrow5 hf5 hao5 HNX HI4 HI
        generalize tl ++ [x] = tl' at *
        have HST := hideIt (kstep_any M M x r w5 HI5.out.mine)
        go_wp2_with (first | (at_builtin; refine wpList_append_run _ rfl (.tmp 35) (.tmp 37) 22 22 rfl _ _ _ _ rfl rfl HR.out ?_))
        refine Calls.mono HST.out ?_
        rintro e w6 ⟨rfl, hw6, hf6⟩
        have HI6 := hideIt (HI5.out.stepped hw6 hf6)
        obtain ⟨_, ao7, cap7, hc7, _, hk7, _, _⟩ := hw6
        have hHd := hideIt (khead_any ao7 cap7 r w6 hk7)
        clear hf6 HI5 HST hk7 HR
        go_wp2_with fail
        refine Calls.mono hHd.out ?_
        rintro e w7 ⟨rfl, rfl⟩
        clear hHd
        go_wp2_with fail
        go_roundw
        case measure => rw [HLN.out, HI6.out.mine.len]; exact Nat.lt_succ_self _
        case rel => exact ⟨tl', r, _, ao5, cap5, rfl, rfl, rfl, HI6, HP5⟩
      · have hqq : (q == v) = false := beq_eq_false_iff_ne.2 hq
        clear hq
        go_wp2_with fail
        refine Calls.mono hRe.out ?_
        rintro e w4 ⟨rfl, hw4, hf4⟩
        have HI4 := hideIt (HI.out.reached hw4 hf4)
        have HP5 := hideIt (HNX.out tl (by rw [hqq]; simp))
        clear hRe hw4 hf4 HNX HI
        have HST := hideIt (kstep_any M M x r w4 HI4.out.mine)
        go_wp2_with fail
        refine Calls.mono HST.out ?_
        rintro e w6 ⟨rfl, hw6, hf6⟩
        have HI6 := hideIt (HI4.out.stepped hw6 hf6)
        obtain ⟨_, ao7, cap7, hc7, _, hk7, _, _⟩ := hw6
        have hHd := hideIt (khead_any ao7 cap7 r w6 hk7)
        clear hf6 HI4 HST hk7
        go_wp2_with fail
        refine Calls.mono hHd.out ?_
        rintro e w7 ⟨rfl, rfl⟩
        clear hHd
        go_wp2_with fail
        go_roundw
        case measure => rw [HLN.out, HI6.out.mine.len]; exact Nat.lt_succ_self _
        case rel => exact ⟨tl, r, _, ao3, cap3, rfl, rfl, rfl, HI6, HP5⟩

theorem kminus_full (ao bo : Option Addr) (ca cb : Nat) (a b : List ByteArray) (w : World) (ha : a = [] ∨ KsAt w ao a) (hb : b = [] ∨ KsAt w bo b) (hal : a.length ≤ 1000000) (hbl : b.length ≤ 1000000) (hak : ∀ x ∈ a, x.size ≤ maxLen) (hbk : ∀ x ∈ b, x.size ≤ maxLen) :
    Calls Try.prog 9 #[.slice ao a.length ca, .slice bo b.length cb] w (RiseFull (siftL a b false) w) := by
  have hS := hideIt (ksift_full ao bo ca cb a b false w ha hb hal hbl hak hbk)
  clear ha hb hak hbk
  generalize siftL a b false = s at *
  go_enter Try.func9, Try.ntmps9
  go_wp2_with fail
  refine Calls.mono hS.out ?_
  rintro e w1 ⟨ao1, cap1, rfl, hrow1, hF1, hn1⟩
  have HFIN := hideIt (show RiseFull s w (.returned (.slice ao1 s.length cap1)) w1 from ⟨ao1, cap1, rfl, hrow1, hF1, hn1⟩)
  clear hS hrow1 hF1 hn1
  go_wp2_with fail
  go_ret
  exact HFIN.out

theorem kboth_full (ao bo : Option Addr) (ca cb : Nat) (a b : List ByteArray) (w : World) (ha : a = [] ∨ KsAt w ao a) (hb : b = [] ∨ KsAt w bo b) (hal : a.length ≤ 1000000) (hbl : b.length ≤ 1000000) (hak : ∀ x ∈ a, x.size ≤ maxLen) (hbk : ∀ x ∈ b, x.size ≤ maxLen) :
    Calls Try.prog 10 #[.slice ao a.length ca, .slice bo b.length cb] w (RiseFull (siftL a b true) w) := by
  have hS := hideIt (ksift_full ao bo ca cb a b true w ha hb hal hbl hak hbk)
  clear ha hb hak hbk
  generalize siftL a b true = s at *
  go_enter Try.func10, Try.ntmps10
  go_wp2_with fail
  refine Calls.mono hS.out ?_
  rintro e w1 ⟨ao1, cap1, rfl, hrow1, hF1, hn1⟩
  have HFIN := hideIt (show RiseFull s w (.returned (.slice ao1 s.length cap1)) w1 from ⟨ao1, cap1, rfl, hrow1, hF1, hn1⟩)
  clear hS hrow1 hF1 hn1
  go_wp2_with fail
  go_ret
  exact HFIN.out

end Go.Proofs.Ytnjogpojikjflaa

/- Keys: joined spans, asked by binary search. -/
namespace Go.Proofs.Ytnjogpojikjflaa
open Go.RowKit Go.IntWalk
set_option linter.unusedSimpArgs false
set_option linter.unusedVariables false
set_option maxRecDepth 100000

theorem Jd.pairs : ∀ l : List Sp, Jd l → l.Pairwise (fun s t => hi s ≠ [] ∧ hi s < lo t) ∧ ∀ s ∈ l, NonE s
  | [], _ => ⟨List.Pairwise.nil, by simp⟩
  | s :: r, h => by
    obtain ⟨h1, h2⟩ := Jd.pairs r h.tail
    refine ⟨List.pairwise_cons.2 ⟨fun t ht => ?_, h1⟩, fun t ht => ?_⟩
    · have := Jd.behind r s h t ht
      exact ⟨this.1, this.2.1⟩
    · rcases List.mem_cons.1 ht with e | e
      · subst e; exact h.head
      · exact h2 t e

theorem Jd.lo_lt {l : List Sp} (h : Jd l) {i j : Nat} (hij : i < j) (hj : j < l.length) : (hi (l[i]'(by omega)) ≠ [] ∧ hi (l[i]'(by omega)) < lo l[j]) ∧ lo (l[i]'(by omega)) < lo l[j] := by
  obtain ⟨h1, h2⟩ := Jd.pairs l h
  have hp := List.pairwise_iff_getElem.1 h1 i j (by omega) hj hij
  refine ⟨hp, ?_⟩
  have hn := h2 (l[i]'(by omega)) (List.getElem_mem _)
  rcases hn with e | e
  · exact absurd e hp.1
  · exact List.lt_trans e hp.2

/-- Where a key stands among joined spans. -/
structure Stands (l : List Sp) (k : By) (n : Nat) : Prop where
  le : n ≤ l.length
  ahead : ∀ t (h : t < l.length), t < n → lo l[t] < k
  rest : ∀ t (h : t < l.length), n ≤ t → ¬ lo l[t] < k

theorem Stands.hits {l : List Sp} {k : By} {n : Nat} (h : Stands l k n) (hj : Jd l) (hn : n < l.length) (he : lo l[n] = k) : hasB l k = true := by
  rw [hasB_iff]
  obtain ⟨_, h2⟩ := Jd.pairs l hj
  exact ⟨l[n], List.getElem_mem hn, he ▸ (h2 _ (List.getElem_mem hn)).lo_in⟩

theorem Stands.last {l : List Sp} {k : By} {n : Nat} (h : Stands l k n) (hj : Jd l) (hn : 0 < n) (hne : ∀ (hh : n < l.length), lo l[n] ≠ k) : hasB l k = decide (KeyIn (l[n - 1]'(by have := h.le; omega)) k) := by
  have hle := h.le
  rw [Bool.eq_iff_iff, hasB_iff, decide_eq_true_eq]
  constructor
  · rintro ⟨s, hs, hk⟩
    obtain ⟨t, ht, rfl⟩ := List.getElem_of_mem hs
    by_cases h1 : t = n - 1
    · subst h1; exact hk
    · exfalso
      by_cases h2 : t < n
      · have h3 := (hj.lo_lt (i := t) (j := n - 1) (by omega) (by omega)).1
        have h4 := h.ahead (n - 1) (by omega) (by omega)
        rcases hk.2 with e | e
        · exact h3.1 e
        · exact List.lt_irrefl _ (List.lt_trans (List.lt_trans e h3.2) h4)
      · have h3 := h.rest n (by omega) (Nat.le_refl _)
        have h4 : k < lo (l[n]'(by omega)) := by
          rcases by_tri k (lo (l[n]'(by omega))) with e | e | e
          · exact e
          · exact absurd e.symm (hne (by omega))
          · exact absurd e h3
        by_cases h5 : t = n
        · subst h5; exact hk.1 h4
        · exact hk.1 (List.lt_trans h4 (hj.lo_lt (i := n) (j := t) (by omega) ht).2)
  · intro hk
    exact ⟨_, List.getElem_mem _, hk⟩

theorem Stands.none {l : List Sp} {k : By} (h : Stands l k 0) (hj : Jd l) (hne : ∀ (hh : 0 < l.length), lo l[0] ≠ k) : hasB l k = false := by
  cases hb : hasB l k with
  | false => rfl
  | true =>
    exfalso
    obtain ⟨s, hs, hk⟩ := (hasB_iff l k).1 hb
    obtain ⟨t, ht, rfl⟩ := List.getElem_of_mem hs
    have h4 : k < lo (l[0]'(by omega)) := by
      rcases by_tri k (lo (l[0]'(by omega))) with e | e | e
      · exact e
      · exact absurd e.symm (hne (by omega))
      · exact absurd e (h.rest 0 (by omega) (Nat.le_refl _))
    by_cases h5 : t = 0
    · subst h5; exact hk.1 h4
    · exact hk.1 (List.lt_trans h4 (hj.lo_lt (i := 0) (j := t) (by omega) ht).2)

theorem area1_any (s : Sp) (k : ByteArray) (w : World) : Calls Try.prog 46 #[.agg #[.string s.1, .string s.2], .string k] w fun e w' => e = .returned (.int .i64 (cmpS (lo s) k.toList)) ∧ Fr (fun _ => False) w w' := by
  go_enter Try.func46, Try.ntmps46
  go_wp2_with (go_at_call 47; refine (cmp_any _ _ _).mono ?_; rintro e w' ⟨rfl, rfl⟩)
  all_goals
    go_ret
    exact ⟨rfl, (Fr.refl _ _).alloc _⟩

theorem cmpS_neg (a b : By) : cmpS a b < 0 ↔ a < b := by
  unfold cmpS
  split
  · rename_i h; exact ⟨fun _ => h, fun _ => by decide⟩
  · rename_i h
    split
    · exact ⟨fun e => absurd e (by decide), fun e => absurd e h⟩
    · exact ⟨fun e => absurd e (by decide), fun e => absurd e h⟩

theorem cmpS_zero (a b : By) : cmpS a b = 0 ↔ a = b := by
  unfold cmpS
  split
  · rename_i h; exact ⟨fun e => absurd e (by decide), fun e => by subst e; exact absurd h (List.lt_irrefl _)⟩
  · split
    · rename_i h; exact ⟨fun _ => h, fun _ => rfl⟩
    · rename_i h; exact ⟨fun e => absurd e (by decide), fun e => absurd e h⟩

/-- A span begins by a key, at a place. -/
def AtLo (l : List Sp) (k : By) (n : Nat) : Prop := ∃ h : n < l.length, lo l[n] = k

def BsfPost (l : List Sp) (k : By) (w : World) (e : Ending) (w' : World) : Prop :=
  ∃ (n : Nat) (f : Bool), e = .returned (.tuple #[.int .i64 n, .bool f]) ∧ Stands l k n ∧ (f = true ↔ AtLo l k n) ∧ Fr (fun _ => False) w w'

set_option maxRecDepth 100000 in
set_option maxHeartbeats 2000000 in
theorem kbsf_any (ao : Option Addr) (cap : Nat) (l : List Sp) (k : ByteArray) (w : World) (h : l = [] ∨ SpsAt w ao l) (hj : Jd l) (hl : l.length ≤ 1000000) :
    Calls Try.prog 45 #[.slice ao l.length cap, .string k, .func (.func 46) #[] #[]] w (BsfPost l k.toList w) := by
  have HH := hideIt h
  have HJ := hideIt hj
  clear h hj
  go_enter Try.func45, Try.ntmps45
  go_wp2_with fail
  go_loopw [9, 10] (fun s9 s10 wr => ∃ i j : Nat, s9 = .int .i64 i ∧ s10 = .int .i64 j ∧ i ≤ j ∧ j ≤ l.length ∧ Hid ((∀ t (h : t < l.length), t < i → lo l[t] < k.toList) ∧ (∀ t (h : t < l.length), j ≤ t → ¬ lo l[t] < k.toList)) ∧ Hid (Fr (fun _ => False) w wr)) (fun s9 s10 _ => (intOf s10).toNat - (intOf s9).toNat)
  case atStart => exact ⟨0, l.length, rfl, rfl, Nat.zero_le _, Nat.le_refl _, hideIt ⟨fun t h e => by omega, fun t h e => by omega⟩, hideIt (Fr.refl _ _)⟩
  case round =>
    obtain ⟨i, j, rfl, rfl, hij, hjl, HI, HF⟩ := hrel
    by_cases hlt : i < j
    · have hm : (i + j) / 2 < l.length := by omega
      obtain ⟨b, off, rfl, hbl, c0, c1⟩ := SpsAt.get (ats_fr0 HH.out HF.out) ((i + j) / 2) hm
      have hA := hideIt (fun u => area1_any l[(i + j) / 2] k u)
      have HLT := hideIt (fun (hx : lo l[(i + j) / 2] < k.toList) t (h : t < l.length) (h2 : t < (i + j) / 2 + 1) => show lo l[t] < k.toList from by
        by_cases e : t = (i + j) / 2
        · subst e; exact hx
        · exact List.lt_trans (HJ.out.lo_lt (i := t) (j := (i + j) / 2) (by omega) hm).2 hx)
      have HGE := hideIt (fun (hx : ¬ lo l[(i + j) / 2] < k.toList) t (h : t < l.length) (h2 : (i + j) / 2 ≤ t) => show ¬ lo l[t] < k.toList from by
        by_cases e : t = (i + j) / 2
        · subst e; exact hx
        · exact fun e2 => hx (List.lt_trans (HJ.out.lo_lt (i := (i + j) / 2) (j := t) (by omega) h).2 e2))
      have HM := hideIt (show i ≤ (i + j) / 2 ∧ (i + j) / 2 < j by omega)
      have hcx := cmpS_neg (lo l[(i + j) / 2]) k.toList
      generalize l[(i + j) / 2] = x at *
      generalize cmpS (lo x) k.toList = c at *
      by_cases hc : c < 0
      · have HX := hideIt (HLT.out (hcx.1 hc))
        clear hcx
        go_wp2_with fail
        refine Calls.mono (hA.out _) ?_
        rintro e w' ⟨rfl, hF⟩
        have HG := hideIt hF
        clear hF
        go_wp2_with fail
        go_roundw
        case measure => simp [intOf]; omega
        case rel => exact ⟨(i + j) / 2 + 1, j, by rw [show ((i : Int) + (j : Int)) / 2 + 1 = (((i + j) / 2 + 1 : Nat) : Int) by omega], rfl, by omega, hjl, hideIt ⟨HX.out, HI.out.2⟩, hideIt (HF.out.trans HG.out (fun _ _ e => e))⟩
      · have HX := hideIt (HGE.out (fun e => hc (hcx.2 e)))
        clear hcx
        go_wp2_with fail
        refine Calls.mono (hA.out _) ?_
        rintro e w' ⟨rfl, hF⟩
        have HG := hideIt hF
        clear hF
        go_wp2_with fail
        go_roundw
        case measure => simp [intOf]; omega
        case rel => exact ⟨i, (i + j) / 2, rfl, by rw [show ((i : Int) + (j : Int)) / 2 = (((i + j) / 2 : Nat) : Int) by omega], by omega, by omega, hideIt ⟨HI.out.1, HX.out⟩, hideIt (HF.out.trans HG.out (fun _ _ e => e))⟩
    · obtain rfl : j = i := by omega
      have HST := hideIt (show Stands l k.toList j from ⟨hjl, HI.out.1, HI.out.2⟩)
      by_cases hn : j < l.length
      · obtain ⟨b, off, rfl, hbl, c0, c1⟩ := SpsAt.get (ats_fr0 HH.out HF.out) j hn
        have hA := hideIt (fun u => area1_any l[j] k u)
        have HZ := hideIt (show (decide (cmpS (lo l[j]) k.toList = 0) = true) ↔ AtLo l k.toList j by rw [decide_eq_true_eq, cmpS_zero]; exact ⟨fun e => ⟨hn, e⟩, fun ⟨_, e⟩ => e⟩)
        generalize l[j] = x at *
        generalize cmpS (lo x) k.toList = c at *
        by_cases hc : c = 0
        · subst hc
          go_wp2_with fail
          refine Calls.mono (hA.out _) ?_
          rintro e w' ⟨rfl, hF⟩
          have HG := hideIt hF
          clear hF
          go_wp2_with fail
          go_ret2
          exact ⟨j, true, rfl, HST.out, by simpa using HZ.out, HF.out.trans HG.out (fun _ _ e => e)⟩
        · have hc' : (c == 0) = false := beq_eq_false_iff_ne.2 hc
          have HZ2 := HZ
          rw [decide_eq_false hc] at HZ2
          go_wp2_with fail
          refine Calls.mono (hA.out _) ?_
          rintro e w' ⟨rfl, hF⟩
          have HG := hideIt hF
          clear hF
          go_wp2_with fail
          go_ret2
          exact ⟨j, false, rfl, HST.out, HZ2.out, HF.out.trans HG.out (fun _ _ e => e)⟩
      · obtain rfl : j = l.length := by omega
        go_wp2_with fail
        go_ret2
        exact ⟨l.length, false, rfl, HST.out, ⟨fun e => (by cases e), fun ⟨h, _⟩ => absurd h (Nat.lt_irrefl _)⟩, HF.out⟩

end Go.Proofs.Ytnjogpojikjflaa

/- Keys: whether a key is in joined spans; Among. -/
namespace Go.Proofs.Ytnjogpojikjflaa
open Go.RowKit Go.IntWalk
set_option linter.unusedSimpArgs false
set_option linter.unusedVariables false
set_option maxRecDepth 100000

theorem kj_jd (l : List Sp) : Jd (joinC l) := (sortC_sorted l).jd
theorem kj_has (l : List Sp) (k : By) : hasB (joinC l) k = hasB l k := by
  rw [Bool.eq_iff_iff, hasB_iff, hasB_iff]
  exact (sortC_sorted l).keys k

set_option maxRecDepth 100000 in
set_option maxHeartbeats 1000000 in
theorem karea_any (ao : Option Addr) (cap : Nat) (l : List Sp) (k : ByteArray) (w : World) (h : l = [] ∨ SpsAt w ao l) (hj : Jd l) (hl : l.length ≤ 1000000) :
    Calls Try.prog 32 #[.slice ao l.length cap, .string k] w fun e w' => e = .returned (.bool (hasB l k.toList)) ∧ Fr (fun _ => False) w w' := by
  have hB := hideIt (kbsf_any ao cap l k w h hj hl)
  have HH := hideIt h
  have HJ := hideIt hj
  clear h hj
  go_enter Try.func32, Try.ntmps32
  go_wp2_with fail
  refine Calls.mono hB.out ?_
  rintro e w1 ⟨n, f, rfl, hst, hf, hF⟩
  have HST := hideIt hst
  have HFF := hideIt hf
  have HF := hideIt hF
  have hle := hst.le
  clear hst hf hF hB
  cases f with
  | true =>
    have HX := hideIt (show hasB l k.toList = true from by obtain ⟨h1, h2⟩ := HFF.out.1 rfl; exact HST.out.hits HJ.out h1 h2)
    go_wp2_with fail
    go_ret
    exact ⟨by rw [HX.out]; rfl, HF.out⟩
  | false =>
    have HNE := hideIt (fun (hh : n < l.length) => show lo l[n] ≠ k.toList from fun e => by have := HFF.out.2 ⟨hh, e⟩; cases this)
    cases n with
    | zero =>
      have HX := hideIt (HST.out.none HJ.out HNE.out)
      go_wp2_with fail
      go_ret
      exact ⟨by rw [HX.out]; rfl, HF.out⟩
    | succ m =>
      have hm : m < l.length := by omega
      obtain ⟨b, off, rfl, hbl, c0, c1⟩ := SpsAt.get (ats_fr0 HH.out HF.out) m hm
      have HX := hideIt (show hasB l k.toList = decide (KeyIn l[m] k.toList) from HST.out.last HJ.out (by omega) HNE.out)
      have hI := hideIt (fun u => in_any l[m] k u)
      have h0 : (0 : Int) < ((m + 1 : Nat) : Int) := by omega
      have h1 : IntKind.i64.wrap (((m + 1 : Nat) : Int) - 1) = (m : Int) := by rw [show (((m + 1 : Nat) : Int) - 1) = (m : Int) by omega]; exact i64_in _ (by omega)
      have h2 : (m : Int) < (l.length : Int) := by omega
      generalize l[m] = x at *
      generalize decide (KeyIn x k.toList) = v at *
      clear HNE HST HFF
      go_wp2_with fail
      refine Calls.mono (hI.out _) ?_
      rintro e w2 ⟨rfl, hF2⟩
      have HF2 := hideIt (HF.out.trans hF2 (fun _ _ e => e))
      clear hF2
      go_wp2_with fail
      go_ret
      exact ⟨by rw [HX.out]; rfl, HF2.out⟩

end Go.Proofs.Ytnjogpojikjflaa

/- Keys: Among, Meets. -/
namespace Go.Proofs.Ytnjogpojikjflaa
open Go.RowKit Go.IntWalk
set_option linter.unusedSimpArgs false
set_option linter.unusedVariables false
set_option maxRecDepth 100000

theorem kjn_len : ∀ (r : List Sp) (last : Sp), (jn last r).length ≤ r.length + 1
  | [], _ => by simp [jn]
  | s :: r, last => by
    rw [jn]
    split
    · have := kjn_len r s
      simp only [List.length_cons]
      omega
    · have := kjn_len r (grow1 last s)
      simp only [List.length_cons]
      omega

theorem kj_len (l : List Sp) : (joinC l).length ≤ l.length := by
  have h : (sortC (fulls l)).length ≤ l.length := by rw [sortC_len]; exact fulls_len l
  unfold joinC
  generalize sortC (fulls l) = m at *
  cases m with
  | nil => simp [jl]
  | cons s r => exact Nat.le_trans (kjn_len r s) h

/-- Those of some that are in spans. -/
def amongL (l : List ByteArray) (s : List Sp) : List ByteArray := setL (l.filter fun k => hasB s k.toList)

set_option maxRecDepth 100000 in
set_option maxHeartbeats 1000000 in
theorem kamong_any (ao bo : Option Addr) (ca cb : Nat) (l : List ByteArray) (s : List Sp) (w : World) (h : l = [] ∨ KsAt w ao l) (hs : s = [] ∨ SpsAt w bo s) (hl : l.length ≤ 1000000) (hsl : s.length ≤ 1000000) (hk : ∀ x ∈ l, x.size ≤ maxLen) :
    Calls Try.prog 23 #[.slice ao l.length ca, .slice bo s.length cb] w (RisePost (amongL l s) w) := by
  have HH := hideIt h
  have HK := hideIt hk
  have hJ := hideIt (join_any bo cb s w hs (by omega))
  have HHB := hideIt (kj_has s)
  have HJD := hideIt (kj_jd s)
  have hjl := kj_len s
  clear h hs hk
  generalize joinC s = J at *
  have hmm := @run_makeMap Try.prog
  go_enter Try.func23, Try.ntmps23
  go_wp2_with fail
  refine Calls.mono hJ.out ?_
  rintro e w1 ⟨aoJ, capJ, rfl, hrow, hF, hn⟩
  have HF1 := hideIt hF
  have HROW := hideIt hrow.at
  clear hrow hF hn hJ
  go_wp2_with fail
  clear hmm
  go_loopw [14] (fun i wr => ∃ j : Nat, i = .int .i64 j ∧ j ≤ l.length ∧ Hid (SetAt wr w1.heap.size ((l.take j).filter fun k => hasB s k.toList)) ∧ Hid (Fr (fun _ => False) w1 wr)) (fun i _ => l.length - (intOf i).toNat)
  case atStart => exact ⟨0, rfl, Nat.zero_le _, hideIt (SetAt.made w1), hideIt ((Fr.refl _ w1).alloc _)⟩
  case round =>
    obtain ⟨j, rfl, hj, HS, HF⟩ := hrel
    by_cases hlt : j < l.length
    · obtain ⟨b, off, rfl, hbl, c0⟩ := KsAt.get (kats_fr0 HH.out (HF1.out.trans HF.out (fun _ _ e => e))) j hlt
      have HT := hideIt (List.take_succ_eq_append_getElem hlt)
      have HKJ := hideIt (HK.out _ (List.getElem_mem hlt))
      have hA := hideIt (by have := karea_any aoJ capJ J l[j] _ (Or.inr (HROW.out.fr0 HF.out)) HJD.out (by omega); rw [HHB.out] at this; exact this)
      have HLF := hideIt (show ((l.take j).filter fun k => hasB s k.toList).length < maxLen by have := List.length_filter_le (fun k => hasB s k.toList) (l.take j); rw [List.length_take] at this; unfold maxLen; omega)
      generalize l[j] = x at *
      by_cases hx : hasB s x.toList = true
      · have HT2 := hideIt (show ((l.take (j + 1)).filter fun k => hasB s k.toList) = ((l.take j).filter fun k => hasB s k.toList) ++ [x] by rw [HT.out, List.filter_append]; congr 1; rw [List.filter_cons, if_pos hx]; rfl)
        rw [hx] at hA
        clear hx
        go_wp2_with fail
        refine Calls.mono hA.out ?_
        rintro e w2 ⟨rfl, hF2⟩
        have HF2 := hideIt (HF.out.trans hF2 (fun _ _ e => e))
        obtain ⟨w3, hrun, hs3, hf3⟩ := (HS.out.fr hF2 (fun e => e)).put x HLF.out HKJ.out
        have HR := hideIt hrun
        have HS3 := hideIt hs3
        have HF3 := hideIt (HF2.out.trans hf3 (fun i hi e => by omega))
        clear hrun hs3 hf3 hF2 hA
        go_wp2_with (first | (at_mapUpdate; refine wpList_mapUpdate_run _ rfl _ _ _ _ rfl _ _ _ _ rfl rfl rfl HR.out ?_))
        go_roundw
        case measure => simp [intOf]; omega
        case rel => exact ⟨j + 1, by go_num, by omega, hideIt (by rw [HT2.out]; exact HS3.out), HF3⟩
      · have hx' : hasB s x.toList = false := by simpa using hx
        have HT2 := hideIt (show ((l.take (j + 1)).filter fun k => hasB s k.toList) = ((l.take j).filter fun k => hasB s k.toList) by rw [HT.out, List.filter_append, List.filter_cons, if_neg hx]; simp)
        rw [hx'] at hA
        clear hx hx'
        go_wp2_with fail
        refine Calls.mono hA.out ?_
        rintro e w2 ⟨rfl, hF2⟩
        have HF2 := hideIt (HF.out.trans hF2 (fun _ _ e => e))
        have HS2 := hideIt (HS.out.fr hF2 (fun e => e))
        clear hF2 hA
        go_wp2_with fail
        go_roundw
        case measure => simp [intOf]; omega
        case rel => exact ⟨j + 1, by go_num, by omega, hideIt (by rw [HT2.out]; exact HS2.out), HF2⟩
    · obtain rfl : j = l.length := by omega
      have hR := hideIt (krising_any w1.heap.size _ _ HS.out (by have := List.length_filter_le (fun k => hasB s k.toList) (l.take l.length); rw [List.length_take] at this; omega))
      rw [List.take_length, show setL (l.filter fun k => hasB s k.toList) = amongL l s from rfl] at hR
      go_wp2_with fail
      refine Calls.mono hR.out ?_
      rintro e w2 ⟨ao', cap', rfl, hrow, hF2, hnew⟩
      have HFIN := hideIt (show RisePost (amongL l s) w (.returned (.slice ao' (amongL l s).length cap')) w2 from ⟨ao', cap', rfl, hrow, (HF1.out.trans HF.out (fun _ _ e => e)).trans hF2 (fun _ _ e => e), fun k hk => Nat.le_trans (HF1.out.trans HF.out (fun _ _ e => e)).size (hnew k hk)⟩)
      clear hrow hF2 hnew hR
      go_wp2_with fail
      go_ret
      exact HFIN.out

theorem meets1_any (k : ByteArray) (p q g : Nat) (some_ : List ByteArray) (aoJ : Option Addr) (capJ : Nat) (J : List Sp) (w : World) (hp : w.cell? ⟨p, 0, none⟩ = some (.map (some g))) (hq : w.cell? ⟨q, 0, none⟩ = some (.slice aoJ J.length capJ)) (hs : SetAt w g some_) (hJ : J = [] ∨ SpsAt w aoJ J) (hj : Jd J) (hjl : J.length ≤ 1000000) (hk : k.size ≤ maxLen) :
    Calls Try.prog 35 #[.string k, .pointer (some ⟨p, 0, none⟩), .pointer (some ⟨q, 0, none⟩)] w fun e w' => e = .returned (.bool (inL some_ k || hasB J k.toList)) ∧ Fr (fun _ => False) w w' := by
  have hH := hideIt (ksethas_any g some_ k w hs hk)
  have HQ := hideIt hq
  have HA := hideIt (fun u (hF : Fr (fun _ => False) w u) => karea_any aoJ capJ J k u (ats_fr0 hJ hF) hj hjl)
  clear hs hJ hj hq
  generalize inL some_ k = v at *
  generalize hasB J k.toList = u at *
  go_enter Try.func35, Try.ntmps35
  go_wp2_with fail
  refine Calls.mono hH.out ?_
  rintro e w1 ⟨rfl, hF1⟩
  have HF1 := hideIt hF1
  have hq1 := hF1.cell0 HQ.out
  clear hF1 hH
  cases v with
  | true =>
    go_wp2_with fail
    go_ret
    exact ⟨rfl, HF1.out⟩
  | false =>
    go_wp2_with fail
    refine Calls.mono (HA.out _ HF1.out) ?_
    rintro e w2 ⟨rfl, hF2⟩
    have HF2 := hideIt (HF1.out.trans hF2 (fun _ _ e => e))
    clear hF2
    go_wp2_with fail
    go_ret
    exact ⟨by rw [Bool.false_or]; rfl, HF2.out⟩

/-- A key is among some, or in spans. -/
def metB (sm : List ByteArray) (s : List Sp) (k : ByteArray) : Bool := inL sm k || hasB s k.toList

/-- One of some is. -/
def meetsB (l sm : List ByteArray) (s : List Sp) : Bool := l.any (metB sm s)

set_option maxRecDepth 100000 in
set_option maxHeartbeats 1000000 in
theorem kidxf_any (ao : Option Addr) (cap : Nat) (l : List ByteArray) (p q : Nat) (f : ByteArray → Bool) (w : World) (h : l = [] ∨ KsAt w ao l) (hl : l.length ≤ 9223372036854775807)
    (hf : ∀ k ∈ l, ∀ u, Fr (fun _ => False) w u → Calls Try.prog 35 #[.string k, .pointer (some ⟨p, 0, none⟩), .pointer (some ⟨q, 0, none⟩)] u fun e w' => e = .returned (.bool (f k)) ∧ Fr (fun _ => False) u w') :
    Calls Try.prog 50 #[.slice ao l.length cap, .func (.func 35) #[] #[.pointer (some ⟨p, 0, none⟩), .pointer (some ⟨q, 0, none⟩)]] w fun e w' => ∃ n : Int, e = .returned (.int .i64 n) ∧ decide (0 ≤ n) = l.any f ∧ Fr (fun _ => False) w w' := by
  have HH := hideIt h
  have HC := hideIt hf
  clear h hf
  go_enter Try.func50, Try.ntmps50
  go_wp2_with fail
  go_loopw [8] (fun i wr => ∃ j : Nat, i = .int .i64 j ∧ j ≤ l.length ∧ Hid (∀ x ∈ l.take j, f x = false) ∧ Hid (Fr (fun _ => False) w wr)) (fun i _ => l.length - (intOf i).toNat)
  case atStart => exact ⟨0, rfl, Nat.zero_le _, hideIt (by simp), hideIt (Fr.refl _ _)⟩
  case round =>
    obtain ⟨j, rfl, hj, HB, HF⟩ := hrel
    by_cases hlt : j < l.length
    · obtain ⟨b, off, rfl, hbl, c0⟩ := KsAt.get (kats_fr0 HH.out HF.out) j hlt
      have HT := hideIt (List.take_succ_eq_append_getElem hlt)
      have HM := hideIt (List.getElem_mem hlt)
      have h1 := hideIt (HC.out l[j] (List.getElem_mem hlt) _ HF.out)
      generalize l[j] = x at *
      cases hx : f x with
      | true =>
        rw [hx] at h1
        have HX := hideIt hx
        clear hx
        go_wp2_with fail
        refine Calls.mono h1.out ?_
        rintro e w1 ⟨rfl, hF1⟩
        have HF1 := hideIt hF1
        clear hF1
        go_wp2_with fail
        go_ret
        refine ⟨j, rfl, ?_, HF.out.trans HF1.out (fun _ _ e => e)⟩
        have e1 : l.any f = true := List.any_eq_true.2 ⟨x, HM.out, HX.out⟩
        rw [e1]
        exact decide_eq_true (by omega)
      | false =>
        rw [hx] at h1
        have HX := hideIt hx
        clear hx
        go_wp2_with fail
        refine Calls.mono h1.out ?_
        rintro e w1 ⟨rfl, hF1⟩
        have HF1 := hideIt hF1
        clear hF1
        go_wp2_with fail
        go_roundw
        case measure => simp [intOf]; omega
        case rel => exact ⟨j + 1, by go_num, by omega, hideIt (fun y hy => by rw [HT.out] at hy; rcases List.mem_append.1 hy with e | e; exact HB.out y e; rw [List.mem_singleton.1 e]; exact HX.out), hideIt (HF.out.trans HF1.out (fun _ _ e => e))⟩
    · obtain rfl : j = l.length := by omega
      go_wp2_with fail
      go_ret
      refine ⟨-1, rfl, ?_, HF.out⟩
      have e1 : l.any f = false := List.any_eq_false.2 (fun x hx => by have := HB.out; rw [List.take_length] at this; simpa using this x hx)
      rw [e1]
      decide

set_option maxRecDepth 100000 in
set_option maxHeartbeats 1000000 in
theorem kmeets_any (ao so bo : Option Addr) (ca cs cb : Nat) (l sm : List ByteArray) (s : List Sp) (w : World) (h : l = [] ∨ KsAt w ao l) (hm : sm = [] ∨ KsAt w so sm) (hs : s = [] ∨ SpsAt w bo s) (hl : l.length ≤ 1000000) (hml : sm.length ≤ 1000000) (hsl : s.length ≤ 1000000) (hk : ∀ x ∈ l, x.size ≤ maxLen) (hmk : ∀ x ∈ sm, x.size ≤ maxLen) :
    Calls Try.prog 25 #[.slice ao l.length ca, .slice so sm.length cs, .slice bo s.length cb] w fun e w' => e = .returned (.bool (meetsB l sm s)) ∧ Fr (fun _ => False) w w' := by
  have e : allK [(so, cs, sm)] = sm := by simp [allK]
  have hG := hideIt (show Calls Try.prog 27 #[.slice (some ⟨w.heap.size, 0, none⟩) 1 1] (w.alloc (.cells #[.slice so sm.length cs] 22)) (GathPost sm (w.alloc (.cells #[.slice so sm.length cs] 22))) from by
    have := kgather_any w.heap.size 0 1 [(so, cs, sm)] _ (LsAt.one hm 22) (by simp) (by rw [e]; omega) (by rw [e]; exact hmk)
    rw [e] at this
    exact this)
  have HF0 := hideIt ((Fr.refl (fun _ => False) w).alloc (.cells #[.slice so sm.length cs] 22))
  have HH := hideIt h
  have HS := hideIt hs
  have HK := hideIt hk
  have HHB := hideIt (kj_has s)
  have HJD := hideIt (kj_jd s)
  have hjl := kj_len s
  clear h hm hs hk hmk e
  go_enter Try.func25, Try.ntmps25
  go_wp2_with fail
  refine Calls.mono hG.out ?_
  rintro e w1 ⟨g, rfl, hg, hset, hF1⟩
  have HF1 := hideIt (HF0.out.trans hF1 (fun _ _ e => e))
  have HSET := hideIt hset
  have hJ := hideIt (join_any bo cb s w1 (ats_fr0 HS.out HF1.out) (by omega))
  clear hset hF1 hg hG HF0
  generalize joinC s = J at *
  go_wp2_with fail
  refine Calls.mono hJ.out ?_
  rintro e w2 ⟨aoJ, capJ, rfl, hrow, hF2, hn⟩
  have HF2 := hideIt (HF1.out.trans hF2 (fun _ _ e => e))
  have HSET2 := hideIt (HSET.out.fr hF2 (fun e => e))
  have HROW := hideIt hrow.at
  clear hrow hF2 hn hJ HSET HF1
  have HF3 := hideIt ((HF2.out.alloc (.cells #[.map (some g)] 38)).alloc (.cells #[.slice aoJ J.length capJ] 44))
  have HF23 := hideIt (((Fr.refl (fun _ => False) w2).alloc (.cells #[.map (some g)] 38)).alloc (.cells #[.slice aoJ J.length capJ] 44))
  have HC1 := hideIt (show ((w2.alloc (.cells #[.map (some g)] 38)).alloc (.cells #[.slice aoJ J.length capJ] 44)).cell? ⟨w2.heap.size, 0, none⟩ = some (.map (some g)) from cellA (cellNew _ _ _ _ _ rfl) _)
  have HC2 := hideIt (show ((w2.alloc (.cells #[.map (some g)] 38)).alloc (.cells #[.slice aoJ J.length capJ] 44)).cell? ⟨w2.heap.size + 1, 0, none⟩ = some (.slice aoJ J.length capJ) from cellNew _ _ _ _ _ (by simp))
  have hI := hideIt (kidxf_any ao ca l w2.heap.size (w2.heap.size + 1) (metB sm s) ((w2.alloc (.cells #[.map (some g)] 38)).alloc (.cells #[.slice aoJ J.length capJ] 44)) (kats_fr0 HH.out HF3.out) (by omega) (fun k hkm u hF => by
    have := meets1_any k w2.heap.size (w2.heap.size + 1) g sm aoJ capJ J u (hF.cell0 HC1.out) (hF.cell0 HC2.out) (HSET2.out.fr (HF23.out.trans hF (fun _ _ e => e)) (fun e => e)) (Or.inr (HROW.out.fr0 (HF23.out.trans hF (fun _ _ e => e)))) HJD.out (by omega) (HK.out k hkm)
    rw [HHB.out] at this
    exact this))
  rw [show l.any (metB sm s) = meetsB l sm s from rfl] at hI
  clear HC1 HC2 HF23
  go_wp2_with (first | (go_at_call 34; go_in) | (go_at_call 50; refine Calls.mono hI.out ?_; rintro e w4 ⟨n, rfl, hn, hF4⟩))
  go_ret
  first | exact ⟨rb hn, HF3.out.trans hF4 (fun _ _ e => e)⟩ | exact ⟨rfl, HF3.out.trans hF4 (fun _ _ e => e)⟩

end Go.Proofs.Ytnjogpojikjflaa

/- KeysMet: what it leans on, and the walk. -/
namespace Go.Proofs.Ytnjogpojikjflaa
open Go.RowKit Go.IntWalk
set_option linter.unusedSimpArgs false
set_option linter.unusedVariables false
set_option maxRecDepth 100000

theorem amongL_rises (l : List ByteArray) (s : List Sp) : Rises (amongL l s) := setL_rises _
theorem mem_amongL (l : List ByteArray) (s : List Sp) (k : ByteArray) : k ∈ amongL l s ↔ k ∈ l ∧ hasB s k.toList = true := by
  unfold amongL
  rw [mem_setL, List.mem_filter]
theorem amongL_len (l : List ByteArray) (s : List Sp) : (amongL l s).length ≤ l.length := Nat.le_trans (setL_len _) (List.length_filter_le _ _)
theorem len_pos_iff {l : List ByteArray} : 0 < l.length ↔ ∃ k, k ∈ l := by
  rw [List.length_pos_iff]
  exact ⟨fun h => List.exists_mem_of_ne_nil l h, fun ⟨k, hk⟩ e => by rw [e] at hk; cases hk⟩

theorem meets_len (l sm : List ByteArray) (s : List Sp) : meetsB l sm s = decide (0 < (siftL l sm true).length + (amongL l s).length) := by
  rw [Bool.eq_iff_iff, decide_eq_true_eq]
  unfold meetsB
  rw [List.any_eq_true, Nat.add_pos_iff_pos_or_pos, len_pos_iff, len_pos_iff]
  constructor
  · rintro ⟨k, hk, h⟩
    unfold metB at h
    rw [Bool.or_eq_true] at h
    rcases h with h | h
    · exact Or.inl ⟨k, (mem_siftL _ _ _ _).2 ⟨hk, h⟩⟩
    · exact Or.inr ⟨k, (mem_amongL _ _ _).2 ⟨hk, h⟩⟩
  · rintro (⟨k, h⟩ | ⟨k, h⟩)
    · have := (mem_siftL _ _ _ _).1 h
      exact ⟨k, this.1, by unfold metB; rw [this.2]; rfl⟩
    · have := (mem_amongL _ _ _).1 h
      exact ⟨k, this.1, by unfold metB; rw [this.2, Bool.or_true]⟩

theorem among_in (l : List ByteArray) (s : List Sp) {k : ByteArray} (hk : k ∈ l) : inL (amongL l s) k = hasB s k.toList := by
  rw [Bool.eq_iff_iff, inL_iff, mem_amongL]
  exact ⟨fun h => h.2, fun h => ⟨hk, h⟩⟩

theorem meets_of (l sm : List ByteArray) (s : List Sp) {k : ByteArray} (hk : k ∈ l) (h : inL sm k = true ∨ hasB s k.toList = true) : meetsB l sm s = true := by
  unfold meetsB
  exact List.any_eq_true.2 ⟨k, hk, by unfold metB; rcases h with h | h <;> rw [h]; rfl; exact Bool.or_true _⟩

theorem among_both (l : List ByteArray) (s : List Sp) : siftL (amongL l s) l true = amongL l s :=
  (siftL_rises _ _ _).unique (amongL_rises l s) (fun k => by rw [mem_siftL, inL_iff]; exact ⟨fun h => h.1, fun h => ⟨h, ((mem_amongL l s k).1 h).1⟩⟩)

end Go.Proofs.Ytnjogpojikjflaa

/- Keys, the document's, given its Sort: a span's Has, Among, Meets. -/
namespace Go.Proofs.Ytnjogpojikjflaa
open Go.RowKit Go.IntWalk
set_option linter.unusedSimpArgs false
set_option linter.unusedVariables false
set_option maxRecDepth 100000

theorem zin_any (s : Sp) (k : ByteArray) (w : World) : Calls Try.prog 49 #[.agg #[.string s.1, .string s.2], .string k] w fun e w' => e = .returned (.bool (decide (KeyIn s k.toList))) ∧ Fr (fun _ => False) w w' := by
  go_enter Try.func49, Try.ntmps49
  go_wp2
  all_goals
    go_ret
    refine ⟨?_, (Fr.refl _ _).alloc _⟩
    refine rb ?_
    simp_all [bytesLess_eq, KeyIn, NonE, lo, hi]

set_option maxRecDepth 100000 in
set_option maxHeartbeats 1000000 in
theorem zhas_any (ao : Option Addr) (cap : Nat) (l : List Sp) (k : ByteArray) (w : World) (h : l = [] ∨ SpsAt w ao l) (hl : l.length ≤ 9223372036854775807) :
    Calls Try.prog 33 #[.slice ao l.length cap, .string k] w fun e w' => e = .returned (.bool (hasB l k.toList)) ∧ Fr (fun _ => False) w w' := by
  have HH := hideIt h
  clear h
  go_enter Try.func33, Try.ntmps33
  go_wp2_with fail
  go_loopw [5] (fun i wr => ∃ j : Nat, i = .int .i64 j ∧ j ≤ l.length ∧ Hid (∀ x ∈ l.take j, decide (KeyIn x k.toList) = false) ∧ Fr (fun _ => False) w wr) (fun i _ => l.length - (intOf i).toNat)
  case atStart => exact ⟨0, rfl, Nat.zero_le _, hideIt (by simp), Fr.refl _ _⟩
  case round =>
    obtain ⟨j, rfl, hj, HB, hF⟩ := hrel
    by_cases hlt : j < l.length
    · obtain ⟨b, off, rfl, hbl, c0, c1⟩ := SpsAt.get (ats_fr0 HH.out hF) j hlt
      have HT := hideIt (List.take_succ_eq_append_getElem hlt)
      have HM := hideIt (List.getElem_mem hlt)
      have HF := hideIt hF
      have h1 := hideIt (fun w => zin_any l[j] k w)
      clear hF
      generalize l[j] = x at *
      by_cases hx : decide (KeyIn x k.toList) = true
      · rw [hx] at h1
        have HX := hideIt hx
        clear hx
        go_wp2_with fail
        refine Calls.mono (h1.out _) ?_
        rintro e w1 ⟨rfl, hF1⟩
        go_wp2_with fail
        go_ret
        have e1 : hasB l k.toList = true := List.any_eq_true.2 ⟨x, HM.out, HX.out⟩
        exact ⟨by rw [e1]; rfl, HF.out.trans hF1 (fun _ _ e => e)⟩
      · have hx' : decide (KeyIn x k.toList) = false := by simpa using hx
        rw [hx'] at h1
        have HX := hideIt hx'
        clear hx hx'
        go_wp2_with fail
        refine Calls.mono (h1.out _) ?_
        rintro e w1 ⟨rfl, hF1⟩
        have HF1 := hideIt hF1
        clear hF1
        go_wp2_with fail
        go_roundw
        case measure => simp [intOf]; omega
        case rel => exact ⟨j + 1, by go_num, by omega, hideIt (fun y hy => by rw [HT.out] at hy; rcases List.mem_append.1 hy with e | e; exact HB.out y e; rw [List.mem_singleton.1 e]; exact HX.out), HF.out.trans HF1.out (fun _ _ e => e)⟩
    · obtain rfl : j = l.length := by omega
      have HF := hideIt hF
      clear hF
      go_wp2_with fail
      go_ret
      have e1 : hasB l k.toList = false := List.any_eq_false.2 (fun x hx => by have := HB.out; rw [List.take_length] at this; simpa using this x hx)
      exact ⟨by rw [e1]; rfl, HF.out⟩

set_option maxRecDepth 100000 in
set_option maxHeartbeats 1000000 in
theorem vamong_of (HV : VSortC) (ao bo : Option Addr) (ca cb : Nat) (a : List ByteArray) (s : List Sp) (w : World) (ha : a = [] ∨ KsAt w ao a) (hb : s = [] ∨ SpsAt w bo s) (hal : a.length ≤ 1000000) (hbl : s.length ≤ 1000000) :
    Calls Try.prog 24 #[.slice ao a.length ca, .slice bo s.length cb] w (RisePost (amongL a s) w) := by
  have HA := hideIt ha
  have HB := hideIt hb
  have HS := hideIt HV
  clear ha hb HV
  go_enter Try.func24, Try.ntmps24
  go_wp2_with fail
  go_loopw [5, 6] (fun t5 i wr => ∃ (j : Nat) (tl : List ByteArray) (ao3 : Option Addr) (cap3 : Nat), t5 = .slice ao3 tl.length cap3 ∧ i = .int .i64 j ∧ j ≤ a.length ∧ Hid (tl = (a.take j).filter fun k => hasB s k.toList) ∧ Hid (Told w wr tl ao3 cap3)) (fun _ i _ => a.length - (intOf i).toNat)
  case atStart => exact ⟨0, [], none, 0, rfl, rfl, Nat.zero_le _, hideIt rfl, hideIt (Told.start w)⟩
  case round =>
    obtain ⟨j, tl, ao3, cap3, rfl, rfl, hj, HT, HI⟩ := hrel
    by_cases hlt : j < a.length
    · obtain ⟨b1, off, rfl, hbl1, c0⟩ := KsAt.get (kats_fr0 HA.out HI.out.fr) j hlt
      have HTT := hideIt (List.take_succ_eq_append_getElem hlt)
      have HLT := hideIt (show tl.length ≤ 1000000 by rw [HT.out]; have := List.length_filter_le (fun k => hasB s k.toList) (a.take j); rw [List.length_take] at this; omega)
      have hH := hideIt (zhas_any bo cb s a[j] _ (ats_fr0 HB.out HI.out.fr) (by omega))
      generalize a[j] = x at *
      cases hx : hasB s x.toList with
      | false =>
        rw [hx] at hH
        have HT2 := hideIt (show tl = (a.take (j + 1)).filter fun k => hasB s k.toList by rw [HTT.out, List.filter_append, List.filter_cons, if_neg (by rw [hx]; decide), HT.out]; simp)
        clear hx
        go_wp2_with fail
        refine Calls.mono hH.out ?_
        rintro e w1 ⟨rfl, hF1⟩
        have HI1 := hideIt (HI.out.later hF1)
        clear hH hF1
        go_wp2_with fail
        go_roundw
        case measure => simp [intOf]; omega
        case rel => exact ⟨j + 1, tl, ao3, cap3, rfl, by go_num, by omega, HT2, HI1⟩
      | true =>
        rw [hx] at hH
        have HT2 := hideIt (show tl ++ [x] = (a.take (j + 1)).filter fun k => hasB s k.toList by rw [HTT.out, List.filter_append, List.filter_cons, if_pos hx, HT.out]; rfl)
        clear hx
        go_wp2_with fail
        refine Calls.mono hH.out ?_
        rintro e w1 ⟨rfl, hF1⟩
        have c1 := hF1.cell0 c0
        obtain ⟨ao4, cap4, w4, hrun, h4⟩ := (HI.out.later hF1).grow x HLT.out
        have HR := hideIt hrun
        have HI4 := hideIt h4
        clear hH hF1 hrun h4
        generalize tl ++ [x] = tl' at *
        go_wp2_with (first | (at_builtin; refine wpList_append_run _ rfl (.tmp 19) (.tmp 24) 22 22 rfl _ _ _ _ rfl rfl HR.out ?_))
        go_roundw
        case measure => simp [intOf]; omega
        case rel => exact ⟨j + 1, tl', ao4, cap4, rfl, by go_num, by omega, HT2, HI4⟩
    · obtain rfl : j = a.length := by omega
      have HT2 := hideIt (show setL tl = amongL a s by rw [HT.out, List.take_length]; rfl)
      have HLT := hideIt (show tl.length ≤ 1000000 by rw [HT.out]; have := List.length_filter_le (fun k => hasB s k.toList) (a.take a.length); rw [List.length_take] at this; omega)
      have hR := hideIt (HS.out ao3 cap3 tl wr (Or.inr HI.out.row.at) HLT.out)
      rw [HT2.out] at hR
      go_wp2_with fail
      refine Calls.mono hR.out ?_
      rintro e w2 ⟨ao', cap', rfl, hrow, hF2, hnew⟩
      have HFIN := hideIt (show RisePost (amongL a s) w (.returned (.slice ao' (amongL a s).length cap')) w2 from ⟨ao', cap', rfl, hrow, HI.out.fr.trans hF2 (fun _ _ e => e), fun k hk => Nat.le_trans HI.out.fr.size (hnew k hk)⟩)
      clear hrow hF2 hnew hR
      go_wp2_with fail
      go_ret
      exact HFIN.out

set_option maxRecDepth 100000 in
set_option maxHeartbeats 1000000 in
theorem vmeets_of (HV : VSortC) (ao so bo : Option Addr) (ca cs cb : Nat) (l sm : List ByteArray) (s : List Sp) (w : World) (h : l = [] ∨ KsAt w ao l) (hm : sm = [] ∨ KsAt w so sm) (hs : s = [] ∨ SpsAt w bo s) (hl : l.length ≤ 1000000) (hml : sm.length ≤ 1000000) (hsl : s.length ≤ 1000000) :
    Calls Try.prog 26 #[.slice ao l.length ca, .slice so sm.length cs, .slice bo s.length cb] w fun e w' => e = .returned (.bool (meetsB l sm s)) ∧ Fr (fun _ => False) w w' := by
  have hB := hideIt (vboth_of HV ao so ca cs l sm w h hm hl hml)
  have hA := hideIt (fun u (hF : Fr (fun _ => False) w u) => vamong_of HV ao bo ca cb l s u (kats_fr0 h hF) (ats_fr0 hs hF) hl hsl)
  have HML := hideIt (meets_len l sm s)
  have hl1 := siftL_len l sm true
  have hl2 := amongL_len l s
  clear h hm hs HV
  generalize siftL l sm true = T at *
  generalize amongL l s = I at *
  go_enter Try.func26, Try.ntmps26
  go_wp2_with fail
  refine Calls.mono hB.out ?_
  rintro e w1 ⟨ao1, cap1, rfl, hrow, hF1, _⟩
  have HF1 := hideIt hF1
  clear hB hrow hF1
  generalize T.length = n at *
  cases n with
  | succ n =>
    have h0' : (0 : Int) < ((n + 1 : Nat) : Int) := by omega
    have HX := hideIt (show meetsB l sm s = true by rw [HML.out]; exact decide_eq_true (by omega))
    go_wp2_with fail
    go_ret
    exact ⟨by rw [HX.out]; rfl, HF1.out⟩
  | zero =>
    rw [Nat.zero_add] at HML
    go_wp2_with fail
    refine Calls.mono (hA.out _ HF1.out) ?_
    rintro e w2 ⟨ao2, cap2, rfl, hrow, hF2, _⟩
    have HF2 := hideIt (HF1.out.trans hF2 (fun _ _ e => e))
    clear hrow hF2 hA
    have HX := hideIt (show decide ((0 : Int) < (I.length : Int)) = decide (0 < I.length) from decide_eq_decide.2 (by omega))
    generalize I.length = m at *
    go_wp2_with fail
    go_ret
    first | exact ⟨rb HML.out.symm, HF2.out⟩ | exact ⟨rb (HX.out.trans HML.out.symm), HF2.out⟩

end Go.Proofs.Ytnjogpojikjflaa

/- Keys: KeysMeets' walk, given that Among tells a row whose spare room is known. -/
namespace Go.Proofs.Ytnjogpojikjflaa
open Go.RowKit Go.IntWalk
set_option linter.unusedSimpArgs false
set_option linter.unusedVariables false
set_option maxRecDepth 100000

/-- Among tells its keys in a row whose spare room is empty texts. -/
def AmongFullC : Prop := ∀ (ao bo : Option Addr) (ca cb : Nat) (l : List ByteArray) (s : List Sp) (w : World), (l = [] ∨ KsAt w ao l) → (s = [] ∨ SpsAt w bo s) → l.length ≤ 1000000 → s.length ≤ 1000000 → (∀ x ∈ l, x.size ≤ maxLen) →
  Calls Try.prog 23 #[.slice ao l.length ca, .slice bo s.length cb] w (RiseFull (amongL l s) w)

set_option maxRecDepth 100000 in
set_option maxHeartbeats 8000000 in
theorem kmeets_law_of (HC : AmongFullC) (ao bo so : Option Addr) (ca cb cs : Nat) (a b : List ByteArray) (s : List Sp) (w : World) (ha : a = [] ∨ KsAt w ao a) (hb : b = [] ∨ KsAt w bo b) (hs : s = [] ∨ SpsAt w so s) (hal : a.length ≤ 9223372036854775807) (hbl : b.length ≤ 9223372036854775807) (hsl : s.length ≤ 9223372036854775807) :
    Calls Try.prog 4 #[.slice ao a.length ca, .slice bo b.length cb, .slice so s.length cs] w fun e w' => e = .returned (.bool true) ∧ Fr (fun _ => False) w w' := by
  have HA := hideIt (fun W (hF : Fr (fun _ => False) w W) => kats_fr0 ha hF)
  have HB := hideIt (fun W (hF : Fr (fun _ => False) w W) => kats_fr0 hb hF)
  have HS := hideIt (fun W (hF : Fr (fun _ => False) w W) => ats_fr0 hs hF)
  have hL1 := hideIt (klong_any ao ca a 100 w ha hal (by decide))
  have hL2 := hideIt (klong_any bo cb b 100 w hb hbl (by decide))
  have hL3 := hideIt (long_any so cs s 60 w hs hsl (by decide))
  unfold LongPost at hL3
  have HC := hideIt HC
  clear ha hb hs
  go_enter Try.func4, Try.ntmps4
  go_wp2_with fail
  refine Calls.mono hL1.out ?_
  rintro e w1 ⟨v, rfl, rfl, hv⟩
  have HV := hideIt hv
  clear hv hL1
  cases v
  case true =>
    go_wp2_with fail
    go_ret
    exact ⟨rfl, Fr.refl _ _⟩
  case false =>
  have HVA := hideIt (HV.out rfl)
  clear HV
  go_wp2_with fail
  refine Calls.mono hL2.out ?_
  rintro e w2 ⟨v, rfl, rfl, hv⟩
  have HV := hideIt hv
  clear hv hL2
  cases v
  case true =>
    go_wp2_with fail
    go_ret
    exact ⟨rfl, Fr.refl _ _⟩
  case false =>
  have HVB := hideIt (HV.out rfl)
  clear HV
  go_wp2_with fail
  refine Calls.mono hL3.out ?_
  rintro e w3 ⟨v, rfl, rfl, hv⟩
  have HV := hideIt hv
  clear hv hL3
  cases v
  case true =>
    go_wp2_with fail
    go_ret
    exact ⟨rfl, Fr.refl _ _⟩
  case false =>
  have hla : a.length ≤ 100 := HVA.out.1
  have hlb : b.length ≤ 100 := HVB.out.1
  have hls : s.length ≤ 60 := (HV.out rfl).1
  have HKA := hideIt (fun x hx => HVA.out.2 x hx)
  have HMA := hideIt (fun x hx => le_maxLen (HVA.out.2 x hx))
  have HMB := hideIt (fun x hx => le_maxLen (HVB.out.2 x hx))
  clear HVA HVB HV
  have hli := amongL_len a s
  have HX := hideIt (kcopy_any ao ca a w3 (HA.out _ (Fr.refl _ _)) (by omega))
  have HI := hideIt (fun ax cx W (hx : KsRow W ax cx a) (hF : Fr (fun _ => False) w3 W) => HC.out ax so cx cs a s W (Or.inr hx.at) (HS.out W hF) (by omega) (by omega) HMA.out)
  have HJ := hideIt (fun W (hF : Fr (fun _ => False) w3 W) => vamong_of vsort_any ao so ca cs a s W (HA.out W hF) (HS.out W hF) (by omega) (by omega))
  have HM := hideIt (fun W (hF : Fr (fun _ => False) w3 W) => kmeets_any ao bo so ca cb cs a b s W (HA.out W hF) (HB.out W hF) (HS.out W hF) (by omega) (by omega) (by omega) HMA.out HMB.out)
  have HN := hideIt (fun W (hF : Fr (fun _ => False) w3 W) => vmeets_of vsort_any ao bo so ca cb cs a b s W (HA.out W hF) (HB.out W hF) (HS.out W hF) (by omega) (by omega) (by omega))
  have HSI := hideIt (fun p q c d W (hp : KsAt W p (amongL a s)) (hq : KsAt W q (amongL a s)) => same_later hp hq (by omega) c d W (Fr.refl _ _) (Fr.refl _ _))
  have HSX := hideIt (fun p c W (hp : KsAt W p a) (hF : Fr (fun _ => False) w3 W) => by
    have := ksame_any p ao c ca a a W (Or.inr hp) (HA.out W hF) (by omega) (by omega)
    rw [decide_eq_true rfl] at this
    exact this)
  have HO := hideIt (fun p c W (hp : KsFull W p c (amongL a s)) => over_texts_any p c (amongL a s) W hp (fun y hy => Nat.le_trans (HKA.out y ((mem_amongL a s y).1 hy).1) (by decide)))
  have HW := hideIt kawake_any
  clear HA HB HS HC HMA HMB HKA
  generalize amongL a s = I at *
  generalize meetsB a b s = mb at *
  go_wp2_with fail
  refine Calls.mono HX.out ?_
  rintro e w4 ⟨aoX, capX, rfl, hrow, hF, _⟩
  have F4 := hideIt hF
  have X4 := hideIt hrow
  clear hrow hF HX
  go_wp2_with fail
  refine Calls.mono (HI.out aoX capX w4 X4.out F4.out) ?_
  rintro e w5 ⟨aoI, capI, rfl, hrow, hF, hn⟩
  have NI := hideIt (fun q (h : blk aoI q) => show w4.heap.size ≤ q from hn q h)
  have NX := hideIt (fun q (h : blk aoX q) => show q < w4.heap.size from X4.out.lt h)
  have F5 := hideIt (F4.out.trans hF (fun _ _ e => e))
  have H34 := hideIt F4.out.size
  have X5 := hideIt (X4.out.fr0 hF)
  have I5 := hideIt hrow
  clear hrow hF hn HI X4 F4
  go_wp2_with fail
  refine Calls.mono (HJ.out w5 F5.out) ?_
  rintro e w6 ⟨aoJ, capJ, rfl, hrow, hF, _⟩
  have F6 := hideIt (F5.out.trans hF (fun _ _ e => e))
  have X6 := hideIt (X5.out.fr0 hF)
  have I6 := hideIt (I5.out.fr0 hF)
  have J6 := hideIt hrow
  clear hrow hF HJ X5 I5 F5
  go_wp2_with fail
  refine Calls.mono (HSI.out aoI aoJ capI capJ w6 I6.out.row.at J6.out.at) ?_
  rintro e w7 ⟨rfl, hF⟩
  have F7 := hideIt (F6.out.trans hF (fun _ _ e => e))
  have X7 := hideIt (X6.out.fr0 hF)
  have I7 := hideIt (I6.out.fr0 hF)
  clear hF HSI X6 I6 F6 J6
  go_wp2_with fail
  refine Calls.mono (HO.out aoI capI w7 I7.out) ?_
  rintro e w8 ⟨rfl, hF⟩
  have F8 := hideIt (F7.out.trans hF (fun i hi e => by have := NI.out i e; have := H34.out; omega))
  have X8 := hideIt (X7.out.fr hF (fun q h3 h4 => by have := NX.out q h3; have := NI.out q h4; omega))
  clear hF HO X7 I7 F7
  go_wp2_with fail
  refine Calls.mono (HSX.out aoX capX w8 X8.out.at F8.out) ?_
  rintro e w9 ⟨rfl, hF⟩
  have F9 := hideIt (F8.out.trans hF (fun _ _ e => e))
  clear hF HSX X8 F8
  go_wp2_with fail
  refine Calls.mono (HM.out w9 F9.out) ?_
  rintro e w10 ⟨rfl, hF⟩
  have F10 := hideIt (F9.out.trans hF (fun _ _ e => e))
  clear hF HM F9
  go_wp2_with fail
  refine Calls.mono (HN.out w10 F10.out) ?_
  rintro e w11 ⟨rfl, hF⟩
  have F11 := hideIt (F10.out.trans hF (fun _ _ e => e))
  clear hF HN F10
  go_wp2_with fail
  refine Calls.mono (HW.out w11) ?_
  rintro e w12 ⟨rfl, hF⟩
  have F12 := hideIt (F11.out.trans hF (fun _ _ e => e))
  clear hF HW F11
  go_wp2_with fail
  go_ret
  exact ⟨rfl, F12.out⟩

end Go.Proofs.Ytnjogpojikjflaa

/- Keys: Sort, Union, Among, told in rows whose spare room is empty texts, given rising's own. -/
namespace Go.Proofs.Ytnjogpojikjflaa
open Go.RowKit Go.IntWalk Go.Sort Go.Maps Go.Shelf
set_option linter.unusedSimpArgs false
set_option linter.unusedVariables false
set_option maxRecDepth 100000

/-- A set's keys in order, told in a row whose spare room is empty texts. -/
def KRisingFullC : Prop := ∀ (b : Nat) (l : List ByteArray) (w : World), SetAt w b l → l.length ≤ 1099511627776 → Calls Try.prog 28 #[.map (some b)] w (RiseFull (setL l) w)

set_option maxRecDepth 100000 in
set_option maxHeartbeats 1000000 in
theorem ksort_full (HC : KRisingFullC) (ao : Option Addr) (cap : Nat) (l : List ByteArray) (w : World) (h : l = [] ∨ KsAt w ao l) (hl : l.length ≤ 1099511627776) (hk : ∀ x ∈ l, x.size ≤ maxLen) :
    Calls Try.prog 7 #[.slice ao l.length cap] w (RiseFull (setL l) w) := by
  have e : allK [(ao, cap, l)] = l := by simp [allK]
  have hG := hideIt (show Calls Try.prog 27 #[.slice (some ⟨w.heap.size, 0, none⟩) 1 1] (w.alloc (.cells #[.slice ao l.length cap] 22)) (GathPost l (w.alloc (.cells #[.slice ao l.length cap] 22))) from by
    have := kgather_any w.heap.size 0 1 [(ao, cap, l)] _ (LsAt.one h 22) (by simp) (by rw [e]; exact hl) (by rw [e]; exact hk)
    rw [e] at this
    exact this)
  have HF0 := hideIt ((Fr.refl (fun _ => False) w).alloc (.cells #[.slice ao l.length cap] 22))
  clear h hk e
  go_enter Try.func7, Try.ntmps7
  go_wp2_with fail
  refine Calls.mono hG.out ?_
  rintro e w1 ⟨g, rfl, _, hs, hF1⟩
  have hR := hideIt (HC _ l w1 hs hl)
  have HF1 := hideIt (HF0.out.trans hF1 (fun _ _ e => e))
  clear hs hF1
  go_wp2_with fail
  refine Calls.mono hR.out ?_
  rintro e w2 ⟨ao', cap', rfl, hrow, hF2, hnew⟩
  have HFIN := hideIt (show RiseFull (setL l) w (.returned (.slice ao' (setL l).length cap')) w2 from ⟨ao', cap', rfl, hrow, HF1.out.trans hF2 (fun _ _ e => e), fun k hk => Nat.le_trans HF1.out.size (hnew k hk)⟩)
  clear hrow hF2 hnew
  generalize setL l = sl at *
  go_wp2_with fail
  go_ret
  exact HFIN.out

set_option maxRecDepth 100000 in
set_option maxHeartbeats 1000000 in
theorem kunion_full (HC : KRisingFullC) (ao bo : Option Addr) (ca cb : Nat) (l m : List ByteArray) (w : World) (h : l = [] ∨ KsAt w ao l) (h' : m = [] ∨ KsAt w bo m) (hl : l.length + m.length ≤ 1099511627776) (hk : ∀ x ∈ l ++ m, x.size ≤ maxLen) :
    Calls Try.prog 8 #[.slice ao l.length ca, .slice bo m.length cb] w (RiseFull (setL (l ++ m)) w) := by
  have e : allK [(ao, ca, l), (bo, cb, m)] = l ++ m := by simp [allK]
  have hG := hideIt (show Calls Try.prog 27 #[.slice (some ⟨w.heap.size, 0, none⟩) 2 2] (w.alloc (.cells #[.slice ao l.length ca, .slice bo m.length cb] 22)) (GathPost (l ++ m) (w.alloc (.cells #[.slice ao l.length ca, .slice bo m.length cb] 22))) from by
    have := kgather_any w.heap.size 0 2 [(ao, ca, l), (bo, cb, m)] _ (LsAt.two h h' 22) (by simp) (by rw [e, List.length_append]; exact hl) (by rw [e]; exact hk)
    rw [e] at this
    exact this)
  have HF0 := hideIt ((Fr.refl (fun _ => False) w).alloc (.cells #[.slice ao l.length ca, .slice bo m.length cb] 22))
  have HL := hideIt (show (l ++ m).length ≤ 1099511627776 by rw [List.length_append]; exact hl)
  clear h h' hk e hl
  generalize l ++ m = lm at *
  go_enter Try.func8, Try.ntmps8
  go_wp2_with fail
  refine Calls.mono hG.out ?_
  rintro e w1 ⟨g, rfl, _, hs, hF1⟩
  have hR := hideIt (HC _ lm w1 hs HL.out)
  have HF1 := hideIt (HF0.out.trans hF1 (fun _ _ e => e))
  clear hs hF1
  go_wp2_with fail
  refine Calls.mono hR.out ?_
  rintro e w2 ⟨ao', cap', rfl, hrow, hF2, hnew⟩
  have HFIN := hideIt (show RiseFull (setL lm) w (.returned (.slice ao' (setL lm).length cap')) w2 from ⟨ao', cap', rfl, hrow, HF1.out.trans hF2 (fun _ _ e => e), fun k hk => Nat.le_trans HF1.out.size (hnew k hk)⟩)
  clear hrow hF2 hnew
  generalize setL lm = sl at *
  go_wp2_with fail
  go_ret
  exact HFIN.out

set_option maxRecDepth 100000 in
set_option maxHeartbeats 1000000 in
theorem kamong_full (HC : KRisingFullC) (ao bo : Option Addr) (ca cb : Nat) (l : List ByteArray) (s : List Sp) (w : World) (h : l = [] ∨ KsAt w ao l) (hs : s = [] ∨ SpsAt w bo s) (hl : l.length ≤ 1000000) (hsl : s.length ≤ 1000000) (hk : ∀ x ∈ l, x.size ≤ maxLen) :
    Calls Try.prog 23 #[.slice ao l.length ca, .slice bo s.length cb] w (RiseFull (amongL l s) w) := by
  have HH := hideIt h
  have HK := hideIt hk
  have hJ := hideIt (join_any bo cb s w hs (by omega))
  have HHB := hideIt (kj_has s)
  have HJD := hideIt (kj_jd s)
  have hjl := kj_len s
  clear h hs hk
  generalize joinC s = J at *
  have hmm := @run_makeMap Try.prog
  go_enter Try.func23, Try.ntmps23
  go_wp2_with fail
  refine Calls.mono hJ.out ?_
  rintro e w1 ⟨aoJ, capJ, rfl, hrow, hF, hn⟩
  have HF1 := hideIt hF
  have HROW := hideIt hrow.at
  clear hrow hF hn hJ
  go_wp2_with fail
  clear hmm
  go_loopw [14] (fun i wr => ∃ j : Nat, i = .int .i64 j ∧ j ≤ l.length ∧ Hid (SetAt wr w1.heap.size ((l.take j).filter fun k => hasB s k.toList)) ∧ Hid (Fr (fun _ => False) w1 wr)) (fun i _ => l.length - (intOf i).toNat)
  case atStart => exact ⟨0, rfl, Nat.zero_le _, hideIt (SetAt.made w1), hideIt ((Fr.refl _ w1).alloc _)⟩
  case round =>
    obtain ⟨j, rfl, hj, HS, HF⟩ := hrel
    by_cases hlt : j < l.length
    · obtain ⟨b, off, rfl, hbl, c0⟩ := KsAt.get (kats_fr0 HH.out (HF1.out.trans HF.out (fun _ _ e => e))) j hlt
      have HT := hideIt (List.take_succ_eq_append_getElem hlt)
      have HKJ := hideIt (HK.out _ (List.getElem_mem hlt))
      have hA := hideIt (by have := karea_any aoJ capJ J l[j] _ (Or.inr (HROW.out.fr0 HF.out)) HJD.out (by omega); rw [HHB.out] at this; exact this)
      have HLF := hideIt (show ((l.take j).filter fun k => hasB s k.toList).length < maxLen by have := List.length_filter_le (fun k => hasB s k.toList) (l.take j); rw [List.length_take] at this; unfold maxLen; omega)
      generalize l[j] = x at *
      by_cases hx : hasB s x.toList = true
      · have HT2 := hideIt (show ((l.take (j + 1)).filter fun k => hasB s k.toList) = ((l.take j).filter fun k => hasB s k.toList) ++ [x] by rw [HT.out, List.filter_append]; congr 1; rw [List.filter_cons, if_pos hx]; rfl)
        rw [hx] at hA
        clear hx
        go_wp2_with fail
        refine Calls.mono hA.out ?_
        rintro e w2 ⟨rfl, hF2⟩
        have HF2 := hideIt (HF.out.trans hF2 (fun _ _ e => e))
        obtain ⟨w3, hrun, hs3, hf3⟩ := (HS.out.fr hF2 (fun e => e)).put x HLF.out HKJ.out
        have HR := hideIt hrun
        have HS3 := hideIt hs3
        have HF3 := hideIt (HF2.out.trans hf3 (fun i hi e => by omega))
        clear hrun hs3 hf3 hF2 hA
        go_wp2_with (first | (at_mapUpdate; refine wpList_mapUpdate_run _ rfl _ _ _ _ rfl _ _ _ _ rfl rfl rfl HR.out ?_))
        go_roundw
        case measure => simp [intOf]; omega
        case rel => exact ⟨j + 1, by go_num, by omega, hideIt (by rw [HT2.out]; exact HS3.out), HF3⟩
      · have hx' : hasB s x.toList = false := by simpa using hx
        have HT2 := hideIt (show ((l.take (j + 1)).filter fun k => hasB s k.toList) = ((l.take j).filter fun k => hasB s k.toList) by rw [HT.out, List.filter_append, List.filter_cons, if_neg hx]; simp)
        rw [hx'] at hA
        clear hx hx'
        go_wp2_with fail
        refine Calls.mono hA.out ?_
        rintro e w2 ⟨rfl, hF2⟩
        have HF2 := hideIt (HF.out.trans hF2 (fun _ _ e => e))
        have HS2 := hideIt (HS.out.fr hF2 (fun e => e))
        clear hF2 hA
        go_wp2_with fail
        go_roundw
        case measure => simp [intOf]; omega
        case rel => exact ⟨j + 1, by go_num, by omega, hideIt (by rw [HT2.out]; exact HS2.out), HF2⟩
    · obtain rfl : j = l.length := by omega
      have hR := hideIt (HC w1.heap.size _ _ HS.out (by have := List.length_filter_le (fun k => hasB s k.toList) (l.take l.length); rw [List.length_take] at this; omega))
      rw [List.take_length, show setL (l.filter fun k => hasB s k.toList) = amongL l s from rfl] at hR
      go_wp2_with fail
      refine Calls.mono hR.out ?_
      rintro e w2 ⟨ao', cap', rfl, hrow, hF2, hnew⟩
      have HFIN := hideIt (show RiseFull (amongL l s) w (.returned (.slice ao' (amongL l s).length cap')) w2 from ⟨ao', cap', rfl, hrow, (HF1.out.trans HF.out (fun _ _ e => e)).trans hF2 (fun _ _ e => e), fun k hk => Nat.le_trans (HF1.out.trans HF.out (fun _ _ e => e)).size (hnew k hk)⟩)
      clear hrow hF2 hnew hR
      go_wp2_with fail
      go_ret
      exact HFIN.out

theorem among_full (HC : KRisingFullC) : AmongFullC := fun ao bo ca cb l s w h hs hl hsl hk => kamong_full HC ao bo ca cb l s w h hs hl hsl hk

end Go.Proofs.Ytnjogpojikjflaa

/- Keys: AppendSeq's round, at this program: what is appended lies in a row whose spare room is empty texts. -/
namespace Go.Proofs.Ytnjogpojikjflaa
open Go.RowKit Go.IntWalk Go.Sort Go.Maps Go.Shelf
set_option linter.unusedSimpArgs false
set_option linter.unusedVariables false
set_option maxRecDepth 100000

theorem inAppendRun {F : Fence} {n : Nat} {P : Program} (w : World) {ops : Array Oper} {rest : List Oper} {o : Oper} {a : Act} {Q : Exit → Act → World → Prop} (hg : o.guard = none) (s x : Operand) (t tx : TypeId)
    (hop : o.op = Op.call { callee := Callee.builtin Builtin.append, args := #[s, x], argTypes := #[t, tx] }) (v y v' : Value) (w' : World) (hs : a.eval s = v) (hx : a.eval x = y)
    (hrun : (Builtin.append_ #[t, tx] o.type #[v, y]).run P w = .ok v' w') (hK : wpListIn F n P ops Q rest (a.put o.dst v') w') : wpListIn F n P ops Q (o :: rest) a w := by
  refine wpListIn_plain hg fun K hK' => ?_
  unfold Oper.wpIn
  constructor
  · simp [Oper.about, hop, resolve, Target.leads, Sem.run_pure]
  · rw [Oper.semAt_plain F _ _ (by rw [hop]; intro c hc; cases hc)]
    simp [execOp, hop, resolve, invoke, builtin, hs, hx, hrun, Result.andThen]
    exact hK' _ _ hK

theorem Fr.of_grown {w w' : World} {r : Option Nat} (h : w.grownBy w' r) : Fr (fun k => r = some k) w w' := ⟨h.os, h.tape, h.output, h.size, fun k hk hn => h.block k hk (fun e => hn e.symm)⟩

theorem KsFull.not {w : World} {ao : Option Addr} {cap : Nat} {l : List ByteArray} (h : KsFull w ao cap l) {j : Nat} {o : Obj} (hj : w.heap[j]? = some o) (ho : ∀ cur, o ≠ .cells cur 9 (0, 0)) : ¬ blk ao j := by
  rintro ⟨a, e1, e2⟩
  rcases h with ⟨rfl, _⟩ | ⟨g, z, rfl, hg, _⟩
  · cases e1
  · obtain rfl := Option.some.inj e1
    simp only at e2
    subst e2
    rw [hg] at hj
    exact ho _ (Option.some.inj hj).symm

/-- Between two rounds: the box holds a slice of the call's own; the loop's record, what is put off; all that lay before has stayed. -/
structure KBox (w0 : World) (fn : FuncId) (sv : Value) (Bs l D : Nat) (ss : List By) (W : World) : Prop where
  box : ∃ ao cap ks, ss = ks.map ByteArray.toList ∧ W.heap[Bs]? = some (.cells #[.slice ao ks.length cap] 22 (0, 0)) ∧ KsFull W ao cap ks ∧ ∀ q, blk ao q → w0.heap.size ≤ q
  loop : W.heap[l]? = some (.loop (AnyZ.apRec Try.msorted_ren fn sv Bs D .ready none))
  off : W.heap[D]? = some (.deferred (some []))
  below : Below w0.heap.size w0 W

theorem kbox_abides (w0 : World) (fn : FuncId) (sv : Value) (Bs l D B : Nat) (hB : w0.heap.size ≤ B) : AbidesFrom B (KBox w0 fn sv Bs l D) := fun s W W' row h hg hrow => by
  have hr : ∀ r, row = some r → ∃ o : Obj, W.heap[r]? = some o ∧ o.isWalk = true := fun r e => (hrow r e).2
  obtain ⟨ao, cap, ks, e, hv, hf, hn⟩ := h.box
  refine ⟨⟨ao, cap, ks, e, (grownBy_keeps hg hr hv rfl).trans hv, hf.fr (Fr.of_grown hg) (fun k hk e2 => ?_), hn⟩, (grownBy_keeps hg hr h.loop rfl).trans h.loop, (grownBy_keeps hg hr h.off rfl).trans h.off, h.below.grown hg h.below.size (fun k e => Nat.le_trans hB (hrow k e).1)⟩
  obtain ⟨o, ho, hw⟩ := hr k e2
  refine hf.not ho (fun cur e3 => ?_) hk
  rw [e3] at hw
  cases hw

end Go.Proofs.Ytnjogpojikjflaa

/- Keys: AppendSeq's round, walked. -/
namespace Go.Proofs.Ytnjogpojikjflaa
open Go.RowKit Go.IntWalk Go.Sort Go.Maps Go.Shelf
set_option linter.unusedSimpArgs false
set_option linter.unusedVariables false
set_option maxRecDepth 100000

set_option maxRecDepth 100000 in
set_option maxHeartbeats 2000000 in
theorem kbox_round (F : Fence) (m : Nat) (w0 : World) (fn : FuncId) (hfn : F.fn fn) (sv : Value) (Bs l D : Nat) (hBl : Bs ≠ l) (hDl : D ≠ l) (hDB : D ≠ Bs) (h0B : w0.heap.size ≤ Bs) (h0l : w0.heap.size ≤ l)
    (N : Nat) (hN : N ≤ 1099511627776) (ss : List By) (x : By) (k : ByteArray) (hk : k.toList = x) (W : World) (h : KBox w0 fn sv Bs l D ss W) (hlen : ss.length < N) :
    YieldAt F m Try.prog l #[encStr x] W fun e W' => e = .returned (.bool true) ∧ KBox w0 fn sv Bs l D (ss ++ [x]) W' ∧ KeepsWalks W W' := by
  have L := Try.msorted
  have t0 := L.t0; have a0 := L.a0; have z0 := L.z0; have v0 := L.v0; have t24 := L.t24; have a24 := L.a24; have z24 := L.z24; have v24 := L.v24; have t26 := L.t26; have a26 := L.a26; have z26 := L.z26; have v26 := L.v26; have t28 := L.t28; have a28 := L.a28; have z28 := L.z28; have v28 := L.v28
  have mixed := L.mixed
  have u0 := run_underlying L.t0; have u24 := run_underlying L.t24; have u26 := run_underlying L.t26; have u28 := run_underlying L.t28
  have ek : encStr x = .string k := by rw [← hk]; exact encStr_toList k
  obtain ⟨ao, cap, ks, rfl, hv, hf, hn⟩ := h.box
  have hkl : ks.length < N := by simpa using hlen
  refine ⟨fn, #[.slice none 0 0, sv, .pointer (some ⟨Bs, 0, none⟩), undef, .slice none 0 0, undef, sv, encStr x, undef, undef, undef, undef, undef], AnyZ.apAssign Try.msorted_ren, AnyZ.apBody Try.msorted_ren, by simpa [AnyZ.apRec] using run_yield (P := Try.prog) (args := #[encStr x]) h.loop rfl, roundIn_of_wpIn hfn ?_⟩
  have hbr := run_beginRound (P := Try.prog) h.loop rfl
  obtain ⟨W2, hW2⟩ : ∃ W2, W.putObj l (.loop { AnyZ.apRec Try.msorted_ren fn sv Bs D .ready none with state := .busy }) = W2 := ⟨_, rfl⟩
  rw [hW2] at hbr
  have hl : l < W.heap.size := (Array.getElem?_eq_some_iff.1 h.loop).1
  have hg2 : W.grownBy W2 (some l) := by rw [← hW2]; exact grownBy_putObj_a _ _ _
  have hk2 : KeepsWalks W W2 := by rw [← hW2]; exact KeepsWalks.putObj _ h.loop rfl
  have hv2 : W2.heap[Bs]? = some (.cells #[.slice ao ks.length cap] 22 (0, 0)) := by rw [← hW2]; exact (World.putObj_heap_other hBl).trans hv
  have hD2 : W2.heap[D]? = some (.deferred (some [])) := by rw [← hW2]; exact (World.putObj_heap_other hDl).trans h.off
  have hL2 : W2.heap[l]? = some (.loop { AnyZ.apRec Try.msorted_ren fn sv Bs D .ready none with state := .busy }) := by rw [← hW2]; exact World.putObj_heap_same hl
  have hf2 : KsFull W2 ao cap ks := hf.fr (Fr.of_grown hg2) (fun q hq e => by obtain rfl := Option.some.inj e; exact hf.not h.loop (fun cur e2 => by cases e2) hq)
  have hb2 : Below w0.heap.size w0 W2 := h.below.grown hg2 h.below.size (fun k e => by cases e; exact h0l)
  obtain ⟨hc2, hz2⟩ := cell_of_box_a hv2
  have hBlt : Bs < W2.heap.size := (Array.getElem?_eq_some_iff.1 hv2).1
  have hl2 : l < W2.heap.size := (Array.getElem?_eq_some_iff.1 hL2).1
  have hDlt : D < W2.heap.size := (Array.getElem?_eq_some_iff.1 hD2).1
  clear hW2
  have hF3 : Fr (fun _ => False) W2 (W2.alloc (.cells #[.string k] 9)) := (Fr.refl _ _).alloc _
  obtain ⟨ao3, cap3, w3, hrun, hf3, hFr3, hao⟩ := ks_app_full (W2.alloc (.cells #[.string k] 9)) ao cap ks [k] (hf2.fr0 hF3) (some ⟨W2.heap.size, 0, none⟩) 1 (Or.inr (ks_new W2 [k] 9)) (by simp; omega)
  have hFr := (hF3.mono (S' := blk ao) (fun _ e => e.elim)).trans hFr3 (fun _ _ e => e)
  have nB : ¬ blk ao Bs := hf2.not hv2 (fun cur e => by cases e)
  have nl : ¬ blk ao l := hf2.not hL2 (fun cur e => by cases e)
  have nD : ¬ blk ao D := hf2.not hD2 (fun cur e => by cases e)
  have hv3 := (hFr.block Bs hBlt nB).trans hv2
  have hL3 := (hFr.block l hl2 nl).trans hL2
  have hD3 := (hFr.block D hDlt nD).trans hD2
  obtain ⟨hc3, hz3⟩ := cell_of_box_a hv3
  have HR := hideIt hrun
  rw [ek]
  unfold AnyZ.apAssign
  gi_wp2_with gi_round_op_a
  unfold AnyZ.apBody
  gi_wp2_with (first | (gi_at_builtin; refine inAppendRun _ rfl _ _ (Try.msorted_ren.t 24) (Try.msorted_ren.t 24) rfl _ _ _ _ rfl rfl HR.out ?_; go_frame) | gi_round_op_a)
  have nao3 : ∀ q, blk ao3 q → w0.heap.size ≤ q := fun q hq => by
    rcases hao with e | e
    · exact hn q (e ▸ hq)
    · obtain ⟨a, e1, e2⟩ := hq
      rw [e] at e1
      obtain rfl := Option.some.inj e1
      have := hb2.size
      simp at e2
      omega
  obtain ⟨w4, hw4⟩ : ∃ w4, w3.setCell ⟨Bs, 0, none⟩ (.slice ao3 (ks.length + 1) cap3) = w4 := ⟨_, rfl⟩
  have hg4 : w3.grownBy w4 (some Bs) := by rw [← hw4]; exact grownBy_setCell0_a _ _ _
  have hv4 : w4.heap[Bs]? = some (.cells #[.slice ao3 (ks.length + 1) cap3] 22 (0, 0)) := by rw [← hw4]; exact heap_setCell_box_a _ hv3
  have hL4 : w4.heap[l]? = some (.loop { AnyZ.apRec Try.msorted_ren fn sv Bs D .ready none with state := .busy }) := (hg4.block l (Array.getElem?_eq_some_iff.1 hL3).1 (fun e => hBl (by cases e; rfl))).trans hL3
  have hD4 : w4.heap[D]? = some (.deferred (some [])) := (hg4.block D (Array.getElem?_eq_some_iff.1 hD3).1 (fun e => hDB (by cases e; rfl))).trans hD3
  have hf4 : KsFull w4 ao3 cap3 (ks ++ [k]) := hf3.fr (Fr.of_grown hg4) (fun q hq e => by obtain rfl := Option.some.inj e; exact hf3.not hv3 (fun cur e2 => by cases e2) hq)
  have hb3 : Below w0.heap.size w0 w3 := hb2.trans (hFr.below hb2.size hn)
  have hb4 : Below w0.heap.size w0 w4 := hb3.grown hg4 hb3.size (fun k e => by cases e; exact h0B)
  have hk4 : KeepsWalks w3 w4 := by rw [← hw4]; exact KeepsWalks.setCell _ _ _
  have hk3 : KeepsWalks W2 w3 := ⟨hFr.size, fun j o hj hw => (hFr.block j (Array.getElem?_eq_some_iff.1 hj).1 (hf2.not hj (fun cur e => by rw [e] at hw; cases hw))).trans hj⟩
  have hl4 : l < w4.heap.size := (Array.getElem?_eq_some_iff.1 hL4).1
  rw [hw4]
  clear hw4
  refine ⟨_, _, run_endRound none hL4, rfl, ⟨⟨ao3, cap3, ks ++ [k], by simp [hk], ?_, ?_, nao3⟩, World.putObj_heap_same hl4, (World.putObj_heap_other hDl).trans hD4, hb4.grown (grownBy_putObj_a _ _ _) hb4.size (fun k e => by cases e; exact h0l)⟩, ((hk2.trans hk3).trans hk4).trans (KeepsWalks.putObj _ hL4 rfl)⟩
  · rw [List.length_append]
    exact (World.putObj_heap_other hBl).trans hv4
  · exact hf4.fr (Fr.of_grown (grownBy_putObj_a _ _ _)) (fun q hq e => by obtain rfl := Option.some.inj e; exact hf4.not hL4 (fun cur e2 => by cases e2) hq)

end Go.Proofs.Ytnjogpojikjflaa

/- Keys: AppendSeq, Collect, walked: what an iterator gives, in a row whose spare room is empty texts. -/
namespace Go.Proofs.Ytnjogpojikjflaa
open Go.RowKit Go.IntWalk Go.Sort Go.Maps Go.Shelf
set_option linter.unusedSimpArgs false
set_option linter.unusedVariables false
set_option maxRecDepth 100000

/-- What is told: a row of the call's own whose spare room is empty texts. -/
def GivenFull (S : List By → Prop) (w : World) (e : Ending) (w' : World) : Prop :=
  ∃ ao cap ks, e = .returned (.slice ao ks.length cap) ∧ S (ks.map ByteArray.toList) ∧ KsFull w' ao cap ks ∧ (∀ q, blk ao q → w.heap.size ≤ q) ∧ Below w.heap.size w w'

set_option maxRecDepth 100000 in
set_option maxHeartbeats 2000000 in
theorem kappendSeq_in (F : Fence) (n : Nat) (h11 : F.fn (Try.msorted_ren.f 11)) (hro : F.round = none) (hn : 2 ≤ n) (g : Nat) (lb : Array Value) (hFg : F.fn g) (eg : ∀ args w, (callFunc g args).run Try.prog w = .ok (.enter g args) w)
    (S : List By → Prop) (N : Nat) (hN : N ≤ 1099511627776) (w : World) (hseq : SeqGives F (n - 1) Try.prog g lb encStr S N w) :
    CallsIn F n Try.prog (Try.msorted_ren.f 11) #[.slice none 0 0, .func (.func g) #[] lb] w (GivenFull S w) := by
  have h1 : 1 ≤ n := by omega
  have L := Try.msorted
  have mixed := L.mixed
  have t0 := L.t0; have a0 := L.a0; have z0 := L.z0; have v0 := L.v0; have t24 := L.t24; have a24 := L.a24; have z24 := L.z24; have v24 := L.v24; have t26 := L.t26; have a26 := L.a26; have z26 := L.z26; have v26 := L.v26; have t28 := L.t28; have a28 := L.a28; have z28 := L.z28; have v28 := L.v28
  have u0 := run_underlying L.t0; have u24 := run_underlying L.t24; have u26 := run_underlying L.t26; have u28 := run_underlying L.t28
  obtain ⟨_, _, FG⟩ := L.f11
  refine callsIn_of_wp_marks FG rfl h11 ?_ hro
  simp only [SlBodyZ.n11_ntmps Try.msorted_ren, List.size_toArray, List.length_cons, List.length_nil, Nat.reduceAdd, Nat.reduceSub, Array.replicate_succ, Array.replicate_zero, List.push_toArray, List.append_toArray, List.nil_append, List.cons_append]
  gi_wp2
  refine wpIn_rangeFunc ?_
  intro fn hfn
  rw [hro]
  obtain ⟨W0, hW0⟩ : ∃ W0, w.alloc (.cells #[.slice none 0 0] 22) = W0 := ⟨_, rfl⟩
  have hs0 : W0.heap.size = w.heap.size + 1 := by rw [← hW0]; simp
  have hv0 : W0.heap[w.heap.size]? = some (.cells #[.slice none 0 0] 22 (0, 0)) := by rw [← hW0]; exact World.alloc_heap_new w _
  have hb0 : Below w.heap.size w W0 := by rw [← hW0]; exact (Below.refl _ w).alloc (Nat.le_refl _) _
  have hW0' : w.alloc (.cells #[.slice none 0 0] (Try.msorted_ren.t 24)) = W0 := hW0
  rw [hW0']
  obtain ⟨W1, hW1⟩ : ∃ W1, (W0.alloc (.deferred (some []))).alloc (.loop (AnyZ.apRec Try.msorted_ren fn (.func (.func g) #[] lb) w.heap.size W0.heap.size .ready none)) = W1 := ⟨_, rfl⟩
  have hold : ∀ k, k < W0.heap.size → W1.heap[k]? = W0.heap[k]? := fun k hk => by
    rw [← hW1]; exact (Below.heap_alloc _ _ k (by simp; omega)).trans (Below.heap_alloc _ _ k hk)
  have hb1 : Below w.heap.size w W1 := by rw [← hW1]; exact (hb0.alloc hb0.size _).alloc (by have := hb0.size; simp; omega) _
  have hM : KBox w fn (.func (.func g) #[] lb) w.heap.size (W0.heap.size + 1) W0.heap.size [] W1 :=
    ⟨⟨none, 0, [], rfl, (hold w.heap.size (by omega)).trans hv0, Or.inl ⟨rfl, rfl, rfl⟩, fun q ⟨a, e, _⟩ => by cases e⟩,
     by rw [← hW1]; have := World.alloc_heap_new (W0.alloc (.deferred (some []))) (.loop (AnyZ.apRec Try.msorted_ren fn (.func (.func g) #[] lb) w.heap.size W0.heap.size .ready none)); rwa [World.size_alloc] at this,
     by rw [← hW1]; exact (Below.heap_alloc _ _ _ (by simp)).trans (World.alloc_heap_new W0 _), hb1⟩
  refine ⟨W0.heap.size + 1, [{ target := .collected W0.heap.size, args := #[] }], W1, { target := .fn (.func g) lb, args := #[.func (.yield (W0.heap.size + 1)) #[] #[]] }, W1, g,
    #[.func (.yield (W0.heap.size + 1)) #[] #[]] ++ lb, W1, ?_, ?_, ?_, ?_, fun _ => h1, ?_⟩
  · rw [← hW1]; exact run_enterLoop_outer _ _ _ _ _
  · simp [resolve, go_sem]
  · intro f' hf'; simp [Target.leads] at hf'; subst hf'; exact hFg
  · simp [invoke, go_sem, eg]
  · refine (hseq (W0.heap.size + 1) (KBox w fn (.func (.func g) #[] lb) w.heap.size (W0.heap.size + 1) W0.heap.size) W1 hb1 (kbox_abides w _ _ _ _ _ _ hb1.size)
      (fun pre x W hJ hl => kbox_round F (n - 1 - 1) w fn hfn _ w.heap.size (W0.heap.size + 1) W0.heap.size (by omega) (by omega) (by omega) (Nat.le_refl _) (by omega) N hN pre x ⟨x.toArray⟩ (by rw [Lib.toList_data]) W hJ hl) hM).mono ?_
    rintro e W2 ⟨⟨v0, rfl⟩, ss, hS, h2⟩
    obtain ⟨ao, cap, ks, rfl, hv, hf, hnew⟩ := h2.box
    have hend := run_endLoop (P := Try.prog) h2.loop (by simp [AnyZ.apRec])
    obtain ⟨W3, hW3⟩ : ∃ W3, W2.putObj (W0.heap.size + 1) (.loop { AnyZ.apRec Try.msorted_ren fn (.func (.func g) #[] lb) w.heap.size W0.heap.size .ready none with state := .exhausted }) = W3 := ⟨_, rfl⟩
    rw [hW3] at hend
    have hg3 : W2.grownBy W3 (some (W0.heap.size + 1)) := by rw [← hW3]; exact grownBy_putObj_a _ _ _
    have hv3 : W3.heap[w.heap.size]? = some (.cells #[.slice ao ks.length cap] 22 (0, 0)) := by rw [← hW3]; exact (World.putObj_heap_other (by omega)).trans hv
    have hD3 : W3.heap[W0.heap.size]? = some (.deferred (some [])) := by rw [← hW3]; exact (World.putObj_heap_other (by omega)).trans h2.off
    have hf3 : KsFull W3 ao cap ks := hf.fr (Fr.of_grown hg3) (fun q hq e => by obtain rfl := Option.some.inj e; exact hf.not h2.loop (fun cur e2 => by cases e2) hq)
    have hb3 : Below w.heap.size w W3 := h2.below.grown hg3 h2.below.size (fun k e => by cases e; omega)
    obtain ⟨hc3, hz3⟩ := cell_of_box_a hv3
    clear hW3
    refine ⟨none, W3, hend, ?_⟩
    gi_wp2
    rw [← hs0]
    refine ⟨by simp, .inl ⟨_, _, rfl, run_takeDeferred hD3, ?_⟩⟩
    exact ⟨_, results_tmp rfl _ _ _, ao, cap, ks, rfl, hS, hf3.fr (Fr.of_grown (grownBy_putObj_a _ _ _)) (fun q hq e => by obtain rfl := Option.some.inj e; exact hf3.not hD3 (fun cur e2 => by cases e2) hq), hnew, hb3.grown (grownBy_putObj_a _ _ _) hb3.size (fun k e => by cases e; omega)⟩

end Go.Proofs.Ytnjogpojikjflaa

/- Keys: Collect, Sorted, rising: a set's keys in order, in a row whose spare room is empty texts. -/
namespace Go.Proofs.Ytnjogpojikjflaa
open Go.RowKit Go.IntWalk Go.Sort Go.Maps Go.Shelf
set_option linter.unusedSimpArgs false
set_option linter.unusedVariables false
set_option maxRecDepth 100000

set_option maxHeartbeats 1000000 in
theorem kcollect_in (F : Fence) (n : Nat) (h8 : F.fn (Try.msorted_ren.f 8)) (h11 : F.fn (Try.msorted_ren.f 11)) (hro : F.round = none) (hn : 3 ≤ n) (g : Nat) (lb : Array Value) (hFg : F.fn g) (eg : ∀ args w, (callFunc g args).run Try.prog w = .ok (.enter g args) w)
    (S : List By → Prop) (N : Nat) (hN : N ≤ 1099511627776) (w : World) (hseq : SeqGives F (n - 1 - 1) Try.prog g lb encStr S N w) :
    CallsIn F n Try.prog (Try.msorted_ren.f 8) #[.func (.func g) #[] lb] w (GivenFull S w) := by
  have h1 : 1 ≤ n := by omega
  have L := Try.msorted
  have e11 : ∀ args w, (callFunc (Try.msorted_ren.f 11) args).run Try.prog w = .ok (.enter (Try.msorted_ren.f 11) args) w := L.f11.enters rfl
  have mixed := L.mixed
  have t0 := L.t0; have a0 := L.a0; have z0 := L.z0; have v0 := L.v0; have t24 := L.t24; have a24 := L.a24; have z24 := L.z24; have v24 := L.v24; have t26 := L.t26; have a26 := L.a26; have z26 := L.z26; have v26 := L.v26; have t28 := L.t28; have a28 := L.a28; have z28 := L.z28; have v28 := L.v28
  have u0 := run_underlying L.t0; have u24 := run_underlying L.t24; have u26 := run_underlying L.t26; have u28 := run_underlying L.t28
  obtain ⟨_, _, FG⟩ := L.f8
  refine callsIn_of_wp FG rfl h8 ?_ hro
  simp only [SlBodyZ.n8_ntmps Try.msorted_ren, List.size_toArray, List.length_cons, List.length_nil, Nat.reduceAdd, Nat.reduceSub, Array.replicate_succ, Array.replicate_zero, List.push_toArray, List.append_toArray, List.nil_append, List.cons_append]
  gi_wp2_with (gi_at_fn (Try.msorted_ren.f 11); refine (kappendSeq_in F (n - 1) h11 hro (by omega) g lb hFg eg S N hN _ hseq).mono ?_; rintro e w' ⟨ao, cap, ks, rfl, hS, hf, hnew, hb⟩)
  go_ret
  exact ⟨ao, cap, ks, rfl, hS, hf, hnew, hb⟩

theorem put_full (ks js : List ByteArray) (z : Nat) (h : js.length = ks.length) : putCells encStr 0 (js.map ByteArray.toList).toArray (((ks ++ List.replicate z (⟨#[]⟩ : ByteArray)).map Value.string).toArray) = ((js ++ List.replicate z (⟨#[]⟩ : ByteArray)).map Value.string).toArray := by
  apply Array.ext
  · simp [putCells, h]
  · intro i h1 h2
    by_cases hi : i < js.length
    · have hi2 : i < ks.length := by omega
      simp [putCells, hi, encStr_toList, List.getElem_append_left]
    · have hi2 : ¬ i < ks.length := by omega
      simp [putCells, hi2, h]
      rw [List.getElem_append_right (by simp; omega), List.getElem_append_right (by simp; omega)]
      simp

set_option maxRecDepth 100000 in
set_option maxHeartbeats 2000000 in
theorem ksorted_in (F : Fence) (n : Nat) (h6 : F.fn (Try.msorted_ren.f 6)) (h8 : F.fn (Try.msorted_ren.f 8)) (h9 : F.fn (Try.msorted_ren.f 9)) (h11 : F.fn (Try.msorted_ren.f 11)) (hro : F.round = none) (hn : 4 ≤ n) (hsort : AnyZ.SortsIn Try.prog Try.msorted_ren F (n - 1)) (e9 : ∀ args w, (callFunc (Try.msorted_ren.f 9) args).run Try.prog w = .ok (.enter (Try.msorted_ren.f 9) args) w) (g : Nat) (lb : Array Value) (hFg : F.fn g) (eg : ∀ args w, (callFunc g args).run Try.prog w = .ok (.enter g args) w)
    (S : List By → Prop) (N : Nat) (hN : N ≤ 1099511627776) (w : World) (hseq : SeqGives F (n - 1 - 1 - 1) Try.prog g lb encStr S N w) :
    CallsIn F n Try.prog (Try.msorted_ren.f 6) #[.func (.func g) #[] lb] w fun e w' => ∃ (ao : Option Addr) (cap : Nat) (ks js : List ByteArray), e = .returned (.slice ao js.length cap) ∧ S (ks.map ByteArray.toList) ∧ js.map ByteArray.toList = (ks.map ByteArray.toList).mergeSort (fun x y => decide (x ≤ y)) ∧ KsFull w' ao cap js ∧ (∀ q, blk ao q → w.heap.size ≤ q) ∧ Below w.heap.size w w' := by
  have h1 : 1 ≤ n := by omega
  have L := Try.msorted
  have e8 : ∀ args w, (callFunc (Try.msorted_ren.f 8) args).run Try.prog w = .ok (.enter (Try.msorted_ren.f 8) args) w := L.f8.enters rfl
  have mixed := L.mixed
  have t0 := L.t0; have a0 := L.a0; have z0 := L.z0; have v0 := L.v0; have t24 := L.t24; have a24 := L.a24; have z24 := L.z24; have v24 := L.v24; have t26 := L.t26; have a26 := L.a26; have z26 := L.z26; have v26 := L.v26; have t28 := L.t28; have a28 := L.a28; have z28 := L.z28; have v28 := L.v28
  have u0 := run_underlying L.t0; have u24 := run_underlying L.t24; have u26 := run_underlying L.t26; have u28 := run_underlying L.t28
  obtain ⟨_, _, FG⟩ := L.f6
  refine callsIn_of_wp FG rfl h6 ?_ hro
  simp only [SlBodyZ.n6_ntmps Try.msorted_ren, List.size_toArray, List.length_cons, List.length_nil, Nat.reduceAdd, Nat.reduceSub, Array.replicate_succ, Array.replicate_zero, List.push_toArray, List.append_toArray, List.nil_append, List.cons_append]
  gi_wp2_with (gi_at_fn (Try.msorted_ren.f 8); refine (kcollect_in F (n - 1) h8 h11 hro (by omega) g lb hFg eg _ N hN _ hseq.bounded).mono ?_; rintro e W ⟨ao, cap, ks, rfl, ⟨hS, hlen⟩, hf, hnew, hb⟩)
  rcases hf with ⟨rfl, rfl, rfl⟩ | ⟨gb, z, rfl, hg, hcap, hcm⟩
  · gi_wp2_with (gi_at_fn (Try.msorted_ren.f 9); refine (hsort.2 none 0 W).mono ?_; rintro e w' ⟨rfl, rfl⟩)
    go_ret
    exact ⟨none, 0, [], [], rfl, hS, by simp, Or.inl ⟨rfl, rfl, rfl⟩, hnew, hb⟩
  · have hH : Holds encStr W gb 0 (ks.map ByteArray.toList).toArray := holds_of_block hg (by simp [encStr_toList, List.take_append])
    have hgl : gb < W.heap.size := (Array.getElem?_eq_some_iff.1 hg).1
    have hsz : (ks.map ByteArray.toList).length < 4611686018427387904 := by omega
    have cS := hsort.1 gb 0 cap (ks.map ByteArray.toList) W hH hgl hsz
    rw [List.length_map] at cS
    gi_wp2_with (gi_at_fn (Try.msorted_ren.f 9); refine cS.mono ?_; rintro e w' ⟨rfl, nn, os, rfl⟩)
    go_ret
    have hjs : ((((ks.map ByteArray.toList).mergeSort fun x y => decide (x ≤ y)).map fun x => (⟨x.toArray⟩ : ByteArray)).map ByteArray.toList) = (ks.map ByteArray.toList).mergeSort fun x y => decide (x ≤ y) := by
      rw [List.map_map]
      exact (List.map_congr_left (fun x _ => by simp [Lib.toList_data])).trans (List.map_id _)
    generalize ((ks.map ByteArray.toList).mergeSort fun x y => decide (x ≤ y)).map (fun x => (⟨x.toArray⟩ : ByteArray)) = js at hjs
    have hl : js.length = ks.length := by
      have := congrArg List.length hjs
      simpa using this
    refine ⟨some ⟨gb, 0, none⟩, cap, ks, js, by simp [hl, hcap], hS, hjs, Or.inr ⟨gb, z, rfl, ?_, by omega, hcm⟩, hnew, hb.grown (grownBy_sorted _) hb.size (fun j hj => by cases hj; exact hnew gb ⟨_, rfl, rfl⟩)⟩
    rw [← hjs, heap_sorted _ hg, put_full ks js z hl]

end Go.Proofs.Ytnjogpojikjflaa
