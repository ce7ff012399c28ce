/- KeysMeets, part 8 of the road: what the program's functions do, each by its own walk. -/
import Derived.Test.YtnjogpojikjflaaQ7
import Derived.Deep.Slices

/- Keys: rising, told in a row whose spare room is empty texts. -/
namespace Go.Proofs.Ytnjogpojikjflaa
open Go.RowKit Go.IntWalk Go.Sort Go.Maps Go.Shelf
set_option linter.unusedSimpArgs false
set_option linter.unusedVariables false
set_option maxRecDepth 100000

set_option maxHeartbeats 1000000 in
theorem msorted_full (b n : Nat) (D : DataW Unit) (w : World) (hown : w.ownsMap Try.prog 9 unitR b n D) (hmax : Maps.size D ≤ 1099511627776) :
    CallsIn Fence.wide 5 Try.prog 37 #[.func (.func 53) #[] #[.pointer (some ⟨w.heap.size, 0, none⟩)]] (w.alloc (.cells #[.map (some b)] 38)) fun e w' => ∃ (ao : Option Addr) (cap : Nat) (ks js : List ByteArray), e = .returned (.slice ao js.length cap) ∧ (ks.map ByteArray.toList).Perm (strKeys D) ∧
      js.map ByteArray.toList = (ks.map ByteArray.toList).mergeSort (fun x y => decide (x ≤ y)) ∧ KsFull w' ao cap js ∧ (∀ q, blk ao q → (w.alloc (.cells #[.map (some b)] 38)).heap.size ≤ q) ∧ Below (w.alloc (.cells #[.map (some b)] 38)).heap.size (w.alloc (.cells #[.map (some b)] 38)) w' := by
  have hbl := hown.lt
  have hseq : SeqGives Fence.wide 2 Try.prog 53 #[.pointer (some ⟨w.heap.size, 0, none⟩)] encStr (fun ss => ss.Perm (strKeys D)) (Maps.size D) (w.alloc (.cells #[.map (some b)] 38)) :=
    AnyZ.keys_gives (ρ := Try.mkeys_ren) { Try.mkeys with } Fence.wide _ trivial rfl (by omega) w.heap.size b n D _ (by simp) (by simp) (by
      obtain ⟨es, clock, hb, Ft, hs, hD⟩ := hown
      exact ⟨es, clock, (Below.heap_alloc _ _ b hbl).trans hb, Ft, hs, hD⟩)
  exact ksorted_in Fence.wide 5 trivial trivial trivial trivial rfl (by omega) (Try.sortsK _) (enters_of Try.func52 (by kernel_rfl) rfl) 53 #[.pointer (some ⟨w.heap.size, 0, none⟩)] trivial (enters_of Try.func53 (by kernel_rfl) rfl) _ _ hmax _ hseq

set_option maxHeartbeats 1000000 in
theorem krising_full : KRisingFullC := by
  intro b l w h hl
  obtain ⟨n, D, hown, hn, h3⟩ := h
  have hsz := hown.size_le
  have hmax : Maps.size D ≤ 1099511627776 := by omega
  have HF := hideIt (fun (ss : List By) (hp : ss.Perm (strKeys D)) => set_sorted hown h3 hp)
  clear h3
  refine (callsIn_wide (n := 6)).1 ?_
  have hfK : Fence.wide.fn 38 := trivial
  have hfS : Fence.wide.fn 37 := trivial
  refine callsIn_of_wp Try.func28 rfl trivial ?_ rfl
  simp only [Try.ntmps28, List.size_toArray, List.length_cons, List.length_nil, Nat.reduceAdd, Nat.reduceSub, Array.replicate_succ, Array.replicate_zero, List.push_toArray, List.append_toArray, List.nil_append, List.cons_append]
  gi_wp2_with (first
    | (gi_at_call 38; refine (mkeys_in _ _).mono ?_; rintro e w' ⟨rfl, rfl⟩)
    | (gi_at_call 37; refine (msorted_full b n D w hown hmax).mono ?_; rintro e w' ⟨ao, cap, ks, js, rfl, hS, hj, hf, hnew, hb⟩))
  go_ret
  obtain ⟨e1, _⟩ := HF.out _ hS
  have ej : js = setL l := by
    rw [← hj, List.map_map] at e1
    have e2 : js.map Value.string = (setL l).map Value.string := by
      rw [← e1]
      exact List.map_congr_left (fun x _ => (encStr_toList x).symm)
    exact (List.map_inj_right (fun a b h => Value.string.inj h)).1 e2
  subst ej
  exact ⟨ao, cap, rfl, hf, ((Fr.refl _ w).alloc _).trans (Fr.of_new hb) (fun _ _ e => e), fun q hq => by have := hnew q hq; simp at this; omega⟩

end Go.Proofs.Ytnjogpojikjflaa

/- Keys: KeysMeets' walk. -/
namespace Go.Proofs.Ytnjogpojikjflaa
open Go.RowKit Go.IntWalk

theorem kmeets_all (ao : Option Addr) (ca : Nat) (a : List ByteArray) (bo : Option Addr) (cb : Nat) (b : List ByteArray) (so : Option Addr) (cs : Nat) (s : List Sp) (w : World) (ha : a = [] ∨ KsAt w ao a) (hal : a.length ≤ 9223372036854775807) (hb : b = [] ∨ KsAt w bo b) (hbl : b.length ≤ 9223372036854775807) (hs : s = [] ∨ SpsAt w so s) (hsl : s.length ≤ 9223372036854775807) :
    Calls Try.prog 4 #[.slice ao a.length ca, .slice bo b.length cb, .slice so s.length cs] w fun e w' => e = .returned (.bool true) ∧ Fr (fun _ => False) w w' :=
  kmeets_law_of (among_full krising_full) ao bo so ca cb cs a b s w ha hb hs hal hbl hsl

end Go.Proofs.Ytnjogpojikjflaa

/- Keys that came in: a slice of texts. -/
namespace Go.Proofs.Ytnjogpojikjflaa
open Go.RowKit Go.IntWalk Go.Deep
set_option linter.unusedSimpArgs false
set_option linter.unusedVariables false
set_option maxRecDepth 100000

section
variable {H : Type} {enc : TypeId × Value → H} {w : World} {spare : Nat → Bool}

theorem text_of {n : Nat} {cs : List Value} {x : DataW H × List MemPlace} (h : DataW.trod enc Try.prog w 0 spare true n 9 cs = some x) : ∃ q : ByteArray, cs = [.string q] := by
  obtain ⟨s, hs, _, _⟩ := DataW.trod_string Try.underlying9 h
  exact ⟨s, hs⟩

theorem open_ks {v : Value} {d : DataW H} {ps : List MemPlace} {a0 : Option Addr} {len0 cap0 : Nat} (hv : v = .slice a0 len0 cap0)
    (h : DataW.Trod enc Try.prog w 0 (fun _ => true) true 22 v d ps) : ∃ l : List ByteArray, len0 = l.length ∧ (l = [] ∨ KsAt w a0 l) ∧ len0 ≤ cap0 ∧ len0 ≤ maxLen := by
  subst hv
  obtain ⟨fuel, h⟩ := h
  rcases open_slice Try.underlying22 h with ⟨h0, _⟩ | ⟨a, len, cap, m, n, D, Pl, hcs, hb, hl, hm, hmm, _, hx⟩
  · have e : a0 = none ∧ len0 = 0 ∧ cap0 = 0 := by simpa [Value.cells] using h0
    exact ⟨[], e.2.1, Or.inl rfl, by omega, by rw [e.2.1]; exact Nat.zero_le _⟩
  · have e : a0 = some a ∧ len0 = len ∧ cap0 = cap := by simpa [Value.cells] using hcs
    obtain ⟨rfl, rfl, rfl⟩ := e
    have hlm : len0 ≤ m := by rw [hmm]; split <;> omega
    have c2 : Try.prog.cellsOf 9 = 1 := by kernel_rfl
    have each : ∀ i, ∃ q : ByteArray, i < len0 → w.cell? (a.add i) = some (.string q) := fun i => by
      by_cases hi : i < len0
      · obtain ⟨cs, h1, h2⟩ := hx i (by omega)
        obtain ⟨q, rfl⟩ := text_of h2
        rw [c2] at h1
        obtain ⟨_, hlen, hcell⟩ := World.cells?_some h1
        exact ⟨q, fun _ => by
          have := hcell 0 (by omega)
          simpa [Addr.add] using this⟩
      · exact ⟨⟨#[]⟩, fun e => absurd e hi⟩
    refine ⟨(List.range len0).map fun i => (each i).choose, by simp, ?_, by omega, by omega⟩
    by_cases h0 : len0 = 0
    · exact Or.inl (by simp [h0])
    · right
      obtain ⟨q0, hq0⟩ : ∃ q : ByteArray, w.cell? (a.add 0) = some (.string q) := ⟨_, (each 0).choose_spec (by omega)⟩
      have hc0 := hq0
      have hspot : a.spot = none := by
        cases hs : a.spot with
        | none => rfl
        | some k =>
          exfalso
          have ea : a.add 0 = a := by simp [Addr.add]
          rw [ea] at hc0
          unfold World.cell? at hc0
          split at hc0
          · simp [hs] at hc0
          · cases hc0
      obtain ⟨b, off, sp⟩ := a
      simp only at hspot
      subst hspot
      refine Or.inr ⟨b, off, rfl, block_lt_of_cell hc0, fun i hi => ?_⟩
      simp only [List.length_map, List.length_range] at hi
      simp only [List.getElem_map, List.getElem_range]
      have key : ∀ q : ByteArray, w.cell? ((⟨b, off, none⟩ : Addr).add i) = some (.string q) → w.cell? ⟨b, off + i, none⟩ = some (.string q) := fun q hq => by
        rw [Addr.add_lit] at hq
        exact hq
      exact key _ ((each i).choose_spec hi)
end

end Go.Proofs.Ytnjogpojikjflaa
