/- Rows of slices of bytes that came in. -/
import Derived.Test.YtgnpdnkmhjocjaaDoorSx1
import Derived.ProofKit
import Derived.OpenShut
import Derived.Lib.SmallJoins
namespace Go.Proofs.YtgnpdnkmhjocjaaDoor
open Go.ChangeShapes Go.WideShapes Go.ChangeAt Go.RowKit Go.IntWalk Go.Deep
set_option linter.unusedSimpArgs false
set_option linter.unusedVariables false

/-- A slice of bytes: where it lies, its capacity, its bytes. -/
structure Bt where
  ao : Option Addr
  cap : Nat
  bs : List UInt8
def Bt.val (x : Bt) : Value := .slice x.ao x.bs.length x.cap
/-- It holds its bytes; of none at all nothing is said. -/
def BtAt (w : World) (x : Bt) : Prop := x.bs.length ≤ x.cap ∧ x.cap ≤ maxLen ∧ (x.ao = none → x.cap = 0) ∧ (x.bs ≠ [] → ∃ b off, x.ao = some ⟨b, off, none⟩ ∧ ∀ j (h : j < x.bs.length), w.cell? ⟨b, off + j, none⟩ = some (.int .u8 x.bs[j].toNat))
theorem BtAt.bs {w : World} {x : Bt} (h : BtAt w x) (hn : x.bs ≠ []) : BsAt w x.ao x.bs := Or.inr (h.2.2.2 hn)
theorem BtAt.lt {w : World} {x : Bt} (h : BtAt w x) (hn : x.bs ≠ []) : ∀ k, blk x.ao k → k < w.heap.size := by
  obtain ⟨b, off, e, hc⟩ := h.2.2.2 hn
  rintro k ⟨a, e2, rfl⟩
  rw [e] at e2
  obtain rfl := Option.some.inj e2
  exact block_lt_of_cell (hc 0 (List.length_pos_iff.2 hn))
theorem BtAt.fr {S : Nat → Prop} {w w' : World} {x : Bt} (h : BtAt w x) (hF : Fr S w w') (hS : x.bs ≠ [] → ∀ k, blk x.ao k → ¬ S k) : BtAt w' x :=
  ⟨h.1, h.2.1, h.2.2.1, fun hn => by
    obtain ⟨b, off, e, hc⟩ := h.2.2.2 hn
    refine ⟨b, off, e, fun j hj => ?_⟩
    have h1 := hc j hj
    rw [← h1]
    exact World.cell?_of_block (a := ⟨b, off + j, none⟩) (hF.block b (block_lt_of_cell h1) (hS hn b ⟨_, e, rfl⟩))⟩
theorem BtAt.src {w : World} {x : Bt} (h : BtAt w x) : Src Tryd.prog 1 27 x.val x.bs.length (bv x.bs) w := by
  by_cases hn : x.bs = []
  · unfold Bt.val
    rw [hn]
    cases ha : x.ao with
    | none => exact Src.ofNil w Tryd.underlying27 x.cap
    | some a => exact Src.ofSlice w Tryd.underlying27 a 0 x.cap [] rfl (fun j u hu => by simp at hu) (fun u hu => by simp at hu)
  · exact (h.bs hn).src x.cap
/-- A row of slices of bytes. -/
def BtsAt (w : World) (ao : Option Addr) (ls : List Bt) : Prop := ls = [] ∨ ∃ b off, ao = some ⟨b, off, none⟩ ∧ ∀ j (h : j < ls.length), w.cell? ⟨b, off + j, none⟩ = some (ls[j]).val ∧ BtAt w ls[j]
theorem BtsAt.get {w : World} {ao : Option Addr} {ls : List Bt} (h : BtsAt w ao ls) (j : Nat) (hj : j < ls.length) : ∃ b off, ao = some ⟨b, off, none⟩ ∧ w.cell? ⟨b, off + j, none⟩ = some (ls[j]).val ∧ BtAt w ls[j] := by
  rcases h with rfl | ⟨b, off, e, hc⟩
  · simp at hj
  · exact ⟨b, off, e, hc j hj⟩
theorem BtsAt.fr0 {w w' : World} {ao : Option Addr} {ls : List Bt} (h : BtsAt w ao ls) (hF : Fr (fun k => w.heap.size ≤ k) w w') : BtsAt w' ao ls := by
  rcases h with rfl | ⟨b, off, e, hc⟩
  · exact Or.inl rfl
  · refine Or.inr ⟨b, off, e, fun j hj => ?_⟩
    obtain ⟨h1, h2⟩ := hc j hj
    refine ⟨?_, h2.fr hF (fun hn k hk => by have := h2.lt hn k hk; omega)⟩
    rw [← h1]
    exact World.cell?_of_block (a := ⟨b, off + j, none⟩) (hF.block b (block_lt_of_cell h1) (by have : b < w.heap.size := block_lt_of_cell h1; omega))

theorem spot_none {w : World} {a : Addr} {v : Value} (h : w.cell? a = some v) : a.spot = none := by
  cases hs : a.spot with
  | none => rfl
  | some k =>
    exfalso
    unfold World.cell? at h
    simp only [hs] at h
    split at h <;> simp at h

theorem open_bt {H : Type} {enc : TypeId × Value → H} {w : World} {spare : Nat → Bool} {held : Bool} {n : Nat} {v : Value} {x : DataW H × List MemPlace} (h : DataW.trod enc Tryd.prog w 0 spare held n 27 [v] = some x) : ∃ y : Bt, v = y.val ∧ BtAt w y := by
  rcases open_slice1 Tryd.underlying27 (by kernel_rfl) h with ⟨h0, _⟩ | ⟨a, len, cap, m, n, V, D, Pl, hcs, hb, hl, hm, hmm, _, hx⟩
  · obtain rfl : v = .slice none 0 0 := by simpa using h0
    exact ⟨⟨none, 0, []⟩, rfl, Nat.le_refl _, Nat.zero_le _, fun _ => rfl, fun e => absurd rfl e⟩
  · obtain rfl : v = .slice (some a) len cap := by simpa using hcs
    have hlm : len ≤ m := by rw [hmm]; split <;> omega
    have each : ∀ i, ∃ b : UInt8, i < len → w.cell? (a.add i) = some (.int .u8 b.toNat) := fun i => by
      by_cases hi : i < len
      · obtain ⟨h1, h2⟩ := hx i (by omega)
        obtain ⟨k, r, _, wf⟩ := DataW.trod_int Tryd.underlying5 h2
        have hb := bounds_u8 wf
        obtain ⟨k', rfl⟩ := Int.eq_ofNat_of_zero_le hb.1
        have e : V i = .int .u8 (k' : Int) := by simpa using r
        refine ⟨UInt8.ofNat k', fun _ => ?_⟩
        rw [h1, e]
        have em : ((UInt8.ofNat k').toNat : Int) = (k' : Int) := by simp; omega
        rw [em]
      · exact ⟨0, fun e => absurd e hi⟩
    refine ⟨⟨some a, cap, (List.range len).map fun i => (each i).choose⟩, by simp [Bt.val], by simpa using hl, hm, (fun e => by cases e), fun hn => ?_⟩
    have h0 : 0 < len := by
      rcases Nat.eq_zero_or_pos len with rfl | h0
      · exact absurd rfl hn
      · exact h0
    have hc0 := (each 0).choose_spec h0
    have hsp := spot_none hc0
    obtain ⟨b, off, sp⟩ := a
    have hsp2 : sp = none := hsp
    subst hsp2
    refine ⟨b, off, rfl, fun j hj => ?_⟩
    simp only [List.length_map, List.length_range] at hj
    simp only [List.getElem_map, List.getElem_range]
    have h1 := (each j).choose_spec hj
    exact (congrArg w.cell? (Addr.add_lit _ _ _)).symm.trans h1

theorem open_bts {H : Type} {enc : TypeId × Value → H} {w : World} {v : Value} {d : DataW H} {ps : List MemPlace} {a0 : Option Addr} {len0 cap0 : Nat} (hv : v = .slice a0 len0 cap0)
    (h : DataW.Trod enc Tryd.prog w 0 (fun _ => true) true 22 v d ps) : ∃ l : List Bt, len0 = l.length ∧ BtsAt w a0 l ∧ len0 ≤ cap0 ∧ len0 ≤ maxLen := by
  subst hv
  obtain ⟨fuel, h⟩ := h
  rcases open_slice1 Tryd.underlying22 (by kernel_rfl) h with ⟨h0, _⟩ | ⟨a, len, cap, m, n, V, D, Pl, hcs, hb, hl, hm, hmm, _, hx⟩
  · have e : a0 = none ∧ len0 = 0 ∧ cap0 = 0 := by simpa [Value.cells] using h0
    exact ⟨[], e.2.1, Or.inl rfl, by omega, by rw [e.2.1]; exact Nat.zero_le _⟩
  · have e : a0 = some a ∧ len0 = len ∧ cap0 = cap := by simpa [Value.cells] using hcs
    obtain ⟨rfl, rfl, rfl⟩ := e
    have hlm : len0 ≤ m := by rw [hmm]; split <;> omega
    have each : ∀ i, ∃ y : Bt, i < len0 → w.cell? (a.add i) = some y.val ∧ BtAt w y := fun i => by
      by_cases hi : i < len0
      · obtain ⟨h1, h2⟩ := hx i (by omega)
        obtain ⟨y, hy, hy2⟩ := open_bt h2
        exact ⟨y, fun _ => ⟨by rw [h1, hy], hy2⟩⟩
      · exact ⟨⟨none, 0, []⟩, fun e => absurd e hi⟩
    refine ⟨(List.range len0).map fun i => (each i).choose, by simp, ?_, by omega, by omega⟩
    by_cases h0 : len0 = 0
    · exact Or.inl (by simp [h0])
    · have hc0 := ((each 0).choose_spec (by omega)).1
      have hsp := spot_none hc0
      obtain ⟨b, off, sp⟩ := a
      have hsp2 : sp = none := hsp
      subst hsp2
      refine Or.inr ⟨b, off, rfl, fun j hj => ?_⟩
      simp only [List.length_map, List.length_range] at hj
      simp only [List.getElem_map, List.getElem_range]
      have h1 := (each j).choose_spec hj
      exact ⟨(congrArg w.cell? (Addr.add_lit _ _ _)).symm.trans h1.1, h1.2⟩

/-- Is one too long, or are there too many? -/
def LongPost (ls : List Bt) (most bytes : Nat) (w : World) (e : Ending) (w' : World) : Prop := w' = w ∧ ∃ b, e = .returned (.bool b) ∧ (b = false → ls.length ≤ most ∧ ∀ x ∈ ls, x.bs.length ≤ bytes)
set_option maxRecDepth 100000 in
theorem hlong_any (ao : Option Addr) (cap : Nat) (ls : List Bt) (most bytes : Nat) (hl : ls.length ≤ 9223372036854775807) (hm : most < 1000) (w : World) (h : BtsAt w ao ls) :
    Calls Tryd.prog 10 #[.slice ao ls.length cap, .int .i64 (most : Int), .int .i64 (bytes : Int)] w (LongPost ls most bytes w) := by
  have HB := hideIt h
  clear h
  go_enter Tryd.func10, Tryd.ntmps10
  go_wp2_with fail
  go_loopw [7] (fun s7 wr => ∃ i : Nat, s7 = .int .i64 i ∧ i ≤ ls.length ∧ Hid (wr = w) ∧ Hid (∀ j (hj : j < ls.length), j < i → ls[j].bs.length ≤ bytes) ∧ i ≤ most + 1) (fun s7 _ => ls.length - (intOf s7).toNat)
  case atStart => exact ⟨0, rfl, by omega, hideIt rfl, hideIt (fun j hj e => by omega), by omega⟩
  case round =>
    obtain ⟨i, rfl, hi, HWW, HA, him⟩ := hrel
    obtain rfl := HWW.out
    by_cases hlt : i < ls.length
    · by_cases hms : i ≤ most
      · have h1 : (i : Int) < (ls.length : Int) := by omega
        have h2 : (i : Int) ≤ (most : Int) := by omega
        obtain ⟨b, off, rfl, hc, hbt⟩ := HB.out.get i hlt
        unfold Bt.val at hc
        by_cases hlo : bytes < (ls[i]).bs.length
        · have h3 : (bytes : Int) < ((ls[i]).bs.length : Int) := by omega
          go_wp2_with fail
          go_ret
          exact ⟨rfl, _, rfl, fun e => by cases e⟩
        · have h3 : ¬ (bytes : Int) < ((ls[i]).bs.length : Int) := by omega
          have HA2 := hideIt (fun j (hj : j < ls.length) (e : j < i + 1) => show ls[j].bs.length ≤ bytes by
            by_cases e2 : j = i
            · subst e2; omega
            · exact HA.out j hj (by omega))
          go_wp2_with fail
          go_roundw
          case measure => simp [intOf]; omega
          case rel => exact ⟨i + 1, by go_num, by omega, hideIt trivial, HA2, by omega⟩
      · have h1 : (i : Int) < (ls.length : Int) := by omega
        have h2 : ¬ (i : Int) ≤ (most : Int) := by omega
        have h3 : (most : Int) < (ls.length : Int) := by omega
        go_wp2_with fail
        go_ret
        exact ⟨rfl, _, rfl, fun e => by cases e⟩
    · have h1 : ¬ (i : Int) < (ls.length : Int) := by omega
      obtain rfl : i = ls.length := by omega
      go_wp2_with fail
      go_ret
      refine ⟨rfl, _, rfl, fun e => ⟨by simp at e; omega, fun x hx => ?_⟩⟩
      obtain ⟨j, hj, rfl⟩ := List.getElem_of_mem hx
      exact HA.out j hj hj

end Go.Proofs.YtgnpdnkmhjocjaaDoor
