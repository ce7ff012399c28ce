/- ProgTells, part 19 of the road: what the program's functions do, each by its own walk. -/
import Derived.Test.YtojgikaoiegmpaaGreatDoorQ18
import Derived.ProofKit
import Derived.OpenShut
import Derived.Lib.SmallJoins

/- Rows of slices of bytes that came in. -/
namespace Go.Proofs.YtojgikaoiegmpaaGreatDoor
open Go.ChangeShapes Go.WideShapes Go.ChangeAt Go.RowKit Go.IntWalk Go.Deep
set_option linter.unusedSimpArgs false
set_option linter.unusedVariables false
set_option maxRecDepth 100000

/-- A slice of bytes: where it lies, its capacity, its bytes. -/
structure Bt where
  ao : Option Addr
  cap : Nat
  bs : List UInt8
def Bt.val (x : Bt) : Value := .slice x.ao x.bs.length x.cap
/-- It holds its bytes; of none at all nothing is said. -/
def BtAt (w : World) (x : Bt) : Prop := x.bs.length ≤ x.cap ∧ x.cap ≤ maxLen ∧ (x.ao = none → x.cap = 0) ∧ (x.bs ≠ [] → ∃ b off, x.ao = some ⟨b, off, none⟩ ∧ ∀ j (h : j < x.bs.length), w.cell? ⟨b, off + j, none⟩ = some (.int .u8 x.bs[j].toNat))
theorem BtAt.bs {w : World} {x : Bt} (h : BtAt w x) (hn : x.bs ≠ []) : BsAt w x.ao x.bs := Or.inr (h.2.2.2 hn)
theorem BtAt.lt {w : World} {x : Bt} (h : BtAt w x) (hn : x.bs ≠ []) : ∀ k, blk x.ao k → k < w.heap.size := by
  obtain ⟨b, off, e, hc⟩ := h.2.2.2 hn
  rintro k ⟨a, e2, rfl⟩
  rw [e] at e2
  obtain rfl := Option.some.inj e2
  exact block_lt_of_cell (hc 0 (List.length_pos_iff.2 hn))
theorem BtAt.fr {S : Nat → Prop} {w w' : World} {x : Bt} (h : BtAt w x) (hF : Fr S w w') (hS : x.bs ≠ [] → ∀ k, blk x.ao k → ¬ S k) : BtAt w' x :=
  ⟨h.1, h.2.1, h.2.2.1, fun hn => by
    obtain ⟨b, off, e, hc⟩ := h.2.2.2 hn
    refine ⟨b, off, e, fun j hj => ?_⟩
    have h1 := hc j hj
    rw [← h1]
    exact World.cell?_of_block (a := ⟨b, off + j, none⟩) (hF.block b (block_lt_of_cell h1) (hS hn b ⟨_, e, rfl⟩))⟩
theorem BtAt.src {w : World} {x : Bt} (h : BtAt w x) : Src Tryz.prog 1 29 x.val x.bs.length (bv x.bs) w := by
  by_cases hn : x.bs = []
  · unfold Bt.val
    rw [hn]
    cases ha : x.ao with
    | none => exact Src.ofNil w Tryz.underlying29 x.cap
    | some a => exact Src.ofSlice w Tryz.underlying29 a 0 x.cap [] rfl (fun j u hu => by simp at hu) (fun u hu => by simp at hu)
  · exact (h.bs hn).src x.cap
/-- A row of slices of bytes. -/
def BtsAt (w : World) (ao : Option Addr) (ls : List Bt) : Prop := ls = [] ∨ ∃ b off, ao = some ⟨b, off, none⟩ ∧ ∀ j (h : j < ls.length), w.cell? ⟨b, off + j, none⟩ = some (ls[j]).val ∧ BtAt w ls[j]
theorem BtsAt.get {w : World} {ao : Option Addr} {ls : List Bt} (h : BtsAt w ao ls) (j : Nat) (hj : j < ls.length) : ∃ b off, ao = some ⟨b, off, none⟩ ∧ w.cell? ⟨b, off + j, none⟩ = some (ls[j]).val ∧ BtAt w ls[j] := by
  rcases h with rfl | ⟨b, off, e, hc⟩
  · simp at hj
  · exact ⟨b, off, e, hc j hj⟩
theorem BtsAt.fr0 {w w' : World} {ao : Option Addr} {ls : List Bt} (h : BtsAt w ao ls) (hF : Fr (fun k => w.heap.size ≤ k) w w') : BtsAt w' ao ls := by
  rcases h with rfl | ⟨b, off, e, hc⟩
  · exact Or.inl rfl
  · refine Or.inr ⟨b, off, e, fun j hj => ?_⟩
    obtain ⟨h1, h2⟩ := hc j hj
    refine ⟨?_, h2.fr hF (fun hn k hk => by have := h2.lt hn k hk; omega)⟩
    rw [← h1]
    exact World.cell?_of_block (a := ⟨b, off + j, none⟩) (hF.block b (block_lt_of_cell h1) (by have : b < w.heap.size := block_lt_of_cell h1; omega))

theorem spot_none {w : World} {a : Addr} {v : Value} (h : w.cell? a = some v) : a.spot = none := by
  cases hs : a.spot with
  | none => rfl
  | some k =>
    exfalso
    unfold World.cell? at h
    simp only [hs] at h
    split at h <;> simp at h

theorem open_bt {H : Type} {enc : TypeId × Value → H} {w : World} {spare : Nat → Bool} {held : Bool} {n : Nat} {v : Value} {x : DataW H × List MemPlace} (h : DataW.trod enc Tryz.prog w 0 spare held n 29 [v] = some x) : ∃ y : Bt, v = y.val ∧ BtAt w y := by
  rcases open_slice1 Tryz.underlying29 (by kernel_rfl) h with ⟨h0, _⟩ | ⟨a, len, cap, m, n, V, D, Pl, hcs, hb, hl, hm, hmm, _, hx⟩
  · obtain rfl : v = .slice none 0 0 := by simpa using h0
    exact ⟨⟨none, 0, []⟩, rfl, Nat.le_refl _, Nat.zero_le _, fun _ => rfl, fun e => absurd rfl e⟩
  · obtain rfl : v = .slice (some a) len cap := by simpa using hcs
    have hlm : len ≤ m := by rw [hmm]; split <;> omega
    have each : ∀ i, ∃ b : UInt8, i < len → w.cell? (a.add i) = some (.int .u8 b.toNat) := fun i => by
      by_cases hi : i < len
      · obtain ⟨h1, h2⟩ := hx i (by omega)
        obtain ⟨k, r, _, wf⟩ := DataW.trod_int Tryz.underlying5 h2
        have hb := bounds_u8 wf
        obtain ⟨k', rfl⟩ := Int.eq_ofNat_of_zero_le hb.1
        have e : V i = .int .u8 (k' : Int) := by simpa using r
        refine ⟨UInt8.ofNat k', fun _ => ?_⟩
        rw [h1, e]
        have em : ((UInt8.ofNat k').toNat : Int) = (k' : Int) := by simp; omega
        rw [em]
      · exact ⟨0, fun e => absurd e hi⟩
    refine ⟨⟨some a, cap, (List.range len).map fun i => (each i).choose⟩, by simp [Bt.val], by simpa using hl, hm, (fun e => by cases e), fun hn => ?_⟩
    have h0 : 0 < len := by
      rcases Nat.eq_zero_or_pos len with rfl | h0
      · exact absurd rfl hn
      · exact h0
    have hc0 := (each 0).choose_spec h0
    have hsp := spot_none hc0
    obtain ⟨b, off, sp⟩ := a
    have hsp2 : sp = none := hsp
    subst hsp2
    refine ⟨b, off, rfl, fun j hj => ?_⟩
    simp only [List.length_map, List.length_range] at hj
    simp only [List.getElem_map, List.getElem_range]
    have h1 := (each j).choose_spec hj
    exact (congrArg w.cell? (Addr.add_lit _ _ _)).symm.trans h1

theorem open_bts {H : Type} {enc : TypeId × Value → H} {w : World} {v : Value} {d : DataW H} {ps : List MemPlace} {a0 : Option Addr} {len0 cap0 : Nat} (hv : v = .slice a0 len0 cap0)
    (h : DataW.Trod enc Tryz.prog w 0 (fun _ => true) true 54 v d ps) : ∃ l : List Bt, len0 = l.length ∧ BtsAt w a0 l ∧ len0 ≤ cap0 ∧ len0 ≤ maxLen := by
  subst hv
  obtain ⟨fuel, h⟩ := h
  rcases open_slice1 Tryz.underlying54 (by kernel_rfl) h with ⟨h0, _⟩ | ⟨a, len, cap, m, n, V, D, Pl, hcs, hb, hl, hm, hmm, _, hx⟩
  · have e : a0 = none ∧ len0 = 0 ∧ cap0 = 0 := by simpa [Value.cells] using h0
    exact ⟨[], e.2.1, Or.inl rfl, by omega, by rw [e.2.1]; exact Nat.zero_le _⟩
  · have e : a0 = some a ∧ len0 = len ∧ cap0 = cap := by simpa [Value.cells] using hcs
    obtain ⟨rfl, rfl, rfl⟩ := e
    have hlm : len0 ≤ m := by rw [hmm]; split <;> omega
    have each : ∀ i, ∃ y : Bt, i < len0 → w.cell? (a.add i) = some y.val ∧ BtAt w y := fun i => by
      by_cases hi : i < len0
      · obtain ⟨h1, h2⟩ := hx i (by omega)
        obtain ⟨y, hy, hy2⟩ := open_bt h2
        exact ⟨y, fun _ => ⟨by rw [h1, hy], hy2⟩⟩
      · exact ⟨⟨none, 0, []⟩, fun e => absurd e hi⟩
    refine ⟨(List.range len0).map fun i => (each i).choose, by simp, ?_, by omega, by omega⟩
    by_cases h0 : len0 = 0
    · exact Or.inl (by simp [h0])
    · have hc0 := ((each 0).choose_spec (by omega)).1
      have hsp := spot_none hc0
      obtain ⟨b, off, sp⟩ := a
      have hsp2 : sp = none := hsp
      subst hsp2
      refine Or.inr ⟨b, off, rfl, fun j hj => ?_⟩
      simp only [List.length_map, List.length_range] at hj
      simp only [List.getElem_map, List.getElem_range]
      have h1 := (each j).choose_spec hj
      exact ⟨(congrArg w.cell? (Addr.add_lit _ _ _)).symm.trans h1.1, h1.2⟩

/-- Is one too long, or are there too many? -/
def LongPost (ls : List Bt) (most bytes : Nat) (w : World) (e : Ending) (w' : World) : Prop := w' = w ∧ ∃ b, e = .returned (.bool b) ∧ (b = false → ls.length ≤ most ∧ ∀ x ∈ ls, x.bs.length ≤ bytes)
end Go.Proofs.YtojgikaoiegmpaaGreatDoor

/- Package hash, the laws: digests side by side (HashBeside), walked. -/
namespace Go.Proofs.YtojgikaoiegmpaaGreatDoor
open Go.RowKit Go.IntWalk
set_option linter.unusedSimpArgs false
set_option linter.unusedVariables false
set_option maxRecDepth 100000

/-- A digest that has these bytes. -/
def Dg (w : World) (p : Nat) (m : List UInt8) : Prop := 2 ≤ p ∧ ∃ s B, DgAt w p s B m.length ∧ Has m s B
theorem Dg.lt {w : World} {p : Nat} {m : List UInt8} (h : Dg w p m) : p < w.heap.size := by
  obtain ⟨_, s, B, h, _⟩ := h
  exact h.lt
theorem Dg.fr {S : Nat → Prop} {w w' : World} {p : Nat} {m : List UInt8} (h : Dg w p m) (hF : Fr S w w') (hS : ¬ S p) : Dg w' p m := by
  obtain ⟨h0, s, B, h1, h2⟩ := h
  exact ⟨h0, s, B, h1.fr hF hS, h2⟩
theorem gd_new (w : World) (hG : Glob w) : Calls Tryz.prog 55 #[] w fun e w' => e = .returned (.pointer (some ⟨w.heap.size, 0, none⟩)) ∧ Dg w' w.heap.size [] ∧ Fr (fun _ => False) w w' := by
  refine (hnew_any w hG).mono ?_
  rintro e w' ⟨rfl, hD, hF⟩
  have h1 : 1 < w.heap.size := block_lt_of_cell (hG.roots 0 (by omega))
  exact ⟨rfl, ⟨by omega, _, _, hD, Has.new⟩, hF⟩
theorem gd_sum (w : World) (p : Nat) (m : List UInt8) (h : Dg w p m) (hG : Glob w) (hl : m.length + 100 ≤ 140737488355328) : Calls Tryz.prog 57 #[.pointer (some ⟨p, 0, none⟩)] w fun e w' => e = .returned (.agg (bv (Sha.sum m)).toArray) ∧ Fr (fun _ => False) w w' := by
  obtain ⟨_, s, B, h, h2⟩ := h
  exact dsum_any p s B m w h h2 hG hl
theorem dwrite_nothing (w : World) (p : Nat) (m : List UInt8) (h : Dg w p m) (ao : Option Addr) (cap : Nat) : Calls Tryz.prog 56 #[.pointer (some ⟨p, 0, none⟩), .slice ao 0 cap] w fun e w' => e = .returned (.tuple #[]) ∧ w' = w := by
  obtain ⟨_, s, B, h, _⟩ := h
  have HN := hideIt (dnone_some p s B m.length w h)
  clear h
  go_enter Tryz.func56, Tryz.ntmps56
  go_wp2_with fail
  refine Calls.mono HN.out ?_
  rintro e w' ⟨rfl, rfl⟩
  go_wp2_with fail
  go_loopw [1] (fun x wr => x = .slice ao 0 cap ∧ Hid (wr = w')) (fun _ _ => 0)
  case atStart => exact ⟨rfl, hideIt rfl⟩
  case round =>
    obtain ⟨rfl, HW⟩ := hrel
    obtain rfl := HW.out
    go_wp2_with fail
    first | (go_end0; exact ⟨rfl, rfl⟩) | exact ⟨rfl, rfl⟩
theorem gd_write (w : World) (p : Nat) (m : List UInt8) (h : Dg w p m) (x : Bt) (hx : BtAt w x) (hxp : x.bs ≠ [] → ∀ k, blk x.ao k → k ≠ p) (hG : Glob w) (hl : m.length + x.bs.length ≤ 140737488355328) :
    Calls Tryz.prog 56 #[.pointer (some ⟨p, 0, none⟩), x.val] w fun e w' => e = .returned (.tuple #[]) ∧ Dg w' p (m ++ x.bs) ∧ Fr (fun k => k = p) w w' := by
  by_cases hn : x.bs = []
  · unfold Bt.val
    rw [hn, List.append_nil]
    refine (dwrite_nothing w p m h x.ao x.cap).mono ?_
    rintro e w' ⟨rfl, rfl⟩
    exact ⟨rfl, h, Fr.refl _ _⟩
  · obtain ⟨h0, s, B, h1, h2⟩ := h
    refine (dwrite_any p s B m x.ao x.cap x.bs w h1 h2 (hx.bs hn) (hxp hn) hx.1 hG h0 hl).mono ?_
    rintro e w' ⟨rfl, s2, B2, h3, h4, hF⟩
    exact ⟨rfl, ⟨h0, s2, B2, by rw [List.length_append]; exact h3, h4⟩, hF⟩

/-- Three digests, and three rows of bytes, each in memory of its own. -/
structure Bes (w wr : World) (pa pb pc : Nat) (xa xb xc : List UInt8) (ea eb ec : Option Addr) (ca cb cc : Nat) (ya yb yc : List UInt8) : Prop where
  da : Dg wr pa xa
  db : Dg wr pb xb
  dc : Dg wr pc xc
  ra : Row wr 5 ea ca ya
  rb : Row wr 5 eb cb yb
  rc : Row wr 5 ec cc yc
  sa : ∀ k, blk ea k → pc < k
  sb : ∀ k, blk eb k → pc < k
  sc : ∀ k, blk ec k → pc < k
  ab : ∀ k, blk ea k → ¬ blk eb k
  ac : ∀ k, blk ea k → ¬ blk ec k
  bc : ∀ k, blk eb k → ¬ blk ec k
  fr : Fr (fun _ => False) w wr
  lo : w.heap.size ≤ pa
  lab : pa < pb
  lbc : pb < pc
theorem Bes.fr0 {w wr : World} {pa pb pc : Nat} {xa xb xc : List UInt8} {ea eb ec : Option Addr} {ca cb cc : Nat} {ya yb yc : List UInt8} (h : Bes w wr pa pb pc xa xb xc ea eb ec ca cb cc ya yb yc) {w2 : World} (hF : Fr (fun _ => False) wr w2) : Bes w w2 pa pb pc xa xb xc ea eb ec ca cb cc ya yb yc :=
  ⟨h.da.fr hF (fun e => e), h.db.fr hF (fun e => e), h.dc.fr hF (fun e => e), h.ra.keep (fun k hk _ => hF.block k hk (fun e => e)), h.rb.keep (fun k hk _ => hF.block k hk (fun e => e)), h.rc.keep (fun k hk _ => hF.block k hk (fun e => e)), h.sa, h.sb, h.sc, h.ab, h.ac, h.bc, h.fr.trans hF (fun _ _ e => e), h.lo, h.lab, h.lbc⟩
theorem Bes.wra {w wr : World} {pa pb pc : Nat} {xa xb xc : List UInt8} {ea eb ec : Option Addr} {ca cb cc : Nat} {ya yb yc : List UInt8} (h : Bes w wr pa pb pc xa xb xc ea eb ec ca cb cc ya yb yc) {w2 : World} {z : List UInt8} (hD : Dg w2 pa z) (hF : Fr (fun k => k = pa) wr w2) : Bes w w2 pa pb pc z xb xc ea eb ec ca cb cc ya yb yc :=
  ⟨hD, h.db.fr hF (by have := h.lab; have := h.lbc; omega), h.dc.fr hF (by have := h.lab; have := h.lbc; omega), h.ra.keep (fun k hk e => hF.block k hk (by have := h.sa k e; have := h.lab; have := h.lbc; omega)), h.rb.keep (fun k hk e => hF.block k hk (by have := h.sb k e; have := h.lab; have := h.lbc; omega)), h.rc.keep (fun k hk e => hF.block k hk (by have := h.sc k e; have := h.lab; have := h.lbc; omega)), h.sa, h.sb, h.sc, h.ab, h.ac, h.bc, h.fr.trans hF (fun i hi e => by have := h.lo; have := h.lab; have := h.lbc; omega), h.lo, h.lab, h.lbc⟩
theorem Bes.wrb {w wr : World} {pa pb pc : Nat} {xa xb xc : List UInt8} {ea eb ec : Option Addr} {ca cb cc : Nat} {ya yb yc : List UInt8} (h : Bes w wr pa pb pc xa xb xc ea eb ec ca cb cc ya yb yc) {w2 : World} {z : List UInt8} (hD : Dg w2 pb z) (hF : Fr (fun k => k = pb) wr w2) : Bes w w2 pa pb pc xa z xc ea eb ec ca cb cc ya yb yc :=
  ⟨h.da.fr hF (by have := h.lab; have := h.lbc; omega), hD, h.dc.fr hF (by have := h.lab; have := h.lbc; omega), h.ra.keep (fun k hk e => hF.block k hk (by have := h.sa k e; have := h.lab; have := h.lbc; omega)), h.rb.keep (fun k hk e => hF.block k hk (by have := h.sb k e; have := h.lab; have := h.lbc; omega)), h.rc.keep (fun k hk e => hF.block k hk (by have := h.sc k e; have := h.lab; have := h.lbc; omega)), h.sa, h.sb, h.sc, h.ab, h.ac, h.bc, h.fr.trans hF (fun i hi e => by have := h.lo; have := h.lab; have := h.lbc; omega), h.lo, h.lab, h.lbc⟩
theorem Bes.wrc {w wr : World} {pa pb pc : Nat} {xa xb xc : List UInt8} {ea eb ec : Option Addr} {ca cb cc : Nat} {ya yb yc : List UInt8} (h : Bes w wr pa pb pc xa xb xc ea eb ec ca cb cc ya yb yc) {w2 : World} {z : List UInt8} (hD : Dg w2 pc z) (hF : Fr (fun k => k = pc) wr w2) : Bes w w2 pa pb pc xa xb z ea eb ec ca cb cc ya yb yc :=
  ⟨h.da.fr hF (by have := h.lab; have := h.lbc; omega), h.db.fr hF (by have := h.lab; have := h.lbc; omega), hD, h.ra.keep (fun k hk e => hF.block k hk (by have := h.sa k e; have := h.lab; have := h.lbc; omega)), h.rb.keep (fun k hk e => hF.block k hk (by have := h.sb k e; have := h.lab; have := h.lbc; omega)), h.rc.keep (fun k hk e => hF.block k hk (by have := h.sc k e; have := h.lab; have := h.lbc; omega)), h.sa, h.sb, h.sc, h.ab, h.ac, h.bc, h.fr.trans hF (fun i hi e => by have := h.lo; have := h.lab; have := h.lbc; omega), h.lo, h.lab, h.lbc⟩
theorem Bes.apa {w wr : World} {pa pb pc : Nat} {xa xb xc : List UInt8} {ea eb ec : Option Addr} {ca cb cc : Nat} {ya yb yc : List UInt8} (h : Bes w wr pa pb pc xa xb xc ea eb ec ca cb cc ya yb yc) {w2 : World} {e2 : Option Addr} {c2 : Nat} {z : List UInt8} (hR : Row w2 5 e2 c2 z) (hF : Fr (blk ea) wr w2) (he : e2 = ea ∨ e2 = some ⟨wr.heap.size, 0, none⟩) : Bes w w2 pa pb pc xa xb xc e2 eb ec c2 cb cc z yb yc := by
  have hnew : ∀ k, e2 = some ⟨wr.heap.size, 0, none⟩ → blk e2 k → k = wr.heap.size := fun k e f => by
    obtain ⟨a, e1, e3⟩ := f
    rw [e] at e1
    obtain rfl := Option.some.inj e1
    exact e3.symm
  have hs : ∀ k, blk e2 k → pc < k := fun k f => by
    rcases he with e | e
    · subst e; exact h.sa k f
    · have := hnew k e f; have := h.dc.lt; omega
  have hdb : ∀ k, blk e2 k → ¬ blk eb k := fun k f g => by
    rcases he with e | e
    · subst e; exact h.ab k f g
    · have := hnew k e f; have := h.rb.lt g; omega
  have hdc : ∀ k, blk e2 k → ¬ blk ec k := fun k f g => by
    rcases he with e | e
    · subst e; exact h.ac k f g
    · have := hnew k e f; have := h.rc.lt g; omega
  exact ⟨h.da.fr hF (fun e => by have := h.sa _ e; have := h.lab; have := h.lbc; omega), h.db.fr hF (fun e => by have := h.sa _ e; have := h.lab; have := h.lbc; omega), h.dc.fr hF (fun e => by have := h.sa _ e; have := h.lab; have := h.lbc; omega), hR, h.rb.keep (fun k hk e => hF.block k hk (fun f => h.ab k f e)), h.rc.keep (fun k hk e => hF.block k hk (fun f => h.ac k f e)), hs, h.sb, h.sc, fun k f g => hdb k f g, fun k f g => hdc k f g, h.bc, h.fr.trans hF (fun i hi e => by have := h.sa i e; have := h.lo; have := h.lab; have := h.lbc; omega), h.lo, h.lab, h.lbc⟩
theorem Bes.apb {w wr : World} {pa pb pc : Nat} {xa xb xc : List UInt8} {ea eb ec : Option Addr} {ca cb cc : Nat} {ya yb yc : List UInt8} (h : Bes w wr pa pb pc xa xb xc ea eb ec ca cb cc ya yb yc) {w2 : World} {e2 : Option Addr} {c2 : Nat} {z : List UInt8} (hR : Row w2 5 e2 c2 z) (hF : Fr (blk eb) wr w2) (he : e2 = eb ∨ e2 = some ⟨wr.heap.size, 0, none⟩) : Bes w w2 pa pb pc xa xb xc ea e2 ec ca c2 cc ya z yc := by
  have hnew : ∀ k, e2 = some ⟨wr.heap.size, 0, none⟩ → blk e2 k → k = wr.heap.size := fun k e f => by
    obtain ⟨a, e1, e3⟩ := f
    rw [e] at e1
    obtain rfl := Option.some.inj e1
    exact e3.symm
  have hs : ∀ k, blk e2 k → pc < k := fun k f => by
    rcases he with e | e
    · subst e; exact h.sb k f
    · have := hnew k e f; have := h.dc.lt; omega
  have hda : ∀ k, blk e2 k → ¬ blk ea k := fun k f g => by
    rcases he with e | e
    · subst e; exact h.ab k g f
    · have := hnew k e f; have := h.ra.lt g; omega
  have hdc : ∀ k, blk e2 k → ¬ blk ec k := fun k f g => by
    rcases he with e | e
    · subst e; exact h.bc k f g
    · have := hnew k e f; have := h.rc.lt g; omega
  exact ⟨h.da.fr hF (fun e => by have := h.sb _ e; have := h.lab; have := h.lbc; omega), h.db.fr hF (fun e => by have := h.sb _ e; have := h.lab; have := h.lbc; omega), h.dc.fr hF (fun e => by have := h.sb _ e; have := h.lab; have := h.lbc; omega), h.ra.keep (fun k hk e => hF.block k hk (fun f => h.ab k e f)), hR, h.rc.keep (fun k hk e => hF.block k hk (fun f => h.bc k f e)), h.sa, hs, h.sc, fun k f g => hda k g f, h.ac, fun k f g => hdc k f g, h.fr.trans hF (fun i hi e => by have := h.sb i e; have := h.lo; have := h.lab; have := h.lbc; omega), h.lo, h.lab, h.lbc⟩
theorem Bes.apc {w wr : World} {pa pb pc : Nat} {xa xb xc : List UInt8} {ea eb ec : Option Addr} {ca cb cc : Nat} {ya yb yc : List UInt8} (h : Bes w wr pa pb pc xa xb xc ea eb ec ca cb cc ya yb yc) {w2 : World} {e2 : Option Addr} {c2 : Nat} {z : List UInt8} (hR : Row w2 5 e2 c2 z) (hF : Fr (blk ec) wr w2) (he : e2 = ec ∨ e2 = some ⟨wr.heap.size, 0, none⟩) : Bes w w2 pa pb pc xa xb xc ea eb e2 ca cb c2 ya yb z := by
  have hnew : ∀ k, e2 = some ⟨wr.heap.size, 0, none⟩ → blk e2 k → k = wr.heap.size := fun k e f => by
    obtain ⟨a, e1, e3⟩ := f
    rw [e] at e1
    obtain rfl := Option.some.inj e1
    exact e3.symm
  have hs : ∀ k, blk e2 k → pc < k := fun k f => by
    rcases he with e | e
    · subst e; exact h.sc k f
    · have := hnew k e f; have := h.dc.lt; omega
  have hda : ∀ k, blk e2 k → ¬ blk ea k := fun k f g => by
    rcases he with e | e
    · subst e; exact h.ac k g f
    · have := hnew k e f; have := h.ra.lt g; omega
  have hdb : ∀ k, blk e2 k → ¬ blk eb k := fun k f g => by
    rcases he with e | e
    · subst e; exact h.bc k g f
    · have := hnew k e f; have := h.rb.lt g; omega
  exact ⟨h.da.fr hF (fun e => by have := h.sc _ e; have := h.lab; have := h.lbc; omega), h.db.fr hF (fun e => by have := h.sc _ e; have := h.lab; have := h.lbc; omega), h.dc.fr hF (fun e => by have := h.sc _ e; have := h.lab; have := h.lbc; omega), h.ra.keep (fun k hk e => hF.block k hk (fun f => h.ac k e f)), h.rb.keep (fun k hk e => hF.block k hk (fun f => h.bc k e f)), hR, h.sa, h.sb, hs, h.ab, fun k f g => hda k g f, fun k f g => hdb k g f, h.fr.trans hF (fun i hi e => by have := h.sc i e; have := h.lo; have := h.lab; have := h.lbc; omega), h.lo, h.lab, h.lbc⟩
theorem Row.le {w : World} {e : TypeId} {ao : Option Addr} {cap : Nat} {bs : List UInt8} (h : Row w e ao cap bs) : bs.length ≤ cap := by
  rcases h.form with ⟨_, rfl, _⟩ | ⟨g, cur, _, _, hle, _⟩
  · exact Nat.zero_le _
  · exact hle
theorem gd_hsum (w : World) (ao : Option Addr) (cap : Nat) (bs : List UInt8) (h : Row w 5 ao cap bs) (hG : Glob w) (hl : bs.length + 100 ≤ 140737488355328) : Calls Tryz.prog 34 #[.slice ao bs.length cap] w fun e w' => e = .returned (.agg (bv (Sha.sum bs)).toArray) ∧ Fr (fun _ => False) w w' :=
  hsum_any ao cap bs w h.bs (fun j hj => h.lt hj) h.le hG hl
theorem row_nil (w : World) : Row w 5 none 0 [] := ⟨rfl, Or.inl ⟨rfl, rfl⟩⟩

end Go.Proofs.YtojgikaoiegmpaaGreatDoor
