/- Code: letters, on paper and in memory. -/
import Derived.Test.YtpieaenfnajlfaaCd
namespace Go.Proofs.Ytpieaenfnajlfaa
open Go.RowKit Go.IntWalk Go.Lib
set_option linter.unusedSimpArgs false
set_option linter.unusedVariables false

/-- The letters of an Op. -/
def ltrs (n : Nat) : List Nat := (kindT n).data.toList.map UInt8.toNat
theorem ltrs_ok (n : Nat) (hn : n ≤ 15) : ∀ l ∈ ltrs n, Ltr l := by
  obtain rfl | rfl | rfl | rfl | rfl | rfl | rfl | rfl | rfl | rfl | rfl | rfl | rfl | rfl | rfl | rfl : n = 0 ∨ n = 1 ∨ n = 2 ∨ n = 3 ∨ n = 4 ∨ n = 5 ∨ n = 6 ∨ n = 7 ∨ n = 8 ∨ n = 9 ∨ n = 10 ∨ n = 11 ∨ n = 12 ∨ n = 13 ∨ n = 14 ∨ n = 15 := by omega
  all_goals decide
theorem ltrs_length (n : Nat) : (ltrs n).length = (kindT n).size := by
  unfold ltrs
  rw [List.length_map, Array.length_toList]
  rfl
theorem ltrs_get (n pos : Nat) (h : pos < (kindT n).size) : ((kindT n)[pos]'h).toNat = (ltrs n)[pos]'(by rw [ltrs_length]; exact h) := by
  unfold ltrs
  rw [List.getElem_map, Array.getElem_toList]
  rfl

/-- The letter at a place. -/
theorem ltrs_at (n pos : Nat) (hn : n ≤ 15) (h : pos < (kindT n).size) : Ltr ((kindT n)[pos]'h).toNat ∧ (ltrs n).drop pos = ((kindT n)[pos]'h).toNat :: (ltrs n).drop (pos + 1) ∧ (ltrs n).take (pos + 1) = (ltrs n).take pos ++ [((kindT n)[pos]'h).toNat] := by
  have hl : pos < (ltrs n).length := by rw [ltrs_length]; exact h
  rw [ltrs_get n pos h]
  exact ⟨ltrs_ok n hn _ (List.getElem_mem hl), List.drop_eq_getElem_cons hl, List.take_succ_eq_append_getElem hl⟩
theorem ltrs_end (n pos : Nat) (h : ¬ pos < (kindT n).size) : (ltrs n).drop pos = [] := List.drop_eq_nil_of_le (by rw [ltrs_length]; omega)

theorem ba_nil {x : ByteArray} (h : x.toList = []) : x = ⟨#[]⟩ := (toList_nil_iff_emptyBytes x).1 h

def fitsB (l : Nat) (i : Ins) : Bool := if fld l = 5 then decide ((i.s.size : Int) ≤ 64) else decide (lowL l ≤ i.get (fld l)) && decide (i.get (fld l) ≤ highL l)
def clr (l : Nat) (i : Ins) : Ins := if fld l = 5 then { i with s := ⟨#[]⟩ } else i.put (fld l) 0
def chkL : List Nat → Ins → Option Ins
  | [], i => some i
  | l :: ls, i => if fitsB l i then chkL ls (clr l i) else none
theorem clr_op (l : Nat) (i : Ins) : (clr l i).op = i.op := by
  unfold clr Ins.put
  split
  · rfl
  split
  · rfl
  split
  · rfl
  split <;> rfl

def poA (p l : Nat) : Option Addr := if fld l = 5 then none else some ⟨p, fld l, none⟩
def poT (p l : Nat) : Option Addr := if fld l = 5 then some ⟨p, 5, none⟩ else none
def hiL (l : Nat) : Int := if fld l = 5 then 0 else highL l
abbrev partW (p l : Nat) : Value := .agg #[.pointer (poA p l), .int .i64 (lowL l), .int .i64 (hiL l), .pointer (poT p l)]
theorem partV_eq (p l : Nat) (hl : Ltr l) : partV p l = partW p l := by rcases hl with rfl | rfl | rfl | rfl | rfl | rfl <;> rfl

theorem find_w (p l : Nat) (hl : Ltr l) (w : World) : Calls Try.prog 28 #[.pointer (some ⟨p, 0, none⟩), .int .i32 (l : Int)] w fun e w' => e = .returned (partW p l) ∧ Fr (fun _ => False) w w' := by
  have h := find_any p l hl w
  rw [partV_eq p l hl] at h
  exact h

theorem fits_w (p l : Nat) (hl : Ltr l) (i : Ins) (w : World) (hI : InsAt w p i) : Calls Try.prog 35 #[partW p l] w fun e w' => e = .returned (.bool (fitsB l i)) ∧ Fr (fun _ => False) w w' := by
  rcases hl with rfl | rfl | rfl | rfl | rfl | rfl
  · exact fits_num p 1 0 7 i.a w hI.c1 hI.lt
  · exact fits_num p 2 0 7 i.b w hI.c2 hI.lt
  · exact fits_num p 3 0 7 i.c w hI.c3 hI.lt
  · exact fits_num p 4 1 16 i.n w hI.c4 hI.lt
  · exact fits_num p 4 1 60 i.n w hI.c4 hI.lt
  · exact fits_text p i.s w hI.c5 hI.lt

theorem clear_w (p l : Nat) (hl : Ltr l) (i : Ins) (w : World) (hI : InsAt w p i) : Calls Try.prog 36 #[partW p l] w fun e w' => e = .returned (.tuple #[]) ∧ InsAt w' p (clr l i) ∧ Fr (fun k => k = p) w w' := by
  rcases hl with rfl | rfl | rfl | rfl | rfl | rfl
  · exact clear_num p 1 0 7 i.a w hI.c1 (hI.fz 1) hI.lt i hI (by decide) (by decide)
  · exact clear_num p 2 0 7 i.b w hI.c2 (hI.fz 2) hI.lt i hI (by decide) (by decide)
  · exact clear_num p 3 0 7 i.c w hI.c3 (hI.fz 3) hI.lt i hI (by decide) (by decide)
  · exact clear_num p 4 1 16 i.n w hI.c4 (hI.fz 4) hI.lt i hI (by decide) (by decide)
  · exact clear_num p 4 1 60 i.n w hI.c4 (hI.fz 4) hI.lt i hI (by decide) (by decide)
  · exact clear_text p i.s w hI.c5 (hI.fz 5) hI.lt i hI

/-- A thing is written. -/
def wL (l : Nat) (i : Ins) (s : List UInt8 × Bool) : List UInt8 × Bool := if fld l = 5 then wText i.s.data.toList s else wInt (i.get (fld l)) s

theorem write_w (q l : Nat) (hl : Ltr l) (i : Ins) (p t : Nat) (ao : Option Addr) (cap : Nat) (s : List UInt8 × Bool) (w : World) (hI : InsAt w q i) (hfit : fitsB l i = true) (h : WOk w p t ao cap s) (hb : s.1.length + 84 ≤ 140737488355328) :
    Calls Try.prog 29 #[partW q l, .pointer (some ⟨p, 0, none⟩)] w fun e w' => e = .returned (.tuple #[]) ∧ WPost w p t ao (wL l i s) w' := by
  rcases hl with rfl | rfl | rfl | rfl | rfl | rfl
  · have hv : 0 ≤ i.a ∧ i.a ≤ 7 := by simpa [fitsB, fld, lowL, highL, Ins.get] using hfit
    exact write_num q 1 p t 0 7 i.a ao cap s w hI.c1 hI.lt h (by omega) (by omega)
  · have hv : 0 ≤ i.b ∧ i.b ≤ 7 := by simpa [fitsB, fld, lowL, highL, Ins.get] using hfit
    exact write_num q 2 p t 0 7 i.b ao cap s w hI.c2 hI.lt h (by omega) (by omega)
  · have hv : 0 ≤ i.c ∧ i.c ≤ 7 := by simpa [fitsB, fld, lowL, highL, Ins.get] using hfit
    exact write_num q 3 p t 0 7 i.c ao cap s w hI.c3 hI.lt h (by omega) (by omega)
  · have hv : 1 ≤ i.n ∧ i.n ≤ 16 := by simpa [fitsB, fld, lowL, highL, Ins.get] using hfit
    exact write_num q 4 p t 1 16 i.n ao cap s w hI.c4 hI.lt h (by omega) (by omega)
  · have hv : 1 ≤ i.n ∧ i.n ≤ 60 := by simpa [fitsB, fld, lowL, highL, Ins.get] using hfit
    exact write_num q 4 p t 1 60 i.n ao cap s w hI.c4 hI.lt h (by omega) (by omega)
  · have hv : (i.s.size : Int) ≤ 64 := by simpa [fitsB, fld] using hfit
    exact write_text q p t i.s ao cap s w hI.c5 hI.lt h (by omega)

/-- A thing is read. -/
def tk (bs : List UInt8) (l : Nat) (i : Ins) (s : Nat × Int × Int) : Ins × (Nat × Int × Int) := if fld l = 5 then ({ i with s := ⟨(rText bs 64 s).1.toArray⟩ }, (rText bs 64 s).2) else (i.put (fld l) (rInt bs (lowL l) (highL l) s).1, (rInt bs (lowL l) (highL l) s).2)

theorem take_w (q l : Nat) (hl : Ltr l) (p t : Nat) (i : Ins) (ao : Option Addr) (cap : Nat) (bs : List UInt8) (s : Nat × Int × Int) (w : World) (hI : InsAt w q i) (h : ROk w p t ao cap bs s) (hb : bs.length ≤ 140737488355328) (hqt : ¬ wset t ao q) (hqp : ¬ q = p) :
    Calls Try.prog 41 #[partW q l, .pointer (some ⟨p, 0, none⟩)] w fun e w' => e = .returned (.tuple #[]) ∧ InsAt w' q (tk bs l i s).1 ∧ ROk w' p t ao cap bs (tk bs l i s).2 ∧ Fr (fun k => k = t ∨ k = q) w w' := by
  have htl := h.1.tp.lt
  rcases hl with rfl | rfl | rfl | rfl | rfl | rfl
  · exact take_num q 1 p t 0 7 i.a i ao cap bs s w hI.c1 (hI.fz 1) hI.lt hI (by decide) (by decide) h hb htl hqt hqp
  · exact take_num q 2 p t 0 7 i.b i ao cap bs s w hI.c2 (hI.fz 2) hI.lt hI (by decide) (by decide) h hb htl hqt hqp
  · exact take_num q 3 p t 0 7 i.c i ao cap bs s w hI.c3 (hI.fz 3) hI.lt hI (by decide) (by decide) h hb htl hqt hqp
  · exact take_num q 4 p t 1 16 i.n i ao cap bs s w hI.c4 (hI.fz 4) hI.lt hI (by decide) (by decide) h hb htl hqt hqp
  · exact take_num q 4 p t 1 60 i.n i ao cap bs s w hI.c4 (hI.fz 4) hI.lt hI (by decide) (by decide) h hb htl hqt hqp
  · exact take_text q p t i.s i ao cap bs s w hI.c5 (hI.fz 5) hI.lt hI h hb htl hqt hqp

/-- What is left of an instruction is nothing. -/
def blank (j : Ins) : Prop := j.a = 0 ∧ j.b = 0 ∧ j.c = 0 ∧ j.n = 0 ∧ j.s = ⟨#[]⟩
open Classical in
noncomputable def checkE (i : Ins) : Int := if 1 ≤ i.op ∧ i.op ≤ 15 ∧ ∃ j, chkL (ltrs i.op.toNat) i = some j ∧ blank j then 0 else 2
theorem checkE_out (i : Ins) (h : ¬ (1 ≤ i.op ∧ i.op ≤ 15)) : checkE i = 2 := by
  unfold checkE
  exact if_neg (fun e => h ⟨e.1, e.2.1⟩)
theorem checkE_none (i : Ins) (h : chkL (ltrs i.op.toNat) i = none) : checkE i = 2 := by
  unfold checkE
  exact if_neg (fun ⟨_, _, j, e, _⟩ => by rw [h] at e; cases e)
theorem checkE_left (i j : Ins) (h : chkL (ltrs i.op.toNat) i = some j) (hj : ¬ blank j) : checkE i = 2 := by
  unfold checkE
  exact if_neg (fun ⟨_, _, k, e, b⟩ => by rw [h] at e; cases e; exact hj b)
theorem checkE_ok (i j : Ins) (h1 : 1 ≤ i.op) (h2 : i.op ≤ 15) (h : chkL (ltrs i.op.toNat) i = some j) (hj : blank j) : checkE i = 0 := by
  unfold checkE
  exact if_pos ⟨h1, h2, j, h, hj⟩

/-- What Check answers. -/
def CheckC : Prop := ∀ (i : Ins) (w : World), Calls Try.prog 12 #[.agg (icells i)] w fun e w' => e = .returned (.int .i64 (checkE i)) ∧ Fr (fun _ => False) w w'

theorem Fr.iterAt {S : Nat → Prop} {a b : World} (h : Fr S a b) {k : Nat} (hk : k < a.heap.size → S k) (s : ByteArray) (pos : Nat) : Fr S a (b.iterAt k s pos) :=
  ⟨h.os, h.tape, h.output, by rw [iterAt_size]; exact h.size, fun j hj hn => by rw [iterAt_other _ _ _ _ _ (fun e => hn (by subst e; exact hk hj))]; exact h.block j hj hn⟩
theorem iterPos_of {w : World} {k : Nat} {s : ByteArray} {p : Nat} (h : w.heap[k]? = some (.stringIter s p)) : w.iterPos k = p := by simp [World.iterPos, h]

end Go.Proofs.Ytpieaenfnajlfaa
