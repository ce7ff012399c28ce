/- Code, on paper: an instruction's bytes. -/
import Derived.Test.YtpieaenfnajlfaaCe
namespace Go.Proofs.Ytpieaenfnajlfaa
open Go.RowKit Go.IntWalk
set_option linter.unusedSimpArgs false
set_option linter.unusedVariables false

theorem fits_clr (l k : Nat) (hl : Ltr l) (hk : Ltr k) (i : Ins) (h : fld l ≠ fld k) : fitsB l (clr k i) = fitsB l i := by
  rcases hl with rfl | rfl | rfl | rfl | rfl | rfl <;> rcases hk with rfl | rfl | rfl | rfl | rfl | rfl <;> first | rfl | exact absurd rfl h

theorem chkL_fits (ls : List Nat) : ∀ (i j : Ins), chkL ls i = some j → (ls.map fld).Nodup → (∀ l ∈ ls, Ltr l) → ∀ l ∈ ls, fitsB l i = true := by
  induction ls with
  | nil => intro i j _ _ _ l hl; cases hl
  | cons k ls ih =>
    intro i j h hn hL l hl
    have hk : fitsB k i = true := by
      by_cases e : fitsB k i = true
      · exact e
      · simp [chkL, e] at h
    have h' : chkL ls (clr k i) = some j := by simpa [chkL, hk] using h
    rcases List.mem_cons.1 hl with rfl | hl'
    · exact hk
    · have hn' := List.nodup_cons.1 (show (fld k :: ls.map fld).Nodup from hn)
      have := ih (clr k i) j h' hn'.2 (fun x hx => hL x (List.mem_cons_of_mem _ hx)) l hl'
      rw [fits_clr l k (hL l hl) (hL k (List.mem_cons_self ..)) i (fun e => hn'.1 (by rw [← e]; exact List.mem_map_of_mem hl'))] at this
      exact this

theorem ltrs_nodup (n : Nat) (hn : n ≤ 15) : ((ltrs n).map fld).Nodup ∧ (ltrs n).length ≤ 4 := by
  obtain rfl | rfl | rfl | rfl | rfl | rfl | rfl | rfl | rfl | rfl | rfl | rfl | rfl | rfl | rfl | rfl : n = 0 ∨ n = 1 ∨ n = 2 ∨ n = 3 ∨ n = 4 ∨ n = 5 ∨ n = 6 ∨ n = 7 ∨ n = 8 ∨ n = 9 ∨ n = 10 ∨ n = 11 ∨ n = 12 ∨ n = 13 ∨ n = 14 ∨ n = 15 := by omega
  all_goals decide

/-- A thing's bytes. -/
def encL (l : Nat) (i : Ins) : List UInt8 := if fld l = 5 then UInt8.ofNat i.s.size :: i.s.data.toList else [UInt8.ofNat (i.get (fld l)).toNat]
def encs (ls : List Nat) (i : Ins) : List UInt8 := ls.flatMap fun l => encL l i
/-- An instruction's bytes, if it may be. -/
def codeL (i : Ins) : List UInt8 := UInt8.ofNat i.op.toNat :: encs (ltrs i.op.toNat) i
noncomputable def codeI (i : Ins) : List UInt8 := if checkE i = 0 then codeL i else []

theorem wInt_small (v : Int) (h0 : 0 ≤ v) (h1 : v ≤ 127) (x : List UInt8) : wInt v (x, false) = (x ++ [UInt8.ofNat v.toNat], false) := by
  unfold wInt
  rw [if_neg (by simp), if_neg (by omega), sevens_lt (by omega)]

theorem wL_fits (l : Nat) (hl : Ltr l) (i : Ins) (h : fitsB l i = true) (x : List UInt8) : wL l i (x, false) = (x ++ encL l i, false) := by
  rcases hl with rfl | rfl | rfl | rfl | rfl | rfl
  · have hv : 0 ≤ i.a ∧ i.a ≤ 7 := by simpa [fitsB, fld, lowL, highL, Ins.get] using h
    exact wInt_small i.a (by omega) (by omega) x
  · have hv : 0 ≤ i.b ∧ i.b ≤ 7 := by simpa [fitsB, fld, lowL, highL, Ins.get] using h
    exact wInt_small i.b (by omega) (by omega) x
  · have hv : 0 ≤ i.c ∧ i.c ≤ 7 := by simpa [fitsB, fld, lowL, highL, Ins.get] using h
    exact wInt_small i.c (by omega) (by omega) x
  · have hv : 1 ≤ i.n ∧ i.n ≤ 16 := by simpa [fitsB, fld, lowL, highL, Ins.get] using h
    exact wInt_small i.n (by omega) (by omega) x
  · have hv : 1 ≤ i.n ∧ i.n ≤ 60 := by simpa [fitsB, fld, lowL, highL, Ins.get] using h
    exact wInt_small i.n (by omega) (by omega) x
  · have hv : (i.s.size : Int) ≤ 64 := by simpa [fitsB, fld] using h
    have hlen : i.s.data.toList.length = i.s.size := by rw [Array.length_toList]; rfl
    show wText i.s.data.toList (x, false) = (x ++ (UInt8.ofNat i.s.size :: i.s.data.toList), false)
    unfold wText
    rw [if_neg (by simp), hlen, sevens_lt (by omega)]
    rfl

theorem encL_len (l : Nat) (hl : Ltr l) (i : Ins) (h : fitsB l i = true) : (encL l i).length ≤ 65 := by
  rcases hl with rfl | rfl | rfl | rfl | rfl | rfl
  · exact Nat.le_trans (Nat.le_refl 1) (by omega)
  · exact Nat.le_trans (Nat.le_refl 1) (by omega)
  · exact Nat.le_trans (Nat.le_refl 1) (by omega)
  · exact Nat.le_trans (Nat.le_refl 1) (by omega)
  · exact Nat.le_trans (Nat.le_refl 1) (by omega)
  · have hv : (i.s.size : Int) ≤ 64 := by simpa [fitsB, fld] using h
    have hlen : i.s.data.toList.length = i.s.size := by rw [Array.length_toList]; rfl
    show (UInt8.ofNat i.s.size :: i.s.data.toList).length ≤ 65
    rw [List.length_cons, hlen]
    omega

theorem encs_len (ls : List Nat) (i : Ins) (hL : ∀ l ∈ ls, Ltr l) (h : ∀ l ∈ ls, fitsB l i = true) : (encs ls i).length ≤ 65 * ls.length := by
  induction ls with
  | nil => exact Nat.le_refl _
  | cons l ls ih =>
    have h1 := encL_len l (hL l (List.mem_cons_self ..)) i (h l (List.mem_cons_self ..))
    have h2 := ih (fun x hx => hL x (List.mem_cons_of_mem _ hx)) (fun x hx => h x (List.mem_cons_of_mem _ hx))
    show (encL l i ++ encs ls i).length ≤ 65 * (ls.length + 1)
    rw [List.length_append]
    omega
theorem encs_snoc (ls : List Nat) (l : Nat) (i : Ins) : encs (ls ++ [l]) i = encs ls i ++ encL l i := by simp [encs]

/-- What may be: its Op, its things. -/
structure Good (i : Ins) (m : Nat) : Prop where
  op : i.op = m
  lo : 1 ≤ m
  hi : m ≤ 15
  fit : ∀ l ∈ ltrs m, fitsB l i = true
  left : ∃ j, chkL (ltrs m) i = some j ∧ blank j
theorem good_of (i : Ins) (h : checkE i = 0) : ∃ m, Good i m := by
  unfold checkE at h
  by_cases hc : 1 ≤ i.op ∧ i.op ≤ 15 ∧ ∃ j, chkL (ltrs i.op.toNat) i = some j ∧ blank j
  · obtain ⟨h1, h2, j, hj, hb⟩ := hc
    have hm : i.op.toNat ≤ 15 := by omega
    exact ⟨i.op.toNat, by omega, by omega, hm, chkL_fits _ i j hj (ltrs_nodup _ hm).1 (ltrs_ok _ hm), j, hj, hb⟩
  · rw [if_neg hc] at h
    cases h
theorem Good.check {i : Ins} {m : Nat} (h : Good i m) : checkE i = 0 := by
  obtain ⟨j, hj, hb⟩ := h.left
  have e : i.op.toNat = m := by rw [h.op]; rfl
  exact checkE_ok i j (by rw [h.op]; have := h.lo; omega) (by rw [h.op]; have := h.hi; omega) (by rw [e]; exact hj) hb
theorem checkE_or (i : Ins) : checkE i = 0 ∨ checkE i = 2 := by
  unfold checkE
  split
  · exact Or.inl rfl
  · exact Or.inr rfl
theorem Good.code {i : Ins} {m : Nat} (h : Good i m) : codeI i = UInt8.ofNat m :: encs (ltrs m) i := by
  have e : i.op.toNat = m := by rw [h.op]; rfl
  unfold codeI
  rw [if_pos h.check]
  unfold codeL
  rw [e]

end Go.Proofs.Ytpieaenfnajlfaa
