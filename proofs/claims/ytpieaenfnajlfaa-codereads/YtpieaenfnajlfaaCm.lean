/- Code, on paper: no instruction's bytes begin another one's. -/
import Derived.Test.YtpieaenfnajlfaaCp
namespace Go.Proofs.Ytpieaenfnajlfaa
open Go.RowKit Go.IntWalk
set_option linter.unusedSimpArgs false
set_option linter.unusedVariables false

/-- Two instructions have the same at a field. -/
def same (f : Nat) (i k : Ins) : Prop := if f = 5 then i.s = k.s else i.get f = k.get f
theorem same.rfl' {f : Nat} {i : Ins} : same f i i := by unfold same; split <;> rfl
theorem same.symm {f : Nat} {i k : Ins} (h : same f i k) : same f k i := by
  unfold same at *
  split at h
  · rw [if_pos (by assumption)]; exact h.symm
  · rw [if_neg (by assumption)]; exact h.symm
theorem same.trans {f : Nat} {i k m : Ins} (h : same f i k) (h' : same f k m) : same f i m := by
  unfold same at *
  by_cases hf : f = 5
  · rw [if_pos hf] at *; exact h.trans h'
  · rw [if_neg hf] at *; exact h.trans h'

theorem pre_cons {x y : UInt8} {r s : List UInt8} (h : x :: r <+: y :: s) : x = y ∧ r <+: s := List.cons_prefix_cons.1 h
theorem ofNat_inj' {a b : Nat} (ha : a ≤ 127) (hb : b ≤ 127) (h : UInt8.ofNat a = UInt8.ofNat b) : a = b := by
  have := congrArg UInt8.toNat h
  rw [UInt8.toNat_ofNat', UInt8.toNat_ofNat'] at this
  omega
theorem num_free (f : Nat) (i k : Ins) (hi : 0 ≤ i.get f ∧ i.get f ≤ 60) (hk : 0 ≤ k.get f ∧ k.get f ≤ 60) {r s : List UInt8} (h : [UInt8.ofNat (i.get f).toNat] ++ r <+: [UInt8.ofNat (k.get f).toNat] ++ s) : i.get f = k.get f ∧ r <+: s := by
  obtain ⟨e, h2⟩ := pre_cons h
  have := ofNat_inj' (by omega) (by omega) e
  exact ⟨by omega, h2⟩
theorem app_pre {x y r s : List UInt8} (hl : x.length = y.length) (h : x ++ r <+: y ++ s) : x = y ∧ r <+: s := by
  obtain ⟨t, e⟩ := h
  rw [List.append_assoc] at e
  have := List.append_inj e hl
  exact ⟨this.1, t, this.2⟩
theorem ba_len (s : ByteArray) : s.data.toList.length = s.size := by rw [Array.length_toList]; rfl
theorem ba_ext {s t : ByteArray} (h : s.data.toList = t.data.toList) : s = t := by
  cases s; cases t
  congr 1
  exact Array.ext' h

theorem encL_free (l : Nat) (hl : Ltr l) (i k : Ins) (hi : fitsB l i = true) (hk : fitsB l k = true) {r s : List UInt8} (h : encL l i ++ r <+: encL l k ++ s) : same (fld l) i k ∧ r <+: s := by
  rcases hl with rfl | rfl | rfl | rfl | rfl | rfl
  · have hv : 0 ≤ i.a ∧ i.a ≤ 7 := by simpa [fitsB, fld, lowL, highL, Ins.get] using hi
    have hw : 0 ≤ k.a ∧ k.a ≤ 7 := by simpa [fitsB, fld, lowL, highL, Ins.get] using hk
    exact num_free 1 i k ⟨hv.1, Int.le_trans hv.2 (by decide)⟩ ⟨hw.1, Int.le_trans hw.2 (by decide)⟩ h
  · have hv : 0 ≤ i.b ∧ i.b ≤ 7 := by simpa [fitsB, fld, lowL, highL, Ins.get] using hi
    have hw : 0 ≤ k.b ∧ k.b ≤ 7 := by simpa [fitsB, fld, lowL, highL, Ins.get] using hk
    exact num_free 2 i k ⟨hv.1, Int.le_trans hv.2 (by decide)⟩ ⟨hw.1, Int.le_trans hw.2 (by decide)⟩ h
  · have hv : 0 ≤ i.c ∧ i.c ≤ 7 := by simpa [fitsB, fld, lowL, highL, Ins.get] using hi
    have hw : 0 ≤ k.c ∧ k.c ≤ 7 := by simpa [fitsB, fld, lowL, highL, Ins.get] using hk
    exact num_free 3 i k ⟨hv.1, Int.le_trans hv.2 (by decide)⟩ ⟨hw.1, Int.le_trans hw.2 (by decide)⟩ h
  · have hv : 1 ≤ i.n ∧ i.n ≤ 16 := by simpa [fitsB, fld, lowL, highL, Ins.get] using hi
    have hw : 1 ≤ k.n ∧ k.n ≤ 16 := by simpa [fitsB, fld, lowL, highL, Ins.get] using hk
    exact num_free 4 i k ⟨Int.le_trans (by decide) hv.1, Int.le_trans hv.2 (by decide)⟩ ⟨Int.le_trans (by decide) hw.1, Int.le_trans hw.2 (by decide)⟩ h
  · have hv : 1 ≤ i.n ∧ i.n ≤ 60 := by simpa [fitsB, fld, lowL, highL, Ins.get] using hi
    have hw : 1 ≤ k.n ∧ k.n ≤ 60 := by simpa [fitsB, fld, lowL, highL, Ins.get] using hk
    exact num_free 4 i k ⟨Int.le_trans (by decide) hv.1, Int.le_trans hv.2 (by decide)⟩ ⟨Int.le_trans (by decide) hw.1, Int.le_trans hw.2 (by decide)⟩ h
  · have hv : (i.s.size : Int) ≤ 64 := by simpa [fitsB, fld] using hi
    have hw : (k.s.size : Int) ≤ 64 := by simpa [fitsB, fld] using hk
    have h' : UInt8.ofNat i.s.size :: (i.s.data.toList ++ r) <+: UInt8.ofNat k.s.size :: (k.s.data.toList ++ s) := h
    obtain ⟨e, h2⟩ := pre_cons h'
    have e2 := ofNat_inj' (by omega) (by omega) e
    obtain ⟨e3, h3⟩ := app_pre (by rw [ba_len, ba_len]; exact e2) h2
    exact ⟨ba_ext e3, h3⟩

theorem encs_free (ls : List Nat) (i k : Ins) (hL : ∀ l ∈ ls, Ltr l) (hi : ∀ l ∈ ls, fitsB l i = true) (hk : ∀ l ∈ ls, fitsB l k = true) (h : encs ls i <+: encs ls k) : ∀ l ∈ ls, same (fld l) i k := by
  induction ls with
  | nil => intro l hl; cases hl
  | cons x ls ih =>
    have h' : encL x i ++ encs ls i <+: encL x k ++ encs ls k := h
    obtain ⟨h1, h2⟩ := encL_free x (hL x (List.mem_cons_self ..)) i k (hi x (List.mem_cons_self ..)) (hk x (List.mem_cons_self ..)) h'
    intro l hl
    rcases List.mem_cons.1 hl with rfl | hl'
    · exact h1
    · exact ih (fun l hl => hL l (List.mem_cons_of_mem _ hl)) (fun l hl => hi l (List.mem_cons_of_mem _ hl)) (fun l hl => hk l (List.mem_cons_of_mem _ hl)) h2 l hl'

theorem clr_other (l : Nat) (hl : Ltr l) (f : Nat) (h1 : 1 ≤ f) (h5 : f ≤ 5) (hne : f ≠ fld l) (i : Ins) : same f i (clr l i) := by
  obtain rfl | rfl | rfl | rfl | rfl : f = 1 ∨ f = 2 ∨ f = 3 ∨ f = 4 ∨ f = 5 := by omega
  all_goals rcases hl with rfl | rfl | rfl | rfl | rfl | rfl
  all_goals first | rfl | exact absurd rfl hne

theorem chk_other (ls : List Nat) : ∀ (i j : Ins), chkL ls i = some j → (∀ l ∈ ls, Ltr l) → ∀ f, 1 ≤ f → f ≤ 5 → f ∉ ls.map fld → same f i j := by
  induction ls with
  | nil => intro i j h _ f _ _ _; obtain rfl := Option.some.inj (show some i = some j from h); exact same.rfl'
  | cons x ls ih =>
    intro i j h hL f h1 h5 hf
    have hk : fitsB x i = true := by
      by_cases e : fitsB x i = true
      · exact e
      · simp [chkL, e] at h
    have h' : chkL ls (clr x i) = some j := by simpa [chkL, hk] using h
    have hf' : f ≠ fld x ∧ f ∉ ls.map fld := by simpa [not_or] using hf
    exact (clr_other x (hL x (List.mem_cons_self ..)) f h1 h5 hf'.1 i).trans (ih _ j h' (fun l hl => hL l (List.mem_cons_of_mem _ hl)) f h1 h5 hf'.2)

theorem blank_same {i j : Ins} (h : blank i) (h' : blank j) (f : Nat) (h1 : 1 ≤ f) (h5 : f ≤ 5) : same f i j := by
  obtain rfl | rfl | rfl | rfl | rfl : f = 1 ∨ f = 2 ∨ f = 3 ∨ f = 4 ∨ f = 5 := by omega
  · exact h.1.trans h'.1.symm
  · exact h.2.1.trans h'.2.1.symm
  · exact h.2.2.1.trans h'.2.2.1.symm
  · exact h.2.2.2.1.trans h'.2.2.2.1.symm
  · exact h.2.2.2.2.trans h'.2.2.2.2.symm

theorem ins_ext {i k : Ins} (h0 : i.op = k.op) (h : ∀ f, 1 ≤ f → f ≤ 5 → same f i k) : i = k := by
  have e1 : i.a = k.a := h 1 (by decide) (by decide)
  have e2 : i.b = k.b := h 2 (by decide) (by decide)
  have e3 : i.c = k.c := h 3 (by decide) (by decide)
  have e4 : i.n = k.n := h 4 (by decide) (by decide)
  have e5 : i.s = k.s := h 5 (by decide) (by decide)
  cases i; cases k
  simp only at h0 e1 e2 e3 e4 e5
  subst h0 e1 e2 e3 e4 e5
  rfl

theorem free {i k : Ins} {m p : Nat} (hi : Good i m) (hk : Good k p) (h : codeI i <+: codeI k) : i = k := by
  rw [hi.code, hk.code] at h
  obtain ⟨e, h2⟩ := pre_cons h
  have hmp : m = p := ofNat_inj' (by have := hi.hi; omega) (by have := hk.hi; omega) e
  subst hmp
  have hS := encs_free (ltrs m) i k (ltrs_ok m hi.hi) hi.fit hk.fit h2
  refine ins_ext (hi.op.trans hk.op.symm) fun f h1 h5 => ?_
  by_cases hf : f ∈ (ltrs m).map fld
  · obtain ⟨l, hl, rfl⟩ := List.mem_map.1 hf
    exact hS l hl
  · obtain ⟨j, hj, bj⟩ := hi.left
    obtain ⟨j', hj', bj'⟩ := hk.left
    exact (chk_other _ _ _ hj (ltrs_ok m hi.hi) f h1 h5 hf).trans ((blank_same bj bj' f h1 h5).trans (chk_other _ _ _ hj' (ltrs_ok m hi.hi) f h1 h5 hf).symm)

end Go.Proofs.Ytpieaenfnajlfaa
