/- Code, on paper: bytes are read as their instruction; what is read is told as its bytes. -/
import Derived.Test.YtpieaenfnajlfaaCm
import Derived.Test.YtpieaenfnajlfaaCv
import Derived.Test.YtpieaenfnajlfaaCi
namespace Go.Proofs.Ytpieaenfnajlfaa
open Go.RowKit Go.IntWalk Go.Lib
set_option linter.unusedSimpArgs false
set_option linter.unusedVariables false

theorem u8_of (n : Nat) (h : n ≤ 127) : (UInt8.ofNat n).toNat = n := by
  rw [UInt8.toNat_ofNat']
  omega

/-! What is written is read. -/
theorem scan_one (n : Nat) (hn : n ≤ 127) (r : List UInt8) : scan (UInt8.ofNat n :: r) 0 0 = .ok (n, 1) := by
  have e := u8_of n hn
  rw [scan_last (by omega) (by omega), e]
  simp
  omega
theorem drop_pre (pre r : List UInt8) : (pre ++ r).drop pre.length = r := by simp
theorem rdNum_one (pre r : List UInt8) (n : Nat) (hn : n ≤ 127) (lo hi ab : Int) (h1 : lo ≤ n) (h2 : (n : Int) ≤ hi) : rdNum (pre ++ UInt8.ofNat n :: r) pre.length lo hi ab = .inr (n, pre.length + 1) := by
  unfold rdNum
  rw [drop_pre, scan_one n hn]
  simp only
  rw [if_neg (by omega), if_neg (by omega)]
theorem rInt_one (pre r : List UInt8) (n : Nat) (hn : n ≤ 127) (lo hi x : Int) (h1 : lo ≤ n) (h2 : (n : Int) ≤ hi) : rInt (pre ++ UInt8.ofNat n :: r) lo hi (pre.length, 0, x) = ((n : Int), (pre.length + 1, 0, x)) := by
  unfold rInt
  rw [if_neg (by simp)]
  simp only
  rw [rdNum_one pre r n hn lo hi 5 h1 h2]
theorem rText_one (pre r x : List UInt8) (hx : x.length ≤ 64) (y : Int) : rText (pre ++ UInt8.ofNat x.length :: (x ++ r)) 64 (pre.length, 0, y) = (x, (pre.length + 1 + x.length, 0, y)) := by
  unfold rText rdText
  rw [if_neg (by simp)]
  simp only
  rw [rdNum_one pre (x ++ r) x.length (by omega) 0 64 3 (by omega) (by omega)]
  simp only
  rw [if_neg (by simp; omega)]
  simp

def setf (i : Ins) (j : Ins) (l : Nat) : Ins := if fld l = 5 then { j with s := i.s } else j.put (fld l) (i.get (fld l))

theorem tk_one (l : Nat) (hl : Ltr l) (i j : Ins) (hf : fitsB l i = true) (pre r : List UInt8) : tk (pre ++ encL l i ++ r) l j (pre.length, 0, 0) = (setf i j l, (pre.length + (encL l i).length, 0, 0)) := by
  have num : ∀ (f : Nat) (lo hi v : Int) (h0 : 0 ≤ v) (h1 : v ≤ 127) (h2 : lo ≤ v) (h3 : v ≤ hi), rInt (pre ++ [UInt8.ofNat v.toNat] ++ r) lo hi (pre.length, 0, 0) = (v, (pre.length + 1, 0, 0)) := fun f lo hi v h0 h1 h2 h3 => by
    obtain ⟨n, rfl⟩ := Int.eq_ofNat_of_zero_le h0
    rw [List.append_assoc]
    exact rInt_one pre r n (by omega) lo hi 0 h2 h3
  rcases hl with rfl | rfl | rfl | rfl | rfl | rfl
  · have hv := (fb1 i).1 hf
    show (j.put 1 (rInt (pre ++ [UInt8.ofNat i.a.toNat] ++ r) 0 7 (pre.length, 0, 0)).1, (rInt (pre ++ [UInt8.ofNat i.a.toNat] ++ r) 0 7 (pre.length, 0, 0)).2) = _
    rw [num 1 0 7 i.a (by omega) (by omega) (by omega) (by omega)]
    rfl
  · have hv := (fb2 i).1 hf
    show (j.put 2 (rInt (pre ++ [UInt8.ofNat i.b.toNat] ++ r) 0 7 (pre.length, 0, 0)).1, (rInt (pre ++ [UInt8.ofNat i.b.toNat] ++ r) 0 7 (pre.length, 0, 0)).2) = _
    rw [num 1 0 7 i.b (by omega) (by omega) (by omega) (by omega)]
    rfl
  · have hv := (fb3 i).1 hf
    show (j.put 3 (rInt (pre ++ [UInt8.ofNat i.c.toNat] ++ r) 0 7 (pre.length, 0, 0)).1, (rInt (pre ++ [UInt8.ofNat i.c.toNat] ++ r) 0 7 (pre.length, 0, 0)).2) = _
    rw [num 1 0 7 i.c (by omega) (by omega) (by omega) (by omega)]
    rfl
  · have hv := (fb4 i).1 hf
    show (j.put 4 (rInt (pre ++ [UInt8.ofNat i.n.toNat] ++ r) 1 16 (pre.length, 0, 0)).1, (rInt (pre ++ [UInt8.ofNat i.n.toNat] ++ r) 1 16 (pre.length, 0, 0)).2) = _
    rw [num 1 1 16 i.n (by omega) (by omega) (by omega) (by omega)]
    rfl
  · have hv := (fb5 i).1 hf
    show (j.put 4 (rInt (pre ++ [UInt8.ofNat i.n.toNat] ++ r) 1 60 (pre.length, 0, 0)).1, (rInt (pre ++ [UInt8.ofNat i.n.toNat] ++ r) 1 60 (pre.length, 0, 0)).2) = _
    rw [num 1 1 60 i.n (by omega) (by omega) (by omega) (by omega)]
    rfl
  · have hv := (fb6 i).1 hf
    have hlen := ba_len i.s
    have e : pre ++ (UInt8.ofNat i.s.size :: i.s.data.toList) ++ r = pre ++ UInt8.ofNat i.s.data.toList.length :: (i.s.data.toList ++ r) := by rw [hlen]; simp
    show ({ j with s := ⟨(rText (pre ++ (UInt8.ofNat i.s.size :: i.s.data.toList) ++ r) 64 (pre.length, 0, 0)).1.toArray⟩ }, (rText (pre ++ (UInt8.ofNat i.s.size :: i.s.data.toList) ++ r) 64 (pre.length, 0, 0)).2) = _
    rw [e, rText_one pre r i.s.data.toList (by omega) 0]
    show (({ j with s := ⟨i.s.data.toList.toArray⟩ } : Ins), _) = (({ j with s := i.s } : Ins), (pre.length + (UInt8.ofNat i.s.size :: i.s.data.toList).length, (0 : Int), (0 : Int)))
    rw [List.length_cons, Array.toArray_toList, show pre.length + 1 + i.s.data.toList.length = pre.length + (i.s.data.toList.length + 1) by omega]

theorem tks_one (ls : List Nat) (i : Ins) (r : List UInt8) : ∀ (pre : List UInt8) (j : Ins), (∀ l ∈ ls, Ltr l) → (∀ l ∈ ls, fitsB l i = true) → tks (pre ++ encs ls i ++ r) ls (j, (pre.length, 0, 0)) = (ls.foldl (setf i) j, (pre.length + (encs ls i).length, 0, 0)) := by
  induction ls with
  | nil => intro pre j _ _; rfl
  | cons l ls ih =>
    intro pre j hL hf
    have e : pre ++ encs (l :: ls) i ++ r = pre ++ encL l i ++ (encs ls i ++ r) := by simp [encs]
    have e2 : pre ++ encs (l :: ls) i ++ r = (pre ++ encL l i) ++ encs ls i ++ r := by simp [encs]
    show tks _ ls (tk (pre ++ encs (l :: ls) i ++ r) l j (pre.length, 0, 0)) = _
    rw [e, tk_one l (hL l (List.mem_cons_self ..)) i j (hf l (List.mem_cons_self ..)) pre (encs ls i ++ r), ← e, e2]
    have h := ih (pre ++ encL l i) (setf i j l) (fun l hl => hL l (List.mem_cons_of_mem _ hl)) (fun l hl => hf l (List.mem_cons_of_mem _ hl))
    rw [List.length_append] at h
    rw [h]
    show (_, _) = (_, _)
    rw [show encs (l :: ls) i = encL l i ++ encs ls i from rfl, List.length_append, Nat.add_assoc]
    rfl

theorem setf_op (i : Ins) : ∀ (ls : List Nat) (j : Ins), (ls.foldl (setf i) j).op = j.op
  | [], _ => rfl
  | l :: ls, j => by
    rw [List.foldl_cons, setf_op i ls]
    unfold setf Ins.put
    split
    · rfl
    split
    · rfl
    split
    · rfl
    split <;> rfl

theorem setf_all (m : Nat) (i : Ins) (hG : Good i m) : (ltrs m).foldl (setf i) ⟨m, 0, 0, 0, 0, ⟨#[]⟩⟩ = i := by
  have hb := ((chkL_iff m hG.hi i).1 hG.left).2
  have ho := hG.op
  have h1 := hG.lo
  have h2 := hG.hi
  clear hG
  obtain ⟨op, a, b, c, n, s⟩ := i
  obtain rfl : op = m := ho
  obtain rfl | rfl | rfl | rfl | rfl | rfl | rfl | rfl | rfl | rfl | rfl | rfl | rfl | rfl | rfl : m = 1 ∨ m = 2 ∨ m = 3 ∨ m = 4 ∨ m = 5 ∨ m = 6 ∨ m = 7 ∨ m = 8 ∨ m = 9 ∨ m = 10 ∨ m = 11 ∨ m = 12 ∨ m = 13 ∨ m = 14 ∨ m = 15 := by omega
  all_goals
    obtain ⟨e1, e2, e3, e4, e5⟩ := hb
    simp only [clrs, show ltrs 1 = [65, 83] from by decide, show ltrs 2 = [65, 66] from by decide, show ltrs 3 = [65, 66, 67] from by decide, show ltrs 4 = [65, 66] from by decide, show ltrs 5 = [65] from by decide, show ltrs 6 = [65, 66, 67, 69] from by decide, show ltrs 7 = [65, 66, 67] from by decide, show ltrs 8 = [65, 66, 67] from by decide, show ltrs 9 = [65, 66, 67] from by decide, show ltrs 10 = [65, 66, 67] from by decide, show ltrs 11 = [65, 66, 67] from by decide, show ltrs 12 = [65, 80] from by decide, show ltrs 13 = [80] from by decide, show ltrs 14 = [65] from by decide, show ltrs 15 = [] from by decide, List.foldl_cons, List.foldl_nil, clr, setf, fld, Ins.put, Ins.get] at e1 e2 e3 e4 e5 ⊢
    simp at e1 e2 e3 e4 e5 ⊢
    try simp [*]

theorem rInt_head (r : List UInt8) (m : Nat) (h1 : 1 ≤ m) (h2 : m ≤ 15) : rInt (UInt8.ofNat m :: r) 1 15 (0, 0, 0) = ((m : Int), (1, 0, 0)) := rInt_one [] r m (by omega) 1 15 0 (by omega) (by omega)

theorem rdI_code (m : Nat) (i : Ins) (hG : Good i m) (r : List UInt8) : rdI (codeI i ++ r) = (i, ((codeI i).length, 0, 0)) := by
  have h := tks_one (ltrs m) i r [UInt8.ofNat m] ⟨m, 0, 0, 0, 0, ⟨#[]⟩⟩ (ltrs_ok m hG.hi) hG.fit
  rw [setf_all m i hG] at h
  rw [hG.code]
  unfold rdI
  rw [show (UInt8.ofNat m :: encs (ltrs m) i) ++ r = UInt8.ofNat m :: (encs (ltrs m) i ++ r) from rfl, rInt_head _ m hG.lo hG.hi]
  simp only [Int.toNat_natCast]
  rw [show UInt8.ofNat m :: (encs (ltrs m) i ++ r) = [UInt8.ofNat m] ++ encs (ltrs m) i ++ r from rfl]
  refine h.trans ?_
  simp only [List.length_cons, List.length_nil]
  rw [show 0 + 1 + (encs (ltrs m) i).length = (encs (ltrs m) i).length + 1 by omega]

theorem codeI_len (m : Nat) (i : Ins) (hG : Good i m) : 1 ≤ (codeI i).length ∧ (codeI i).length ≤ 67 := by
  have hf := hG.fit
  rw [hG.code, List.length_cons]
  refine ⟨by omega, ?_⟩
  have h1 := hG.lo
  have h2 := hG.hi
  clear hG
  have hs : ∀ l, fld l ≠ 5 → (encL l i).length = 1 := fun l h => by unfold encL; rw [if_neg h]; rfl
  have ht : fitsB 83 i = true → (encL 83 i).length ≤ 65 := fun h => encL_len 83 (by decide) i h
  have e1 := hs 65 (by decide)
  have e2 := hs 66 (by decide)
  have e3 := hs 67 (by decide)
  have e4 := hs 69 (by decide)
  have e5 := hs 80 (by decide)
  obtain rfl | rfl | rfl | rfl | rfl | rfl | rfl | rfl | rfl | rfl | rfl | rfl | rfl | rfl | rfl : m = 1 ∨ m = 2 ∨ m = 3 ∨ m = 4 ∨ m = 5 ∨ m = 6 ∨ m = 7 ∨ m = 8 ∨ m = 9 ∨ m = 10 ∨ m = 11 ∨ m = 12 ∨ m = 13 ∨ m = 14 ∨ m = 15 := by omega
  · have e6 := ht (hf 83 (by decide))
    show (encL 65 i ++ (encL 83 i ++ [])).length + 1 ≤ 67
    simp only [List.length_append, List.length_nil]; omega
  · show (encL 65 i ++ (encL 66 i ++ [])).length + 1 ≤ 67
    simp only [List.length_append, List.length_nil]; omega
  · show (encL 65 i ++ (encL 66 i ++ (encL 67 i ++ []))).length + 1 ≤ 67
    simp only [List.length_append, List.length_nil]; omega
  · show (encL 65 i ++ (encL 66 i ++ [])).length + 1 ≤ 67
    simp only [List.length_append, List.length_nil]; omega
  · show (encL 65 i ++ []).length + 1 ≤ 67
    simp only [List.length_append, List.length_nil]; omega
  · show (encL 65 i ++ (encL 66 i ++ (encL 67 i ++ (encL 69 i ++ [])))).length + 1 ≤ 67
    simp only [List.length_append, List.length_nil]; omega
  · show (encL 65 i ++ (encL 66 i ++ (encL 67 i ++ []))).length + 1 ≤ 67
    simp only [List.length_append, List.length_nil]; omega
  · show (encL 65 i ++ (encL 66 i ++ (encL 67 i ++ []))).length + 1 ≤ 67
    simp only [List.length_append, List.length_nil]; omega
  · show (encL 65 i ++ (encL 66 i ++ (encL 67 i ++ []))).length + 1 ≤ 67
    simp only [List.length_append, List.length_nil]; omega
  · show (encL 65 i ++ (encL 66 i ++ (encL 67 i ++ []))).length + 1 ≤ 67
    simp only [List.length_append, List.length_nil]; omega
  · show (encL 65 i ++ (encL 66 i ++ (encL 67 i ++ []))).length + 1 ≤ 67
    simp only [List.length_append, List.length_nil]; omega
  · show (encL 65 i ++ (encL 80 i ++ [])).length + 1 ≤ 67
    simp only [List.length_append, List.length_nil]; omega
  · show (encL 80 i ++ []).length + 1 ≤ 67
    simp only [List.length_append, List.length_nil]; omega
  · show (encL 65 i ++ []).length + 1 ≤ 67
    simp only [List.length_append, List.length_nil]; omega
  · show ([] : List UInt8).length + 1 ≤ 67
    simp

/-- What is written, ahead and behind whatever it stands, is read. -/
theorem readR_code (m : Nat) (i : Ins) (hG : Good i m) (pre r : List UInt8) : readR (pre ++ codeI i ++ r) (pre.length : Int) = (i, (pre.length : Int) + (codeI i).length, 0, 0) := by
  have hl := codeI_len m i hG
  have hw : win (pre ++ codeI i ++ r) pre.length = codeI i ++ r.take (67 - (codeI i).length) := by
    unfold win
    rw [List.append_assoc, drop_pre, List.take_append, List.take_of_length_le hl.2]
  unfold readR
  rw [if_neg (by simp only [List.length_append]; omega), Int.toNat_natCast, hw, rdI_code m i hG, if_pos rfl]

/-! Cut short it is not. -/
theorem tk_sticks (cs : List UInt8) (l : Nat) (j : Ins) (s : Nat × Int × Int) (h : s.2.1 ≠ 0) : (tk cs l j s).2 = s := by
  unfold tk rText rInt
  simp only [if_pos h]
  split <;> rfl
theorem tks_sticks (cs : List UInt8) : ∀ (ls : List Nat) (j : Ins) (s : Nat × Int × Int), s.2.1 ≠ 0 → (tks cs ls (j, s)).2 = s
  | [], _, _, _ => rfl
  | l :: ls, j, s, h => by
    show (tks cs ls (tk cs l j s)).2 = s
    have e := tk_sticks cs l j s h
    rw [show tk cs l j s = ((tk cs l j s).1, s) from Prod.ext rfl e]
    exact tks_sticks cs ls _ s h

theorem rdNum_end (pre : List UInt8) (lo hi ab : Int) : rdNum pre pre.length lo hi ab = .inl (4, pre.length) := by
  unfold rdNum
  rw [List.drop_length, scan_end]
  rfl
theorem tk_cut (l : Nat) (hl : Ltr l) (i j : Ins) (hf : fitsB l i = true) (pre : List UInt8) (k : Nat) (hk : k < (encL l i).length) : (tk (pre ++ (encL l i).take k) l j (pre.length, 0, 0)).2 = (pre.length, 4, ((pre ++ (encL l i).take k).length : Int)) := by
  cases k with
  | zero =>
    rw [List.take_zero, List.append_nil]
    have e1 : ∀ lo hi, rInt pre lo hi (pre.length, 0, 0) = (0, (pre.length, 4, (pre.length : Int))) := fun lo hi => by
      unfold rInt
      rw [if_neg (by simp)]
      simp only
      rw [rdNum_end]
    have e2 : rText pre 64 (pre.length, 0, 0) = ([], (pre.length, 4, (pre.length : Int))) := by
      unfold rText rdText
      rw [if_neg (by simp)]
      simp only
      rw [rdNum_end]
    unfold tk
    rw [e1, e2]
    split <;> rfl
  | succ k =>
    by_cases h5 : fld l = 5
    · have hl83 : l = 83 := by rcases hl with rfl | rfl | rfl | rfl | rfl | rfl <;> first | rfl | exact absurd h5 (by decide)
      subst hl83
      have hv := (fb6 i).1 hf
      have hlen := ba_len i.s
      have hkk : k < i.s.data.toList.length := by
        have : k + 1 < (UInt8.ofNat i.s.size :: i.s.data.toList).length := hk
        simpa using this
      show (rText (pre ++ (UInt8.ofNat i.s.size :: i.s.data.toList.take k)) 64 (pre.length, 0, 0)).2 = (pre.length, 4, ((pre ++ (UInt8.ofNat i.s.size :: i.s.data.toList.take k)).length : Int))
      unfold rText rdText
      rw [if_neg (by simp)]
      simp only
      rw [rdNum_one pre (i.s.data.toList.take k) i.s.size (by omega) 0 64 3 (by omega) (by omega)]
      simp only
      rw [if_pos (by simp only [List.length_append, List.length_cons, List.length_take]; omega)]
    · exfalso
      have : (encL l i).length = 1 := by unfold encL; rw [if_neg h5]; rfl
      omega

theorem tks_cut (ls : List Nat) (i : Ins) : ∀ (pre : List UInt8) (j : Ins) (k : Nat), (∀ l ∈ ls, Ltr l) → (∀ l ∈ ls, fitsB l i = true) → k < (encs ls i).length → (tks (pre ++ (encs ls i).take k) ls (j, (pre.length, 0, 0))).2.2 = (4, ((pre ++ (encs ls i).take k).length : Int)) := by
  induction ls with
  | nil => intro pre j k _ _ hk; cases hk
  | cons l ls ih =>
    intro pre j k hL hf hk
    have he : encs (l :: ls) i = encL l i ++ encs ls i := rfl
    rw [he] at hk ⊢
    by_cases hkl : k < (encL l i).length
    · rw [List.take_append_of_le_length (by omega)]
      have h := tk_cut l (hL l (List.mem_cons_self ..)) i j (hf l (List.mem_cons_self ..)) pre k hkl
      show (tks _ ls (tk (pre ++ (encL l i).take k) l j (pre.length, 0, 0))).2.2 = _
      rw [show tk (pre ++ (encL l i).take k) l j (pre.length, 0, 0) = ((tk (pre ++ (encL l i).take k) l j (pre.length, 0, 0)).1, (pre.length, 4, ((pre ++ (encL l i).take k).length : Int))) from Prod.ext rfl h]
      rw [tks_sticks _ ls _ _ (by simp)]
    · have e : (encL l i ++ encs ls i).take k = encL l i ++ (encs ls i).take (k - (encL l i).length) := by
        rw [List.take_append, List.take_of_length_le (by omega)]
      rw [e, ← List.append_assoc]
      show (tks _ ls (tk (pre ++ encL l i ++ (encs ls i).take (k - (encL l i).length)) l j (pre.length, 0, 0))).2.2 = _
      rw [tk_one l (hL l (List.mem_cons_self ..)) i j (hf l (List.mem_cons_self ..)) pre _]
      have h := ih (pre ++ encL l i) (setf i j l) (k - (encL l i).length) (fun l hl => hL l (List.mem_cons_of_mem _ hl)) (fun l hl => hf l (List.mem_cons_of_mem _ hl)) (by rw [List.length_append] at hk; omega)
      rw [List.length_append] at h
      exact h

theorem rdI_cut (m : Nat) (i : Ins) (hG : Good i m) (k : Nat) (hk : k < (codeI i).length) : (rdI ((codeI i).take k)).2.2 = (4, (k : Int)) := by
  rw [hG.code] at hk ⊢
  cases k with
  | zero =>
    unfold rdI
    rw [List.take_zero]
    have e : rInt [] 1 15 (0, 0, 0) = (0, (0, 4, 0)) := by rfl
    rw [e, tks_sticks _ _ _ _ (by simp)]
    rfl
  | succ k =>
    have h := tks_cut (ltrs m) i [UInt8.ofNat m] ⟨m, 0, 0, 0, 0, ⟨#[]⟩⟩ k (ltrs_ok m hG.hi) hG.fit (by simpa using hk)
    unfold rdI
    rw [List.take_succ_cons, rInt_head _ m hG.lo hG.hi]
    simp only [Int.toNat_natCast]
    refine h.trans ?_
    have : ((encs (ltrs m) i).take k).length = k := by rw [List.length_take]; simp at hk; omega
    simp [this]

theorem readR_cut (m : Nat) (i : Ins) (hG : Good i m) (pre : List UInt8) (k : Nat) (hk : k < (codeI i).length) : readR (pre ++ (codeI i).take k) (pre.length : Int) = (zeroI, 0, 4, ((pre ++ (codeI i).take k).length : Int)) := by
  have hl := codeI_len m i hG
  have hw : win (pre ++ (codeI i).take k) pre.length = (codeI i).take k := by
    unfold win
    rw [drop_pre, List.take_of_length_le]
    rw [List.length_take]
    omega
  have hr := rdI_cut m i hG k hk
  unfold readR
  rw [if_neg (by simp only [List.length_append]; omega), Int.toNat_natCast, hw, hr, if_neg (by simp)]
  simp only [List.length_append, List.length_take, Nat.min_eq_left (Nat.le_of_lt hk)]
  simp

end Go.Proofs.Ytpieaenfnajlfaa
