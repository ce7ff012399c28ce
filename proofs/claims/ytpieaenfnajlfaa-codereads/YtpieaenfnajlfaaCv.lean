/- Code: what the document's Check answers is what Check answers. -/
import Derived.Test.YtpieaenfnajlfaaCt
namespace Go.Proofs.Ytpieaenfnajlfaa
open Go.RowKit Go.IntWalk Go.Lib
set_option linter.unusedSimpArgs false
set_option linter.unusedVariables false

def clrs (ls : List Nat) (i : Ins) : Ins := ls.foldl (fun i l => clr l i) i
theorem chkL_some (ls : List Nat) : ∀ i : Ins, (ls.map fld).Nodup → (∀ l ∈ ls, Ltr l) → (∀ l ∈ ls, fitsB l i = true) → chkL ls i = some (clrs ls i) := by
  induction ls with
  | nil => intro i _ _ _; rfl
  | cons k ls ih =>
    intro i hn hL hf
    have hn' := List.nodup_cons.1 (show (fld k :: ls.map fld).Nodup from hn)
    rw [chkL, if_pos (hf k (List.mem_cons_self ..))]
    refine ih (clr k i) hn'.2 (fun l hl => hL l (List.mem_cons_of_mem _ hl)) (fun l hl => ?_)
    rw [fits_clr l k (hL l (List.mem_cons_of_mem _ hl)) (hL k (List.mem_cons_self ..)) i (fun e => hn'.1 (by rw [← e]; exact List.mem_map_of_mem hl))]
    exact hf l (List.mem_cons_of_mem _ hl)
theorem chkL_iff (m : Nat) (hm : m ≤ 15) (i : Ins) : (∃ j, chkL (ltrs m) i = some j ∧ blank j) ↔ (∀ l ∈ ltrs m, fitsB l i = true) ∧ blank (clrs (ltrs m) i) := by
  constructor
  · rintro ⟨j, hj, hb⟩
    have hf := chkL_fits _ i j hj (ltrs_nodup m hm).1 (ltrs_ok m hm)
    have := chkL_some _ i (ltrs_nodup m hm).1 (ltrs_ok m hm) hf
    rw [hj] at this
    obtain rfl := Option.some.inj this
    exact ⟨hf, hb⟩
  · rintro ⟨hf, hb⟩
    exact ⟨_, chkL_some _ i (ltrs_nodup m hm).1 (ltrs_ok m hm) hf, hb⟩

theorem fb1 (i : Ins) : fitsB 65 i = true ↔ 0 ≤ i.a ∧ i.a ≤ 7 := by simp [fitsB, fld, lowL, highL, Ins.get]
theorem fb2 (i : Ins) : fitsB 66 i = true ↔ 0 ≤ i.b ∧ i.b ≤ 7 := by simp [fitsB, fld, lowL, highL, Ins.get]
theorem fb3 (i : Ins) : fitsB 67 i = true ↔ 0 ≤ i.c ∧ i.c ≤ 7 := by simp [fitsB, fld, lowL, highL, Ins.get]
theorem fb4 (i : Ins) : fitsB 69 i = true ↔ 1 ≤ i.n ∧ i.n ≤ 16 := by simp [fitsB, fld, lowL, highL, Ins.get]
theorem fb5 (i : Ins) : fitsB 80 i = true ↔ 1 ≤ i.n ∧ i.n ≤ 60 := by simp [fitsB, fld, lowL, highL, Ins.get]
theorem fb6 (i : Ins) : fitsB 83 i = true ↔ (i.s.size : Int) ≤ 64 := by simp [fitsB, fld]
theorem rb_t (n : Int) : regB n true = true ↔ 0 ≤ n ∧ n ≤ 7 := by simp [regB]; omega
theorem rb_f (n : Int) : regB n false = true ↔ n = 0 := by simp [regB]
theorem nb_t (n mx : Int) : numB n mx true = true ↔ 1 ≤ n ∧ n ≤ mx := by simp [numB]
theorem nb_f (n mx : Int) : numB n mx false = true ↔ n = 0 := by simp [numB]
theorem tb_t (s : ByteArray) : txtB s true = true ↔ (s.size : Int) ≤ 64 := by simp [txtB]
theorem tb_f (s : ByteArray) : txtB s false = true ↔ s = ⟨#[]⟩ := by
  simp only [txtB, beq_iff_eq]
  exact ⟨ba_nil, fun e => (toList_nil_iff_emptyBytes s).2 e⟩

theorem lit_iff (m : Nat) (h1 : 1 ≤ m) (hm : m ≤ 15) (a b c n : Int) (s : ByteArray) : vchkB ⟨m, a, b, c, n, s⟩ = true ↔ (∀ l ∈ ltrs m, fitsB l ⟨m, a, b, c, n, s⟩ = true) ∧ blank (clrs (ltrs m) ⟨m, a, b, c, n, s⟩) := by
  unfold vchkB
  simp only [Bool.and_eq_true]
  obtain rfl | rfl | rfl | rfl | rfl | rfl | rfl | rfl | rfl | rfl | rfl | rfl | rfl | rfl | rfl : m = 1 ∨ m = 2 ∨ m = 3 ∨ m = 4 ∨ m = 5 ∨ m = 6 ∨ m = 7 ∨ m = 8 ∨ m = 9 ∨ m = 10 ∨ m = 11 ∨ m = 12 ∨ m = 13 ∨ m = 14 ∨ m = 15 := by omega
  · rw [show ltrs 1 = [65, 83] from by decide]
    rw [show blank (clrs [65, 83] ⟨((1 : Nat) : Int), a, b, c, n, s⟩) = ((0 : Int) = 0 ∧ b = 0 ∧ c = 0 ∧ n = 0 ∧ (⟨#[]⟩ : ByteArray) = ⟨#[]⟩) from rfl]
    rw [show hasT (({ op := ((1 : Nat) : Int), a := a, b := b, c := c, n := n, s := s } : Ins).op) = (true, false, false, false, true) from rfl]
    simp only [nb_f, rb_f, rb_t, tb_t, List.forall_mem_cons, List.forall_mem_nil, fb1, fb6]
    constructor
    · rintro ⟨h0, h1, h2, h3, h4⟩
      exact ⟨⟨h0, h4, fun _ h => by cases h⟩, trivial, h1, h2, h3, trivial⟩
    · rintro ⟨⟨g0, g4, _⟩, h0, h1, h2, h3, h4⟩
      exact ⟨g0, h1, h2, h3, g4⟩
  · rw [show ltrs 2 = [65, 66] from by decide]
    rw [show blank (clrs [65, 66] ⟨((2 : Nat) : Int), a, b, c, n, s⟩) = ((0 : Int) = 0 ∧ (0 : Int) = 0 ∧ c = 0 ∧ n = 0 ∧ s = ⟨#[]⟩) from rfl]
    rw [show hasT (({ op := ((2 : Nat) : Int), a := a, b := b, c := c, n := n, s := s } : Ins).op) = (true, true, false, false, false) from rfl]
    simp only [nb_f, rb_f, rb_t, tb_f, List.forall_mem_cons, List.forall_mem_nil, fb1, fb2]
    constructor
    · rintro ⟨h0, h1, h2, h3, h4⟩
      exact ⟨⟨h0, h1, fun _ h => by cases h⟩, trivial, trivial, h2, h3, h4⟩
    · rintro ⟨⟨g0, g1, _⟩, h0, h1, h2, h3, h4⟩
      exact ⟨g0, g1, h2, h3, h4⟩
  · rw [show ltrs 3 = [65, 66, 67] from by decide]
    rw [show blank (clrs [65, 66, 67] ⟨((3 : Nat) : Int), a, b, c, n, s⟩) = ((0 : Int) = 0 ∧ (0 : Int) = 0 ∧ (0 : Int) = 0 ∧ n = 0 ∧ s = ⟨#[]⟩) from rfl]
    rw [show hasT (({ op := ((3 : Nat) : Int), a := a, b := b, c := c, n := n, s := s } : Ins).op) = (true, true, true, false, false) from rfl]
    simp only [nb_f, rb_t, tb_f, List.forall_mem_cons, List.forall_mem_nil, fb1, fb2, fb3]
    constructor
    · rintro ⟨h0, h1, h2, h3, h4⟩
      exact ⟨⟨h0, h1, h2, fun _ h => by cases h⟩, trivial, trivial, trivial, h3, h4⟩
    · rintro ⟨⟨g0, g1, g2, _⟩, h0, h1, h2, h3, h4⟩
      exact ⟨g0, g1, g2, h3, h4⟩
  · rw [show ltrs 4 = [65, 66] from by decide]
    rw [show blank (clrs [65, 66] ⟨((4 : Nat) : Int), a, b, c, n, s⟩) = ((0 : Int) = 0 ∧ (0 : Int) = 0 ∧ c = 0 ∧ n = 0 ∧ s = ⟨#[]⟩) from rfl]
    rw [show hasT (({ op := ((4 : Nat) : Int), a := a, b := b, c := c, n := n, s := s } : Ins).op) = (true, true, false, false, false) from rfl]
    simp only [nb_f, rb_f, rb_t, tb_f, List.forall_mem_cons, List.forall_mem_nil, fb1, fb2]
    constructor
    · rintro ⟨h0, h1, h2, h3, h4⟩
      exact ⟨⟨h0, h1, fun _ h => by cases h⟩, trivial, trivial, h2, h3, h4⟩
    · rintro ⟨⟨g0, g1, _⟩, h0, h1, h2, h3, h4⟩
      exact ⟨g0, g1, h2, h3, h4⟩
  · rw [show ltrs 5 = [65] from by decide]
    rw [show blank (clrs [65] ⟨((5 : Nat) : Int), a, b, c, n, s⟩) = ((0 : Int) = 0 ∧ b = 0 ∧ c = 0 ∧ n = 0 ∧ s = ⟨#[]⟩) from rfl]
    rw [show hasT (({ op := ((5 : Nat) : Int), a := a, b := b, c := c, n := n, s := s } : Ins).op) = (true, false, false, false, false) from rfl]
    simp only [nb_f, rb_f, rb_t, tb_f, List.forall_mem_cons, List.forall_mem_nil, fb1]
    constructor
    · rintro ⟨h0, h1, h2, h3, h4⟩
      exact ⟨⟨h0, fun _ h => by cases h⟩, trivial, h1, h2, h3, h4⟩
    · rintro ⟨⟨g0, _⟩, h0, h1, h2, h3, h4⟩
      exact ⟨g0, h1, h2, h3, h4⟩
  · rw [show ltrs 6 = [65, 66, 67, 69] from by decide]
    rw [show blank (clrs [65, 66, 67, 69] ⟨((6 : Nat) : Int), a, b, c, n, s⟩) = ((0 : Int) = 0 ∧ (0 : Int) = 0 ∧ (0 : Int) = 0 ∧ (0 : Int) = 0 ∧ s = ⟨#[]⟩) from rfl]
    rw [show hasT (({ op := ((6 : Nat) : Int), a := a, b := b, c := c, n := n, s := s } : Ins).op) = (true, true, true, true, false) from rfl]
    simp only [nb_t, rb_t, tb_f, List.forall_mem_cons, List.forall_mem_nil, fb1, fb2, fb3, fb4]
    rw [show mostZ ((6 : Nat) : Int) = 16 from rfl]
    constructor
    · rintro ⟨h0, h1, h2, h3, h4⟩
      exact ⟨⟨h0, h1, h2, h3, fun _ h => by cases h⟩, trivial, trivial, trivial, trivial, h4⟩
    · rintro ⟨⟨g0, g1, g2, g3, _⟩, h0, h1, h2, h3, h4⟩
      exact ⟨g0, g1, g2, g3, h4⟩
  · rw [show ltrs 7 = [65, 66, 67] from by decide]
    rw [show blank (clrs [65, 66, 67] ⟨((7 : Nat) : Int), a, b, c, n, s⟩) = ((0 : Int) = 0 ∧ (0 : Int) = 0 ∧ (0 : Int) = 0 ∧ n = 0 ∧ s = ⟨#[]⟩) from rfl]
    rw [show hasT (({ op := ((7 : Nat) : Int), a := a, b := b, c := c, n := n, s := s } : Ins).op) = (true, true, true, false, false) from rfl]
    simp only [nb_f, rb_t, tb_f, List.forall_mem_cons, List.forall_mem_nil, fb1, fb2, fb3]
    constructor
    · rintro ⟨h0, h1, h2, h3, h4⟩
      exact ⟨⟨h0, h1, h2, fun _ h => by cases h⟩, trivial, trivial, trivial, h3, h4⟩
    · rintro ⟨⟨g0, g1, g2, _⟩, h0, h1, h2, h3, h4⟩
      exact ⟨g0, g1, g2, h3, h4⟩
  · rw [show ltrs 8 = [65, 66, 67] from by decide]
    rw [show blank (clrs [65, 66, 67] ⟨((8 : Nat) : Int), a, b, c, n, s⟩) = ((0 : Int) = 0 ∧ (0 : Int) = 0 ∧ (0 : Int) = 0 ∧ n = 0 ∧ s = ⟨#[]⟩) from rfl]
    rw [show hasT (({ op := ((8 : Nat) : Int), a := a, b := b, c := c, n := n, s := s } : Ins).op) = (true, true, true, false, false) from rfl]
    simp only [nb_f, rb_t, tb_f, List.forall_mem_cons, List.forall_mem_nil, fb1, fb2, fb3]
    constructor
    · rintro ⟨h0, h1, h2, h3, h4⟩
      exact ⟨⟨h0, h1, h2, fun _ h => by cases h⟩, trivial, trivial, trivial, h3, h4⟩
    · rintro ⟨⟨g0, g1, g2, _⟩, h0, h1, h2, h3, h4⟩
      exact ⟨g0, g1, g2, h3, h4⟩
  · rw [show ltrs 9 = [65, 66, 67] from by decide]
    rw [show blank (clrs [65, 66, 67] ⟨((9 : Nat) : Int), a, b, c, n, s⟩) = ((0 : Int) = 0 ∧ (0 : Int) = 0 ∧ (0 : Int) = 0 ∧ n = 0 ∧ s = ⟨#[]⟩) from rfl]
    rw [show hasT (({ op := ((9 : Nat) : Int), a := a, b := b, c := c, n := n, s := s } : Ins).op) = (true, true, true, false, false) from rfl]
    simp only [nb_f, rb_t, tb_f, List.forall_mem_cons, List.forall_mem_nil, fb1, fb2, fb3]
    constructor
    · rintro ⟨h0, h1, h2, h3, h4⟩
      exact ⟨⟨h0, h1, h2, fun _ h => by cases h⟩, trivial, trivial, trivial, h3, h4⟩
    · rintro ⟨⟨g0, g1, g2, _⟩, h0, h1, h2, h3, h4⟩
      exact ⟨g0, g1, g2, h3, h4⟩
  · rw [show ltrs 10 = [65, 66, 67] from by decide]
    rw [show blank (clrs [65, 66, 67] ⟨((10 : Nat) : Int), a, b, c, n, s⟩) = ((0 : Int) = 0 ∧ (0 : Int) = 0 ∧ (0 : Int) = 0 ∧ n = 0 ∧ s = ⟨#[]⟩) from rfl]
    rw [show hasT (({ op := ((10 : Nat) : Int), a := a, b := b, c := c, n := n, s := s } : Ins).op) = (true, true, true, false, false) from rfl]
    simp only [nb_f, rb_t, tb_f, List.forall_mem_cons, List.forall_mem_nil, fb1, fb2, fb3]
    constructor
    · rintro ⟨h0, h1, h2, h3, h4⟩
      exact ⟨⟨h0, h1, h2, fun _ h => by cases h⟩, trivial, trivial, trivial, h3, h4⟩
    · rintro ⟨⟨g0, g1, g2, _⟩, h0, h1, h2, h3, h4⟩
      exact ⟨g0, g1, g2, h3, h4⟩
  · rw [show ltrs 11 = [65, 66, 67] from by decide]
    rw [show blank (clrs [65, 66, 67] ⟨((11 : Nat) : Int), a, b, c, n, s⟩) = ((0 : Int) = 0 ∧ (0 : Int) = 0 ∧ (0 : Int) = 0 ∧ n = 0 ∧ s = ⟨#[]⟩) from rfl]
    rw [show hasT (({ op := ((11 : Nat) : Int), a := a, b := b, c := c, n := n, s := s } : Ins).op) = (true, true, true, false, false) from rfl]
    simp only [nb_f, rb_t, tb_f, List.forall_mem_cons, List.forall_mem_nil, fb1, fb2, fb3]
    constructor
    · rintro ⟨h0, h1, h2, h3, h4⟩
      exact ⟨⟨h0, h1, h2, fun _ h => by cases h⟩, trivial, trivial, trivial, h3, h4⟩
    · rintro ⟨⟨g0, g1, g2, _⟩, h0, h1, h2, h3, h4⟩
      exact ⟨g0, g1, g2, h3, h4⟩
  · rw [show ltrs 12 = [65, 80] from by decide]
    rw [show blank (clrs [65, 80] ⟨((12 : Nat) : Int), a, b, c, n, s⟩) = ((0 : Int) = 0 ∧ b = 0 ∧ c = 0 ∧ (0 : Int) = 0 ∧ s = ⟨#[]⟩) from rfl]
    rw [show hasT (({ op := ((12 : Nat) : Int), a := a, b := b, c := c, n := n, s := s } : Ins).op) = (true, false, false, true, false) from rfl]
    simp only [nb_t, rb_f, rb_t, tb_f, List.forall_mem_cons, List.forall_mem_nil, fb1, fb5]
    rw [show mostZ ((12 : Nat) : Int) = 60 from rfl]
    constructor
    · rintro ⟨h0, h1, h2, h3, h4⟩
      exact ⟨⟨h0, h3, fun _ h => by cases h⟩, trivial, h1, h2, trivial, h4⟩
    · rintro ⟨⟨g0, g3, _⟩, h0, h1, h2, h3, h4⟩
      exact ⟨g0, h1, h2, g3, h4⟩
  · rw [show ltrs 13 = [80] from by decide]
    rw [show blank (clrs [80] ⟨((13 : Nat) : Int), a, b, c, n, s⟩) = (a = 0 ∧ b = 0 ∧ c = 0 ∧ (0 : Int) = 0 ∧ s = ⟨#[]⟩) from rfl]
    rw [show hasT (({ op := ((13 : Nat) : Int), a := a, b := b, c := c, n := n, s := s } : Ins).op) = (false, false, false, true, false) from rfl]
    simp only [nb_t, rb_f, tb_f, List.forall_mem_cons, List.forall_mem_nil, fb5]
    rw [show mostZ ((13 : Nat) : Int) = 60 from rfl]
    constructor
    · rintro ⟨h0, h1, h2, h3, h4⟩
      exact ⟨⟨h3, fun _ h => by cases h⟩, h0, h1, h2, trivial, h4⟩
    · rintro ⟨⟨g3, _⟩, h0, h1, h2, h3, h4⟩
      exact ⟨h0, h1, h2, g3, h4⟩
  · rw [show ltrs 14 = [65] from by decide]
    rw [show blank (clrs [65] ⟨((14 : Nat) : Int), a, b, c, n, s⟩) = ((0 : Int) = 0 ∧ b = 0 ∧ c = 0 ∧ n = 0 ∧ s = ⟨#[]⟩) from rfl]
    rw [show hasT (({ op := ((14 : Nat) : Int), a := a, b := b, c := c, n := n, s := s } : Ins).op) = (true, false, false, false, false) from rfl]
    simp only [nb_f, rb_f, rb_t, tb_f, List.forall_mem_cons, List.forall_mem_nil, fb1]
    constructor
    · rintro ⟨h0, h1, h2, h3, h4⟩
      exact ⟨⟨h0, fun _ h => by cases h⟩, trivial, h1, h2, h3, h4⟩
    · rintro ⟨⟨g0, _⟩, h0, h1, h2, h3, h4⟩
      exact ⟨g0, h1, h2, h3, h4⟩
  · rw [show ltrs 15 = [] from by decide]
    rw [show blank (clrs [] ⟨((15 : Nat) : Int), a, b, c, n, s⟩) = (a = 0 ∧ b = 0 ∧ c = 0 ∧ n = 0 ∧ s = ⟨#[]⟩) from rfl]
    rw [show hasT (({ op := ((15 : Nat) : Int), a := a, b := b, c := c, n := n, s := s } : Ins).op) = (false, false, false, false, false) from rfl]
    simp only [nb_f, rb_f, tb_f, List.forall_mem_cons, List.forall_mem_nil]
    constructor
    · rintro ⟨h0, h1, h2, h3, h4⟩
      exact ⟨(fun _ h => by cases h), h0, h1, h2, h3, h4⟩
    · rintro ⟨_, h0, h1, h2, h3, h4⟩
      exact ⟨h0, h1, h2, h3, h4⟩

theorem vchk_eq (i : Ins) : vchk i = checkE i := by
  unfold vchk
  by_cases h1 : i.op < 1
  · rw [if_pos (by simp [h1]), checkE_out i (by omega)]
  by_cases h2 : 15 < i.op
  · rw [if_neg (by simp [h1]), if_pos (by simp [h2]), checkE_out i (by omega)]
  rw [if_neg (by simp [h1]), if_neg (by simp [h2])]
  obtain ⟨op, a, b, c, n, s⟩ := i
  simp only at h1 h2
  obtain ⟨m, rfl⟩ : ∃ m : Nat, op = m := ⟨op.toNat, by omega⟩
  have hl := lit_iff m (by omega) (by omega) a b c n s
  rw [← chkL_iff m (by omega)] at hl
  by_cases hv : vchkB ⟨m, a, b, c, n, s⟩ = true
  · obtain ⟨j, hj, hb⟩ := hl.1 hv
    rw [if_pos hv, checkE_ok _ j (by show (1 : Int) ≤ m; omega) (by show (m : Int) ≤ 15; omega) (by show chkL (ltrs (m : Int).toNat) _ = _; rw [Int.toNat_natCast]; exact hj) hb]
  · rw [if_neg hv]
    unfold checkE
    rw [if_neg]
    rintro ⟨_, _, j, hj, hb⟩
    exact hv (hl.2 ⟨j, by rw [← hj]; show _ = chkL (ltrs (m : Int).toNat) _; rw [Int.toNat_natCast], hb⟩)

end Go.Proofs.Ytpieaenfnajlfaa
