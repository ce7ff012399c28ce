/- Code: the document's Has, Most, reg, Check. -/
import Derived.Test.YtpieaenfnajlfaaCp
import Derived.Deep.QuietTactic
namespace Go.Proofs.Ytpieaenfnajlfaa
open Go.RowKit Go.IntWalk Go.Lib
set_option linter.unusedSimpArgs false
set_option linter.unusedVariables false

/-- What an Op has: registers A, B, C, a number, a text. -/
def hasT (op : Int) : Bool × Bool × Bool × Bool × Bool :=
  if op = 1 then (true, false, false, false, true) else
  if op = 2 ∨ op = 4 then (true, true, false, false, false) else
  if op = 3 ∨ op = 7 ∨ op = 8 ∨ op = 9 ∨ op = 10 ∨ op = 11 then (true, true, true, false, false) else
  if op = 5 ∨ op = 14 then (true, false, false, false, false) else
  if op = 6 then (true, true, true, true, false) else
  if op = 12 then (true, false, false, true, false) else
  if op = 13 then (false, false, false, true, false) else (false, false, false, false, false)
def hasV (t : Bool × Bool × Bool × Bool × Bool) : Value := .tuple #[.bool t.1, .bool t.2.1, .bool t.2.2.1, .bool t.2.2.2.1, .bool t.2.2.2.2]

set_option maxRecDepth 100000 in
theorem vhas_any (op : Int) (w : World) : Calls Try.prog 31 #[.int .i64 op] w fun e w' => e = .returned (hasV (hasT op)) ∧ w' = w := by
  by_cases h1 : op = 1
  · subst h1
    rw [show hasT 1 = (true, false, false, false, true) from rfl]
    go_enter Try.func31, Try.ntmps31
    go_wp2_with fail
    exact bodyPost_ret (v := hasV (true, false, false, false, true)) (by simp [results, Try.results31, go_sem, hasV]) rfl ⟨rfl, rfl⟩
  by_cases h2 : op = 2
  · subst h2
    clear h1
    rw [show hasT 2 = (true, true, false, false, false) from rfl]
    go_enter Try.func31, Try.ntmps31
    go_wp2_with fail
    exact bodyPost_ret (v := hasV (true, true, false, false, false)) (by simp [results, Try.results31, go_sem, hasV]) rfl ⟨rfl, rfl⟩
  by_cases h3 : op = 3
  · subst h3
    clear h1 h2
    rw [show hasT 3 = (true, true, true, false, false) from rfl]
    go_enter Try.func31, Try.ntmps31
    go_wp2_with fail
    exact bodyPost_ret (v := hasV (true, true, true, false, false)) (by simp [results, Try.results31, go_sem, hasV]) rfl ⟨rfl, rfl⟩
  by_cases h4 : op = 4
  · subst h4
    clear h1 h2 h3
    rw [show hasT 4 = (true, true, false, false, false) from rfl]
    go_enter Try.func31, Try.ntmps31
    go_wp2_with fail
    exact bodyPost_ret (v := hasV (true, true, false, false, false)) (by simp [results, Try.results31, go_sem, hasV]) rfl ⟨rfl, rfl⟩
  by_cases h5 : op = 5
  · subst h5
    clear h1 h2 h3 h4
    rw [show hasT 5 = (true, false, false, false, false) from rfl]
    go_enter Try.func31, Try.ntmps31
    go_wp2_with fail
    exact bodyPost_ret (v := hasV (true, false, false, false, false)) (by simp [results, Try.results31, go_sem, hasV]) rfl ⟨rfl, rfl⟩
  by_cases h6 : op = 6
  · subst h6
    clear h1 h2 h3 h4 h5
    rw [show hasT 6 = (true, true, true, true, false) from rfl]
    go_enter Try.func31, Try.ntmps31
    go_wp2_with fail
    exact bodyPost_ret (v := hasV (true, true, true, true, false)) (by simp [results, Try.results31, go_sem, hasV]) rfl ⟨rfl, rfl⟩
  by_cases h7 : op = 7
  · subst h7
    clear h1 h2 h3 h4 h5 h6
    rw [show hasT 7 = (true, true, true, false, false) from rfl]
    go_enter Try.func31, Try.ntmps31
    go_wp2_with fail
    exact bodyPost_ret (v := hasV (true, true, true, false, false)) (by simp [results, Try.results31, go_sem, hasV]) rfl ⟨rfl, rfl⟩
  by_cases h8 : op = 8
  · subst h8
    clear h1 h2 h3 h4 h5 h6 h7
    rw [show hasT 8 = (true, true, true, false, false) from rfl]
    go_enter Try.func31, Try.ntmps31
    go_wp2_with fail
    exact bodyPost_ret (v := hasV (true, true, true, false, false)) (by simp [results, Try.results31, go_sem, hasV]) rfl ⟨rfl, rfl⟩
  by_cases h9 : op = 9
  · subst h9
    clear h1 h2 h3 h4 h5 h6 h7 h8
    rw [show hasT 9 = (true, true, true, false, false) from rfl]
    go_enter Try.func31, Try.ntmps31
    go_wp2_with fail
    exact bodyPost_ret (v := hasV (true, true, true, false, false)) (by simp [results, Try.results31, go_sem, hasV]) rfl ⟨rfl, rfl⟩
  by_cases h10 : op = 10
  · subst h10
    clear h1 h2 h3 h4 h5 h6 h7 h8 h9
    rw [show hasT 10 = (true, true, true, false, false) from rfl]
    go_enter Try.func31, Try.ntmps31
    go_wp2_with fail
    exact bodyPost_ret (v := hasV (true, true, true, false, false)) (by simp [results, Try.results31, go_sem, hasV]) rfl ⟨rfl, rfl⟩
  by_cases h11 : op = 11
  · subst h11
    clear h1 h2 h3 h4 h5 h6 h7 h8 h9 h10
    rw [show hasT 11 = (true, true, true, false, false) from rfl]
    go_enter Try.func31, Try.ntmps31
    go_wp2_with fail
    exact bodyPost_ret (v := hasV (true, true, true, false, false)) (by simp [results, Try.results31, go_sem, hasV]) rfl ⟨rfl, rfl⟩
  by_cases h12 : op = 12
  · subst h12
    clear h1 h2 h3 h4 h5 h6 h7 h8 h9 h10 h11
    rw [show hasT 12 = (true, false, false, true, false) from rfl]
    go_enter Try.func31, Try.ntmps31
    go_wp2_with fail
    exact bodyPost_ret (v := hasV (true, false, false, true, false)) (by simp [results, Try.results31, go_sem, hasV]) rfl ⟨rfl, rfl⟩
  by_cases h13 : op = 13
  · subst h13
    clear h1 h2 h3 h4 h5 h6 h7 h8 h9 h10 h11 h12
    rw [show hasT 13 = (false, false, false, true, false) from rfl]
    go_enter Try.func31, Try.ntmps31
    go_wp2_with fail
    exact bodyPost_ret (v := hasV (false, false, false, true, false)) (by simp [results, Try.results31, go_sem, hasV]) rfl ⟨rfl, rfl⟩
  by_cases h14 : op = 14
  · subst h14
    clear h1 h2 h3 h4 h5 h6 h7 h8 h9 h10 h11 h12 h13
    rw [show hasT 14 = (true, false, false, false, false) from rfl]
    go_enter Try.func31, Try.ntmps31
    go_wp2_with fail
    exact bodyPost_ret (v := hasV (true, false, false, false, false)) (by simp [results, Try.results31, go_sem, hasV]) rfl ⟨rfl, rfl⟩
  · rw [show hasT op = (false, false, false, false, false) by simp [hasT, h1, h2, h3, h4, h5, h6, h7, h8, h9, h10, h11, h12, h13, h14]]
    have e1 : (op == 1) = false := by simpa using h1
    have e2 : (op == 2) = false := by simpa using h2
    have e3 : (op == 3) = false := by simpa using h3
    have e4 : (op == 4) = false := by simpa using h4
    have e5 : (op == 5) = false := by simpa using h5
    have e6 : (op == 6) = false := by simpa using h6
    have e7 : (op == 7) = false := by simpa using h7
    have e8 : (op == 8) = false := by simpa using h8
    have e9 : (op == 9) = false := by simpa using h9
    have e10 : (op == 10) = false := by simpa using h10
    have e11 : (op == 11) = false := by simpa using h11
    have e12 : (op == 12) = false := by simpa using h12
    have e13 : (op == 13) = false := by simpa using h13
    have e14 : (op == 14) = false := by simpa using h14
    clear h1 h2 h3 h4 h5 h6 h7 h8 h9 h10 h11 h12 h13 h14
    go_enter Try.func31, Try.ntmps31
    go_wp2_with fail
    exact bodyPost_ret (v := hasV (false, false, false, false, false)) (by simp [results, Try.results31, go_sem, hasV]) rfl ⟨rfl, rfl⟩

def mostZ (op : Int) : Int := if op = 6 then 16 else 60
theorem vmost_any (op : Int) (w : World) : Calls Try.prog 37 #[.int .i64 op] w fun e w' => e = .returned (.int .i64 (mostZ op)) ∧ w' = w := by
  by_cases h : op = 6
  · subst h
    go_enter Try.func37, Try.ntmps37
    go_wp2_with fail
    go_ret
    exact ⟨rfl, rfl⟩
  · rw [show mostZ op = 60 from if_neg h]
    have e : (op == 6) = false := by simpa using h
    clear h
    go_enter Try.func37, Try.ntmps37
    go_wp2_with fail
    go_ret
    exact ⟨rfl, rfl⟩

def regB (n : Int) : Bool → Bool
  | true => decide (0 ≤ n) && decide (n < 8)
  | false => n == 0
theorem vreg_any (n : Int) (h : Bool) (w : World) : Calls Try.prog 38 #[.int .i64 n, .bool h] w fun e w' => e = .returned (.bool (regB n h)) ∧ w' = w := by
  cases h
  · rw [show regB n false = (n == 0) from rfl]
    go_enter Try.func38, Try.ntmps38
    go_wp2_with fail
    go_ret
    exact ⟨rfl, rfl⟩
  · rw [show regB n true = (decide (0 ≤ n) && decide (n < 8)) from rfl]
    by_cases h0 : 0 ≤ n
    · have e0 : decide (0 ≤ n) = true := by simp [h0]
      rw [e0, Bool.true_and]
      by_cases h8 : n < 8
      · have e8 : decide (n < 8) = true := by simp [h8]
        rw [e8]
        go_enter Try.func38, Try.ntmps38
        go_wp2_with fail
        go_ret
        exact ⟨rfl, rfl⟩
      · have e8 : decide (n < 8) = false := by simp [h8]
        rw [e8]
        go_enter Try.func38, Try.ntmps38
        go_wp2_with fail
        go_ret
        exact ⟨rfl, rfl⟩
    · have e0 : decide (0 ≤ n) = false := by simp [h0]
      rw [e0, Bool.false_and]
      go_enter Try.func38, Try.ntmps38
      go_wp2_with fail
      go_ret
      exact ⟨rfl, rfl⟩

def numB (n mx : Int) : Bool → Bool
  | true => decide (1 ≤ n) && decide (n ≤ mx)
  | false => n == 0
def txtB (s : ByteArray) : Bool → Bool
  | true => decide ((s.size : Int) ≤ 64)
  | false => s.toList == []
def vchkB (i : Ins) : Bool := regB i.a (hasT i.op).1 && (regB i.b (hasT i.op).2.1 && (regB i.c (hasT i.op).2.2.1 && (numB i.n (mostZ i.op) (hasT i.op).2.2.2.1 && txtB i.s (hasT i.op).2.2.2.2)))
def vchk (i : Ins) : Int := if decide (i.op < 1) then 2 else if decide (15 < i.op) then 2 else if vchkB i then 0 else 2

end Go.Proofs.Ytpieaenfnajlfaa
