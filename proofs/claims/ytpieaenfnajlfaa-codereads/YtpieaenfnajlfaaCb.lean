/- Code: whether a thing fits; cleared, written, read. -/
import Derived.Test.YtpieaenfnajlfaaCa
namespace Go.Proofs.Ytpieaenfnajlfaa
open Go.RowKit Go.IntWalk
set_option linter.unusedSimpArgs false
set_option linter.unusedVariables false

theorem fits_num (p f : Nat) (lo hi v : Int) (w : World) (hc : w.cell? ⟨p, f, none⟩ = some (.int .i64 v)) (hpl : p < w.heap.size) :
    Calls Try.prog 35 #[numV p f lo hi] w fun e w' => e = .returned (.bool (decide (lo ≤ v) && decide (v ≤ hi))) ∧ Fr (fun _ => False) w w' := by
  have hc1 : ∀ o, (w.alloc o).cell? ⟨p, f, none⟩ = some (.int .i64 v) := fun o => cellA hc o
  have hne : ¬ w.heap.size = p := by omega
  have hne2 : ¬ p = w.heap.size := by omega
  unfold numV
  by_cases h1 : lo ≤ v
  · have hd : decide (lo ≤ v) = true := by simp [h1]
    go_enter Try.func35, Try.ntmps35
    go_wp2_with fail
    go_quiet (fail)
    go_wp2_with fail
    go_ret
    exact ⟨by simp [h1], ((Fr.refl _ _).alloc _).drewN _⟩
  · have hd : decide (lo ≤ v) = false := by simp [h1]
    go_enter Try.func35, Try.ntmps35
    go_wp2_with fail
    go_quiet (fail)
    go_wp2_with fail
    go_ret
    exact ⟨by rw [hd]; rfl, ((Fr.refl _ _).alloc _).drewN _⟩

theorem fits_text (p : Nat) (x : ByteArray) (w : World) (hc : w.cell? ⟨p, 5, none⟩ = some (.string x)) (hpl : p < w.heap.size) :
    Calls Try.prog 35 #[textV p] w fun e w' => e = .returned (.bool (decide ((x.size : Int) ≤ 64))) ∧ Fr (fun _ => False) w w' := by
  have hc1 : ∀ o, (w.alloc o).cell? ⟨p, 5, none⟩ = some (.string x) := fun o => cellA hc o
  unfold textV
  go_enter Try.func35, Try.ntmps35
  go_wp2_with fail
  go_ret
  exact ⟨rfl, (Fr.refl _ _).alloc _⟩

theorem clear_num (p f : Nat) (lo hi v : Int) (w : World) (hc : w.cell? ⟨p, f, none⟩ = some (.int .i64 v)) (hf : w.frozen? ⟨p, f, none⟩ = false) (hpl : p < w.heap.size) (i : Ins) (hI : InsAt w p i) (h1 : 1 ≤ f) (h4 : f ≤ 4) :
    Calls Try.prog 36 #[numV p f lo hi] w fun e w' => e = .returned (.tuple #[]) ∧ InsAt w' p (i.put f 0) ∧ Fr (fun k => k = p) w w' := by
  have hc1 : ∀ o, (w.alloc o).cell? ⟨p, f, none⟩ = some (.int .i64 v) := fun o => cellA hc o
  have hf1 : ∀ o, (w.alloc o).frozen? ⟨p, f, none⟩ = false := fun o => (World.frozen?_alloc_old _ _ _ (by simp; omega)).trans hf
  have HI := hideIt hI
  clear hI
  unfold numV
  go_enter Try.func36, Try.ntmps36
  go_wp2_with fail
  go_end0
  exact ⟨rfl, (HI.out.putN f h1 h4 0).fr ((Fr.refl (fun _ => False) _).alloc _) (fun e => e), ((Fr.refl (fun k => k = p) _).setCell (p := ⟨p, f, none⟩) (fun _ => rfl) _).alloc _⟩

theorem clear_text (p : Nat) (x : ByteArray) (w : World) (hc : w.cell? ⟨p, 5, none⟩ = some (.string x)) (hf : w.frozen? ⟨p, 5, none⟩ = false) (hpl : p < w.heap.size) (i : Ins) (hI : InsAt w p i) :
    Calls Try.prog 36 #[textV p] w fun e w' => e = .returned (.tuple #[]) ∧ InsAt w' p { i with s := ⟨#[]⟩ } ∧ Fr (fun k => k = p) w w' := by
  have hc1 : ∀ o, (w.alloc o).cell? ⟨p, 5, none⟩ = some (.string x) := fun o => cellA hc o
  have hf1 : ∀ o, (w.alloc o).frozen? ⟨p, 5, none⟩ = false := fun o => (World.frozen?_alloc_old _ _ _ (by simp; omega)).trans hf
  have HI := hideIt hI
  clear hI
  unfold textV
  go_enter Try.func36, Try.ntmps36
  go_wp2_with fail
  refine bodyPost_ret (v := .tuple #[]) (by simp [results, Try.results36, go_sem]) rfl ?_
  exact ⟨rfl, (HI.out.putS _).fr ((Fr.refl (fun _ => False) _).alloc _) (fun e => e), ((Fr.refl (fun k => k = p) _).setCell (p := ⟨p, 5, none⟩) (fun _ => rfl) _).alloc _⟩

/-- The things of a kind. -/
def kindT (n : Nat) : ByteArray := if n = 1 then ⟨#[65, 83]⟩ else if n = 2 then ⟨#[65, 66]⟩ else if n = 3 then ⟨#[65, 66, 67]⟩ else if n = 4 then ⟨#[65, 66]⟩ else if n = 5 then ⟨#[65]⟩ else if n = 6 then ⟨#[65, 66, 67, 69]⟩ else if n = 7 then ⟨#[65, 66, 67]⟩ else if n = 8 then ⟨#[65, 66, 67]⟩ else if n = 9 then ⟨#[65, 66, 67]⟩ else if n = 10 then ⟨#[65, 66, 67]⟩ else if n = 11 then ⟨#[65, 66, 67]⟩ else if n = 12 then ⟨#[65, 80]⟩ else if n = 13 then ⟨#[80]⟩ else if n = 14 then ⟨#[65]⟩ else ⟨#[]⟩
def kindsA : Array Value := #[.string ⟨#[]⟩, .string ⟨#[65, 83]⟩, .string ⟨#[65, 66]⟩, .string ⟨#[65, 66, 67]⟩, .string ⟨#[65, 66]⟩, .string ⟨#[65]⟩, .string ⟨#[65, 66, 67, 69]⟩, .string ⟨#[65, 66, 67]⟩, .string ⟨#[65, 66, 67]⟩, .string ⟨#[65, 66, 67]⟩, .string ⟨#[65, 66, 67]⟩, .string ⟨#[65, 66, 67]⟩, .string ⟨#[65, 80]⟩, .string ⟨#[80]⟩, .string ⟨#[65]⟩, .string ⟨#[]⟩]

theorem kindsA_get (n : Nat) (hn : n ≤ 15) : kindsA[n]? = some (.string (kindT n)) := by
  obtain rfl | rfl | rfl | rfl | rfl | rfl | rfl | rfl | rfl | rfl | rfl | rfl | rfl | rfl | rfl | rfl : n = 0 ∨ n = 1 ∨ n = 2 ∨ n = 3 ∨ n = 4 ∨ n = 5 ∨ n = 6 ∨ n = 7 ∨ n = 8 ∨ n = 9 ∨ n = 10 ∨ n = 11 ∨ n = 12 ∨ n = 13 ∨ n = 14 ∨ n = 15 := by omega
  all_goals rfl

theorem idx_run (n : Nat) (hn : n ≤ 15) (w0 : World) : (Instr.index 48 (.agg kindsA) (.int .i64 (n : Int))).run Try.prog w0 = .ok (.string (kindT n)) w0 := by
  obtain rfl | rfl | rfl | rfl | rfl | rfl | rfl | rfl | rfl | rfl | rfl | rfl | rfl | rfl | rfl | rfl : n = 0 ∨ n = 1 ∨ n = 2 ∨ n = 3 ∨ n = 4 ∨ n = 5 ∨ n = 6 ∨ n = 7 ∨ n = 8 ∨ n = 9 ∨ n = 10 ∨ n = 11 ∨ n = 12 ∨ n = 13 ∨ n = 14 ∨ n = 15 := by omega
  all_goals first | rfl | kernel_rfl

set_option maxRecDepth 100000 in
theorem kinds_any (w : World) : Calls Try.prog 27 #[] w fun e w' => e = .returned (.agg kindsA) ∧ Fr (fun _ => False) w w' := by
  go_enter Try.func27, Try.ntmps27
  go_wp2
  exact bodyPost_ret (v := .agg kindsA) (by simp [results, Try.results27, go_sem, kindsA]) rfl ⟨rfl, (Fr.refl _ _).alloc _⟩

end Go.Proofs.Ytpieaenfnajlfaa
