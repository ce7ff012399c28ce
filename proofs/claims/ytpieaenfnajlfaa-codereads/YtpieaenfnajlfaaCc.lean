/- Code: a thing is written; a thing is read. -/
import Derived.Test.YtpieaenfnajlfaaCb
import Derived.Test.YtpieaenfnajlfaaX
namespace Go.Proofs.Ytpieaenfnajlfaa
open Go.RowKit Go.IntWalk
set_option linter.unusedSimpArgs false
set_option linter.unusedVariables false

theorem WOk.fr0 {w w' : World} {p t : Nat} {ao : Option Addr} {cap : Nat} {s : List UInt8 × Bool} (h : WOk w p t ao cap s) (hf : Fr (fun _ => False) w w') : WOk w' p t ao cap s := by
  obtain ⟨a, e, h⟩ := h
  exact ⟨a, e, h.fr hf (fun e => e) (fun _ _ e => e)⟩

theorem WPost.after {w0 w w' : World} {p t : Nat} {ao : Option Addr} {s : List UInt8 × Bool} (h : WPost w p t ao s w') (hf : Fr (fun _ => False) w0 w) : WPost w0 p t ao s w' := by
  obtain ⟨ao', cap', hW, hF, hn⟩ := h
  exact ⟨ao', cap', hW, hf.mono (fun _ e => e.elim) |>.trans hF (fun _ _ e => e), hn.imp id (fun g k hk => Nat.le_trans hf.size (g k hk))⟩

theorem write_num (q f p t : Nat) (lo hi v : Int) (ao : Option Addr) (cap : Nat) (s : List UInt8 × Bool) (w : World) (hc : w.cell? ⟨q, f, none⟩ = some (.int .i64 v)) (hpl : q < w.heap.size) (h : WOk w p t ao cap s) (hv : v ≤ 9223372036854775807) (hb : s.1.length + 20 ≤ 140737488355328) :
    Calls Try.prog 29 #[numV q f lo hi, .pointer (some ⟨p, 0, none⟩)] w fun e w' => e = .returned (.tuple #[]) ∧ WPost w p t ao (wInt v s) w' := by
  have hc1 : ∀ o, (w.alloc o).cell? ⟨q, f, none⟩ = some (.int .i64 v) := fun o => cellA hc o
  have HW := hideIt (fun o => wint_any p t ao cap s v (w.alloc o) (h.fr0 ((Fr.refl _ _).alloc o)) hv hb)
  clear h
  unfold numV
  go_enter Try.func29, Try.ntmps29
  go_wp2_with fail
  refine Calls.mono (HW.out _) ?_
  rintro e w1 ⟨rfl, hP⟩
  have HP := hideIt (hP.after ((Fr.refl _ _).alloc _))
  clear hP
  go_wp2_with fail
  go_end0
  exact ⟨rfl, HP.out⟩

theorem write_text (q p t : Nat) (x : ByteArray) (ao : Option Addr) (cap : Nat) (s : List UInt8 × Bool) (w : World) (hc : w.cell? ⟨q, 5, none⟩ = some (.string x)) (hpl : q < w.heap.size) (h : WOk w p t ao cap s) (hb : s.1.length + 20 + x.size ≤ 140737488355328) :
    Calls Try.prog 29 #[textV q, .pointer (some ⟨p, 0, none⟩)] w fun e w' => e = .returned (.tuple #[]) ∧ WPost w p t ao (wText x.data.toList s) w' := by
  have hc1 : ∀ o, (w.alloc o).cell? ⟨q, 5, none⟩ = some (.string x) := fun o => cellA hc o
  have HW := hideIt (fun o => wtext_any p t ao cap s x (w.alloc o) (h.fr0 ((Fr.refl _ _).alloc o)) hb)
  clear h
  unfold textV
  go_enter Try.func29, Try.ntmps29
  go_wp2_with fail
  refine Calls.mono (HW.out _) ?_
  rintro e w1 ⟨rfl, hP⟩
  have HP := hideIt (hP.after ((Fr.refl _ _).alloc _))
  clear hP
  go_wp2_with fail
  refine bodyPost_ret (v := .tuple #[]) (by simp [results, Try.results29, go_sem]) rfl ?_
  exact ⟨rfl, HP.out⟩

theorem ROk.fr0 {w w' : World} {p t : Nat} {ao : Option Addr} {cap : Nat} {bs : List UInt8} {s : Nat × Int × Int} (h : ROk w p t ao cap bs s) (hf : Fr (fun _ => False) w w') : ROk w' p t ao cap bs s := ⟨h.1.fr hf (fun e => e) (fun _ _ e => e), h.2⟩

end Go.Proofs.Ytpieaenfnajlfaa
