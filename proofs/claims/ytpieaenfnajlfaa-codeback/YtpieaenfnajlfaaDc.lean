/- Code: Pick; a copy of bytes. -/
import Derived.Test.YtpieaenfnajlfaaCg
namespace Go.Proofs.Ytpieaenfnajlfaa
open Go.RowKit Go.IntWalk Go.Lib
set_option linter.unusedSimpArgs false
set_option linter.unusedVariables false

theorem pick_any (x : Int) (n : Nat) (hn : 1 ≤ n) (hb : n ≤ 1000000) (w : World) : Calls Try.prog 24 #[.int .i64 x, .int .i64 n] w fun e w' => (∃ r : Nat, e = .returned (.int .i64 r) ∧ r < n) ∧ w' = w := by
  have hn0 : ((n : Int) == 0) = false := by simp; omega
  have hn1 : ¬ (n : Int) < 1 := by omega
  have h1 := Int.tmod_lt_of_pos x (show (0 : Int) < n by omega)
  have h2 := Int.lt_tmod_of_pos x (show (0 : Int) < n by omega)
  go_enter Try.func24, Try.ntmps24
  go_wp2
  all_goals
    go_ret
    first | exact ⟨⟨(x.tmod n + n).toNat, by rw [Int.toNat_of_nonneg (by omega)]; rfl, by omega⟩, rfl⟩ | exact ⟨⟨(x.tmod n).toNat, by rw [Int.toNat_of_nonneg (by omega)]; rfl, by omega⟩, rfl⟩

theorem copyb_any (ao : Option Addr) (cap : Nat) (bs : List UInt8) (w : World) (h : BsAt w ao bs) (hb : bs.length ≤ 140737488355328) :
    Calls Try.prog 23 #[.slice ao bs.length cap] w fun e w' => ∃ ao' cap', e = .returned (.slice ao' bs.length cap') ∧ Row w' 5 ao' cap' bs ∧ Fr (fun _ => False) w w' ∧ ∀ k, blk ao' k → w.heap.size ≤ k := by
  have h1 : BsAt (w.alloc (.cells #[] 5)) ao bs := h.fr ((Fr.refl (fun _ => False) w).alloc _) (fun _ _ _ e => e)
  obtain ⟨ao', cap', w1, hrun, hrow, hf, hao⟩ := app_row (w.alloc (.cells #[] 5)) 25 (some ⟨w.heap.size, 0, none⟩) 0 [] bs (World.ownsRow_made w #[] 0 (Nat.zero_le _) (by decide) rfl) _ (h1.src cap) (by simpa using hb)
  have HR := hideIt hrun
  clear hrun
  go_enter Try.func23, Try.ntmps23
  go_wp2_with (first | (at_builtin; refine wpList_append_run _ rfl (.tmp 3) (.tmp 4) 25 25 rfl _ _ _ _ rfl rfl HR.out ?_))
  go_ret
  refine ⟨ao', cap', rfl, hrow, (((Fr.refl (fun _ => False) w).alloc _).trans (hf.mono (S' := fun k => k = w.heap.size) ?_) ?_), ?_⟩
  · rintro k ⟨x, e1, e2⟩
    obtain rfl := Option.some.inj e1
    exact e2.symm
  · intro i hi e
    omega
  · rintro k ⟨x, e1, e2⟩
    rcases hao with rfl | rfl
    · obtain rfl := Option.some.inj e1
      simp only at e2
      omega
    · obtain rfl := Option.some.inj e1
      simp at e2
      omega

end Go.Proofs.Ytpieaenfnajlfaa
