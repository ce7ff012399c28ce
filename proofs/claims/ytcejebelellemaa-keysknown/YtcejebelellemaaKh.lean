/- Keys: reach. -/
import Derived.Test.YtcejebelellemaaKg
namespace Go.Proofs.Ytcejebelellemaa
open Go.RowKit Go.IntWalk
set_option linter.unusedSimpArgs false
set_option linter.unusedVariables false

/-- What is left behind the keys that are less than one. -/
def dropW (k : ByteArray) : List ByteArray → List ByteArray
  | [] => []
  | x :: r => if kLt x k then dropW k r else x :: r

/-- Whether that one comes next. -/
def hitB (k : ByteArray) (l : List ByteArray) : Bool :=
  match dropW k l with
  | [] => false
  | x :: _ => decide (x = k)

theorem dropW_sub (k : ByteArray) : ∀ l : List ByteArray, (dropW k l).Sublist l
  | [] => by simp [dropW]
  | x :: r => by
    unfold dropW
    split
    · exact (dropW_sub k r).cons x
    · exact List.Sublist.refl _

theorem dropW_rises {k : ByteArray} {l : List ByteArray} (h : Rises l) : Rises (dropW k l) := List.Pairwise.sublist (dropW_sub k l) h

theorem dropW_mem (k y : ByteArray) (hy : ¬ kLt y k) : ∀ l : List ByteArray, y ∈ dropW k l ↔ y ∈ l
  | [] => by simp [dropW]
  | x :: r => by
    unfold dropW
    split
    · rename_i hx
      rw [dropW_mem k y hy r, List.mem_cons]
      exact ⟨Or.inr, fun h => h.resolve_left (fun e => hy (e ▸ hx))⟩
    · exact Iff.rfl

theorem hit_eq {k : ByteArray} {l : List ByteArray} (h : Rises l) : hitB k l = inL l k := by
  rw [Bool.eq_iff_iff, inL_iff, ← dropW_mem k k (kLt_irrefl k) l]
  have hr := dropW_rises (k := k) h
  have hk : ∀ x r, dropW k l = x :: r → ¬ kLt x k := by
    clear h hr
    induction l with
    | nil => intro x r h; simp [dropW] at h
    | cons y l ih =>
      intro x r h
      unfold dropW at h
      split at h
      · exact ih x r h
      · rename_i hy
        cases h
        exact hy
  unfold hitB
  cases hd : dropW k l with
  | nil => simp
  | cons x r =>
    rw [hd] at hr
    simp only [decide_eq_true_eq, List.mem_cons]
    constructor
    · intro e
      exact Or.inl e.symm
    · rintro (e | e)
      · exact e.symm
      · exact absurd ((List.pairwise_cons.1 hr).1 k e) (hk x r hd)

def wkLen (w : World) (p : Nat) : Nat :=
  match w.cell? ⟨p, 0, none⟩ with
  | some (.slice _ n _) => n
  | _ => 0

theorem WkAt.len {w : World} {M p : Nat} {l : List ByteArray} (h : WkAt w M p l) : wkLen w p = l.length := by
  obtain ⟨_, ao, cap, hc, _⟩ := h
  simp [wkLen, hc]

theorem geq_eq (x k : ByteArray) : (!(Op.bytesLess x.toList k.toList)) = decide (¬ kLt x k) := by
  rw [decide_not, bytesLess_eq]

def ReachPost (k : ByteArray) (l : List ByteArray) (M p : Nat) (w : World) (e : Ending) (w' : World) : Prop :=
  e = .returned (.bool (hitB k l)) ∧ WkAt w' M p (dropW k l) ∧ Fr (fun i => i = p) w w'

set_option maxRecDepth 100000 in
set_option maxHeartbeats 1000000 in
theorem kreach_any (M p : Nat) (l : List ByteArray) (k : ByteArray) (w : World) (h : WkAt w M p l) :
    Calls Try.prog 49 #[.pointer (some ⟨p, 0, none⟩), .string k] w (ReachPost k l M p w) := by
  have HH := hideIt h
  clear h
  go_enter Try.func49, Try.ntmps49
  go_wp2_with fail
  go_loopw [5] (fun _ wr => ∃ l2, Hid (WkAt wr M p l2) ∧ Hid (dropW k l2 = dropW k l) ∧ Hid (Fr (fun i => i = p) w wr)) (fun _ wr => wkLen wr p)
  case atStart => exact ⟨l, HH, hideIt rfl, hideIt (Fr.refl _ _)⟩
  case round =>
    obtain ⟨l2, HW, HD, HF⟩ := hrel
    obtain ⟨_, ao, cap, hc, _, hks, _, _⟩ := HW.out
    cases l2 with
    | nil =>
      have hHd := hideIt (show Calls Try.prog 48 #[.slice ao 0 cap] wr (fun e w' => e = .returned (.tuple #[.string ⟨#[]⟩, .bool false]) ∧ w' = wr) from khead_any ao cap [] wr hks)
      simp only [List.length_nil] at hc
      have HX := hideIt (show hitB k l = false by unfold hitB; rw [← HD.out]; rfl)
      have HY := hideIt (show WkAt wr M p (dropW k l) by rw [← HD.out]; exact HW.out)
      clear hks
      go_wp2_with fail
      refine Calls.mono hHd.out ?_
      rintro e w1 ⟨rfl, rfl⟩
      go_wp2_with fail
      go_ret
      exact ⟨by rw [HX.out]; rfl, HY.out, HF.out⟩
    | cons x r =>
      have hHd := hideIt (show Calls Try.prog 48 #[.slice ao (x :: r).length cap] wr (fun e w' => e = .returned (.tuple #[.string x, .bool true]) ∧ w' = wr) from khead_any ao cap (x :: r) wr hks)
      have HLN0 := hideIt (show wkLen wr p = r.length + 1 from HW.out.len)
      have HST := hideIt (kstep_any M p x r wr HW.out)
      clear hks
      generalize (x :: r).length = n at *
      by_cases hx : kLt x k
      · have hq : Op.bytesLess x.toList k.toList = true := by rw [bytesLess_eq]; exact decide_eq_true hx
        have HD2 := hideIt (show dropW k r = dropW k l by rw [← HD.out]; conv => rhs; unfold dropW; rw [if_pos hx])
        clear hx
        go_wp2_with fail
        refine Calls.mono hHd.out ?_
        rintro e w1 ⟨rfl, rfl⟩
        clear hHd
        go_wp2_with fail
        refine Calls.mono HST.out ?_
        rintro e w2 ⟨rfl, hw2, hf2⟩
        have HW2 := hideIt hw2
        have HF2 := hideIt (HF.out.trans hf2 (fun _ _ e => e))
        clear hw2 hf2
        go_wp2_with fail
        go_roundw
        case measure => rw [HLN0.out, HW2.out.len]; exact Nat.lt_succ_self _
        case rel => exact ⟨r, HW2, HD2, HF2⟩
      · have hq : Op.bytesLess x.toList k.toList = false := by rw [bytesLess_eq]; exact decide_eq_false hx
        have HD2 := hideIt (show dropW k l = x :: r by rw [← HD.out]; unfold dropW; rw [if_neg hx])
        have hq2 := key_eq x k
        have HX := hideIt (show hitB k l = decide (x = k) by unfold hitB; rw [HD2.out])
        have HY := hideIt (show WkAt wr M p (dropW k l) by rw [HD2.out]; exact HW.out)
        clear hx
        generalize decide (x = k) = v at *
        go_wp2_with fail
        refine Calls.mono hHd.out ?_
        rintro e w1 ⟨rfl, rfl⟩
        clear hHd
        go_wp2_with fail
        go_ret
        exact ⟨by rw [HX.out]; rfl, HY.out, HF.out⟩

end Go.Proofs.Ytcejebelellemaa
