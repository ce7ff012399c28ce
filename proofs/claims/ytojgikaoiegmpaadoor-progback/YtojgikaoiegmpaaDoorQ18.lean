/- ProgBack, part 18 of the road: what the program's functions do, each by its own walk. -/
import Derived.Test.YtojgikaoiegmpaaDoorQ15
import Derived.Lib.RepeatB

/- Package prog: the chapter's examples: the walk. -/
namespace Go.Proofs.YtojgikaoiegmpaaDoor
open Go.RowKit Go.IntWalk
set_option linter.unusedSimpArgs false
set_option linter.unusedVariables false
set_option maxRecDepth 100000

def S64 : ByteArray := ⟨(Lib.repeatL [120] 64).toArray⟩
def IS : Ins := ⟨1, 0, 0, 0, 0, S64⟩
theorem gS : Good IS 1 := ⟨rfl, by decide, by decide, by decide, ⟨1, 0, 0, 0, 0, ⟨#[]⟩⟩, by kernel_rfl, rfl, rfl, rfl, rfl, rfl⟩
theorem IS_len : (codeI IS).length = 67 := by rw [gS.code]; kernel_rfl
theorem I15_len : (codeI I15).length = 1 := by rw [g15.code]; kernel_rfl
theorem rk1 : readP [2, 13, 1, 15] = ([I13 1, I15], 0, 0) := by kernel_rfl
theorem rk2 : readP [1, 15, 0] = ([], 4, 2) := by kernel_rfl
theorem rk3 : readP [61] = ([], 3, 0) := by kernel_rfl
theorem pcn : progC [] = [0] := by
  have : chkF [] = (0, 0) := chkF_ok [] (by decide) (fun i hi => by cases hi) (fun t ht => absurd ht (by simp)) (by decide)
  unfold progC
  rw [this, if_pos rfl]
  rfl
theorem cfn : chkF [] = (0, 0) := chkF_ok [] (by decide) (fun i hi => by cases hi) (fun t ht => absurd ht (by simp)) (by decide)
theorem ck2 : chkF [I15, zeroI] = (2, 1) := by
  refine ChkP.eq (Or.inr ⟨by decide, Or.inl ⟨1, by decide, rfl, rfl, ⟨by decide, ?_⟩, fun t ht hx => ?_⟩⟩)
  · show ¬ checkE zeroI = 0
    have : checkE zeroI = 2 := kx4
    rw [this]; decide
  · obtain rfl : t = 0 := by omega
    obtain ⟨_, h⟩ := hx
    exact h g15.check
def L9 : List Ins := [IS, IS, IS, IS, IS, IS, IS, IS, IS]
theorem L9_rep : L9 = List.replicate 9 IS := rfl
theorem L9_all : ∀ i ∈ L9, i = IS := fun i hi => List.eq_of_mem_replicate (n := 9) hi
theorem bgn9 (k : Nat) (h : k ≤ 9) : bgn L9 k = 1 + 67 * k := by
  induction k with
  | zero => rw [bgn_zero]; rfl
  | succ k ih =>
    have hk : k < L9.length := by show k < 9; omega
    have e : L9[k] = IS := L9_all _ (List.getElem_mem hk)
    rw [bgn_succ L9 k hk, e, IS_len, ih (by omega)]
    omega
theorem ck9 : chkF L9 = (3, 7) := by
  refine ChkP.eq (Or.inr ⟨by decide, Or.inr ⟨fun t ht hx => ?_, Or.inr ⟨fun t ht hx => ?_, Or.inl ⟨7, by decide, rfl, rfl, ?_, fun t ht hx => ?_⟩⟩⟩⟩)
  · obtain ⟨h1, h2⟩ := hx
    have e : L9[t] = IS := L9_all _ (List.getElem_mem h1)
    rw [e] at h2
    exact h2 gS.check
  · obtain ⟨h1, h2⟩ := hx
    have e : L9[t] = IS := L9_all _ (List.getElem_mem h1)
    rw [e] at h2
    have : passI IS = 0 := by decide
    rw [this] at h2
    omega
  · show (512 : Int) < (bgn L9 (7 + 1) : Int)
    rw [bgn9 _ (by decide)]
    decide
  · change (512 : Int) < (bgn L9 (t + 1) : Int) at hx
    rw [bgn9 _ (by omega)] at hx
    omega

theorem gRead_new (bs : List UInt8) (C : Array Value) (n : Nat) (hC : (bv bs).toArray = C) (hn : bs.length = n) (r : List Ins × Int × Int) (hr : readP bs = r) (hl : n ≤ 100) (u : World) (k : Nat) (hk : k = u.heap.size) :
    Calls Tryd.prog 8 #[.slice (some ⟨k, 0, none⟩) n n] (u.alloc (.cells C 5)) (PReadP r (u.alloc (.cells C 5))) := by
  subst hn hk hr
  exact gRead_any (some ⟨u.heap.size, 0, none⟩) bs.length bs _ (bs_new u bs C hC hl) (fun e => by cases e) (Nat.le_refl _) (fun j hj => by
    obtain ⟨_, e1, e2⟩ := hj
    obtain rfl := Option.some.inj e1
    simp at e2 ⊢
    omega)

set_option maxRecDepth 100000 in
set_option maxHeartbeats 8000000 in
theorem pknown_any (HRP : ∀ w, Calls Tryd.prog 17 #[.string ⟨#[120]⟩, .int .i64 64] w fun e w' => e = .returned (.string S64) ∧ Fr (fun _ => False) w w') (w : World) : Calls Tryd.prog 4 #[] w fun e w' => e = .returned (.bool true) ∧ Fr (fun _ => False) w w' := by
  have HJ := hideIt pjump_any
  have HH := hideIt phalt_any
  have HA := hideIt pawake_any
  replace HRP := hideIt HRP
  have HB := hideIt (fun W => by
    have := gbts none 0 [] (by simp) W (Or.inl rfl)
    rw [pcn, cfn] at this
    exact this)
  have HL9 := hideIt (show (L9.flatMap fun i => (icells i).toList) = [.int .i64 1, .int .i64 0, .int .i64 0, .int .i64 0, .int .i64 0, .string S64, .int .i64 1, .int .i64 0, .int .i64 0, .int .i64 0, .int .i64 0, .string S64, .int .i64 1, .int .i64 0, .int .i64 0, .int .i64 0, .int .i64 0, .string S64, .int .i64 1, .int .i64 0, .int .i64 0, .int .i64 0, .int .i64 0, .string S64, .int .i64 1, .int .i64 0, .int .i64 0, .int .i64 0, .int .i64 0, .string S64, .int .i64 1, .int .i64 0, .int .i64 0, .int .i64 0, .int .i64 0, .string S64, .int .i64 1, .int .i64 0, .int .i64 0, .int .i64 0, .int .i64 0, .string S64, .int .i64 1, .int .i64 0, .int .i64 0, .int .i64 0, .int .i64 0, .string S64, .int .i64 1, .int .i64 0, .int .i64 0, .int .i64 0, .int .i64 0, .string S64] from rfl)
  have HL9n := hideIt (show L9.length = 9 from rfl)
  have HK9 := hideIt ck9
  generalize L9 = l9 at *
  generalize S64 = s64 at *
  dsimp only [List.length_nil] at HB
  go_enter Tryd.func4, Tryd.ntmps4
  go_wp2_with fail
  refine Calls.mono (HB.out w) ?_
  rintro e w1 ⟨a1, c1, rfl, hf1, hF1, _⟩
  have HB1 := hideIt hf1.bs
  have HF1 := hideIt hF1
  clear hf1 hF1 HB
  dsimp only [List.length_cons, List.length_nil] at *
  go_wp2_with fail
  refine Calls.mono (gRead_new [2, 13, 1, 15] _ 4 (by rfl) rfl _ rk1 (by decide) w1 _ (by simp)) ?_
  rintro e w2 ⟨a2, c2, rfl, hI2, hF2, _⟩
  dsimp only [List.length_cons, List.length_nil] at *
  have HI2 := hideIt (hI2.row.fr ((Fr.refl (fun _ => False) w2).alloc (.cells #[.int .i64 0, .int .i64 0] 34)) (fun _ _ _ e => e))
  have hFa := (((Fr.refl (fun _ => False) w1).alloc _).trans hF2 (fun _ _ e => e)).alloc (.cells #[.int .i64 0, .int .i64 0] 34)
  have HB2 := hideIt (HB1.out.fr hFa (fun _ _ _ e => e))
  have HF2 := hideIt (HF1.out.trans hFa (fun _ _ e => e))
  have HX2 := hideIt (show (w2.alloc (.cells #[.int .i64 0, .int .i64 0] 34)).heap[w2.heap.size]? = some (.cells #[.int .i64 0, .int .i64 0] 34 (0, 0)) from heap_alloc_new w2 _)
  clear hI2 hF2 hFa HB1 HF1
  go_wp2_with fail
  refine Calls.mono (HH.out _) ?_
  rintro e w3 ⟨rfl, hF3⟩
  have HI3 := hideIt (HI2.out.fr hF3 (fun _ _ _ e => e))
  have HB3 := hideIt (HB2.out.fr hF3 (fun _ _ _ e => e))
  have HX3 := hideIt ((hF3.block _ (Array.getElem?_eq_some_iff.1 HX2.out).1 (fun e => e)).trans HX2.out)
  have HF3 := hideIt (HF2.out.trans hF3 (fun _ _ e => e))
  clear hF3 HI2 HB2 HF2 HX2
  go_wp2_with fail
  refine Calls.mono (gchk_new [I15, zeroI] _ 2 (by rfl) rfl (by decide) w3 _ (by simp) _ _ ck2) ?_
  rintro e w4 ⟨rfl, hF4⟩
  have hFa := ((Fr.refl (fun _ => False) w3).alloc _).trans hF4 (fun _ _ e => e)
  have HI4 := hideIt (HI3.out.fr hFa (fun _ _ _ e => e))
  have HB4 := hideIt (HB3.out.fr hFa (fun _ _ _ e => e))
  have HX4 := hideIt ((hFa.block _ (Array.getElem?_eq_some_iff.1 HX3.out).1 (fun e => e)).trans HX3.out)
  have HF4 := hideIt (HF3.out.trans hFa (fun _ _ e => e))
  clear hF4 hFa HI3 HB3 HF3 HX3
  go_wp2_with fail
  refine Calls.mono (HRP.out _) ?_
  rintro e w5 ⟨rfl, hF5⟩
  have hFa := hF5.alloc (.cells #[.int .i64 1, .int .i64 0, .int .i64 0, .int .i64 0, .int .i64 0, .string s64] 46)
  have HI5 := hideIt (HI4.out.fr hFa (fun _ _ _ e => e))
  have HB5 := hideIt (HB4.out.fr hFa (fun _ _ _ e => e))
  have HX5 := hideIt ((hFa.block _ (Array.getElem?_eq_some_iff.1 HX4.out).1 (fun e => e)).trans HX4.out)
  have HF5 := hideIt (HF4.out.trans hFa (fun _ _ e => e))
  clear hF5 hFa HI4 HB4 HF4 HX4 HRP
  go_wp2_with fail
  refine Calls.mono (gchk_new l9 _ 9 (by rw [HL9.out]) HL9n.out (by decide) _ _ (by simp) _ _ HK9.out) ?_
  rintro e w6 ⟨rfl, hF6⟩
  have hFa := ((Fr.refl (fun _ => False) _).alloc _).trans hF6 (fun _ _ e => e)
  have HI6 := hideIt (HI5.out.fr hFa (fun _ _ _ e => e))
  have HB6 := hideIt (HB5.out.fr hFa (fun _ _ _ e => e))
  have HX6 := hideIt ((hFa.block _ (Array.getElem?_eq_some_iff.1 HX5.out).1 (fun e => e)).trans HX5.out)
  have HF6 := hideIt (HF5.out.trans hFa (fun _ _ e => e))
  clear hF6 hFa HI5 HB5 HF5 HX5
  go_wp2_with fail
  refine Calls.mono (same_lit a1 c1 [0] w6 HB6.out _ (by rfl) 1 rfl (by decide) _ (by simp)) ?_
  rintro e w7 ⟨rfl, rfl⟩
  have hFa := (Fr.refl (fun _ => False) w6).alloc (.cells #[.int .u8 0] 5)
  have HI7 := hideIt (HI6.out.fr hFa (fun _ _ _ e => e))
  have HX7 := hideIt ((hFa.block _ (Array.getElem?_eq_some_iff.1 HX6.out).1 (fun e => e)).trans HX6.out)
  have HF7 := hideIt (HF6.out.trans hFa (fun _ _ e => e))
  clear hFa HI6 HB6 HF6 HX6
  go_wp2_with fail
  refine Calls.mono (HJ.out _ _) ?_
  rintro e w8 ⟨rfl, hF8⟩
  go_wp2_with fail
  refine Calls.mono (HH.out _) ?_
  rintro e w9 ⟨rfl, hF9⟩
  have hFa := (hF8.trans hF9 (fun _ _ e => e)).alloc (.cells #[.int .i64 13, .int .i64 0, .int .i64 0, .int .i64 0, .int .i64 1, .string ⟨#[]⟩, .int .i64 15, .int .i64 0, .int .i64 0, .int .i64 0, .int .i64 0, .string ⟨#[]⟩] 46)
  have HI9 := hideIt (HI7.out.fr hFa (fun _ _ _ e => e))
  have HX9 := hideIt ((hFa.block _ (Array.getElem?_eq_some_iff.1 HX7.out).1 (fun e => e)).trans HX7.out)
  have HF9 := hideIt (HF7.out.trans hFa (fun _ _ e => e))
  clear hFa hF8 hF9 HI7 HF7 HX7
  go_wp2_with fail
  refine Calls.mono (ksame_true a2 (some ⟨w9.heap.size, 0, none⟩) c2 2 [I13 1, I15] (by decide) _ HI9.out (ins_new w9 _ _ (by rfl) _ rfl)) ?_
  rintro e w10 ⟨rfl, hF10⟩
  have hX := (hF10.block _ (Array.getElem?_eq_some_iff.1 HX9.out).1 (fun e => e)).trans HX9.out
  have hx0 := cellOfHeap hX 0 rfl
  have HF10 := hideIt (HF9.out.trans hF10 (fun _ _ e => e))
  clear hX hF10 HI9 HF9 HX9
  go_wp2_with fail
  refine Calls.mono (pfails_new [1, 15, 0] _ 3 4 2 (by rfl) rfl rk2 (by decide) _ _ (by simp)) ?_
  rintro e w11 ⟨rfl, hF11⟩
  have HF11 := hideIt ((HF10.out.alloc _).trans hF11 (fun _ _ e => e))
  clear hF11 hx0 HF10
  go_wp2_with fail
  refine Calls.mono (pfails_new [61] _ 1 3 0 (by rfl) rfl rk3 (by decide) _ _ (by simp)) ?_
  rintro e w12 ⟨rfl, hF12⟩
  have HF12 := hideIt ((HF11.out.alloc _).trans hF12 (fun _ _ e => e))
  clear hF12 HF11
  go_wp2_with fail
  refine Calls.mono (HA.out _) ?_
  rintro e w13 ⟨rfl, hF13⟩
  have HF13 := hideIt (HF12.out.trans hF13 (fun _ _ e => e))
  clear hF13 HF12
  go_wp2_with fail
  go_ret
  exact ⟨rfl, HF13.out⟩

end Go.Proofs.YtojgikaoiegmpaaDoor
