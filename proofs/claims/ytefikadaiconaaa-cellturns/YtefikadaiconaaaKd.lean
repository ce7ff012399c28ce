/- Keys: Has, Check, a set asked, and what the statements ask of lists: how long they are, whether two are the same, a copy. -/
import Derived.Test.YtefikadaiconaaaKb
import Derived.Deep.QuietTactic
namespace Go.Proofs.Ytefikadaiconaaa
open Go.RowKit Go.IntWalk
set_option linter.unusedSimpArgs false
set_option linter.unusedVariables false

theorem le_maxLen {n : Nat} (h : n ≤ 100) : n ≤ maxLen := by unfold maxLen; omega

theorem key_eq (x y : ByteArray) : (x.toList == y.toList) = decide (x = y) := by
  rw [Bool.eq_iff_iff, decide_eq_true_eq, beq_iff_eq]
  exact ⟨toList_inj, fun e => by rw [e]⟩

set_option maxRecDepth 100000 in
set_option maxHeartbeats 1000000 in
theorem kidx_any (ao : Option Addr) (cap : Nat) (l : List ByteArray) (k : ByteArray) (w : World) (h : l = [] ∨ KsAt w ao l) (hl : l.length ≤ 9223372036854775807) :
    Calls Try.prog 57 #[.slice ao l.length cap, .string k] w fun e w' => ∃ n : Int, e = .returned (.int .i64 n) ∧ decide (0 ≤ n) = inL l k ∧ w' = w := by
  have HH := hideIt h
  clear h
  go_enter Try.func57, Try.ntmps57
  go_wp2_with fail
  go_loop [8] (fun i => ∃ j : Nat, i = .int .i64 j ∧ j ≤ l.length ∧ Hid (∀ x ∈ l.take j, x ≠ k)) (fun i => l.length - (intOf i).toNat)
  case atStart => exact ⟨0, rfl, Nat.zero_le _, hideIt (by simp)⟩
  case round =>
    obtain ⟨j, rfl, hj, HB⟩ := hrel
    by_cases hlt : j < l.length
    · obtain ⟨b, off, rfl, hbl, c0⟩ := KsAt.get HH.out j hlt
      have HT := hideIt (List.take_succ_eq_append_getElem hlt)
      have HM := hideIt (List.getElem_mem hlt)
      generalize l[j] = x at *
      by_cases hx : x = k
      · have hq : (k.toList == x.toList) = true := by rw [hx]; simp
        have HX := hideIt hx
        clear hx
        go_wp2_with fail
        go_ret
        exact ⟨j, rfl, by rw [show inL l k = true from (inL_iff l k).2 (HX.out ▸ HM.out)]; exact decide_eq_true (by omega), rfl⟩
      · have hq : (k.toList == x.toList) = false := by rw [key_eq]; exact decide_eq_false (fun e => hx e.symm)
        have HX := hideIt hx
        clear hx
        go_wp2_with fail
        go_round
        case rel => exact ⟨j + 1, by go_num, by omega, hideIt (fun y hy => by rw [HT.out] at hy; rcases List.mem_append.1 hy with e | e; exact HB.out y e; rw [List.mem_singleton.1 e]; exact HX.out)⟩
        case measure => simp [intOf]; omega
    · obtain rfl : j = l.length := by omega
      go_wp2_with fail
      go_ret
      refine ⟨-1, rfl, ?_, rfl⟩
      rw [show inL l k = false from (inL_not l k).2 (fun hm => by have := HB.out; rw [List.take_length] at this; exact this k hm rfl)]
      decide

theorem khas_any (ao : Option Addr) (cap : Nat) (l : List ByteArray) (k : ByteArray) (w : World) (h : l = [] ∨ KsAt w ao l) (hl : l.length ≤ 9223372036854775807) :
    Calls Try.prog 34 #[.slice ao l.length cap, .string k] w fun e w' => e = .returned (.bool (inL l k)) ∧ w' = w := by
  have hI := hideIt (kidx_any ao cap l k w h hl)
  clear h
  generalize inL l k = v at *
  go_enter Try.func34, Try.ntmps34
  go_wp2_with (first | (go_at_call 49; go_in) | (go_at_call 57; refine Calls.mono hI.out ?_; rintro e w1 ⟨n, rfl, hn, rfl⟩))
  go_ret
  first | exact ⟨rfl, rfl⟩ | exact ⟨rb hn, rfl⟩

theorem kLt_not (x y : ByteArray) : (Op.bytesLess x.toList y.toList || x.toList == y.toList) = !decide (kLt y x) := by
  rw [le_iff, decide_not]

/-- The keys up to a place rise. -/
def RisesTo (l : List ByteArray) (n : Nat) : Prop := ∀ i, (h : i + 1 < l.length) → i + 1 < n → kLt (l[i]'(by omega)) l[i + 1]

set_option maxRecDepth 100000 in
set_option maxHeartbeats 1000000 in
theorem kcheck_any (ao : Option Addr) (cap : Nat) (l : List ByteArray) (w : World) (h : l = [] ∨ KsAt w ao l) (hl : l.length ≤ 9223372036854775807) :
    Calls Try.prog 33 #[.slice ao l.length cap] w fun e w' => e = .returned (.bool (risesB l)) ∧ Fr (fun _ => False) w w' := by
  have HH := hideIt h
  clear h
  go_enter Try.func33, Try.ntmps33
  go_wp2_with fail
  go_loopw [6] (fun i wr => ∃ j : Nat, i = .int .i64 j ∧ j ≤ l.length ∧ Hid (RisesTo l j) ∧ Fr (fun _ => False) w wr) (fun i _ => l.length - (intOf i).toNat)
  case atStart => exact ⟨0, rfl, Nat.zero_le _, hideIt (fun i _ h => by omega), Fr.refl _ _⟩
  case round =>
    obtain ⟨j, rfl, hj, HB, hF⟩ := hrel
    have HF := hideIt hF
    clear hF
    by_cases hlt : j < l.length
    · cases j with
      | zero =>
        go_wp2_with fail
        go_quiet (fail)
        go_wp2_with fail
        go_roundw
        case measure => simp [intOf]; omega
        case rel => exact ⟨1, by go_num, by omega, hideIt (fun i _ h => by omega), HF.out.drewN _⟩
      | succ n =>
        obtain ⟨b, off, rfl, hbl, c0⟩ := KsAt.get (kats_fr0 HH.out HF.out) (n + 1) hlt
        obtain ⟨b2, off2, e2, _, c1⟩ := KsAt.get (kats_fr0 HH.out HF.out) n (by omega)
        obtain ⟨rfl, rfl⟩ : b = b2 ∧ off = off2 := by simpa using e2
        have HG := hideIt (fun (hx : kLt (l[n]'(by omega)) l[n + 1]) i (h : i + 1 < l.length) (h2 : i + 1 < n + 1 + 1) => show kLt (l[i]'(by omega)) l[i + 1] from by
          by_cases he : i = n
          · subst he; exact hx
          · exact HB.out i h (by omega))
        have HN := hideIt (fun (hx : ¬ kLt (l[n]'(by omega)) l[n + 1]) => show risesB l = false from by
          cases hr : risesB l with
          | false => rfl
          | true => exact absurd ((risesB_get l).1 hr n hlt) hx)
        have h0 : (0 : Int) < ((n + 1 : Nat) : Int) := by omega
        have h1 : IntKind.i64.wrap (((n + 1 : Nat) : Int) - 1) = (n : Int) := by rw [show (((n + 1 : Nat) : Int) - 1) = (n : Int) by omega]; exact i64_in _ (by omega)
        have h2 : (n : Int) < (l.length : Int) := by omega
        have h3 : ((n + 1 : Nat) : Int) < (l.length : Int) := by omega
        clear e2
        generalize l[n + 1] = x at *
        generalize l[n] = y at *
        by_cases hx : kLt y x
        · have hq : (Op.bytesLess x.toList y.toList || x.toList == y.toList) = false := by rw [kLt_not]; simp [hx]
          have HX := hideIt hx
          clear hx
          go_wp2_with fail
          go_quiet (fail)
          go_wp2_with fail
          go_roundw
          case measure => simp [intOf]; omega
          case rel => exact ⟨n + 1 + 1, by go_num, by omega, hideIt (HG.out HX.out), HF.out.drewN _⟩
        · have hq : (Op.bytesLess x.toList y.toList || x.toList == y.toList) = true := by rw [kLt_not]; simp [hx]
          have HX := hideIt (HN.out hx)
          clear hx
          go_wp2_with fail
          go_quiet (fail)
          go_wp2_with fail
          go_ret
          exact ⟨by rw [HX.out]; rfl, HF.out.drewN _⟩
    · obtain rfl : j = l.length := by omega
      have HX := hideIt (show risesB l = true from (risesB_get l).2 (fun i hi => HB.out i hi hi))
      go_wp2_with fail
      go_ret
      exact ⟨by rw [HX.out]; rfl, HF.out⟩

set_option maxRecDepth 100000 in
set_option maxHeartbeats 1000000 in
theorem ksame_any (ao bo : Option Addr) (ca cb : Nat) (xs ys : List ByteArray) (w : World) (ha : xs = [] ∨ KsAt w ao xs) (hb : ys = [] ∨ KsAt w bo ys) (hx : xs.length ≤ 1099511627776) (hy : ys.length ≤ 1099511627776) :
    Calls Try.prog 30 #[.slice ao xs.length ca, .slice bo ys.length cb] w fun e w' => e = .returned (.bool (decide (xs = ys))) ∧ Fr (fun _ => False) w w' := by
  have HA := hideIt ha
  have HB := hideIt hb
  clear ha hb
  by_cases hl : xs.length = ys.length
  · have hne : ((xs.length : Int) != (ys.length : Int)) = false := by simp [hl]
    have HL := hideIt hl
    go_enter Try.func30, Try.ntmps30
    go_wp2_with fail
    go_loopw [5] (fun i wr => ∃ k : Nat, i = .int .i64 k ∧ k ≤ xs.length ∧ Hid (xs.take k = ys.take k) ∧ Fr (fun _ => False) w wr) (fun i _ => xs.length - (intOf i).toNat)
    case atStart => exact ⟨0, rfl, Nat.zero_le _, hideIt rfl, Fr.refl _ _⟩
    case round =>
      obtain ⟨k, rfl, hk, HT, hF⟩ := hrel
      by_cases hlt : k < xs.length
      · have hlt2 : k < ys.length := by have := HL.out; omega
        obtain ⟨b, off, rfl, hbl, c0⟩ := KsAt.get (kats_fr0 HA.out hF) k hlt
        obtain ⟨b2, off2, rfl, hbl2, c2⟩ := KsAt.get (kats_fr0 HB.out hF) k hlt2
        have HF := hideIt hF
        have HX := hideIt (List.take_succ_eq_append_getElem hlt)
        have HY := hideIt (List.take_succ_eq_append_getElem hlt2)
        have HDX := hideIt (List.getElem?_eq_getElem hlt)
        have HDY := hideIt (List.getElem?_eq_getElem hlt2)
        clear hF
        generalize xs[k] = x at *
        generalize ys[k] = y at *
        by_cases hxy : x = y
        · have hq : (x.toList == y.toList) = true := by rw [hxy]; simp
          have hq2 : (x.toList != y.toList) = false := by rw [hxy]; simp
          have HXY := hideIt hxy
          clear hxy hl hne
          go_wp2_with fail
          go_quiet (fail)
          go_wp2_with fail
          go_roundw
          case measure => simp [intOf]; omega
          case rel => exact ⟨k + 1, by go_num, by omega, hideIt (by rw [HX.out, HY.out, HT.out, HXY.out]), HF.out.drewN _⟩
        · have hq : (x.toList == y.toList) = false := by rw [key_eq]; exact decide_eq_false hxy
          have hq2 : (x.toList != y.toList) = true := by simp only [bne, hq]; rfl
          have HXY : Hid (decide (xs = ys) = false) := hideIt (decide_eq_false fun e => hxy (by have h1 := HDX.out; have h2 := HDY.out; rw [e] at h1; exact Option.some.inj (h1.symm.trans h2)))
          clear hxy hl hne
          go_wp2_with fail
          go_quiet (fail)
          go_wp2_with fail
          go_ret
          exact ⟨by rw [HXY.out]; rfl, HF.out.drewN _⟩
      · obtain rfl : k = xs.length := by omega
        have HXY : Hid (decide (xs = ys) = true) := hideIt (decide_eq_true (by have h := HT.out; rw [List.take_length, HL.out, List.take_length] at h; exact h))
        have HF := hideIt hF
        clear hF hl hne
        go_wp2_with fail
        go_ret
        exact ⟨by rw [HXY.out]; rfl, HF.out⟩
  · have hne : ((xs.length : Int) != (ys.length : Int)) = true := by simp; omega
    have HXY : Hid (decide (xs = ys) = false) := hideIt (decide_eq_false fun e => hl (by rw [e]))
    clear hl
    go_enter Try.func30, Try.ntmps30
    go_wp2_with fail
    go_ret
    exact ⟨by rw [HXY.out]; rfl, Fr.refl _ _⟩

theorem kpick_any (x : Int) (n : Nat) (hn : 1 ≤ n) (hb : n ≤ 1000000) (w : World) : Calls Try.prog 37 #[.int .i64 x, .int .i64 n] w fun e w' => (∃ r : Nat, e = .returned (.int .i64 r) ∧ r < n) ∧ w' = w := by
  have hn0 : ((n : Int) == 0) = false := by simp; omega
  have hn1 : ¬ (n : Int) < 1 := by omega
  have h1 := Int.tmod_lt_of_pos x (show (0 : Int) < n by omega)
  have h2 := Int.lt_tmod_of_pos x (show (0 : Int) < n by omega)
  go_enter Try.func37, Try.ntmps37
  go_wp2
  all_goals
    go_ret
    first | exact ⟨⟨(x.tmod n + n).toNat, by rw [Int.toNat_of_nonneg (by omega)]; rfl, by omega⟩, rfl⟩ | exact ⟨⟨(x.tmod n).toNat, by rw [Int.toNat_of_nonneg (by omega)]; rfl, by omega⟩, rfl⟩

end Go.Proofs.Ytefikadaiconaaa
