/- Cell: states on paper; Key, value, Check, find. -/
import Derived.Test.YtefikadaiconaaaKd
import Derived.Laws.Shifts
namespace Go.Proofs.Ytefikadaiconaaa
open Go.RowKit Go.IntWalk
set_option linter.unusedSimpArgs false
set_option linter.unusedVariables false

def keyB (k : ByteArray) : Bool := !decide (k.size = 0) && decide (k.size ≤ 32)
def valB (v : ByteArray) : Bool := decide (v.size ≤ 64)

/-- Pairs whose keys are keys, and rise, whose values are values. -/
structure Stt (l : List Sp) : Prop where
  keys : ∀ p ∈ l, keyB p.1 = true
  vals : ∀ p ∈ l, valB p.2 = true
  rises : Rises (l.map Prod.fst)

theorem pk_empty (k : ByteArray) : k.toList.isEmpty = decide (k.size = 0) := by
  rw [Lib.toList_data, Bool.eq_iff_iff, decide_eq_true_eq, List.isEmpty_iff]
  exact ⟨fun h => by have := congrArg List.length h; simpa using this, fun h => List.eq_nil_of_length_eq_zero (by simpa using h)⟩

theorem ekey_any (k : ByteArray) (w : World) : Calls Try.prog 20 #[.string k] w fun e w' => e = .returned (.bool (keyB k)) ∧ w' = w := by
  have h1 := pk_empty k
  unfold keyB
  by_cases h0 : k.size = 0
  · have e : k.toList.isEmpty = true := by rw [h1]; exact decide_eq_true h0
    have e2 : (!k.toList.isEmpty) = false := by rw [e]; rfl
    rw [decide_eq_true h0]
    go_enter Try.func20, Try.ntmps20
    go_wp2
    go_ret
    exact ⟨rfl, rfl⟩
  · have e : k.toList.isEmpty = false := by rw [h1]; exact decide_eq_false h0
    have e2 : (!k.toList.isEmpty) = true := by rw [e]; rfl
    rw [decide_eq_false h0]
    go_enter Try.func20, Try.ntmps20
    go_wp2
    go_ret
    refine ⟨rb ?_, rfl⟩
    rw [Bool.eq_iff_iff]
    simp
    omega

theorem evalue_any (v : ByteArray) (w : World) : Calls Try.prog 42 #[.string v] w fun e w' => e = .returned (.bool (valB v)) ∧ w' = w := by
  unfold valB
  go_enter Try.func42, Try.ntmps42
  go_wp2
  go_ret
  refine ⟨rb ?_, rfl⟩
  rw [Bool.eq_iff_iff]
  simp
  omega

theorem sps_get {w : World} {ao : Option Addr} {l : List Sp} (h : l = [] ∨ SpsAt w ao l) (k : Nat) (hk : k < l.length) : ∃ b off, ao = some ⟨b, off, none⟩ ∧ b < w.heap.size ∧ w.cell? ⟨b, off + k * 2, none⟩ = some (.string l[k].1) ∧ w.cell? ⟨b, off + k * 2 + 1, none⟩ = some (.string l[k].2) := by
  rcases h with h | ⟨_, h⟩ | ⟨b, off, h1, h2, h3⟩
  · subst h; simp at hk
  · subst h; simp at hk
  · exact ⟨b, off, h1, h2, h3 k hk⟩

theorem sats_fr0 {w w' : World} {ao : Option Addr} {l : List Sp} (h : l = [] ∨ SpsAt w ao l) (hF : Fr (fun _ => False) w w') : l = [] ∨ SpsAt w' ao l := h.imp_right fun h => h.fr0 hF

/-- The place of the first pair whose key is not less than one. -/
def placeL (l : List Sp) (k : ByteArray) : Nat := (l.takeWhile fun p => decide (kLt p.1 k)).length
/-- Whether that pair's key is just that one. -/
def hereB (l : List Sp) (k : ByteArray) : Bool := (l.drop (placeL l k)).head?.any fun p => decide (p.1 = k)

theorem placeL_le (l : List Sp) (k : ByteArray) : placeL l k ≤ l.length := List.Sublist.length_le (List.takeWhile_sublist _)
theorem rises_lt {l : List Sp} (h : Rises (l.map Prod.fst)) {i j : Nat} (hij : i < j) (hj : j < l.length) : kLt (l[i]'(by omega)).1 l[j].1 := by
  have := List.pairwise_iff_getElem.1 h i j (by simp; omega) (by simpa using hj) hij
  simpa using this
theorem place_nil (k : ByteArray) : placeL [] k = 0 := rfl
theorem place_cons_lt (p : Sp) (l : List Sp) (k : ByteArray) (h : kLt p.1 k) : placeL (p :: l) k = placeL l k + 1 := by
  unfold placeL
  rw [List.takeWhile_cons, if_pos (by simpa using h)]
  rfl
theorem place_cons_ge (p : Sp) (l : List Sp) (k : ByteArray) (h : ¬ kLt p.1 k) : placeL (p :: l) k = 0 := by
  unfold placeL
  rw [List.takeWhile_cons, if_neg (by simpa using h)]
  rfl
theorem place_iff : ∀ (l : List Sp) (k : ByteArray), Rises (l.map Prod.fst) → ∀ (t : Nat) (ht : t < l.length), kLt l[t].1 k ↔ t < placeL l k
  | [], _, _, t, ht => absurd ht (by simp)
  | p :: l, k, h, t, ht => by
    have hr : Rises (l.map Prod.fst) := (List.pairwise_cons.1 h).2
    by_cases hp : kLt p.1 k
    · rw [place_cons_lt p l k hp]
      cases t with
      | zero => simpa using hp
      | succ t =>
        have := place_iff l k hr t (by simpa using ht)
        simpa using this
    · rw [place_cons_ge p l k hp]
      refine ⟨fun h2 => ?_, fun h2 => absurd h2 (by omega)⟩
      exfalso
      cases t with
      | zero => exact hp h2
      | succ t => exact hp (kLt_trans (rises_lt h (i := 0) (j := t + 1) (by omega) ht) h2)
theorem here_get (l : List Sp) (k : ByteArray) : hereB l k = true ↔ ∃ h : placeL l k < l.length, l[placeL l k].1 = k := by
  unfold hereB
  rw [List.head?_drop]
  by_cases h : placeL l k < l.length
  · rw [List.getElem?_eq_getElem h]
    simp [h]
  · rw [List.getElem?_eq_none (by omega)]
    simp [h]

set_option maxRecDepth 100000 in
set_option maxHeartbeats 1000000 in
theorem eagainst_any (k : ByteArray) (ao : Option Addr) (cap : Nat) (l : List Sp) (i : Nat) (hi : i < l.length) (hl : l.length ≤ 1099511627776) (w : World) (h : l = [] ∨ SpsAt w ao l) :
    Calls Try.prog 53 #[.agg #[.string k, .slice ao l.length cap], .int .i64 i] w fun e w' => e = .returned (.int .i64 (cmpS k.toList l[i].1.toList)) ∧ Fr (fun _ => False) w w' := by
  obtain ⟨b, off, rfl, hb, c0, _⟩ := sps_get (sats_fr0 h ((Fr.refl _ w).alloc (.cells #[.string k, .slice ao l.length cap] 81))) i hi
  have HC := hideIt (fun u => cmp_any k l[i].1 u)
  have hi' : (i : Int) < (l.length : Int) := by omega
  clear h
  generalize l[i].1 = x at *
  generalize cmpS k.toList x.toList = c at *
  go_enter Try.func53, Try.ntmps53
  go_wp2_with fail
  go_quiet ((go_at_call 56; exact Calls.quiet_of_same (HC.out _)))
  go_wp2_with fail
  go_ret
  exact ⟨rfl, ((Fr.refl _ _).alloc _).drewN _⟩

theorem cmpS_pos (a b : By) : 0 < cmpS a b ↔ b < a := by
  unfold cmpS
  rcases by_tri a b with h | h | h
  · have h2 : ¬ b < a := fun e => List.lt_irrefl _ (List.lt_trans e h)
    simp [h, h2]
  · subst h
    simp [List.lt_irrefl]
  · have h2 : ¬ a < b := fun e => List.lt_irrefl _ (List.lt_trans e h)
    have h3 : ¬ a = b := fun e => List.lt_irrefl _ (e ▸ h)
    simp [h, h2, h3]
theorem cmpS_nought (a b : By) : cmpS a b = 0 ↔ a = b := by
  unfold cmpS
  split
  · rename_i h; exact ⟨fun e => absurd e (by decide), fun e => by subst e; exact absurd h (List.lt_irrefl _)⟩
  · split
    · rename_i h; exact ⟨fun _ => h, fun _ => rfl⟩
    · rename_i h; exact ⟨fun e => absurd e (by decide), fun e => absurd e h⟩

set_option maxRecDepth 100000 in
set_option maxHeartbeats 2000000 in
theorem lfind_any (k : ByteArray) (ao : Option Addr) (cap : Nat) (l : List Sp) (hr : Rises (l.map Prod.fst)) (hl : l.length ≤ 1099511627776) (w : World) (h : l = [] ∨ SpsAt w ao l) :
    Calls Try.prog 52 #[.int .i64 l.length, .func (.func 53) #[.agg #[.string k, .slice ao l.length cap]] #[]] w fun e w' => e = .returned (.tuple #[.int .i64 (placeL l k), .bool (hereB l k)]) ∧ Fr (fun _ => False) w w' := by
  have HH := hideIt h
  have HP := hideIt (place_iff l k hr)
  have hpl := placeL_le l k
  have HB := hideIt (here_get l k)
  clear h hr
  generalize placeL l k = P at *
  generalize hereB l k = hb at *
  go_enter Try.func52, Try.ntmps52
  go_wp2_with fail
  go_loopw [4, 6] (fun s4 s6 wr => ∃ i j : Nat, s4 = .int .i64 i ∧ s6 = .int .i64 j ∧ i ≤ P ∧ P ≤ j ∧ j ≤ l.length ∧ Hid (Fr (fun _ => False) w wr)) (fun s4 s6 _ => (intOf s6).toNat - (intOf s4).toNat)
  case atStart => exact ⟨0, l.length, rfl, rfl, Nat.zero_le _, hpl, Nat.le_refl _, hideIt (Fr.refl _ _)⟩
  case round =>
    obtain ⟨i, j, rfl, rfl, hiP, hPj, hjl, HF⟩ := hrel
    by_cases hlt : i < j
    · have hm : (i + j) / 2 < l.length := by omega
      have hA := hideIt (eagainst_any k ao cap l ((i + j) / 2) hm hl wr (sats_fr0 HH.out HF.out))
      have HX := hideIt (HP.out ((i + j) / 2) hm)
      have hcx := cmpS_pos k.toList l[(i + j) / 2].1.toList
      have HM := hideIt (show i ≤ (i + j) / 2 ∧ (i + j) / 2 < j by omega)
      generalize cmpS k.toList l[(i + j) / 2].1.toList = c at *
      by_cases hc : 0 < c
      · have HY := hideIt (HX.out.1 (hcx.1 hc))
        clear hcx HX
        go_wp2_with fail
        refine Calls.mono hA.out ?_
        rintro e w' ⟨rfl, hF⟩
        have HG := hideIt (HF.out.trans hF (fun _ _ e => e))
        clear hF
        go_wp2_with fail
        go_roundw
        case measure => simp [intOf]; omega
        case rel => exact ⟨(i + j) / 2 + 1, j, by rw [show ((i : Int) + (j : Int)) / 2 + 1 = (((i + j) / 2 + 1 : Nat) : Int) by omega], rfl, by have := HY.out; omega, hPj, hjl, HG⟩
      · have HY := hideIt (show ¬ (i + j) / 2 < P from fun e => hc (hcx.2 (HX.out.2 e)))
        clear hcx HX
        go_wp2_with fail
        refine Calls.mono hA.out ?_
        rintro e w' ⟨rfl, hF⟩
        have HG := hideIt (HF.out.trans hF (fun _ _ e => e))
        clear hF
        go_wp2_with fail
        go_roundw
        case measure => simp [intOf]; omega
        case rel => exact ⟨i, (i + j) / 2, rfl, by rw [show ((i : Int) + (j : Int)) / 2 = (((i + j) / 2 : Nat) : Int) by omega], hiP, by have := HY.out; omega, by omega, HG⟩
    · obtain rfl : j = P := by omega
      obtain rfl : i = j := by omega
      by_cases hn : i < l.length
      · have hA := hideIt (eagainst_any k ao cap l i hn hl wr (sats_fr0 HH.out HF.out))
        have HZ := hideIt (show hb = decide (cmpS k.toList l[i].1.toList = 0) by
          rw [Bool.eq_iff_iff, HB.out, decide_eq_true_eq, cmpS_nought]
          exact ⟨fun ⟨_, e⟩ => by rw [e], fun e => ⟨hn, (toList_inj e).symm⟩⟩)
        generalize cmpS k.toList l[i].1.toList = c at *
        go_wp2_with fail
        refine Calls.mono hA.out ?_
        rintro e w' ⟨rfl, hF⟩
        have HG := hideIt (HF.out.trans hF (fun _ _ e => e))
        clear hF
        go_wp2_with fail
        go_ret2
        refine ⟨?_, HG.out⟩
        rw [HZ.out]
        rfl
      · have HZ := hideIt (show hb = false by
          cases hb with
          | false => rfl
          | true => exact absurd (HB.out.1 rfl).1 hn)
        obtain rfl : i = l.length := by omega
        go_wp2_with fail
        go_ret2
        refine ⟨?_, HF.out⟩
        rw [HZ.out]
        rfl

set_option maxRecDepth 100000 in
set_option maxHeartbeats 1000000 in
theorem efind_any (k : ByteArray) (ao : Option Addr) (cap : Nat) (l : List Sp) (hr : Rises (l.map Prod.fst)) (hl : l.length ≤ 1099511627776) (w : World) (h : l = [] ∨ SpsAt w ao l) :
    Calls Try.prog 39 #[.slice ao l.length cap, .string k] w fun e w' => e = .returned (.tuple #[.int .i64 (placeL l k), .bool (hereB l k)]) ∧ Fr (fun _ => False) w w' := by
  have HL := hideIt (fun u hF => lfind_any k ao cap l hr hl u (sats_fr0 h hF))
  clear h hr
  generalize placeL l k = P at *
  generalize hereB l k = hb at *
  go_enter Try.func39, Try.ntmps39
  go_wp2_with fail
  refine Calls.mono (HL.out _ (Fr.refl _ _)) ?_
  rintro e w' ⟨rfl, hF⟩
  go_wp2_with fail
  go_ret2
  exact ⟨rfl, hF⟩

end Go.Proofs.Ytefikadaiconaaa
