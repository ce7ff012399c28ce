/- KeysMeets, part 3 of the road: what the program's functions do, each by its own walk. -/
import Derived.Test.YtnjogpojikjflaaQ2
import Derived.Deep.RegionWith
import Derived.Deep.RegionHeld2
import Derived.Deep.RegionHeld3
import Derived.Lib.MinMaxS

/- Spans: the small functions, of the code and of the document. -/
namespace Go.Proofs.Ytnjogpojikjflaa
open Go.RowKit Go.IntWalk
set_option linter.unusedSimpArgs false
set_option linter.unusedVariables false
set_option maxRecDepth 100000

/-- How a text stands to another one. -/
def cmpS (a b : By) : Int := if a < b then -1 else if a = b then 0 else 1

theorem cmp_any (a b : ByteArray) (w : World) : Calls Try.prog 47 #[.string a, .string b] w fun e w' => e = .returned (.int .i64 (cmpS a.toList b.toList)) ∧ w' = w := by
  go_enter Try.func47, Try.ntmps47
  go_wp2
  all_goals
    go_ret
    refine ⟨?_, rfl⟩
    simp_all [cmpS, bytesLess_eq]

/-- How a span's end stands to a key. -/
def endS (h k : By) : Int := if h = [] then 1 else cmpS h k

theorem end_any (s : Sp) (k : ByteArray) (w : World) : Calls Try.prog 60 #[.agg #[.string s.1, .string s.2], .string k] w fun e w' => e = .returned (.int .i64 (endS (hi s) k.toList)) ∧ Fr (fun _ => False) w w' := by
  go_enter Try.func60, Try.ntmps60
  go_wp2_with (go_at_call 47; refine (cmp_any _ _ _).mono ?_; rintro e w' ⟨rfl, rfl⟩)
  all_goals
    go_ret
    refine ⟨?_, (Fr.refl _ _).alloc _⟩
    simp_all [endS, hi]

theorem endS_pos (h k : By) : 0 < endS h k ↔ h = [] ∨ k < h := by
  unfold endS cmpS
  by_cases e : h = []
  · simp [e]
  · simp only [e, if_false, false_or]
    rcases by_tri h k with h1 | h1 | h1
    · have h2 : ¬ k < h := fun e => List.lt_irrefl _ (List.lt_trans e h1)
      simp [h1, h2]
    · subst h1
      simp [List.lt_irrefl]
    · have h2 : ¬ h < k := fun e => List.lt_irrefl _ (List.lt_trans e h1)
      have h3 : ¬ h = k := fun e => List.lt_irrefl _ (e ▸ h1)
      simp [h1, h2, h3]

theorem endS_neg (h k : By) : endS h k < 0 ↔ h ≠ [] ∧ h < k := by
  unfold endS cmpS
  by_cases e : h = []
  · simp [e]
  · simp only [e, if_false, ne_eq, not_false_eq_true, true_and]
    by_cases h1 : h < k
    · simp [h1]
    · by_cases h2 : h = k
      · subst h2
        simp [h1]
      · simp [h1, h2]

theorem le_iff (a b : By) : (Op.bytesLess a b || a == b) = decide (¬ b < a) := by
  rw [bytesLess_eq]
  rcases by_tri a b with h | h | h
  · have h2 : ¬ b < a := fun e => List.lt_irrefl _ (List.lt_trans e h)
    simp [h, h2]
  · subst h
    simp [List.lt_irrefl]
  · have h2 : ¬ a < b := fun e => List.lt_irrefl _ (List.lt_trans e h)
    have h3 : ¬ a = b := fun e => List.lt_irrefl _ (e ▸ h)
    simp [h, h2, h3]

theorem le_iff' (a b : By) : (Op.bytesLess a b = true ∨ a = b) ↔ ¬ b < a := by
  have h := le_iff a b
  constructor
  · intro e
    have : (Op.bytesLess a b || a == b) = true := by rcases e with e | e <;> simp [e]
    rw [h] at this
    simpa using this
  · intro e
    have : (Op.bytesLess a b || a == b) = true := by rw [h]; simpa using e
    simpa using this

theorem rb {a b : Bool} (h : a = b) : Ending.returned (Value.bool a) = Ending.returned (Value.bool b) := by rw [h]

theorem in_v1 (s : Sp) (k : ByteArray) (n : Int) (h : 0 < n ↔ hi s = [] ∨ k.toList < hi s) : ((Op.bytesLess s.1.toList k.toList || s.1.toList == k.toList) && decide (0 < n)) = decide (KeyIn s k.toList) := by
  rw [le_iff, Bool.eq_iff_iff]
  simp only [Bool.and_eq_true, decide_eq_true_eq, h]
  rfl

theorem in_v2 (s : Sp) (k : ByteArray) (h : ¬ (Op.bytesLess s.1.toList k.toList = true ∨ s.1.toList = k.toList)) : false = decide (KeyIn s k.toList) := by
  rw [le_iff'] at h
  symm
  rw [decide_eq_false_iff_not]
  exact fun e => h e.1

theorem in_any (s : Sp) (k : ByteArray) (w : World) : Calls Try.prog 48 #[.agg #[.string s.1, .string s.2], .string k] w fun e w' => e = .returned (.bool (decide (KeyIn s k.toList))) ∧ Fr (fun _ => False) w w' := by
  have hE := hideIt (fun w => end_any s k w)
  have H0 := hideIt (endS_pos (hi s) k.toList)
  generalize hg : endS (hi s) k.toList = n at *
  go_enter Try.func48, Try.ntmps48
  go_wp2_with (go_at_call 60; refine (hE.out _).mono ?_; rintro e w' ⟨rfl, hF⟩)
  all_goals
    go_ret
    refine ⟨?_, ?_⟩
    · first | exact rb (in_v1 s k n H0.out) | exact rb (in_v2 s k ‹_›)
    · first | exact ((Fr.refl _ _).alloc _).trans hF (fun _ _ e => e) | exact (Fr.refl _ _).alloc _

theorem empty_any (s : Sp) (w : World) : Calls Try.prog 54 #[.agg #[.string s.1, .string s.2]] w fun e w' => e = .returned (.bool (decide (¬ NonE s))) ∧ Fr (fun _ => False) w w' := by
  have hE := hideIt (fun w => end_any s s.1 w)
  have h0 : 0 < endS (hi s) s.1.toList ↔ NonE s := endS_pos (hi s) (lo s)
  have H0 := hideIt h0
  clear h0
  generalize hg : endS (hi s) s.1.toList = n at *
  go_enter Try.func54, Try.ntmps54
  go_wp2_with (go_at_call 60; refine (hE.out _).mono ?_; rintro e w' ⟨rfl, hF⟩)
  all_goals
    go_ret
    refine ⟨?_, ?_⟩
    · refine rb (a := decide (n ≤ 0)) ?_
      have h0 := H0.out
      rw [Bool.eq_iff_iff]
      simp only [decide_eq_true_eq, ← h0]
      omega
    · first | exact ((Fr.refl _ _).alloc _).trans hF (fun _ _ e => e) | exact (Fr.refl _ _).alloc _

theorem out_v1 (s t : Sp) (n : Int) (h : 0 < n ↔ hi s = [] ∨ hi t < hi s) : (!t.2.toList.isEmpty && decide (0 < n)) = decide (outl s t) := by
  rw [Bool.eq_iff_iff]
  simp only [Bool.and_eq_true, decide_eq_true_eq, h]
  simp [outl, hi]

theorem out_v2 (s t : Sp) (h : (!t.2.toList.isEmpty) = false) : false = decide (outl s t) := by
  symm
  rw [decide_eq_false_iff_not]
  rintro ⟨e, _⟩
  apply e
  simpa [hi] using h

theorem outlasts_any (s t : Sp) (w : World) : Calls Try.prog 65 #[.agg #[.string s.1, .string s.2], .agg #[.string t.1, .string t.2]] w fun e w' => e = .returned (.bool (decide (outl s t))) ∧ Fr (fun _ => False) w w' := by
  have hE := hideIt (fun w => end_any s t.2 w)
  have h0 : 0 < endS (hi s) t.2.toList ↔ hi s = [] ∨ hi t < hi s := endS_pos (hi s) (hi t)
  have H0 := hideIt h0
  clear h0
  generalize hg : endS (hi s) t.2.toList = n at *
  by_cases ht : (!t.2.toList.isEmpty) = true
  · go_enter Try.func65, Try.ntmps65
    go_wp2_with (go_at_call 60; refine (hE.out _).mono ?_; rintro e w' ⟨rfl, hF⟩)
    go_ret
    refine ⟨?_, (((Fr.refl _ _).alloc _).alloc _).trans hF (fun _ _ e => e)⟩
    refine Eq.trans ?_ (rb (out_v1 s t n H0.out))
    rw [ht]
    rfl
  · have ht' : (!t.2.toList.isEmpty) = false := by simpa using ht
    clear ht
    go_enter Try.func65, Try.ntmps65
    go_wp2_with (go_at_call 60; refine (hE.out _).mono ?_; rintro e w' ⟨rfl, hF⟩)
    go_ret
    exact ⟨rb (out_v2 s t ht'), ((Fr.refl _ _).alloc _).alloc _⟩

theorem meets_lo (a b : Sp) (w : World) : (Builtin.max_ #[9, 9] 9 #[.string a.1, .string b.1]).run Try.prog w = .ok (.string (Lib.maxS a.1 b.1)) w := Lib.run_max_strs w _ _ _ _

theorem Fr.cell0 {w w' : World} (h : Fr (fun _ => False) w w') {a : Addr} {v : Value} (hc : w.cell? a = some v) : w'.cell? a = some v := (World.cell?_of_block (h.block _ (block_lt_of_cell hc) (fun e => e))).trans hc

theorem cellNew (w : World) (cs : Array Value) (t : TypeId) (b j : Nat) (hb : b = w.heap.size) : (w.alloc (.cells cs t)).cell? ⟨b, j, none⟩ = cs[j]? := by subst hb; exact World.cell?_alloc_at _ _ _ _ rfl

/-- The key right behind. -/
def bhd (k : ByteArray) : ByteArray := k ++ ⟨#[0]⟩

theorem bhd_toList (k : ByteArray) : (bhd k).toList = k.toList ++ [0] := by
  simp [bhd, Lib.toList_data]

/-- A span up to a key. -/
def uptoS (s : Sp) (k : ByteArray) : Sp := if endS (hi s) (bhd k).toList ≤ 0 then s else (s.1, bhd k)

theorem Fr.frozen0 {w w' : World} (h : Fr (fun _ => False) w w') {b : Nat} (hb : b < w.heap.size) (j : Nat) : w'.frozen? ⟨b, j, none⟩ = w.frozen? ⟨b, j, none⟩ := by
  simp only [World.frozen?, h.block b hb (fun e => e)]

theorem frozenNew (w : World) (cs : Array Value) (t : TypeId) (b j : Nat) (hb : b = w.heap.size) : (w.alloc (.cells cs t)).frozen? ⟨b, j, none⟩ = false := by subst hb; exact frozen_of_row _ _ _ _ _ (heap_alloc_new w _)

end Go.Proofs.Ytnjogpojikjflaa
