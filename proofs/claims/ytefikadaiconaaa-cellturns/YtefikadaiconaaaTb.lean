/- Spans: the small functions, of the code and of the document. -/
import Derived.Test.YtefikadaiconaaaTa
import Derived.Deep.RegionWith
import Derived.Deep.RegionHeld2
import Derived.Deep.RegionHeld3
import Derived.Lib.MinMaxS
namespace Go.Proofs.Ytefikadaiconaaa
open Go.RowKit Go.IntWalk
set_option linter.unusedSimpArgs false
set_option linter.unusedVariables false

/-- How a text stands to another one. -/
def cmpS (a b : By) : Int := if a < b then -1 else if a = b then 0 else 1

theorem cmp_any (a b : ByteArray) (w : World) : Calls Try.prog 56 #[.string a, .string b] w fun e w' => e = .returned (.int .i64 (cmpS a.toList b.toList)) ∧ w' = w := by
  go_enter Try.func56, Try.ntmps56
  go_wp2
  all_goals
    go_ret
    refine ⟨?_, rfl⟩
    simp_all [cmpS, bytesLess_eq]

/-- How a span's end stands to a key. -/
def endS (h k : By) : Int := if h = [] then 1 else cmpS h k

theorem end_any (s : Sp) (k : ByteArray) (w : World) : Calls Try.prog 50 #[.agg #[.string s.1, .string s.2], .string k] w fun e w' => e = .returned (.int .i64 (endS (hi s) k.toList)) ∧ Fr (fun _ => False) w w' := by
  go_enter Try.func50, Try.ntmps50
  go_wp2_with (go_at_call 56; refine (cmp_any _ _ _).mono ?_; rintro e w' ⟨rfl, rfl⟩)
  all_goals
    go_ret
    refine ⟨?_, (Fr.refl _ _).alloc _⟩
    simp_all [endS, hi]

theorem endS_pos (h k : By) : 0 < endS h k ↔ h = [] ∨ k < h := by
  unfold endS cmpS
  by_cases e : h = []
  · simp [e]
  · simp only [e, if_false, false_or]
    rcases by_tri h k with h1 | h1 | h1
    · have h2 : ¬ k < h := fun e => List.lt_irrefl _ (List.lt_trans e h1)
      simp [h1, h2]
    · subst h1
      simp [List.lt_irrefl]
    · have h2 : ¬ h < k := fun e => List.lt_irrefl _ (List.lt_trans e h1)
      have h3 : ¬ h = k := fun e => List.lt_irrefl _ (e ▸ h1)
      simp [h1, h2, h3]

theorem endS_neg (h k : By) : endS h k < 0 ↔ h ≠ [] ∧ h < k := by
  unfold endS cmpS
  by_cases e : h = []
  · simp [e]
  · simp only [e, if_false, ne_eq, not_false_eq_true, true_and]
    by_cases h1 : h < k
    · simp [h1]
    · by_cases h2 : h = k
      · subst h2
        simp [h1]
      · simp [h1, h2]

theorem le_iff (a b : By) : (Op.bytesLess a b || a == b) = decide (¬ b < a) := by
  rw [bytesLess_eq]
  rcases by_tri a b with h | h | h
  · have h2 : ¬ b < a := fun e => List.lt_irrefl _ (List.lt_trans e h)
    simp [h, h2]
  · subst h
    simp [List.lt_irrefl]
  · have h2 : ¬ a < b := fun e => List.lt_irrefl _ (List.lt_trans e h)
    have h3 : ¬ a = b := fun e => List.lt_irrefl _ (e ▸ h)
    simp [h, h2, h3]

theorem le_iff' (a b : By) : (Op.bytesLess a b = true ∨ a = b) ↔ ¬ b < a := by
  have h := le_iff a b
  constructor
  · intro e
    have : (Op.bytesLess a b || a == b) = true := by rcases e with e | e <;> simp [e]
    rw [h] at this
    simpa using this
  · intro e
    have : (Op.bytesLess a b || a == b) = true := by rw [h]; simpa using e
    simpa using this

theorem rb {a b : Bool} (h : a = b) : Ending.returned (Value.bool a) = Ending.returned (Value.bool b) := by rw [h]

theorem in_v1 (s : Sp) (k : ByteArray) (n : Int) (h : 0 < n ↔ hi s = [] ∨ k.toList < hi s) : ((Op.bytesLess s.1.toList k.toList || s.1.toList == k.toList) && decide (0 < n)) = decide (KeyIn s k.toList) := by
  rw [le_iff, Bool.eq_iff_iff]
  simp only [Bool.and_eq_true, decide_eq_true_eq, h]
  rfl

theorem in_v2 (s : Sp) (k : ByteArray) (h : ¬ (Op.bytesLess s.1.toList k.toList = true ∨ s.1.toList = k.toList)) : false = decide (KeyIn s k.toList) := by
  rw [le_iff'] at h
  symm
  rw [decide_eq_false_iff_not]
  exact fun e => h e.1

theorem in_any (s : Sp) (k : ByteArray) (w : World) : Calls Try.prog 35 #[.agg #[.string s.1, .string s.2], .string k] w fun e w' => e = .returned (.bool (decide (KeyIn s k.toList))) ∧ Fr (fun _ => False) w w' := by
  have hE := hideIt (fun w => end_any s k w)
  have H0 := hideIt (endS_pos (hi s) k.toList)
  generalize hg : endS (hi s) k.toList = n at *
  go_enter Try.func35, Try.ntmps35
  go_wp2_with (go_at_call 50; refine (hE.out _).mono ?_; rintro e w' ⟨rfl, hF⟩)
  all_goals
    go_ret
    refine ⟨?_, ?_⟩
    · first | exact rb (in_v1 s k n H0.out) | exact rb (in_v2 s k ‹_›)
    · first | exact ((Fr.refl _ _).alloc _).trans hF (fun _ _ e => e) | exact (Fr.refl _ _).alloc _

theorem out_v1 (s t : Sp) (n : Int) (h : 0 < n ↔ hi s = [] ∨ hi t < hi s) : (!t.2.toList.isEmpty && decide (0 < n)) = decide (outl s t) := by
  rw [Bool.eq_iff_iff]
  simp only [Bool.and_eq_true, decide_eq_true_eq, h]
  simp [outl, hi]

theorem out_v2 (s t : Sp) (h : (!t.2.toList.isEmpty) = false) : false = decide (outl s t) := by
  symm
  rw [decide_eq_false_iff_not]
  rintro ⟨e, _⟩
  apply e
  simpa [hi] using h

theorem meets_lo (a b : Sp) (w : World) : (Builtin.max_ #[9, 9] 9 #[.string a.1, .string b.1]).run Try.prog w = .ok (.string (Lib.maxS a.1 b.1)) w := Lib.run_max_strs w _ _ _ _

theorem Fr.cell0 {w w' : World} (h : Fr (fun _ => False) w w') {a : Addr} {v : Value} (hc : w.cell? a = some v) : w'.cell? a = some v := (World.cell?_of_block (h.block _ (block_lt_of_cell hc) (fun e => e))).trans hc

theorem cellNew (w : World) (cs : Array Value) (t : TypeId) (b j : Nat) (hb : b = w.heap.size) : (w.alloc (.cells cs t)).cell? ⟨b, j, none⟩ = cs[j]? := by subst hb; exact World.cell?_alloc_at _ _ _ _ rfl

/-- The key right behind. -/
def bhd (k : ByteArray) : ByteArray := k ++ ⟨#[0]⟩

theorem bhd_toList (k : ByteArray) : (bhd k).toList = k.toList ++ [0] := by
  simp [bhd, Lib.toList_data]

/-- A span up to a key. -/
def uptoS (s : Sp) (k : ByteArray) : Sp := if endS (hi s) (bhd k).toList ≤ 0 then s else (s.1, bhd k)

theorem behind_any (k : ByteArray) (hk : k.size < 9223372036854775807) (w : World) : Calls Try.prog 51 #[.string k] w fun e w' => e = .returned (.string (bhd k)) ∧ w' = w := by
  go_enter Try.func51, Try.ntmps51
  go_wp2
  go_ret
  exact ⟨rfl, rfl⟩

theorem Fr.frozen0 {w w' : World} (h : Fr (fun _ => False) w w') {b : Nat} (hb : b < w.heap.size) (j : Nat) : w'.frozen? ⟨b, j, none⟩ = w.frozen? ⟨b, j, none⟩ := by
  simp only [World.frozen?, h.block b hb (fun e => e)]

theorem frozenNew (w : World) (cs : Array Value) (t : TypeId) (b j : Nat) (hb : b = w.heap.size) : (w.alloc (.cells cs t)).frozen? ⟨b, j, none⟩ = false := by subst hb; exact frozen_of_row _ _ _ _ _ (heap_alloc_new w _)

theorem upto_any (s : Sp) (k : ByteArray) (hk : k.size < 9223372036854775807) (w : World) : Calls Try.prog 36 #[.agg #[.string s.1, .string s.2], .string k] w fun e w' => e = .returned (.agg #[.string (uptoS s k).1, .string (uptoS s k).2]) ∧ Fr (fun _ => False) w w' := by
  have hE := hideIt (fun w => end_any s (bhd k) w)
  unfold uptoS
  generalize hg : endS (hi s) (bhd k).toList = n at *
  clear hg
  have hB := hideIt (behind_any k hk)
  clear hk
  have C : ∀ (w' : World), Fr (fun _ => False) ((w.alloc (.cells #[.string s.1, .string s.2] 24)).alloc (.cells #[.string ⟨#[]⟩, .string ⟨#[]⟩] 24)) w' → w'.cell? ⟨w.heap.size, 0, none⟩ = some (.string s.1) ∧ w'.cell? ⟨w.heap.size, 1, none⟩ = some (.string s.2) ∧ w'.cell? ⟨w.heap.size + 1, 0, none⟩ = some (.string ⟨#[]⟩) ∧ w'.cell? ⟨w.heap.size + 1, 1, none⟩ = some (.string ⟨#[]⟩) ∧ w'.frozen? ⟨w.heap.size + 1, 0, none⟩ = false ∧ w'.frozen? ⟨w.heap.size + 1, 1, none⟩ = false := fun w' h =>
    ⟨h.cell0 (cellA (cellNew w _ _ _ 0 rfl) _), h.cell0 (cellA (cellNew w _ _ _ 1 rfl) _), h.cell0 (cellNew _ _ _ _ 0 (by simp)), h.cell0 (cellNew _ _ _ _ 1 (by simp)), by rw [h.frozen0 (by simp)]; exact frozenNew _ _ _ _ _ (by simp), by rw [h.frozen0 (by simp)]; exact frozenNew _ _ _ _ _ (by simp)⟩
  have HC := hideIt C
  clear C
  have fin : ∀ (u v : Value) (w' : World), Fr (fun _ => False) ((w.alloc (.cells #[.string s.1, .string s.2] 24)).alloc (.cells #[.string ⟨#[]⟩, .string ⟨#[]⟩] 24)) w' → Fr (fun _ => False) w ((w'.setCell ⟨w.heap.size + 1, 0, none⟩ u).setCell ⟨w.heap.size + 1, 1, none⟩ v) := fun u v w' h =>
    Fr.setCell (Fr.setCell ((((Fr.refl _ _).alloc _).alloc _).trans h (fun _ _ e => e)) (fun e => by simp at e; omega) _) (fun e => by simp at e; omega) _
  have HF := hideIt fin
  clear fin
  by_cases h : n ≤ 0
  · simp only [h, if_true]
    go_enter Try.func36, Try.ntmps36
    go_wp2_with (first | (go_at_call 51; refine (hB.out _).mono ?_; rintro e w' ⟨rfl, rfl⟩) | (go_at_call 50; refine (hE.out _).mono ?_; rintro e w1 ⟨rfl, hF⟩; obtain ⟨c0, c1, c2, c3, c4, c5⟩ := HC.out _ hF))
    exact bodyPost_ret (v := .agg #[.string s.1, .string s.2]) (by simp [results, Try.results36, go_sem, c0, c1, c2, c3, c4, c5]) rfl ⟨rfl, HF.out _ _ _ hF⟩
  · simp only [h, if_false]
    go_enter Try.func36, Try.ntmps36
    go_wp2_with (first | (go_at_call 51; refine (hB.out _).mono ?_; rintro e w' ⟨rfl, rfl⟩) | (go_at_call 50; refine (hE.out _).mono ?_; rintro e w1 ⟨rfl, hF⟩; obtain ⟨c0, c1, c2, c3, c4, c5⟩ := HC.out _ hF))
    exact bodyPost_ret (v := .agg #[.string s.1, .string (bhd k)]) (by simp [results, Try.results36, go_sem, c0, c1, c2, c3, c4, c5]) rfl ⟨rfl, HF.out _ _ _ hF⟩
end Go.Proofs.Ytefikadaiconaaa
