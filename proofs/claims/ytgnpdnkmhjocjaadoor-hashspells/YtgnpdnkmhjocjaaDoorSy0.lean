/- Package hash, the document's: place, Text, walked. -/
import Derived.Test.YtgnpdnkmhjocjaaDoorSo
namespace Go.Proofs.YtgnpdnkmhjocjaaDoor
open Go.RowKit Go.IntWalk
set_option linter.unusedSimpArgs false
set_option linter.unusedVariables false

/-- Which digit a byte is. -/
def plc (c : Nat) : Nat := if isDg c then dgN c else 16
set_option maxRecDepth 100000 in
theorem plc_first : ∀ c, c < 256 → ∀ i, i < 16 → ((hexC i).toNat = c ↔ plc c = i) := by decide
theorem run_digit64 (k : Nat) (hk : k < 16) (w : World) : (Instr.index 9 (.string ⟨#[48, 49, 50, 51, 52, 53, 54, 55, 56, 57, 97, 98, 99, 100, 101, 102]⟩) (.int .i64 (k : Int))).run Tryd.prog w = .ok (.int .u8 ((hexC k).toNat : Int)) w := by
  obtain rfl | rfl | rfl | rfl | rfl | rfl | rfl | rfl | rfl | rfl | rfl | rfl | rfl | rfl | rfl | rfl : k = 0 ∨ k = 1 ∨ k = 2 ∨ k = 3 ∨ k = 4 ∨ k = 5 ∨ k = 6 ∨ k = 7 ∨ k = 8 ∨ k = 9 ∨ k = 10 ∨ k = 11 ∨ k = 12 ∨ k = 13 ∨ k = 14 ∨ k = 15 := by omega
  all_goals rfl
theorem xplace_any (c : UInt8) (w : World) : Calls Tryd.prog 36 #[.int .u8 (c.toNat : Int)] w fun e w' => e = .returned (.int .i64 (plc c.toNat : Int)) ∧ w' = w := by
  have HF := hideIt (plc_first c.toNat c.toNat_lt)
  obtain ⟨m, hm⟩ : ∃ m, c.toNat = m := ⟨_, rfl⟩
  rw [hm] at HF ⊢
  have hm2 : m < 256 := by rw [← hm]; exact c.toNat_lt
  have HP := hideIt (show plc m ≤ 16 by have := dgN_lt m; unfold plc; split <;> omega)
  obtain ⟨p, hp⟩ : ∃ p, plc m = p := ⟨_, rfl⟩
  rw [hp] at HF HP ⊢
  have HPP := hideIt hp
  clear hp hm
  go_enter Tryd.func36, Tryd.ntmps36
  go_wp2_with fail
  go_loopw [3] (fun s3 wr => ∃ i : Nat, s3 = .int .i64 i ∧ i ≤ p ∧ Hid (wr = w)) (fun s3 _ => 16 - (intOf s3).toNat)
  case atStart => exact ⟨0, rfl, by omega, hideIt rfl⟩
  case round =>
    obtain ⟨i, rfl, hi, HW⟩ := hrel
    obtain rfl := HW.out
    have h16 := HP.out
    by_cases hlt : i < 16
    · have h1 : (i : Int) < 16 := by omega
      have hd := run_digit64 i hlt wr
      have hf := HF.out i hlt
      by_cases hip : i = p
      · have hv := hf.2 hip.symm
        have hvi : ((hexC i).toNat : Int) = (m : Int) := by omega
        rw [hvi] at hd
        subst hip
        clear hf hv hvi
        go_wp2_with fail
        go_ret
        exact ⟨rfl, rfl⟩
      · have hv : ¬ (hexC i).toNat = m := fun e => hip (hf.1 e).symm
        obtain ⟨x, hx⟩ : ∃ x, (hexC i).toNat = x := ⟨_, rfl⟩
        rw [hx] at hd hv
        have hvi : ¬ (x : Int) = (m : Int) := by omega
        have hvb : (x == m) = false := by simpa using hv
        clear hf hx
        go_wp2_with fail
        go_roundw
        case measure => simp [intOf]; omega
        case rel => exact ⟨i + 1, by go_num, by omega, hideIt trivial⟩
    · obtain rfl : i = 16 := by omega
      obtain rfl : p = 16 := by omega
      go_wp2_with fail
      go_ret
      exact ⟨rfl, rfl⟩

theorem dig_ext (d : Nat) (hd : d < 16) : (⟨#[48, 49, 50, 51, 52, 53, 54, 55, 56, 57, 97, 98, 99, 100, 101, 102]⟩ : ByteArray).extract d (d + 1) = ⟨#[hexC d]⟩ := by
  obtain rfl | rfl | rfl | rfl | rfl | rfl | rfl | rfl | rfl | rfl | rfl | rfl | rfl | rfl | rfl | rfl : d = 0 ∨ d = 1 ∨ d = 2 ∨ d = 3 ∨ d = 4 ∨ d = 5 ∨ d = 6 ∨ d = 7 ∨ d = 8 ∨ d = 9 ∨ d = 10 ∨ d = 11 ∨ d = 12 ∨ d = 13 ∨ d = 14 ∨ d = 15 := by omega
  all_goals decide
theorem take_cat (l : List UInt8) (i : Nat) (hi : i < l.length) (c : UInt8) (hc : l.getD i 0 = c) : (⟨(l.take i).toArray⟩ : ByteArray) ++ ⟨#[c]⟩ = ⟨(l.take (i + 1)).toArray⟩ := by
  apply ByteArray.ext
  rw [ByteArray.data_append]
  apply Array.ext'
  have : l[i] = c := by rw [← hc]; simp [List.getD, hi]
  simp [← this]

set_option maxRecDepth 100000 in
set_option maxHeartbeats 2000000 in
theorem xtext_hash (x : List UInt8) (hx : x.length = 32) (w : World) : Calls Tryd.prog 23 #[.agg (bv x).toArray] w fun e w' => e = .returned (.string ⟨(hexL x).toArray⟩) ∧ Fr (fun _ => False) w w' := by
  obtain ⟨n, hn⟩ : ∃ n, w.heap.size = n := ⟨_, rfl⟩
  have HF0 := hideIt (show Fr (fun _ => False) w (w.alloc (.cells (bv x).toArray 30)) from (Fr.refl _ w).alloc _)
  have HX0 := hideIt (show (w.alloc (.cells (bv x).toArray 30)).heap[n]? = some (.cells (bv x).toArray 30 (0, 0)) from heap_new hn.symm)
  have HLX := hideIt hx
  have HLH := hideIt (show (hexL x).length = 64 by rw [hexL_len]; omega)
  have HN := hideIt hn
  have HGT := hideIt (hexL_get x)
  clear hx
  go_enter Tryd.func23, Tryd.ntmps23
  go_wp2_with fail
  clear hn
  go_loopw [3, 4] (fun s3 s4 wr => ∃ (i : Nat) (T : ByteArray), s3 = .string T ∧ s4 = .int .i64 i ∧ i ≤ 64 ∧ Hid (T = ⟨((hexL x).take i).toArray⟩) ∧ Hid (wr.heap[n]? = some (.cells (bv x).toArray 30 (0, 0))) ∧ Hid (Fr (fun _ => False) w wr)) (fun _ s4 _ => 64 - (intOf s4).toNat)
  case atStart => exact ⟨0, _, rfl, rfl, by omega, hideIt rfl, HX0, HF0⟩
  case round =>
    clear HX0 HF0
    obtain ⟨i, T, rfl, rfl, hi, HT, HX, HF⟩ := hrel
    by_cases hlt : i < 64
    · have h1 : (i : Int) < 64 := by omega
      obtain ⟨q, hq⟩ : ∃ q, i / 2 = q := ⟨_, rfl⟩
      have hq32 : q < 32 := by omega
      have hqi : (q : Int) < 32 := by omega
      have e1 : (i : Int).tdiv 2 = (q : Int) := by rw [Int.tdiv_eq_ediv_of_nonneg (by omega)]; omega
      have e1b : (i : Int) / 2 = (q : Int) := by omega
      have e2 : IntKind.i64.wrap (q : Int) = (q : Int) := by rw [IntKind.wrap_i64]; omega
      have cx : wr.cell? ⟨n, q, none⟩ = some (.int .u8 ((x.getD q 0).toNat : Int)) := cellOfHeap HX.out q (by
        have h1 := HLX.out
        have h2 : q < x.length := by omega
        simp [bv, List.getD, h2])
      obtain ⟨g1, g2⟩ := HGT.out q (by rw [HLX.out]; exact hq32)
      have hv := (x.getD q 0).toNat_lt
      generalize (x.getD q 0).toNat = v at *
      have hTs : ¬ 9223372036854775807 < T.size + 1 := by
        rw [HT.out]
        show ¬ 9223372036854775807 < ((hexL x).take i).toArray.size + 1
        simp
        omega
      have e3 : IntKind.i64.wrap (v : Int) = (v : Int) := by rw [IntKind.wrap_i64]; omega
      by_cases hpar : i % 2 = 0
      · have p1 : (i : Int).tmod 2 = 0 := by rw [Int.tmod_eq_emod_of_nonneg (by omega)]; omega
        have p2 : (i : Int) % 2 = 0 := by omega
        obtain ⟨d, hd⟩ : ∃ d, v / 16 = d := ⟨_, rfl⟩
        have hd16 : d < 16 := by omega
        have d0 : (v : Int).tdiv 16 = (d : Int) := by rw [Int.tdiv_eq_ediv_of_nonneg (by omega)]; omega
        have d0b : (v : Int) / 16 = (d : Int) := by omega
        have d2 : (d : Int).tmod 16 = (d : Int) := by rw [Int.tmod_eq_emod_of_nonneg (by omega)]; omega
        have d2b : (d : Int) % 16 = (d : Int) := by omega
        have d1 : IntKind.i64.wrap (d : Int) = (d : Int) := by rw [IntKind.wrap_i64]; omega
        have d3 : IntKind.i64.wrap ((d : Int) + 1) = (d : Int) + 1 := by rw [IntKind.wrap_i64]; omega
        have d4 : (d : Int) + 1 ≤ 16 := by omega
        have d5 : ((d : Int) + 1).toNat = d + 1 := by omega
        have d6 : (0 : Int) ≤ (d : Int) + 1 := by omega
        have d7 : (d : Int) ≤ (d : Int) + 1 := by omega
        have hex := dig_ext d hd16
        have HT2 := hideIt (show T ++ ⟨#[hexC d]⟩ = ⟨((hexL x).take (i + 1)).toArray⟩ by
          rw [HT.out]
          exact take_cat _ _ (by rw [HLH.out]; exact hlt) _ (by rw [show i = 2 * q by omega, g1, hd]))
        clear hd g1 g2 hq hpar
        go_wp2_with fail
        exact ⟨⟨i + 1, _, rfl, by go_num, by omega, HT2, HX, HF⟩, by simp [intOf]; omega⟩
      · have p1 : (i : Int).tmod 2 = 1 := by rw [Int.tmod_eq_emod_of_nonneg (by omega)]; omega
        have p2 : (i : Int) % 2 = 1 := by omega
        obtain ⟨d, hd⟩ : ∃ d, v % 16 = d := ⟨_, rfl⟩
        have hd16 : d < 16 := by omega
        have d0 : (v : Int).tmod 16 = (d : Int) := by rw [Int.tmod_eq_emod_of_nonneg (by omega)]; omega
        have d0b : (v : Int) % 16 = (d : Int) := by omega
        have d1 : IntKind.i64.wrap (d : Int) = (d : Int) := by rw [IntKind.wrap_i64]; omega
        have d3 : IntKind.i64.wrap ((d : Int) + 1) = (d : Int) + 1 := by rw [IntKind.wrap_i64]; omega
        have d4 : (d : Int) + 1 ≤ 16 := by omega
        have d5 : ((d : Int) + 1).toNat = d + 1 := by omega
        have d6 : (0 : Int) ≤ (d : Int) + 1 := by omega
        have d7 : (d : Int) ≤ (d : Int) + 1 := by omega
        have hex := dig_ext d hd16
        have HT2 := hideIt (show T ++ ⟨#[hexC d]⟩ = ⟨((hexL x).take (i + 1)).toArray⟩ by
          rw [HT.out]
          exact take_cat _ _ (by rw [HLH.out]; exact hlt) _ (by rw [show i = 2 * q + 1 by omega, g2, hd]))
        clear hd g1 g2 hq hpar
        go_wp2_with fail
        exact ⟨⟨i + 1, _, rfl, by go_num, by omega, HT2, HX, HF⟩, by simp [intOf]; omega⟩
    · obtain rfl : i = 64 := by omega
      have hT : T = ⟨(hexL x).toArray⟩ := by rw [HT.out, List.take_of_length_le (by rw [HLH.out]; omega)]
      subst hT
      go_wp2_with fail
      go_ret
      exact ⟨rfl, HF.out⟩

end Go.Proofs.YtgnpdnkmhjocjaaDoor
