/- ProgTells, part 8 of the road: what the program's functions do, each by its own walk. -/
import Derived.Test.YtojgikaoiegmpaaGreatDoorRows
import Derived.Test.YtojgikaoiegmpaaGreatDoorQ7
import Derived.WalkKit
import Derived.WalkSpells
import Derived.WalkLawsBesides
import Derived.Laws.BitsLemmas
import Derived.Deep.QuietTactic
import Derived.BigQuiet

/- Package hash, and the document's own: words that are turned. -/
namespace Go.Proofs.YtojgikaoiegmpaaGreatDoor
open Go.RowKit Go.IntWalk
set_option linter.unusedSimpArgs false
set_option linter.unusedVariables false
set_option maxRecDepth 100000

theorem wraps_u32 (n : Int) (h₀ : 0 ≤ n) (h₁ : n < 2 ^ 32) : IntKind.u32.wrap n = n := by rw [IntKind.wrap_u32]; omega
theorem u32_and (a b : Nat) (ha : a < 4294967296) (hb : b < 4294967296) : bits .and .u32 (a : Int) (b : Int) = ((Nat.land a b : Nat) : Int) := (bits_nat .u32 32 (by decide) wraps_u32 a b ha hb).1
theorem u32_or (a b : Nat) (ha : a < 4294967296) (hb : b < 4294967296) : bits .or .u32 (a : Int) (b : Int) = ((Nat.lor a b : Nat) : Int) := (bits_nat .u32 32 (by decide) wraps_u32 a b ha hb).2
theorem u32_xor (a b : Nat) (ha : a < 4294967296) (hb : b < 4294967296) : bits .xor .u32 (a : Int) (b : Int) = ((Nat.xor a b : Nat) : Int) := by
  have ha' : a % 2 ^ IntKind.u32.bits = a := Nat.mod_eq_of_lt ha
  have hb' : b % 2 ^ IntKind.u32.bits = b := Nat.mod_eq_of_lt hb
  have hx : a ^^^ b < 2 ^ 32 := Nat.xor_lt_two_pow ha hb
  simp only [bits, BitVec.ofInt_natCast, BitVec.toNat_xor, BitVec.toNat_ofNat, ha', hb']
  exact wraps_u32 _ (Int.natCast_nonneg _) (by exact_mod_cast hx)
theorem land_lt {a b : Nat} (hb : b < 4294967296) : Nat.land a b < 4294967296 := Nat.and_lt_two_pow (n := 32) a hb
theorem lor_lt {a b : Nat} (ha : a < 4294967296) (hb : b < 4294967296) : Nat.lor a b < 4294967296 := Nat.or_lt_two_pow (n := 32) ha hb
theorem xor_lt {a b : Nat} (ha : a < 4294967296) (hb : b < 4294967296) : Nat.xor a b < 4294967296 := Nat.xor_lt_two_pow (n := 32) ha hb

theorem rotr_lt (P Q x : Nat) (hx : x < 4294967296) : Sha.rotr P Q x < 4294967296 := lor_lt (Nat.mod_lt _ (by decide)) (Nat.lt_of_le_of_lt (Nat.div_le_self _ _) hx)
theorem add_lt (a b : Nat) : Sha.add a b < 4294967296 := Nat.mod_lt _ (by decide)
theorem add_int (a b : Nat) : ((a : Int) + (b : Int)) % 4294967296 = ((Sha.add a b : Nat) : Int) := by
  show _ = (((a + b) % 4294967296 : Nat) : Int)
  omega
theorem rot_eq (P Q x : Nat) (hx : x < 4294967296) : bits .or .u32 ((x : Int) * (P : Int) % 4294967296) ((x : Int) / (Q : Int)) = ((Sha.rotr P Q x : Nat) : Int) := by
  have e1 : (x : Int) * (P : Int) % 4294967296 = ((x * P % 4294967296 : Nat) : Int) := by simp
  have e2 : (x : Int) / (Q : Int) = ((x / Q : Nat) : Int) := by simp
  rw [e1, e2, u32_or _ _ (Nat.mod_lt _ (by decide)) (Nat.lt_of_le_of_lt (Nat.div_le_self _ _) hx)]
  rfl

theorem drewN_two (w : World) (k k' : Nat) : (w.drewN k).drewN k' = w.drewN (k + k') := by simp [World.drewN, Nat.add_assoc]
theorem ret_u32 {a b : Int} (h : a = b) : Ending.returned (.int .u32 a) = .returned (.int .u32 b) := by rw [h]

section
variable (x : Nat) (hx : x < 4294967296) (w : World)
include hx

theorem rot_2 : Calls Tryz.prog 110 #[.int .u32 x, .int .i64 (-2)] w fun e w' => e = .returned (.int .u32 (Sha.rotr 1073741824 4 x : Nat)) ∧ w' = w := by
  have h : bits BinOp.and IntKind.u64 (IntKind.u64.wrap (-2)) 31 = 30 := by decide
  have HE : Hid _ := rot_eq 1073741824 4 x hx
  go_enter Tryz.func110, Tryz.ntmps110
  go_wp2
  go_ret
  exact ⟨ret_u32 HE.out, rfl⟩
theorem right_2 : Calls Tryz.prog 106 #[.int .u32 x, .int .i64 2] w fun e w' => e = .returned (.int .u32 (Sha.rotr 1073741824 4 x : Nat)) ∧ w' = w := by
  go_enter Tryz.func106, Tryz.ntmps106
  go_wp2_with fail
  refine (rot_2 x hx _).mono ?_
  rintro e w' ⟨rfl, rfl⟩
  go_wp2
  go_ret
  exact ⟨rfl, rfl⟩
theorem xr_2 : Calls Tryz.prog 100 #[.int .u32 x, .int .i64 2] w fun e w' => e = .returned (.int .u32 (Sha.rotr 1073741824 4 x : Nat)) ∧ ∃ n, w' = w.drewN n := by
  have HE : Hid _ := rot_eq 1073741824 4 x hx
  go_enter Tryz.func100, Tryz.ntmps100
  go_wp2
  go_quiet (fail)
  go_wp2
  go_ret
  exact ⟨ret_u32 HE.out, _, rfl⟩

theorem rot_13 : Calls Tryz.prog 110 #[.int .u32 x, .int .i64 (-13)] w fun e w' => e = .returned (.int .u32 (Sha.rotr 524288 8192 x : Nat)) ∧ w' = w := by
  have h : bits BinOp.and IntKind.u64 (IntKind.u64.wrap (-13)) 31 = 19 := by decide
  have HE : Hid _ := rot_eq 524288 8192 x hx
  go_enter Tryz.func110, Tryz.ntmps110
  go_wp2
  go_ret
  exact ⟨ret_u32 HE.out, rfl⟩
theorem right_13 : Calls Tryz.prog 106 #[.int .u32 x, .int .i64 13] w fun e w' => e = .returned (.int .u32 (Sha.rotr 524288 8192 x : Nat)) ∧ w' = w := by
  go_enter Tryz.func106, Tryz.ntmps106
  go_wp2_with fail
  refine (rot_13 x hx _).mono ?_
  rintro e w' ⟨rfl, rfl⟩
  go_wp2
  go_ret
  exact ⟨rfl, rfl⟩
theorem xr_13 : Calls Tryz.prog 100 #[.int .u32 x, .int .i64 13] w fun e w' => e = .returned (.int .u32 (Sha.rotr 524288 8192 x : Nat)) ∧ ∃ n, w' = w.drewN n := by
  have HE : Hid _ := rot_eq 524288 8192 x hx
  go_enter Tryz.func100, Tryz.ntmps100
  go_wp2
  go_quiet (fail)
  go_wp2
  go_ret
  exact ⟨ret_u32 HE.out, _, rfl⟩

theorem rot_22 : Calls Tryz.prog 110 #[.int .u32 x, .int .i64 (-22)] w fun e w' => e = .returned (.int .u32 (Sha.rotr 1024 4194304 x : Nat)) ∧ w' = w := by
  have h : bits BinOp.and IntKind.u64 (IntKind.u64.wrap (-22)) 31 = 10 := by decide
  have HE : Hid _ := rot_eq 1024 4194304 x hx
  go_enter Tryz.func110, Tryz.ntmps110
  go_wp2
  go_ret
  exact ⟨ret_u32 HE.out, rfl⟩
theorem right_22 : Calls Tryz.prog 106 #[.int .u32 x, .int .i64 22] w fun e w' => e = .returned (.int .u32 (Sha.rotr 1024 4194304 x : Nat)) ∧ w' = w := by
  go_enter Tryz.func106, Tryz.ntmps106
  go_wp2_with fail
  refine (rot_22 x hx _).mono ?_
  rintro e w' ⟨rfl, rfl⟩
  go_wp2
  go_ret
  exact ⟨rfl, rfl⟩
theorem xr_22 : Calls Tryz.prog 100 #[.int .u32 x, .int .i64 22] w fun e w' => e = .returned (.int .u32 (Sha.rotr 1024 4194304 x : Nat)) ∧ ∃ n, w' = w.drewN n := by
  have HE : Hid _ := rot_eq 1024 4194304 x hx
  go_enter Tryz.func100, Tryz.ntmps100
  go_wp2
  go_quiet (fail)
  go_wp2
  go_ret
  exact ⟨ret_u32 HE.out, _, rfl⟩

theorem rot_6 : Calls Tryz.prog 110 #[.int .u32 x, .int .i64 (-6)] w fun e w' => e = .returned (.int .u32 (Sha.rotr 67108864 64 x : Nat)) ∧ w' = w := by
  have h : bits BinOp.and IntKind.u64 (IntKind.u64.wrap (-6)) 31 = 26 := by decide
  have HE : Hid _ := rot_eq 67108864 64 x hx
  go_enter Tryz.func110, Tryz.ntmps110
  go_wp2
  go_ret
  exact ⟨ret_u32 HE.out, rfl⟩
theorem right_6 : Calls Tryz.prog 106 #[.int .u32 x, .int .i64 6] w fun e w' => e = .returned (.int .u32 (Sha.rotr 67108864 64 x : Nat)) ∧ w' = w := by
  go_enter Tryz.func106, Tryz.ntmps106
  go_wp2_with fail
  refine (rot_6 x hx _).mono ?_
  rintro e w' ⟨rfl, rfl⟩
  go_wp2
  go_ret
  exact ⟨rfl, rfl⟩
theorem xr_6 : Calls Tryz.prog 100 #[.int .u32 x, .int .i64 6] w fun e w' => e = .returned (.int .u32 (Sha.rotr 67108864 64 x : Nat)) ∧ ∃ n, w' = w.drewN n := by
  have HE : Hid _ := rot_eq 67108864 64 x hx
  go_enter Tryz.func100, Tryz.ntmps100
  go_wp2
  go_quiet (fail)
  go_wp2
  go_ret
  exact ⟨ret_u32 HE.out, _, rfl⟩

theorem rot_11 : Calls Tryz.prog 110 #[.int .u32 x, .int .i64 (-11)] w fun e w' => e = .returned (.int .u32 (Sha.rotr 2097152 2048 x : Nat)) ∧ w' = w := by
  have h : bits BinOp.and IntKind.u64 (IntKind.u64.wrap (-11)) 31 = 21 := by decide
  have HE : Hid _ := rot_eq 2097152 2048 x hx
  go_enter Tryz.func110, Tryz.ntmps110
  go_wp2
  go_ret
  exact ⟨ret_u32 HE.out, rfl⟩
theorem right_11 : Calls Tryz.prog 106 #[.int .u32 x, .int .i64 11] w fun e w' => e = .returned (.int .u32 (Sha.rotr 2097152 2048 x : Nat)) ∧ w' = w := by
  go_enter Tryz.func106, Tryz.ntmps106
  go_wp2_with fail
  refine (rot_11 x hx _).mono ?_
  rintro e w' ⟨rfl, rfl⟩
  go_wp2
  go_ret
  exact ⟨rfl, rfl⟩
theorem xr_11 : Calls Tryz.prog 100 #[.int .u32 x, .int .i64 11] w fun e w' => e = .returned (.int .u32 (Sha.rotr 2097152 2048 x : Nat)) ∧ ∃ n, w' = w.drewN n := by
  have HE : Hid _ := rot_eq 2097152 2048 x hx
  go_enter Tryz.func100, Tryz.ntmps100
  go_wp2
  go_quiet (fail)
  go_wp2
  go_ret
  exact ⟨ret_u32 HE.out, _, rfl⟩

theorem rot_25 : Calls Tryz.prog 110 #[.int .u32 x, .int .i64 (-25)] w fun e w' => e = .returned (.int .u32 (Sha.rotr 128 33554432 x : Nat)) ∧ w' = w := by
  have h : bits BinOp.and IntKind.u64 (IntKind.u64.wrap (-25)) 31 = 7 := by decide
  have HE : Hid _ := rot_eq 128 33554432 x hx
  go_enter Tryz.func110, Tryz.ntmps110
  go_wp2
  go_ret
  exact ⟨ret_u32 HE.out, rfl⟩
theorem right_25 : Calls Tryz.prog 106 #[.int .u32 x, .int .i64 25] w fun e w' => e = .returned (.int .u32 (Sha.rotr 128 33554432 x : Nat)) ∧ w' = w := by
  go_enter Tryz.func106, Tryz.ntmps106
  go_wp2_with fail
  refine (rot_25 x hx _).mono ?_
  rintro e w' ⟨rfl, rfl⟩
  go_wp2
  go_ret
  exact ⟨rfl, rfl⟩
theorem xr_25 : Calls Tryz.prog 100 #[.int .u32 x, .int .i64 25] w fun e w' => e = .returned (.int .u32 (Sha.rotr 128 33554432 x : Nat)) ∧ ∃ n, w' = w.drewN n := by
  have HE : Hid _ := rot_eq 128 33554432 x hx
  go_enter Tryz.func100, Tryz.ntmps100
  go_wp2
  go_quiet (fail)
  go_wp2
  go_ret
  exact ⟨ret_u32 HE.out, _, rfl⟩

theorem rot_7 : Calls Tryz.prog 110 #[.int .u32 x, .int .i64 (-7)] w fun e w' => e = .returned (.int .u32 (Sha.rotr 33554432 128 x : Nat)) ∧ w' = w := by
  have h : bits BinOp.and IntKind.u64 (IntKind.u64.wrap (-7)) 31 = 25 := by decide
  have HE : Hid _ := rot_eq 33554432 128 x hx
  go_enter Tryz.func110, Tryz.ntmps110
  go_wp2
  go_ret
  exact ⟨ret_u32 HE.out, rfl⟩
theorem right_7 : Calls Tryz.prog 106 #[.int .u32 x, .int .i64 7] w fun e w' => e = .returned (.int .u32 (Sha.rotr 33554432 128 x : Nat)) ∧ w' = w := by
  go_enter Tryz.func106, Tryz.ntmps106
  go_wp2_with fail
  refine (rot_7 x hx _).mono ?_
  rintro e w' ⟨rfl, rfl⟩
  go_wp2
  go_ret
  exact ⟨rfl, rfl⟩
theorem xr_7 : Calls Tryz.prog 100 #[.int .u32 x, .int .i64 7] w fun e w' => e = .returned (.int .u32 (Sha.rotr 33554432 128 x : Nat)) ∧ ∃ n, w' = w.drewN n := by
  have HE : Hid _ := rot_eq 33554432 128 x hx
  go_enter Tryz.func100, Tryz.ntmps100
  go_wp2
  go_quiet (fail)
  go_wp2
  go_ret
  exact ⟨ret_u32 HE.out, _, rfl⟩

theorem rot_18 : Calls Tryz.prog 110 #[.int .u32 x, .int .i64 (-18)] w fun e w' => e = .returned (.int .u32 (Sha.rotr 16384 262144 x : Nat)) ∧ w' = w := by
  have h : bits BinOp.and IntKind.u64 (IntKind.u64.wrap (-18)) 31 = 14 := by decide
  have HE : Hid _ := rot_eq 16384 262144 x hx
  go_enter Tryz.func110, Tryz.ntmps110
  go_wp2
  go_ret
  exact ⟨ret_u32 HE.out, rfl⟩
theorem right_18 : Calls Tryz.prog 106 #[.int .u32 x, .int .i64 18] w fun e w' => e = .returned (.int .u32 (Sha.rotr 16384 262144 x : Nat)) ∧ w' = w := by
  go_enter Tryz.func106, Tryz.ntmps106
  go_wp2_with fail
  refine (rot_18 x hx _).mono ?_
  rintro e w' ⟨rfl, rfl⟩
  go_wp2
  go_ret
  exact ⟨rfl, rfl⟩
theorem xr_18 : Calls Tryz.prog 100 #[.int .u32 x, .int .i64 18] w fun e w' => e = .returned (.int .u32 (Sha.rotr 16384 262144 x : Nat)) ∧ ∃ n, w' = w.drewN n := by
  have HE : Hid _ := rot_eq 16384 262144 x hx
  go_enter Tryz.func100, Tryz.ntmps100
  go_wp2
  go_quiet (fail)
  go_wp2
  go_ret
  exact ⟨ret_u32 HE.out, _, rfl⟩

theorem rot_17 : Calls Tryz.prog 110 #[.int .u32 x, .int .i64 (-17)] w fun e w' => e = .returned (.int .u32 (Sha.rotr 32768 131072 x : Nat)) ∧ w' = w := by
  have h : bits BinOp.and IntKind.u64 (IntKind.u64.wrap (-17)) 31 = 15 := by decide
  have HE : Hid _ := rot_eq 32768 131072 x hx
  go_enter Tryz.func110, Tryz.ntmps110
  go_wp2
  go_ret
  exact ⟨ret_u32 HE.out, rfl⟩
theorem right_17 : Calls Tryz.prog 106 #[.int .u32 x, .int .i64 17] w fun e w' => e = .returned (.int .u32 (Sha.rotr 32768 131072 x : Nat)) ∧ w' = w := by
  go_enter Tryz.func106, Tryz.ntmps106
  go_wp2_with fail
  refine (rot_17 x hx _).mono ?_
  rintro e w' ⟨rfl, rfl⟩
  go_wp2
  go_ret
  exact ⟨rfl, rfl⟩
theorem xr_17 : Calls Tryz.prog 100 #[.int .u32 x, .int .i64 17] w fun e w' => e = .returned (.int .u32 (Sha.rotr 32768 131072 x : Nat)) ∧ ∃ n, w' = w.drewN n := by
  have HE : Hid _ := rot_eq 32768 131072 x hx
  go_enter Tryz.func100, Tryz.ntmps100
  go_wp2
  go_quiet (fail)
  go_wp2
  go_ret
  exact ⟨ret_u32 HE.out, _, rfl⟩

theorem rot_19 : Calls Tryz.prog 110 #[.int .u32 x, .int .i64 (-19)] w fun e w' => e = .returned (.int .u32 (Sha.rotr 8192 524288 x : Nat)) ∧ w' = w := by
  have h : bits BinOp.and IntKind.u64 (IntKind.u64.wrap (-19)) 31 = 13 := by decide
  have HE : Hid _ := rot_eq 8192 524288 x hx
  go_enter Tryz.func110, Tryz.ntmps110
  go_wp2
  go_ret
  exact ⟨ret_u32 HE.out, rfl⟩
theorem right_19 : Calls Tryz.prog 106 #[.int .u32 x, .int .i64 19] w fun e w' => e = .returned (.int .u32 (Sha.rotr 8192 524288 x : Nat)) ∧ w' = w := by
  go_enter Tryz.func106, Tryz.ntmps106
  go_wp2_with fail
  refine (rot_19 x hx _).mono ?_
  rintro e w' ⟨rfl, rfl⟩
  go_wp2
  go_ret
  exact ⟨rfl, rfl⟩
theorem xr_19 : Calls Tryz.prog 100 #[.int .u32 x, .int .i64 19] w fun e w' => e = .returned (.int .u32 (Sha.rotr 8192 524288 x : Nat)) ∧ ∃ n, w' = w.drewN n := by
  have HE : Hid _ := rot_eq 8192 524288 x hx
  go_enter Tryz.func100, Tryz.ntmps100
  go_wp2
  go_quiet (fail)
  go_wp2
  go_ret
  exact ⟨ret_u32 HE.out, _, rfl⟩

theorem turnE_any : Calls Tryz.prog 94 #[.int .u32 x] w fun e w' => e = .returned (.int .u32 (Sha.upE x : Nat)) ∧ w' = w := by
  have h1 := rotr_lt 67108864 64 x hx
  have h2 := rotr_lt 2097152 2048 x hx
  have h3 := rotr_lt 128 33554432 x hx
  have HE : Hid (bits .xor .u32 (bits .xor .u32 ((Sha.rotr 67108864 64 x : Nat) : Int) ((Sha.rotr 2097152 2048 x : Nat) : Int)) ((Sha.rotr 128 33554432 x : Nat) : Int) = ((Sha.upE x : Nat) : Int)) := by
    rw [u32_xor _ _ h1 h2, u32_xor _ _ (xor_lt h1 h2) h3]
    exact rfl
  clear h1 h2 h3
  go_enter Tryz.func94, Tryz.ntmps94
  go_wp2_with fail
  refine (right_6 x hx _).mono ?_
  rintro e w' ⟨rfl, rfl⟩
  go_wp2_with fail
  refine (right_11 x hx _).mono ?_
  rintro e w' ⟨rfl, rfl⟩
  go_wp2_with fail
  refine (right_25 x hx _).mono ?_
  rintro e w' ⟨rfl, rfl⟩
  go_wp2
  go_ret
  exact ⟨ret_u32 HE.out, rfl⟩

theorem upE_any : Calls Tryz.prog 81 #[.int .u32 x] w fun e w' => e = .returned (.int .u32 (Sha.upE x : Nat)) ∧ ∃ n, w' = w.drewN n := by
  have h1 := rotr_lt 67108864 64 x hx
  have h2 := rotr_lt 2097152 2048 x hx
  have h3 := rotr_lt 128 33554432 x hx
  have HE : Hid (bits .xor .u32 (bits .xor .u32 ((Sha.rotr 67108864 64 x : Nat) : Int) ((Sha.rotr 2097152 2048 x : Nat) : Int)) ((Sha.rotr 128 33554432 x : Nat) : Int) = ((Sha.upE x : Nat) : Int)) := by
    rw [u32_xor _ _ h1 h2, u32_xor _ _ (xor_lt h1 h2) h3]
    exact rfl
  clear h1 h2 h3
  go_enter Tryz.func81, Tryz.ntmps81
  go_wp2_with fail
  refine (xr_6 x hx _).mono ?_
  rintro e w' ⟨rfl, k1, rfl⟩
  go_wp2_with fail
  refine (xr_11 x hx _).mono ?_
  rintro e w' ⟨rfl, k2, rfl⟩
  go_wp2_with fail
  refine (xr_25 x hx _).mono ?_
  rintro e w' ⟨rfl, k3, rfl⟩
  go_wp2
  go_ret
  exact ⟨ret_u32 HE.out, k1 + k2 + k3, by simp only [drewN_two]⟩

theorem turnA_any : Calls Tryz.prog 96 #[.int .u32 x] w fun e w' => e = .returned (.int .u32 (Sha.upA x : Nat)) ∧ w' = w := by
  have h1 := rotr_lt 1073741824 4 x hx
  have h2 := rotr_lt 524288 8192 x hx
  have h3 := rotr_lt 1024 4194304 x hx
  have HE : Hid (bits .xor .u32 (bits .xor .u32 ((Sha.rotr 1073741824 4 x : Nat) : Int) ((Sha.rotr 524288 8192 x : Nat) : Int)) ((Sha.rotr 1024 4194304 x : Nat) : Int) = ((Sha.upA x : Nat) : Int)) := by
    rw [u32_xor _ _ h1 h2, u32_xor _ _ (xor_lt h1 h2) h3]
    exact rfl
  clear h1 h2 h3
  go_enter Tryz.func96, Tryz.ntmps96
  go_wp2_with fail
  refine (right_2 x hx _).mono ?_
  rintro e w' ⟨rfl, rfl⟩
  go_wp2_with fail
  refine (right_13 x hx _).mono ?_
  rintro e w' ⟨rfl, rfl⟩
  go_wp2_with fail
  refine (right_22 x hx _).mono ?_
  rintro e w' ⟨rfl, rfl⟩
  go_wp2
  go_ret
  exact ⟨ret_u32 HE.out, rfl⟩

theorem upA_any : Calls Tryz.prog 83 #[.int .u32 x] w fun e w' => e = .returned (.int .u32 (Sha.upA x : Nat)) ∧ ∃ n, w' = w.drewN n := by
  have h1 := rotr_lt 1073741824 4 x hx
  have h2 := rotr_lt 524288 8192 x hx
  have h3 := rotr_lt 1024 4194304 x hx
  have HE : Hid (bits .xor .u32 (bits .xor .u32 ((Sha.rotr 1073741824 4 x : Nat) : Int) ((Sha.rotr 524288 8192 x : Nat) : Int)) ((Sha.rotr 1024 4194304 x : Nat) : Int) = ((Sha.upA x : Nat) : Int)) := by
    rw [u32_xor _ _ h1 h2, u32_xor _ _ (xor_lt h1 h2) h3]
    exact rfl
  clear h1 h2 h3
  go_enter Tryz.func83, Tryz.ntmps83
  go_wp2_with fail
  refine (xr_2 x hx _).mono ?_
  rintro e w' ⟨rfl, k1, rfl⟩
  go_wp2_with fail
  refine (xr_13 x hx _).mono ?_
  rintro e w' ⟨rfl, k2, rfl⟩
  go_wp2_with fail
  refine (xr_22 x hx _).mono ?_
  rintro e w' ⟨rfl, k3, rfl⟩
  go_wp2
  go_ret
  exact ⟨ret_u32 HE.out, k1 + k2 + k3, by simp only [drewN_two]⟩

theorem turnP_any : Calls Tryz.prog 105 #[.int .u32 x] w fun e w' => e = .returned (.int .u32 (Sha.loP x : Nat)) ∧ w' = w := by
  have h1 := rotr_lt 33554432 128 x hx
  have h2 := rotr_lt 16384 262144 x hx
  have h3 : x / 8 < 4294967296 := by omega
  have HE : Hid (bits .xor .u32 (bits .xor .u32 ((Sha.rotr 33554432 128 x : Nat) : Int) ((Sha.rotr 16384 262144 x : Nat) : Int)) ((x : Int) / 8) = ((Sha.loP x : Nat) : Int)) := by
    rw [show (x : Int) / 8 = ((x / 8 : Nat) : Int) by simp, u32_xor _ _ h1 h2, u32_xor _ _ (xor_lt h1 h2) h3]
    exact rfl
  clear h1 h2 h3
  go_enter Tryz.func105, Tryz.ntmps105
  go_wp2_with fail
  refine (right_7 x hx _).mono ?_
  rintro e w' ⟨rfl, rfl⟩
  go_wp2_with fail
  refine (right_18 x hx _).mono ?_
  rintro e w' ⟨rfl, rfl⟩
  go_wp2
  go_ret
  exact ⟨ret_u32 HE.out, rfl⟩

theorem loP_any : Calls Tryz.prog 99 #[.int .u32 x] w fun e w' => e = .returned (.int .u32 (Sha.loP x : Nat)) ∧ ∃ n, w' = w.drewN n := by
  have h1 := rotr_lt 33554432 128 x hx
  have h2 := rotr_lt 16384 262144 x hx
  have h3 : x / 8 < 4294967296 := by omega
  have HE : Hid (bits .xor .u32 (bits .xor .u32 ((Sha.rotr 33554432 128 x : Nat) : Int) ((Sha.rotr 16384 262144 x : Nat) : Int)) ((x : Int) / 8) = ((Sha.loP x : Nat) : Int)) := by
    rw [show (x : Int) / 8 = ((x / 8 : Nat) : Int) by simp, u32_xor _ _ h1 h2, u32_xor _ _ (xor_lt h1 h2) h3]
    exact rfl
  clear h1 h2 h3
  go_enter Tryz.func99, Tryz.ntmps99
  go_wp2_with fail
  refine (xr_7 x hx _).mono ?_
  rintro e w' ⟨rfl, k1, rfl⟩
  go_wp2_with fail
  refine (xr_18 x hx _).mono ?_
  rintro e w' ⟨rfl, k2, rfl⟩
  go_wp2
  go_ret
  exact ⟨ret_u32 HE.out, k1 + k2, by simp only [drewN_two]⟩

theorem turnQ_any : Calls Tryz.prog 104 #[.int .u32 x] w fun e w' => e = .returned (.int .u32 (Sha.loQ x : Nat)) ∧ w' = w := by
  have h1 := rotr_lt 32768 131072 x hx
  have h2 := rotr_lt 8192 524288 x hx
  have h3 : x / 1024 < 4294967296 := by omega
  have HE : Hid (bits .xor .u32 (bits .xor .u32 ((Sha.rotr 32768 131072 x : Nat) : Int) ((Sha.rotr 8192 524288 x : Nat) : Int)) ((x : Int) / 1024) = ((Sha.loQ x : Nat) : Int)) := by
    rw [show (x : Int) / 1024 = ((x / 1024 : Nat) : Int) by simp, u32_xor _ _ h1 h2, u32_xor _ _ (xor_lt h1 h2) h3]
    exact rfl
  clear h1 h2 h3
  go_enter Tryz.func104, Tryz.ntmps104
  go_wp2_with fail
  refine (right_17 x hx _).mono ?_
  rintro e w' ⟨rfl, rfl⟩
  go_wp2_with fail
  refine (right_19 x hx _).mono ?_
  rintro e w' ⟨rfl, rfl⟩
  go_wp2
  go_ret
  exact ⟨ret_u32 HE.out, rfl⟩

theorem loQ_any : Calls Tryz.prog 98 #[.int .u32 x] w fun e w' => e = .returned (.int .u32 (Sha.loQ x : Nat)) ∧ ∃ n, w' = w.drewN n := by
  have h1 := rotr_lt 32768 131072 x hx
  have h2 := rotr_lt 8192 524288 x hx
  have h3 : x / 1024 < 4294967296 := by omega
  have HE : Hid (bits .xor .u32 (bits .xor .u32 ((Sha.rotr 32768 131072 x : Nat) : Int) ((Sha.rotr 8192 524288 x : Nat) : Int)) ((x : Int) / 1024) = ((Sha.loQ x : Nat) : Int)) := by
    rw [show (x : Int) / 1024 = ((x / 1024 : Nat) : Int) by simp, u32_xor _ _ h1 h2, u32_xor _ _ (xor_lt h1 h2) h3]
    exact rfl
  clear h1 h2 h3
  go_enter Tryz.func98, Tryz.ntmps98
  go_wp2_with fail
  refine (xr_17 x hx _).mono ?_
  rintro e w' ⟨rfl, k1, rfl⟩
  go_wp2_with fail
  refine (xr_19 x hx _).mono ?_
  rintro e w' ⟨rfl, k2, rfl⟩
  go_wp2
  go_ret
  exact ⟨ret_u32 HE.out, k1 + k2, by simp only [drewN_two]⟩
end

section
variable (x y z : Nat) (hx : x < 4294967296) (hy : y < 4294967296) (hz : z < 4294967296) (w : World)
include hx hy hz
theorem ch_eq : bits .xor .u32 (bits .and .u32 (x : Int) (y : Int)) (bits .and .u32 (bits .xor .u32 IntKind.u32.max (x : Int)) (z : Int)) = ((Sha.ch x y z : Nat) : Int) := by
  rw [show (IntKind.u32.max : Int) = ((4294967295 : Nat) : Int) by decide, u32_and _ _ hx hy, u32_xor 4294967295 x (by decide) hx, u32_and _ _ (xor_lt (by decide) hx) hz, u32_xor _ _ (land_lt hy) (land_lt hz)]
  rfl
theorem maj_eq : bits .xor .u32 (bits .xor .u32 (bits .and .u32 (x : Int) (y : Int)) (bits .and .u32 (x : Int) (z : Int))) (bits .and .u32 (y : Int) (z : Int)) = ((Sha.maj x y z : Nat) : Int) := by
  rw [u32_and _ _ hx hy, u32_and _ _ hx hz, u32_and _ _ hy hz, u32_xor _ _ (land_lt hy) (land_lt hz), u32_xor _ _ (xor_lt (land_lt hy) (land_lt hz)) (land_lt hz)]
  rfl
theorem ch_any : Calls Tryz.prog 95 #[.int .u32 x, .int .u32 y, .int .u32 z] w fun e w' => e = .returned (.int .u32 (Sha.ch x y z : Nat)) ∧ w' = w := by
  have HE : Hid _ := ch_eq x y z hx hy hz
  go_enter Tryz.func95, Tryz.ntmps95
  go_wp2
  go_ret
  exact ⟨ret_u32 HE.out, rfl⟩
theorem maj_any : Calls Tryz.prog 97 #[.int .u32 x, .int .u32 y, .int .u32 z] w fun e w' => e = .returned (.int .u32 (Sha.maj x y z : Nat)) ∧ w' = w := by
  have HE : Hid _ := maj_eq x y z hx hy hz
  go_enter Tryz.func97, Tryz.ntmps97
  go_wp2
  go_ret
  exact ⟨ret_u32 HE.out, rfl⟩
theorem xch_any : Calls Tryz.prog 82 #[.int .u32 x, .int .u32 y, .int .u32 z] w fun e w' => e = .returned (.int .u32 (Sha.ch x y z : Nat)) ∧ w' = w := by
  have HE : Hid _ := ch_eq x y z hx hy hz
  go_enter Tryz.func82, Tryz.ntmps82
  go_wp2
  go_ret
  exact ⟨ret_u32 HE.out, rfl⟩
theorem xmaj_any : Calls Tryz.prog 84 #[.int .u32 x, .int .u32 y, .int .u32 z] w fun e w' => e = .returned (.int .u32 (Sha.maj x y z : Nat)) ∧ w' = w := by
  have HE : Hid _ := maj_eq x y z hx hy hz
  go_enter Tryz.func84, Tryz.ntmps84
  go_wp2
  go_ret
  exact ⟨ret_u32 HE.out, rfl⟩
end

end Go.Proofs.YtojgikaoiegmpaaGreatDoor
