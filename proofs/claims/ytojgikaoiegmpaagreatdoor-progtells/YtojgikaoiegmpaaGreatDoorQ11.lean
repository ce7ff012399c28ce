/- ProgTells, part 11 of the road: what the program's functions do, each by its own walk. -/
import Derived.Test.YtojgikaoiegmpaaGreatDoorRows
import Derived.Lib.Walk
import Derived.Lib.BitFns

/- How many bits a number has: math/bits.Len64 by its own text. -/
namespace Go.Proofs.YtojgikaoiegmpaaGreatDoor
set_option linter.unusedSimpArgs false
set_option linter.unusedVariables false
set_option maxRecDepth 100000

/-- One step of the table's look-up: k bits are shifted out, the rest is a byte. -/
theorem len_step (k p : Nat) (hp : 2 ^ k = p) (x b : Int) (h0 : 0 ≤ x) (h1 : x ≤ 18446744073709551615) (hb : b = x / (p : Int)) (hlo : (p : Int) ≤ x) (hb2 : b ≤ 255) :
    Lib.len8 b = (Lib.bitLen b.toNat : Int) ∧ Lib.bitLen b.toNat ≤ 8 ∧ Lib.bitLen x.toNat = k + Lib.bitLen b.toNat := by
  have hp0 : 0 < p := by rw [← hp]; exact Nat.two_pow_pos k
  have hb0 : 0 ≤ b := by rw [hb]; exact Int.ediv_nonneg h0 (by omega)
  have s := Lib.bitLen_shift k x.toNat (by rw [hp]; omega) (by rw [show (2 : Nat) ^ 64 = 18446744073709551616 by decide]; omega)
  have e : b.toNat = x.toNat / 2 ^ k := by
    rw [hp, hb]
    obtain ⟨m, rfl⟩ := Int.eq_ofNat_of_zero_le h0
    rw [← Int.natCast_ediv]
    exact Int.toNat_natCast _
  exact ⟨Lib.len8_of b hb0 hb2, Lib.bitLen_le8' b hb0 hb2, by rw [e]; exact s⟩

theorem len_wrap (a k c : Int) (n m : Nat) (ha : a = c) (hc : c = n) (hn : n ≤ 8) (h : m = k + n) (hk0 : 0 ≤ k) (hk : k ≤ 56) :
    (k + ((a + 9223372036854775808) % 18446744073709551616 - 9223372036854775808) + 9223372036854775808) % 18446744073709551616 - 9223372036854775808 = (m : Int) := by
  subst ha hc
  omega

set_option maxRecDepth 100000 in
set_option maxHeartbeats 4000000 in
theorem len64_any (x : Int) (w : World) (h0 : 0 ≤ x) (h1 : x ≤ 18446744073709551615) : Calls Tryz.prog 89 #[.int .u64 x] w fun e w' => e = .returned (.int .i64 (Lib.bitLen x.toNat)) ∧ w' = w := by
  go_enter Tryz.func89, Tryz.ntmps89
  go_wp2
  all_goals (go_ret; refine ⟨congrArg Ending.returned (congrArg (Value.int IntKind.i64) ?_), rfl⟩)
  · obtain ⟨e1, e2, e3⟩ := len_step 56 72057594037927936 (by decide) x (x / 4294967296 / 65536 / 256 % 256) h0 h1 (by omega) (by omega) (by omega)
    exact len_wrap _ _ _ _ _ rfl e1 e2 (by omega) (by omega) (by omega)
  · obtain ⟨e1, e2, e3⟩ := len_step 48 281474976710656 (by decide) x (x / 4294967296 / 65536 % 256) h0 h1 (by omega) (by omega) (by omega)
    exact len_wrap _ _ _ _ _ rfl e1 e2 (by omega) (by omega) (by omega)
  · obtain ⟨e1, e2, e3⟩ := len_step 40 1099511627776 (by decide) x (x / 4294967296 / 256 % 256) h0 h1 (by omega) (by omega) (by omega)
    exact len_wrap _ _ _ _ _ rfl e1 e2 (by omega) (by omega) (by omega)
  · obtain ⟨e1, e2, e3⟩ := len_step 32 4294967296 (by decide) x (x / 4294967296 % 256) h0 h1 (by omega) (by omega) (by omega)
    exact len_wrap _ _ _ _ _ rfl e1 e2 (by omega) (by omega) (by omega)
  · obtain ⟨e1, e2, e3⟩ := len_step 24 16777216 (by decide) x (x / 65536 / 256 % 256) h0 h1 (by omega) (by omega) (by omega)
    exact len_wrap _ _ _ _ _ rfl e1 e2 (by omega) (by omega) (by omega)
  · obtain ⟨e1, e2, e3⟩ := len_step 16 65536 (by decide) x (x / 65536 % 256) h0 h1 (by omega) (by omega) (by omega)
    exact len_wrap _ _ _ _ _ rfl e1 e2 (by omega) (by omega) (by omega)
  · obtain ⟨e1, e2, e3⟩ := len_step 8 256 (by decide) x (x / 256 % 256) h0 h1 (by omega) (by omega) (by omega)
    exact len_wrap _ _ _ _ _ rfl e1 e2 (by omega) (by omega) (by omega)
  · rw [show x % 256 = x by omega]
    exact Lib.len8_int x h0 (by omega)

end Go.Proofs.YtojgikaoiegmpaaGreatDoor
