/- Hashes: an address' hash, a bucket's lock. -/
import Derived.Test.YtcdoklgjicfkmaaH1
namespace Go.Proofs.Ytcdoklgjicfkmaa
open Go.RowKit

/-- The hash of an address in a table of b bits. -/
def hsh (a b : Nat) : Nat := a * 11400714819323198485 % 18446744073709551616 / 2 ^ (64 - b)
theorem hsh_lt (a b : Nat) (h : b ≤ 64) : hsh a b < 2 ^ b := by
  unfold hsh
  have e : 2 ^ 64 = 2 ^ (64 - b) * 2 ^ b := by rw [← Nat.pow_add]; congr 1; omega
  apply Nat.div_lt_of_lt_mul
  rw [← e]
  exact Nat.mod_lt _ (by omega)
theorem hsh_half (a b : Nat) (h : b < 64) : hsh a (b + 1) / 2 = hsh a b := by
  unfold hsh
  rw [Nat.div_div_eq_div_mul, ← Nat.pow_succ]
  congr 2
  omega
theorem wrap_hash (a P : Nat) (hp : 2 ≤ P) : wrap64 (IntKind.u64.wrap ((a : Int) * 11400714819323198485) / (P : Int)) = ((a * 11400714819323198485 % 18446744073709551616 / P : Nat) : Int) := by
  have e : IntKind.u64.wrap ((a : Int) * 11400714819323198485) = ((a * 11400714819323198485 % 18446744073709551616 : Nat) : Int) := by
    rw [IntKind.wrap_u64]; omega
  rw [e]
  have hm := Nat.mod_lt (a * 11400714819323198485) (by omega : 0 < 18446744073709551616)
  generalize a * 11400714819323198485 % 18446744073709551616 = m at *
  have hq : m / P < 9223372036854775808 := by
    apply Nat.div_lt_of_lt_mul
    calc m < 18446744073709551616 := hm
      _ = 2 * 9223372036854775808 := by omega
      _ ≤ P * 9223372036854775808 := Nat.mul_le_mul_right _ hp
  rw [← Int.natCast_ediv]
  generalize m / P = x at *
  unfold wrap64
  omega
theorem hash_no (a : Nat) (b : Int) (h : b < 2 ∨ 8 < b) (w : World) : Calls Try.prog 45 #[.int .u32 a, .int .i64 b] w fun e w' => e = .returned (.int .i64 (-1)) ∧ w = w' := by
  have q := is_any b w
  rw [tab_no h] at q
  have Q := Lib.hid q
  clear q h
  go_enter Try.func45, Try.ntmps45
  go_wp2_with fail
  refine Q.out.mono ?_
  rintro e w' ⟨rfl, rfl⟩
  go_wp2_with fail
  go_ret
  exact ⟨rfl, rfl⟩
theorem hash_yes (a b : Nat) (ha : a < 4294967296) (h : 2 ≤ b) (g : b ≤ 8) (w : World) : Calls Try.prog 45 #[.int .u32 a, .int .i64 b] w fun e w' => e = .returned (.int .i64 (hsh a b : Nat)) ∧ w = w' := by
  have q := is_any b w
  rw [tab_yes (by omega) (by omega)] at q
  have Q := Lib.hid q
  clear q
  have hb : b = 2 ∨ b = 3 ∨ b = 4 ∨ b = 5 ∨ b = 6 ∨ b = 7 ∨ b = 8 := by omega
  unfold hsh
  rcases hb with rfl | rfl | rfl | rfl | rfl | rfl | rfl
  · have f : wrap64 (IntKind.u64.wrap ((a : Int) * 11400714819323198485) / 4611686018427387904) = ((a * 11400714819323198485 % 18446744073709551616 / 2 ^ (64 - 2) : Nat) : Int) := wrap_hash a 4611686018427387904 (by omega)
    generalize a * 11400714819323198485 % 18446744073709551616 / 2 ^ (64 - 2) = r at *
    clear h g
    go_enter Try.func45, Try.ntmps45
    go_wp2_with fail
    refine Q.out.mono ?_
    rintro e w' ⟨rfl, rfl⟩
    go_wp2_with fail
    rw [f]
    go_ret
    exact ⟨rfl, rfl⟩
  · have f : wrap64 (IntKind.u64.wrap ((a : Int) * 11400714819323198485) / 2305843009213693952) = ((a * 11400714819323198485 % 18446744073709551616 / 2 ^ (64 - 3) : Nat) : Int) := wrap_hash a 2305843009213693952 (by omega)
    generalize a * 11400714819323198485 % 18446744073709551616 / 2 ^ (64 - 3) = r at *
    clear h g
    go_enter Try.func45, Try.ntmps45
    go_wp2_with fail
    refine Q.out.mono ?_
    rintro e w' ⟨rfl, rfl⟩
    go_wp2_with fail
    rw [f]
    go_ret
    exact ⟨rfl, rfl⟩
  · have f : wrap64 (IntKind.u64.wrap ((a : Int) * 11400714819323198485) / 1152921504606846976) = ((a * 11400714819323198485 % 18446744073709551616 / 2 ^ (64 - 4) : Nat) : Int) := wrap_hash a 1152921504606846976 (by omega)
    generalize a * 11400714819323198485 % 18446744073709551616 / 2 ^ (64 - 4) = r at *
    clear h g
    go_enter Try.func45, Try.ntmps45
    go_wp2_with fail
    refine Q.out.mono ?_
    rintro e w' ⟨rfl, rfl⟩
    go_wp2_with fail
    rw [f]
    go_ret
    exact ⟨rfl, rfl⟩
  · have f : wrap64 (IntKind.u64.wrap ((a : Int) * 11400714819323198485) / 576460752303423488) = ((a * 11400714819323198485 % 18446744073709551616 / 2 ^ (64 - 5) : Nat) : Int) := wrap_hash a 576460752303423488 (by omega)
    generalize a * 11400714819323198485 % 18446744073709551616 / 2 ^ (64 - 5) = r at *
    clear h g
    go_enter Try.func45, Try.ntmps45
    go_wp2_with fail
    refine Q.out.mono ?_
    rintro e w' ⟨rfl, rfl⟩
    go_wp2_with fail
    rw [f]
    go_ret
    exact ⟨rfl, rfl⟩
  · have f : wrap64 (IntKind.u64.wrap ((a : Int) * 11400714819323198485) / 288230376151711744) = ((a * 11400714819323198485 % 18446744073709551616 / 2 ^ (64 - 6) : Nat) : Int) := wrap_hash a 288230376151711744 (by omega)
    generalize a * 11400714819323198485 % 18446744073709551616 / 2 ^ (64 - 6) = r at *
    clear h g
    go_enter Try.func45, Try.ntmps45
    go_wp2_with fail
    refine Q.out.mono ?_
    rintro e w' ⟨rfl, rfl⟩
    go_wp2_with fail
    rw [f]
    go_ret
    exact ⟨rfl, rfl⟩
  · have f : wrap64 (IntKind.u64.wrap ((a : Int) * 11400714819323198485) / 144115188075855872) = ((a * 11400714819323198485 % 18446744073709551616 / 2 ^ (64 - 7) : Nat) : Int) := wrap_hash a 144115188075855872 (by omega)
    generalize a * 11400714819323198485 % 18446744073709551616 / 2 ^ (64 - 7) = r at *
    clear h g
    go_enter Try.func45, Try.ntmps45
    go_wp2_with fail
    refine Q.out.mono ?_
    rintro e w' ⟨rfl, rfl⟩
    go_wp2_with fail
    rw [f]
    go_ret
    exact ⟨rfl, rfl⟩
  · have f : wrap64 (IntKind.u64.wrap ((a : Int) * 11400714819323198485) / 72057594037927936) = ((a * 11400714819323198485 % 18446744073709551616 / 2 ^ (64 - 8) : Nat) : Int) := wrap_hash a 72057594037927936 (by omega)
    generalize a * 11400714819323198485 % 18446744073709551616 / 2 ^ (64 - 8) = r at *
    clear h g
    go_enter Try.func45, Try.ntmps45
    go_wp2_with fail
    refine Q.out.mono ?_
    rintro e w' ⟨rfl, rfl⟩
    go_wp2_with fail
    rw [f]
    go_ret
    exact ⟨rfl, rfl⟩
def hashZ (a : Nat) (b : Int) : Int := if 2 ≤ b ∧ b ≤ 8 then (hsh a b.toNat : Nat) else -1
theorem hash_any (a : Nat) (b : Int) (ha : a < 4294967296) (w : World) : Calls Try.prog 45 #[.int .u32 a, .int .i64 b] w fun e w' => e = .returned (.int .i64 (hashZ a b)) ∧ w = w' := by
  unfold hashZ
  by_cases h : 2 ≤ b ∧ b ≤ 8
  · obtain ⟨n, rfl⟩ := Int.eq_ofNat_of_zero_le (show 0 ≤ b by omega)
    rw [if_pos h]
    exact hash_yes a n ha (by omega) (by omega) w
  · rw [if_neg h]
    exact hash_no a b (by omega) w
theorem size_le (b : Int) : sizeN b ≤ 256 := by
  unfold sizeN
  split
  · rename_i h
    calc 2 ^ b.toNat ≤ 2 ^ 8 := Nat.pow_le_pow_right (by omega) (by omega)
      _ = 256 := rfl
  · omega
end Go.Proofs.Ytcdoklgjicfkmaa
