/- Hashes: an address' hash, a bucket's lock. -/
import Derived.Test.YthafnphpcdbnlaaGreatE19
set_option linter.unusedVariables false
set_option linter.unusedSimpArgs false
namespace Go.Proofs.YthafnphpcdbnlaaGreat.S10
open Go.Proofs.YthafnphpcdbnlaaGreat
open Go.RowKit

theorem hash_no (a : Nat) (b : Int) (h : b < 2 ∨ 8 < b) (w : World) : Calls Tryz.prog 17 #[.int .u32 a, .int .i64 b] w fun e w' => e = .returned (.int .i64 (-1)) ∧ w = w' := by
  have q := is_any b w
  rw [tab_no h] at q
  have Q := Lib.hid q
  clear q h
  go_enter Tryz.func17, Tryz.ntmps17
  go_wp2_with fail
  refine Q.out.mono ?_
  rintro e w' ⟨rfl, rfl⟩
  go_wp2_with fail
  go_ret
  exact ⟨rfl, rfl⟩
theorem hash_yes (a b : Nat) (ha : a < 4294967296) (h : 2 ≤ b) (g : b ≤ 8) (w : World) : Calls Tryz.prog 17 #[.int .u32 a, .int .i64 b] w fun e w' => e = .returned (.int .i64 (hsh a b : Nat)) ∧ w = w' := by
  have q := is_any b w
  rw [tab_yes (by omega) (by omega)] at q
  have Q := Lib.hid q
  clear q
  have hb : b = 2 ∨ b = 3 ∨ b = 4 ∨ b = 5 ∨ b = 6 ∨ b = 7 ∨ b = 8 := by omega
  unfold hsh
  rcases hb with rfl | rfl | rfl | rfl | rfl | rfl | rfl
  · have f : wrap64 (IntKind.u64.wrap ((a : Int) * 11400714819323198485) / 4611686018427387904) = ((a * 11400714819323198485 % 18446744073709551616 / 2 ^ (64 - 2) : Nat) : Int) := wrap_hash a 4611686018427387904 (by omega)
    generalize a * 11400714819323198485 % 18446744073709551616 / 2 ^ (64 - 2) = r at *
    clear h g
    go_enter Tryz.func17, Tryz.ntmps17
    go_wp2_with fail
    refine Q.out.mono ?_
    rintro e w' ⟨rfl, rfl⟩
    go_wp2_with fail
    rw [f]
    go_ret
    exact ⟨rfl, rfl⟩
  · have f : wrap64 (IntKind.u64.wrap ((a : Int) * 11400714819323198485) / 2305843009213693952) = ((a * 11400714819323198485 % 18446744073709551616 / 2 ^ (64 - 3) : Nat) : Int) := wrap_hash a 2305843009213693952 (by omega)
    generalize a * 11400714819323198485 % 18446744073709551616 / 2 ^ (64 - 3) = r at *
    clear h g
    go_enter Tryz.func17, Tryz.ntmps17
    go_wp2_with fail
    refine Q.out.mono ?_
    rintro e w' ⟨rfl, rfl⟩
    go_wp2_with fail
    rw [f]
    go_ret
    exact ⟨rfl, rfl⟩
  · have f : wrap64 (IntKind.u64.wrap ((a : Int) * 11400714819323198485) / 1152921504606846976) = ((a * 11400714819323198485 % 18446744073709551616 / 2 ^ (64 - 4) : Nat) : Int) := wrap_hash a 1152921504606846976 (by omega)
    generalize a * 11400714819323198485 % 18446744073709551616 / 2 ^ (64 - 4) = r at *
    clear h g
    go_enter Tryz.func17, Tryz.ntmps17
    go_wp2_with fail
    refine Q.out.mono ?_
    rintro e w' ⟨rfl, rfl⟩
    go_wp2_with fail
    rw [f]
    go_ret
    exact ⟨rfl, rfl⟩
  · have f : wrap64 (IntKind.u64.wrap ((a : Int) * 11400714819323198485) / 576460752303423488) = ((a * 11400714819323198485 % 18446744073709551616 / 2 ^ (64 - 5) : Nat) : Int) := wrap_hash a 576460752303423488 (by omega)
    generalize a * 11400714819323198485 % 18446744073709551616 / 2 ^ (64 - 5) = r at *
    clear h g
    go_enter Tryz.func17, Tryz.ntmps17
    go_wp2_with fail
    refine Q.out.mono ?_
    rintro e w' ⟨rfl, rfl⟩
    go_wp2_with fail
    rw [f]
    go_ret
    exact ⟨rfl, rfl⟩
  · have f : wrap64 (IntKind.u64.wrap ((a : Int) * 11400714819323198485) / 288230376151711744) = ((a * 11400714819323198485 % 18446744073709551616 / 2 ^ (64 - 6) : Nat) : Int) := wrap_hash a 288230376151711744 (by omega)
    generalize a * 11400714819323198485 % 18446744073709551616 / 2 ^ (64 - 6) = r at *
    clear h g
    go_enter Tryz.func17, Tryz.ntmps17
    go_wp2_with fail
    refine Q.out.mono ?_
    rintro e w' ⟨rfl, rfl⟩
    go_wp2_with fail
    rw [f]
    go_ret
    exact ⟨rfl, rfl⟩
  · have f : wrap64 (IntKind.u64.wrap ((a : Int) * 11400714819323198485) / 144115188075855872) = ((a * 11400714819323198485 % 18446744073709551616 / 2 ^ (64 - 7) : Nat) : Int) := wrap_hash a 144115188075855872 (by omega)
    generalize a * 11400714819323198485 % 18446744073709551616 / 2 ^ (64 - 7) = r at *
    clear h g
    go_enter Tryz.func17, Tryz.ntmps17
    go_wp2_with fail
    refine Q.out.mono ?_
    rintro e w' ⟨rfl, rfl⟩
    go_wp2_with fail
    rw [f]
    go_ret
    exact ⟨rfl, rfl⟩
  · have f : wrap64 (IntKind.u64.wrap ((a : Int) * 11400714819323198485) / 72057594037927936) = ((a * 11400714819323198485 % 18446744073709551616 / 2 ^ (64 - 8) : Nat) : Int) := wrap_hash a 72057594037927936 (by omega)
    generalize a * 11400714819323198485 % 18446744073709551616 / 2 ^ (64 - 8) = r at *
    clear h g
    go_enter Tryz.func17, Tryz.ntmps17
    go_wp2_with fail
    refine Q.out.mono ?_
    rintro e w' ⟨rfl, rfl⟩
    go_wp2_with fail
    rw [f]
    go_ret
    exact ⟨rfl, rfl⟩
theorem hash_any (a : Nat) (b : Int) (ha : a < 4294967296) (w : World) : Calls Tryz.prog 17 #[.int .u32 a, .int .i64 b] w fun e w' => e = .returned (.int .i64 (hashZ a b)) ∧ w = w' := by
  unfold hashZ
  by_cases h : 2 ≤ b ∧ b ≤ 8
  · obtain ⟨n, rfl⟩ := Int.eq_ofNat_of_zero_le (show 0 ≤ b by omega)
    rw [if_pos h]
    exact hash_yes a n ha (by omega) (by omega) w
  · rw [if_neg h]
    exact hash_no a b (by omega) w
def lockZ (b i : Int) : Int := if i < 0 ∨ (sizeN b : Int) ≤ i then 0 else 256 + ((sizeN b : Int) + i)
theorem lock_any (b i : Int) (w : World) : Calls Tryz.prog 23 #[.int .i64 b, .int .i64 i] w fun e w' => e = .returned (.int .u32 (lockZ b i)) ∧ w = w' := by
  have q := size_any b w
  have hn := size_le b
  unfold lockZ
  generalize sizeN b = n at *
  have Q := Lib.hid q
  clear q
  by_cases h0 : i < 0
  · rw [if_pos (Or.inl h0)]
    go_enter Tryz.func23, Tryz.ntmps23
    go_wp2_with fail
    refine Q.out.mono ?_
    rintro e w' ⟨rfl, rfl⟩
    go_wp2_with fail
    go_ret
    exact ⟨rfl, rfl⟩
  · by_cases h1 : (n : Int) ≤ i
    · rw [if_pos (Or.inr h1)]
      go_enter Tryz.func23, Tryz.ntmps23
      go_wp2_with fail
      refine Q.out.mono ?_
      rintro e w' ⟨rfl, rfl⟩
      go_wp2_with fail
      go_ret
      exact ⟨rfl, rfl⟩
    · rw [if_neg (by omega)]
      have h2 : 0 ≤ i := by omega
      have h3 : i < (n : Int) := by omega
      clear h1 h0
      go_enter Tryz.func23, Tryz.ntmps23
      go_wp2_with fail
      refine Q.out.mono ?_
      rintro e w' ⟨rfl, rfl⟩
      go_wp2_with fail
      go_ret
      exact ⟨rfl, rfl⟩
end Go.Proofs.YthafnphpcdbnlaaGreat.S10
