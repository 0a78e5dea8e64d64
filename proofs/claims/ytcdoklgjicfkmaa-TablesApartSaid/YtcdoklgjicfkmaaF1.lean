/- The document's sizes and hashes. -/
import Derived.Test.YtcdoklgjicfkmaaH2
import Derived.Test.YtcdoklgjicfkmaaM1
namespace Go.Proofs.Ytcdoklgjicfkmaa
open Go.RowKit

theorem rsize_no (b : Int) (h : b < 2 ∨ 8 < b) (w : World) : Calls Try.prog 49 #[.int .i64 b] w fun e w' => e = .returned (.int .i64 0) ∧ w = w' := by
  by_cases h2 : b < 2
  · clear h
    go_enter Try.func49, Try.ntmps49
    go_wp2_with fail
    go_ret
    exact ⟨rfl, rfl⟩
  · have h8 : 8 < b := by omega
    have h2' : 2 ≤ b := by omega
    clear h h2
    go_enter Try.func49, Try.ntmps49
    go_wp2_with fail
    go_ret
    exact ⟨rfl, rfl⟩
theorem rsize_yes (b : Nat) (h : 2 ≤ b) (g : b ≤ 8) (w : World) : Calls Try.prog 49 #[.int .i64 b] w fun e w' => e = .returned (.int .i64 (2 ^ b : Nat)) ∧ w = w' := by
  have h' : 2 ≤ (b : Int) := by omega
  have g' : (b : Int) ≤ 8 := by omega
  go_enter Try.func49, Try.ntmps49
  go_wp2_with fail
  go_loopg [3, 4] b (fun q s3 s4 wx => ∃ k : Nat, k ≤ b ∧ q = b - k ∧ s3 = .int .i64 (2 ^ k : Nat) ∧ s4 = .int .i64 (k : Int) ∧ w = wx)
  case atStart => exact ⟨0, by omega, rfl, rfl, rfl, rfl⟩
  case round =>
    obtain ⟨k, hk, rfl, rfl, rfl, rfl⟩ := hrel
    by_cases hkb : k < b
    · have hz : 2 ^ k ≤ 128 := by
        calc 2 ^ k ≤ 2 ^ 7 := Nat.pow_le_pow_right (by omega) (by omega)
          _ = 128 := rfl
      have hs : 2 ^ (k + 1) = 2 * 2 ^ k := by rw [Nat.pow_succ]; omega
      have HS := Lib.hid hs
      obtain ⟨z, hzz⟩ : ∃ z, z = 2 ^ k := ⟨_, rfl⟩
      rw [← hzz] at hz ⊢
      have HZ := Lib.hid hzz
      clear hzz hs
      go_wp2_with fail
      go_roundg (b - (k + 1))
      case measure => omega
      case rel =>
        refine ⟨k + 1, by omega, rfl, ?_, by go_num, rfl⟩
        rw [HS.out, ← HZ.out]
        go_num
    · obtain rfl : k = b := by omega
      obtain ⟨z, hzz⟩ : ∃ z, z = 2 ^ k := ⟨_, rfl⟩
      rw [← hzz]
      have HZ := Lib.hid hzz
      clear hzz
      go_wp2_with fail
      go_ret
      exact ⟨by rw [← HZ.out]; rfl, rfl⟩
theorem rsize_any (b : Int) (w : World) : Calls Try.prog 49 #[.int .i64 b] w fun e w' => e = .returned (.int .i64 (sizeN b : Nat)) ∧ w = w' := by
  unfold sizeN
  by_cases h : 2 ≤ b ∧ b ≤ 8
  · obtain ⟨n, rfl⟩ := Int.eq_ofNat_of_zero_le (show 0 ≤ b by omega)
    rw [if_pos h]
    exact rsize_yes n (by omega) (by omega) w
  · rw [if_neg h]
    exact rsize_no b (by omega) w
theorem u64_hash (a m : Nat) (hm : m = a * 11400714819323198485 % 18446744073709551616) : IntKind.u64.wrap ((a : Int) * 11400714819323198485) = (m : Int) := by
  rw [IntKind.wrap_u64]; omega
set_option maxHeartbeats 1000000 in
theorem rhash_yes (a b : Nat) (ha : a < 4294967296) (h : 2 ≤ b) (g : b ≤ 8) (w : World) : Calls Try.prog 50 #[.int .u32 a, .int .i64 b] w fun e w' => e = .returned (.int .i64 (hsh a b : Nat)) ∧ w = w' := by
  have h' : 2 ≤ (b : Int) := by omega
  have g' : (b : Int) ≤ 8 := by omega
  have hl := hsh_lt a b (by omega)
  have hl2 : 2 ^ b ≤ 256 := by
    calc 2 ^ b ≤ 2 ^ 8 := Nat.pow_le_pow_right (by omega) (by omega)
      _ = 256 := rfl
  unfold hsh at hl ⊢
  obtain ⟨m, hm⟩ : ∃ m, m = a * 11400714819323198485 % 18446744073709551616 := ⟨_, rfl⟩
  have f := u64_hash a m hm
  have hmm : m < 18446744073709551616 := by rw [hm]; exact Nat.mod_lt _ (by omega)
  rw [← hm] at hl ⊢
  have HM := Lib.hid hm; have HL := Lib.hid hl
  clear hm hl
  go_enter Try.func50, Try.ntmps50
  go_wp2_with fail
  go_loopg [5, 6] (64 - b) (fun q s5 s6 wx => ∃ i : Nat, b ≤ i ∧ i ≤ 64 ∧ q = 64 - i ∧ s5 = .int .u64 (m / 2 ^ (i - b) : Nat) ∧ s6 = .int .i64 (i : Int) ∧ w = wx)
  case atStart =>
    refine ⟨b, by omega, by omega, rfl, ?_, rfl, rfl⟩
    rw [Nat.sub_self, Nat.pow_zero, Nat.div_one]
  case round =>
    obtain ⟨i, hi, hi2, rfl, rfl, rfl, rfl⟩ := hrel
    by_cases h64 : i < 64
    · have hx : m / 2 ^ (i - b) ≤ m := Nat.div_le_self _ _
      have hs : m / 2 ^ (i + 1 - b) = m / 2 ^ (i - b) / 2 := by
        rw [Nat.div_div_eq_div_mul, ← Nat.pow_succ, show i + 1 - b = (i - b) + 1 by omega]
      have HSS := Lib.hid hs
      obtain ⟨x, hxx⟩ : ∃ x, x = m / 2 ^ (i - b) := ⟨_, rfl⟩
      rw [← hxx] at hx ⊢
      have HX := Lib.hid hxx
      clear hxx hs
      go_wp2_with fail
      go_roundg (64 - (i + 1))
      case measure => omega
      case rel =>
        refine ⟨i + 1, by omega, by omega, rfl, ?_, by go_num, rfl⟩
        rw [HSS.out, ← HX.out]
        go_num
    · obtain rfl : i = 64 := by omega
      have hx := HL.out
      obtain ⟨x, hxx⟩ : ∃ x, x = m / 2 ^ (64 - b) := ⟨_, rfl⟩
      rw [← hxx] at hx ⊢
      have HX := Lib.hid hxx
      have hx3 : x < 256 := by omega
      clear hxx hx
      go_wp2_with fail
      go_ret
      exact ⟨by rw [← HX.out]; rfl, rfl⟩
theorem pow_bits (b : Nat) (g : b ≤ 8) : 2 ^ b ≤ 256 := by
  calc 2 ^ b ≤ 2 ^ 8 := Nat.pow_le_pow_right (by omega) (by omega)
    _ = 256 := rfl
/-- The hash, as far as the laws ask. -/
theorem hash_kit : ∃ h : Nat → Nat → Nat, (∀ b : Nat, 2 ≤ b → b ≤ 8 → ∀ (k : Nat) (w : World), k < 4294967296 → Calls Try.prog 45 #[.int .u32 k, .int .i64 b] w fun e w' => e = .returned (.int .i64 (h b k : Nat)) ∧ w = w') ∧
    (∀ b : Nat, 2 ≤ b → b ≤ 8 → ∀ (k : Nat) (w : World), k < 4294967296 → Calls Try.prog 50 #[.int .u32 k, .int .i64 b] w fun e w' => e = .returned (.int .i64 (h b k : Nat)) ∧ w = w') ∧
    (∀ b : Nat, b ≤ 8 → ∀ k, h b k < 2 ^ b) ∧ (∀ b : Nat, b < 64 → ∀ k, h (b + 1) k / 2 = h b k) ∧ h 2 0 = 0 ∧ h 2 1 = 2 :=
  ⟨fun b k => hsh k b, fun b h g k w hk => hash_yes k b hk h g w, fun b h g k w hk => rhash_yes k b hk h g w, fun b g k => hsh_lt k b (by omega), fun b g k => hsh_half k b g, by decide, by decide⟩
end Go.Proofs.Ytcdoklgjicfkmaa
