/- By whatever bits: Rehash, and what keys hash to. -/
import Derived.Test.YtcdoklgjicfkmaaF3
namespace Go.Proofs.Ytcdoklgjicfkmaa
open Go.RowKit

/-- A table of so many bits, and where keys hash to in it, if there is one. -/
structure Kit (b : Int) (n : Nat) (h : Nat → Nat) : Prop where
  size : ∀ w, Calls Try.prog 23 #[.int .i64 b] w fun e w' => e = .returned (.int .i64 (n : Nat)) ∧ w = w'
  rsize : ∀ w, Calls Try.prog 49 #[.int .i64 b] w fun e w' => e = .returned (.int .i64 (n : Nat)) ∧ w = w'
  hash : 0 < n → ∀ (k : Nat) w, k < 4294967296 → Calls Try.prog 45 #[.int .u32 k, .int .i64 b] w fun e w' => e = .returned (.int .i64 (h k : Nat)) ∧ w = w'
  rhash : 0 < n → ∀ (k : Nat) w, k < 4294967296 → Calls Try.prog 50 #[.int .u32 k, .int .i64 b] w fun e w' => e = .returned (.int .i64 (h k : Nat)) ∧ w = w'
  lt : 0 < n → ∀ k, k < 4294967296 → h k < n
  few : n ≤ 256
theorem kit_any (b : Int) : ∃ n h, Kit b n h := by
  obtain ⟨h, h1, h2, h3, -⟩ := hash_kit
  by_cases hb : 2 ≤ b ∧ b ≤ 8
  · obtain ⟨k, rfl⟩ := Int.eq_ofNat_of_zero_le (show 0 ≤ b by omega)
    have hz : sizeN (k : Int) = 2 ^ k := by unfold sizeN; rw [if_pos hb]; rfl
    refine ⟨2 ^ k, h k, fun w => ?_, fun w => ?_, fun _ => h1 k (by omega) (by omega), fun _ => h2 k (by omega) (by omega), fun _ x _ => h3 k (by omega) x, pow_bits k (by omega)⟩
    · rw [← hz]; exact size_any k w
    · rw [← hz]; exact rsize_any k w
  · have hz : sizeN b = 0 := by unfold sizeN; rw [if_neg hb]
    refine ⟨0, fun _ => 0, fun w => ?_, fun w => ?_, fun h => by omega, fun h => by omega, fun h => by omega, by omega⟩
    · rw [← hz]; exact size_any b w
    · rw [← hz]; exact rsize_any b w
theorem rehash_none {w : World} {b : Int} {A : Option Addr} {m c : Nat} (hs : ∀ w, Calls Try.prog 23 #[.int .i64 b] w fun e w' => e = .returned (.int .i64 (0 : Nat)) ∧ w = w') :
    Calls Try.prog 25 #[.slice A m c, .int .i64 b] w fun e w' => e = .returned (.slice none 0 0) ∧ Below w.heap.size w w' := by
  have HS := Lib.hid hs
  clear hs
  go_enter Try.func25, Try.ntmps25
  go_wp2_with (go_at_call 23; refine (HS.out _).mono ?_; rintro e w' ⟨rfl, rfl⟩)
  go_ret
  exact ⟨rfl, (Below.refl _ w).alloc (Nat.le_refl _) _⟩
theorem rehash_all {w : World} {base n c : Nat} {b : Int} {A : Option Addr} {Ls : List (List Ent)} {h : Nat → Nat} (K : Kit b n h) (hq : Qs w base A Ls) (hbase : base ≤ w.heap.size) (hc : Ls.length ≤ c) (hc9 : c ≤ 9223372036854775807) (hkeys : Keys Ls.flatten) (hlen : Ls.length ≤ 1000000) (hlen2 : Ls.flatten.length ≤ 100000) :
    Calls Try.prog 25 #[.slice A Ls.length c, .int .i64 b] w fun e w' => ∃ s ss, e = .returned s ∧ Tab w' w.heap.size s ss (reh h n Ls.flatten) ∧ (∀ i, i < n → ∃ A' m, ss[i]? = some (.slice A' m m)) ∧ Below w.heap.size w w' := by
  by_cases h0 : 0 < n
  · exact rehash_any h K.size (K.hash h0) (K.lt h0) h0 K.few hq hbase hc hc9 hkeys hlen hlen2
  · obtain rfl : n = 0 := by omega
    refine (rehash_none K.size).mono ?_
    rintro e w' ⟨rfl, hb⟩
    exact ⟨_, [], rfl, tab_nil _ _, fun i hi => by omega, hb⟩
theorem kits : ∃ h : Nat → Nat → Nat, (∀ k : Nat, 2 ≤ k → k ≤ 8 → Kit (k : Int) (2 ^ k) (h k)) ∧ ∀ b : Nat, b < 64 → ∀ k, h (b + 1) k / 2 = h b k := by
  obtain ⟨h, h1, h2, h3, h4, -⟩ := hash_kit
  refine ⟨h, fun k hk hk8 => ?_, h4⟩
  have hz : sizeN (k : Int) = 2 ^ k := by unfold sizeN; rw [if_pos (by omega)]; rfl
  refine ⟨fun w => ?_, fun w => ?_, fun _ => h1 k (by omega) (by omega), fun _ => h2 k (by omega) (by omega), fun _ x _ => h3 k (by omega) x, pow_bits k (by omega)⟩
  · rw [← hz]; exact size_any k w
  · rw [← hz]; exact rsize_any k w
end Go.Proofs.Ytcdoklgjicfkmaa
