/- A table of so many bits: what keys hash to in it; Rehash by it. -/
import Derived.Test.YtaajgnpfndljoaaGreatS10F2
import Derived.Test.YtaajgnpfndljoaaGreatS10H2
set_option linter.unusedVariables false
set_option linter.unusedSimpArgs false
namespace Go.Proofs.YtaajgnpfndljoaaGreat.S10
open Go.Proofs.YtaajgnpfndljoaaGreat
open Go.RowKit

/-- A table of so many bits, and where keys hash to in it, if there is one. -/
structure Kit (b : Int) (n : Nat) (h : Nat → Nat) : Prop where
  size : ∀ w, Calls Tryz.prog 8 #[.int .i64 b] w fun e w' => e = .returned (.int .i64 (n : Nat)) ∧ w = w'
  hash : 0 < n → ∀ (k : Nat) w, k < 4294967296 → Calls Tryz.prog 108 #[.int .u32 k, .int .i64 b] w fun e w' => e = .returned (.int .i64 (h k : Nat)) ∧ w = w'
  lt : 0 < n → ∀ k, k < 4294967296 → h k < n
  few : n ≤ 256
theorem kit_of (b : Nat) (h : 2 ≤ b) (g : b ≤ 8) : Kit (b : Int) (2 ^ b) (fun k => hsh k b) := by
  have hz : sizeN (b : Int) = 2 ^ b := by unfold sizeN; rw [if_pos (by omega)]; rfl
  refine ⟨fun w => ?_, fun _ k w hk => hash_yes k b hk h g w, fun _ k _ => ?_, pow_bits b g⟩
  · rw [← hz]; exact size_any b w
  · show k * 11400714819323198485 % 18446744073709551616 / 2 ^ (64 - b) < 2 ^ b
    have e : (2 : Nat) ^ (64 - b) * 2 ^ b = 18446744073709551616 := by rw [← Nat.pow_add, show 64 - b + b = 64 by omega]
    refine Nat.div_lt_of_lt_mul ?_
    rw [e]
    exact Nat.mod_lt _ (by decide)
theorem rehash_all {w : World} {base n c : Nat} {b : Int} {A : Option Addr} {Ls : List (List Ent)} {h : Nat → Nat} (K : Kit b n h) (h0 : 0 < n) (hq : Qs w base A Ls) (hbase : base ≤ w.heap.size) (hc : Ls.length ≤ c) (hc9 : c ≤ 9223372036854775807) (hkeys : Keys Ls.flatten) (hlen : Ls.length ≤ 1000000) (hlen2 : Ls.flatten.length ≤ 100000) :
    Calls Tryz.prog 105 #[.slice A Ls.length c, .int .i64 b] w fun e w' => ∃ s ss, e = .returned s ∧ Tab w' w.heap.size s ss (reh h n Ls.flatten) ∧ (∀ i, i < n → ∃ A' m, ss[i]? = some (.slice A' m m)) ∧ Below w.heap.size w w' :=
  rehash_any h K.size (K.hash h0) (K.lt h0) h0 K.few hq hbase hc hc9 hkeys hlen hlen2
end Go.Proofs.YtaajgnpfndljoaaGreat.S10
