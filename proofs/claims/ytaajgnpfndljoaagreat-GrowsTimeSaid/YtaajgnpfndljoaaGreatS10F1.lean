/- The document's sizes and hashes. -/
import Derived.Test.YtaajgnpfndljoaaGreatS10B0
set_option linter.unusedVariables false
set_option linter.unusedSimpArgs false
namespace Go.Proofs.YtaajgnpfndljoaaGreat.S10
open Go.Proofs.YtaajgnpfndljoaaGreat
open Go.RowKit

theorem u64_hash (a m : Nat) (hm : m = a * 11400714819323198485 % 18446744073709551616) : IntKind.u64.wrap ((a : Int) * 11400714819323198485) = (m : Int) := by
  rw [IntKind.wrap_u64]; omega
theorem pow_bits (b : Nat) (g : b ≤ 8) : 2 ^ b ≤ 256 := by
  calc 2 ^ b ≤ 2 ^ 8 := Nat.pow_le_pow_right (by omega) (by omega)
    _ = 256 := rfl
end Go.Proofs.YtaajgnpfndljoaaGreat.S10
