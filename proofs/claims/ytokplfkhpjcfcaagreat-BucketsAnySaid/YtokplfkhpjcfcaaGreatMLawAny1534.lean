/- Texts of this seat, one behind the other. -/
import Derived.Test.YtokplfkhpjcfcaaGreatMLawAny1533
set_option linter.unusedVariables false
set_option linter.unusedSimpArgs false
set_option linter.unusedVariables false
set_option linter.unusedSimpArgs false
namespace Go.Proofs.YtokplfkhpjcfcaaGreat.S15
open Go.Proofs.YtokplfkhpjcfcaaGreat Go.Proofs.YtokplfkhpjcfcaaGreat.S11 Go.Proofs.YtokplfkhpjcfcaaGreat.S12 Go.Proofs.YtokplfkhpjcfcaaGreat.S13 Go.Proofs.YtokplfkhpjcfcaaGreat.S14
open Go.RowKit
theorem law_any (u key : Nat) (z0 z1 t : Int) (hu : u < 18446744073709551616) (hk : key < 4294967296) (w : World) : Calls Tryz.prog 3 #[.int .u64 (u : Int), .int .u32 (key : Int), .agg #[.int .i64 z0, .int .i64 z1, .int .i64 t]] w fun e w' => e = .returned (.bool true) ∧ Below w.heap.size w w' := by
  rcases (show t < 0 ∨ 64 ≤ t ∨ (0 ≤ t ∧ t < 64) by omega) with h | h | h
  · exact law_any_neg u key z0 z1 t hu hk h w
  · exact law_any_big u key z0 z1 t hu hk h w
  · exact law_any_thread u key z0 z1 t hu hk h w
end Go.Proofs.YtokplfkhpjcfcaaGreat.S15
