/- The parts of a way: read, ask, take, leave; begin and step. -/
import Derived.Test.YtdodloannlfnlaaGreatS15B
import Derived.StillTailTactics
import Derived.Deep.RegionHeld3
import Derived.Deep.QuietTactic
import Derived.BigQuiet
set_option linter.unusedVariables false
set_option linter.unusedSimpArgs false
namespace Go.Proofs.YtdodloannlfnlaaGreat.S15
open Go.Proofs.YtdodloannlfnlaaGreat Go.Proofs.YtdodloannlfnlaaGreat.S11 Go.Proofs.YtdodloannlfnlaaGreat.S12 Go.Proofs.YtdodloannlfnlaaGreat.S13 Go.Proofs.YtdodloannlfnlaaGreat.S14
open Go.RowKit

abbrev sP (B : Nat) : Value := .pointer (some ⟨B, 2, none⟩)
theorem bits_any (u : Nat) (hu : u < 18446744073709551616) (w : World) : Calls Tryz.prog 162 #[.int .u64 (u : Int)] w fun e w' => e = .returned (.int .i64 (bitsN u : Int)) ∧ w = w' := by
  unfold bitsN
  by_cases h : 2 ≤ u
  · by_cases g : u ≤ 8
    · rw [if_pos ⟨h, g⟩]
      have d0 : decide ((u : Int) < 2) = false := decide_eq_false (by omega)
      have d1 : decide ((8 : Int) < (u : Int)) = false := decide_eq_false (by omega)
      have e1 : wrap64 (u : Int) = (u : Int) := by unfold wrap64; omega
      have e2 : IntKind.i64.wrap (u : Int) = (u : Int) := by rw [IntKind.wrap_i64]; omega
      clear h g hu
      go_enter Tryz.func162, Tryz.ntmps162
      go_wp2_with fail
      go_ret
      exact ⟨rfl, rfl⟩
    · rw [if_neg (by omega)]
      have d0 : decide ((u : Int) < 2) = false := decide_eq_false (by omega)
      have d1 : decide ((8 : Int) < (u : Int)) = true := decide_eq_true (by omega)
      clear h g hu
      go_enter Tryz.func162, Tryz.ntmps162
      go_wp2_with fail
      go_ret
      exact ⟨rfl, rfl⟩
  · rw [if_neg (by omega)]
    have d0 : decide ((u : Int) < 2) = true := decide_eq_true (by omega)
    clear h hu
    go_enter Tryz.func162, Tryz.ntmps162
    go_wp2_with fail
    go_ret
    exact ⟨rfl, rfl⟩
/-- Place of a key. -/
def placeV (key u : Nat) : Value := .agg #[.int .i64 (bitsN u : Int), .int .i64 (bktN key u : Int)]
section
variable {w0 w w' : World} {base WB : Nat} {M : Sd} {r : List Part} {j : Nat} {o : Bool} {t kw tw : Nat} {Z : Wb} {X : Wm}
end
end Go.Proofs.YtdodloannlfnlaaGreat.S15
