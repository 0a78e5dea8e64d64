/- More behind, in a walk; entries, as they lie. -/
import Derived.Test.YtaajgnpfndljoaaGreatE19
import Derived.Deep.RegionHeld
import Derived.RegionTactic
import Derived.Deep.CutRange
import Derived.Deep.LoopGhost
import Derived.Deep.RegionLaw
import Derived.Deep.DrawnRows
import Derived.Deep.QuietTactic
import Derived.BigQuiet
import Derived.Laws.StructEq
import Derived.Shelf.Abstract
import Derived.Lib.SliceRun
set_option linter.unusedVariables false
set_option linter.unusedSimpArgs false
namespace Go.Proofs.YtaajgnpfndljoaaGreat.S10
open Go.Proofs.YtaajgnpfndljoaaGreat
open Go.RowKit

section
variable {w : World} {S E sz bt : Nat} {z : Value}
end

instance : Inhabited Ent := ⟨⟨0, 0, 0⟩⟩
end Go.Proofs.YtaajgnpfndljoaaGreat.S10
