/- Texts of this seat, one behind the other. -/
import Derived.Test.YtdodloannlfnlaaGreatProg
import Derived.WalkKit
import Derived.LoopTactic
import Derived.Outline
import Derived.Lib.Hide
import Derived.Deep.RegionWith
import Derived.Deep.AppendSrc
import Derived.Deep.Upon
import Derived.Carry
import Derived.Defers
import Derived.Recover
import Derived.Laws.Pointers
import Derived.WalkSpells
import Derived.Laws.StructEq
import Derived.Deep.QuietTactic
import Derived.BigQuiet
import Derived.Deep.CutRange
set_option linter.unusedVariables false
set_option linter.unusedSimpArgs false
namespace Go.Proofs.YtdodloannlfnlaaGreat.S8
open Go.Proofs.YtdodloannlfnlaaGreat
open Go.RowKit

section
variable {T : TypeId} {w w' : World} {B a f : Nat}
end
end Go.Proofs.YtdodloannlfnlaaGreat.S8
namespace Go.Proofs.YtdodloannlfnlaaGreat.S8
open Go.Proofs.YtdodloannlfnlaaGreat
open Go.RowKit


section
variable {T : TypeId} {w w' : World} {B : Nat} {a f : Int}
end
end Go.Proofs.YtdodloannlfnlaaGreat.S8
