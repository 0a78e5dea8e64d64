/- A set of tables, as it lies: the model, the map by bits, who owns which block. -/
import Derived.Test.YtaajgnpfndljoaaGreatS10K1
import Derived.Maps.OwnOps
import Derived.Maps.Views
set_option linter.unusedVariables false
set_option linter.unusedSimpArgs false
namespace Go.Proofs.YtaajgnpfndljoaaGreat.S10
open Go.Proofs.YtaajgnpfndljoaaGreat
open Go.RowKit

instance : Inhabited Bk := ⟨⟨0, 0, []⟩⟩

/-! ### the map -/
end Go.Proofs.YtaajgnpfndljoaaGreat.S10
