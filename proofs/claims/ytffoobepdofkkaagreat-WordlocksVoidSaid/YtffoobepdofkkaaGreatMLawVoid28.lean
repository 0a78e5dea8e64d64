/- Texts of this seat, one behind the other. -/
import Derived.Test.YtffoobepdofkkaaGreatMLawVoid27
import Derived.Test.YtffoobepdofkkaaGreatRows
import Derived.Lib.SmallJoins
import Derived.ProofKit
import Derived.OpenShut
import Derived.Deep.Slices
import Derived.Carry
namespace Go.Proofs.YtffoobepdofkkaaGreat
open Go.ChangeShapes Go.WideShapes Go.ChangeAt Go.RowKit Go.Deep

theorem own : ownKnob Tryz.prog.godebug = none := by kernel_rfl
theorem laidOut : laidOutB Tryz.prog = true := by kernel_rfl
end Go.Proofs.YtffoobepdofkkaaGreat
