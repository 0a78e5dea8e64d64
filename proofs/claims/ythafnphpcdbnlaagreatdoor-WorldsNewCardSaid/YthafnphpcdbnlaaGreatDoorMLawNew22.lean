/- Texts of this seat, one behind the other. -/
import Derived.Test.YthafnphpcdbnlaaGreatDoorMLawNew19
import Derived.Test.YthafnphpcdbnlaaGreatDoorMLawNew20
import Derived.Test.YthafnphpcdbnlaaGreatDoorMLawNew21
import Derived.Shelf.Abstract
import Derived.OwnWalkIn
import Derived.TacticsInMore
import Derived.LoopNIn
import Derived.LoopIn
set_option linter.unusedVariables false
set_option linter.unusedSimpArgs false
set_option linter.unusedVariables false
set_option linter.unusedSimpArgs false
namespace Go.Proofs.YthafnphpcdbnlaaGreatDoor.S10
open Go.Proofs.YthafnphpcdbnlaaGreatDoor
open Go.RowKit


end Go.Proofs.YthafnphpcdbnlaaGreatDoor.S10
