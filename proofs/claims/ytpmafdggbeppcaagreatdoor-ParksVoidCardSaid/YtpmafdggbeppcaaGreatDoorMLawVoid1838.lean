/- Texts of this seat, one behind the other. -/
import Derived.Test.YtpmafdggbeppcaaGreatDoorMLawVoid183
import Derived.Great.Walk
import Derived.Deep.MidRow
import Derived.Laws.CopyOwn
set_option linter.unusedVariables false
set_option linter.unusedSimpArgs false
namespace Go.Proofs.YtpmafdggbeppcaaGreatDoor.S11
open Go.Proofs.YtpmafdggbeppcaaGreatDoor
open Go.RowKit
theorem results_cell {P : Program} {fn : Func} {tmps : Array Value} {a : Tmp} {t : TypeId} {ad : Addr} {v : Value} {w w' : World} (hr : fn.results = #[ResultVar.cell a t]) (ha : tmps.getD a undef = .pointer (some ad)) (hl : (loadVar t ad).run P w = .ok v w') :
    (results fn tmps).run P w = .ok v w' := by
  unfold results
  rw [hr]
  have ha' : tmps[a]?.getD undef = .pointer (some ad) := by simpa using ha
  simp [ha', asAddr, hl]
end Go.Proofs.YtpmafdggbeppcaaGreatDoor.S11
