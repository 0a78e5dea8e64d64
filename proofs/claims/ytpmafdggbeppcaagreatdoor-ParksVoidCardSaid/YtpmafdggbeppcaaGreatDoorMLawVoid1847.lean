/- Texts of this seat, one behind the other. -/
import Derived.Test.YtpmafdggbeppcaaGreatDoorMLawVoid1818
import Derived.Test.YtpmafdggbeppcaaGreatDoorMLawVoid1844
import Derived.Test.YtpmafdggbeppcaaGreatDoorMLawVoid1846
set_option linter.unusedVariables false
set_option linter.unusedSimpArgs false
namespace Go.Proofs.YtpmafdggbeppcaaGreatDoor.S14
open Go.Proofs.YtpmafdggbeppcaaGreatDoor Go.Proofs.YtpmafdggbeppcaaGreatDoor.S11 Go.Proofs.YtpmafdggbeppcaaGreatDoor.S12 Go.Proofs.YtpmafdggbeppcaaGreatDoor.S13
open Go.RowKit
theorem begin_void (w : World) : Calls Tryz.prog 7 #[.agg #[.int .i64 0, .int .u64 0, .slice none 0 0, .slice none 0 0, .slice none 0 0, .slice none 0 0, .int .u64 0]] w fun e w' => ∃ M X Y, e = .returned (.agg #[Pw X.wB, Pw Y.wB]) ∧ Bg w w' w.heap.size X.wB Y.wB 1200 2097164 7 M M [] X Y :=
  begin_any (sp := 0) (mo := 0) (dc := 0) (sn := 0) (sc := 0) (gn := 0) (gc := 0) (qn := 0) (qc := 0) (tk := 0) (D := []) (SA := fun _ => 0) (SV := fun _ => 0) (G := fun _ => 0) (Q := fun _ => default)
    (by simp) (by simp) (by omega) (by omega) S3.Rd.nil (fun d hd => by cases hd) (by omega) (fun h => absurd h (by omega)) (fun i hi => absurd hi (by omega)) (fun h => absurd h (by omega)) (fun i hi => absurd hi (by omega)) (by omega) (fun h => absurd h (by omega)) (fun i hi => absurd hi (by omega)) (by omega) (by omega)
end Go.Proofs.YtpmafdggbeppcaaGreatDoor.S14
