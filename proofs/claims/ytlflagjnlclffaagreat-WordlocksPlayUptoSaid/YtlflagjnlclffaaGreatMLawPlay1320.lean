/- Texts of this seat, one behind the other. -/
import Derived.Test.YtlflagjnlclffaaGreatMLawPlay131
import Derived.Test.YtlflagjnlclffaaGreatMLawPlay1319
namespace Go.Proofs.YtlflagjnlclffaaGreat.S12
open Go.Proofs.YtlflagjnlclffaaGreat Go.Proofs.YtlflagjnlclffaaGreat.S11
open Go.RowKit

theorem bcell {w w' : World} {a : Addr} {v : Value} (h : Below w.heap.size w w') (hc : w.cell? a = some v) : w'.cell? a = some v := by
  have hl : a.block < w.heap.size := by
    unfold World.cell? at hc
    cases hb : w.heap[a.block]? with
    | none => simp [hb] at hc
    | some x => exact (Array.getElem?_eq_some_iff.1 hb).1
  exact (h.cell hl).trans hc
def TmIn (w : World) (B : Nat) (a f : Int) : Prop := w.heap[B]? = some (.cells #[.int .u64 a, .int .u64 f] 113 (0, 0))
section
variable {w w' : World} {B : Nat} {a f : Int}
theorem TmIn.z0 (h : TmIn w B a f) : w.frozen? ⟨B, 0, none⟩ = false := by simp [World.frozen?, show w.heap[B]? = _ from h]
theorem TmIn.z1 (h : TmIn w B a f) : w.frozen? ⟨B, 1, none⟩ = false := by simp [World.frozen?, show w.heap[B]? = _ from h]
end
end Go.Proofs.YtlflagjnlclffaaGreat.S12
