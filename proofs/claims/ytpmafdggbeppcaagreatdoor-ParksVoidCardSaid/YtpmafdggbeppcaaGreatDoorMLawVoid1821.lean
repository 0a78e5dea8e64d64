/- Texts of this seat, one behind the other. -/
import Derived.Test.YtpmafdggbeppcaaGreatDoorMLawVoid1820
import Derived.Deep.DeepCutAuto
set_option linter.unusedVariables false
set_option linter.unusedSimpArgs false
namespace Go.Proofs.YtpmafdggbeppcaaGreatDoor.S10
open Go.Proofs.YtpmafdggbeppcaaGreatDoor
open Go.RowKit
end Go.Proofs.YtpmafdggbeppcaaGreatDoor.S10
namespace Go.Proofs.YtpmafdggbeppcaaGreatDoor.S10
open Go.Proofs.YtpmafdggbeppcaaGreatDoor
open Go.RowKit
def cutL (D : List Ent) (p : Int) : List Ent := if 0 ≤ p then D.eraseIdx p.toNat else D
def cutB (D : List Ent) (p : Int) : Bool := decide (0 ≤ p) && decide (p < D.length)
def re (key : Int) (e : Ent) : Ent := ⟨e.t, key, e.z⟩
def movedL (D M : List Ent) (key : Int) : List Ent := D ++ M.map (re key)
theorem Row.below_of {w w' : World} {base sz n : Nat} {s : Value} {cs : List Value} (h : Row w base sz s n cs) (t : Turns (fun k => s.ownBlock = some k) w w') (hb : base ≤ w.heap.size) : Below base w w' :=
  t.below hb (fun k hk e => by have := (h.lt k e).1; omega)
theorem moved_len (D M : List Ent) (key : Int) : (movedL D M key).length = D.length + M.length := by simp [movedL]
end Go.Proofs.YtpmafdggbeppcaaGreatDoor.S10
