/- Texts of this seat, one behind the other. -/
import Derived.Test.YtlflagjnlclffaaGreatMLawPlay149
import Derived.Deep.RegionHeld3
import Derived.Deep.DeepCutAuto
set_option linter.unusedVariables false
set_option linter.unusedSimpArgs false
namespace Go.Proofs.YtlflagjnlclffaaGreat.S2
open Go.Proofs.YtlflagjnlclffaaGreat
open Go.RowKit Go.Maps
theorem cell_turns {S : Nat → Prop} {xb o : Nat} {v : Value} {w w' : World} (h : w.cell? ⟨xb, o, none⟩ = some v) (t : Turns S w w') (hn : ¬ S xb) : w'.cell? ⟨xb, o, none⟩ = some v :=
  (World.cell?_of_block (w := w) (t.block xb (World.block_lt_of_cell? w _ h) hn)).trans h
theorem turns_drew (S : Nat → Prop) (w : World) : Turns S w w.drew := Turns.of_below ((Below.refl _ _).drew)
end Go.Proofs.YtlflagjnlclffaaGreat.S2
