/-
  DERIVED. GIVEN WITH THE SEED: THE CARDS: each row of YthafnphpcdbnlaaGreatDoorRows.lean that lists a variable, with what it lists TIED to the program's text (the seventh form; the later family's looks); each row that meets fmt, with fmt's text TOLD by the authors' own Lean function (tested against real Go, not proved from fmt's source: count such statements apart). THE CARD IS WHAT COUNTS. Prove the row's statement (the work); the ties are given (YthafnphpcdbnlaaGreatDoorTie.lean); close each card by the builder's one call (the guide's Derived/Test/ToyasCard.lean, 'card_holds'). Laid BY PROGRAM, IN A SANDBOX (cutbox-door.mjs). By AI agents, Wed Nov 11 2026. No macro, syntax, notation, axiom, sorry.
-/
import Derived.Test.YthafnphpcdbnlaaGreatDoorRows
import GoSem.ClaimSeven
namespace Go.Proofs.YthafnphpcdbnlaaGreatDoor
namespace Rows

/-- THE TIED CARD OF 'laybylaw12.WorldsNew'. -/
def worldsNewCard : Claim7 := { stood := { row := worldsNewRow, standIns := [], harness := (true, "b8e6535b317be8428c7d84203d92d3f91cc6087d12d8ed84e6d64699245e1968"), looks := false }, kinds := [], alts := [], laidByText := true, laidKinds := [.data], laidTests := true, laidLooks := .later }
def WorldsNewCardSaid : Prop := Claim7.holds Tryz.pinned (.plain (OpenSpec.ofChange worldsNewSpec)) worldsNewCard

/-- THE SECOND FORM's CARD OF 'laybylaw12.WorldsNew'. -/
def worldsNewUptoCard : Claim7 := { stood := { row := worldsNewUptoRow, standIns := [], harness := (true, "b8e6535b317be8428c7d84203d92d3f91cc6087d12d8ed84e6d64699245e1968"), looks := false }, kinds := [], alts := [], laidByText := true, laidKinds := [.data], laidTests := true, laidLooks := .later }
def WorldsNewUptoCardSaid : Prop := Claim7.holds Tryz.pinned (.plain (OpenSpec.upto worldsNewSpec)) worldsNewUptoCard
end Rows
end Go.Proofs.YthafnphpcdbnlaaGreatDoor
