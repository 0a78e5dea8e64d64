/-
  DERIVED. GIVEN WITH THE SEED: THE CARDS: each row of YtdfnocopakbhoaaGreatDoorRows.lean that lists a variable, with what it lists TIED to the program's text (the seventh form; the later family's looks); each row that meets fmt, with fmt's text TOLD by the authors' own Lean function (tested against real Go, not proved from fmt's source: count such statements apart). THE CARD IS WHAT COUNTS. Prove the row's statement (the work); the ties are given (YtdfnocopakbhoaaGreatDoorTie.lean); close each card by the builder's one call (the guide's Derived/Test/ToyasCard.lean, 'card_holds'). Laid BY PROGRAM, IN A SANDBOX (cutbox-door.mjs). By AI agents, Wed Nov 11 2026. No macro, syntax, notation, axiom, sorry.
-/
import Derived.Test.YtdfnocopakbhoaaGreatDoorRows
import GoSem.ClaimSeven
namespace Go.Proofs.YtdfnocopakbhoaaGreatDoor
namespace Rows

/-- THE TIED CARD OF 'laybylaw12.WorldsNew'. -/
def worldsNewCard : Claim7 := { stood := { row := worldsNewRow, standIns := [], harness := (true, "227ab0c881e1160bf6e533f7a0640c7e550a69453f8902a200094dbc10bd7140"), looks := false }, kinds := [], alts := [], laidByText := true, laidKinds := [.data], laidTests := true, laidLooks := .later }
def WorldsNewCardSaid : Prop := Claim7.holds Tryz.pinned (.plain (OpenSpec.ofChange worldsNewSpec)) worldsNewCard

/-- THE TIED CARD OF 'laybylaw12.WorldsSteps'. -/
def worldsStepsCard : Claim7 := { stood := { row := worldsStepsRow, standIns := [], harness := (true, "227ab0c881e1160bf6e533f7a0640c7e550a69453f8902a200094dbc10bd7140"), looks := false }, kinds := [], alts := [], laidByText := true, laidKinds := [.data], laidTests := true, laidLooks := .later }
def WorldsStepsCardSaid : Prop := Claim7.holds Tryz.pinned (.plain (OpenSpec.ofChange worldsStepsSpec)) worldsStepsCard

/-- THE SECOND FORM's CARD OF 'laybylaw12.WorldsNew'. -/
def worldsNewUptoCard : Claim7 := { stood := { row := worldsNewUptoRow, standIns := [], harness := (true, "227ab0c881e1160bf6e533f7a0640c7e550a69453f8902a200094dbc10bd7140"), looks := false }, kinds := [], alts := [], laidByText := true, laidKinds := [.data], laidTests := true, laidLooks := .later }
def WorldsNewUptoCardSaid : Prop := Claim7.holds Tryz.pinned (.plain (OpenSpec.upto worldsNewSpec)) worldsNewUptoCard

/-- THE SECOND FORM's CARD OF 'laybylaw12.WorldsSteps'. -/
def worldsStepsUptoCard : Claim7 := { stood := { row := worldsStepsUptoRow, standIns := [], harness := (true, "227ab0c881e1160bf6e533f7a0640c7e550a69453f8902a200094dbc10bd7140"), looks := false }, kinds := [], alts := [], laidByText := true, laidKinds := [.data], laidTests := true, laidLooks := .later }
def WorldsStepsUptoCardSaid : Prop := Claim7.holds Tryz.pinned (.plain (OpenSpec.upto worldsStepsSpec)) worldsStepsUptoCard
end Rows
end Go.Proofs.YtdfnocopakbhoaaGreatDoor
