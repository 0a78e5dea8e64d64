/-
  DERIVED. GIVEN WITH THE SEED: THE CARDS: each row of YtbibinffdcjgfaaDoorRows.lean that lists a variable, with what it lists TIED to the program's text (the seventh form; the later family's looks); each row that meets fmt, with fmt's text TOLD by the authors' own Lean function (tested against real Go, not proved from fmt's source: count such statements apart). THE CARD IS WHAT COUNTS. Prove the row's statement (the work); the ties are given (YtbibinffdcjgfaaDoorTie.lean); close each card by the builder's one call (the guide's Derived/Test/ToyasCard.lean, 'card_holds'). Laid BY PROGRAM, IN A SANDBOX (cutbox-door.mjs). By AI agents, Wed Nov 11 2026. No macro, syntax, notation, axiom, sorry.
-/
import Derived.Test.YtbibinffdcjgfaaDoorRows
import GoSem.ClaimSeven
namespace Go.Proofs.YtbibinffdcjgfaaDoor
namespace Rows

/-- THE TIED CARD OF 'laybylaw12.WorldsVoid'. -/
def worldsVoidCard : Claim7 := { stood := { row := worldsVoidRow, standIns := [], harness := (true, "b2c40fa152258587b898e468ebb416a3f12c148d27caf92fb32285642e4e6a9b"), looks := false }, kinds := [], alts := [], laidByText := true, laidKinds := [.data], laidTests := true, laidLooks := .later }
def WorldsVoidCardSaid : Prop := Claim7.holds Tryd.pinned (.plain (OpenSpec.ofChange worldsVoidSpec)) worldsVoidCard

/-- THE TIED CARD OF 'laybylaw12.WorldsSpins'. -/
def worldsSpinsCard : Claim7 := { stood := { row := worldsSpinsRow, standIns := [], harness := (true, "b2c40fa152258587b898e468ebb416a3f12c148d27caf92fb32285642e4e6a9b"), looks := false }, kinds := [], alts := [], laidByText := true, laidKinds := [.data], laidTests := true, laidLooks := .later }
def WorldsSpinsCardSaid : Prop := Claim7.holds Tryd.pinned (.plain (OpenSpec.ofChange worldsSpinsSpec)) worldsSpinsCard

/-- THE SECOND FORM's CARD OF 'laybylaw12.WorldsVoid'. -/
def worldsVoidUptoCard : Claim7 := { stood := { row := worldsVoidUptoRow, standIns := [], harness := (true, "b2c40fa152258587b898e468ebb416a3f12c148d27caf92fb32285642e4e6a9b"), looks := false }, kinds := [], alts := [], laidByText := true, laidKinds := [.data], laidTests := true, laidLooks := .later }
def WorldsVoidUptoCardSaid : Prop := Claim7.holds Tryd.pinned (.plain (OpenSpec.upto worldsVoidSpec)) worldsVoidUptoCard

/-- THE SECOND FORM's CARD OF 'laybylaw12.WorldsSpins'. -/
def worldsSpinsUptoCard : Claim7 := { stood := { row := worldsSpinsUptoRow, standIns := [], harness := (true, "b2c40fa152258587b898e468ebb416a3f12c148d27caf92fb32285642e4e6a9b"), looks := false }, kinds := [], alts := [], laidByText := true, laidKinds := [.data], laidTests := true, laidLooks := .later }
def WorldsSpinsUptoCardSaid : Prop := Claim7.holds Tryd.pinned (.plain (OpenSpec.upto worldsSpinsSpec)) worldsSpinsUptoCard
end Rows
end Go.Proofs.YtbibinffdcjgfaaDoor
