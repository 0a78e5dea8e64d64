/-
  DERIVED. GIVEN WITH THE SEED: THE CARDS: each row of YtoefgfolokcdhaaDoorRows.lean that lists a variable, with what it lists TIED to the program's text (the seventh form; the later family's looks); each row that meets fmt, with fmt's text TOLD by the authors' own Lean function (tested against real Go, not proved from fmt's source: count such statements apart). THE CARD IS WHAT COUNTS. Prove the row's statement (the work); the ties are given (YtoefgfolokcdhaaDoorTie.lean); close each card by the builder's one call (the guide's Derived/Test/ToyasCard.lean, 'card_holds'). Laid BY PROGRAM, IN A SANDBOX (cutbox-door.mjs). By AI agents, Wed Nov 11 2026. No macro, syntax, notation, axiom, sorry.
-/
import Derived.Test.YtoefgfolokcdhaaDoorRows
import GoSem.ClaimSeven
namespace Go.Proofs.YtoefgfolokcdhaaDoor
namespace Rows

/-- THE TIED CARD OF 'laybylaw11.NotesPlay'. -/
def notesPlayCard : Claim7 := { stood := { row := notesPlayRow, standIns := [], harness := (true, "a50093cedc2c05925ef0c027c0e7759acd322b30d708182cc4b5377fa6f0152d"), looks := false }, kinds := [], alts := [], laidByText := true, laidKinds := [.data], laidTests := true, laidLooks := .later }
def NotesPlayCardSaid : Prop := Claim7.holds Tryd.pinned (.plain (OpenSpec.ofChange notesPlaySpec)) notesPlayCard

/-- THE TIED CARD OF 'laybylaw11.NotesNames'. -/
def notesNamesCard : Claim7 := { stood := { row := notesNamesRow, standIns := [], harness := (true, "a50093cedc2c05925ef0c027c0e7759acd322b30d708182cc4b5377fa6f0152d"), looks := false }, kinds := [], alts := [], laidByText := true, laidKinds := [.data], laidTests := true, laidLooks := .later }
def NotesNamesCardSaid : Prop := Claim7.holds Tryd.pinned (.plain (OpenSpec.ofChange notesNamesSpec)) notesNamesCard

/-- THE TIED CARD OF 'laybylaw11.NotesSince'. -/
def notesSinceCard : Claim7 := { stood := { row := notesSinceRow, standIns := [], harness := (true, "a50093cedc2c05925ef0c027c0e7759acd322b30d708182cc4b5377fa6f0152d"), looks := false }, kinds := [], alts := [], laidByText := true, laidKinds := [.data], laidTests := true, laidLooks := .later }
def NotesSinceCardSaid : Prop := Claim7.holds Tryd.pinned (.plain (OpenSpec.ofChange notesSinceSpec)) notesSinceCard

/-- THE TIED CARD OF 'laybylaw11.NotesKinds'. -/
def notesKindsCard : Claim7 := { stood := { row := notesKindsRow, standIns := [], harness := (true, "a50093cedc2c05925ef0c027c0e7759acd322b30d708182cc4b5377fa6f0152d"), looks := false }, kinds := [], alts := [], laidByText := true, laidKinds := [.data], laidTests := true, laidLooks := .later }
def NotesKindsCardSaid : Prop := Claim7.holds Tryd.pinned (.plain (OpenSpec.ofChange notesKindsSpec)) notesKindsCard

/-- THE SECOND FORM's CARD OF 'laybylaw11.NotesPlay'. -/
def notesPlayUptoCard : Claim7 := { stood := { row := notesPlayUptoRow, standIns := [], harness := (true, "a50093cedc2c05925ef0c027c0e7759acd322b30d708182cc4b5377fa6f0152d"), looks := false }, kinds := [], alts := [], laidByText := true, laidKinds := [.data], laidTests := true, laidLooks := .later }
def NotesPlayUptoCardSaid : Prop := Claim7.holds Tryd.pinned (.plain (OpenSpec.upto notesPlaySpec)) notesPlayUptoCard

/-- THE SECOND FORM's CARD OF 'laybylaw11.NotesNames'. -/
def notesNamesUptoCard : Claim7 := { stood := { row := notesNamesUptoRow, standIns := [], harness := (true, "a50093cedc2c05925ef0c027c0e7759acd322b30d708182cc4b5377fa6f0152d"), looks := false }, kinds := [], alts := [], laidByText := true, laidKinds := [.data], laidTests := true, laidLooks := .later }
def NotesNamesUptoCardSaid : Prop := Claim7.holds Tryd.pinned (.plain (OpenSpec.upto notesNamesSpec)) notesNamesUptoCard

/-- THE SECOND FORM's CARD OF 'laybylaw11.NotesSince'. -/
def notesSinceUptoCard : Claim7 := { stood := { row := notesSinceUptoRow, standIns := [], harness := (true, "a50093cedc2c05925ef0c027c0e7759acd322b30d708182cc4b5377fa6f0152d"), looks := false }, kinds := [], alts := [], laidByText := true, laidKinds := [.data], laidTests := true, laidLooks := .later }
def NotesSinceUptoCardSaid : Prop := Claim7.holds Tryd.pinned (.plain (OpenSpec.upto notesSinceSpec)) notesSinceUptoCard

/-- THE SECOND FORM's CARD OF 'laybylaw11.NotesKinds'. -/
def notesKindsUptoCard : Claim7 := { stood := { row := notesKindsUptoRow, standIns := [], harness := (true, "a50093cedc2c05925ef0c027c0e7759acd322b30d708182cc4b5377fa6f0152d"), looks := false }, kinds := [], alts := [], laidByText := true, laidKinds := [.data], laidTests := true, laidLooks := .later }
def NotesKindsUptoCardSaid : Prop := Claim7.holds Tryd.pinned (.plain (OpenSpec.upto notesKindsSpec)) notesKindsUptoCard
end Rows
end Go.Proofs.YtoefgfolokcdhaaDoor
