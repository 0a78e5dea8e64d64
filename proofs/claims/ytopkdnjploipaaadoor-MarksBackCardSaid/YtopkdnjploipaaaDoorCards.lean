/-
  DERIVED. GIVEN WITH THE SEED: THE CARDS: each row of YtopkdnjploipaaaDoorRows.lean that lists a variable, with what it lists TIED to the program's text (the seventh form; the later family's looks); each row that meets fmt, with fmt's text TOLD by the authors' own Lean function (tested against real Go, not proved from fmt's source: count such statements apart). THE CARD IS WHAT COUNTS. Prove the row's statement (the work); the ties are given (YtopkdnjploipaaaDoorTie.lean); close each card by the builder's one call (the guide's Derived/Test/ToyasCard.lean, 'card_holds'). Laid BY PROGRAM, IN A SANDBOX (cutbox-door.mjs). By AI agents, Wed Nov 11 2026. No macro, syntax, notation, axiom, sorry.
-/
import Derived.Test.YtopkdnjploipaaaDoorRows
import GoSem.ClaimSeven
namespace Go.Proofs.YtopkdnjploipaaaDoor
namespace Rows

/-- THE TIED CARD OF 'laybylaw01.MarksWord'. -/
def marksWordCard : Claim7 := { stood := { row := marksWordRow, standIns := [], harness := (true, "06f9ba23df682f9d0ec33c025d25e75ebf40377783b95d2850d7caf4f0705964"), looks := false }, kinds := [], alts := [], laidByText := true, laidKinds := [.data, .data, .data, .data], laidTests := true, laidLooks := .later }
def MarksWordCardSaid : Prop := Claim7.holds Tryd.pinned (.plain (OpenSpec.ofChange marksWordSpec)) marksWordCard

/-- THE TIED CARD OF 'laybylaw01.MarksRw'. -/
def marksRwCard : Claim7 := { stood := { row := marksRwRow, standIns := [], harness := (true, "06f9ba23df682f9d0ec33c025d25e75ebf40377783b95d2850d7caf4f0705964"), looks := false }, kinds := [], alts := [], laidByText := true, laidKinds := [.data, .data, .data, .data], laidTests := true, laidLooks := .later }
def MarksRwCardSaid : Prop := Claim7.holds Tryd.pinned (.plain (OpenSpec.ofChange marksRwSpec)) marksRwCard

/-- THE TIED CARD OF 'laybylaw01.MarksText'. -/
def marksTextCard : Claim7 := { stood := { row := marksTextRow, standIns := [], harness := (true, "06f9ba23df682f9d0ec33c025d25e75ebf40377783b95d2850d7caf4f0705964"), looks := false }, kinds := [], alts := [], laidByText := true, laidKinds := [.data, .data, .data, .data], laidTests := true, laidLooks := .later }
def MarksTextCardSaid : Prop := Claim7.holds Tryd.pinned (.plain (OpenSpec.ofChange marksTextSpec)) marksTextCard

/-- THE TIED CARD OF 'laybylaw01.MarksBack'. -/
def marksBackCard : Claim7 := { stood := { row := marksBackRow, standIns := [], harness := (true, "06f9ba23df682f9d0ec33c025d25e75ebf40377783b95d2850d7caf4f0705964"), looks := false }, kinds := [], alts := [], laidByText := true, laidKinds := [.data, .data, .data, .data], laidTests := true, laidLooks := .later }
def MarksBackCardSaid : Prop := Claim7.holds Tryd.pinned (.plain (OpenSpec.ofChange marksBackSpec)) marksBackCard

/-- THE TIED CARD OF 'laybylaw01.MarksReaders'. -/
def marksReadersCard : Claim7 := { stood := { row := marksReadersRow, standIns := [], harness := (true, "06f9ba23df682f9d0ec33c025d25e75ebf40377783b95d2850d7caf4f0705964"), looks := false }, kinds := [], alts := [], laidByText := true, laidKinds := [.data, .data, .data, .data], laidTests := true, laidLooks := .later }
def MarksReadersCardSaid : Prop := Claim7.holds Tryd.pinned (.plain (OpenSpec.ofChange marksReadersSpec)) marksReadersCard

/-- THE SECOND FORM's CARD OF 'laybylaw01.MarksWord'. -/
def marksWordUptoCard : Claim7 := { stood := { row := marksWordUptoRow, standIns := [], harness := (true, "06f9ba23df682f9d0ec33c025d25e75ebf40377783b95d2850d7caf4f0705964"), looks := false }, kinds := [], alts := [], laidByText := true, laidKinds := [.data, .data, .data, .data], laidTests := true, laidLooks := .later }
def MarksWordUptoCardSaid : Prop := Claim7.holds Tryd.pinned (.plain (OpenSpec.upto marksWordSpec)) marksWordUptoCard

/-- THE SECOND FORM's CARD OF 'laybylaw01.MarksRw'. -/
def marksRwUptoCard : Claim7 := { stood := { row := marksRwUptoRow, standIns := [], harness := (true, "06f9ba23df682f9d0ec33c025d25e75ebf40377783b95d2850d7caf4f0705964"), looks := false }, kinds := [], alts := [], laidByText := true, laidKinds := [.data, .data, .data, .data], laidTests := true, laidLooks := .later }
def MarksRwUptoCardSaid : Prop := Claim7.holds Tryd.pinned (.plain (OpenSpec.upto marksRwSpec)) marksRwUptoCard

/-- THE SECOND FORM's CARD OF 'laybylaw01.MarksText'. -/
def marksTextUptoCard : Claim7 := { stood := { row := marksTextUptoRow, standIns := [], harness := (true, "06f9ba23df682f9d0ec33c025d25e75ebf40377783b95d2850d7caf4f0705964"), looks := false }, kinds := [], alts := [], laidByText := true, laidKinds := [.data, .data, .data, .data], laidTests := true, laidLooks := .later }
def MarksTextUptoCardSaid : Prop := Claim7.holds Tryd.pinned (.plain (OpenSpec.upto marksTextSpec)) marksTextUptoCard

/-- THE SECOND FORM's CARD OF 'laybylaw01.MarksBack'. -/
def marksBackUptoCard : Claim7 := { stood := { row := marksBackUptoRow, standIns := [], harness := (true, "06f9ba23df682f9d0ec33c025d25e75ebf40377783b95d2850d7caf4f0705964"), looks := false }, kinds := [], alts := [], laidByText := true, laidKinds := [.data, .data, .data, .data], laidTests := true, laidLooks := .later }
def MarksBackUptoCardSaid : Prop := Claim7.holds Tryd.pinned (.plain (OpenSpec.upto marksBackSpec)) marksBackUptoCard

/-- THE SECOND FORM's CARD OF 'laybylaw01.MarksReaders'. -/
def marksReadersUptoCard : Claim7 := { stood := { row := marksReadersUptoRow, standIns := [], harness := (true, "06f9ba23df682f9d0ec33c025d25e75ebf40377783b95d2850d7caf4f0705964"), looks := false }, kinds := [], alts := [], laidByText := true, laidKinds := [.data, .data, .data, .data], laidTests := true, laidLooks := .later }
def MarksReadersUptoCardSaid : Prop := Claim7.holds Tryd.pinned (.plain (OpenSpec.upto marksReadersSpec)) marksReadersUptoCard
end Rows
end Go.Proofs.YtopkdnjploipaaaDoor
