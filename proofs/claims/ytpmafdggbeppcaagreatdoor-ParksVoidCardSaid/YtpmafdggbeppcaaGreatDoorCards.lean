/-
  DERIVED. GIVEN WITH THE SEED: THE CARDS: each row of YtpmafdggbeppcaaGreatDoorRows.lean that lists a variable, with what it lists TIED to the program's text (the seventh form; the later family's looks); each row that meets fmt, with fmt's text TOLD by the authors' own Lean function (tested against real Go, not proved from fmt's source: count such statements apart). THE CARD IS WHAT COUNTS. Prove the row's statement (the work); the ties are given (YtpmafdggbeppcaaGreatDoorTie.lean); close each card by the builder's one call (the guide's Derived/Test/ToyasCard.lean, 'card_holds'). Laid BY PROGRAM, IN A SANDBOX (cutbox-door.mjs). By AI agents, Wed Nov 11 2026. No macro, syntax, notation, axiom, sorry.
-/
import Derived.Test.YtpmafdggbeppcaaGreatDoorRows
import GoSem.ClaimSeven
namespace Go.Proofs.YtpmafdggbeppcaaGreatDoor
namespace Rows

/-- THE TIED CARD OF 'laybylaw18.ParksVoid'. -/
def parksVoidCard : Claim7 := { stood := { row := parksVoidRow, standIns := [], harness := (true, "a8596c9253b2f92d0d2244f1c06af31d17632cc74168411824ad352b3863bdfe"), looks := true }, kinds := [], alts := [], laidByText := true, laidKinds := [.data], laidTests := true, laidLooks := .later }
def ParksVoidCardSaid : Prop := Claim7.holds Tryz.pinned (.plain (OpenSpec.ofChange parksVoidSpec)) parksVoidCard

/-- THE TIED CARD OF 'laybylaw18.ParksAlone'. -/
def parksAloneCard : Claim7 := { stood := { row := parksAloneRow, standIns := [], harness := (true, "a8596c9253b2f92d0d2244f1c06af31d17632cc74168411824ad352b3863bdfe"), looks := true }, kinds := [], alts := [], laidByText := true, laidKinds := [.data], laidTests := true, laidLooks := .later }
def ParksAloneCardSaid : Prop := Claim7.holds Tryz.pinned (.plain (OpenSpec.ofChange parksAloneSpec)) parksAloneCard

/-- THE TIED CARD OF 'laybylaw18.ParksOrder'. -/
def parksOrderCard : Claim7 := { stood := { row := parksOrderRow, standIns := [], harness := (true, "a8596c9253b2f92d0d2244f1c06af31d17632cc74168411824ad352b3863bdfe"), looks := true }, kinds := [], alts := [], laidByText := true, laidKinds := [.data], laidTests := true, laidLooks := .later }
def ParksOrderCardSaid : Prop := Claim7.holds Tryz.pinned (.plain (OpenSpec.ofChange parksOrderSpec)) parksOrderCard

/-- THE TIED CARD OF 'laybylaw18.ParksChecked'. -/
def parksCheckedCard : Claim7 := { stood := { row := parksCheckedRow, standIns := [], harness := (true, "a8596c9253b2f92d0d2244f1c06af31d17632cc74168411824ad352b3863bdfe"), looks := true }, kinds := [], alts := [], laidByText := true, laidKinds := [.data], laidTests := true, laidLooks := .later }
def ParksCheckedCardSaid : Prop := Claim7.holds Tryz.pinned (.plain (OpenSpec.ofChange parksCheckedSpec)) parksCheckedCard

/-- THE SECOND FORM's CARD OF 'laybylaw18.ParksVoid'. -/
def parksVoidUptoCard : Claim7 := { stood := { row := parksVoidUptoRow, standIns := [], harness := (true, "a8596c9253b2f92d0d2244f1c06af31d17632cc74168411824ad352b3863bdfe"), looks := true }, kinds := [], alts := [], laidByText := true, laidKinds := [.data], laidTests := true, laidLooks := .later }
def ParksVoidUptoCardSaid : Prop := Claim7.holds Tryz.pinned (.plain (OpenSpec.upto parksVoidSpec)) parksVoidUptoCard

/-- THE SECOND FORM's CARD OF 'laybylaw18.ParksAlone'. -/
def parksAloneUptoCard : Claim7 := { stood := { row := parksAloneUptoRow, standIns := [], harness := (true, "a8596c9253b2f92d0d2244f1c06af31d17632cc74168411824ad352b3863bdfe"), looks := true }, kinds := [], alts := [], laidByText := true, laidKinds := [.data], laidTests := true, laidLooks := .later }
def ParksAloneUptoCardSaid : Prop := Claim7.holds Tryz.pinned (.plain (OpenSpec.upto parksAloneSpec)) parksAloneUptoCard

/-- THE SECOND FORM's CARD OF 'laybylaw18.ParksOrder'. -/
def parksOrderUptoCard : Claim7 := { stood := { row := parksOrderUptoRow, standIns := [], harness := (true, "a8596c9253b2f92d0d2244f1c06af31d17632cc74168411824ad352b3863bdfe"), looks := true }, kinds := [], alts := [], laidByText := true, laidKinds := [.data], laidTests := true, laidLooks := .later }
def ParksOrderUptoCardSaid : Prop := Claim7.holds Tryz.pinned (.plain (OpenSpec.upto parksOrderSpec)) parksOrderUptoCard

/-- THE SECOND FORM's CARD OF 'laybylaw18.ParksChecked'. -/
def parksCheckedUptoCard : Claim7 := { stood := { row := parksCheckedUptoRow, standIns := [], harness := (true, "a8596c9253b2f92d0d2244f1c06af31d17632cc74168411824ad352b3863bdfe"), looks := true }, kinds := [], alts := [], laidByText := true, laidKinds := [.data], laidTests := true, laidLooks := .later }
def ParksCheckedUptoCardSaid : Prop := Claim7.holds Tryz.pinned (.plain (OpenSpec.upto parksCheckedSpec)) parksCheckedUptoCard
end Rows
end Go.Proofs.YtpmafdggbeppcaaGreatDoor
