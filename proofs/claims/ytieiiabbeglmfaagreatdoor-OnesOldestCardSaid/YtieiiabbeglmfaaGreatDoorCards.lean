/-
  DERIVED. GIVEN WITH THE SEED: THE CARDS: each row of YtieiiabbeglmfaaGreatDoorRows.lean that lists a variable, with what it lists TIED to the program's text (the seventh form; the later family's looks); each row that meets fmt, with fmt's text TOLD by the authors' own Lean function (tested against real Go, not proved from fmt's source: count such statements apart). THE CARD IS WHAT COUNTS. Prove the row's statement (the work); the ties are given (YtieiiabbeglmfaaGreatDoorTie.lean); close each card by the builder's one call (the guide's Derived/Test/ToyasCard.lean, 'card_holds'). Laid BY PROGRAM, IN A SANDBOX (cutbox-door.mjs). By AI agents, Wed Nov 11 2026. No macro, syntax, notation, axiom, sorry.
-/
import Derived.Test.YtieiiabbeglmfaaGreatDoorRows
import GoSem.ClaimSeven
namespace Go.Proofs.YtieiiabbeglmfaaGreatDoor
namespace Rows

/-- THE TIED CARD OF 'laybylaw18.ParksOrder'. -/
def parksOrderCard : Claim7 := { stood := { row := parksOrderRow, standIns := [], harness := (true, "9dae6bdc9878406673233510b9dbfc999c0306eae926fdf159068dd003e1e6b8"), looks := true }, kinds := [], alts := [], laidByText := true, laidKinds := [.data], laidTests := true, laidLooks := .later }
def ParksOrderCardSaid : Prop := Claim7.holds Tryz.pinned (.plain (OpenSpec.ofChange parksOrderSpec)) parksOrderCard

/-- THE TIED CARD OF 'laybylaw19.OnesVoid'. -/
def onesVoidCard : Claim7 := { stood := { row := onesVoidRow, standIns := [], harness := (true, "9dae6bdc9878406673233510b9dbfc999c0306eae926fdf159068dd003e1e6b8"), looks := true }, kinds := [], alts := [], laidByText := true, laidKinds := [.data], laidTests := true, laidLooks := .later }
def OnesVoidCardSaid : Prop := Claim7.holds Tryz.pinned (.plain (OpenSpec.ofChange onesVoidSpec)) onesVoidCard

/-- THE TIED CARD OF 'laybylaw19.OnesOldest'. -/
def onesOldestCard : Claim7 := { stood := { row := onesOldestRow, standIns := [], harness := (true, "9dae6bdc9878406673233510b9dbfc999c0306eae926fdf159068dd003e1e6b8"), looks := true }, kinds := [], alts := [], laidByText := true, laidKinds := [.data], laidTests := true, laidLooks := .later }
def OnesOldestCardSaid : Prop := Claim7.holds Tryz.pinned (.plain (OpenSpec.ofChange onesOldestSpec)) onesOldestCard

/-- THE TIED CARD OF 'laybylaw19.OnesFair'. -/
def onesFairCard : Claim7 := { stood := { row := onesFairRow, standIns := [], harness := (true, "9dae6bdc9878406673233510b9dbfc999c0306eae926fdf159068dd003e1e6b8"), looks := true }, kinds := [], alts := [], laidByText := true, laidKinds := [.data], laidTests := true, laidLooks := .later }
def OnesFairCardSaid : Prop := Claim7.holds Tryz.pinned (.plain (OpenSpec.ofChange onesFairSpec)) onesFairCard

/-- THE TIED CARD OF 'laybylaw20.AllsVoid'. -/
def allsVoidCard : Claim7 := { stood := { row := allsVoidRow, standIns := [], harness := (true, "9dae6bdc9878406673233510b9dbfc999c0306eae926fdf159068dd003e1e6b8"), looks := true }, kinds := [], alts := [], laidByText := true, laidKinds := [.data], laidTests := true, laidLooks := .later }
def AllsVoidCardSaid : Prop := Claim7.holds Tryz.pinned (.plain (OpenSpec.ofChange allsVoidSpec)) allsVoidCard

/-- THE TIED CARD OF 'laybylaw20.AllsAll'. -/
def allsAllCard : Claim7 := { stood := { row := allsAllRow, standIns := [], harness := (true, "9dae6bdc9878406673233510b9dbfc999c0306eae926fdf159068dd003e1e6b8"), looks := true }, kinds := [], alts := [], laidByText := true, laidKinds := [.data], laidTests := true, laidLooks := .later }
def AllsAllCardSaid : Prop := Claim7.holds Tryz.pinned (.plain (OpenSpec.ofChange allsAllSpec)) allsAllCard

/-- THE SECOND FORM's CARD OF 'laybylaw18.ParksOrder'. -/
def parksOrderUptoCard : Claim7 := { stood := { row := parksOrderUptoRow, standIns := [], harness := (true, "9dae6bdc9878406673233510b9dbfc999c0306eae926fdf159068dd003e1e6b8"), looks := true }, kinds := [], alts := [], laidByText := true, laidKinds := [.data], laidTests := true, laidLooks := .later }
def ParksOrderUptoCardSaid : Prop := Claim7.holds Tryz.pinned (.plain (OpenSpec.upto parksOrderSpec)) parksOrderUptoCard

/-- THE SECOND FORM's CARD OF 'laybylaw19.OnesVoid'. -/
def onesVoidUptoCard : Claim7 := { stood := { row := onesVoidUptoRow, standIns := [], harness := (true, "9dae6bdc9878406673233510b9dbfc999c0306eae926fdf159068dd003e1e6b8"), looks := true }, kinds := [], alts := [], laidByText := true, laidKinds := [.data], laidTests := true, laidLooks := .later }
def OnesVoidUptoCardSaid : Prop := Claim7.holds Tryz.pinned (.plain (OpenSpec.upto onesVoidSpec)) onesVoidUptoCard

/-- THE SECOND FORM's CARD OF 'laybylaw19.OnesOldest'. -/
def onesOldestUptoCard : Claim7 := { stood := { row := onesOldestUptoRow, standIns := [], harness := (true, "9dae6bdc9878406673233510b9dbfc999c0306eae926fdf159068dd003e1e6b8"), looks := true }, kinds := [], alts := [], laidByText := true, laidKinds := [.data], laidTests := true, laidLooks := .later }
def OnesOldestUptoCardSaid : Prop := Claim7.holds Tryz.pinned (.plain (OpenSpec.upto onesOldestSpec)) onesOldestUptoCard

/-- THE SECOND FORM's CARD OF 'laybylaw19.OnesFair'. -/
def onesFairUptoCard : Claim7 := { stood := { row := onesFairUptoRow, standIns := [], harness := (true, "9dae6bdc9878406673233510b9dbfc999c0306eae926fdf159068dd003e1e6b8"), looks := true }, kinds := [], alts := [], laidByText := true, laidKinds := [.data], laidTests := true, laidLooks := .later }
def OnesFairUptoCardSaid : Prop := Claim7.holds Tryz.pinned (.plain (OpenSpec.upto onesFairSpec)) onesFairUptoCard

/-- THE SECOND FORM's CARD OF 'laybylaw20.AllsVoid'. -/
def allsVoidUptoCard : Claim7 := { stood := { row := allsVoidUptoRow, standIns := [], harness := (true, "9dae6bdc9878406673233510b9dbfc999c0306eae926fdf159068dd003e1e6b8"), looks := true }, kinds := [], alts := [], laidByText := true, laidKinds := [.data], laidTests := true, laidLooks := .later }
def AllsVoidUptoCardSaid : Prop := Claim7.holds Tryz.pinned (.plain (OpenSpec.upto allsVoidSpec)) allsVoidUptoCard

/-- THE SECOND FORM's CARD OF 'laybylaw20.AllsAll'. -/
def allsAllUptoCard : Claim7 := { stood := { row := allsAllUptoRow, standIns := [], harness := (true, "9dae6bdc9878406673233510b9dbfc999c0306eae926fdf159068dd003e1e6b8"), looks := true }, kinds := [], alts := [], laidByText := true, laidKinds := [.data], laidTests := true, laidLooks := .later }
def AllsAllUptoCardSaid : Prop := Claim7.holds Tryz.pinned (.plain (OpenSpec.upto allsAllSpec)) allsAllUptoCard
end Rows
end Go.Proofs.YtieiiabbeglmfaaGreatDoor
