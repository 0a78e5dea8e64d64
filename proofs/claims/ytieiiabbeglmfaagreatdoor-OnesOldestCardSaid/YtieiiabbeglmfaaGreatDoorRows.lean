/-
  NARROWER THAN 'FOR EVERY INPUT', by the rows' own cells (each row's printed sentence says how): ParksOrder: laid · OnesVoid: laid · OnesOldest: laid · OnesFair: laid · AllsVoid: laid · AllsAll: laid.
  DERIVED. THE GIVEN ROWS OF THIS SEAT. 6 by the template 'for every input the law returns true; each argument reads behind the call as it read before'; 0 by the template 'total and deterministic' (their statements: YtieiiabbeglmfaaGreatDoorTotals.lean).
  GIVEN WITH THE SEED: the statements are not yours to turn. If you find one false, say at which input.
  Laid BY PROGRAM, IN A SANDBOX (cutbox-rows.mjs): the forced cells as the released guide's own fill.sh prints them over the translation 85e135fe109810b7… (all of the seat's roots in one cut). By AI agents, Wed Nov 11 2026. No macro, syntax, notation, axiom, sorry.
-/
import Derived.Test.YtieiiabbeglmfaaGreatDoorChecked
import GoSem.Claim
import GoSem.ClaimJoined
import GoSem.ClaimMapViews
import Derived.JoinedTies
import Derived.KernelRfl
namespace Go.Proofs.YtieiiabbeglmfaaGreatDoor
/- THE CELL 'sum', in the pinned program and in every row, IS THE sha256 OF THE DUMP (.gsa) THAT YtieiiabbeglmfaaGreatDoorProg.lean LOADS. Nothing in Lean hashes anything: it is a label: what it is worth is what the hold of that sum in a sandbox is worth. -/
noncomputable def Tryz.pinned : Pinned := { name := "ytieiiabbeglmfaagreatdoor", sum := "85e135fe109810b71d981863d4a2d0524e41fdf1f40f103899af39b9b91298d0", checked := Tryz.checked }
namespace Rows
def none {H : Type} : Left H := { results := [], args := [] }

/- WHAT THE LISTED PACKAGE-LEVEL VARIABLES READ AS WHEN THE CALL BEGINS. Each datum BY PROGRAM (the guide's laid-datum.mjs) off the statement by which the dump's own 'gosem.cut.vars' lays the variable. In a bare row this is a premise. The card (YtieiiabbeglmfaaGreatDoorCards.lean) ties it to the program's text. -/
def laid_layby_notes_names {H : Type} : DataW H := .agg [.lit (.string []), .lit (.string [112, 97, 114, 107]), .lit (.string [116, 97, 107, 101]), .lit (.string [112, 105, 99, 107]), .lit (.string [109, 111, 118, 101]), .lit (.string [103, 111, 110, 101]), .lit (.string []), .lit (.string []), .lit (.string []), .lit (.string []), .lit (.string []), .lit (.string []), .lit (.string []), .lit (.string []), .lit (.string []), .lit (.string []), .lit (.string [108, 111, 99, 107]), .lit (.string [102, 114, 101, 101]), .lit (.string [104, 97, 110, 100]), .lit (.string [98, 117, 115, 121]), .lit (.string [108, 97, 116, 101]), .lit (.string [114, 101, 97, 100]), .lit (.string [117, 112, 103, 114]), .lit (.string [99, 108, 97, 105, 109]), .lit (.string [119, 114, 105, 116, 101]), .lit (.string [117, 110, 114, 101, 97, 100]), .lit (.string [117, 110, 117, 112, 103, 114]), .lit (.string [117, 110, 99, 108, 97, 105, 109]), .lit (.string [117, 110, 119, 114, 105, 116, 101]), .lit (.string [119, 97, 105, 116]), .lit (.string [119, 97, 107, 101]), .lit (.string [103, 105, 118, 101]), .lit (.string [110, 111, 98, 111, 100, 121]), .lit (.string [98, 101, 103, 105, 110]), .lit (.string [101, 110, 100]), .lit (.string [102, 97, 105, 108]), .lit (.string [100, 111, 110, 101]), .lit (.string [115, 105, 99, 107])]

/-- 'laybylaw18.ParksOrder': WHATEVER THE INPUT: true; the input reads as it did. -/
def parksOrderSpec : ChangeSpec := { name := "parksOrder", fn := fun _ => fun
  | [d1, d2] => { results := [.lit (.bool true)], args := [d1, d2] }
  | _ => none }
def parksOrderRow : OpenClaim := { program := "ytieiiabbeglmfaagreatdoor", sum := "85e135fe109810b71d981863d4a2d0524e41fdf1f40f103899af39b9b91298d0", func := "layby/laybylaw18.ParksOrder", spec := "parksOrder", unfollowed := true, recurses := true, named := ["layby/notes.names"], apart := false, laid := [("layby/notes.names", laid_layby_notes_names)] }
def ParksOrderSaid : Prop := parksOrderRow.holds Tryz.pinned (OpenSpec.ofChange parksOrderSpec)

/-- ITS FALSE NEIGHBOUR: 'it returns false'. Refute it at one input. -/
def parksOrderWrong : ChangeSpec := { name := "parksOrder", fn := fun _ => fun
  | [d1, d2] => { results := [.lit (.bool false)], args := [d1, d2] }
  | _ => none }
def ParksOrderWrongFalsely : Prop := parksOrderRow.holds Tryz.pinned (OpenSpec.ofChange parksOrderWrong)

/-- 'laybylaw19.OnesVoid': WHATEVER THE INPUT: true; the input reads as it did. -/
def onesVoidSpec : ChangeSpec := { name := "onesVoid", fn := fun _ => fun
  | [d1, d2, d3] => { results := [.lit (.bool true)], args := [d1, d2, d3] }
  | _ => none }
def onesVoidRow : OpenClaim := { program := "ytieiiabbeglmfaagreatdoor", sum := "85e135fe109810b71d981863d4a2d0524e41fdf1f40f103899af39b9b91298d0", func := "layby/laybylaw19.OnesVoid", spec := "onesVoid", unfollowed := true, recurses := true, named := ["layby/notes.names"], apart := false, laid := [("layby/notes.names", laid_layby_notes_names)] }
def OnesVoidSaid : Prop := onesVoidRow.holds Tryz.pinned (OpenSpec.ofChange onesVoidSpec)

/-- ITS FALSE NEIGHBOUR: 'it returns false'. Refute it at one input. -/
def onesVoidWrong : ChangeSpec := { name := "onesVoid", fn := fun _ => fun
  | [d1, d2, d3] => { results := [.lit (.bool false)], args := [d1, d2, d3] }
  | _ => none }
def OnesVoidWrongFalsely : Prop := onesVoidRow.holds Tryz.pinned (OpenSpec.ofChange onesVoidWrong)

/-- 'laybylaw19.OnesOldest': WHATEVER THE INPUT: true; the input reads as it did. -/
def onesOldestSpec : ChangeSpec := { name := "onesOldest", fn := fun _ => fun
  | [d1, d2] => { results := [.lit (.bool true)], args := [d1, d2] }
  | _ => none }
def onesOldestRow : OpenClaim := { program := "ytieiiabbeglmfaagreatdoor", sum := "85e135fe109810b71d981863d4a2d0524e41fdf1f40f103899af39b9b91298d0", func := "layby/laybylaw19.OnesOldest", spec := "onesOldest", unfollowed := true, recurses := true, named := ["layby/notes.names"], apart := false, laid := [("layby/notes.names", laid_layby_notes_names)] }
def OnesOldestSaid : Prop := onesOldestRow.holds Tryz.pinned (OpenSpec.ofChange onesOldestSpec)

/-- ITS FALSE NEIGHBOUR: 'it returns false'. Refute it at one input. -/
def onesOldestWrong : ChangeSpec := { name := "onesOldest", fn := fun _ => fun
  | [d1, d2] => { results := [.lit (.bool false)], args := [d1, d2] }
  | _ => none }
def OnesOldestWrongFalsely : Prop := onesOldestRow.holds Tryz.pinned (OpenSpec.ofChange onesOldestWrong)

/-- 'laybylaw19.OnesFair': WHATEVER THE INPUT: true; the input reads as it did. -/
def onesFairSpec : ChangeSpec := { name := "onesFair", fn := fun _ => fun
  | [d1, d2] => { results := [.lit (.bool true)], args := [d1, d2] }
  | _ => none }
def onesFairRow : OpenClaim := { program := "ytieiiabbeglmfaagreatdoor", sum := "85e135fe109810b71d981863d4a2d0524e41fdf1f40f103899af39b9b91298d0", func := "layby/laybylaw19.OnesFair", spec := "onesFair", unfollowed := true, recurses := true, named := ["layby/notes.names"], apart := false, laid := [("layby/notes.names", laid_layby_notes_names)] }
def OnesFairSaid : Prop := onesFairRow.holds Tryz.pinned (OpenSpec.ofChange onesFairSpec)

/-- ITS FALSE NEIGHBOUR: 'it returns false'. Refute it at one input. -/
def onesFairWrong : ChangeSpec := { name := "onesFair", fn := fun _ => fun
  | [d1, d2] => { results := [.lit (.bool false)], args := [d1, d2] }
  | _ => none }
def OnesFairWrongFalsely : Prop := onesFairRow.holds Tryz.pinned (OpenSpec.ofChange onesFairWrong)

/-- 'laybylaw20.AllsVoid': WHATEVER THE INPUT: true; the input reads as it did. -/
def allsVoidSpec : ChangeSpec := { name := "allsVoid", fn := fun _ => fun
  | [d1, d2] => { results := [.lit (.bool true)], args := [d1, d2] }
  | _ => none }
def allsVoidRow : OpenClaim := { program := "ytieiiabbeglmfaagreatdoor", sum := "85e135fe109810b71d981863d4a2d0524e41fdf1f40f103899af39b9b91298d0", func := "layby/laybylaw20.AllsVoid", spec := "allsVoid", unfollowed := true, recurses := true, named := ["layby/notes.names"], apart := false, laid := [("layby/notes.names", laid_layby_notes_names)] }
def AllsVoidSaid : Prop := allsVoidRow.holds Tryz.pinned (OpenSpec.ofChange allsVoidSpec)

/-- ITS FALSE NEIGHBOUR: 'it returns false'. Refute it at one input. -/
def allsVoidWrong : ChangeSpec := { name := "allsVoid", fn := fun _ => fun
  | [d1, d2] => { results := [.lit (.bool false)], args := [d1, d2] }
  | _ => none }
def AllsVoidWrongFalsely : Prop := allsVoidRow.holds Tryz.pinned (OpenSpec.ofChange allsVoidWrong)

/-- 'laybylaw20.AllsAll': WHATEVER THE INPUT: true; the input reads as it did. -/
def allsAllSpec : ChangeSpec := { name := "allsAll", fn := fun _ => fun
  | [d1, d2, d3] => { results := [.lit (.bool true)], args := [d1, d2, d3] }
  | _ => none }
def allsAllRow : OpenClaim := { program := "ytieiiabbeglmfaagreatdoor", sum := "85e135fe109810b71d981863d4a2d0524e41fdf1f40f103899af39b9b91298d0", func := "layby/laybylaw20.AllsAll", spec := "allsAll", unfollowed := true, recurses := true, named := ["layby/notes.names"], apart := false, laid := [("layby/notes.names", laid_layby_notes_names)] }
def AllsAllSaid : Prop := allsAllRow.holds Tryz.pinned (OpenSpec.ofChange allsAllSpec)

/-- ITS FALSE NEIGHBOUR: 'it returns false'. Refute it at one input. -/
def allsAllWrong : ChangeSpec := { name := "allsAll", fn := fun _ => fun
  | [d1, d2, d3] => { results := [.lit (.bool false)], args := [d1, d2, d3] }
  | _ => none }
def AllsAllWrongFalsely : Prop := allsAllRow.holds Tryz.pinned (OpenSpec.ofChange allsAllWrong)

/- THE SECOND FORM. 'bulk': how many values and letters a reading holds, each counted each time it is reached (what is shared counts as often as it is met; a slice's spare places count too). A statement '..UptoSaid' is the law's where the arguments, and the package variables that the reading takes, are together of bulk at most 1048576: NARROWER than '..Said'. Prove '..Said' where nothing that the law and all that it calls make is longer than what came in: it says more and counts as full. Else prove '..UptoSaid'. A law counts once. -/
mutual
def uptoBulk {H : Type} : DataW H → Nat
  | .lit (.string bytes) => bytes.length + 1
  | .lit _ => 1
  | .nil => 1
  | .ptr d => uptoBulk d + 1
  | .slice elems spare => uptoBulkAll elems + uptoBulkAll spare + 1
  | .agg parts => uptoBulkAll parts + 1
  | .iface _ d => uptoBulk d + 1
  | .map entries => uptoBulkEntries entries + 1
  | .held _ => 1
def uptoBulkAll {H : Type} : List (DataW H) → Nat
  | [] => 0
  | d :: r => uptoBulk d + uptoBulkAll r
def uptoBulkEntries {H : Type} : List (Lit × DataW H) → Nat
  | [] => 0
  | x :: r => uptoBulkEntry x + uptoBulkEntries r
def uptoBulkEntry {H : Type} : Lit × DataW H → Nat
  | (.string bytes, d) => bytes.length + uptoBulk d + 1
  | (_, d) => uptoBulk d + 1
 end
def uptoSmall : (H : Type) → List (DataW H) → Bool := fun _ ds => decide (uptoBulkAll ds ≤ 1048576)
def OpenSpec.upto (s : _root_.Go.ChangeSpec) : _root_.Go.OpenSpec := { _root_.Go.OpenSpec.ofChange s with cond := some uptoSmall }

/-- 'laybylaw18.ParksOrder', WHERE WHAT IT READS IS OF BULK AT MOST 1048576: true; the input reads as it did. -/
def parksOrderUptoRow : OpenClaim := { program := "ytieiiabbeglmfaagreatdoor", sum := "85e135fe109810b71d981863d4a2d0524e41fdf1f40f103899af39b9b91298d0", func := "layby/laybylaw18.ParksOrder", spec := "parksOrder", unfollowed := true, recurses := true, named := ["layby/notes.names"], apart := false, laid := [("layby/notes.names", laid_layby_notes_names)], narrowed := true }
def ParksOrderUptoSaid : Prop := parksOrderUptoRow.holds Tryz.pinned (OpenSpec.upto parksOrderSpec)

/-- 'laybylaw19.OnesVoid', WHERE WHAT IT READS IS OF BULK AT MOST 1048576: true; the input reads as it did. -/
def onesVoidUptoRow : OpenClaim := { program := "ytieiiabbeglmfaagreatdoor", sum := "85e135fe109810b71d981863d4a2d0524e41fdf1f40f103899af39b9b91298d0", func := "layby/laybylaw19.OnesVoid", spec := "onesVoid", unfollowed := true, recurses := true, named := ["layby/notes.names"], apart := false, laid := [("layby/notes.names", laid_layby_notes_names)], narrowed := true }
def OnesVoidUptoSaid : Prop := onesVoidUptoRow.holds Tryz.pinned (OpenSpec.upto onesVoidSpec)

/-- 'laybylaw19.OnesOldest', WHERE WHAT IT READS IS OF BULK AT MOST 1048576: true; the input reads as it did. -/
def onesOldestUptoRow : OpenClaim := { program := "ytieiiabbeglmfaagreatdoor", sum := "85e135fe109810b71d981863d4a2d0524e41fdf1f40f103899af39b9b91298d0", func := "layby/laybylaw19.OnesOldest", spec := "onesOldest", unfollowed := true, recurses := true, named := ["layby/notes.names"], apart := false, laid := [("layby/notes.names", laid_layby_notes_names)], narrowed := true }
def OnesOldestUptoSaid : Prop := onesOldestUptoRow.holds Tryz.pinned (OpenSpec.upto onesOldestSpec)

/-- 'laybylaw19.OnesFair', WHERE WHAT IT READS IS OF BULK AT MOST 1048576: true; the input reads as it did. -/
def onesFairUptoRow : OpenClaim := { program := "ytieiiabbeglmfaagreatdoor", sum := "85e135fe109810b71d981863d4a2d0524e41fdf1f40f103899af39b9b91298d0", func := "layby/laybylaw19.OnesFair", spec := "onesFair", unfollowed := true, recurses := true, named := ["layby/notes.names"], apart := false, laid := [("layby/notes.names", laid_layby_notes_names)], narrowed := true }
def OnesFairUptoSaid : Prop := onesFairUptoRow.holds Tryz.pinned (OpenSpec.upto onesFairSpec)

/-- 'laybylaw20.AllsVoid', WHERE WHAT IT READS IS OF BULK AT MOST 1048576: true; the input reads as it did. -/
def allsVoidUptoRow : OpenClaim := { program := "ytieiiabbeglmfaagreatdoor", sum := "85e135fe109810b71d981863d4a2d0524e41fdf1f40f103899af39b9b91298d0", func := "layby/laybylaw20.AllsVoid", spec := "allsVoid", unfollowed := true, recurses := true, named := ["layby/notes.names"], apart := false, laid := [("layby/notes.names", laid_layby_notes_names)], narrowed := true }
def AllsVoidUptoSaid : Prop := allsVoidUptoRow.holds Tryz.pinned (OpenSpec.upto allsVoidSpec)

/-- 'laybylaw20.AllsAll', WHERE WHAT IT READS IS OF BULK AT MOST 1048576: true; the input reads as it did. -/
def allsAllUptoRow : OpenClaim := { program := "ytieiiabbeglmfaagreatdoor", sum := "85e135fe109810b71d981863d4a2d0524e41fdf1f40f103899af39b9b91298d0", func := "layby/laybylaw20.AllsAll", spec := "allsAll", unfollowed := true, recurses := true, named := ["layby/notes.names"], apart := false, laid := [("layby/notes.names", laid_layby_notes_names)], narrowed := true }
def AllsAllUptoSaid : Prop := allsAllUptoRow.holds Tryz.pinned (OpenSpec.upto allsAllSpec)

end Rows
end Go.Proofs.YtieiiabbeglmfaaGreatDoor
