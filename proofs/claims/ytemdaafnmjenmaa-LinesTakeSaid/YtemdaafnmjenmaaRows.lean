/-
  No cell of these rows narrows 'for every input' (looked for: loops, veiled, ifaces, maps, wideKeys, modest, calm, conditions, laid).
  DERIVED. THE GIVEN ROWS OF THIS SEAT. 4 by the template 'for every input the law returns true; each argument reads behind the call as it read before'; 0 by the template 'total and deterministic' (their statements: YtemdaafnmjenmaaTotals.lean).
  GIVEN WITH THE SEED: the statements are not yours to turn. If you find one false, say at which input.
  Laid BY PROGRAM, IN A SANDBOX (cutbox-rows.mjs): the forced cells as the released guide's own fill.sh prints them over the translation 6676421417bbee9f… (all of the seat's roots in one cut). By AI agents, Wed Nov 11 2026. No macro, syntax, notation, axiom, sorry.
-/
import Derived.Test.YtemdaafnmjenmaaChecked
import GoSem.Claim
import GoSem.ClaimJoined
import GoSem.ClaimMapViews
import Derived.JoinedTies
import Derived.KernelRfl
namespace Go.Proofs.Ytemdaafnmjenmaa
/- THE CELL 'sum', in the pinned program and in every row, IS THE sha256 OF THE DUMP (.gsa) THAT YtemdaafnmjenmaaProg.lean LOADS. Nothing in Lean hashes anything: it is a label: what it is worth is what the hold of that sum in a sandbox is worth. -/
noncomputable def Try.pinned : Pinned := { name := "ytemdaafnmjenmaa", sum := "6676421417bbee9f30b263f249bbdbca658b3cd22ff35857de72259695ba43ad", checked := Try.checked }
namespace Rows
def none {H : Type} : Left H := { results := [], args := [] }

/-- 'laybylaw06.LinesAsk': WHATEVER THE INPUT: true; the input reads as it did. -/
def linesAskSpec : ChangeSpec := { name := "linesAsk", fn := fun _ => fun
  | [d1, d2, d3] => { results := [.lit (.bool true)], args := [d1, d2, d3] }
  | _ => none }
def linesAskRow : OpenClaim := { program := "ytemdaafnmjenmaa", sum := "6676421417bbee9f30b263f249bbdbca658b3cd22ff35857de72259695ba43ad", func := "layby/laybylaw06.LinesAsk", spec := "linesAsk", unfollowed := true, recurses := true, apart := false }
def LinesAskSaid : Prop := linesAskRow.holds Try.pinned (OpenSpec.ofChange linesAskSpec)

/-- ITS FALSE NEIGHBOUR: 'it returns false'. Refute it at one input. -/
def linesAskWrong : ChangeSpec := { name := "linesAsk", fn := fun _ => fun
  | [d1, d2, d3] => { results := [.lit (.bool false)], args := [d1, d2, d3] }
  | _ => none }
def LinesAskWrongFalsely : Prop := linesAskRow.holds Try.pinned (OpenSpec.ofChange linesAskWrong)

/-- 'laybylaw06.LinesTake': WHATEVER THE INPUT: true; the input reads as it did. -/
def linesTakeSpec : ChangeSpec := { name := "linesTake", fn := fun _ => fun
  | [d1, d2, d3] => { results := [.lit (.bool true)], args := [d1, d2, d3] }
  | _ => none }
def linesTakeRow : OpenClaim := { program := "ytemdaafnmjenmaa", sum := "6676421417bbee9f30b263f249bbdbca658b3cd22ff35857de72259695ba43ad", func := "layby/laybylaw06.LinesTake", spec := "linesTake", unfollowed := true, recurses := true, apart := false }
def LinesTakeSaid : Prop := linesTakeRow.holds Try.pinned (OpenSpec.ofChange linesTakeSpec)

/-- ITS FALSE NEIGHBOUR: 'it returns false'. Refute it at one input. -/
def linesTakeWrong : ChangeSpec := { name := "linesTake", fn := fun _ => fun
  | [d1, d2, d3] => { results := [.lit (.bool false)], args := [d1, d2, d3] }
  | _ => none }
def LinesTakeWrongFalsely : Prop := linesTakeRow.holds Try.pinned (OpenSpec.ofChange linesTakeWrong)

/-- 'laybylaw06.LinesPart': WHATEVER THE INPUT: true; the input reads as it did. -/
def linesPartSpec : ChangeSpec := { name := "linesPart", fn := fun _ => fun
  | [d1, d2, d3] => { results := [.lit (.bool true)], args := [d1, d2, d3] }
  | _ => none }
def linesPartRow : OpenClaim := { program := "ytemdaafnmjenmaa", sum := "6676421417bbee9f30b263f249bbdbca658b3cd22ff35857de72259695ba43ad", func := "layby/laybylaw06.LinesPart", spec := "linesPart", unfollowed := true, recurses := true, apart := false }
def LinesPartSaid : Prop := linesPartRow.holds Try.pinned (OpenSpec.ofChange linesPartSpec)

/-- ITS FALSE NEIGHBOUR: 'it returns false'. Refute it at one input. -/
def linesPartWrong : ChangeSpec := { name := "linesPart", fn := fun _ => fun
  | [d1, d2, d3] => { results := [.lit (.bool false)], args := [d1, d2, d3] }
  | _ => none }
def LinesPartWrongFalsely : Prop := linesPartRow.holds Try.pinned (OpenSpec.ofChange linesPartWrong)

/-- 'laybylaw06.LinesAll': WHATEVER THE INPUT: true; the input reads as it did. -/
def linesAllSpec : ChangeSpec := { name := "linesAll", fn := fun _ => fun
  | [d1, d2, d3] => { results := [.lit (.bool true)], args := [d1, d2, d3] }
  | _ => none }
def linesAllRow : OpenClaim := { program := "ytemdaafnmjenmaa", sum := "6676421417bbee9f30b263f249bbdbca658b3cd22ff35857de72259695ba43ad", func := "layby/laybylaw06.LinesAll", spec := "linesAll", unfollowed := true, recurses := true, apart := false }
def LinesAllSaid : Prop := linesAllRow.holds Try.pinned (OpenSpec.ofChange linesAllSpec)

/-- ITS FALSE NEIGHBOUR: 'it returns false'. Refute it at one input. -/
def linesAllWrong : ChangeSpec := { name := "linesAll", fn := fun _ => fun
  | [d1, d2, d3] => { results := [.lit (.bool false)], args := [d1, d2, d3] }
  | _ => none }
def LinesAllWrongFalsely : Prop := linesAllRow.holds Try.pinned (OpenSpec.ofChange linesAllWrong)

/- THE SECOND FORM. 'bulk': how many values and letters a reading holds, each counted each time it is reached (what is shared counts as often as it is met; a slice's spare places count too). A statement '..UptoSaid' is the law's where the arguments, and the package variables that the reading takes, are together of bulk at most 1048576: NARROWER than '..Said'. Prove '..Said' where nothing that the law and all that it calls make is longer than what came in: it says more and counts as full. Else prove '..UptoSaid'. A law counts once. -/
mutual
def uptoBulk {H : Type} : DataW H → Nat
  | .lit (.string bytes) => bytes.length + 1
  | .lit _ => 1
  | .nil => 1
  | .ptr d => uptoBulk d + 1
  | .slice elems spare => uptoBulkAll elems + uptoBulkAll spare + 1
  | .agg parts => uptoBulkAll parts + 1
  | .iface _ d => uptoBulk d + 1
  | .map entries => uptoBulkEntries entries + 1
  | .held _ => 1
def uptoBulkAll {H : Type} : List (DataW H) → Nat
  | [] => 0
  | d :: r => uptoBulk d + uptoBulkAll r
def uptoBulkEntries {H : Type} : List (Lit × DataW H) → Nat
  | [] => 0
  | x :: r => uptoBulkEntry x + uptoBulkEntries r
def uptoBulkEntry {H : Type} : Lit × DataW H → Nat
  | (.string bytes, d) => bytes.length + uptoBulk d + 1
  | (_, d) => uptoBulk d + 1
 end
def uptoSmall : (H : Type) → List (DataW H) → Bool := fun _ ds => decide (uptoBulkAll ds ≤ 1048576)
def OpenSpec.upto (s : _root_.Go.ChangeSpec) : _root_.Go.OpenSpec := { _root_.Go.OpenSpec.ofChange s with cond := some uptoSmall }

/-- 'laybylaw06.LinesAsk', WHERE WHAT IT READS IS OF BULK AT MOST 1048576: true; the input reads as it did. -/
def linesAskUptoRow : OpenClaim := { program := "ytemdaafnmjenmaa", sum := "6676421417bbee9f30b263f249bbdbca658b3cd22ff35857de72259695ba43ad", func := "layby/laybylaw06.LinesAsk", spec := "linesAsk", unfollowed := true, recurses := true, apart := false, narrowed := true }
def LinesAskUptoSaid : Prop := linesAskUptoRow.holds Try.pinned (OpenSpec.upto linesAskSpec)

/-- 'laybylaw06.LinesTake', WHERE WHAT IT READS IS OF BULK AT MOST 1048576: true; the input reads as it did. -/
def linesTakeUptoRow : OpenClaim := { program := "ytemdaafnmjenmaa", sum := "6676421417bbee9f30b263f249bbdbca658b3cd22ff35857de72259695ba43ad", func := "layby/laybylaw06.LinesTake", spec := "linesTake", unfollowed := true, recurses := true, apart := false, narrowed := true }
def LinesTakeUptoSaid : Prop := linesTakeUptoRow.holds Try.pinned (OpenSpec.upto linesTakeSpec)

/-- 'laybylaw06.LinesPart', WHERE WHAT IT READS IS OF BULK AT MOST 1048576: true; the input reads as it did. -/
def linesPartUptoRow : OpenClaim := { program := "ytemdaafnmjenmaa", sum := "6676421417bbee9f30b263f249bbdbca658b3cd22ff35857de72259695ba43ad", func := "layby/laybylaw06.LinesPart", spec := "linesPart", unfollowed := true, recurses := true, apart := false, narrowed := true }
def LinesPartUptoSaid : Prop := linesPartUptoRow.holds Try.pinned (OpenSpec.upto linesPartSpec)

/-- 'laybylaw06.LinesAll', WHERE WHAT IT READS IS OF BULK AT MOST 1048576: true; the input reads as it did. -/
def linesAllUptoRow : OpenClaim := { program := "ytemdaafnmjenmaa", sum := "6676421417bbee9f30b263f249bbdbca658b3cd22ff35857de72259695ba43ad", func := "layby/laybylaw06.LinesAll", spec := "linesAll", unfollowed := true, recurses := true, apart := false, narrowed := true }
def LinesAllUptoSaid : Prop := linesAllUptoRow.holds Try.pinned (OpenSpec.upto linesAllSpec)

end Rows
end Go.Proofs.Ytemdaafnmjenmaa
