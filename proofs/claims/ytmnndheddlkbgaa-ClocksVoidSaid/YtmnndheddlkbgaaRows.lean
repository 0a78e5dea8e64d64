/-
  No cell of these rows narrows 'for every input' (looked for: loops, veiled, ifaces, maps, wideKeys, modest, calm, conditions, laid).
  DERIVED. THE GIVEN ROWS OF THIS SEAT. 4 by the template 'for every input the law returns true; each argument reads behind the call as it read before'; 0 by the template 'total and deterministic' (their statements: YtmnndheddlkbgaaTotals.lean).
  GIVEN WITH THE SEED: the statements are not yours to turn. If you find one false, say at which input.
  Laid BY PROGRAM, IN A SANDBOX (cutbox-rows.mjs): the forced cells as the released guide's own fill.sh prints them over the translation 8ef83a9f19ce774d… (all of the seat's roots in one cut). By AI agents, Wed Nov 11 2026. No macro, syntax, notation, axiom, sorry.
-/
import Derived.Test.YtmnndheddlkbgaaChecked
import GoSem.Claim
import GoSem.ClaimJoined
import GoSem.ClaimMapViews
import Derived.JoinedTies
import Derived.KernelRfl
namespace Go.Proofs.Ytmnndheddlkbgaa
/- THE CELL 'sum', in the pinned program and in every row, IS THE sha256 OF THE DUMP (.gsa) THAT YtmnndheddlkbgaaProg.lean LOADS. Nothing in Lean hashes anything: it is a label: what it is worth is what the hold of that sum in a sandbox is worth. -/
noncomputable def Try.pinned : Pinned := { name := "ytmnndheddlkbgaa", sum := "8ef83a9f19ce774d301f9b2f64ec7cfeae52e0680276987410857a4c49854e32", checked := Try.checked }
namespace Rows
def none {H : Type} : Left H := { results := [], args := [] }

/-- 'laybylaw03.ClocksPlay': WHATEVER THE INPUT: true; the input reads as it did. -/
def clocksPlaySpec : ChangeSpec := { name := "clocksPlay", fn := fun _ => fun
  | [d1, d2, d3] => { results := [.lit (.bool true)], args := [d1, d2, d3] }
  | _ => none }
def clocksPlayRow : OpenClaim := { program := "ytmnndheddlkbgaa", sum := "8ef83a9f19ce774d301f9b2f64ec7cfeae52e0680276987410857a4c49854e32", func := "layby/laybylaw03.ClocksPlay", spec := "clocksPlay", apart := false }
def ClocksPlaySaid : Prop := clocksPlayRow.holds Try.pinned (OpenSpec.ofChange clocksPlaySpec)

/-- ITS FALSE NEIGHBOUR: 'it returns false'. Refute it at one input. -/
def clocksPlayWrong : ChangeSpec := { name := "clocksPlay", fn := fun _ => fun
  | [d1, d2, d3] => { results := [.lit (.bool false)], args := [d1, d2, d3] }
  | _ => none }
def ClocksPlayWrongFalsely : Prop := clocksPlayRow.holds Try.pinned (OpenSpec.ofChange clocksPlayWrong)

/-- 'laybylaw03.ClocksVoid': WHATEVER THE INPUT: true; the input reads as it did. -/
def clocksVoidSpec : ChangeSpec := { name := "clocksVoid", fn := fun _ => fun
  | [d] => { results := [.lit (.bool true)], args := [d] }
  | _ => none }
def clocksVoidRow : OpenClaim := { program := "ytmnndheddlkbgaa", sum := "8ef83a9f19ce774d301f9b2f64ec7cfeae52e0680276987410857a4c49854e32", func := "layby/laybylaw03.ClocksVoid", spec := "clocksVoid", apart := false }
def ClocksVoidSaid : Prop := clocksVoidRow.holds Try.pinned (OpenSpec.ofChange clocksVoidSpec)

/-- ITS FALSE NEIGHBOUR: 'it returns false'. Refute it at one input. -/
def clocksVoidWrong : ChangeSpec := { name := "clocksVoid", fn := fun _ => fun
  | [d] => { results := [.lit (.bool false)], args := [d] }
  | _ => none }
def ClocksVoidWrongFalsely : Prop := clocksVoidRow.holds Try.pinned (OpenSpec.ofChange clocksVoidWrong)

/-- 'laybylaw03.ClocksCome': WHATEVER THE INPUT: true; the input reads as it did. -/
def clocksComeSpec : ChangeSpec := { name := "clocksCome", fn := fun _ => fun
  | [d1, d2, d3] => { results := [.lit (.bool true)], args := [d1, d2, d3] }
  | _ => none }
def clocksComeRow : OpenClaim := { program := "ytmnndheddlkbgaa", sum := "8ef83a9f19ce774d301f9b2f64ec7cfeae52e0680276987410857a4c49854e32", func := "layby/laybylaw03.ClocksCome", spec := "clocksCome", apart := false }
def ClocksComeSaid : Prop := clocksComeRow.holds Try.pinned (OpenSpec.ofChange clocksComeSpec)

/-- ITS FALSE NEIGHBOUR: 'it returns false'. Refute it at one input. -/
def clocksComeWrong : ChangeSpec := { name := "clocksCome", fn := fun _ => fun
  | [d1, d2, d3] => { results := [.lit (.bool false)], args := [d1, d2, d3] }
  | _ => none }
def ClocksComeWrongFalsely : Prop := clocksComeRow.holds Try.pinned (OpenSpec.ofChange clocksComeWrong)

/-- 'laybylaw03.ClocksDraws': WHATEVER THE INPUT: true; the input reads as it did. -/
def clocksDrawsSpec : ChangeSpec := { name := "clocksDraws", fn := fun _ => fun
  | [d1, d2, d3] => { results := [.lit (.bool true)], args := [d1, d2, d3] }
  | _ => none }
def clocksDrawsRow : OpenClaim := { program := "ytmnndheddlkbgaa", sum := "8ef83a9f19ce774d301f9b2f64ec7cfeae52e0680276987410857a4c49854e32", func := "layby/laybylaw03.ClocksDraws", spec := "clocksDraws", apart := false }
def ClocksDrawsSaid : Prop := clocksDrawsRow.holds Try.pinned (OpenSpec.ofChange clocksDrawsSpec)

/-- ITS FALSE NEIGHBOUR: 'it returns false'. Refute it at one input. -/
def clocksDrawsWrong : ChangeSpec := { name := "clocksDraws", fn := fun _ => fun
  | [d1, d2, d3] => { results := [.lit (.bool false)], args := [d1, d2, d3] }
  | _ => none }
def ClocksDrawsWrongFalsely : Prop := clocksDrawsRow.holds Try.pinned (OpenSpec.ofChange clocksDrawsWrong)

/- THE SECOND FORM. 'bulk': how many values and letters a reading holds, each counted each time it is reached (what is shared counts as often as it is met; a slice's spare places count too). A statement '..UptoSaid' is the law's where the arguments, and the package variables that the reading takes, are together of bulk at most 1048576: NARROWER than '..Said'. Prove '..Said' where nothing that the law and all that it calls make is longer than what came in: it says more and counts as full. Else prove '..UptoSaid'. A law counts once. -/
mutual
def uptoBulk {H : Type} : DataW H → Nat
  | .lit (.string bytes) => bytes.length + 1
  | .lit _ => 1
  | .nil => 1
  | .ptr d => uptoBulk d + 1
  | .slice elems spare => uptoBulkAll elems + uptoBulkAll spare + 1
  | .agg parts => uptoBulkAll parts + 1
  | .iface _ d => uptoBulk d + 1
  | .map entries => uptoBulkEntries entries + 1
  | .held _ => 1
def uptoBulkAll {H : Type} : List (DataW H) → Nat
  | [] => 0
  | d :: r => uptoBulk d + uptoBulkAll r
def uptoBulkEntries {H : Type} : List (Lit × DataW H) → Nat
  | [] => 0
  | x :: r => uptoBulkEntry x + uptoBulkEntries r
def uptoBulkEntry {H : Type} : Lit × DataW H → Nat
  | (.string bytes, d) => bytes.length + uptoBulk d + 1
  | (_, d) => uptoBulk d + 1
 end
def uptoSmall : (H : Type) → List (DataW H) → Bool := fun _ ds => decide (uptoBulkAll ds ≤ 1048576)
def OpenSpec.upto (s : _root_.Go.ChangeSpec) : _root_.Go.OpenSpec := { _root_.Go.OpenSpec.ofChange s with cond := some uptoSmall }

/-- 'laybylaw03.ClocksPlay', WHERE WHAT IT READS IS OF BULK AT MOST 1048576: true; the input reads as it did. -/
def clocksPlayUptoRow : OpenClaim := { program := "ytmnndheddlkbgaa", sum := "8ef83a9f19ce774d301f9b2f64ec7cfeae52e0680276987410857a4c49854e32", func := "layby/laybylaw03.ClocksPlay", spec := "clocksPlay", apart := false, narrowed := true }
def ClocksPlayUptoSaid : Prop := clocksPlayUptoRow.holds Try.pinned (OpenSpec.upto clocksPlaySpec)

/-- 'laybylaw03.ClocksVoid', WHERE WHAT IT READS IS OF BULK AT MOST 1048576: true; the input reads as it did. -/
def clocksVoidUptoRow : OpenClaim := { program := "ytmnndheddlkbgaa", sum := "8ef83a9f19ce774d301f9b2f64ec7cfeae52e0680276987410857a4c49854e32", func := "layby/laybylaw03.ClocksVoid", spec := "clocksVoid", apart := false, narrowed := true }
def ClocksVoidUptoSaid : Prop := clocksVoidUptoRow.holds Try.pinned (OpenSpec.upto clocksVoidSpec)

/-- 'laybylaw03.ClocksCome', WHERE WHAT IT READS IS OF BULK AT MOST 1048576: true; the input reads as it did. -/
def clocksComeUptoRow : OpenClaim := { program := "ytmnndheddlkbgaa", sum := "8ef83a9f19ce774d301f9b2f64ec7cfeae52e0680276987410857a4c49854e32", func := "layby/laybylaw03.ClocksCome", spec := "clocksCome", apart := false, narrowed := true }
def ClocksComeUptoSaid : Prop := clocksComeUptoRow.holds Try.pinned (OpenSpec.upto clocksComeSpec)

/-- 'laybylaw03.ClocksDraws', WHERE WHAT IT READS IS OF BULK AT MOST 1048576: true; the input reads as it did. -/
def clocksDrawsUptoRow : OpenClaim := { program := "ytmnndheddlkbgaa", sum := "8ef83a9f19ce774d301f9b2f64ec7cfeae52e0680276987410857a4c49854e32", func := "layby/laybylaw03.ClocksDraws", spec := "clocksDraws", apart := false, narrowed := true }
def ClocksDrawsUptoSaid : Prop := clocksDrawsUptoRow.holds Try.pinned (OpenSpec.upto clocksDrawsSpec)

end Rows
end Go.Proofs.Ytmnndheddlkbgaa
