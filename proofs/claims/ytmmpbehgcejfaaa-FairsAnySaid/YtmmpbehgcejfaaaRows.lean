/-
  No cell of these rows narrows 'for every input' (looked for: loops, veiled, ifaces, maps, wideKeys, modest, calm, conditions, laid).
  DERIVED. THE GIVEN ROWS OF THIS SEAT. 3 by the template 'for every input the law returns true; each argument reads behind the call as it read before'; 0 by the template 'total and deterministic' (their statements: YtmmpbehgcejfaaaTotals.lean).
  GIVEN WITH THE SEED: the statements are not yours to turn. If you find one false, say at which input.
  Laid BY PROGRAM, IN A SANDBOX (cutbox-rows.mjs): the forced cells as the released guide's own fill.sh prints them over the translation 01a780df6a2c9153… (all of the seat's roots in one cut). By AI agents, Wed Nov 11 2026. No macro, syntax, notation, axiom, sorry.
-/
import Derived.Test.YtmmpbehgcejfaaaChecked
import GoSem.Claim
import GoSem.ClaimJoined
import GoSem.ClaimMapViews
import Derived.JoinedTies
import Derived.KernelRfl
namespace Go.Proofs.Ytmmpbehgcejfaaa
/- THE CELL 'sum', in the pinned program and in every row, IS THE sha256 OF THE DUMP (.gsa) THAT YtmmpbehgcejfaaaProg.lean LOADS. Nothing in Lean hashes anything: it is a label: what it is worth is what the hold of that sum in a sandbox is worth. -/
noncomputable def Try.pinned : Pinned := { name := "ytmmpbehgcejfaaa", sum := "01a780df6a2c9153bead3d831de966b9772edfcbc9ec08bc082396d24500926b", checked := Try.checked }
namespace Rows
def none {H : Type} : Left H := { results := [], args := [] }

/-- 'laybylaw08.FairsAny': WHATEVER THE INPUT: true; the input reads as it did. -/
def fairsAnySpec : ChangeSpec := { name := "fairsAny", fn := fun _ => fun
  | [d1, d2, d3] => { results := [.lit (.bool true)], args := [d1, d2, d3] }
  | _ => none }
def fairsAnyRow : OpenClaim := { program := "ytmmpbehgcejfaaa", sum := "01a780df6a2c9153bead3d831de966b9772edfcbc9ec08bc082396d24500926b", func := "layby/laybylaw08.FairsAny", spec := "fairsAny", unfollowed := true, recurses := true, apart := false }
def FairsAnySaid : Prop := fairsAnyRow.holds Try.pinned (OpenSpec.ofChange fairsAnySpec)

/-- ITS FALSE NEIGHBOUR: 'it returns false'. Refute it at one input. -/
def fairsAnyWrong : ChangeSpec := { name := "fairsAny", fn := fun _ => fun
  | [d1, d2, d3] => { results := [.lit (.bool false)], args := [d1, d2, d3] }
  | _ => none }
def FairsAnyWrongFalsely : Prop := fairsAnyRow.holds Try.pinned (OpenSpec.ofChange fairsAnyWrong)

/-- 'laybylaw08.FairsWithin': WHATEVER THE INPUT: true; the input reads as it did. -/
def fairsWithinSpec : ChangeSpec := { name := "fairsWithin", fn := fun _ => fun
  | [d1, d2, d3] => { results := [.lit (.bool true)], args := [d1, d2, d3] }
  | _ => none }
def fairsWithinRow : OpenClaim := { program := "ytmmpbehgcejfaaa", sum := "01a780df6a2c9153bead3d831de966b9772edfcbc9ec08bc082396d24500926b", func := "layby/laybylaw08.FairsWithin", spec := "fairsWithin", unfollowed := true, recurses := true, apart := false }
def FairsWithinSaid : Prop := fairsWithinRow.holds Try.pinned (OpenSpec.ofChange fairsWithinSpec)

/-- ITS FALSE NEIGHBOUR: 'it returns false'. Refute it at one input. -/
def fairsWithinWrong : ChangeSpec := { name := "fairsWithin", fn := fun _ => fun
  | [d1, d2, d3] => { results := [.lit (.bool false)], args := [d1, d2, d3] }
  | _ => none }
def FairsWithinWrongFalsely : Prop := fairsWithinRow.holds Try.pinned (OpenSpec.ofChange fairsWithinWrong)

/-- 'laybylaw08.FairsDraw': WHATEVER THE INPUT: true; the input reads as it did. -/
def fairsDrawSpec : ChangeSpec := { name := "fairsDraw", fn := fun _ => fun
  | [d1, d2, d3] => { results := [.lit (.bool true)], args := [d1, d2, d3] }
  | _ => none }
def fairsDrawRow : OpenClaim := { program := "ytmmpbehgcejfaaa", sum := "01a780df6a2c9153bead3d831de966b9772edfcbc9ec08bc082396d24500926b", func := "layby/laybylaw08.FairsDraw", spec := "fairsDraw", unfollowed := true, recurses := true, apart := false }
def FairsDrawSaid : Prop := fairsDrawRow.holds Try.pinned (OpenSpec.ofChange fairsDrawSpec)

/-- ITS FALSE NEIGHBOUR: 'it returns false'. Refute it at one input. -/
def fairsDrawWrong : ChangeSpec := { name := "fairsDraw", fn := fun _ => fun
  | [d1, d2, d3] => { results := [.lit (.bool false)], args := [d1, d2, d3] }
  | _ => none }
def FairsDrawWrongFalsely : Prop := fairsDrawRow.holds Try.pinned (OpenSpec.ofChange fairsDrawWrong)

/- THE SECOND FORM. 'bulk': how many values and letters a reading holds, each counted each time it is reached (what is shared counts as often as it is met; a slice's spare places count too). A statement '..UptoSaid' is the law's where the arguments, and the package variables that the reading takes, are together of bulk at most 1048576: NARROWER than '..Said'. Prove '..Said' where nothing that the law and all that it calls make is longer than what came in: it says more and counts as full. Else prove '..UptoSaid'. A law counts once. -/
mutual
def uptoBulk {H : Type} : DataW H → Nat
  | .lit (.string bytes) => bytes.length + 1
  | .lit _ => 1
  | .nil => 1
  | .ptr d => uptoBulk d + 1
  | .slice elems spare => uptoBulkAll elems + uptoBulkAll spare + 1
  | .agg parts => uptoBulkAll parts + 1
  | .iface _ d => uptoBulk d + 1
  | .map entries => uptoBulkEntries entries + 1
  | .held _ => 1
def uptoBulkAll {H : Type} : List (DataW H) → Nat
  | [] => 0
  | d :: r => uptoBulk d + uptoBulkAll r
def uptoBulkEntries {H : Type} : List (Lit × DataW H) → Nat
  | [] => 0
  | x :: r => uptoBulkEntry x + uptoBulkEntries r
def uptoBulkEntry {H : Type} : Lit × DataW H → Nat
  | (.string bytes, d) => bytes.length + uptoBulk d + 1
  | (_, d) => uptoBulk d + 1
 end
def uptoSmall : (H : Type) → List (DataW H) → Bool := fun _ ds => decide (uptoBulkAll ds ≤ 1048576)
def OpenSpec.upto (s : _root_.Go.ChangeSpec) : _root_.Go.OpenSpec := { _root_.Go.OpenSpec.ofChange s with cond := some uptoSmall }

/-- 'laybylaw08.FairsAny', WHERE WHAT IT READS IS OF BULK AT MOST 1048576: true; the input reads as it did. -/
def fairsAnyUptoRow : OpenClaim := { program := "ytmmpbehgcejfaaa", sum := "01a780df6a2c9153bead3d831de966b9772edfcbc9ec08bc082396d24500926b", func := "layby/laybylaw08.FairsAny", spec := "fairsAny", unfollowed := true, recurses := true, apart := false, narrowed := true }
def FairsAnyUptoSaid : Prop := fairsAnyUptoRow.holds Try.pinned (OpenSpec.upto fairsAnySpec)

/-- 'laybylaw08.FairsWithin', WHERE WHAT IT READS IS OF BULK AT MOST 1048576: true; the input reads as it did. -/
def fairsWithinUptoRow : OpenClaim := { program := "ytmmpbehgcejfaaa", sum := "01a780df6a2c9153bead3d831de966b9772edfcbc9ec08bc082396d24500926b", func := "layby/laybylaw08.FairsWithin", spec := "fairsWithin", unfollowed := true, recurses := true, apart := false, narrowed := true }
def FairsWithinUptoSaid : Prop := fairsWithinUptoRow.holds Try.pinned (OpenSpec.upto fairsWithinSpec)

/-- 'laybylaw08.FairsDraw', WHERE WHAT IT READS IS OF BULK AT MOST 1048576: true; the input reads as it did. -/
def fairsDrawUptoRow : OpenClaim := { program := "ytmmpbehgcejfaaa", sum := "01a780df6a2c9153bead3d831de966b9772edfcbc9ec08bc082396d24500926b", func := "layby/laybylaw08.FairsDraw", spec := "fairsDraw", unfollowed := true, recurses := true, apart := false, narrowed := true }
def FairsDrawUptoSaid : Prop := fairsDrawUptoRow.holds Try.pinned (OpenSpec.upto fairsDrawSpec)

end Rows
end Go.Proofs.Ytmmpbehgcejfaaa
