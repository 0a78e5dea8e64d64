/-
  No cell of these rows narrows 'for every input' (looked for: loops, veiled, ifaces, maps, wideKeys, modest, calm, conditions, laid).
  DERIVED. THE GIVEN ROWS OF THIS SEAT. 2 by the template 'for every input the law returns true; each argument reads behind the call as it read before'; 0 by the template 'total and deterministic' (their statements: YtffoobepdofkkaaGreatTotals.lean).
  GIVEN WITH THE SEED: the statements are not yours to turn. If you find one false, say at which input.
  Laid BY PROGRAM, IN A SANDBOX (cutbox-rows.mjs): the forced cells as the released guide's own fill.sh prints them over the translation ec2069e2041e5420… (all of the seat's roots in one cut). By AI agents, Wed Nov 11 2026. No macro, syntax, notation, axiom, sorry.
-/
import Derived.Test.YtffoobepdofkkaaGreatChecked
import GoSem.Claim
import GoSem.ClaimJoined
import GoSem.ClaimMapViews
import Derived.JoinedTies
import Derived.KernelRfl
namespace Go.Proofs.YtffoobepdofkkaaGreat
/- THE CELL 'sum', in the pinned program and in every row, IS THE sha256 OF THE DUMP (.gsa) THAT YtffoobepdofkkaaGreatProg.lean LOADS. Nothing in Lean hashes anything: it is a label: what it is worth is what the hold of that sum in a sandbox is worth. -/
noncomputable def Tryz.pinned : Pinned := { name := "ytffoobepdofkkaagreat", sum := "ec2069e2041e54205da9686ecd14a01266211af82572b84dbfc74e22a00dec86", checked := Tryz.checked }
namespace Rows
def none {H : Type} : Left H := { results := [], args := [] }

/-- 'laybylaw13.WordlocksPlay': WHATEVER THE INPUT: true; the input reads as it did. -/
def wordlocksPlaySpec : ChangeSpec := { name := "wordlocksPlay", fn := fun _ => fun
  | [d1, d2] => { results := [.lit (.bool true)], args := [d1, d2] }
  | _ => none }
def wordlocksPlayRow : OpenClaim := { program := "ytffoobepdofkkaagreat", sum := "ec2069e2041e54205da9686ecd14a01266211af82572b84dbfc74e22a00dec86", func := "layby/laybylaw13.WordlocksPlay", spec := "wordlocksPlay", unfollowed := true, recurses := true, apart := false }
def WordlocksPlaySaid : Prop := wordlocksPlayRow.holds Tryz.pinned (OpenSpec.ofChange wordlocksPlaySpec)

/-- ITS FALSE NEIGHBOUR: 'it returns false'. Refute it at one input. -/
def wordlocksPlayWrong : ChangeSpec := { name := "wordlocksPlay", fn := fun _ => fun
  | [d1, d2] => { results := [.lit (.bool false)], args := [d1, d2] }
  | _ => none }
def WordlocksPlayWrongFalsely : Prop := wordlocksPlayRow.holds Tryz.pinned (OpenSpec.ofChange wordlocksPlayWrong)

/-- 'laybylaw13.WordlocksVoid': WHATEVER THE INPUT: true; the input reads as it did. -/
def wordlocksVoidSpec : ChangeSpec := { name := "wordlocksVoid", fn := fun _ => fun
  | [d1, d2] => { results := [.lit (.bool true)], args := [d1, d2] }
  | _ => none }
def wordlocksVoidRow : OpenClaim := { program := "ytffoobepdofkkaagreat", sum := "ec2069e2041e54205da9686ecd14a01266211af82572b84dbfc74e22a00dec86", func := "layby/laybylaw13.WordlocksVoid", spec := "wordlocksVoid", unfollowed := true, recurses := true, apart := false }
def WordlocksVoidSaid : Prop := wordlocksVoidRow.holds Tryz.pinned (OpenSpec.ofChange wordlocksVoidSpec)

/-- ITS FALSE NEIGHBOUR: 'it returns false'. Refute it at one input. -/
def wordlocksVoidWrong : ChangeSpec := { name := "wordlocksVoid", fn := fun _ => fun
  | [d1, d2] => { results := [.lit (.bool false)], args := [d1, d2] }
  | _ => none }
def WordlocksVoidWrongFalsely : Prop := wordlocksVoidRow.holds Tryz.pinned (OpenSpec.ofChange wordlocksVoidWrong)

/- THE SECOND FORM. 'bulk': how many values and letters a reading holds, each counted each time it is reached (what is shared counts as often as it is met; a slice's spare places count too). A statement '..UptoSaid' is the law's where the arguments, and the package variables that the reading takes, are together of bulk at most 1048576: NARROWER than '..Said'. Prove '..Said' where nothing that the law and all that it calls make is longer than what came in: it says more and counts as full. Else prove '..UptoSaid'. A law counts once. -/
mutual
def uptoBulk {H : Type} : DataW H → Nat
  | .lit (.string bytes) => bytes.length + 1
  | .lit _ => 1
  | .nil => 1
  | .ptr d => uptoBulk d + 1
  | .slice elems spare => uptoBulkAll elems + uptoBulkAll spare + 1
  | .agg parts => uptoBulkAll parts + 1
  | .iface _ d => uptoBulk d + 1
  | .map entries => uptoBulkEntries entries + 1
  | .held _ => 1
def uptoBulkAll {H : Type} : List (DataW H) → Nat
  | [] => 0
  | d :: r => uptoBulk d + uptoBulkAll r
def uptoBulkEntries {H : Type} : List (Lit × DataW H) → Nat
  | [] => 0
  | x :: r => uptoBulkEntry x + uptoBulkEntries r
def uptoBulkEntry {H : Type} : Lit × DataW H → Nat
  | (.string bytes, d) => bytes.length + uptoBulk d + 1
  | (_, d) => uptoBulk d + 1
 end
def uptoSmall : (H : Type) → List (DataW H) → Bool := fun _ ds => decide (uptoBulkAll ds ≤ 1048576)
def OpenSpec.upto (s : _root_.Go.ChangeSpec) : _root_.Go.OpenSpec := { _root_.Go.OpenSpec.ofChange s with cond := some uptoSmall }

/-- 'laybylaw13.WordlocksPlay', WHERE WHAT IT READS IS OF BULK AT MOST 1048576: true; the input reads as it did. -/
def wordlocksPlayUptoRow : OpenClaim := { program := "ytffoobepdofkkaagreat", sum := "ec2069e2041e54205da9686ecd14a01266211af82572b84dbfc74e22a00dec86", func := "layby/laybylaw13.WordlocksPlay", spec := "wordlocksPlay", unfollowed := true, recurses := true, apart := false, narrowed := true }
def WordlocksPlayUptoSaid : Prop := wordlocksPlayUptoRow.holds Tryz.pinned (OpenSpec.upto wordlocksPlaySpec)

/-- 'laybylaw13.WordlocksVoid', WHERE WHAT IT READS IS OF BULK AT MOST 1048576: true; the input reads as it did. -/
def wordlocksVoidUptoRow : OpenClaim := { program := "ytffoobepdofkkaagreat", sum := "ec2069e2041e54205da9686ecd14a01266211af82572b84dbfc74e22a00dec86", func := "layby/laybylaw13.WordlocksVoid", spec := "wordlocksVoid", unfollowed := true, recurses := true, apart := false, narrowed := true }
def WordlocksVoidUptoSaid : Prop := wordlocksVoidUptoRow.holds Tryz.pinned (OpenSpec.upto wordlocksVoidSpec)

end Rows
end Go.Proofs.YtffoobepdofkkaaGreat
