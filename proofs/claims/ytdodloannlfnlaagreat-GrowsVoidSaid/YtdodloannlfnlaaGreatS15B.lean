/- An Enter, or an Own, in memory, beside a world. -/
import Derived.Test.YtdodloannlfnlaaGreatS15A
set_option linter.unusedVariables false
set_option linter.unusedSimpArgs false
namespace Go.Proofs.YtdodloannlfnlaaGreat.S15
open Go.Proofs.YtdodloannlfnlaaGreat Go.Proofs.YtdodloannlfnlaaGreat.S11 Go.Proofs.YtdodloannlfnlaaGreat.S12 Go.Proofs.YtdodloannlfnlaaGreat.S13 Go.Proofs.YtdodloannlfnlaaGreat.S14
open Go.RowKit

/-- Where an Enter stands, and what its parts have seen: its block, its parts' row, its key's and its table's word; which part is next; is a word stale; the place; what is under way. -/
structure Wb where
  B : Nat
  PB : Nat
  KB : Nat
  TB : Nat
  i : Int
  st : Bool
  pb : Int
  pi : Int
  uv : Value
abbrev lockU (U : Nat) : Value := .iface 281 (Pw U)
abbrev freeU (U : Nat) : Value := .iface 312 (Pw U)
def nPart (o : Bool) : Nat := if o then 6 else 4
def tyE (o : Bool) : Nat := if o then 114 else 90
def wayC (o : Bool) (t : Nat) (Z : Wb) : Array Value :=
  #[.slice (some ⟨Z.PB, 0, none⟩) (nPart o) (nPart o), .int .i64 Z.i, .int .i64 (t : Int), Pw Z.KB, Pw Z.TB, .int .i64 Z.pb, .int .i64 Z.pi, .bool Z.st, Z.uv]
def wordC (a : Nat) (k : Bool) (u : Nat) : Array Value := #[.int .u32 (a : Int), .bool k, .int .u64 (u : Int)]
def kyA (o : Bool) (t : Nat) : Nat := if o then 64 + t else 0
theorem heap_lt {w : World} {B : Nat} {o : Obj} (h : w.heap[B]? = some o) : B < w.heap.size := (Array.getElem?_eq_some_iff.1 h).1
section
variable {w w' : World} {o : Bool} {t kw tw : Nat} {Z : Wb}
theorem ty_ne (o : Bool) : tyE o ≠ 92 := by unfold tyE; cases o <;> decide
theorem heap_set_ne {w : World} {a : Addr} {v : Value} {B : Nat} (h : B ≠ a.block) : (w.setCell a v).heap[B]? = w.heap[B]? := Below.heap_setCell _ _ _ _ h
end
end Go.Proofs.YtdodloannlfnlaaGreat.S15
