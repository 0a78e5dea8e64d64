/- Texts of this seat, one behind the other. -/
import Derived.Test.YthafnphpcdbnlaaGreatE7
import Derived.Deep.QuietTactic
import Derived.BigQuiet
import Derived.Laws.StructEq
set_option linter.unusedVariables false
set_option linter.unusedSimpArgs false
namespace Go.Proofs.YthafnphpcdbnlaaGreat.S3
open Go.Proofs.YthafnphpcdbnlaaGreat
open Go.RowKit

abbrev Pt (B : Nat) : Value := .pointer (some ⟨B, 0, none⟩)
/-- Numbers that are numbers of 64 bits, and not too many. -/
structure Nums (T most : Nat) (D : List Nat) : Prop where
  t : T ≤ 18446744073709551615
  m : most ≤ 18446744073709551615
  len : D.length ≤ 65536
  all : ∀ d ∈ D, d ≤ 18446744073709551615
structure ClockAt (w : World) (base B T most : Nat) (s : Value) (D : List Nat) : Prop where
  nums : Nums T most D
  row : w.heap[B]? = some (.cells #[.int .u64 T, .int .u64 most, s] 132 (0, 0))
  own : Row w base s D
  ne : s.ownBlock ≠ some B
section
variable {w w' : World} {base B T most : Nat} {s : Value} {D : List Nat}
theorem ClockAt.lt (h : ClockAt w base B T most s D) : B < w.heap.size := (Array.getElem?_eq_some_iff.1 h.row).1
theorem ClockAt.kept {S : Nat → Prop} (h : ClockAt w base B T most s D) (t : Turns S w w') (hB : ¬ S B) (hs : ∀ g, s.ownBlock = some g → ¬ S g) : ClockAt w' base B T most s D :=
  ⟨h.nums, (t.block B h.lt hB).trans h.row, h.own.keep t hs, h.ne⟩
theorem ClockAt.new (h : ClockAt w base B T most s D) (b : Below w.heap.size w w') : ClockAt w' base B T most s D :=
  h.kept (Turns.of_below (S := fun _ => False) b) (fun e => e) (fun _ _ e => e)
def comeB (T : Nat) (on : Bool) (at_ : Nat) : Bool := on && decide (at_ ≤ T)
theorem Nums.tick {n : Nat} (h : Nums T most D) : Nums (sat T n) most D := ⟨sat_le _ _, h.m, h.len, h.all⟩
/-- What a clock is behind a draw. -/
def Drawn (w w' : World) (base B T most : Nat) (s : Value) (D : List Nat) : Prop := ∃ s', ClockAt w' base B T most s' D ∧ s'.ownBlock = s.ownBlock ∧ Turns (fun k => k = B) w w'
end
end Go.Proofs.YthafnphpcdbnlaaGreat.S3
