/- Texts of this seat, one behind the other. -/
import Derived.Test.YthafnphpcdbnlaaGreatE1
import Derived.Test.YthafnphpcdbnlaaGreatE13
set_option linter.unusedVariables false
set_option linter.unusedSimpArgs false
namespace Go.Proofs.YthafnphpcdbnlaaGreat.S12
open Go.Proofs.YthafnphpcdbnlaaGreat Go.Proofs.YthafnphpcdbnlaaGreat.S11
open Go.RowKit

/-- A cell of an old block stays. -/
theorem bcell {w w' : World} {a : Addr} {v : Value} (h : Below w.heap.size w w') (hc : w.cell? a = some v) : w'.cell? a = some v := by
  have hl : a.block < w.heap.size := by
    unfold World.cell? at hc
    cases hb : w.heap[a.block]? with
    | none => simp [hb] at hc
    | some x => exact (Array.getElem?_eq_some_iff.1 hb).1
  exact (h.cell hl).trans hc
abbrev TmI (a f : Int) : Value := .agg #[.int .u64 a, .int .u64 f]
def TmIn (w : World) (B : Nat) (a f : Int) : Prop := w.heap[B]? = some (.cells #[.int .u64 a, .int .u64 f] 175 (0, 0))
section
variable {w w' : World} {B : Nat} {a f : Int}
theorem TmIn.lt (h : TmIn w B a f) : B < w.heap.size := (Array.getElem?_eq_some_iff.1 h).1
theorem TmIn.c0 (h : TmIn w B a f) : w.cell? ⟨B, 0, none⟩ = some (.int .u64 a) := by simp [World.cell?, show w.heap[B]? = _ from h]
theorem TmIn.c1 (h : TmIn w B a f) : w.cell? ⟨B, 1, none⟩ = some (.int .u64 f) := by simp [World.cell?, show w.heap[B]? = _ from h]
theorem TmIn.z0 (h : TmIn w B a f) : w.frozen? ⟨B, 0, none⟩ = false := by simp [World.frozen?, show w.heap[B]? = _ from h]
theorem TmIn.z1 (h : TmIn w B a f) : w.frozen? ⟨B, 1, none⟩ = false := by simp [World.frozen?, show w.heap[B]? = _ from h]
theorem TmIn.new (h : TmIn w B a f) (b : Below w.heap.size w w') : TmIn w' B a f := (b.block B h.lt).trans h
theorem TmIn.put (h : TmIn w B a f) (x y : Int) : TmIn ((w.setCell ⟨B, 0, none⟩ (.int .u64 x)).setCell ⟨B, 1, none⟩ (.int .u64 y)) B x y := by
  have h' : w.heap[B]? = _ := h
  simp [TmIn, World.setCell, Array.getElem?_modify, h']
theorem TmIn.made (w : World) (a f : Int) : TmIn (w.alloc (.cells #[.int .u64 a, .int .u64 f] 175)) w.heap.size a f := heap_alloc_new w _
end
theorem two_int (w : World) (a f : Int) : TmIn ((w.alloc (.cells #[.int .u64 a, .int .u64 f] 175)).alloc (.cells #[.int .u64 0, .int .u64 0] 175)) w.heap.size a f
    ∧ TmIn ((w.alloc (.cells #[.int .u64 a, .int .u64 f] 175)).alloc (.cells #[.int .u64 0, .int .u64 0] 175)) (w.heap.size + 1) 0 0
    ∧ Below w.heap.size w ((w.alloc (.cells #[.int .u64 a, .int .u64 f] 175)).alloc (.cells #[.int .u64 0, .int .u64 0] 175)) := by
  refine ⟨(TmIn.made w a f).new (S8.below1 _ _), ?_, (S8.below1 w _).alloc (by simp) _⟩
  have h := TmIn.made (w.alloc (.cells #[.int .u64 a, .int .u64 f] 175)) 0 0
  rw [show (w.alloc (.cells #[.int .u64 a, .int .u64 f] 175)).heap.size = w.heap.size + 1 by simp] at h
  exact h
end Go.Proofs.YthafnphpcdbnlaaGreat.S12
