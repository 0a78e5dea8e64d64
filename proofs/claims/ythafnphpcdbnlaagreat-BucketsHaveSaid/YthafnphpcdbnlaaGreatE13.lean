/- Texts of this seat, one behind the other. -/
import Derived.Test.YthafnphpcdbnlaaGreatProg
import Derived.WalkKit
import Derived.LoopTactic
import Derived.Outline
import Derived.Lib.Hide
import Derived.Deep.RegionWith
import Derived.Deep.AppendSrc
import Derived.Deep.Upon
import Derived.Carry
import Derived.Defers
import Derived.Recover
import Derived.Laws.Pointers
import Derived.WalkSpells
import Derived.Laws.StructEq
import Derived.Deep.QuietTactic
import Derived.BigQuiet
import Derived.Deep.CutRange
set_option linter.unusedVariables false
set_option linter.unusedSimpArgs false
namespace Go.Proofs.YthafnphpcdbnlaaGreat.S8
open Go.Proofs.YthafnphpcdbnlaaGreat
open Go.RowKit

abbrev Tm (a f : Nat) : Value := .agg #[.int .u64 a, .int .u64 f]
/-- A sum that stays at the greatest number of 64 bits. -/
def sat (a b : Nat) : Nat := if a + b ≤ 18446744073709551615 then a + b else 18446744073709551615
/-- A timer in a block of its own. -/
def TmAt (T : TypeId) (w : World) (B a f : Nat) : Prop := w.heap[B]? = some (.cells #[.int .u64 a, .int .u64 f] T (0, 0))
section
variable {T : TypeId} {w w' : World} {B a f : Nat}
theorem TmAt.lt (h : TmAt T w B a f) : B < w.heap.size := (Array.getElem?_eq_some_iff.1 h).1
theorem TmAt.c0 (h : TmAt T w B a f) : w.cell? ⟨B, 0, none⟩ = some (.int .u64 a) := by simp [World.cell?, show w.heap[B]? = _ from h]
theorem TmAt.c1 (h : TmAt T w B a f) : w.cell? ⟨B, 1, none⟩ = some (.int .u64 f) := by simp [World.cell?, show w.heap[B]? = _ from h]
theorem TmAt.z0 (h : TmAt T w B a f) : w.frozen? ⟨B, 0, none⟩ = false := by simp [World.frozen?, show w.heap[B]? = _ from h]
theorem TmAt.z1 (h : TmAt T w B a f) : w.frozen? ⟨B, 1, none⟩ = false := by simp [World.frozen?, show w.heap[B]? = _ from h]
theorem TmAt.new (h : TmAt T w B a f) (b : Below w.heap.size w w') : TmAt T w' B a f := (b.block B h.lt).trans h
theorem TmAt.put (h : TmAt T w B a f) (x y : Nat) : TmAt T ((w.setCell ⟨B, 0, none⟩ (.int .u64 x)).setCell ⟨B, 1, none⟩ (.int .u64 y)) B x y := by
  have h' : w.heap[B]? = _ := h
  simp [TmAt, World.setCell, Array.getElem?_modify, h']
theorem TmAt.made (w : World) (T : TypeId) (a f : Nat) : TmAt T (w.alloc (.cells #[.int .u64 a, .int .u64 f] T)) w.heap.size a f :=
  heap_alloc_new w _
end
theorem below1 (w : World) (o : Obj) : Below w.heap.size w (w.alloc o) := (Below.refl _ _).alloc (Nat.le_refl _) _
theorem begin_any (n : Nat) (w : World) : Calls Tryz.prog 64 #[.int .u64 n] w fun e w' => e = .returned (Tm n n) ∧ Below w.heap.size w w' := by
  go_enter Tryz.func64, Tryz.ntmps64
  go_wp2
  exact bodyPost_ret (v := Tm n n) (by simp [results, Tryz.results64, go_sem]) rfl ⟨rfl, (Below.refl _ _).alloc (Nat.le_refl _) _⟩
/-- A sum of 64 bits, as it goes round. -/
def rnd (a b : Nat) : Nat := (a + b) % 18446744073709551616
theorem rnd_wrap (a b : Nat) : IntKind.u64.wrap ((a : Int) + (b : Int)) = ((rnd a b : Nat) : Int) := by
  rw [IntKind.wrap_u64]; unfold rnd; omega
theorem rnd_sat {a b : Nat} (ha : a ≤ 18446744073709551615) (hb : b ≤ 18446744073709551615) : (if rnd a b < a then 18446744073709551615 else rnd a b) = sat a b := by
  unfold rnd sat
  split <;> split <;> omega
/-- What a timer is that was asked, and whether it fired. -/
def firA (a n d : Nat) : Nat := if a < n then sat n d else a
def firF (a f n : Nat) : Nat := if a < n then n else f
/-- Two timers' blocks, made one behind the other: what comes in, and an empty one. -/
theorem two_made (T : TypeId) (w : World) (a f : Nat) : TmAt T ((w.alloc (.cells #[.int .u64 a, .int .u64 f] T)).alloc (.cells #[.int .u64 0, .int .u64 0] T)) w.heap.size a f
    ∧ TmAt T ((w.alloc (.cells #[.int .u64 a, .int .u64 f] T)).alloc (.cells #[.int .u64 0, .int .u64 0] T)) (w.heap.size + 1) 0 0
    ∧ Below w.heap.size w ((w.alloc (.cells #[.int .u64 a, .int .u64 f] T)).alloc (.cells #[.int .u64 0, .int .u64 0] T)) := by
  refine ⟨(TmAt.made w T a f).new (below1 _ _), ?_, (below1 w _).alloc (by simp) _⟩
  have h := TmAt.made (w.alloc (.cells #[.int .u64 a, .int .u64 f] T)) T 0 0
  rw [show (w.alloc (.cells #[.int .u64 a, .int .u64 f] T)).heap.size = w.heap.size + 1 by simp] at h
  exact h
end Go.Proofs.YthafnphpcdbnlaaGreat.S8
namespace Go.Proofs.YthafnphpcdbnlaaGreat.S8
open Go.Proofs.YthafnphpcdbnlaaGreat
open Go.RowKit


/-- The literal calls of the chapter's examples. -/
theorem eq24 (a f x y : Nat) (w : World) : (binOp .eql 175 (Tm a f) (Tm x y)).run Tryz.prog w = .ok (.bool (decide (a = x) && decide (f = y))) w := by
  simp [go_sem, Tryz.underlying175]
  by_cases h1 : a = x <;> by_cases h2 : f = y <;> simp [h1, h2] <;> omega
theorem neq24 (a f x y : Nat) (w : World) : (binOp .neq 175 (Tm a f) (Tm x y)).run Tryz.prog w = .ok (.bool (!(decide (a = x) && decide (f = y)))) w := by
  simp [go_sem, Tryz.underlying175]
  by_cases h1 : a = x <;> by_cases h2 : f = y <;> simp [h1, h2] <;> omega
/-- A timer in a block of its own, written in literals. -/
def LitAt (T : TypeId) (w : World) (B : Nat) (a f : Int) : Prop := w.heap[B]? = some (.cells #[.int .u64 a, .int .u64 f] T (0, 0))
section
variable {T : TypeId} {w w' : World} {B : Nat} {a f : Int}
theorem LitAt.lt (h : LitAt T w B a f) : B < w.heap.size := (Array.getElem?_eq_some_iff.1 h).1
theorem LitAt.c0 (h : LitAt T w B a f) : w.cell? ⟨B, 0, none⟩ = some (.int .u64 a) := by simp [World.cell?, show w.heap[B]? = _ from h]
theorem LitAt.c1 (h : LitAt T w B a f) : w.cell? ⟨B, 1, none⟩ = some (.int .u64 f) := by simp [World.cell?, show w.heap[B]? = _ from h]
theorem LitAt.new (h : LitAt T w B a f) (b : Below w.heap.size w w') : LitAt T w' B a f := (b.block B h.lt).trans h
theorem LitAt.made (w : World) (T : TypeId) (a f : Int) : LitAt T (w.alloc (.cells #[.int .u64 a, .int .u64 f] T)) w.heap.size a f :=
  heap_alloc_new w _
end
end Go.Proofs.YthafnphpcdbnlaaGreat.S8
