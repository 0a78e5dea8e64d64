/- The program's clock and the document's, side by side. -/
import Derived.Test.YtmnndheddlkbgaaC2
namespace Go.Proofs.Ytmnndheddlkbgaa
open Go.RowKit

/-- Blocks of two lists that are none of each other's. -/
structure Apart (B R : Nat) (s s2 : Value) : Prop where
  ne : R ≠ B
  sr : s.ownBlock ≠ some R
  rb : s2.ownBlock ≠ some B
  ss : ∀ g, s.ownBlock = some g → s2.ownBlock ≠ some g
/-- The blocks of both. -/
def Foot (B R : Nat) (s s2 : Value) (k : Nat) : Prop := k = B ∨ k = R ∨ s.ownBlock = some k ∨ s2.ownBlock = some k
section
/-- Of both together, what is told. -/
theorem same_keep {w w' : World} {R X T N at_ : Nat} {on : Bool} {A0 : Option Addr} {n cap : Nat} {w1 : World} (hb : Below w.heap.size w w') (hR : R < w1.heap.size) (hX : X < w1.heap.size)
    (h : w.cell? ⟨R, 0, none⟩ = some (.int .u64 T) ∧ w.cell? ⟨R, 1, none⟩ = some (.slice A0 n cap) ∧ w.cell? ⟨X, 1, none⟩ = some (.int .u64 N) ∧ w.cell? ⟨X, 2, none⟩ = some (.bool on) ∧ w.cell? ⟨X, 3, none⟩ = some (.int .u64 at_) ∧ Below w1.heap.size w1 w) :
    w'.cell? ⟨R, 0, none⟩ = some (.int .u64 T) ∧ w'.cell? ⟨R, 1, none⟩ = some (.slice A0 n cap) ∧ w'.cell? ⟨X, 1, none⟩ = some (.int .u64 N) ∧ w'.cell? ⟨X, 2, none⟩ = some (.bool on) ∧ w'.cell? ⟨X, 3, none⟩ = some (.int .u64 at_) ∧ Below w1.heap.size w1 w' := by
  obtain ⟨c0, c1, c2, c3, c4, hl⟩ := h
  have hr : R < w.heap.size := Nat.lt_of_lt_of_le hR hl.size
  have hx : X < w.heap.size := Nat.lt_of_lt_of_le hX hl.size
  exact ⟨(hb.cell (by exact hr)).trans c0, (hb.cell (by exact hr)).trans c1, (hb.cell (by exact hx)).trans c2, (hb.cell (by exact hx)).trans c3, (hb.cell (by exact hx)).trans c4, hl.trans (hb.mono hl.size)⟩
end
end Go.Proofs.Ytmnndheddlkbgaa
