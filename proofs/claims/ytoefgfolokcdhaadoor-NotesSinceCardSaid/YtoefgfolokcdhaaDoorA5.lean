/- Lists of notes: a box that holds a slice; the program's small calls. -/
import Derived.Test.YtoefgfolokcdhaaDoorA4
namespace Go.Proofs.YtoefgfolokcdhaaDoor
open Go.RowKit

abbrev Pt (B : Nat) : Value := .pointer (some ⟨B, 0, none⟩)
/-- A list of notes: a block with a slice, the slice's own memory beside it. -/
structure LAt (T : Nat) (K : IntKind) (w : World) (base p : Nat) (s : Value) (D : List Nt) : Prop where
  box : w.heap[p]? = some (.cells #[s] T (0, 0))
  own : Row w base 7 s D.length (flat K D)
  ne : s.ownBlock ≠ some p
  low : base ≤ p
section
variable {T : Nat} {K : IntKind} {w w' : World} {base p : Nat} {s : Value} {D : List Nt}
theorem LAt.lt (h : LAt T K w base p s D) : p < w.heap.size := (Array.getElem?_eq_some_iff.1 h.box).1
theorem LAt.kept {S : Nat → Prop} (h : LAt T K w base p s D) (t : Turns S w w') (hp : ¬ S p) (hs : ∀ g, s.ownBlock = some g → ¬ S g) : LAt T K w' base p s D :=
  ⟨(t.block p h.lt hp).trans h.box, h.own.keep t hs, h.ne, h.low⟩
theorem LAt.new (h : LAt T K w base p s D) (b : Below w.heap.size w w') : LAt T K w' base p s D :=
  h.kept (Turns.of_below (S := fun _ => False) b) (fun e => e) (fun _ _ e => e)
theorem LAt.drew (h : LAt T K w base p s D) : LAt T K w.drew base p s D := ⟨h.box, h.own.drew, h.ne, h.low⟩
theorem LAt.cell (h : LAt T K w base p s D) : w.cell? ⟨p, 0, none⟩ = some s := cell_row h.box 0
theorem LAt.froz (h : LAt T K w base p s D) : w.frozen? ⟨p, 0, none⟩ = false := froz_row h.box 0
theorem LAt.first (T : Nat) (K : IntKind) (w : World) : LAt T K (w.alloc (.cells #[.slice none 0 0] T)) w.heap.size w.heap.size (.slice none 0 0) [] :=
  ⟨heap_alloc_new _ _, row_nil _ _ _, by simp [Value.ownBlock], Nat.le_refl _⟩
end
theorem new_any (w : World) : Calls Tryd.prog 8 #[] w fun e w' => e = .returned (Pt w.heap.size) ∧ LAt 52 .u8 w' w.heap.size w.heap.size (.slice none 0 0) [] ∧ Below w.heap.size w w' := by
  go_enter Tryd.func8, Tryd.ntmps8
  go_wp2
  go_ret
  exact ⟨rfl, LAt.first _ _ _, (Below.refl _ _).alloc (Nat.le_refl _) _⟩
theorem count_any {w : World} {base p : Nat} {s : Value} {D : List Nt} (h : LAt 52 .u8 w base p s D) : Calls Tryd.prog 12 #[Pt p] w fun e w' => e = .returned (.int .i64 (D.length : Nat)) ∧ w = w' := by
  have c0 := h.cell
  obtain ⟨A, cap, rfl, _⟩ := h.own
  clear h
  go_enter Tryd.func12, Tryd.ntmps12
  go_wp2
  go_ret
  exact ⟨rfl, rfl⟩
theorem count_nil (w : World) : Calls Tryd.prog 12 #[.pointer none] w fun e w' => e = .returned (.int .i64 0) ∧ w = w' := by
  go_enter Tryd.func12, Tryd.ntmps12
  go_wp2
  go_ret
  exact ⟨rfl, rfl⟩
/-- Is a step below the last note's? -/
def fallsB (D : List Nt) (x : Int) : Bool := decide (0 < D.length) && decide (x < D[D.length - 1]!.s)
set_option maxHeartbeats 1000000 in
theorem falls_any {w : World} {base p : Nat} {s : Value} {D : List Nt} (h : LAt 52 .u8 w base p s D) (hlen : D.length ≤ 1000000) (x : Int) : Calls Tryd.prog 21 #[Pt p, .int .i64 x] w fun e w' => e = .returned (.bool (fallsB D x)) ∧ w = w' := by
  have c0 := h.cell
  obtain ⟨A, cap, hs, hcap, hc9⟩ := h.own.shape
  subst hs
  have hrd := h.own.rd
  clear h
  by_cases hn : D.length = 0
  · have e1 : fallsB D x = false := by simp [fallsB, hn]
    rw [e1]
    rw [hn] at c0
    go_enter Tryd.func21, Tryd.ntmps21
    go_wp2
    go_ret
    exact ⟨rfl, rfl⟩
  · obtain ⟨g, o, rfl, hg, hN⟩ := hrd.note (i := D.length - 1) (by omega)
    have d0 := hN.c0
    have hwr : IntKind.i64.wrap ((D.length : Int) - 1) = ((D.length - 1 : Nat) : Int) := by rw [IntKind.wrap_i64]; omega
    have hge : (0 : Int) ≤ ((D.length - 1 : Nat) : Int) := by omega
    have hlt : ((D.length - 1 : Nat) : Int) < (D.length : Int) := by omega
    clear hrd hN hg
    have e1 : fallsB D x = decide (x < D[D.length - 1]!.s) := by simp [fallsB]; omega
    rw [e1]
    generalize D[D.length - 1]!.s = y at *
    go_enter Tryd.func21, Tryd.ntmps21

    go_wp2
    go_ret
    exact ⟨rfl, rfl⟩
end Go.Proofs.YtoefgfolokcdhaaDoor
