/- Texts of this seat, one behind the other. -/
import Derived.Test.YtdodloannlfnlaaGreatE10
import Derived.Deep.QuietTactic
import Derived.BigQuiet
import Derived.Laws.StructEq
set_option linter.unusedVariables false
set_option linter.unusedSimpArgs false
namespace Go.Proofs.YtdodloannlfnlaaGreat.S3
open Go.Proofs.YtdodloannlfnlaaGreat
open Go.RowKit

abbrev Pt (B : Nat) : Value := .pointer (some ⟨B, 0, none⟩)
structure Nums (T most : Nat) (D : List Nat) : Prop where
  t : T ≤ 18446744073709551615
  m : most ≤ 18446744073709551615
  len : D.length ≤ 65536
  all : ∀ d ∈ D, d ≤ 18446744073709551615
structure ClockAt (w : World) (base B T most : Nat) (s : Value) (D : List Nat) : Prop where
  nums : Nums T most D
  row : w.heap[B]? = some (.cells #[.int .u64 T, .int .u64 most, s] 193 (0, 0))
  own : Row w base s D
  ne : s.ownBlock ≠ some B
section
variable {w w' : World} {base B T most : Nat} {s : Value} {D : List Nat}
theorem ClockAt.lt (h : ClockAt w base B T most s D) : B < w.heap.size := (Array.getElem?_eq_some_iff.1 h.row).1
theorem ClockAt.kept {S : Nat → Prop} (h : ClockAt w base B T most s D) (t : Turns S w w') (hB : ¬ S B) (hs : ∀ g, s.ownBlock = some g → ¬ S g) : ClockAt w' base B T most s D :=
  ⟨h.nums, (t.block B h.lt hB).trans h.row, h.own.keep t hs, h.ne⟩
theorem now_any (h : ClockAt w base B T most s D) : Calls Tryz.prog 28 #[Pt B] w fun e w' => e = .returned (.int .u64 T) ∧ w = w' := by
  have c0 : w.cell? ⟨B, 0, none⟩ = some (.int .u64 T) := cell_row h.row 0
  clear h
  go_enter Tryz.func28, Tryz.ntmps28
  go_wp2
  go_ret
  exact ⟨rfl, rfl⟩
theorem left_any (h : ClockAt w base B T most s D) : Calls Tryz.prog 67 #[Pt B] w fun e w' => e = .returned (.int .i64 (D.length : Nat)) ∧ w = w' := by
  have c0 : w.cell? ⟨B, 2, none⟩ = some s := cell_row h.row 2
  obtain ⟨A, cap, rfl, _⟩ := h.own
  clear h
  go_enter Tryz.func67, Tryz.ntmps67
  go_wp2
  go_ret
  exact ⟨rfl, rfl⟩
theorem Nums.tick {n : Nat} (h : Nums T most D) : Nums (sat T n) most D := ⟨sat_le _ _, h.m, h.len, h.all⟩
theorem tick_any (h : ClockAt w base B T most s D) (n : Nat) (hn : n ≤ 18446744073709551615) : Calls Tryz.prog 60 #[Pt B, .int .u64 n] w fun e w' => e = .returned (.tuple #[]) ∧ ClockAt w' base B (sat T n) most s D ∧ Turns (fun k => k = B) w w' := by
  have c0 : w.cell? ⟨B, 0, none⟩ = some (.int .u64 T) := cell_row h.row 0
  have f0 : w.frozen? ⟨B, 0, none⟩ = false := froz_row h.row 0
  have hq := fun W => sum_any T n h.nums.t hn W
  have hN := h.nums.tick (n := n)
  have HQ := Lib.hid hq
  have H := Lib.hid h
  have HN := Lib.hid hN
  clear hq hn h hN
  generalize sat T n = x at *
  go_enter Tryz.func60, Tryz.ntmps60
  go_wp2_with (first
    | (go_at_call 99; refine (HQ.out _).mono ?_; rintro e w' ⟨rfl, rfl⟩))
  go_end0
  have t : Turns (fun k => k = B) w (w.setCell ⟨B, 0, none⟩ (.int .u64 x)) := (Turns.refl _ w).setCell _ _ rfl
  exact ⟨rfl, ⟨HN.out, row_set H.out.row 0 _, H.out.own.keep t (fun g hg e => H.out.ne (by rw [hg, e])), H.out.ne⟩, t⟩
end
end Go.Proofs.YtdodloannlfnlaaGreat.S3
