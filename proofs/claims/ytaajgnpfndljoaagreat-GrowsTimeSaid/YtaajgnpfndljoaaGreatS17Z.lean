/- A clock's Now and Tick. -/
import Derived.Test.YtaajgnpfndljoaaGreatE19
import Derived.Deep.QuietTactic
import Derived.BigQuiet
import Derived.Laws.StructEq
set_option linter.unusedVariables false
set_option linter.unusedSimpArgs false
namespace Go.Proofs.YtaajgnpfndljoaaGreat.S3
open Go.Proofs.YtaajgnpfndljoaaGreat
open Go.RowKit

theorem sum_any (a b : Nat) (ha : a ≤ 18446744073709551615) (hb : b ≤ 18446744073709551615) (w : World) : Calls Tryz.prog 18 #[.int .u64 a, .int .u64 b] w fun e w' => e = .returned (.int .u64 (sat a b : Nat)) ∧ w = w' := by
  unfold sat
  by_cases h : a + b ≤ 18446744073709551615
  · rw [if_pos h]
    go_enter Tryz.func18, Tryz.ntmps18
    go_wp2
    go_ret
    exact ⟨rfl, rfl⟩
  · rw [if_neg h]
    go_enter Tryz.func18, Tryz.ntmps18
    go_wp2
    go_ret
    exact ⟨ret_int (by omega), rfl⟩
section
variable {w w' : World} {base B T most : Nat} {s : Value} {D : List Nat}
theorem now_any (h : ClockAt w base B T most s D) : Calls Tryz.prog 104 #[Pt B] w fun e w' => e = .returned (.int .u64 T) ∧ w = w' := by
  have c0 : w.cell? ⟨B, 0, none⟩ = some (.int .u64 T) := cell_row h.row 0
  clear h
  go_enter Tryz.func104, Tryz.ntmps104
  go_wp2
  go_ret
  exact ⟨rfl, rfl⟩
theorem now_nil (w : World) : Calls Tryz.prog 104 #[.pointer none] w fun e w' => e = .returned (.int .u64 0) ∧ w = w' := by
  go_enter Tryz.func104, Tryz.ntmps104
  go_wp2
  go_ret
  exact ⟨rfl, rfl⟩
theorem tick_nil (w : World) (n : Nat) : Calls Tryz.prog 6 #[.pointer none, .int .u64 n] w fun e w' => e = .returned (.tuple #[]) ∧ w = w' := by
  go_enter Tryz.func6, Tryz.ntmps6
  go_wp2
  (try simp only [Exit.inBlock, Exit.then]); refine bodyPost_ret (results_none rfl _ _ _) rfl ?_
  exact ⟨rfl, rfl⟩
theorem tick_any (h : ClockAt w base B T most s D) (n : Nat) (hn : n ≤ 18446744073709551615) : Calls Tryz.prog 6 #[Pt B, .int .u64 n] w fun e w' => e = .returned (.tuple #[]) ∧ ClockAt w' base B (sat T n) most s D ∧ Turns (fun k => k = B) w w' := by
  have c0 : w.cell? ⟨B, 0, none⟩ = some (.int .u64 T) := cell_row h.row 0
  have f0 : w.frozen? ⟨B, 0, none⟩ = false := froz_row h.row 0
  have hq := fun W => sum_any T n h.nums.t hn W
  have hN := h.nums.tick (n := n)
  have HQ := Lib.hid hq
  have H := Lib.hid h
  have HN := Lib.hid hN
  clear hq hn h hN
  generalize sat T n = x at *
  go_enter Tryz.func6, Tryz.ntmps6
  go_wp2_with (first
    | (go_at_call 18; refine (HQ.out _).mono ?_; rintro e w' ⟨rfl, rfl⟩))
  go_end0
  have t : Turns (fun k => k = B) w (w.setCell ⟨B, 0, none⟩ (.int .u64 x)) := (Turns.refl _ w).setCell _ _ rfl
  exact ⟨rfl, ⟨HN.out, row_set H.out.row 0 _, H.out.own.keep t (fun g hg e => H.out.ne (by rw [hg, e])), H.out.ne⟩, t⟩
end
end Go.Proofs.YtaajgnpfndljoaaGreat.S3
