/- GrowsVoid. -/
import Derived.Test.YtdodloannlfnlaaGreatS17J
set_option linter.unusedVariables false
set_option linter.unusedSimpArgs false
namespace Go.Proofs.YtdodloannlfnlaaGreat.S17
open Go.Proofs.YtdodloannlfnlaaGreat Go.Proofs.YtdodloannlfnlaaGreat.S11 Go.Proofs.YtdodloannlfnlaaGreat.S12 Go.Proofs.YtdodloannlfnlaaGreat.S13 Go.Proofs.YtdodloannlfnlaaGreat.S14 Go.Proofs.YtdodloannlfnlaaGreat.S15
open Go.RowKit

theorem lay40 : Lay 40 39 1 8 (.pointer none) := ⟨Tryz.underlying40, info_of (by kernel_rfl), rfl, by decide, by decide⟩
/-- One that is not there, or that nobody began. -/
def VJ (w : World) (v : Value) : Prop := v = .pointer none ∨ ∃ B, v = Pw B ∧ w.heap[B]? = some (.cells (jcs 0 0 (.slice none 0 0)) 38 (0, 0))
theorem VJ.new {w w' : World} {v : Value} (h : VJ w v) (b : Below w.heap.size w w') : VJ w' v := by
  rcases h with h | ⟨B, h, e⟩
  · exact .inl h
  · exact .inr ⟨B, h, (b.block B (Array.getElem?_eq_some_iff.1 e).1).trans e⟩
theorem over_vj {w : World} {v : Value} (h : VJ w v) : Calls Tryz.prog 6 #[v] w fun e w' => e = .returned (.bool true) ∧ w = w' := by
  rcases h with rfl | ⟨B, rfl, hb⟩
  · exact jover_nil w
  · have c2 : w.cell? ⟨B, 2, none⟩ = some (.slice none 0 0) := cell_row hb 2
    clear hb
    go_enter Tryz.func6, Tryz.ntmps6
    go_wp2_with fail
    go_ret
    exact ⟨rfl, rfl⟩
theorem step_vj {w : World} {v : Value} (h : VJ w v) (x : Option Addr) : Calls Tryz.prog 7 #[v, .pointer x] w fun e w' => e = .returned (.bool true) ∧ w = w' := by
  have HO := Lib.hid (over_vj h)
  clear h
  go_enter Tryz.func7, Tryz.ntmps7
  go_wp2_with (go_at_call 6; refine HO.out.mono ?_; rintro e w' ⟨rfl, rfl⟩)
  go_ret
  exact ⟨rfl, rfl⟩
/-- One that just begins, without a world. -/
def FJ (w : World) (B : Nat) : Prop := ∃ s t b, w.heap[B]? = some (.cells (jcs t b (.slice s 2 2)) 38 (0, 0))
theorem over_fj {w : World} {B : Nat} (h : FJ w B) : Calls Tryz.prog 6 #[Pw B] w fun e w' => e = .returned (.bool false) ∧ w = w' := by
  obtain ⟨s, t, b, hb⟩ := h
  have c2 : w.cell? ⟨B, 2, none⟩ = some (.slice s 2 2) := cell_row hb 2
  clear hb
  go_enter Tryz.func6, Tryz.ntmps6
  go_wp2_with fail
  go_ret
  exact ⟨rfl, rfl⟩
theorem step_fj {w : World} {B : Nat} (h : FJ w B) : Calls Tryz.prog 7 #[Pw B, .pointer none] w fun e w' => e = .returned (.bool false) ∧ w = w' := by
  have HO := Lib.hid (over_fj h)
  clear h
  go_enter Tryz.func7, Tryz.ntmps7
  go_wp2_with (go_at_call 6; refine HO.out.mono ?_; rintro e w' ⟨rfl, rfl⟩)
  go_ret
  exact ⟨rfl, rfl⟩
theorem newj_no (t : Int) (h : t < 0 ∨ 64 ≤ t) (w : World) : Calls Tryz.prog 5 #[.int .i64 t] w fun e w' => e = .returned (Pw w.heap.size) ∧ w' = w.alloc (.cells (jcs 0 0 (.slice none 0 0)) 38) := by
  by_cases h0 : t < 0
  · have d0 : decide (t < 0) = true := decide_eq_true h0
    clear h
    go_enter Tryz.func5, Tryz.ntmps5
    go_wp2_with fail
    go_ret
    exact ⟨rfl, rfl⟩
  · have d0 : decide (t < 0) = false := decide_eq_false h0
    have d1 : decide (64 ≤ t) = true := decide_eq_true (by omega)
    clear h
    go_enter Tryz.func5, Tryz.ntmps5
    go_wp2_with fail
    go_ret
    exact ⟨rfl, rfl⟩
theorem newj_yes (w : World) : Calls Tryz.prog 5 #[.int .i64 1] w fun e w' => e = .returned (Pw (w.heap.size + 1)) ∧ FJ w' (w.heap.size + 1) ∧ Below w.heap.size w w' := by
  have hb := (below1 w (.cells #[countV, lookV] 96)).trans ((below1 (w.alloc (.cells #[countV, lookV] 96)) (.cells (jcs 1 0 (.slice (some ⟨w.heap.size, 0, none⟩) 2 2)) 38)).mono (by simp))
  have hr := heap_alloc_new (w.alloc (.cells #[countV, lookV] 96)) (.cells (jcs 1 0 (.slice (some ⟨w.heap.size, 0, none⟩) 2 2)) 38)
  rw [alloc_size] at hr
  have HB := Lib.hid hb; have HR := Lib.hid hr
  clear hb hr
  go_enter Tryz.func5, Tryz.ntmps5
  go_wp2_with fail
  go_ret
  exact ⟨by simp, ⟨_, _, _, HR.out⟩, HB.out⟩
/-- A list of such. -/
structure VL (w : World) (s : Value) (n : Nat) : Prop where
  at_ : ∃ A o c, s = .slice (some ⟨A, o, none⟩) n c ∧ ∀ i, i < n → ∃ v, w.cell? ⟨A, o + i, none⟩ = some v ∧ VJ w v ∧ A < w.heap.size
  few : n ≤ 3
theorem VL.new {w w' : World} {s : Value} {n : Nat} (h : VL w s n) (b : Below w.heap.size w w') : VL w' s n := by
  obtain ⟨⟨A, o, c, e, h2⟩, hf⟩ := h
  refine ⟨⟨A, o, c, e, fun i hi => ?_⟩, hf⟩
  obtain ⟨v, h3, h4, h5⟩ := h2 i hi
  exact ⟨v, (b.cell (p := ⟨A, o + i, none⟩) h5).trans h3, h4.new b, Nat.lt_of_lt_of_le h5 b.size⟩
end Go.Proofs.YtdodloannlfnlaaGreat.S17
