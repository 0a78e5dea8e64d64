/- The document's set: there, Queue, Timer. -/
import Derived.Test.YtcdoklgjicfkmaaU1
namespace Go.Proofs.Ytcdoklgjicfkmaa
open Go.RowKit

theorem below_drewN (w : World) (n : Nat) : Below w.heap.size w (w.drewN n) := ⟨rfl, rfl, rfl, Nat.le_refl _, fun _ _ => rfl⟩
/-- Is there such a bucket? -/
def thereB (M : Int → List Bk) (b i : Int) : Bool := decide (0 ≤ i) && decide (i < ((M b).length : Int))
section
variable {w : World} {base : Nat} {own : Nat → Option Role} {s : Value} {M : Int → List Bk}
theorem there_any (h : Rt w base own s M) (b i : Int) : Calls Try.prog 52 #[s, .agg #[.int .i64 b, .int .i64 i]] w fun e w' => e = .returned (.bool (thereB M b i)) ∧ Below w.heap.size w w' := by
  have HH := Lib.hid (fun W hb => rhas_any (h.new (w' := W) hb) b)
  unfold thereB
  by_cases h0 : M b = []
  · rw [h0]
    have e0 : (decide (0 ≤ i) && decide (i < (([] : List Bk).length : Int))) = false := by
      by_cases hi : 0 ≤ i
      · have : ¬ i < 0 := by omega
        simp [this]
      · simp [hi]
    rw [e0]
    have hd : decide (0 < (M b).length) = false := by rw [h0]; decide
    rw [hd] at HH
    clear h h0 hd e0
    go_enter Try.func52, Try.ntmps52
    go_upto_region 1 with (fail)
    have hb1 := below1 w (.cells #[.int .i64 b, .int .i64 i] 79)
    have hnew := heap_alloc_new w (.cells #[.int .i64 b, .int .i64 i] 79)
    have c0 := cell_row hnew 0; have c1 := cell_row hnew 1
    generalize hw1 : w.alloc (.cells #[.int .i64 b, .int .i64 i] 79) = w1 at *
    have HB := Lib.hid hb1
    clear hnew hb1 hw1
    have c0' : w1.cell? ⟨w.heap.size, 0, none⟩ = some (.int .i64 b) := c0
    have c1' : w1.cell? ⟨w.heap.size, 1, none⟩ = some (.int .i64 i) := c1
    clear c0 c1
    go_quiet ((go_at_call 39; refine Calls.quiet_of_same ((HH.out _ (HB.out.trans ((below_drewN w1 _).mono HB.out.size))).mono fun _ _ h => ⟨h.1, h.2.symm⟩)))
    go_wp2_with fail
    go_ret
    exact ⟨rfl, HB.out.trans ((below_drewN w1 nq).mono HB.out.size)⟩
  · have hd : decide (0 < (M b).length) = true := by simpa using List.length_pos_iff.2 h0
    rw [hd] at HH
    obtain ⟨rb, Q, T, V, hf⟩ := h
    obtain ⟨k, rfl, hk2, hk9⟩ := hf.nat h0
    obtain rfl := hf.hs
    obtain ⟨A, c, e, h2, h3⟩ := (hf.ht k hk9).shape
    have hc := (hf.hT k hk9).1
    rw [e] at hc
    have hrl := (hf.fp rb _ hf.os).2
    generalize (M (k : Int)).length = m at *
    clear hf e h0 hd
    by_cases h0 : 0 ≤ i
    · have d0 : decide (0 ≤ i) = true := by simpa using h0
      rw [d0]
      simp only [Bool.true_and]
      go_enter Try.func52, Try.ntmps52
      go_upto_region 1 with (fail)
      have hb1 := below1 w (.cells #[.int .i64 (k : Int), .int .i64 i] 79)
      have hnew := heap_alloc_new w (.cells #[.int .i64 (k : Int), .int .i64 i] 79)
      have c0 := cell_row hnew 0; have c1 := cell_row hnew 1
      have hc1 := (hb1.cell (p := ⟨rb, 9 + k, none⟩) hrl).trans hc
      generalize hw1 : w.alloc (.cells #[.int .i64 (k : Int), .int .i64 i] 79) = w1 at *
      have HB := Lib.hid hb1
      clear hnew hb1 hw1
      have c0' : w1.cell? ⟨w.heap.size, 0, none⟩ = some (.int .i64 (k : Int)) := c0
      have c1' : w1.cell? ⟨w.heap.size, 1, none⟩ = some (.int .i64 i) := c1
      clear c0 c1
      go_quiet ((go_at_call 39; refine Calls.quiet_of_same ((HH.out _ (HB.out.trans ((below_drewN w1 _).mono HB.out.size))).mono fun _ _ h => ⟨h.1, h.2.symm⟩)))
      go_wp2_with fail
      go_ret
      exact ⟨rfl, HB.out.trans ((below_drewN w1 nq).mono HB.out.size)⟩
    · have d0 : decide (0 ≤ i) = false := by simpa using h0
      rw [d0]
      simp only [Bool.false_and]
      go_enter Try.func52, Try.ntmps52
      go_upto_region 1 with (fail)
      have hb1 := below1 w (.cells #[.int .i64 (k : Int), .int .i64 i] 79)
      have hnew := heap_alloc_new w (.cells #[.int .i64 (k : Int), .int .i64 i] 79)
      have c0 := cell_row hnew 0; have c1 := cell_row hnew 1
      generalize hw1 : w.alloc (.cells #[.int .i64 (k : Int), .int .i64 i] 79) = w1 at *
      have HB := Lib.hid hb1
      clear hnew hb1 hw1
      have c0' : w1.cell? ⟨w.heap.size, 0, none⟩ = some (.int .i64 (k : Int)) := c0
      have c1' : w1.cell? ⟨w.heap.size, 1, none⟩ = some (.int .i64 i) := c1
      clear c0 c1
      go_quiet ((go_at_call 39; refine Calls.quiet_of_same ((HH.out _ (HB.out.trans ((below_drewN w1 _).mono HB.out.size))).mono fun _ _ h => ⟨h.1, h.2.symm⟩)))
      go_wp2_with fail
      go_ret
      exact ⟨rfl, HB.out.trans ((below_drewN w1 nq).mono HB.out.size)⟩
end
end Go.Proofs.Ytcdoklgjicfkmaa
