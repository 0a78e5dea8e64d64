/- Clocks in memory: the tick, deadlines, how many are left; the tick goes on; one is drawn. -/
import Derived.Test.YtmnndheddlkbgaaA3
import Derived.Deep.QuietTactic
import Derived.BigQuiet
import Derived.Laws.StructEq
namespace Go.Proofs.Ytmnndheddlkbgaa
open Go.RowKit

abbrev Pt (B : Nat) : Value := .pointer (some ⟨B, 0, none⟩)
/-- Numbers that are numbers of 64 bits, and not too many. -/
structure Nums (T most : Nat) (D : List Nat) : Prop where
  t : T ≤ 18446744073709551615
  m : most ≤ 18446744073709551615
  len : D.length ≤ 65536
  all : ∀ d ∈ D, d ≤ 18446744073709551615
structure ClockAt (w : World) (base B T most : Nat) (s : Value) (D : List Nat) : Prop where
  nums : Nums T most D
  row : w.heap[B]? = some (.cells #[.int .u64 T, .int .u64 most, s] 43 (0, 0))
  own : Row w base s D
  ne : s.ownBlock ≠ some B
section
variable {w w' : World} {base B T most : Nat} {s : Value} {D : List Nat}
theorem ClockAt.lt (h : ClockAt w base B T most s D) : B < w.heap.size := (Array.getElem?_eq_some_iff.1 h.row).1
theorem ClockAt.kept {S : Nat → Prop} (h : ClockAt w base B T most s D) (t : Turns S w w') (hB : ¬ S B) (hs : ∀ g, s.ownBlock = some g → ¬ S g) : ClockAt w' base B T most s D :=
  ⟨h.nums, (t.block B h.lt hB).trans h.row, h.own.keep t hs, h.ne⟩
theorem ClockAt.new (h : ClockAt w base B T most s D) (b : Below w.heap.size w w') : ClockAt w' base B T most s D :=
  h.kept (Turns.of_below (S := fun _ => False) b) (fun e => e) (fun _ _ e => e)
theorem now_any (h : ClockAt w base B T most s D) : Calls Try.prog 17 #[Pt B] w fun e w' => e = .returned (.int .u64 T) ∧ w = w' := by
  have c0 : w.cell? ⟨B, 0, none⟩ = some (.int .u64 T) := cell_row h.row 0
  clear h
  go_enter Try.func17, Try.ntmps17
  go_wp2
  go_ret
  exact ⟨rfl, rfl⟩
theorem now_nil (w : World) : Calls Try.prog 17 #[.pointer none] w fun e w' => e = .returned (.int .u64 0) ∧ w = w' := by
  go_enter Try.func17, Try.ntmps17
  go_wp2
  go_ret
  exact ⟨rfl, rfl⟩
theorem left_any (h : ClockAt w base B T most s D) : Calls Try.prog 20 #[Pt B] w fun e w' => e = .returned (.int .i64 (D.length : Nat)) ∧ w = w' := by
  have c0 : w.cell? ⟨B, 2, none⟩ = some s := cell_row h.row 2
  obtain ⟨A, cap, rfl, _⟩ := h.own
  clear h
  go_enter Try.func20, Try.ntmps20
  go_wp2
  go_ret
  exact ⟨rfl, rfl⟩
theorem left_nil (w : World) : Calls Try.prog 20 #[.pointer none] w fun e w' => e = .returned (.int .i64 0) ∧ w = w' := by
  go_enter Try.func20, Try.ntmps20
  go_wp2
  go_ret
  exact ⟨rfl, rfl⟩
theorem after_any (h : ClockAt w base B T most s D) (n : Nat) (hn : n ≤ 18446744073709551615) : Calls Try.prog 18 #[Pt B, .int .u64 n] w fun e w' => e = .returned (.agg #[.bool true, .int .u64 (sat T n : Nat)]) ∧ Below w.heap.size w w' := by
  have c0 : (w.alloc (.cells #[.bool false, .int .u64 0] 31)).cell? ⟨B, 0, none⟩ = some (.int .u64 T) := by
    rw [World.cell?_alloc_lt w _ _ h.lt]; exact cell_row h.row 0
  have hq := fun W => sum_any T n h.nums.t hn W
  have hlt := h.lt
  have HQ := Lib.hid hq
  clear hq hn h
  generalize sat T n = x at *
  go_enter Try.func18, Try.ntmps18
  go_wp2_with (first
    | (go_at_call 23; refine (HQ.out _).mono ?_; rintro e w' ⟨rfl, rfl⟩))
  exact bodyPost_ret (v := .agg #[.bool true, .int .u64 x]) (by simp [results, Try.results18, go_sem]) rfl ⟨rfl, (Below.refl _ _).alloc (Nat.le_refl _) _⟩
theorem after_nil (w : World) (n : Nat) : Calls Try.prog 18 #[.pointer none, .int .u64 n] w fun e w' => e = .returned (.agg #[.bool false, .int .u64 0]) ∧ Below w.heap.size w w' := by
  go_enter Try.func18, Try.ntmps18
  go_wp2
  exact bodyPost_ret (v := .agg #[.bool false, .int .u64 0]) (by simp [results, Try.results18, go_sem]) rfl ⟨rfl, (Below.refl _ _).alloc (Nat.le_refl _) _⟩
def comeB (T : Nat) (on : Bool) (at_ : Nat) : Bool := on && decide (at_ ≤ T)
theorem come_any (h : ClockAt w base B T most s D) (on : Bool) (at_ : Nat) : Calls Try.prog 19 #[Pt B, .agg #[.bool on, .int .u64 at_]] w fun e w' => e = .returned (.bool (comeB T on at_)) ∧ Below w.heap.size w w' := by
  have c0 : (w.alloc (.cells #[.bool on, .int .u64 at_] 31)).cell? ⟨B, 0, none⟩ = some (.int .u64 T) := by
    rw [World.cell?_alloc_lt w _ _ h.lt]; exact cell_row h.row 0
  have c1 : (w.alloc (.cells #[.bool on, .int .u64 at_] 31)).cell? ⟨w.heap.size, 0, none⟩ = some (.bool on) := by rw [World.cell?_alloc_at _ _ _ _ rfl]; rfl
  have c2 : (w.alloc (.cells #[.bool on, .int .u64 at_] 31)).cell? ⟨w.heap.size, 1, none⟩ = some (.int .u64 at_) := by rw [World.cell?_alloc_at _ _ _ _ rfl]; rfl
  have hb : Below w.heap.size w (w.alloc (.cells #[.bool on, .int .u64 at_] 31)) := (Below.refl _ _).alloc (Nat.le_refl _) _
  have HB := Lib.hid hb
  have hlt := h.lt
  clear h hb
  unfold comeB
  cases on
  · simp only [Bool.false_and]
    go_enter Try.func19, Try.ntmps19
    go_wp2_with fail
    go_quiet (fail)
    go_wp2_with fail
    go_ret
    exact ⟨rfl, HB.out.trans ⟨rfl, rfl, rfl, Nat.le_refl _, fun _ _ => rfl⟩⟩
  · simp only [Bool.true_and]
    go_enter Try.func19, Try.ntmps19
    go_wp2_with fail
    go_quiet (fail)
    go_wp2_with fail
    go_ret
    exact ⟨rfl, HB.out.trans ⟨rfl, rfl, rfl, Nat.le_refl _, fun _ _ => rfl⟩⟩
theorem come_nil (w : World) (on : Bool) (at_ : Nat) : Calls Try.prog 19 #[.pointer none, .agg #[.bool on, .int .u64 at_]] w fun e w' => e = .returned (.bool false) ∧ Below w.heap.size w w' := by
  have hb : Below w.heap.size w (w.alloc (.cells #[.bool on, .int .u64 at_] 31)) := (Below.refl _ _).alloc (Nat.le_refl _) _
  have HB := Lib.hid hb
  clear hb
  go_enter Try.func19, Try.ntmps19
  go_wp2_with fail
  go_quiet (fail)
  go_wp2_with fail
  go_ret
  exact ⟨rfl, HB.out.trans ⟨rfl, rfl, rfl, Nat.le_refl _, fun _ _ => rfl⟩⟩
theorem tick_nil (w : World) (n : Nat) : Calls Try.prog 10 #[.pointer none, .int .u64 n] w fun e w' => e = .returned (.tuple #[]) ∧ w = w' := by
  go_enter Try.func10, Try.ntmps10
  go_wp2
  (try simp only [Exit.inBlock, Exit.then]); refine bodyPost_ret (results_none rfl _ _ _) rfl ?_
  exact ⟨rfl, rfl⟩
theorem Nums.tick {n : Nat} (h : Nums T most D) : Nums (sat T n) most D := ⟨sat_le _ _, h.m, h.len, h.all⟩
theorem tick_any (h : ClockAt w base B T most s D) (n : Nat) (hn : n ≤ 18446744073709551615) : Calls Try.prog 10 #[Pt B, .int .u64 n] w fun e w' => e = .returned (.tuple #[]) ∧ ClockAt w' base B (sat T n) most s D ∧ Turns (fun k => k = B) w w' := by
  have c0 : w.cell? ⟨B, 0, none⟩ = some (.int .u64 T) := cell_row h.row 0
  have f0 : w.frozen? ⟨B, 0, none⟩ = false := froz_row h.row 0
  have hq := fun W => sum_any T n h.nums.t hn W
  have hN := h.nums.tick (n := n)
  have HQ := Lib.hid hq
  have H := Lib.hid h
  have HN := Lib.hid hN
  clear hq hn h hN
  generalize sat T n = x at *
  go_enter Try.func10, Try.ntmps10
  go_wp2_with (first
    | (go_at_call 23; refine (HQ.out _).mono ?_; rintro e w' ⟨rfl, rfl⟩))
  go_end0
  have t : Turns (fun k => k = B) w (w.setCell ⟨B, 0, none⟩ (.int .u64 x)) := (Turns.refl _ w).setCell _ _ rfl
  exact ⟨rfl, ⟨HN.out, row_set H.out.row 0 _, H.out.own.keep t (fun g hg e => H.out.ne (by rw [hg, e])), H.out.ne⟩, t⟩
theorem draw_nil (w : World) : Calls Try.prog 12 #[.pointer none] w fun e w' => e = .returned (.int .u64 0) ∧ w = w' := by
  go_enter Try.func12, Try.ntmps12
  go_wp2
  go_ret
  exact ⟨rfl, rfl⟩
theorem draw_none (h : ClockAt w base B T most s []) : Calls Try.prog 12 #[Pt B] w fun e w' => e = .returned (.int .u64 0) ∧ w = w' := by
  have c0 : w.cell? ⟨B, 2, none⟩ = some s := cell_row h.row 2
  obtain ⟨A, cap, rfl, _⟩ := h.own
  simp only [List.length_nil] at c0
  clear h
  go_enter Try.func12, Try.ntmps12
  go_wp2
  go_ret
  exact ⟨rfl, rfl⟩
/-- What a clock is behind a draw. -/
def Drawn (w w' : World) (base B T most : Nat) (s : Value) (D : List Nat) : Prop := ∃ s', ClockAt w' base B T most s' D ∧ s'.ownBlock = s.ownBlock ∧ Turns (fun k => k = B) w w'
theorem draw_some {d : Nat} (h : ClockAt w base B T most s (d :: D)) : Calls Try.prog 12 #[Pt B] w fun e w' => e = .returned (.int .u64 (brt d most : Nat)) ∧ Drawn w w' base B T most s D := by
  have c2 : w.cell? ⟨B, 2, none⟩ = some s := cell_row h.row 2
  have c1 : w.cell? ⟨B, 1, none⟩ = some (.int .u64 most) := cell_row h.row 1
  have f2 : w.frozen? ⟨B, 2, none⟩ = false := froz_row h.row 2
  obtain ⟨g, o, cap, rfl, cg, hc1, hc2, ht⟩ := h.own.tail
  unfold uv at cg
  have hq := fun W => brought_any d most (h.nums.all d (by simp)) h.nums.m W
  have hlen := h.nums.len
  simp only [List.length_cons] at hlen
  unfold maxLen at hc2
  have H := Lib.hid h; have HQ := Lib.hid hq; have HT := Lib.hid ht
  clear h hq ht
  generalize brt d most = x at *
  have hfin : ∀ o', Row w base (.slice (some ⟨g, o', none⟩) D.length (cap - 1)) D → Drawn w (w.setCell ⟨B, 2, none⟩ (.slice (some ⟨g, o', none⟩) D.length (cap - 1))) base B T most (.slice (some ⟨g, o, none⟩) (D.length + 1) cap) D := fun o' hr => by
    have t : Turns (fun k => k = B) w (w.setCell ⟨B, 2, none⟩ (.slice (some ⟨g, o', none⟩) D.length (cap - 1))) := (Turns.refl _ w).setCell _ _ rfl
    have hne : g ≠ B := fun e => H.out.ne (by rw [← e]; rfl)
    refine ⟨_, ⟨⟨H.out.nums.t, H.out.nums.m, by omega, fun x hx => H.out.nums.all x (by simp [hx])⟩, row_set H.out.row 2 _, hr.keep t ?_, ?_⟩, rfl, t⟩
    · intro g' hg e
      have : g = g' := by simpa [Value.ownBlock] using hg
      exact hne (this.trans e)
    · intro e
      exact hne (by simpa [Value.ownBlock] using e)
  have HF := Lib.hid hfin
  clear hfin
  by_cases hcap : cap = 1
  · subst hcap
    rw [if_pos rfl] at HT
    obtain rfl : D = [] := List.eq_nil_of_length_eq_zero (by omega)
    go_enter Try.func12, Try.ntmps12
    go_wp2_with (first
      | (go_at_call 25; refine (HQ.out _).mono ?_; rintro e w' ⟨rfl, rfl⟩))
    go_ret
    exact ⟨rfl, HF.out _ HT.out⟩
  · rw [if_neg hcap] at HT
    go_enter Try.func12, Try.ntmps12
    go_wp2_with (first
      | (go_at_call 25; refine (HQ.out _).mono ?_; rintro e w' ⟨rfl, rfl⟩))
    go_ret
    exact ⟨rfl, HF.out _ HT.out⟩
end
end Go.Proofs.Ytmnndheddlkbgaa
