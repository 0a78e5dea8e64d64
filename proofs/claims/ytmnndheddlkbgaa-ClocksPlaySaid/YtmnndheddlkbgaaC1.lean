/- The document's clock in memory. -/
import Derived.Test.YtmnndheddlkbgaaB2
namespace Go.Proofs.Ytmnndheddlkbgaa
open Go.RowKit

structure RefAt (w : World) (base R T most : Nat) (s : Value) (D : List Nat) : Prop where
  nums : Nums T most D
  row : w.heap[R]? = some (.cells #[.int .u64 T, s, .int .u64 most] 50 (0, 0))
  own : Row w base s D
  ne : s.ownBlock ≠ some R
section
variable {w w' : World} {base R T most : Nat} {s : Value} {D : List Nat}
theorem RefAt.lt (h : RefAt w base R T most s D) : R < w.heap.size := (Array.getElem?_eq_some_iff.1 h.row).1
theorem RefAt.kept {S : Nat → Prop} (h : RefAt w base R T most s D) (t : Turns S w w') (hR : ¬ S R) (hs : ∀ g, s.ownBlock = some g → ¬ S g) : RefAt w' base R T most s D :=
  ⟨h.nums, (t.block R h.lt hR).trans h.row, h.own.keep t hs, h.ne⟩
theorem RefAt.new (h : RefAt w base R T most s D) (b : Below w.heap.size w w') : RefAt w' base R T most s D :=
  h.kept (Turns.of_below (S := fun _ => False) b) (fun e => e) (fun _ _ e => e)
theorem rtick_any (h : RefAt w base R T most s D) (n : Nat) (hn : n ≤ 18446744073709551615) : Calls Try.prog 11 #[Pt R, .int .u64 n] w fun e w' => e = .returned (.tuple #[]) ∧ RefAt w' base R (sat T n) most s D ∧ Turns (fun k => k = R) w w' := by
  have c0 : w.cell? ⟨R, 0, none⟩ = some (.int .u64 T) := cell_row h.row 0
  have f0 : w.frozen? ⟨R, 0, none⟩ = false := froz_row h.row 0
  have hq := fun W => plus_any T n h.nums.t hn W
  have hN := h.nums.tick (n := n)
  have HQ := Lib.hid hq
  have H := Lib.hid h
  have HN := Lib.hid hN
  clear hq hn h hN
  generalize sat T n = x at *
  go_enter Try.func11, Try.ntmps11
  go_wp2_with (first
    | (go_at_call 24; refine (HQ.out _).mono ?_; rintro e w' ⟨rfl, rfl⟩))
  go_end0
  have t : Turns (fun k => k = R) w (w.setCell ⟨R, 0, none⟩ (.int .u64 x)) := (Turns.refl _ w).setCell _ _ rfl
  exact ⟨rfl, ⟨HN.out, row_set H.out.row 0 _, H.out.own.keep t (fun g hg e => H.out.ne (by rw [hg, e])), H.out.ne⟩, t⟩
theorem rafter_any (h : RefAt w base R T most s D) (n : Nat) (hn : n ≤ 18446744073709551615) : Calls Try.prog 26 #[Pt R, .int .u64 n] w fun e w' => e = .returned (.agg #[.bool true, .int .u64 (sat T n : Nat)]) ∧ Below w.heap.size w w' := by
  have c0 : (w.alloc (.cells #[.bool false, .int .u64 0] 31)).cell? ⟨R, 0, none⟩ = some (.int .u64 T) := by
    rw [World.cell?_alloc_lt w _ _ h.lt]; exact cell_row h.row 0
  have hq := fun W => plus_any T n h.nums.t hn W
  have hlt := h.lt
  have HQ := Lib.hid hq
  clear hq hn h
  generalize sat T n = x at *
  go_enter Try.func26, Try.ntmps26
  go_wp2_with (first
    | (go_at_call 24; refine (HQ.out _).mono ?_; rintro e w' ⟨rfl, rfl⟩))
  exact bodyPost_ret (v := .agg #[.bool true, .int .u64 x]) (by simp [results, Try.results26, go_sem]) rfl ⟨rfl, (Below.refl _ _).alloc (Nat.le_refl _) _⟩
theorem rcome_any (h : RefAt w base R T most s D) (on : Bool) (at_ : Nat) : Calls Try.prog 27 #[Pt R, .agg #[.bool on, .int .u64 at_]] w fun e w' => e = .returned (.bool (comeB T on at_)) ∧ Below w.heap.size w w' := by
  have c0 : (w.alloc (.cells #[.bool on, .int .u64 at_] 31)).cell? ⟨R, 0, none⟩ = some (.int .u64 T) := by
    rw [World.cell?_alloc_lt w _ _ h.lt]; exact cell_row h.row 0
  have c1 : (w.alloc (.cells #[.bool on, .int .u64 at_] 31)).cell? ⟨w.heap.size, 0, none⟩ = some (.bool on) := by rw [World.cell?_alloc_at _ _ _ _ rfl]; rfl
  have c2 : (w.alloc (.cells #[.bool on, .int .u64 at_] 31)).cell? ⟨w.heap.size, 1, none⟩ = some (.int .u64 at_) := by rw [World.cell?_alloc_at _ _ _ _ rfl]; rfl
  have hb : Below w.heap.size w (w.alloc (.cells #[.bool on, .int .u64 at_] 31)) := (Below.refl _ _).alloc (Nat.le_refl _) _
  have HB := Lib.hid hb
  have hlt := h.lt
  clear h hb
  unfold comeB
  cases on
  · simp only [Bool.false_and]
    go_enter Try.func27, Try.ntmps27
    go_wp2_with fail
    go_quiet (fail)
    go_wp2_with fail
    go_ret
    exact ⟨rfl, HB.out.trans ⟨rfl, rfl, rfl, Nat.le_refl _, fun _ _ => rfl⟩⟩
  · simp only [Bool.true_and]
    go_enter Try.func27, Try.ntmps27
    go_wp2_with fail
    go_quiet (fail)
    go_wp2_with fail
    go_ret
    exact ⟨rfl, HB.out.trans ⟨rfl, rfl, rfl, Nat.le_refl _, fun _ _ => rfl⟩⟩
theorem rdraw_none (h : RefAt w base R T most s []) : Calls Try.prog 13 #[Pt R] w fun e w' => e = .returned (.int .u64 0) ∧ w = w' := by
  have c0 : w.cell? ⟨R, 1, none⟩ = some s := cell_row h.row 1
  obtain ⟨A, cap, rfl, _⟩ := h.own
  simp only [List.length_nil] at c0
  clear h
  go_enter Try.func13, Try.ntmps13
  go_wp2
  go_ret
  exact ⟨rfl, rfl⟩
/-- What the document's clock is behind a call that turned it. -/
def RLeaves (w w' : World) (base R T most : Nat) (s : Value) (D : List Nat) : Prop := ∃ s', RefAt w' base R T most s' D ∧ (∀ g, s'.ownBlock = some g → s.ownBlock = some g ∨ w.heap.size ≤ g) ∧ Turns (fun k => k = R) w w'
set_option maxHeartbeats 1000000 in
set_option maxRecDepth 100000 in
theorem rdraw_some {d : Nat} (h : RefAt w base R T most s (d :: D)) : Calls Try.prog 13 #[Pt R] w fun e w' => e = .returned (.int .u64 (brt d most : Nat)) ∧ RLeaves w w' base R T most s D := by
  have c2 : w.cell? ⟨R, 1, none⟩ = some s := cell_row h.row 1
  have c1 : w.cell? ⟨R, 2, none⟩ = some (.int .u64 most) := cell_row h.row 2
  have f2 : w.frozen? ⟨R, 1, none⟩ = false := froz_row h.row 1
  obtain ⟨g, o, cap, rfl, cg, hc1, hc2, ht⟩ := h.own.tail
  unfold uv at cg
  have hd := h.nums.all d (by simp)
  have hmo := h.nums.m
  have hlen := h.nums.len
  simp only [List.length_cons] at hlen
  unfold maxLen at hc2
  have hc3 : cap ≤ 9223372036854775807 := by omega
  clear hc2
  have t0 : ((D.length : Int) + 1 == 0) = false := by rw [beq_eq_false_iff_ne]; omega
  have H := Lib.hid h; have HT := Lib.hid ht
  clear h ht
  have hfin : ∀ o', Row w base (.slice (some ⟨g, o', none⟩) D.length (cap - 1)) D → RLeaves w (w.setCell ⟨R, 1, none⟩ (.slice (some ⟨g, o', none⟩) D.length (cap - 1))) base R T most (.slice (some ⟨g, o, none⟩) (D.length + 1) cap) D := fun o' hr => by
    have t : Turns (fun k => k = R) w (w.setCell ⟨R, 1, none⟩ (.slice (some ⟨g, o', none⟩) D.length (cap - 1))) := (Turns.refl _ w).setCell _ _ rfl
    have hne : g ≠ R := fun e => H.out.ne (by rw [← e]; rfl)
    refine ⟨_, ⟨⟨H.out.nums.t, H.out.nums.m, by omega, fun x hx => H.out.nums.all x (by simp [hx])⟩, row_set H.out.row 1 _, hr.keep t ?_, ?_⟩, fun g' hg => .inl hg, t⟩
    · intro g' hg e
      have : g = g' := by simpa [Value.ownBlock] using hg
      exact hne (this.trans e)
    · intro e
      exact hne (by simpa [Value.ownBlock] using e)
  have HF := Lib.hid hfin
  clear hfin
  by_cases hmx : most = 18446744073709551615
  · have hbx : brt d most = d := brt_same (by omega)
    rw [hbx]
    have t1 : decide ((most : Int) < 18446744073709551615) = false := by simp; omega
    have TT := Lib.hid t1
    clear hbx hd hmo t1
    by_cases hcap : cap = 1
    · subst hcap
      rw [if_pos rfl] at HT
      obtain rfl : D = [] := List.eq_nil_of_length_eq_zero (by omega)
      clear hmx
      go_enter Try.func13, Try.ntmps13
      go_upto_region 5 with (fail)
      have t1 := TT.out
      go_wp2_with fail
      go_ret
      exact ⟨rfl, HF.out _ HT.out⟩
    · rw [if_neg hcap] at HT
      clear hmx
      go_enter Try.func13, Try.ntmps13
      go_upto_region 5 with (fail)
      have t1 := TT.out
      go_wp2_with fail
      go_ret
      exact ⟨rfl, HF.out _ HT.out⟩
  · have hrem : (d : Int) % ((most : Int) + 1) = ((brt d most : Nat) : Int) := by unfold brt; rw [Int.natCast_emod]; rfl
    have t1 : decide ((most : Int) < 18446744073709551615) = true := by simp; omega
    have t2 : ((most : Int) + 1 == 0) = false := by rw [beq_eq_false_iff_ne]; omega
    have hb : (most : Int) + 1 ≤ 18446744073709551615 := by omega
    have TT := Lib.hid t1; have T2 := Lib.hid t2; have HB := Lib.hid hb
    clear hd hmo t1 t2 hb
    generalize brt d most = x at *
    have HREM := Lib.hid hrem
    clear hrem
    by_cases hcap : cap = 1
    · subst hcap
      rw [if_pos rfl] at HT
      obtain rfl : D = [] := List.eq_nil_of_length_eq_zero (by omega)
      clear hmx
      go_enter Try.func13, Try.ntmps13
      go_upto_region 5 with (fail)
      have t1 := TT.out; have t2 := T2.out; have hb := HB.out
      go_wp2_with fail
      go_ret
      exact ⟨ret_int HREM.out, HF.out _ HT.out⟩
    · rw [if_neg hcap] at HT
      clear hmx
      go_enter Try.func13, Try.ntmps13
      go_upto_region 5 with (fail)
      have t1 := TT.out; have t2 := T2.out; have hb := HB.out
      go_wp2_with fail
      go_ret
      exact ⟨ret_int HREM.out, HF.out _ HT.out⟩
end
end Go.Proofs.Ytmnndheddlkbgaa
