/- Timers: how the document's fires; the chapter's examples. -/
import Derived.Test.YtmmpbehgcejfaaaA1
namespace Go.Proofs.Ytmmpbehgcejfaaa
open Go.RowKit

theorem rfire_any (a f n d : Nat) (hn : n ≤ 18446744073709551615) (hd : d ≤ 18446744073709551615) (w : World) : Calls Try.prog 7 #[Tm a f, .int .u64 n, .int .u64 d] w fun e w' => e = .returned (.tuple #[Tm (firA a n d) (firF a f n), .bool (decide (a < n))]) ∧ Below w.heap.size w w' := by
  have q := rdue_any a f n
  have hr := rnd_wrap n d
  have hs := rnd_sat hn hd
  unfold firA firF
  have Q := Lib.hid q
  clear q
  generalize sat n d = s at *
  generalize rnd n d = t at *
  clear hn hd
  obtain ⟨a1, a2, hb⟩ := two_made 27 w a f
  have hB : w.heap.size ≤ w.heap.size + 1 := Nat.le_succ _
  by_cases h : a < n
  · rw [if_pos h, if_pos h]
    rw [decide_eq_true h] at Q ⊢
    clear h
    by_cases g : t < n
    · rw [if_pos g] at hs
      subst hs
      go_enter Try.func7, Try.ntmps7
      go_upto_region 1 with (fail)
      generalize (w.alloc (.cells #[.int .u64 a, .int .u64 f] 27)).alloc (.cells #[.int .u64 0, .int .u64 0] 27) = w1 at *
      have c0 := a1.c0; have c1 := a1.c1
      have A2 := Lib.hid a2; have HB := Lib.hid hb
      clear a1 a2 hb
      go_wp2_with fail
      refine (Q.out _).mono ?_
      rintro e w2 ⟨rfl, b2⟩
      have a4 := A2.out.new b2
      have HB2 := Lib.hid (HB.out.trans (b2.mono HB.out.size))
      clear b2 c0 c1
      have c0 := a4.c0; have c1 := a4.c1; have z0 := a4.z0; have z1 := a4.z1
      have h4 := a4.put 18446744073709551615 n
      have d0 : ((w2.setCell ⟨w.heap.size + 1, 0, none⟩ (.int .u64 18446744073709551615)).setCell ⟨w.heap.size + 1, 1, none⟩ (.int .u64 n)).cell? ⟨w.heap.size + 1, 0, none⟩ = some (.int .u64 18446744073709551615) := h4.c0
      have d1 : ((w2.setCell ⟨w.heap.size + 1, 0, none⟩ (.int .u64 18446744073709551615)).setCell ⟨w.heap.size + 1, 1, none⟩ (.int .u64 n)).cell? ⟨w.heap.size + 1, 1, none⟩ = some (.int .u64 n) := h4.c1
      clear a4 h4
      go_wp2_with fail
      exact bodyPost_ret (v := .tuple #[Tm 18446744073709551615 n, .bool true]) (by simp [results, Try.results7, go_sem, d0, d1]; done) rfl ⟨rfl, (HB2.out.setCell (p := ⟨w.heap.size + 1, 0, none⟩) hB _).setCell (p := ⟨w.heap.size + 1, 1, none⟩) hB _⟩
    · rw [if_neg g] at hs
      subst hs
      go_enter Try.func7, Try.ntmps7
      go_upto_region 1 with (fail)
      generalize (w.alloc (.cells #[.int .u64 a, .int .u64 f] 27)).alloc (.cells #[.int .u64 0, .int .u64 0] 27) = w1 at *
      have c0 := a1.c0; have c1 := a1.c1
      have A2 := Lib.hid a2; have HB := Lib.hid hb
      clear a1 a2 hb
      go_wp2_with fail
      refine (Q.out _).mono ?_
      rintro e w2 ⟨rfl, b2⟩
      have a4 := A2.out.new b2
      have HB2 := Lib.hid (HB.out.trans (b2.mono HB.out.size))
      clear b2 c0 c1
      have c0 := a4.c0; have c1 := a4.c1; have z0 := a4.z0; have z1 := a4.z1
      have h4 := a4.put t n
      have d0 := h4.c0; have d1 := h4.c1
      clear a4 h4
      go_wp2_with fail
      exact bodyPost_ret (v := .tuple #[Tm t n, .bool true]) (by simp [results, Try.results7, go_sem, d0, d1]) rfl ⟨rfl, (HB2.out.setCell (p := ⟨w.heap.size + 1, 0, none⟩) hB _).setCell (p := ⟨w.heap.size + 1, 1, none⟩) hB _⟩
  · rw [if_neg h, if_neg h]
    rw [decide_eq_false h] at Q ⊢
    clear h hs hr
    go_enter Try.func7, Try.ntmps7
    go_upto_region 1 with (fail)
    generalize (w.alloc (.cells #[.int .u64 a, .int .u64 f] 27)).alloc (.cells #[.int .u64 0, .int .u64 0] 27) = w1 at *
    have c0 := a1.c0; have c1 := a1.c1
    have A1 := Lib.hid a1; have A2 := Lib.hid a2; have HB := Lib.hid hb
    clear a1 a2 hb
    go_wp2_with fail
    refine (Q.out _).mono ?_
    rintro e w2 ⟨rfl, b2⟩
    have a4 := A2.out.new b2
    have a5 := A1.out.new b2
    have HB2 := Lib.hid (HB.out.trans (b2.mono HB.out.size))
    clear b2 c0 c1
    have c0 := a4.c0; have c1 := a4.c1; have z0 := a4.z0; have z1 := a4.z1
    have e0 := a5.c0; have e1 := a5.c1
    have h4 := a4.put a f
    have d0 := h4.c0; have d1 := h4.c1
    clear a4 a5 h4
    go_wp2_with fail
    exact bodyPost_ret (v := .tuple #[Tm a f, .bool false]) (by simp [results, Try.results7, go_sem, d0, d1]) rfl ⟨rfl, (HB2.out.setCell (p := ⟨w.heap.size + 1, 0, none⟩) hB _).setCell (p := ⟨w.heap.size + 1, 1, none⟩) hB _⟩

/-- The literal calls of the chapter's examples. -/
theorem eq24 (a f x y : Nat) (w : World) : (binOp .eql 24 (Tm a f) (Tm x y)).run Try.prog w = .ok (.bool (decide (a = x) && decide (f = y))) w := by
  simp [go_sem, Try.underlying24]
  by_cases h1 : a = x <;> by_cases h2 : f = y <;> simp [h1, h2] <;> omega
theorem eq27 (a f x y : Nat) (w : World) : (binOp .eql 27 (Tm a f) (Tm x y)).run Try.prog w = .ok (.bool (decide (a = x) && decide (f = y))) w := by
  simp [go_sem, Try.underlying27]
  by_cases h1 : a = x <;> by_cases h2 : f = y <;> simp [h1, h2] <;> omega
theorem neq24 (a f x y : Nat) (w : World) : (binOp .neq 24 (Tm a f) (Tm x y)).run Try.prog w = .ok (.bool (!(decide (a = x) && decide (f = y)))) w := by
  simp [go_sem, Try.underlying24]
  by_cases h1 : a = x <;> by_cases h2 : f = y <;> simp [h1, h2] <;> omega
/-- A timer in a block of its own, written in literals. -/
def LitAt (T : TypeId) (w : World) (B : Nat) (a f : Int) : Prop := w.heap[B]? = some (.cells #[.int .u64 a, .int .u64 f] T (0, 0))
section
variable {T : TypeId} {w w' : World} {B : Nat} {a f : Int}
theorem LitAt.lt (h : LitAt T w B a f) : B < w.heap.size := (Array.getElem?_eq_some_iff.1 h).1
theorem LitAt.c0 (h : LitAt T w B a f) : w.cell? ⟨B, 0, none⟩ = some (.int .u64 a) := by simp [World.cell?, show w.heap[B]? = _ from h]
theorem LitAt.c1 (h : LitAt T w B a f) : w.cell? ⟨B, 1, none⟩ = some (.int .u64 f) := by simp [World.cell?, show w.heap[B]? = _ from h]
theorem LitAt.new (h : LitAt T w B a f) (b : Below w.heap.size w w') : LitAt T w' B a f := (b.block B h.lt).trans h
theorem LitAt.made (w : World) (T : TypeId) (a f : Int) : LitAt T (w.alloc (.cells #[.int .u64 a, .int .u64 f] T)) w.heap.size a f :=
  heap_alloc_new w _
end
/-- The chapter's examples hold. -/
theorem lives_any (w : World) : Calls Try.prog 13 #[] w fun e w' => e = .returned (.bool true) ∧ Below w.heap.size w w' := by
  have h1 : ∀ w, Calls Try.prog 9 #[.int .u64 5] w fun e w' => e = .returned (.agg #[.int .u64 5, .int .u64 5]) ∧ Below w.heap.size w w' := begin_any 5
  have h2 : ∀ w, Calls Try.prog 6 #[.agg #[.int .u64 5, .int .u64 5], .int .u64 6, .int .u64 10] w fun e w' => e = .returned (.tuple #[.agg #[.int .u64 16, .int .u64 6], .bool true]) ∧ Below w.heap.size w w' := fire_any 5 5 6 10 (by omega) (by omega)
  have h3 : ∀ w, Calls Try.prog 6 #[.agg #[.int .u64 16, .int .u64 6], .int .u64 16, .int .u64 3] w fun e w' => e = .returned (.tuple #[.agg #[.int .u64 16, .int .u64 6], .bool false]) ∧ Below w.heap.size w w' := fire_any 16 6 16 3 (by omega) (by omega)
  have h4 : ∀ w, Calls Try.prog 11 #[.agg #[.int .u64 5, .int .u64 5], .int .u64 5] w fun e w' => e = .returned (.bool false) ∧ Below w.heap.size w w' := due_any 5 5 5
  have h5 : ∀ w, Calls Try.prog 11 #[.agg #[.int .u64 5, .int .u64 5], .int .u64 6] w fun e w' => e = .returned (.bool true) ∧ Below w.heap.size w w' := due_any 5 5 6
  have H1 := Lib.hid h1; have H2 := Lib.hid h2; have H3 := Lib.hid h3; have H4 := Lib.hid h4; have H5 := Lib.hid h5
  clear h1 h2 h3 h4 h5
  go_enter Try.func13, Try.ntmps13
  go_wp2_with fail
  refine (H1.out _).mono ?_
  rintro e w1 ⟨rfl, b1⟩
  have B1 := Lib.hid (b1.alloc b1.size (.cells #[.int .u64 5, .int .u64 5] 24))
  have t2 := LitAt.made w1 24 5 5
  clear b1
  go_upto_region 2 with (fail)
  generalize w1.alloc (.cells #[.int .u64 5, .int .u64 5] 24) = w2 at *
  generalize w1.heap.size = A at *
  have c0 := t2.c0; have c1 := t2.c1
  have T2 := Lib.hid t2
  clear t2
  go_wp2_with fail
  refine (H2.out _).mono ?_
  rintro e w3 ⟨rfl, b3⟩
  have b4 := below1 w3 (.cells #[.int .u64 16, .int .u64 6] 24)
  have B4 := Lib.hid ((B1.out.trans (b3.mono B1.out.size)).alloc (Nat.le_trans B1.out.size b3.size) (.cells #[.int .u64 16, .int .u64 6] 24))
  have T4 := Lib.hid ((T2.out.new b3).new b4)
  have u4 := LitAt.made w3 24 16 6
  clear b3 b4 c0 c1
  go_upto_region 3 with (fail)
  generalize w3.alloc (.cells #[.int .u64 16, .int .u64 6] 24) = w4 at *
  generalize w3.heap.size = C at *
  have c0 := u4.c0; have c1 := u4.c1
  have U4 := Lib.hid u4
  clear u4
  go_wp2_with fail
  refine (H3.out _).mono ?_
  rintro e w5 ⟨rfl, b5⟩
  have b6 := below1 w5 (.cells #[.int .u64 16, .int .u64 6] 24)
  have B6 := Lib.hid ((B4.out.trans (b5.mono B4.out.size)).alloc (Nat.le_trans B4.out.size b5.size) (.cells #[.int .u64 16, .int .u64 6] 24))
  have T6 := Lib.hid ((T4.out.new b5).new b6)
  have U6 := Lib.hid ((U4.out.new b5).new b6)
  have v6 := LitAt.made w5 24 16 6
  clear b5 b6 c0 c1
  go_upto_region 4 with (fail)
  generalize w5.alloc (.cells #[.int .u64 16, .int .u64 6] 24) = w6 at *
  generalize w5.heap.size = D at *
  have V6 := Lib.hid v6
  clear v6
  have c0 := T6.out.c0; have c1 := T6.out.c1
  go_wp2_with fail
  refine (H4.out _).mono ?_
  rintro e w7 ⟨rfl, b7⟩
  have B7 := Lib.hid (B6.out.trans (b7.mono B6.out.size)); have T7 := Lib.hid (T6.out.new b7); have U7 := Lib.hid (U6.out.new b7); have V7 := Lib.hid (V6.out.new b7)
  clear b7 c0 c1
  have c0 := T7.out.c0; have c1 := T7.out.c1
  go_wp2_with fail
  refine (H5.out _).mono ?_
  rintro e w8 ⟨rfl, b8⟩
  have B8 := Lib.hid (B7.out.trans (b8.mono B7.out.size))
  have u8 := U7.out.new b8; have v8 := V7.out.new b8
  clear b8 c0 c1
  have c0 := u8.c0; have c1 := u8.c1; have d0 := v8.c0; have d1 := v8.c1
  clear u8 v8
  go_wp2_with fail
  go_ret
  exact ⟨rfl, B8.out⟩
end Go.Proofs.Ytmmpbehgcejfaaa
