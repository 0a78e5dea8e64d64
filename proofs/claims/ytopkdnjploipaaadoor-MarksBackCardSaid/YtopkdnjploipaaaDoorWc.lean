import Derived.Test.YtopkdnjploipaaaDoorWb
namespace Go.Proofs.YtopkdnjploipaaaDoor
open Go.RowKit Go.Sort Go.Lib
theorem x3 : muTxt 3 = ⟨#[108, 111, 99, 107, 101, 100, 43, 112, 97, 114, 107, 101, 100]⟩ := by
  unfold muTxt
  rw [hasB2 3 (by decide)]
  rfl
theorem x0 : muTxt 0 = ⟨#[48]⟩ := by
  unfold muTxt
  rw [hasB2 0 (by decide)]
  rfl
theorem x57 : rwTxt 57 = ⟨#[112, 97, 114, 107, 101, 100, 43, 119, 114, 105, 116, 101, 114, 43, 114, 51]⟩ := by
  unfold rwTxt
  rw [hasB4 57 (by decide) _ 4 (by omega), lastOf_pos _ _ (by decide), cnt, decDigits_one (by decide)]
  rfl
theorem x20 : onTxt 20 = ⟨#[108, 111, 99, 107, 101, 100, 43, 49, 54]⟩ := by
  unfold onTxt
  rw [hasB4 20 (by decide) _ 4 (by omega), lastOf_pos _ _ (by decide), cnt, decDigits_two (by decide) (by decide)]
  rfl
set_option maxHeartbeats 1000000 in
theorem lives_any (w : World) (hT : Tabs w) : Calls Tryd.prog 13 #[] w fun e w' => e = .returned (.bool true) ∧ Below w.heap.size w w' := by
  have hP : ∀ W, Calls Tryd.prog 8 #[.agg #[.bool true, .bool false, .int .i64 2]] W fun e w' => e = .returned (.int .u64 13) ∧ Below W.heap.size W w' := fun W => put_any true false 2 (by decide) (by decide) W
  have hA : ∀ W, Calls Tryd.prog 11 #[.int .u64 2] W fun e w' => e = .returned (.agg #[.bool false, .bool true, .int .i64 (-1)]) ∧ Below W.heap.size W w' := fun W => as_any 2 (by decide) W
  have h3 : ∀ W, Tabs W → Calls Tryd.prog 18 #[.int .u64 3] W fun e w' => e = .returned (.string ⟨#[108, 111, 99, 107, 101, 100, 43, 112, 97, 114, 107, 101, 100]⟩) ∧ Below W.heap.size W w' := fun W h => by
    have := mutex_any 3 (by decide) W h
    rw [x3] at this
    exact this
  have h57 : ∀ W, Tabs W → Calls Tryd.prog 20 #[.int .u64 57] W fun e w' => e = .returned (.string ⟨#[112, 97, 114, 107, 101, 100, 43, 119, 114, 105, 116, 101, 114, 43, 114, 51]⟩) ∧ Below W.heap.size W w' := fun W h => by
    have := rw_any 57 (by decide) W h
    rw [x57] at this
    exact this
  have h20 : ∀ W, Tabs W → Calls Tryd.prog 22 #[.int .u64 20] W fun e w' => e = .returned (.string ⟨#[108, 111, 99, 107, 101, 100, 43, 49, 54]⟩) ∧ Below W.heap.size W w' := fun W h => by
    have := once_any 20 (by decide) W h
    rw [x20] at this
    exact this
  have h0 : ∀ W, Tabs W → Calls Tryd.prog 18 #[.int .u64 0] W fun e w' => e = .returned (.string ⟨#[48]⟩) ∧ Below W.heap.size W w' := fun W h => by
    have := mutex_any 0 (by decide) W h
    rw [x0] at this
    exact this
  have HP := Lib.hid hP
  have HA := Lib.hid hA
  have H3 := Lib.hid h3
  have H57 := Lib.hid h57
  have H20 := Lib.hid h20
  have H0 := Lib.hid h0
  clear hP hA h3 h57 h20 h0
  go_enter Tryd.func13, Tryd.ntmps13
  go_wp2_with fail
  refine (HP.out _).mono ?_
  rintro e w1 ⟨rfl, b1⟩
  go_wp2_with fail
  refine (HA.out _).mono ?_
  rintro e w2 ⟨rfl, b2⟩
  have t2 := (hT.below b1).below b2
  go_wp2_with fail
  refine (H3.out _ t2).mono ?_
  rintro e w3 ⟨rfl, b3⟩
  have t3 := t2.below b3
  go_wp2_with fail
  refine (H57.out _ t3).mono ?_
  rintro e w4 ⟨rfl, b4⟩
  have t4 := t3.below b4
  go_wp2_with fail
  refine (H20.out _ t4).mono ?_
  rintro e w5 ⟨rfl, b5⟩
  have t5 := t4.below b5
  go_wp2_with fail
  refine (H0.out _ t5).mono ?_
  rintro e w6 ⟨rfl, b6⟩
  go_wp2
  go_ret
  have s1 := b1.size
  have s2 := b2.size
  have s3 := b3.size
  have s4 := b4.size
  have s5 := b5.size
  exact ⟨rfl, ((((b1.trans (b2.mono (by omega))).trans (b3.mono (by omega))).trans (b4.mono (by omega))).trans (b5.mono (by omega))).trans (b6.mono (by omega))⟩

theorem law_rw (u : Nat) (hu : u < 18446744073709551616) (w : World) (hT : Tabs w) : Calls Tryd.prog 4 #[.int .u64 u] w fun e w' => e = .returned (.bool true) ∧ Below w.heap.size w w' := by
  have h1 := fun W => readersN u W hu
  have h2 := fun W => rreaders u W hu
  have h3 := fun W => may_any u hu W
  have h4 := fun W => rmay_any u hu W
  have h5 := lives_any w hT
  generalize u / 16 = r at *
  generalize mayB u = m at *
  have H1 := Lib.hid h1
  have H2 := Lib.hid h2
  have H3 := Lib.hid h3
  have H4 := Lib.hid h4
  have H5 := Lib.hid h5
  clear h1 h2 h3 h4 h5
  go_enter Tryd.func4, Tryd.ntmps4
  go_wp2_with (first
    | (go_at_call 14; refine (H1.out _).mono ?_; rintro e w' ⟨rfl, rfl⟩)
    | (go_at_call 15; refine (H2.out _).mono ?_; rintro e w' ⟨rfl, rfl⟩)
    | (go_at_call 16; refine (H3.out _).mono ?_; rintro e w' ⟨rfl, rfl⟩)
    | (go_at_call 17; refine (H4.out _).mono ?_; rintro e w' ⟨rfl, rfl⟩)
    | (go_at_call 13; refine H5.out.mono ?_; rintro e w5 ⟨rfl, b5⟩))
  go_ret
  exact ⟨rfl, b5⟩
end Go.Proofs.YtopkdnjploipaaaDoor
