import Derived.Test.YtopkdnjploipaaaDoorWc
namespace Go.Proofs.YtopkdnjploipaaaDoor
open Go.RowKit Go.Sort Go.Lib
set_option maxHeartbeats 1000000 in
theorem law_text (u : Nat) (hu : u < 18446744073709551616) (w : World) (hT : Tabs w) : Calls Tryd.prog 5 #[.int .u64 u] w fun e w' => e = .returned (.bool true) ∧ Below w.heap.size w w' := by
  have h1 := fun W hW => mutex_any u hu W hW
  have h2 := fun W => ref_mutex u hu W
  have h3 := fun W hW => rw_any u hu W hW
  have h4 := fun W => ref_rw u hu W
  have h5 := fun W hW => once_any u hu W hW
  have h6 := fun W => ref_once u hu W
  have h7 := fun W hW => lives_any W hW
  generalize muTxt u = s1 at *
  generalize rwTxt u = s2 at *
  generalize onTxt u = s3 at *
  have H1 := Lib.hid h1
  have H2 := Lib.hid h2
  have H3 := Lib.hid h3
  have H4 := Lib.hid h4
  have H5 := Lib.hid h5
  have H6 := Lib.hid h6
  have H7 := Lib.hid h7
  clear h1 h2 h3 h4 h5 h6 h7
  go_enter Tryd.func5, Tryd.ntmps5
  go_wp2_with fail
  refine (H1.out _ hT).mono ?_
  rintro e w1 ⟨rfl, b1⟩
  have t1 := hT.below b1
  go_wp2_with fail
  refine (H2.out _).mono ?_
  rintro e w2 ⟨rfl, b2⟩
  have t2 := t1.below b2
  go_wp2_with fail
  refine (H3.out _ t2).mono ?_
  rintro e w3 ⟨rfl, b3⟩
  have t3 := t2.below b3
  go_wp2_with fail
  refine (H4.out _).mono ?_
  rintro e w4 ⟨rfl, b4⟩
  have t4 := t3.below b4
  go_wp2_with fail
  refine (H5.out _ t4).mono ?_
  rintro e w5 ⟨rfl, b5⟩
  have t5 := t4.below b5
  go_wp2_with fail
  refine (H6.out _).mono ?_
  rintro e w6 ⟨rfl, b6⟩
  have t6 := t5.below b6
  go_wp2_with fail
  refine (H7.out _ t6).mono ?_
  rintro e w7 ⟨rfl, b7⟩
  go_wp2
  go_ret
  have s1 := b1.size
  have s2 := b2.size
  have s3 := b3.size
  have s4 := b4.size
  have s5 := b5.size
  have s6 := b6.size
  exact ⟨rfl, (((((b1.trans (b2.mono (by omega))).trans (b3.mono (by omega))).trans (b4.mono (by omega))).trans (b5.mono (by omega))).trans (b6.mono (by omega))).trans (b7.mono (by omega))⟩

/-! Readers that come: the bits stay. -/
theorem bit_more (w m k : Nat) (hk : k ≤ 3) : bitB (w + m * 16) k = bitB w k := by
  have h : k = 0 ∨ k = 1 ∨ k = 2 ∨ k = 3 := by omega
  unfold bitB
  rcases h with rfl | rfl | rfl | rfl <;> simp only [Nat.reducePow] <;> congr 1 <;> apply propext <;> constructor <;> intro h <;> omega
theorem may_more (w m : Nat) (h : bitB w 2 = false) : mayB (w + m * 16) = mayB w := by
  unfold mayB
  rw [bit_more w m 1 (by omega), bit_more w m 2 (by omega), bit_more w m 3 (by omega), h]
  simp
theorem may_more2 (w m : Nat) (h : mayB w = true) : mayB (w + m * 16) = true := by
  unfold mayB at *
  rw [bit_more w m 1 (by omega), bit_more w m 2 (by omega), bit_more w m 3 (by omega)]
  have h2 : w / 16 ≤ (w + m * 16) / 16 := by omega
  by_cases h3 : w / 16 = 0
  · rw [decide_eq_true h3] at h
    cases hb2 : bitB w 2 <;> cases hb3 : bitB w 3 <;> cases hb1 : bitB w 1 <;> simp_all
  · rw [decide_eq_false h3] at h
    rw [decide_eq_false (by omega)]
    exact h
set_option maxHeartbeats 1000000 in
theorem law_readers (a b : Nat) (_ha : a < 18446744073709551616) (_hb : b < 18446744073709551616) (w : World) (hT : Tabs w) : Calls Tryd.prog 7 #[.int .u64 a, .int .u64 b] w fun e w' => e = .returned (.bool true) ∧ Below w.heap.size w w' := by
  obtain ⟨x, hx⟩ : ∃ x, x = a % 1125899906842624 := ⟨_, rfl⟩
  obtain ⟨m, hm⟩ : ∃ m, m = b % 1099511627776 := ⟨_, rfl⟩
  have ex : (a : Int) % 1125899906842624 = (x : Int) := by omega
  have em : (b : Int) % 1099511627776 = (m : Int) := by omega
  have hxl : x < 1125899906842624 := by omega
  have hml : m < 1099511627776 := by omega
  clear hx hm
  have hX : x + m * 16 < 18446744073709551616 := by omega
  have r1 : ∀ W, Calls Tryd.prog 14 #[.int .u64 ((x : Int) + (m : Int) * 16)] W fun e w' => e = .returned (.int .u64 ((x : Int) / 16 + (m : Int))) ∧ W = w' := fun W => by
    have := readersN (x + m * 16) W hX
    rw [show (((x + m * 16 : Nat)) : Int) = (x : Int) + (m : Int) * 16 by omega, show (((x + m * 16) / 16 : Nat) : Int) = (x : Int) / 16 + (m : Int) by omega] at this
    exact this
  have r2 : ∀ W, Calls Tryd.prog 14 #[.int .u64 (x : Int)] W fun e w' => e = .returned (.int .u64 ((x : Int) / 16)) ∧ W = w' := fun W => by
    have := readersN x W (by omega)
    rw [show ((x / 16 : Nat) : Int) = (x : Int) / 16 by omega] at this
    exact this
  have y1 : ∀ W, Calls Tryd.prog 16 #[.int .u64 ((x : Int) + (m : Int) * 16)] W fun e w' => e = .returned (.bool (mayB (x + m * 16))) ∧ W = w' := fun W => by
    have := may_any (x + m * 16) hX W
    rw [show (((x + m * 16 : Nat)) : Int) = (x : Int) + (m : Int) * 16 by omega] at this
    exact this
  have y2 : ∀ W, Calls Tryd.prog 16 #[.int .u64 (x : Int)] W fun e w' => e = .returned (.bool (mayB x)) ∧ W = w' := fun W => may_any x (by omega) W
  have p2 : bits .and .u64 (x : Int) 4 = ((x / 4 % 2 * 4 : Nat) : Int) := and_pow x 2 (by omega) (by decide)
  have h7 := fun W hW => lives_any W hW
  have mm := may_more x m
  have mm2 := may_more2 x m
  have hbt : bitB x 2 = decide (x / 4 % 2 = 1) := rfl
  have HR1 := Lib.hid r1
  have HR2 := Lib.hid r2
  have H7 := Lib.hid h7
  have E1 : (((x : Int) + (m : Int) * 16) % 16 != (x : Int) % 16) = false := by
    have : ((x : Int) + (m : Int) * 16) % 16 = (x : Int) % 16 := by omega
    rw [this]; simp
  have c2 : x / 4 % 2 = 0 ∨ x / 4 % 2 = 1 := by omega
  clear r1 r2 h7
  rcases c2 with c2 | c2
  · rw [c2] at p2 hbt
    simp at p2
    have hm := mm (by rw [hbt]; rfl)
    rw [hm] at y1
    generalize mayB x = mb at *
    have HY1 := Lib.hid y1
    have HY2 := Lib.hid y2
    clear y1 y2 mm mm2 hbt hm
    cases mb
    all_goals
      go_enter Tryd.func7, Tryd.ntmps7
      go_wp2_with (first
        | (go_at_call 14; ((with_reducible refine (HR1.out _).mono ?_)); rintro e w' ⟨rfl, rfl⟩)
        | (go_at_call 14; ((with_reducible refine (HR2.out _).mono ?_)); rintro e w' ⟨rfl, rfl⟩)
        | (go_at_call 16; ((with_reducible refine (HY1.out _).mono ?_)); rintro e w' ⟨rfl, rfl⟩)
        | (go_at_call 16; ((with_reducible refine (HY2.out _).mono ?_)); rintro e w' ⟨rfl, rfl⟩)
        | (go_at_call 13; refine (H7.out _ hT).mono ?_; rintro e w7 ⟨rfl, b7⟩))
      go_ret
      exact ⟨rfl, b7⟩
  · rw [c2] at p2 hbt
    simp at p2
    generalize mayB x = mb at *
    generalize mayB (x + m * 16) = mc at *
    have HY1 := Lib.hid y1
    have HY2 := Lib.hid y2
    clear y1 y2 mm hbt
    cases mb <;> cases mc
    case true.false => simp at mm2
    all_goals
      clear mm2
      go_enter Tryd.func7, Tryd.ntmps7
      go_wp2_with (first
        | (go_at_call 14; ((with_reducible refine (HR1.out _).mono ?_)); rintro e w' ⟨rfl, rfl⟩)
        | (go_at_call 14; ((with_reducible refine (HR2.out _).mono ?_)); rintro e w' ⟨rfl, rfl⟩)
        | (go_at_call 16; ((with_reducible refine (HY1.out _).mono ?_)); rintro e w' ⟨rfl, rfl⟩)
        | (go_at_call 16; ((with_reducible refine (HY2.out _).mono ?_)); rintro e w' ⟨rfl, rfl⟩)
        | (go_at_call 13; refine (H7.out _ hT).mono ?_; rintro e w7 ⟨rfl, b7⟩))
      go_ret
      exact ⟨rfl, b7⟩
end Go.Proofs.YtopkdnjploipaaaDoor
