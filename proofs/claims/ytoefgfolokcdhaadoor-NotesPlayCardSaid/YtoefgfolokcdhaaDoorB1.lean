/- The chapter's examples. -/
import Derived.Test.YtoefgfolokcdhaaDoorA9
namespace Go.Proofs.YtoefgfolokcdhaaDoor
open Go.RowKit

theorem Leaves.step {T : Nat} {K : IntKind} {w w' : World} {base p : Nat} {s : Value} {D F : List Nt} (h : LAt T K w base p s D) (l : Leaves T K w w' base p s F) (hb : base ≤ w.heap.size) : Below base w w' := by
  obtain ⟨s', _, _, t⟩ := l
  refine t.below hb (fun k hk e => ?_)
  rcases e with e | e
  · have := h.low; omega
  · have := (h.own.lt k e).1; omega
abbrev x31 : Nt := ⟨3, 0, 1, 0, 0, 0, 0⟩
abbrev x21 : Nt := ⟨2, 0, 1, 0, 0, 0, 0⟩
abbrev x36 : Nt := ⟨3, 0, 6, 0, 0, 0, 0⟩
set_option maxHeartbeats 1000000 in
set_option maxRecDepth 100000 in
theorem lives_any (w : World) (hT : Tab w) : Calls Tryd.prog 7 #[] w fun e w' => e = .returned (.bool true) ∧ Below w.heap.size w w' := by
  have hnew := new_any w
  have HT := Lib.hid hT
  have H0 : Hid (0 < w.heap.size) := Lib.hid hT.1
  clear hT
  go_enter Tryd.func7, Tryd.ntmps7
  go_upto_region 2 with (go_at_call 8; refine hnew.mono ?_; rintro e w1 ⟨rfl, h1, b1⟩)
  have ha : Calls Tryd.prog 9 #[Pt w.heap.size, .agg #[.int .i64 3, .int .i64 0, .int .u8 1, .int .u32 0, .int .i64 0, .int .u32 0, .int .u64 0]] w1 fun e w' => e = .returned (.int .i64 0) ∧ Leaves 52 .u8 w1 w' w.heap.size w.heap.size (.slice none 0 0) [x31] := add_any h1 b1.size (HT.out.below b1 H0.out) x31 (by decide) (by simp)
  have B1 := Lib.hid b1; have L1 := Lib.hid h1; have HA := Lib.hid ha
  clear hnew b1 h1 ha
  generalize hX : w.heap.size = X at *
  have HX := Lib.hid hX
  clear hX
  go_upto_region 3 with (go_at_call 9; refine HA.out.mono ?_; rintro e w2 ⟨rfl, hl⟩)
  have b2 := B1.out.trans ((hl.step L1.out (HX.out ▸ B1.out.size)).mono (Nat.le_refl _))
  obtain ⟨s2, h2, _, _⟩ := hl
  clear HA L1
  have ha : Calls Tryd.prog 9 #[Pt X, .agg #[.int .i64 2, .int .i64 0, .int .u8 1, .int .u32 0, .int .i64 0, .int .u32 0, .int .u64 0]] w2 fun e w' => e = .returned (.int .i64 1) ∧ Leaves 52 .u8 w2 w' X X s2 [x31] := add_any h2 (HX.out ▸ b2.size) (HT.out.below b2 H0.out) x21 (by decide) (by simp)
  have B2 := Lib.hid b2; have L2 := Lib.hid h2; have HA := Lib.hid ha
  clear b2 h2 ha
  go_upto_region 4 with (go_at_call 9; refine HA.out.mono ?_; rintro e w3 ⟨rfl, hl⟩)
  have b3 := B2.out.trans (hl.step L2.out (HX.out ▸ B2.out.size))
  obtain ⟨s3, h3, _, _⟩ := hl
  clear HA L2
  have ha : Calls Tryd.prog 9 #[Pt X, .agg #[.int .i64 3, .int .i64 0, .int .u8 6, .int .u32 0, .int .i64 0, .int .u32 0, .int .u64 0]] w3 fun e w' => e = .returned (.int .i64 1) ∧ Leaves 52 .u8 w3 w' X X s3 [x31] := add_any h3 (HX.out ▸ b3.size) (HT.out.below b3 H0.out) x36 (by decide) (by simp)
  have B3 := Lib.hid b3; have L3 := Lib.hid h3; have HA := Lib.hid ha
  clear b3 h3 ha
  go_upto_region 5 with (go_at_call 9; refine HA.out.mono ?_; rintro e w4 ⟨rfl, hl⟩)
  have b4 := B3.out.trans (hl.step L3.out (HX.out ▸ B3.out.size))
  obtain ⟨s4, h4, _, _⟩ := hl
  clear HA L3
  have hc : Calls Tryd.prog 12 #[Pt X] w4 fun e w' => e = .returned (.int .i64 1) ∧ w4 = w' := count_any h4
  have hT4 := HT.out.below b4 H0.out
  have hA : Calls Tryd.prog 16 #[.int .u8 37] w4 fun e w' => e = .returned (.string ⟨#[115, 105, 99, 107]⟩) ∧ w4 = w' := name_any 37 (by decide) w4 hT4
  have hB : Calls Tryd.prog 16 #[.int .u8 6] w4 fun e w' => e = .returned (.string ⟨#[]⟩) ∧ w4 = w' := name_any 6 (by decide) w4 hT4
  have B4 := Lib.hid b4; have HC := Lib.hid hc; have HA := Lib.hid hA; have HB := Lib.hid hB
  clear b4 hc hA hB h4 hT4 HT H0 B1 B2 B3
  go_wp2_with (first
    | (go_at_call 12; refine HC.out.mono ?_; rintro e w5 ⟨rfl, rfl⟩)
    | (go_at_call 16; refine HA.out.mono ?_; rintro e w5 ⟨rfl, rfl⟩)
    | (go_at_call 16; refine HB.out.mono ?_; rintro e w5 ⟨rfl, rfl⟩))
  go_ret
  exact ⟨rfl, HX.out ▸ B4.out⟩
end Go.Proofs.YtoefgfolokcdhaaDoor
