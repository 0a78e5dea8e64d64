/- The chapter's examples. -/
import Derived.Test.YtmnndheddlkbgaaA6
namespace Go.Proofs.Ytmnndheddlkbgaa
open Go.RowKit

theorem rd_712 (w : World) : Rd (w.alloc (.cells #[.int .u64 7, .int .u64 12] 23)) (w.heap.size + 1) (some ⟨w.heap.size, 0, none⟩) [7, 12] := fun _ => by
  refine ⟨w.heap.size, 0, rfl, by omega, fun i hi => ?_⟩
  rw [World.cell?_alloc_at _ _ _ _ rfl]
  match i, hi with
  | 0, _ => rfl
  | 1, _ => rfl
theorem ex_new (w : World) : Calls Try.prog 8 #[.slice (some ⟨w.heap.size, 0, none⟩) 2 2, .int .u64 9] (w.alloc (.cells #[.int .u64 7, .int .u64 12] 23)) fun e w' => ∃ B, e = .returned (Pt B) ∧ w.heap.size ≤ B ∧ Own w' (w.heap.size + 1) B 0 9 [7, 12] ∧ Below w.heap.size w w' := by
  refine (new_any (D := [7, 12]) 2 9 (by simp) (by omega) (by omega) (rd_712 w) (by simp) (by simp)).mono fun e w' h => ?_
  obtain ⟨B, he, hB, ho, hb⟩ := h.own
  simp at hB
  refine ⟨B, he, by omega, ?_, ((Below.refl _ _).alloc (Nat.le_refl _) _).trans (hb.mono (by simp))⟩
  simpa using ho
theorem ex_d1 {w : World} {base B : Nat} (h : Own w base B 0 9 [7, 12]) : Calls Try.prog 12 #[Pt B] w fun e w' => e = .returned (.int .u64 7) ∧ Own w' base B 0 9 [12] ∧ Below base w w' := own_draw h
theorem ex_d2 {w : World} {base B : Nat} (h : Own w base B 0 9 [12]) : Calls Try.prog 12 #[Pt B] w fun e w' => e = .returned (.int .u64 2) ∧ Own w' base B 0 9 [] ∧ Below base w w' := own_draw h
theorem ex_t5 {w : World} {base B : Nat} (h : Own w base B 0 9 []) : Calls Try.prog 10 #[Pt B, .int .u64 5] w fun e w' => e = .returned (.tuple #[]) ∧ Own w' base B 5 9 [] ∧ Below base w w' := own_tick h 5 (by omega)
theorem ex_a3 {w : World} {base B : Nat} (h : Own w base B 5 9 []) : Calls Try.prog 18 #[Pt B, .int .u64 3] w fun e w' => e = .returned (.agg #[.bool true, .int .u64 8]) ∧ Below w.heap.size w w' := own_after h 3 (by omega)
theorem ex_t2 {w : World} {base B : Nat} (h : Own w base B 5 9 []) : Calls Try.prog 10 #[Pt B, .int .u64 2] w fun e w' => e = .returned (.tuple #[]) ∧ Own w' base B 7 9 [] ∧ Below base w w' ∧ Turns (fun k => k = B) w w' := own_tick2 h 2 (by omega)
theorem ex_c7 {w : World} {base B : Nat} (h : Own w base B 7 9 []) : Calls Try.prog 19 #[Pt B, .agg #[.bool true, .int .u64 8]] w fun e w' => e = .returned (.bool false) ∧ Below w.heap.size w w' := own_come h true 8
theorem ex_t1 {w : World} {base B : Nat} (h : Own w base B 7 9 []) : Calls Try.prog 10 #[Pt B, .int .u64 1] w fun e w' => e = .returned (.tuple #[]) ∧ Own w' base B 8 9 [] ∧ Below base w w' ∧ Turns (fun k => k = B) w w' := own_tick2 h 1 (by omega)
theorem ex_c8 {w : World} {base B : Nat} (h : Own w base B 8 9 []) : Calls Try.prog 19 #[Pt B, .agg #[.bool true, .int .u64 8]] w fun e w' => e = .returned (.bool true) ∧ Below w.heap.size w w' := own_come h true 8
theorem ex_c0 {w : World} {base B : Nat} (h : Own w base B 8 9 []) : Calls Try.prog 19 #[Pt B, .agg #[.bool false, .int .u64 0]] w fun e w' => e = .returned (.bool false) ∧ Below w.heap.size w w' := own_come h false 0
set_option maxHeartbeats 2000000 in
theorem lives_any (w : World) : Calls Try.prog 7 #[] w fun e w' => e = .returned (.bool true) ∧ Below w.heap.size w w' := by
  have q := ex_new w
  have Q := Lib.hid q
  have he := eq31 true true 8 8
  clear q
  go_enter Try.func7, Try.ntmps7
  go_wp2_with fail
  refine Q.out.mono ?_
  rintro e w1 ⟨B, rfl, hB, o1, b1⟩
  have O1 := Lib.hid o1; have B1 := Lib.hid b1; have HB := Lib.hid hB; clear o1 b1 hB
  go_wp2_with fail
  refine (ex_d1 O1.out).mono ?_
  rintro e w2 ⟨rfl, o2, b2⟩
  have O2 := Lib.hid o2; have B2 := Lib.hid b2; clear o2 b2
  go_wp2_with fail
  refine (ex_d2 O2.out).mono ?_
  rintro e w3 ⟨rfl, o3, b3⟩
  have O3 := Lib.hid o3; have B3 := Lib.hid b3; clear o3 b3
  go_wp2_with fail
  refine (own_draw_none O3.out).mono ?_
  rintro e w4 ⟨rfl, rfl⟩
  go_wp2_with fail
  refine (ex_t5 O3.out).mono ?_
  rintro e w4 ⟨rfl, o4, b4⟩
  have O4 := Lib.hid o4; have B4 := Lib.hid b4; clear o4 b4
  go_wp2_with fail
  refine (ex_a3 O4.out).mono ?_
  rintro e w5 ⟨rfl, b5⟩
  have ba := b5.trans ((Below.refl w4.heap.size w5).alloc b5.size (.cells #[.bool true, .int .u64 8] 31))
  have o5 := O4.out.new ba
  have hbx : B < w5.heap.size := Nat.lt_of_lt_of_le O4.out.lt b5.size
  have x0 : (w5.alloc (.cells #[.bool true, .int .u64 8] 31)).cell? ⟨w5.heap.size, 0, none⟩ = some (.bool true) := by rw [World.cell?_alloc_at _ _ _ _ rfl]; rfl
  have x1 : (w5.alloc (.cells #[.bool true, .int .u64 8] 31)).cell? ⟨w5.heap.size, 1, none⟩ = some (.int .u64 8) := by rw [World.cell?_alloc_at _ _ _ _ rfl]; rfl
  have O5 := Lib.hid o5; have BA := Lib.hid ba
  clear b5 ba o5
  go_wp2_with fail
  have hsz : w5.heap.size < (w5.alloc (.cells #[.bool true, .int .u64 8] 31)).heap.size := by simp
  generalize w5.alloc (.cells #[.bool true, .int .u64 8] 31) = w6 at *
  generalize w5.heap.size = X at *
  refine (ex_t2 O5.out).mono ?_
  rintro e w7 ⟨rfl, o7, b7, t7⟩
  have y0 := (t7.cell (g := X) (o := 0) hsz (by omega)).trans x0
  have y1 := (t7.cell (g := X) (o := 1) hsz (by omega)).trans x1
  have hsz7 : X < w7.heap.size := Nat.lt_of_lt_of_le hsz t7.size
  have O7 := Lib.hid o7; have B7 := Lib.hid b7
  clear o7 b7 t7 x0 x1
  go_wp2_with fail
  refine (ex_c7 O7.out).mono ?_
  rintro e w8 ⟨rfl, b8⟩
  have z0 := (b8.cell (p := ⟨X, 0, none⟩) hsz7).trans y0
  have z1 := (b8.cell (p := ⟨X, 1, none⟩) hsz7).trans y1
  have hsz8 : X < w8.heap.size := Nat.lt_of_lt_of_le hsz7 b8.size
  have O8 := Lib.hid (O7.out.new b8); have B8 := Lib.hid b8
  clear b8 y0 y1
  go_wp2_with fail
  refine (ex_t1 O8.out).mono ?_
  rintro e w9 ⟨rfl, o9, b9, t9⟩
  have u0 := (t9.cell (g := X) (o := 0) hsz8 (by omega)).trans z0
  have u1 := (t9.cell (g := X) (o := 1) hsz8 (by omega)).trans z1
  have O9 := Lib.hid o9; have B9 := Lib.hid b9
  clear o9 b9 t9 z0 z1
  go_wp2_with fail
  refine (ex_c8 O9.out).mono ?_
  rintro e wa ⟨rfl, ba⟩
  have Oa := Lib.hid (O9.out.new ba); have Ba := Lib.hid ba
  clear ba u0 u1
  go_wp2_with fail
  refine (ex_c0 Oa.out).mono ?_
  rintro e wb ⟨rfl, bb⟩
  have Bb := Lib.hid bb
  clear bb
  go_wp2_with fail
  go_ret
  refine ⟨rfl, ?_⟩
  have s1 := B1.out.size
  have s5 := O5.out.size
  have m : w.heap.size ≤ w.heap.size + 1 := by omega
  have c1 := ((B1.out.trans (B2.out.mono m)).trans (B3.out.mono m)).trans (B4.out.mono m)
  have c2 := (((c1.trans (BA.out.mono c1.size)).trans (B7.out.mono m)).trans (B8.out.mono (Nat.le_trans (by omega) (Nat.le_trans s5 B7.out.size))))
  have c3 := c2.trans (B9.out.mono m)
  have c4 := c3.trans (Ba.out.mono c3.size)
  exact c4.trans (Bb.out.mono c4.size)
end Go.Proofs.Ytmnndheddlkbgaa
