/- LinksVoid's walk. -/
import Derived.Test.YtlmgboggnljefaaC5
namespace Go.Proofs.Ytlmgboggnljefaa
open Go.RowKit

theorem law_void (K : Nat) (A V : Int) (hK : K < 256) (w : World) :
    Calls Try.prog 4 #[.agg #[.int .u8 (K : Int), .int .i64 A, .int .i64 V]] w fun e w' => e = .returned (.bool true) ∧ Below w.heap.size w w' := by
  have hl := lives_any
  have h0 : w.heap.size < (w.alloc (.cells #[.int .u8 (K : Int), .int .i64 A, .int .i64 V] 34)).heap.size := by simp
  have r0 := heap_alloc_new w (.cells #[.int .u8 (K : Int), .int .i64 A, .int .i64 V] 34)
  have b0 := below1 w (.cells #[.int .u8 (K : Int), .int .i64 A, .int .i64 V] 34)
  have HL := Lib.hid hl; have R0 := Lib.hid r0; have B0 := Lib.hid b0
  clear hl r0 b0
  have z1 := zero31
  have z2 := zero46
  go_enter Try.func4, Try.ntmps4
  go_upto_region 1 with (fail)
  generalize w.alloc (.cells #[.int .u8 (K : Int), .int .i64 A, .int .i64 V] 34) = w1 at *
  obtain ⟨X, hX⟩ : ∃ X, X = w.heap.size := ⟨_, rfl⟩
  rw [← hX] at R0 h0
  rw [← hX]
  have HX := Lib.hid hX
  clear hX
  have c0 : w1.cell? ⟨X, 0, none⟩ = some (.int .u8 (K : Int)) := cell_row R0.out 0
  have c1 : w1.cell? ⟨X, 1, none⟩ = some (.int .i64 A) := cell_row R0.out 1
  have c2 : w1.cell? ⟨X, 2, none⟩ = some (.int .i64 V) := cell_row R0.out 2
  go_wp2_with fail
  refine (push_nil A V).mono ?_
  rintro e w2 ⟨rfl, rfl⟩
  go_wp2_with fail
  refine (at_nil A).mono ?_
  rintro e w2 ⟨rfl, hb⟩
  have r2 := (turns_new (fun _ => False) hb).cellRow R0.out (fun e => e)
  have R2 := Lib.hid r2; have B2 := Lib.hid (B0.out.trans (hb.mono B0.out.size))
  have hX2 : X < w2.heap.size := Nat.lt_of_lt_of_le h0 hb.size
  clear hb r2 c0 c1 c2
  have c0 : w2.cell? ⟨X, 0, none⟩ = some (.int .u8 (K : Int)) := cell_row R2.out 0
  have c1 : w2.cell? ⟨X, 1, none⟩ = some (.int .i64 A) := cell_row R2.out 1
  have c2 : w2.cell? ⟨X, 2, none⟩ = some (.int .i64 V) := cell_row R2.out 2
  have q := neq38 (-1) (-1) (-1) (-1) (-1) (-1)
  unfold nolnk
  go_wp2_with fail
  refine (seek_nil A).mono ?_
  rintro e w3 ⟨rfl, rfl⟩
  go_wp2_with fail
  refine (cut_nil A V).mono ?_
  rintro e w3 ⟨rfl, rfl⟩
  clear q
  go_wp2_with fail
  have ht := twin_made (w0 := w2) (o := .cells Z192 31) rfl (has_zero w2 46) rfl (below1 w2 _)
  rw [show (w2.alloc (.cells Z192 46)).heap.size = w2.heap.size + 1 by simp] at ht
  have T2 := Lib.hid ht
  clear ht z1 z2 c0 c1 c2
  generalize ((w2.alloc (.cells Z192 46)).alloc (.cells Z192 31)) = wz at *
  generalize w2.heap.size + 1 = R at *
  obtain ⟨Bb, hBb⟩ : ∃ Bb, Bb = w2.heap.size := ⟨_, rfl⟩
  have hx3 : X < Bb := by omega
  rw [← hBb] at T2
  rw [← hBb]
  have HBB := Lib.hid hBb
  clear hBb
  refine (same_any T2.out.duo).mono ?_
  rintro e w4 ⟨rfl, hb⟩
  have t4 := T2.out.new hb
  have r4 := (turns_new (fun _ => False) t4.below).cellRow R2.out (fun e => e)
  have T4 := Lib.hid t4; have R4 := Lib.hid r4
  clear hb t4 r4
  have c0 : w4.cell? ⟨X, 0, none⟩ = some (.int .u8 (K : Int)) := cell_row R4.out 0
  have c1 : w4.cell? ⟨X, 1, none⟩ = some (.int .i64 A) := cell_row R4.out 1
  have c2 : w4.cell? ⟨X, 2, none⟩ = some (.int .i64 V) := cell_row R4.out 2
  go_wp2_with fail
  refine (do_any T4.out.duo K A V hK).mono ?_
  rintro e w5 hd
  obtain ⟨rfl, S', ht⟩ := T4.out.done hd
  have T5 := Lib.hid ht
  clear hd ht c0 c1 c2
  go_wp2_with fail
  refine (same_any T5.out.duo).mono ?_
  rintro e w6 ⟨rfl, hb⟩
  have T6 := Lib.hid (T5.out.new hb)
  clear hb
  go_wp2_with fail
  refine (HL.out _).mono ?_
  rintro e w7 ⟨rfl, hb⟩
  have B7 := Lib.hid ((B2.out.trans (T6.out.below.mono B2.out.size)).trans (hb.mono (Nat.le_trans B2.out.size T6.out.below.size)))
  clear hb
  go_wp2_with fail
  go_ret
  exact ⟨rfl, B7.out⟩
end Go.Proofs.Ytlmgboggnljefaa
