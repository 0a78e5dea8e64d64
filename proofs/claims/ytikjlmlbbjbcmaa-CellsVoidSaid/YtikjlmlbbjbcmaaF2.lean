/- CellsVoid. -/
import Derived.Test.YtikjlmlbbjbcmaaF1
import Derived.Test.YtikjlmlbbjbcmaaE5
namespace Go.Proofs.Ytikjlmlbbjbcmaa
open Go.RowKit Go.Maps

/-- New ones, side by side. -/
theorem both_new (w : World) (base : Nat) (hb : base ≤ w.heap.size) : Both ((w.alloc (.cells #[.map none, .int .i64 0, .int .u8 0, .int .u32 0, .int .u64 0, .int .u64 0] 54)).alloc (.cells #[.slice none 0 0, .int .i64 0, .int .u8 0, .int .u32 0, .int .u64 0, .int .u64 0] 56)) base w.heap.size (w.heap.size + 1) [] 0 0 0 0 0 := by
  refine ⟨by simp; omega, hb, by omega, by omega, byt_nil, none, .slice none 0 0, ⟨good_nil, ?_, fun _ => rfl, fun m e => by cases e⟩, ⟨good_nil, ?_, World.ownsRow_nil _ _ _ _, by simp [Value.ownBlock]⟩, fun m e => by (cases e), by simp [Value.ownBlock]⟩
  · rw [Below.heap_alloc _ _ _ (by simp)]
    exact heap_alloc_new w _
  · have := heap_alloc_new (w.alloc (.cells #[.map none, .int .i64 0, .int .u8 0, .int .u32 0, .int .u64 0, .int .u64 0] 54)) (.cells #[.slice none 0 0, .int .i64 0, .int .u8 0, .int .u32 0, .int .u64 0, .int .u64 0] 56)
    simpa using this
set_option maxHeartbeats 4000000 in
set_option maxRecDepth 100000 in
theorem law_void (K A V U : Nat) (Rg : Bool) (hA : A < 4294967296) (hV : V < 18446744073709551616) (w : World) :
    Calls Try.prog 4 #[.agg #[.int .u8 K, .int .u32 A, .int .u64 V, .int .u64 U, .bool Rg]] w fun e w' => e = .returned (.bool true) ∧ Below w.heap.size w w' := by
  have b0 : (w.alloc (.cells #[.int .u8 K, .int .u32 A, .int .u64 V, .int .u64 U, .bool Rg] 39)).cell? ⟨w.heap.size, 0, none⟩ = some (.int .u8 K) := by rw [World.cell?_alloc_at _ _ _ _ rfl]; rfl
  have b1 : (w.alloc (.cells #[.int .u8 K, .int .u32 A, .int .u64 V, .int .u64 U, .bool Rg] 39)).cell? ⟨w.heap.size, 1, none⟩ = some (.int .u32 A) := by rw [World.cell?_alloc_at _ _ _ _ rfl]; rfl
  have b2 : (w.alloc (.cells #[.int .u8 K, .int .u32 A, .int .u64 V, .int .u64 U, .bool Rg] 39)).cell? ⟨w.heap.size, 2, none⟩ = some (.int .u64 V) := by rw [World.cell?_alloc_at _ _ _ _ rfl]; rfl
  have b3 : (w.alloc (.cells #[.int .u8 K, .int .u32 A, .int .u64 V, .int .u64 U, .bool Rg] 39)).cell? ⟨w.heap.size, 3, none⟩ = some (.int .u64 U) := by rw [World.cell?_alloc_at _ _ _ _ rfl]; rfl
  have b4 : (w.alloc (.cells #[.int .u8 K, .int .u32 A, .int .u64 V, .int .u64 U, .bool Rg] 39)).cell? ⟨w.heap.size, 4, none⟩ = some (.bool Rg) := by rw [World.cell?_alloc_at _ _ _ _ rfl]; rfl
  have hz : (w.alloc (.cells #[.int .u8 K, .int .u32 A, .int .u64 V, .int .u64 U, .bool Rg] 39)).heap.size = w.heap.size + 1 := by simp
  have ba : Below w.heap.size w (w.alloc (.cells #[.int .u8 K, .int .u32 A, .int .u64 V, .int .u64 U, .bool Rg] 39)) := (Below.refl _ _).alloc (Nat.le_refl _) _
  have hl := fun W => lives_any W
  have HL := Lib.hid hl
  have hn50 := neq50 0 0 0 0
  clear hl
  go_enter Try.func4, Try.ntmps4
  go_wp2_with fail
  generalize w.alloc (.cells #[.int .u8 K, .int .u32 A, .int .u64 V, .int .u64 U, .bool Rg] 39) = wa at *
  have BA := Lib.hid ba; have HZ := Lib.hid hz; have B1 := Lib.hid b1
  have BB0 := Lib.hid b0; have BB2 := Lib.hid b2; have BB3 := Lib.hid b3; have BB4 := Lib.hid b4
  clear ba hz
  refine (cas_nil A 0 V _).mono ?_
  rintro e w1 ⟨rfl, rfl⟩
  go_wp2_with (first
    | (go_at_call 18; refine (load_nil A _).mono ?_; rintro e w1 ⟨rfl, rfl⟩)
    | (go_at_call 19; refine (store_nil A V _).mono ?_; rintro e w1 ⟨rfl, rfl⟩)
    | (go_at_call 20; refine (swap_nil A V _).mono ?_; rintro e w1 ⟨rfl, rfl⟩)
    | (go_at_call 21; refine (add_nil A V _).mono ?_; rintro e w1 ⟨rfl, rfl⟩)
    | (go_at_call 22; refine (and_nil A V _).mono ?_; rintro e w1 ⟨rfl, rfl⟩)
    | (go_at_call 23; refine (or_nil A V _).mono ?_; rintro e w1 ⟨rfl, rfl⟩)
    | (go_at_call 24; refine (count_nil _).mono ?_; rintro e w1 ⟨rfl, rfl⟩)
    | (go_at_call 25; refine (last_nil _).mono ?_; rintro e wb ⟨rfl, hbb⟩; (have b1b := (hbb.cell (p := ⟨w.heap.size, 1, none⟩) (by show w.heap.size < _; rw [HZ.out]; omega)).trans B1.out); (have BBB := Lib.hid hbb); clear hbb)
    | (go_at_call 12; refine (peek_nil A _).mono ?_; rintro e w1 ⟨rfl, rfl⟩)
    | (go_at_call 16; refine (words_nil _).mono ?_; rintro e w1 ⟨rfl, rfl⟩))
  have hB := both_new wb wb.heap.size (Nat.le_refl _)
  have hb2 : Below wb.heap.size wb ((wb.alloc (.cells #[.map none, .int .i64 0, .int .u8 0, .int .u32 0, .int .u64 0, .int .u64 0] 54)).alloc (.cells #[.slice none 0 0, .int .i64 0, .int .u8 0, .int .u32 0, .int .u64 0, .int .u64 0] 56)) := ((Below.refl _ _).alloc (Nat.le_refl _) _).alloc (by simp) _
  have hbox : w.heap.size < wb.heap.size := by have := BBB.out.size; rw [HZ.out] at this; omega
  have hbox2 : w.heap.size < wa.heap.size := by rw [HZ.out]; omega
  have BB := Lib.hid hB; have BW := Lib.hid hb2
  clear hB hb2 b1b b0 b1 b2 b3 b4 hn50
  generalize (wb.alloc (.cells #[.map none, .int .i64 0, .int .u8 0, .int .u32 0, .int .u64 0, .int .u64 0] 54)).alloc (.cells #[.slice none 0 0, .int .i64 0, .int .u8 0, .int .u32 0, .int .u64 0, .int .u64 0] 56) = w2 at *
  refine (same_any w2 wb.heap.size wb.heap.size (wb.heap.size + 1) [] 0 0 0 0 0 BB.out).mono ?_
  rintro e w3 ⟨rfl, h3⟩
  have BO3 := Lib.hid (BB.out.new h3)
  have hw3 : Below wb.heap.size wb w3 := BW.out.trans (h3.mono BB.out.size)
  have r0 := ((hw3.cell (p := ⟨w.heap.size, 0, none⟩) (by exact hbox)).trans (BBB.out.cell (p := ⟨w.heap.size, 0, none⟩) (by exact hbox2))).trans BB0.out
  have r1 := ((hw3.cell (p := ⟨w.heap.size, 1, none⟩) (by exact hbox)).trans (BBB.out.cell (p := ⟨w.heap.size, 1, none⟩) (by exact hbox2))).trans B1.out
  have r2 := ((hw3.cell (p := ⟨w.heap.size, 2, none⟩) (by exact hbox)).trans (BBB.out.cell (p := ⟨w.heap.size, 2, none⟩) (by exact hbox2))).trans BB2.out
  have r3 := ((hw3.cell (p := ⟨w.heap.size, 3, none⟩) (by exact hbox)).trans (BBB.out.cell (p := ⟨w.heap.size, 3, none⟩) (by exact hbox2))).trans BB3.out
  have r4 := ((hw3.cell (p := ⟨w.heap.size, 4, none⟩) (by exact hbox)).trans (BBB.out.cell (p := ⟨w.heap.size, 4, none⟩) (by exact hbox2))).trans BB4.out
  have HW3 := Lib.hid hw3
  clear h3 hw3
  go_wp2_with fail
  refine (do_any w3 wb.heap.size wb.heap.size (wb.heap.size + 1) [] 0 0 0 0 0 K A V U Rg BO3.out hA hV (by omega)).mono ?_
  rintro e w4 ⟨rfl, L, k, a, was, is, h4, b4⟩
  have BO4 := Lib.hid h4; have B4 := Lib.hid b4
  clear h4 b4 r0 r1 r2 r3 r4
  go_wp2_with fail
  refine (same_any w4 wb.heap.size wb.heap.size (wb.heap.size + 1) L 1 k a was is BO4.out).mono ?_
  rintro e w5 ⟨rfl, h5⟩
  have B5 := Lib.hid h5
  clear h5
  go_wp2_with fail
  refine (HL.out _).mono ?_
  rintro e w6 ⟨rfl, h6⟩
  have B6 := Lib.hid h6
  clear h6
  go_wp2_with fail
  go_ret
  have s1 := BO4.out.size
  have s2 := B5.out.size
  have hws : w.heap.size ≤ wb.heap.size := by omega
  exact ⟨rfl, ((((BA.out.trans (BBB.out.mono (by omega))).trans (HW3.out.mono hws)).trans (B4.out.mono hws)).trans (B5.out.mono (by omega))).trans (B6.out.mono (by omega))⟩
end Go.Proofs.Ytikjlmlbbjbcmaa
