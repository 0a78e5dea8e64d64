/- New cells of nothing; no words; the chapter's examples. -/
import Derived.Test.YtikjlmlbbjbcmaaC4
namespace Go.Proofs.Ytikjlmlbbjbcmaa
open Go.RowKit Go.Maps Go.ChangeMaps Go.MapKept

theorem CellsAt.len {w : World} {B : Nat} {M : Option Nat} {L : LL} {n k a0 was is : Nat} (h : CellsAt w B M L n k a0 was is) (ty : TypeId) :
    (Builtin.len_ #[52] ty #[.map M]).run Try.prog w = .ok (.int .i64 (L.length : Nat)) w := by
  cases M with
  | none => rw [h.non rfl]; exact len_nil (w := w) Try.underlying52 ty
  | some m => rw [(h.som m rfl).2.len Try.underlying52 ty, DL_size]
/-- New cells: no access was made. -/
abbrev Fresh (w : World) (B : Nat) (L : LL) : Prop := ∃ M, CellsAt w B M L 0 0 0 0 0 ∧ B < w.heap.size
set_option maxHeartbeats 1000000 in
theorem new_none (w : World) : Calls Try.prog 8 #[.slice none 0 0] w fun e w' => e = .returned (.pointer (some ⟨w.heap.size, 0, none⟩)) ∧ CellsAt w' w.heap.size none [] 0 0 0 0 0 ∧ Below w.heap.size w w' := by
  go_enter Try.func8, Try.ntmps8
  go_wp2
  refine wp_loop_rounds 1 ?_
  rw [rounds_succ]
  go_wp2
  go_ret
  exact ⟨rfl, ⟨good_nil, heap_alloc_new w _, fun _ => rfl, fun m e => by cases e⟩, (Below.refl _ _).alloc (Nat.le_refl _) _⟩
set_option maxHeartbeats 1000000 in
theorem words_none (w : World) (B : Nat) (M : Option Nat) (n k0 a0 was is : Nat) (h : CellsAt w B M [] n k0 a0 was is) :
    Calls Try.prog 16 #[.pointer (some ⟨B, 0, none⟩)] w fun e w' => e = .returned (.slice none 0 0) ∧ w = w' := by
  have c0 : w.cell? ⟨B, 0, none⟩ = some (.map M) := cell_row h.row 0
  have hl := fun ty => h.len ty
  simp only [List.length_nil] at hl
  clear h
  go_enter Try.func16, Try.ntmps16
  go_wp2
  go_ret
  exact ⟨rfl, rfl⟩
abbrev Pt (B : Nat) : Value := .pointer (some ⟨B, 0, none⟩)
/-- What every access leaves. -/
def Left (w w' : World) (B : Nat) (M : Option Nat) (L : LL) (n k a was is : Nat) : Prop := ∃ M', CellsAt w' B M' L n k a was is ∧ Same w M M' ∧ Turns (Fp B M) w w'
theorem ex_store (w : World) (B : Nat) (M : Option Nat) (h : CellsAt w B M [] 0 0 0 0 0) : Calls Try.prog 19 #[Pt B, .int .u32 1024, .int .u64 258] w fun e w' => e = .returned (.int .u64 0) ∧ Left w w' B M [(1024, 2)] 1 2 1024 0 2 :=
  store_any w B M [] 0 0 0 0 0 1024 258 h (by omega) (by omega) (by omega)
theorem ex_load (w : World) (B : Nat) (M : Option Nat) (h : CellsAt w B M [(1024, 2)] 1 2 1024 0 2) : Calls Try.prog 18 #[Pt B, .int .u32 1024] w fun e w' => e = .returned (.int .u64 2) ∧ Left w w' B M [(1024, 2)] 2 1 1024 2 2 :=
  load_any w B M [(1024, 2)] 1 2 1024 0 2 1024 h (by omega) (by omega)
theorem ex_or (w : World) (B : Nat) (M : Option Nat) (h : CellsAt w B M [(1024, 2)] 2 1 1024 2 2) : Calls Try.prog 23 #[Pt B, .int .u32 1024, .int .u64 1] w fun e w' => e = .returned (.int .u64 2) ∧ Left w w' B M [(1024, 3)] 3 7 1024 2 3 :=
  or_any w B M [(1024, 2)] 2 1 1024 2 2 1024 1 h (by omega) (by omega) (by omega)
theorem ex_cas (w : World) (B : Nat) (M : Option Nat) (h : CellsAt w B M [(1024, 3)] 3 7 1024 2 3) : Calls Try.prog 17 #[Pt B, .int .u32 1024, .int .u64 3, .int .u64 1] w fun e w' => e = .returned (.tuple #[.int .u64 3, .bool true]) ∧ Left w w' B M [(1024, 1)] 4 3 1024 3 1 :=
  cas_any w B M [(1024, 3)] 3 7 1024 2 3 1024 3 1 h (by omega) (by omega) (by omega)
theorem ex_add (w : World) (B : Nat) (M : Option Nat) (h : CellsAt w B M [(1024, 1)] 4 3 1024 3 1) : Calls Try.prog 21 #[Pt B, .int .u32 1024, .int .u64 255] w fun e w' => e = .returned (.int .u64 1) ∧ Left w w' B M [] 5 5 1024 1 0 :=
  add_any w B M [(1024, 1)] 4 3 1024 3 1 1024 255 h (by omega) (by omega) (by omega)
theorem ex_count (w : World) (B : Nat) (M : Option Nat) (h : CellsAt w B M [] 5 5 1024 1 0) : Calls Try.prog 24 #[Pt B] w fun e w' => e = .returned (.int .i64 5) ∧ w = w' :=
  count_any w B M [] 5 5 1024 1 0 h
/-- Cells of the call's own: all their blocks from base on. -/
theorem Left.below {w w' : World} {B : Nat} {M : Option Nat} {L : LL} {n k a was is base : Nat} (h : Left w w' B M L n k a was is) (hb : base ≤ w.heap.size) (hB : base ≤ B) (hM : ∀ m, M = some m → base ≤ m) :
    ∃ M', CellsAt w' B M' L n k a was is ∧ (∀ m, M' = some m → base ≤ m) ∧ Below base w w' := by
  obtain ⟨M', hc, hs, ht⟩ := h
  refine ⟨M', hc, fun m e => ?_, ht.below hb (fun k hk hf => ?_)⟩
  · rcases hs m e with e | e
    · exact hM m e
    · omega
  · rcases hf with rfl | e
    · omega
    · have := hM k e; omega
set_option maxHeartbeats 2000000 in
theorem lives_any (w : World) : Calls Try.prog 7 #[] w fun e w' => e = .returned (.bool true) ∧ Below w.heap.size w w' := by
  have q := new_none w
  have Q := Lib.hid q
  obtain ⟨b, hb⟩ : ∃ b, b = w.heap.size := ⟨_, rfl⟩
  rw [← hb] at Q
  have HB := Lib.hid hb
  clear q hb
  have hbb : b ≤ w.heap.size := by rw [HB.out]; exact Nat.le_refl _
  have x1 := ex_store
  have x2 := ex_load
  have x3 := ex_or
  have x4 := ex_cas
  have x5 := ex_add
  have x6 := words_none
  have x7 := ex_count
  have X1 := Lib.hid x1
  have X2 := Lib.hid x2
  have X3 := Lib.hid x3
  have X4 := Lib.hid x4
  have X5 := Lib.hid x5
  have X6 := Lib.hid x6
  have X7 := Lib.hid x7
  clear x1 x2 x3 x4 x5 x6 x7
  go_enter Try.func7, Try.ntmps7
  go_wp2_with fail
  refine Q.out.mono ?_
  rintro e w1 ⟨rfl, c1, b1⟩
  have z1 : b ≤ w1.heap.size := Nat.le_trans hbb b1.size
  have C1 := Lib.hid c1; have B1 := Lib.hid b1; clear c1 b1
  go_wp2_with fail
  refine (X1.out w1 b none C1.out).mono ?_
  rintro e w2 ⟨rfl, l2⟩
  obtain ⟨M2, c2, m2, b2⟩ := l2.below z1 (Nat.le_refl _) (fun m e => by cases e)
  have z2 : b ≤ w2.heap.size := Nat.le_trans z1 b2.size
  have C2 := Lib.hid c2; have B2 := Lib.hid b2; have N2 := Lib.hid m2; clear c2 b2 l2 m2
  go_wp2_with fail
  refine (X2.out w2 b M2 C2.out).mono ?_
  rintro e w3 ⟨rfl, l3⟩
  obtain ⟨M3, c3, m3, b3⟩ := l3.below z2 (Nat.le_refl _) N2.out
  have z3 : b ≤ w3.heap.size := Nat.le_trans z2 b3.size
  have C3 := Lib.hid c3; have B3 := Lib.hid b3; have N3 := Lib.hid m3; clear c3 b3 l3 m3
  go_wp2_with fail
  refine (X3.out w3 b M3 C3.out).mono ?_
  rintro e w4 ⟨rfl, l4⟩
  obtain ⟨M4, c4, m4, b4⟩ := l4.below z3 (Nat.le_refl _) N3.out
  have z4 : b ≤ w4.heap.size := Nat.le_trans z3 b4.size
  have C4 := Lib.hid c4; have B4 := Lib.hid b4; have N4 := Lib.hid m4; clear c4 b4 l4 m4
  go_wp2_with fail
  refine (X4.out w4 b M4 C4.out).mono ?_
  rintro e w5 ⟨rfl, l5⟩
  obtain ⟨M5, c5, m5, b5⟩ := l5.below z4 (Nat.le_refl _) N4.out
  have z5 : b ≤ w5.heap.size := Nat.le_trans z4 b5.size
  have C5 := Lib.hid c5; have B5 := Lib.hid b5; have N5 := Lib.hid m5; clear c5 b5 l5 m5
  go_wp2_with fail
  refine (X5.out w5 b M5 C5.out).mono ?_
  rintro e w6 ⟨rfl, l6⟩
  obtain ⟨M6, c6, m6, b6⟩ := l6.below z5 (Nat.le_refl _) N5.out
  have C6 := Lib.hid c6; have B6 := Lib.hid b6; clear c6 b6 l6 m6
  go_wp2_with fail
  refine (X6.out w6 b M6 5 5 1024 1 0 C6.out).mono ?_
  rintro e w7 ⟨rfl, rfl⟩
  go_wp2_with fail
  refine (X7.out w6 b M6 C6.out).mono ?_
  rintro e w7 ⟨rfl, rfl⟩
  go_wp2
  go_ret
  refine ⟨rfl, ?_⟩
  rw [← HB.out]
  exact ((((((B1.out.mono (by rw [HB.out]; exact Nat.le_refl _)).trans B2.out).trans B3.out).trans B4.out).trans B5.out).trans B6.out)
end Go.Proofs.Ytikjlmlbbjbcmaa
