/- Texts of this seat, one behind the other. -/
import Derived.Test.YtokplfkhpjcfcaaGreatMLawAny1531
set_option linter.unusedVariables false
set_option linter.unusedSimpArgs false
set_option linter.unusedVariables false
set_option linter.unusedSimpArgs false
namespace Go.Proofs.YtokplfkhpjcfcaaGreat.S15
set_option maxRecDepth 100000
set_option maxHeartbeats 16000000
open Go.Proofs.YtokplfkhpjcfcaaGreat Go.Proofs.YtokplfkhpjcfcaaGreat.S11 Go.Proofs.YtokplfkhpjcfcaaGreat.S12 Go.Proofs.YtokplfkhpjcfcaaGreat.S13 Go.Proofs.YtokplfkhpjcfcaaGreat.S14
open Go.RowKit
abbrev zeroW : Array Value := #[.slice none 0 0, .int .i64 0, .int .i64 0, .pointer none, .pointer none, .int .i64 0, .int .i64 0, .bool false, .nilIface]
theorem wover_z {w : World} {B T : Nat} (h : w.heap[B]? = some (.cells zeroW T (0, 0))) : Calls Tryz.prog 49 #[Pw B] w fun e w' => e = .returned (.bool true) ∧ Below w.heap.size w w' := by
  have c0 : w.cell? ⟨B, 0, none⟩ = some (.slice none 0 0) := cell_row h 0
  have c1 : w.cell? ⟨B, 1, none⟩ = some (.int .i64 0) := cell_row h 1
  clear h
  go_enter Tryz.func49, Tryz.ntmps49
  go_upto_region 1 with (fail)
  go_quiet (fail)
  go_wp2_with fail
  go_ret
  exact ⟨rfl, below_n _ _⟩
theorem wgot_z {w : World} {B T : Nat} (h : w.heap[B]? = some (.cells zeroW T (0, 0))) : Calls Tryz.prog 48 #[Pw B] w fun e w' => e = .returned (.tuple #[plV 0 0, .int .u32 0]) ∧ Below w.heap.size w w' := by
  have hov1 := wover_z ((alloc_lt (ob := .cells #[.int .i64 0, .int .i64 0] 27) (heap_lt h)).trans h)
  have hh := (alloc_lt (ob := .cells #[.int .i64 0, .int .i64 0] 27) (heap_lt h)).trans h
  obtain ⟨Q, hQ⟩ : ∃ Q, Q = w.heap.size := ⟨_, rfl⟩
  have ha := heap_alloc_new w (.cells #[.int .i64 0, .int .i64 0] 27)
  rw [← hQ] at ha
  have HOV := Lib.hid hov1; have HQ := Lib.hid hQ; have HA := Lib.hid ha; have HH := Lib.hid hh
  have HB := Lib.hid (below1 w (.cells #[.int .i64 0, .int .i64 0] 27))
  clear h hov1 hQ ha hh
  go_enter Tryz.func48, Tryz.ntmps48
  go_upto_region 1 with (fail)
  rw [← HQ.out]
  generalize w.alloc (.cells #[.int .i64 0, .int .i64 0] 27) = w1 at *
  have a3 : ∀ W, Below w1.heap.size w1 W → W.cell? ⟨B, 3, none⟩ = some (.pointer none) := fun W hb => cell_row ((hb.block B (heap_lt HH.out)).trans HH.out) 3
  have A3 := Lib.hid a3
  clear a3
  go_upto_region 2 with (go_at_call 49; refine HOV.out.mono ?_; rintro e w2 ⟨rfl, hb2⟩; have HB2 := Lib.hid hb2; have c3 := A3.out _ hb2; clear hb2)
  have l1 : w2.heap[Q]? = some (.cells #[.int .i64 0, .int .i64 0] 27) := by rw [HB2.out.block Q (heap_lt HA.out)]; exact HA.out
  have q0 : w2.cell? ⟨Q, 0, none⟩ = some (.int .i64 0) := cell_row l1 0
  have q1 : w2.cell? ⟨Q, 1, none⟩ = some (.int .i64 0) := cell_row l1 1
  have z0 := froz_row l1 0; have z1 := froz_row l1 1
  have L1 := Lib.hid l1
  clear l1 c3
  go_wp2_with fail
  have l2 : ((w2.setCell ⟨Q, 0, none⟩ (.int .i64 0)).setCell ⟨Q, 1, none⟩ (.int .i64 0)).heap[Q]? = some (.cells #[.int .i64 0, .int .i64 0] 27) := set_blk (set_blk L1.out 0 (.int .i64 0) _ rfl) 1 (.int .i64 0) _ rfl
  have t : Turns (fun k => k = Q) w2 ((w2.setCell ⟨Q, 0, none⟩ (.int .i64 0)).setCell ⟨Q, 1, none⟩ (.int .i64 0)) := ((Turns.refl (fun k => k = Q) w2).setCell ⟨Q, 0, none⟩ _ rfl).setCell ⟨Q, 1, none⟩ _ rfl
  generalize (w2.setCell ⟨Q, 0, none⟩ (.int .i64 0)).setCell ⟨Q, 1, none⟩ (.int .i64 0) = w3 at *
  have p0 : w3.cell? ⟨Q, 0, none⟩ = some (.int .i64 0) := cell_row l2 0
  have p1 : w3.cell? ⟨Q, 1, none⟩ = some (.int .i64 0) := cell_row l2 1
  clear q0 q1 z0 z1 l2
  refine bodyPost_ret (v := .tuple #[plV 0 0, .int .u32 0]) (by simp [results, Tryz.results48, go_sem, p0, p1]) rfl ⟨rfl, below_turn HB.out HB2.out t HQ.out⟩
theorem eover_z {w : World} {B : Nat} (h : w.heap[B]? = some (.cells zeroW 57 (0, 0))) : Calls Tryz.prog 16 #[Pw B] w fun e w' => e = .returned (.bool true) ∧ Below w.heap.size w w' := by
  have HW := Lib.hid (wover_z h)
  clear h
  go_enter Tryz.func16, Tryz.ntmps16
  go_wp2_with (go_at_call 49; refine HW.out.mono ?_; rintro e w1 ⟨rfl, hb⟩)
  go_ret
  exact ⟨rfl, hb⟩
theorem estep_nil (u : Value) (w : World) : Calls Tryz.prog 17 #[.pointer none, u] w fun e w' => e = .returned (.bool true) ∧ w = w' := by
  have HO := Lib.hid (fun W => eover_nil W)
  go_enter Tryz.func17, Tryz.ntmps17
  go_upto_region 3 with (go_at_call 16; refine (HO.out _).mono ?_; rintro e w2 ⟨rfl, rfl⟩)
  go_wp2_with (go_at_call 16; refine (HO.out _).mono ?_; rintro e w2 ⟨rfl, rfl⟩)
  go_ret
  exact ⟨rfl, rfl⟩
theorem estep_z {w : World} {B : Nat} (h : w.heap[B]? = some (.cells zeroW 57 (0, 0))) (u : Value) : Calls Tryz.prog 17 #[Pw B, u] w fun e w' => e = .returned (.bool true) ∧ Below w.heap.size w w' := by
  have HO := Lib.hid (fun (W : World) (hb : Below w.heap.size w W) => eover_z ((hb.block B (heap_lt h)).trans h))
  clear h
  go_enter Tryz.func17, Tryz.ntmps17
  go_upto_region 3 with (go_at_call 16; refine (HO.out _ (Below.refl _ _)).mono ?_; rintro e w2 ⟨rfl, hb2⟩; have HB2 := Lib.hid hb2; clear hb2)
  go_wp2_with (go_at_call 16; refine (HO.out _ HB2.out).mono ?_; rintro e w3 ⟨rfl, hb3⟩; have HB3 := Lib.hid hb3; clear hb3)
  go_ret
  exact ⟨rfl, HB2.out.trans (HB3.out.mono HB2.out.size)⟩
theorem egot_nil (w : World) : Calls Tryz.prog 18 #[.pointer none] w fun e w' => e = .returned (plV 0 0) ∧ Below w.heap.size w w' := by
  go_enter Tryz.func18, Tryz.ntmps18
  go_wp2_with fail
  refine bodyPost_ret (v := plV 0 0) (by simp [results, Tryz.results18, go_sem]) rfl ⟨rfl, ?_⟩
  exact below1 w _
theorem oover_z {w : World} {B : Nat} (h : w.heap[B]? = some (.cells zeroW 58 (0, 0))) : Calls Tryz.prog 19 #[Pw B] w fun e w' => e = .returned (.bool true) ∧ Below w.heap.size w w' := by
  have HW := Lib.hid (wover_z h)
  clear h
  go_enter Tryz.func19, Tryz.ntmps19
  go_wp2_with (go_at_call 49; refine HW.out.mono ?_; rintro e w1 ⟨rfl, hb⟩)
  go_ret
  exact ⟨rfl, hb⟩
theorem ostep_nil (u : Value) (w : World) : Calls Tryz.prog 20 #[.pointer none, u] w fun e w' => e = .returned (.bool true) ∧ w = w' := by
  have HO := Lib.hid (fun W => oover_nil W)
  go_enter Tryz.func20, Tryz.ntmps20
  go_upto_region 3 with (go_at_call 19; refine (HO.out _).mono ?_; rintro e w2 ⟨rfl, rfl⟩)
  go_wp2_with (go_at_call 19; refine (HO.out _).mono ?_; rintro e w2 ⟨rfl, rfl⟩)
  go_ret
  exact ⟨rfl, rfl⟩
theorem ostep_z {w : World} {B : Nat} (h : w.heap[B]? = some (.cells zeroW 58 (0, 0))) (u : Value) : Calls Tryz.prog 20 #[Pw B, u] w fun e w' => e = .returned (.bool true) ∧ Below w.heap.size w w' := by
  have HO := Lib.hid (fun (W : World) (hb : Below w.heap.size w W) => oover_z ((hb.block B (heap_lt h)).trans h))
  clear h
  go_enter Tryz.func20, Tryz.ntmps20
  go_upto_region 3 with (go_at_call 19; refine (HO.out _ (Below.refl _ _)).mono ?_; rintro e w2 ⟨rfl, hb2⟩; have HB2 := Lib.hid hb2; clear hb2)
  go_wp2_with (go_at_call 19; refine (HO.out _ HB2.out).mono ?_; rintro e w3 ⟨rfl, hb3⟩; have HB3 := Lib.hid hb3; clear hb3)
  go_ret
  exact ⟨rfl, HB2.out.trans (HB3.out.mono HB2.out.size)⟩
theorem ogot_nil (w : World) : Calls Tryz.prog 15 #[.pointer none] w fun e w' => e = .returned (.tuple #[plV 0 0, .int .u32 0]) ∧ Below w.heap.size w w' := by
  go_enter Tryz.func15, Tryz.ntmps15
  go_wp2_with fail
  refine bodyPost_ret (v := .tuple #[plV 0 0, .int .u32 0]) (by simp [results, Tryz.results15, go_sem]) rfl ⟨rfl, ?_⟩
  exact below1 w _
theorem ogot_z {w : World} {B : Nat} (h : w.heap[B]? = some (.cells zeroW 58 (0, 0))) : Calls Tryz.prog 15 #[Pw B] w fun e w' => e = .returned (.tuple #[plV 0 0, .int .u32 0]) ∧ Below w.heap.size w w' := by
  have hg := wgot_z ((alloc_lt (ob := .cells #[.int .i64 0, .int .i64 0] 27) (heap_lt h)).trans h)
  obtain ⟨Q, hQ⟩ : ∃ Q, Q = w.heap.size := ⟨_, rfl⟩
  have ha := heap_alloc_new w (.cells #[.int .i64 0, .int .i64 0] 27)
  rw [← hQ] at ha
  have HG := Lib.hid hg; have HQ := Lib.hid hQ; have HA := Lib.hid ha; have HB := Lib.hid (below1 w (.cells #[.int .i64 0, .int .i64 0] 27))
  clear h hg hQ ha
  go_enter Tryz.func15, Tryz.ntmps15
  go_upto_region 1 with (fail)
  rw [← HQ.out]
  generalize w.alloc (.cells #[.int .i64 0, .int .i64 0] 27) = w1 at *
  go_upto_region 3 with (fail)
  have HG2 : Hid (Calls Tryz.prog 48 #[Pw B] w1 fun e w' => e = .returned (.tuple #[plV 0 0, .int .u32 0]) ∧ (Below w1.heap.size w1 w' ∧ w'.cell? ⟨Q, 0, none⟩ = some (.int .i64 0) ∧ w'.cell? ⟨Q, 1, none⟩ = some (.int .i64 0) ∧ w'.frozen? ⟨Q, 0, none⟩ = false ∧ w'.frozen? ⟨Q, 1, none⟩ = false)) := Lib.hid (HG.out.mono (by
    rintro e w' ⟨rfl, hb2⟩
    have l1 : w'.heap[Q]? = some (.cells #[.int .i64 0, .int .i64 0] 27) := by rw [hb2.block Q (heap_lt HA.out)]; exact HA.out
    exact ⟨rfl, hb2, cell_row l1 0, cell_row l1 1, froz_row l1 0, froz_row l1 1⟩))
  clear HG
  go_wp2_with (go_at_call 48; refine HG2.out.mono ?_; rintro e w2 ⟨rfl, hb2, q0, q1, z0, z1⟩; have HB2 := Lib.hid hb2; clear hb2)
  have l1 : w2.heap[Q]? = some (.cells #[.int .i64 0, .int .i64 0] 27) := by rw [HB2.out.block Q (heap_lt HA.out)]; exact HA.out
  have l2 : ((w2.setCell ⟨Q, 0, none⟩ (.int .i64 0)).setCell ⟨Q, 1, none⟩ (.int .i64 0)).heap[Q]? = some (.cells #[.int .i64 0, .int .i64 0] 27) := set_blk (set_blk l1 0 (.int .i64 0) _ rfl) 1 (.int .i64 0) _ rfl
  have t : Turns (fun k => k = Q) w2 ((w2.setCell ⟨Q, 0, none⟩ (.int .i64 0)).setCell ⟨Q, 1, none⟩ (.int .i64 0)) := ((Turns.refl (fun k => k = Q) w2).setCell ⟨Q, 0, none⟩ _ rfl).setCell ⟨Q, 1, none⟩ _ rfl
  generalize (w2.setCell ⟨Q, 0, none⟩ (.int .i64 0)).setCell ⟨Q, 1, none⟩ (.int .i64 0) = w3 at *
  have p0 : w3.cell? ⟨Q, 0, none⟩ = some (.int .i64 0) := cell_row l2 0
  have p1 : w3.cell? ⟨Q, 1, none⟩ = some (.int .i64 0) := cell_row l2 1
  clear q0 q1 z0 z1 l1 l2
  exact bodyPost_ret (v := .tuple #[plV 0 0, .int .u32 0]) (by simp [results, Tryz.results15, go_sem, p0, p1]) rfl ⟨rfl, below_turn HB.out HB2.out t HQ.out⟩
theorem egot_z {w : World} {B : Nat} (h : w.heap[B]? = some (.cells zeroW 57 (0, 0))) : Calls Tryz.prog 18 #[Pw B] w fun e w' => e = .returned (plV 0 0) ∧ Below w.heap.size w w' := by
  have hg := wgot_z ((alloc_lt (ob := .cells #[.int .i64 0, .int .i64 0] 27) (heap_lt h)).trans h)
  obtain ⟨Q, hQ⟩ : ∃ Q, Q = w.heap.size := ⟨_, rfl⟩
  have ha := heap_alloc_new w (.cells #[.int .i64 0, .int .i64 0] 27)
  rw [← hQ] at ha
  have HG := Lib.hid hg; have HQ := Lib.hid hQ; have HA := Lib.hid ha; have HB := Lib.hid (below1 w (.cells #[.int .i64 0, .int .i64 0] 27))
  clear h hg hQ ha
  go_enter Tryz.func18, Tryz.ntmps18
  go_upto_region 1 with (fail)
  rw [← HQ.out]
  generalize w.alloc (.cells #[.int .i64 0, .int .i64 0] 27) = w1 at *
  go_upto_region 3 with (fail)
  go_upto_region 4 with (go_at_call 48; refine HG.out.mono ?_; rintro e w2 ⟨rfl, hb2⟩; have HB2 := Lib.hid hb2; clear hb2)
  have hb3 : Below w1.heap.size w1 (w2.alloc (.cells #[.int .i64 0, .int .i64 0] 27)) := HB2.out.trans ((below1 w2 (.cells #[.int .i64 0, .int .i64 0] 27)).mono HB2.out.size)
  have l3 := heap_alloc_new w2 (.cells #[.int .i64 0, .int .i64 0] 27)
  obtain ⟨N2, hN2⟩ : ∃ N2, N2 = w2.heap.size := ⟨_, rfl⟩
  rw [← hN2] at l3 ⊢
  have l1 : (w2.alloc (.cells #[.int .i64 0, .int .i64 0] 27)).heap[Q]? = some (.cells #[.int .i64 0, .int .i64 0] 27) := by rw [hb3.block Q (heap_lt HA.out)]; exact HA.out
  have HB3 := Lib.hid hb3
  clear hb3 hN2
  generalize w2.alloc (.cells #[.int .i64 0, .int .i64 0] 27) = w3 at *
  have n0 : w3.cell? ⟨N2, 0, none⟩ = some (.int .i64 0) := cell_row l3 0
  have n1 : w3.cell? ⟨N2, 1, none⟩ = some (.int .i64 0) := cell_row l3 1
  have q0 : w3.cell? ⟨Q, 0, none⟩ = some (.int .i64 0) := cell_row l1 0
  have q1 : w3.cell? ⟨Q, 1, none⟩ = some (.int .i64 0) := cell_row l1 1
  have z0 := froz_row l1 0; have z1 := froz_row l1 1
  have L1 := Lib.hid l1
  clear l1 l3
  go_wp2_with fail
  have l2 : ((w3.setCell ⟨Q, 0, none⟩ (.int .i64 0)).setCell ⟨Q, 1, none⟩ (.int .i64 0)).heap[Q]? = some (.cells #[.int .i64 0, .int .i64 0] 27) := set_blk (set_blk L1.out 0 (.int .i64 0) _ rfl) 1 (.int .i64 0) _ rfl
  have t : Turns (fun k => k = Q) w3 ((w3.setCell ⟨Q, 0, none⟩ (.int .i64 0)).setCell ⟨Q, 1, none⟩ (.int .i64 0)) := ((Turns.refl (fun k => k = Q) w3).setCell ⟨Q, 0, none⟩ _ rfl).setCell ⟨Q, 1, none⟩ _ rfl
  generalize (w3.setCell ⟨Q, 0, none⟩ (.int .i64 0)).setCell ⟨Q, 1, none⟩ (.int .i64 0) = w4 at *
  have p0 : w4.cell? ⟨Q, 0, none⟩ = some (.int .i64 0) := cell_row l2 0
  have p1 : w4.cell? ⟨Q, 1, none⟩ = some (.int .i64 0) := cell_row l2 1
  clear q0 q1 z0 z1 l2 n0 n1 L1
  exact bodyPost_ret (v := plV 0 0) (by simp [results, Tryz.results18, go_sem, p0, p1]) rfl ⟨rfl, below_turn HB.out HB3.out t HQ.out⟩
theorem new_enter_none {t : Int} (ht : t < 0 ∨ 64 ≤ t) (key : Nat) (w : World) : Calls Tryz.prog 13 #[.int .i64 t, .int .u32 (key : Int)] w fun e w' => e = .returned (Pw w.heap.size) ∧ w' = w.alloc (.cells zeroW 57) := by
  have hit := fun W => isT_any t W
  rw [decide_eq_false (show ¬ (0 ≤ t ∧ t < 64) by omega)] at hit
  have HIT := Lib.hid hit
  clear hit ht
  go_enter Tryz.func13, Tryz.ntmps13
  go_wp2_with (go_at_call 47; refine (HIT.out _).mono ?_; rintro e w1 ⟨rfl, rfl⟩)
  go_ret
  exact ⟨rfl, rfl⟩
theorem new_own_none {t : Int} (ht : t < 0 ∨ 64 ≤ t) (w : World) : Calls Tryz.prog 14 #[.int .i64 t] w fun e w' => e = .returned (Pw w.heap.size) ∧ w' = w.alloc (.cells zeroW 58) := by
  have hit := fun W => isT_any t W
  rw [decide_eq_false (show ¬ (0 ≤ t ∧ t < 64) by omega)] at hit
  have HIT := Lib.hid hit
  clear hit ht
  go_enter Tryz.func14, Tryz.ntmps14
  go_wp2_with (go_at_call 47; refine (HIT.out _).mono ?_; rintro e w1 ⟨rfl, rfl⟩)
  go_ret
  exact ⟨rfl, rfl⟩
end Go.Proofs.YtokplfkhpjcfcaaGreat.S15
set_option linter.unusedVariables false
set_option linter.unusedSimpArgs false
namespace Go.Proofs.YtokplfkhpjcfcaaGreat.S15
set_option maxRecDepth 100000
set_option maxHeartbeats 16000000
open Go.Proofs.YtokplfkhpjcfcaaGreat Go.Proofs.YtokplfkhpjcfcaaGreat.S11 Go.Proofs.YtokplfkhpjcfcaaGreat.S12 Go.Proofs.YtokplfkhpjcfcaaGreat.S13 Go.Proofs.YtokplfkhpjcfcaaGreat.S14
open Go.RowKit
theorem rbits_any (u : Nat) (w : World) : Calls Tryz.prog 6 #[.int .u64 (u : Int)] w fun e w' => e = .returned (.int .i64 (bitsN u : Int)) ∧ w = w' := by
  have HU : Hid (∀ i : Nat, 2 ≤ i → i ≤ 8 → i = u → bitsN u = i) := Lib.hid (fun i h1 h2 e => by subst e; unfold bitsN; rw [if_pos ⟨h1, h2⟩])
  have HN : Hid ((∀ k : Nat, 2 ≤ k → k < 9 → k ≠ u) → bitsN u = 2) := Lib.hid (fun h => by unfold bitsN; rw [if_neg (fun g => h u g.1 (by omega) rfl)])
  generalize bitsN u = bn at *
  go_enter Tryz.func6, Tryz.ntmps6
  go_wp2_with fail
  go_loopg [3] 7 (fun q s3 wx => ∃ i : Nat, 2 ≤ i ∧ i ≤ 9 ∧ q = 9 - i ∧ s3 = .int .i64 (i : Int) ∧ w = wx ∧ Hid (∀ k : Nat, 2 ≤ k → k < i → k ≠ u))
  case atStart => exact ⟨2, by omega, by omega, by omega, rfl, rfl, Lib.hid (fun k h1 h2 => by omega)⟩
  case round =>
    obtain ⟨i, hi, hi9, rfl, rfl, rfl, hk⟩ := hrel
    by_cases h8 : i ≤ 8
    · have d8 : decide ((i : Int) ≤ 8) = true := decide_eq_true (by omega)
      have ew : IntKind.u64.wrap (i : Int) = (i : Int) := by rw [IntKind.wrap_u64]; omega
      by_cases he : i = u
      · have hr := HU.out i hi h8 he
        have h1 : ((i : Int) == (u : Int)) = true := by simp [he]
        have h2 : decide ((i : Int) = (u : Int)) = true := by simp [he]
        have h3 : decide (i = u) = true := by simp [he]
        have HR := Lib.hid (show bn = u by omega); have HE := Lib.hid he
        clear hk he hr HU HN
        go_wp2_with fail
        go_ret
        exact ⟨by rw [HR.out]; first | rfl | (rw [HE.out]; rfl), rfl⟩
      · have h1 : ((i : Int) == (u : Int)) = false := by simp; omega
        have h2 : decide ((i : Int) = (u : Int)) = false := by simp; omega
        have h3 : decide (i = u) = false := by simp [he]
        have HE := Lib.hid he; have HI := Lib.hid (And.intro hi h8)
        clear he
        go_wp2_with fail
        go_roundg (9 - (i + 1))
        case measure => omega
        case rel => exact ⟨i + 1, by omega, by have := HI.out; omega, rfl, by go_num, rfl, Lib.hid (fun k g1 g2 => by
          by_cases e : k = i
          · rw [e]; exact HE.out
          · exact hk.out k g1 (by omega))⟩
    · obtain rfl : i = 9 := by omega
      have hr := HN.out hk.out
      have HR := Lib.hid hr
      clear hk hr HU HN h8
      go_wp2_with fail
      go_ret
      exact ⟨by rw [HR.out]; rfl, rfl⟩
theorem rplace_any (key u : Nat) (hk : key < 4294967296) (w : World) : Calls Tryz.prog 9 #[.int .u32 (key : Int), .int .u64 (u : Int)] w fun e w' => e = .returned (placeV key u) ∧ Below w.heap.size w w' := by
  have hb := fun W => rbits_any u W
  have hin := bits_in u
  have hh : ∀ W, Calls Tryz.prog 32 #[.int .u32 (key : Int), .int .i64 (bitsN u : Int)] W fun e w' => e = .returned (.int .i64 (bktN key u : Int)) ∧ W = w' := fun W => S10.rhash_yes key (bitsN u) hk hin.1 hin.2 W
  have HB := Lib.hid hb; have HH := Lib.hid hh
  unfold placeV
  generalize bitsN u = b at *
  generalize bktN key u = k at *
  clear hb hh hk hin
  go_enter Tryz.func9, Tryz.ntmps9
  go_wp2_with (first
    | (go_at_call 6; refine (HB.out _).mono ?_; rintro e w2 ⟨rfl, rfl⟩)
    | (go_at_call 32; refine (HH.out _).mono ?_; rintro e w3 ⟨rfl, rfl⟩))
  exact bodyPost_ret (v := .agg #[.int .i64 (b : Int), .int .i64 (k : Int)]) (by simp [results, Tryz.results9, go_sem]) rfl ⟨rfl, below1 w _⟩
theorem rsize_le (b : Int) : S10.sizeN b ≤ 256 := by
  unfold S10.sizeN
  split
  · rename_i h
    calc 2 ^ b.toNat ≤ 2 ^ 8 := Nat.pow_le_pow_right (by omega) (by omega)
      _ = 256 := rfl
  · omega
theorem rlock_any (b i : Int) (w : World) : Calls Tryz.prog 34 #[.int .i64 b, .int .i64 i] w fun e w' => e = .returned (.int .u32 (S10.lockZ b i)) ∧ w = w' := by
  have q := fun W => S10.rsize_any b W
  have hn := rsize_le b
  unfold S10.lockZ
  generalize S10.sizeN b = n at *
  have Q := Lib.hid q
  clear q
  by_cases h0 : i < 0
  · rw [if_pos (Or.inl h0)]
    have d0 : decide (i < 0) = true := decide_eq_true h0
    go_enter Tryz.func34, Tryz.ntmps34
    go_wp2_with (go_at_call 70; refine (Q.out _).mono ?_; rintro e w' ⟨rfl, rfl⟩)
    go_ret
    exact ⟨rfl, rfl⟩
  · have d0 : decide (i < 0) = false := decide_eq_false h0
    by_cases h1 : (n : Int) ≤ i
    · rw [if_pos (Or.inr h1)]
      have d1 : decide ((n : Int) ≤ i) = true := decide_eq_true h1
      go_enter Tryz.func34, Tryz.ntmps34
      go_wp2_with (go_at_call 70; refine (Q.out _).mono ?_; rintro e w' ⟨rfl, rfl⟩)
      go_ret
      exact ⟨rfl, rfl⟩
    · rw [if_neg (by omega)]
      have d1 : decide ((n : Int) ≤ i) = false := decide_eq_false h1
      have e1 : IntKind.i64.wrap (256 + (n : Int)) = 256 + (n : Int) := by rw [IntKind.wrap_i64]; omega
      have e2 : IntKind.i64.wrap (256 + (n : Int) + i) = 256 + (n : Int) + i := by rw [IntKind.wrap_i64]; omega
      have e3 : IntKind.u32.wrap (256 + (n : Int) + i) = 256 + ((n : Int) + i) := by rw [IntKind.wrap_u32]; omega
      clear hn h0 h1
      go_enter Tryz.func34, Tryz.ntmps34
      go_wp2_with (go_at_call 70; refine (Q.out _).mono ?_; rintro e w' ⟨rfl, rfl⟩)
      go_ret
      exact ⟨rfl, rfl⟩
theorem rlockOf_any (b i : Int) (w : World) : Calls Tryz.prog 11 #[.agg #[.int .i64 b, .int .i64 i]] w fun e w' => e = .returned (.int .u32 (S10.lockZ b i)) ∧ Below w.heap.size w w' := by
  have HL := Lib.hid (fun W => rlock_any b i W)
  generalize S10.lockZ b i = a at *
  go_enter Tryz.func11, Tryz.ntmps11
  go_wp2_with (go_at_call 34; refine (HL.out _).mono ?_; rintro e w2 ⟨rfl, rfl⟩)
  go_ret
  exact ⟨rfl, below1 _ _⟩
end Go.Proofs.YtokplfkhpjcfcaaGreat.S15
