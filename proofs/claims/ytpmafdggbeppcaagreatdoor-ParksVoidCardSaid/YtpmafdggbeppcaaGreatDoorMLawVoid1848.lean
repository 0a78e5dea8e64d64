/- Texts of this seat, one behind the other. -/
import Derived.Test.YtpmafdggbeppcaaGreatDoorMLawVoid1826
import Derived.Test.YtpmafdggbeppcaaGreatDoorMLawVoid1847
set_option linter.unusedVariables false
set_option linter.unusedSimpArgs false
set_option linter.unusedVariables false
set_option linter.unusedSimpArgs false
namespace Go.Proofs.YtpmafdggbeppcaaGreatDoor.S18
set_option maxRecDepth 100000
set_option maxHeartbeats 16000000
open Go.Proofs.YtpmafdggbeppcaaGreatDoor Go.Proofs.YtpmafdggbeppcaaGreatDoor.S11 Go.Proofs.YtpmafdggbeppcaaGreatDoor.S12 Go.Proofs.YtpmafdggbeppcaaGreatDoor.S13 Go.Proofs.YtpmafdggbeppcaaGreatDoor.S14 Go.Proofs.YtpmafdggbeppcaaGreatDoor.S15 Go.Proofs.YtpmafdggbeppcaaGreatDoor.S16
open Go.RowKit
section
variable {w w' : World} {B : Nat} {D : Pd} {pb pi : Int} {p b : Value} {o : Nat}
theorem do_b (h : w.heap[B]? = some (pkO D pb pi p b o)) (T : TypeId) (v : Value) (f : Fn) (bs cs : Array Value) :
    Calls Tryz.prog 95 #[Pw B, .iface T v, .func f bs cs] w fun e w' => e = .returned (.tuple #[]) ∧ w'.heap[B]? = some (pkO D pb pi (.iface T v) (.func f bs cs) o) ∧ Turns (fun k => k = B) w w' := by
  have c8 : w.cell? ⟨B, 8, none⟩ = some p := cell_row h 8
  have c9 : w.cell? ⟨B, 9, none⟩ = some b := cell_row h 9
  have f8 := froz_row h 8
  have f9 := froz_row h 9
  have h1 : (w.setCell ⟨B, 8, none⟩ (.iface T v)).heap[B]? = some (.cells (pkC D pb pi (.iface T v) b o) 50 (0, 0)) := set_blk h 8 (.iface T v) _ rfl
  have h2 : ((w.setCell ⟨B, 8, none⟩ (.iface T v)).setCell ⟨B, 9, none⟩ (.func f bs cs)).heap[B]? = some (.cells (pkC D pb pi (.iface T v) (.func f bs cs) o) 50 (0, 0)) := set_blk h1 9 (.func f bs cs) _ rfl
  have t : Turns (fun k => k = B) w ((w.setCell ⟨B, 8, none⟩ (.iface T v)).setCell ⟨B, 9, none⟩ (.func f bs cs)) := ((Turns.refl (fun k => k = B) w).setCell ⟨B, 8, none⟩ _ rfl).setCell ⟨B, 9, none⟩ _ rfl
  have H2 := Lib.hid h2; have HT := Lib.hid t
  have e1 := eqI T v
  clear h h1 h2 t
  go_enter Tryz.func95, Tryz.ntmps95
  go_wp2_with fail
  go_end0
  exact ⟨rfl, H2.out, HT.out⟩
theorem enter_b (h : w.heap[B]? = some (pkO D pb pi p b o)) (ht : D.t < 64) (hk : D.k < 4294967296) :
    Calls Tryz.prog 48 #[Pw B] w fun e' w' => e' = .returned (.tuple #[]) ∧ (∃ U q, w'.heap[B]? = some (pkO D pb pi (.iface 234 (Pw U)) q o)) ∧ Turns (fun k => k = B) w w' := by
  have hB : B < w.heap.size := heap_lt h
  have b1 := below1 w (xO B)
  have h1 := (b1.block B hB).trans h
  have y1 : (w.alloc (xO B)).heap[w.heap.size]? = some (xO B) := heap_alloc_new w _
  obtain ⟨XB, hX⟩ : ∃ XB, XB = w.heap.size := ⟨_, rfl⟩
  rw [← hX] at y1
  have HN := Lib.hid (fun W => new_enter D.t D.k ht hk W)
  obtain ⟨w1, hw1⟩ : ∃ w1, w1 = w.alloc (xO B) := ⟨_, rfl⟩
  rw [← hw1] at y1 h1 b1
  have HX := Lib.hid hX; have HW1 := Lib.hid hw1
  have c0 : w1.cell? ⟨B, 0, none⟩ = some (.int .i64 (D.t : Int)) := cell_row h1 0
  have c1 : w1.cell? ⟨B, 1, none⟩ = some (.int .u32 (D.k : Int)) := cell_row h1 1
  have y0 : w1.cell? ⟨XB, 0, none⟩ = some (Pw B) := cell_row y1 0
  have b2 := below1 w1 (.cells #[.pointer none] 234)
  have h2 := (b2.block B (heap_lt h1)).trans h1
  have d0 : (w1.alloc (.cells #[.pointer none] 234)).cell? ⟨B, 0, none⟩ = some (.int .i64 (D.t : Int)) := cell_row h2 0
  have d1 : (w1.alloc (.cells #[.pointer none] 234)).cell? ⟨B, 1, none⟩ = some (.int .u32 (D.k : Int)) := cell_row h2 1
  have z0 : (w1.alloc (.cells #[.pointer none] 234)).cell? ⟨XB, 0, none⟩ = some (Pw B) := cell_row ((b2.block XB (heap_lt y1)).trans y1) 0
  have hv := heap_alloc_new w1 (.cells #[.pointer none] 234)
  have HV := Lib.hid hv
  have HH := Lib.hid (And.intro h1 y1); have HB1 := Lib.hid b1; have HB2 := Lib.hid b2
  clear h hB b1 h1 y1 hX hw1 b2 h2 hv ht hk
  go_enter Tryz.func48, Tryz.ntmps48
  go_upto_region 1 with fail
  rw [← HX.out, ← HW1.out]
  go_region_law (go_simp; go_at_call 94; refine (HN.out _).mono ?_; rintro e' w2 ⟨v, rfl, hn⟩; obtain ⟨Z, rfl, _, hb2, _, _, _⟩ := hn; have HNE := Lib.hid hb2; (first | (have k0 : w2.cell? ⟨w1.heap.size, 0, none⟩ = some (.pointer none) := cell_row ((hb2.block _ (heap_lt HV.out)).trans HV.out) 0; have kf : w2.frozen? ⟨w1.heap.size, 0, none⟩ = false := froz_row ((hb2.block _ (heap_lt HV.out)).trans HV.out) 0) | skip); clear hb2)
  all_goals
    (first
      | (have h3 : Below w1.heap.size w1 w2 := (Below.refl _ _).drew.trans HNE.out; have h4 : Below w1.heap.size w1 (w2.alloc (.cells #[Pw Z.B] 234)) := h3.trans ((below1 w2 _).mono h3.size); have hvb : (w2.alloc (.cells #[Pw Z.B] 234)).heap[w2.heap.size]? = some (.cells #[Pw Z.B] 234) := heap_alloc_new _ _; generalize w2.alloc (.cells #[Pw Z.B] 234) = w4 at *; generalize w2.heap.size = VB at *)
      | (have h3 : Below (w1.alloc (.cells #[.pointer none] 234)).heap.size (w1.alloc (.cells #[.pointer none] 234)) w2 := (Below.refl _ _).drew.trans HNE.out; have h4 : Below w1.heap.size w1 (w2.setCell ⟨w1.heap.size, 0, none⟩ (Pw Z.B)) := below_turn HB2.out h3 ((Turns.refl (fun k => k = w1.heap.size) w2).setCell ⟨w1.heap.size, 0, none⟩ _ rfl) rfl; have hvb : (w2.setCell ⟨w1.heap.size, 0, none⟩ (Pw Z.B)).heap[w1.heap.size]? = some (.cells #[Pw Z.B] 234) := set_blk ((h3.block _ (heap_lt HV.out)).trans HV.out) 0 (Pw Z.B) _ rfl; generalize w2.setCell ⟨w1.heap.size, 0, none⟩ (Pw Z.B) = w4 at *; have h5 : ∃ VB, VB = w1.heap.size := ⟨_, rfl⟩; obtain ⟨VB, hVB⟩ := h5; rw [← hVB] at hvb ⊢; clear hVB))
    have hb4 : w4.heap[B]? = some (pkO D pb pi p b o) := (h4.block B (heap_lt HH.out.1)).trans HH.out.1
    have x1 : w4.cell? ⟨XB, 0, none⟩ = some (Pw B) := cell_row ((h4.block XB (heap_lt HH.out.2)).trans HH.out.2) 0
    have x2 : w4.cell? ⟨VB, 0, none⟩ = some (Pw Z.B) := cell_row hvb 0
    have H4 := Lib.hid (And.intro hb4 (HB1.out.trans (h4.mono HB1.out.size)))
    clear h3 h4 hvb hb4
    go_wp2_with (go_at_call 95; refine (do_b H4.out.1 _ _ _ _ _).mono ?_; rintro e' w5 ⟨rfl, h5, t5⟩)
    go_end0
    exact ⟨rfl, ⟨_, _, h5⟩, (Turns.of_below (S := fun k => k = B) H4.out.2).trans t5 (fun _ _ e => e)⟩
theorem new_b {t k z at_ : Nat} {on : Bool} {v : Value} (hv : HkOf v none) (ht : t < 64) (hk : k < 4294967296) (w : World) :
    Calls Tryz.prog 8 #[.int .i64 (t : Int), .int .u32 (k : Int), .int .u64 (z : Int), .agg #[.bool on, .int .u64 (at_ : Int)], v] w fun e' w' => ∃ B U q, e' = .returned (Pw B) ∧ w'.heap[B]? = some (pkO ⟨t, k, z, on, at_, none⟩ 0 0 (.iface 234 (Pw U)) q 0) ∧ Below w.heap.size w w' := by
  have e1 : decide ((t : Int) < 0) = false := decide_eq_false (by omega)
  have e2 : decide (64 ≤ (t : Int)) = false := decide_eq_false (by omega)
  have HT : Hid (∀ W, Calls Tryz.prog 47 #[v] W fun e w' => e = .returned (.iface 59 (.agg #[])) ∧ W = w') := Lib.hid (fun W => there_any hv W)
  have HEN := Lib.hid (fun (W : World) (B : Nat) (p : W.heap[B]? = some (pkO ⟨t, k, z, on, at_, none⟩ 0 0 .nilIface .nilFunc 0)) => enter_b p ht hk)
  have hu := heap_alloc_new w (.cells #[.bool on, .int .u64 (at_ : Int)] 41)
  have hb := below1 w (.cells #[.bool on, .int .u64 (at_ : Int)] 41)
  obtain ⟨UB, hU⟩ : ∃ UB, UB = w.heap.size := ⟨_, rfl⟩
  rw [← hU] at hu
  have HU := Lib.hid hU
  obtain ⟨w1, hw1⟩ : ∃ w1, w1 = w.alloc (.cells #[.bool on, .int .u64 (at_ : Int)] 41) := ⟨_, rfl⟩
  rw [← hw1] at hu hb
  have HW := Lib.hid hw1
  have b1 : w1.cell? ⟨UB, 0, none⟩ = some (.bool on) := cell_row hu 0
  have b2 : w1.cell? ⟨UB, 1, none⟩ = some (.int .u64 (at_ : Int)) := cell_row hu 1
  have HB := Lib.hid hb
  clear hv ht hk hU hw1 hb hu
  go_enter Tryz.func8, Tryz.ntmps8
  go_upto_region 1 with fail
  rw [← HW.out, ← HU.out]
  go_upto_region 3 with fail
  go_region_law (go_simp; go_at_call 47; refine (HT.out _).mono ?_; rintro e' w2 ⟨rfl, rfl⟩)
  all_goals
    have hn : (w1.alloc (pkO ⟨t, k, z, on, at_, none⟩ 0 0 .nilIface .nilFunc 0)).drew.heap[w1.heap.size]? = some (pkO ⟨t, k, z, on, at_, none⟩ 0 0 .nilIface .nilFunc 0) := heap_alloc_new w1 _
    have hbn : Below w.heap.size w (w1.alloc (pkO ⟨t, k, z, on, at_, none⟩ 0 0 .nilIface .nilFunc 0)).drew := (HB.out.trans ((below1 w1 _).mono HB.out.size)).trans ((Below.refl _ _).drew)
    have e9 : pkO ⟨t, k, z, on, at_, none⟩ 0 0 .nilIface .nilFunc 0 = .cells #[.int .i64 (t : Int), .int .u32 (k : Int), .int .u64 (z : Int), .bool on, .int .u64 (at_ : Int), .iface 59 (.agg #[]), .int .i64 0, .int .i64 0, .nilIface, .nilFunc, .int .u8 0] 50 := rfl
    have HE := Lib.hid (HEN.out _ _ hn)
    have HBN := Lib.hid (And.intro hbn (show w.heap.size ≤ w1.heap.size from HB.out.size))
    clear hn hbn
    rw [← e9]
    generalize (w1.alloc (pkO ⟨t, k, z, on, at_, none⟩ 0 0 .nilIface .nilFunc 0)).drew = w3 at *
    generalize w1.heap.size = B at *
    clear e9
    go_wp2_with (go_at_call 48; refine HE.out.mono ?_; rintro e' w4 ⟨rfl, h4, t4⟩)
    go_ret
    obtain ⟨U, q, h5⟩ := h4
    refine ⟨B, U, q, rfl, h5, HBN.out.1.trans (t4.below HBN.out.1.size (fun k hk e => ?_))⟩
    have := HBN.out.2
    omega
end
def VP (w : World) (v : Value) : Prop := v = .pointer none ∨ ∃ B, v = Pw B ∧ w.heap[B]? = some (.cells voidC 50 (0, 0))
theorem VP.new {w w' : World} {v : Value} (h : VP w v) (b : Below w.heap.size w w') : VP w' v := by
  rcases h with h | ⟨B, h, e⟩
  · exact .inl h
  · exact .inr ⟨B, h, (b.block B (heap_lt e)).trans e⟩
theorem over_vp {w : World} {v : Value} (h : VP w v) : Calls Tryz.prog 10 #[v] w fun e w' => e = .returned (.bool true) ∧ w = w' := by
  rcases h with rfl | ⟨B, rfl, hb⟩
  · exact over_nil w
  · exact over_yes (cell_row (cs := voidC) hb 8)
theorem step_vp {w : World} {v : Value} (h : VP w v) (x : Value) : Calls Tryz.prog 11 #[v, x] w fun e w' => e = .returned (.bool true) ∧ w = w' := by
  rcases h with rfl | ⟨B, rfl, hb⟩
  · exact step_nil w
  · exact step_void hb
theorem parked_vp {w : World} {v : Value} (h : VP w v) : Calls Tryz.prog 12 #[v] w fun e w' => e = .returned (.bool false) ∧ w = w' := parked_over (over_vp h)
theorem got_vp {w : World} {v : Value} (h : VP w v) (x : Value) : Calls Tryz.prog 9 #[v, x] w fun e w' => e = .returned (.tuple #[.int .u8 0, .int .u64 0]) ∧ w = w' := by
  rcases h with rfl | ⟨B, rfl, hb⟩
  · exact got_nil x w
  · exact got_by (n := 0) (cell_row (cs := voidC) hb 10) (by omega) x
theorem lay52 : Lay 52 51 1 8 (.pointer none) := ⟨Tryz.underlying52, info_of (by kernel_rfl), rfl, by decide, by decide⟩
end Go.Proofs.YtpmafdggbeppcaaGreatDoor.S18
set_option linter.unusedVariables false
set_option linter.unusedSimpArgs false
namespace Go.Proofs.YtpmafdggbeppcaaGreatDoor.S18
open Go.Proofs.YtpmafdggbeppcaaGreatDoor Go.Proofs.YtpmafdggbeppcaaGreatDoor.S11 Go.Proofs.YtpmafdggbeppcaaGreatDoor.S12 Go.Proofs.YtpmafdggbeppcaaGreatDoor.S13 Go.Proofs.YtpmafdggbeppcaaGreatDoor.S14 Go.Proofs.YtpmafdggbeppcaaGreatDoor.S15 Go.Proofs.YtpmafdggbeppcaaGreatDoor.S16
open Go.RowKit
def pit (p : Sd × Pa) : Sd × Pa := (paM p.1 p.2, paE p.1 p.2)
def pitn (p : Sd × Pa) : Nat → Sd × Pa
  | 0 => p
  | n + 1 => pit (pitn p n)
theorem pitn_add (p : Sd × Pa) (m : Nat) : ∀ n, pitn p (m + n) = pitn (pitn p m) n
  | 0 => rfl
  | n + 1 => by
    show pit (pitn p (m + n)) = pit (pitn (pitn p m) n)
    rw [pitn_add p m n]
theorem paM_n (M : Sd) (P : Pa) : (paM M P).n ≤ M.n + 1 ∧ (paM M P).pn ≤ M.pn + 1 ∧ (paM M P).sp = M.sp := by
  unfold paM
  split
  · exact enM_n M P.E
  · unfold lookM; split <;> simp [Sd.acc]
  · exact ⟨(fstepM_n M P.F).1, (fstepM_n M P.F).2, fstepM_sp M P.F⟩
  · simp [Sd.acc]
  · simp [queM, Sd.note, Sd.putq, Sd.tab, Sd.prep, Sd.call]
  · exact ⟨(fstepM_n M P.F).1, (fstepM_n M P.F).2, fstepM_sp M P.F⟩
  · split <;> simp [Sd.until, Sd.park, Sd.call]
  · exact enM_n M P.E
  · split
    · simp [Sd.late, Sd.call]
    · unfold goneM; split <;> simp [Sd.note, Sd.putq, Sd.tab, Sd.late, Sd.call]
  · exact ⟨(fstepM_n M P.F).1, (fstepM_n M P.F).2, fstepM_sp M P.F⟩
  · unfold clrM; split <;> simp [Sd.acc]
  · exact ⟨(fstepM_n M P.F).1, (fstepM_n M P.F).2, fstepM_sp M P.F⟩
  · simp
theorem pitn_n (p : Sd × Pa) : ∀ n, (pitn p n).1.n ≤ p.1.n + n ∧ (pitn p n).1.pn ≤ p.1.pn + n ∧ (pitn p n).1.sp = p.1.sp
  | 0 => ⟨Nat.le_refl _, Nat.le_refl _, rfl⟩
  | n + 1 => by
    have h := pitn_n p n
    have g := paM_n (pitn p n).1 (pitn p n).2
    exact ⟨by show (paM _ _).n ≤ _; omega, by show (paM _ _).pn ≤ _; omega, g.2.2.trans h.2.2⟩
theorem pit_way {M : Sd} {P : Pa} (hl : P.ln = 1 ∨ P.ln = 9) (h : (enE M P.E).ln ≠ 0) : pit (M, P) = (enM M P.E, { P with E := enE M P.E }) := by
  obtain ⟨ln, D, pb, pi, E, F, ky, o⟩ := P
  have hl' : ln = 1 ∨ ln = 9 := hl
  rcases hl' with rfl | rfl
  · show (enM M E, if (enE M E).ln = 0 then _ else _) = _
    rw [if_neg h]
  · show (enM M E, if (enE M E).ln = 0 then _ else _) = _
    rw [if_neg h]
theorem pitn_way {M : Sd} {P : Pa} (hl : P.ln = 1 ∨ P.ln = 9) : ∀ n, (∀ i, i ≤ n → i ≠ 0 → (eitn (M, P.E) i).2.ln ≠ 0) → pitn (M, P) n = ((eitn (M, P.E) n).1, { P with E := (eitn (M, P.E) n).2 })
  | 0, _ => rfl
  | n + 1, h => by
    have h1 := pitn_way hl n (fun i hi => h i (by omega))
    show pit (pitn (M, P) n) = _
    rw [h1]
    exact pit_way (P := { P with E := (eitn (M, P.E) n).2 }) hl (h (n + 1) (Nat.le_refl _) (by omega))
def mE (M : Sd) (a x : Nat) : Sd := ((M.acc 1 0 x).acc 3 a 1).acc 1 0 x
section
variable {M : Sd} {t key x a : Nat}
theorem en3x (hx : S2.look M.L 0 = x) (ha : a = lokN (key % 4294967296) x) (h0 : S2.look M.L a = 0) : (eitn (M, en0 t key) 3).1 = mE M a x := by
  have ha2 := lok_in (key % 4294967296) x
  rw [← ha] at ha2
  have e1 : eit (M, en0 t key) = (M.acc 1 0 x, ⟨false, 3, t, key, x, lk1 t a, fr0 0⟩) := by
    show (M.acc 1 0 (S2.look M.L 0), (⟨false, 3, t, key, S2.look M.L 0, lk1 t (lokN (key % 4294967296) (S2.look M.L 0)), fr0 0⟩ : En)) = _
    rw [hx, ← ha]
  have l1 : ∀ b, S2.look (M.acc 1 0 x).L b = S2.look M.L b := by rw [← hx]; exact acc_load (by omega)
  obtain ⟨s1, s2⟩ := lock1 (M := M.acc 1 0 x) (t := t) (a := a) (by omega) (by rw [l1]; exact h0)
  have e2 : eit (M.acc 1 0 x, ⟨false, 3, t, key, x, lk1 t a, fr0 0⟩) = ((M.acc 1 0 x).acc 3 a 1, ⟨false, 4, t, key, x, stepK (M.acc 1 0 x) (lk1 t a), fr0 0⟩) := by
    show (stepM (M.acc 1 0 x) (lk1 t a), (⟨false, if (stepK (M.acc 1 0 x) (lk1 t a)).ln = 0 then 4 else 3, t, key, x, stepK (M.acc 1 0 x) (lk1 t a), fr0 0⟩ : En)) = _
    rw [s1, if_pos s2]
  have l2 : S2.look ((M.acc 1 0 x).acc 3 a 1).L 0 = x := by rw [acc_other (by omega), l1]; exact hx
  show (eit (eit (eit (M, en0 t key)))).1 = _
  rw [e1, e2]
  show ((M.acc 1 0 x).acc 3 a 1).acc 1 0 (S2.look ((M.acc 1 0 x).acc 3 a 1).L 0) = _
  rw [l2]; rfl
theorem mE_look (hx : S2.look M.L 0 = x) (ha : 256 ≤ a ∧ a < 1024) (b : Nat) : S2.look (mE M a x).L b = if b = a then 1 else S2.look M.L b := by
  have l1 : ∀ b, S2.look (M.acc 1 0 x).L b = S2.look M.L b := by rw [← hx]; exact acc_load (by omega)
  have l2 : S2.look ((M.acc 1 0 x).acc 3 a 1).L 0 = x := by rw [acc_other (by omega), l1]; exact hx
  have l3 : ∀ b, S2.look (mE M a x).L b = S2.look ((M.acc 1 0 x).acc 3 a 1).L b := fun b => by
    have := acc_load (M := (M.acc 1 0 x).acc 3 a 1) (k := 1) (a := 0) (by omega) b
    rwa [l2] at this
  rw [l3]
  split
  · rename_i e; subst e; exact acc_same (by omega)
  · rename_i e; rw [acc_other e]; exact l1 b
end
section
variable {M : Sd} {D : Pd} {pb pi ky x a : Nat} {E : En} {F : Fr}
theorem prun_in (hx : S2.look M.L 0 = x) (hk : D.k < 4294967296) (ha : a = lokN D.k x) (h0 : S2.look M.L a = 0) :
    (∀ i, i < 3 → (pitn (M, pa0 D) i).2.ln = 1) ∧ ∃ E3, pitn (M, pa0 D) 3 = (mE M a x, ⟨if D.hk.isSome then 2 else 4, D, bitsN x, bktN D.k x, E3, fr0 0, 0, 0⟩) := by
  have ek : D.k % 4294967296 = D.k := Nat.mod_eq_of_lt hk
  obtain ⟨g1, g2, g3, g4, g5, g6⟩ := en3 (t := D.t) (key := D.k) hx (by rw [ek]; exact ha) h0
  have gx := en3x (t := D.t) (key := D.k) hx (by rw [ek]; exact ha) h0
  have hw := fun n (hn : n ≤ 2) => pitn_way (M := M) (P := pa0 D) (.inl rfl) n (fun i hi _ => g1 i (by omega))
  refine ⟨fun i hi => by rw [hw i (by omega)]; rfl, (eitn (M, en0 D.t D.k) 3).2, ?_⟩
  have h2 := hw 2 (Nat.le_refl _)
  show pit (pitn (M, pa0 D) 2) = _
  rw [h2]
  have e3 : enE (eitn (M, en0 D.t D.k) 2).1 (eitn (M, en0 D.t D.k) 2).2 = (eitn (M, en0 D.t D.k) 3).2 := rfl
  have m3 : enM (eitn (M, en0 D.t D.k) 2).1 (eitn (M, en0 D.t D.k) 2).2 = (eitn (M, en0 D.t D.k) 3).1 := rfl
  show (enM (eitn (M, en0 D.t D.k) 2).1 (eitn (M, en0 D.t D.k) 2).2, if (enE (eitn (M, en0 D.t D.k) 2).1 (eitn (M, en0 D.t D.k) 2).2).ln = 0 then (⟨if D.hk.isSome then 2 else 4, D, bitsN (enE (eitn (M, en0 D.t D.k) 2).1 (eitn (M, en0 D.t D.k) 2).2).tw, bktN (enE (eitn (M, en0 D.t D.k) 2).1 (eitn (M, en0 D.t D.k) 2).2).kw (enE (eitn (M, en0 D.t D.k) 2).1 (eitn (M, en0 D.t D.k) 2).2).tw, enE (eitn (M, en0 D.t D.k) 2).1 (eitn (M, en0 D.t D.k) 2).2, fr0 0, 0, 0⟩ : Pa) else _) = _
  rw [m3, e3, if_pos g2, g3, g4, gx]
theorem prun_4 (h0 : D.t < 64) (ha : plA pb pi = a) (ha2 : 256 ≤ a ∧ a < 1024) (h1 : S2.look M.L a = 1) :
    (pitn (M, ⟨4, D, pb, pi, E, F, ky, 0⟩) 1).2 = ⟨5, D, pb, pi, E, F, ky, 0⟩ ∧ (pitn (M, ⟨4, D, pb, pi, E, F, ky, 0⟩) 1).1 = M.acc 2 (64 + D.t) D.k ∧ (pitn (M, ⟨4, D, pb, pi, E, F, ky, 0⟩) 2).2.ln = 6 ∧ ∃ F3, pitn (M, ⟨4, D, pb, pi, E, F, ky, 0⟩) 3 = ((queM (M.acc 2 (64 + D.t) D.k) D (pb : Int) pi).acc 5 a 0, ⟨8, D, pb, pi, E, F3, ky, 0⟩) := by
  have e2 : pitn (M, ⟨4, D, pb, pi, E, F, ky, 0⟩) 2 = (queM (M.acc 2 (64 + D.t) D.k) D (pb : Int) pi, ⟨6, D, pb, pi, E, fr0 a, ky, 0⟩) := by
    have e1 : pitn (M, ⟨4, D, pb, pi, E, F, ky, 0⟩) 1 = (M.acc 2 (64 + D.t) D.k, ⟨5, D, pb, pi, E, F, ky, 0⟩) := rfl
    show pit (pitn (M, ⟨4, D, pb, pi, E, F, ky, 0⟩) 1) = _
    rw [e1]
    show (queM (M.acc 2 (64 + D.t) D.k) D (pb : Int) pi, (⟨6, D, pb, pi, E, fr0 (plA pb pi), ky, 0⟩ : Pa)) = _
    rw [ha]
  refine ⟨rfl, rfl, by rw [e2], fr0 a, ?_⟩
  have l1 : S2.look (queM (M.acc 2 (64 + D.t) D.k) D (pb : Int) pi).L a = 1 := by
    show S2.look (M.acc 2 (64 + D.t) D.k).L a = 1
    rw [acc_other (by omega)]; exact h1
  obtain ⟨f1, f2⟩ := fr1 (M := queM (M.acc 2 (64 + D.t) D.k) D (pb : Int) pi) (a := a) (by omega) l1
  show pit (pitn (M, ⟨4, D, pb, pi, E, F, ky, 0⟩) 2) = _
  rw [e2]
  show (fstepM (queM (M.acc 2 (64 + D.t) D.k) D (pb : Int) pi) (fr0 a), if (fstepK (queM (M.acc 2 (64 + D.t) D.k) D (pb : Int) pi) (fr0 a)).ln = 0 then (⟨8, D, pb, pi, E, fr0 a, ky, 0⟩ : Pa) else _) = _
  have f1' : (fstepK (queM (M.acc 2 (64 + D.t) D.k) D (pb : Int) pi) (fr0 a)).ln = 0 := f1
  have f2' : fstepM (queM (M.acc 2 (64 + D.t) D.k) D (pb : Int) pi) (fr0 a) = (queM (M.acc 2 (64 + D.t) D.k) D (pb : Int) pi).acc 5 a 0 := f2
  rw [if_pos f1', f2']
end
def PaR (w0 w : World) (base WB : Nat) (M : Sd) (r : List Part) (j e u : Nat) (P : Pa) (B : Nat) : Prop := PaOk P ∧ ∃ q1 q2 X, PaW w0 w base WB M ((r.set e q1).set u q2) j e u P B X
structure Room (w0 : World) (base : Nat) (M : Sd) (P : Pa) : Prop where
  ms : 0 ≤ M.sp ∧ M.sp ≤ 16
  n : M.n ≤ 800000000
  p : M.pn ≤ 800000000
  ap : P.ln = 5 ∨ P.ln = 10 → AtPl w0 base M P.pb P.pi
section
variable {w0 w w' : World} {base WB : Nat} {M : Sd} {r : List Part} {j e u B : Nat} {l l' : Rows} {X : Wm} {P : Pa}
theorem PaW.look (h : PaW w0 w base WB M r j e u P B X) (a : Nat) : S2.look M.L a < 18446744073709551616 := by
  obtain ⟨l, hw, _⟩ := h.at'
  have := S2.look_lt hw.pg.pw.cells.good a
  rwa [show X.L = M.L from congrArg Sd.L hw.pg.xm] at this
theorem PaW.lk (h : PaW w0 w base WB M r j e u P B X) (k : Nat) : M.lk k ≤ 64 := by
  obtain ⟨l, hw, _⟩ := h.at'
  exact pg_le hw.pg k
theorem PaR.new (h : PaR w0 w base WB M r j e u P B) (b : Below w.heap.size w w') : PaR w0 w' base WB M r j e u P B := by
  obtain ⟨ok, q1, q2, X, h⟩ := h
  exact ⟨ok, q1, q2, X, h.new b⟩
theorem PaR.step1 (h : PaR w0 w base WB M r j e u P B) (g : Room w0 base M P) (hl : (P.ln = 1 ∧ S15.Lone M P.E) ∨ P.ln = 4 ∨ P.ln = 5 ∨ (P.ln = 6 ∧ P.F.ln = 1)) :
    Calls Tryz.prog 11 #[Pw B, Pw WB] w fun e' w' => e' = .returned (.bool (decide ((paE M P).ln = 0))) ∧ PaR w0 w' base WB (paM M P) r j e u (paE M P) B := by
  obtain ⟨ok, q1, q2, X, h⟩ := h
  have okE := ok.step g.ms h.look h.lk
  refine (pa_step1 h ok okE g.ms g.n g.p hl g.ap).mono ?_
  rintro e' w' ⟨rfl, a1, a2, X', h'⟩
  refine ⟨rfl, okE, a1, a2, X', ?_⟩
  rw [List.set_comm _ _ h.eu.symm, List.set_set, List.set_set] at h'
  exact h'
theorem PaR.parked (h : PaR w0 w base WB M r j e u P B) : Calls Tryz.prog 12 #[Pw B] w fun e w' => e = .returned (.bool (decide (P.ln = 8))) ∧ w = w' := by
  obtain ⟨ok, q1, q2, X, h⟩ := h
  exact h.parked ok.ln ok.l7
theorem PaR.over (h : PaR w0 w base WB M r j e u P B) : Calls Tryz.prog 10 #[Pw B] w fun e w' => e = .returned (.bool (decide (P.ln = 0))) ∧ w = w' := by
  obtain ⟨ok, q1, q2, X, h⟩ := h
  exact h.over ok.ln ok.l7
end
end Go.Proofs.YtpmafdggbeppcaaGreatDoor.S18
set_option linter.unusedVariables false
set_option linter.unusedSimpArgs false
namespace Go.Proofs.YtpmafdggbeppcaaGreatDoor.S18
open Go.Proofs.YtpmafdggbeppcaaGreatDoor Go.Proofs.YtpmafdggbeppcaaGreatDoor.S11 Go.Proofs.YtpmafdggbeppcaaGreatDoor.S12 Go.Proofs.YtpmafdggbeppcaaGreatDoor.S13 Go.Proofs.YtpmafdggbeppcaaGreatDoor.S14 Go.Proofs.YtpmafdggbeppcaaGreatDoor.S15 Go.Proofs.YtpmafdggbeppcaaGreatDoor.S16
open Go.RowKit
structure Pl (M : Sd) (k a pi : Nat) (Q : List S10.Ent) : Prop where
  x : S2.look M.L 0 = 2
  ae : a = lokN k 2
  a0 : S2.look M.L a = 0
  pe : pi = bktN k 2
  len : (M.m 2).length = 4
  q : qAt M 2 pi = Q
  sp : M.sp = 0
theorem bits2 : bitsN 2 = 2 := by decide
theorem Pl.pl {M : Sd} {k a pi : Nat} {Q : List S10.Ent} (h : Pl M k a pi Q) : plA 2 pi = a := by
  have := plA_lok k 2
  rw [bits2, ← h.pe, ← h.ae] at this
  exact this
theorem Pl.ain {M : Sd} {k a pi : Nat} {Q : List S10.Ent} (h : Pl M k a pi Q) : 256 ≤ a ∧ a < 1024 := by
  have := lok_in k 2
  rw [← h.ae] at this
  omega
theorem Pl.pil {M : Sd} {k a pi : Nat} {Q : List S10.Ent} (h : Pl M k a pi Q) : pi < 4 := by
  have := bkt_lt k 2
  rw [bits2] at this
  rw [h.pe]; omega
theorem inI2 : S10.InI ((2 : Nat) : Int) := by unfold S10.InI; omega
def pkM (M : Sd) (D : Pd) (a pi : Nat) : Sd := (queM ((mE M a 2).acc 2 (64 + D.t) D.k) D ((2 : Nat) : Int) pi).acc 5 a 0
section
variable {M : Sd} {D : Pd} {a pi : Nat} {Q : List S10.Ent}
theorem pkM_m (h : Pl M D.k a pi Q) : ((pkM M D a pi).m 2).length = 4 ∧ qAt (pkM M D a pi) 2 pi = Q ++ [entD D] := by
  have hp := h.pil
  have e : (pkM M D a pi).m 2 = (M.m 2).set pi { (M.m 2)[pi]! with q := qAt M 2 pi ++ [entD D] } := by
    have e1 : (pkM M D a pi).m = S10.upd M.m ((2 : Nat) : Int) ((M.m ((2 : Nat) : Int)).set pi { (M.m ((2 : Nat) : Int))[pi]! with q := qAt M ((2 : Nat) : Int) pi ++ [entD D] }) := rfl
    rw [e1]
    exact S10.upd_same M.m ((2 : Nat) : Int) _
  refine ⟨by rw [e, List.length_set]; exact h.len, ?_⟩
  show ((pkM M D a pi).m 2)[pi]!.q = _
  rw [e, ← h.q, getElem!_pos _ pi (by rw [List.length_set, h.len]; exact hp), List.getElem_set_self]
theorem pk_run (h : Pl M D.k a pi Q) (ht : D.t < 64) (hk : D.k < 4294967296) (hh : D.hk = none) :
    (∀ i, i < 6 → (pitn (M, pa0 D) i).2.ln = 1 ∨ (pitn (M, pa0 D) i).2.ln = 4 ∨ (pitn (M, pa0 D) i).2.ln = 5 ∨ (pitn (M, pa0 D) i).2.ln = 6) ∧
    (∀ i, i < 6 → ((pitn (M, pa0 D) i).2.ln = 5 ∨ (pitn (M, pa0 D) i).2.ln = 10) → (pitn (M, pa0 D) i).2.pb = 2 ∧ (pitn (M, pa0 D) i).2.pi = pi ∧ (pitn (M, pa0 D) i).1.m = M.m ∧ (pitn (M, pa0 D) i).1.nD = M.nD) ∧
    ∃ E6 F6, pitn (M, pa0 D) 6 = (pkM M D a pi, ⟨8, D, 2, pi, E6, F6, 0, 0⟩) := by
  have ha := h.ain
  obtain ⟨g1, E3, g2⟩ := prun_in (D := D) h.x hk h.ae h.a0
  rw [bits2, ← h.pe, hh] at g2
  have g2' : pitn (M, pa0 D) 3 = (mE M a 2, ⟨4, D, 2, pi, E3, fr0 0, 0, 0⟩) := g2
  obtain ⟨f1, f2, f3, F6, f4⟩ := prun_4 (M := mE M a 2) (D := D) (pb := 2) (pi := pi) (ky := 0) (E := E3) (F := fr0 0) ht h.pl ha (by rw [mE_look h.x ha, if_pos rfl])
  have ad : ∀ n, pitn (M, pa0 D) (3 + n) = pitn (mE M a 2, ⟨4, D, 2, pi, E3, fr0 0, 0, 0⟩) n := fun n => by rw [pitn_add, g2']
  have a3 : (pitn (M, pa0 D) 3).2.ln = 4 := by rw [g2']
  have a4 : (pitn (M, pa0 D) 4).2 = ⟨5, D, 2, pi, E3, fr0 0, 0, 0⟩ := by rw [show 4 = 3 + 1 from rfl, ad]; exact f1
  have a4m : (pitn (M, pa0 D) 4).1 = (mE M a 2).acc 2 (64 + D.t) D.k := by rw [show 4 = 3 + 1 from rfl, ad]; exact f2
  have a5 : (pitn (M, pa0 D) 5).2.ln = 6 := by rw [show 5 = 3 + 2 from rfl, ad]; exact f3
  refine ⟨fun i hi => ?_, fun i hi hl => ?_, E3, F6, by rw [show 6 = 3 + 3 from rfl, ad]; exact f4⟩
  · rcases (show i < 3 ∨ i = 3 ∨ i = 4 ∨ i = 5 by omega) with h3 | rfl | rfl | rfl
    · rw [g1 i h3]; omega
    · rw [a3]; omega
    · rw [a4]; exact .inr (.inr (.inl rfl))
    · rw [a5]; omega
  · rcases (show i < 3 ∨ i = 3 ∨ i = 4 ∨ i = 5 by omega) with h3 | rfl | rfl | rfl
    · rw [g1 i h3] at hl; omega
    · rw [a3] at hl; omega
    · rw [a4, a4m]; exact ⟨rfl, rfl, rfl, rfl⟩
    · rw [a5] at hl; omega
end
theorem lone_en {M : Sd} {t key x a : Nat} (hx : S2.look M.L 0 = x) (ha : a = lokN (key % 4294967296) x) (h0 : S2.look M.L a = 0) (i : Nat) (hi : i < 3) : S15.Lone (eitn (M, en0 t key) i).1 (eitn (M, en0 t key) i).2 := by
  have ha2 := lok_in (key % 4294967296) x
  rw [← ha] at ha2
  have e1 : eit (M, en0 t key) = (M.acc 1 0 x, ⟨false, 3, t, key, x, lk1 t a, fr0 0⟩) := by
    show (M.acc 1 0 (S2.look M.L 0), (⟨false, 3, t, key, S2.look M.L 0, lk1 t (lokN (key % 4294967296) (S2.look M.L 0)), fr0 0⟩ : En)) = _
    rw [hx, ← ha]
  have l1 : ∀ b, S2.look (M.acc 1 0 x).L b = S2.look M.L b := by rw [← hx]; exact acc_load (by omega)
  obtain ⟨s1, s2⟩ := lock1 (M := M.acc 1 0 x) (t := t) (a := a) (by omega) (by rw [l1]; exact h0)
  have e2 : eit (M.acc 1 0 x, ⟨false, 3, t, key, x, lk1 t a, fr0 0⟩) = ((M.acc 1 0 x).acc 3 a 1, ⟨false, 4, t, key, x, stepK (M.acc 1 0 x) (lk1 t a), fr0 0⟩) := by
    show (stepM (M.acc 1 0 x) (lk1 t a), (⟨false, if (stepK (M.acc 1 0 x) (lk1 t a)).ln = 0 then 4 else 3, t, key, x, stepK (M.acc 1 0 x) (lk1 t a), fr0 0⟩ : En)) = _
    rw [s1, if_pos s2]
  rcases (show i = 0 ∨ i = 1 ∨ i = 2 by omega) with rfl | rfl | rfl
  · exact ⟨rfl, .inl rfl⟩
  · show S15.Lone (eit (M, en0 t key)).1 (eit (M, en0 t key)).2
    rw [e1]
    exact ⟨rfl, .inr (.inl ⟨rfl, rfl, s2⟩)⟩
  · show S15.Lone (eit (eit (M, en0 t key))).1 (eit (eit (M, en0 t key))).2
    rw [e1, e2]
    exact ⟨rfl, .inr (.inr ⟨rfl, by show S2.look ((M.acc 1 0 x).acc 3 a 1).L 0 = x; rw [acc_other (by omega), l1]; exact hx⟩)⟩
theorem pk_lone {M : Sd} {D : Pd} {a pi : Nat} {Q : List S10.Ent} (h : Pl M D.k a pi Q) (ht : D.t < 64) (hk : D.k < 4294967296) (hh : D.hk = none) (i : Nat) (hi : i < 6) :
    ((pitn (M, pa0 D) i).2.ln = 1 ∧ S15.Lone (pitn (M, pa0 D) i).1 (pitn (M, pa0 D) i).2.E) ∨ (pitn (M, pa0 D) i).2.ln = 4 ∨ (pitn (M, pa0 D) i).2.ln = 5 ∨ ((pitn (M, pa0 D) i).2.ln = 6 ∧ (pitn (M, pa0 D) i).2.F.ln = 1) := by
  have ek : D.k % 4294967296 = D.k := Nat.mod_eq_of_lt hk
  have ha := h.ain
  obtain ⟨g1, E3, g2⟩ := prun_in (D := D) h.x hk h.ae h.a0
  rw [bits2, ← h.pe, hh] at g2
  have g2' : pitn (M, pa0 D) 3 = (mE M a 2, (⟨4, D, 2, pi, E3, fr0 0, 0, 0⟩ : Pa)) := g2
  have q1 := en3 (t := D.t) (key := D.k) h.x (by rw [ek]; exact h.ae) h.a0
  have hw := fun n (hn : n ≤ 2) => pitn_way (M := M) (P := pa0 D) (.inl rfl) n (fun i hi _ => q1.1 i (by omega))
  rcases (show i < 3 ∨ i = 3 ∨ i = 4 ∨ i = 5 by omega) with h3 | rfl | rfl | rfl
  · refine .inl ⟨g1 i h3, ?_⟩
    rw [hw i (by omega)]
    exact lone_en h.x (by rw [ek]; exact h.ae) h.a0 i h3
  · rw [g2']; exact .inr (.inl rfl)
  · have e4 : pitn (M, pa0 D) 4 = ((mE M a 2).acc 2 (64 + D.t) D.k, (⟨5, D, 2, pi, E3, fr0 0, 0, 0⟩ : Pa)) := by
      show pit (pitn (M, pa0 D) 3) = _
      rw [g2']; rfl
    rw [e4]; exact .inr (.inr (.inl rfl))
  · have e4 : pitn (M, pa0 D) 4 = ((mE M a 2).acc 2 (64 + D.t) D.k, (⟨5, D, 2, pi, E3, fr0 0, 0, 0⟩ : Pa)) := by
      show pit (pitn (M, pa0 D) 3) = _
      rw [g2']; rfl
    have e5 : pitn (M, pa0 D) 5 = (queM ((mE M a 2).acc 2 (64 + D.t) D.k) D ((2 : Nat) : Int) pi, (⟨6, D, 2, pi, E3, fr0 (plA 2 pi), 0, 0⟩ : Pa)) := by
      show pit (pitn (M, pa0 D) 4) = _
      rw [e4]
      show (queM ((mE M a 2).acc 2 (64 + D.t) D.k) D ((2 : Nat) : Int) pi, (⟨6, D, 2, pi, E3, fr0 (plA 2 pi), 0, 0⟩ : Pa)) = _
      rfl
    rw [e5]; exact .inr (.inr (.inr ⟨rfl, rfl⟩))
theorem sd_m : (sdN 0 5).m 2 = S10.fresh 0 (List.replicate 4 []) := by
  have e1 : (sdN 0 5).m = S10.M0 0 := rfl
  rw [e1]; unfold S10.M0
  exact S10.upd_same _ _ _
theorem sd_x : S2.look (sdN 0 5).L 0 = 2 := by show S2.look L02 0 = 2; rw [look02, if_pos rfl]
theorem sd_a (k : Nat) : S2.look (sdN 0 5).L (lokN k 2) = 0 := by
  have hl := lok_in k 2
  show S2.look L02 _ = 0; rw [look02, if_neg (by omega)]
theorem sd_q (i : Nat) (hp : i < 4) : qAt (sdN 0 5) 2 i = [] := by
  unfold qAt
  rw [sd_m, S10.fresh_at _ _ (by simpa using hp)]
  show (List.replicate 4 ([] : List S10.Ent))[i]! = []
  rw [getElem!_pos _ _ (by simpa using hp), List.getElem_replicate]
theorem sd_l : ((sdN 0 5).m 2).length = 4 := by
  rw [sd_m]; unfold S10.fresh
  rw [List.length_map, List.length_replicate]
theorem sdN_pl {k a pi : Nat} (ha : a = lokN k 2) (hp : pi = bktN k 2) : Pl (sdN 0 5) k a pi [] := by
  have h1 := bkt_lt k 2
  rw [bits2, ← hp] at h1
  have h2 : pi < 4 := by omega
  exact ⟨sd_x, ha, by rw [ha]; exact sd_a k, hp, sd_l, sd_q pi h2, rfl⟩
theorem room_of {w0 : World} {base : Nat} {M : Sd} {P : Pa} {n c : Nat} {pi : Nat} (hT : Tab w0) (hb : 0 < base) (hsp : M.sp = 0) (hn : M.n + n ≤ 800000000) (hp : M.pn + n ≤ 800000000) {i : Nat} (hi : i ≤ n)
    (hl : (pitn (M, P) i).2.ln = 5 ∨ (pitn (M, P) i).2.ln = 10 → (pitn (M, P) i).2.pb = 2 ∧ (pitn (M, P) i).2.pi < ((pitn (M, P) i).1.m 2).length ∧ (qAt (pitn (M, P) i).1 2 (pitn (M, P) i).2.pi).length ≤ 900 ∧ (pitn (M, P) i).1.nD.length ≤ 90000) : Room w0 base (pitn (M, P) i).1 (pitn (M, P) i).2 := by
  have b := pitn_n (M, P) i
  have b1 : (pitn (M, P) i).1.n ≤ M.n + i := b.1
  have b2 : (pitn (M, P) i).1.pn ≤ M.pn + i := b.2.1
  have b3 : (pitn (M, P) i).1.sp = M.sp := b.2.2
  refine ⟨by rw [b3, hsp]; omega, by omega, by omega, fun h5 => ?_⟩
  obtain ⟨e1, e2, e3, e4⟩ := hl h5
  rw [e1]
  exact ⟨hT, hb, inI2, e2, e3, e4⟩
section
variable {w0 w w' : World} {base WB : Nat} {M : Sd} {r : List Part} {j e u B : Nat} {X : Wm} {D : Pd} {a pi : Nat} {Q : List S10.Ent}
theorem noRows_ok (w : World) : (rowsP []).ok w := ⟨fun x hx => (by cases hx), (by simp)⟩
theorem room3 (h : Pg w0 w base WB M [] X) : Pg w0 w base WB M [noP, noP, rowsP []] X := by
  have g1 := Pg.push1 h noP (Below.refl _ _) trivial (fun k e => e.elim)
  have g2 := Pg.push1 g1 noP (Below.refl _ _) trivial (fun k e => e.elim)
  exact Pg.push1 g2 (rowsP []) (Below.refl _ _) (noRows_ok w) (fun k e => by obtain ⟨ob, he⟩ := e; exact absurd he (by simp))
theorem new_r {v : Value} (h : Wq w0 w base WB M r j [] X) (hv : HkOf v D.hk) (hje : j ≠ e) (hju : j ≠ u) (he : e < r.length) (hu : u < r.length) (heu : e ≠ u) (ht : D.t < 64) (hk : D.k < 4294967296) (hc : ∀ c, D.hk = some c → c.a < 4294967296 ∧ c.all < 18446744073709551616 ∧ c.any < 18446744073709551616 ∧ c.clr < 18446744073709551616) :
    Calls Tryz.prog 8 #[.int .i64 (D.t : Int), .int .u32 (D.k : Int), .int .u64 (D.z : Int), .agg #[.bool D.on, .int .u64 (D.at' : Int)], v] w fun e' w' => ∃ B, e' = .returned (Pw B) ∧ PaR w0 w' base WB M r j e u (pa0 D) B := by
  refine (new_park h hv hje hju he hu heu ht hk).mono ?_
  rintro e' w' ⟨B, rfl, q, h'⟩
  obtain ⟨q2, e2⟩ := same_at' h'.hu
  exact ⟨B, rfl, ok_pa ht hk hc, q, q2, X, by rw [e2]; exact h'⟩
end
end Go.Proofs.YtpmafdggbeppcaaGreatDoor.S18
set_option linter.unusedVariables false
set_option linter.unusedSimpArgs false
namespace Go.Proofs.YtpmafdggbeppcaaGreatDoor.S18
set_option maxRecDepth 100000
set_option maxHeartbeats 16000000
open Go.Proofs.YtpmafdggbeppcaaGreatDoor Go.Proofs.YtpmafdggbeppcaaGreatDoor.S11 Go.Proofs.YtpmafdggbeppcaaGreatDoor.S12 Go.Proofs.YtpmafdggbeppcaaGreatDoor.S13 Go.Proofs.YtpmafdggbeppcaaGreatDoor.S14 Go.Proofs.YtpmafdggbeppcaaGreatDoor.S15 Go.Proofs.YtpmafdggbeppcaaGreatDoor.S16
open Go.RowKit
theorem eqEnt (w : World) : (binOp .eql 39 (.agg #[.int .i64 3, .int .u32 1152, .int .u64 7]) (.agg #[.int .i64 3, .int .u32 1152, .int .u64 7])).run Tryz.prog w = .ok (.bool true) w := by kernel_rfl
def D0 : Pd := ⟨3, 1152, 7, false, 0, none⟩
section
variable {w0 w w' : World} {base WB : Nat} {M : Sd} {r : List Part} {j e u B : Nat} {X : Wm} {P : Pa}
theorem PaR.pg (h : PaR w0 w base WB M r j e u P B) : ∃ r' X, Pg w0 w base WB M r' X := by
  obtain ⟨ok, q1, q2, X, h⟩ := h
  obtain ⟨l, hw, _⟩ := h.at'
  exact ⟨_, X, hw.pg⟩
end
theorem ex_room {w0 : World} {base : Nat} (hT : Tab w0) (hb : 0 < base) {pi : Nat} (hpi : pi = bktN 1152 2) {i : Nat} (hi : i < 6) (g2 : ∀ i, i < 6 → ((pitn (sdN 0 5, pa0 D0) i).2.ln = 5 ∨ (pitn (sdN 0 5, pa0 D0) i).2.ln = 10) → (pitn (sdN 0 5, pa0 D0) i).2.pb = 2 ∧ (pitn (sdN 0 5, pa0 D0) i).2.pi = pi ∧ (pitn (sdN 0 5, pa0 D0) i).1.m = (sdN 0 5).m ∧ (pitn (sdN 0 5, pa0 D0) i).1.nD = (sdN 0 5).nD) : Room w0 base (pitn (sdN 0 5, pa0 D0) i).1 (pitn (sdN 0 5, pa0 D0) i).2 := by
  have h4 : pi < 4 := by have := bkt_lt 1152 2; rw [bits2, ← hpi] at this; omega
  refine room_of (n := 6) (c := 0) (pi := 0) hT hb rfl (by show 0 + 6 ≤ 800000000; omega) (by show 0 + 6 ≤ 800000000; omega) (by omega) (fun hl => ?_)
  obtain ⟨e1, e2, e3, e4⟩ := g2 i hi hl
  refine ⟨e1, by rw [e2, e3, sd_l]; exact h4, ?_, by rw [e4]; show 0 ≤ 90000; omega⟩
  rw [e2]
  unfold qAt
  rw [e3]
  have := sd_q pi h4
  unfold qAt at this
  rw [this]
  show 0 ≤ 900; omega
theorem lives18 (w : World) (hT : Tab w) (hb0 : 0 < w.heap.size) : Calls Tryz.prog 18 #[] w fun e w' => e = .returned (.bool true) ∧ Below w.heap.size w w' := by
  obtain ⟨a, ha⟩ : ∃ a, a = lokN 1152 2 := ⟨_, rfl⟩
  obtain ⟨pi, hpi⟩ : ∃ pi, pi = bktN 1152 2 := ⟨_, rfl⟩
  have hpl : Pl (sdN 0 5) D0.k a pi [] := sdN_pl ha hpi
  obtain ⟨g1, g2, E6, F6, g6⟩ := pk_run hpl (by show 3 < 64; omega) (by show 1152 < 4294967296; omega) rfl
  have hroom : ∀ i, i < 6 → Room w w.heap.size (pitn (sdN 0 5, pa0 D0) i).1 (pitn (sdN 0 5, pa0 D0) i).2 := fun i hi => ex_room hT hb0 hpi hi g2
  have hq6 := pkM_m hpl
  have hln := pk_lone hpl (by show 3 < 64; omega) (by show 1152 < 4294967296; omega) rfl
  have HLN := Lib.hid hln
  have HW := Lib.hid (fun W => world_any 0 (by omega) W)
  have HPL : Hid (∀ W, Calls Tryz.prog 64 #[.int .u32 1152, .int .u64 2] W fun e w' => e = .returned (.agg #[.int .i64 2, .int .i64 (pi : Int)]) ∧ Below W.heap.size W w') := Lib.hid (fun W => by
    have := place_any 1152 2 (by omega) (by omega) W
    unfold placeV at this
    rw [bits2, ← hpi] at this
    exact this)
  have HG := Lib.hid (And.intro g1 (And.intro g6 (And.intro hroom (And.intro hq6 hpl.pil))))
  have e1 := eqEnt
  clear hT hb0 ha hpi hpl g1 g2 g6 hroom hq6 hln
  go_enter Tryz.func18, Tryz.ntmps18
  go_upto_region 2 with (go_at_call 19; refine (HW.out _).mono ?_; rintro e w1 ⟨X, rfl, hp, h0, hb1⟩; have HX := Lib.hid (And.intro hp (And.intro h0 hb1)); clear hp h0 hb1)
  have hpg := pg_of HX.out.1 HX.out.2.2
  rw [at0_sd HX.out.2.1] at hpg
  have hwq : Wq w w1 w.heap.size X.wB (sdN 0 5) [noP, noP, rowsP []] 2 [] X := ⟨room3 hpg, by show 2 < 3; omega⟩
  obtain ⟨WB, hWB⟩ : ∃ WB, WB = X.wB := ⟨_, rfl⟩
  rw [← hWB] at hwq
  rw [← hWB]
  have hnew : Calls Tryz.prog 8 #[.int .i64 3, .int .u32 1152, .int .u64 7, .agg #[.bool false, .int .u64 0], .iface 59 (.agg #[])] w1 fun e' w' => ∃ B, e' = .returned (Pw B) ∧ PaR w w' w.heap.size WB (sdN 0 5) [noP, noP, rowsP []] 2 0 1 (pa0 D0) B :=
    new_r (D := D0) hwq (.inl rfl) (by omega) (by omega) (by show 0 < 3; omega) (by show 1 < 3; omega) (by omega) (by show 3 < 64; omega) (by show 1152 < 4294967296; omega) (fun c hc => by cases hc)
  have HN := Lib.hid hnew
  clear hnew hwq hpg hWB HX HW
  go_upto_region 5 with (go_at_call 8; refine HN.out.mono ?_; rintro e w2 ⟨B, rfl, h2⟩; have H2 := Lib.hid h2; clear h2)
  clear HN
  go_upto_region 6 with fail
  go_loopg [3] 7 (fun q s3 wx => ∃ i : Nat, i ≤ 6 ∧ q = 7 - i ∧ s3 = .int .i64 (i : Int) ∧ PaR w wx w.heap.size WB (pitn (sdN 0 5, pa0 D0) i).1 [noP, noP, rowsP []] 2 0 1 (pitn (sdN 0 5, pa0 D0) i).2 B)
  case atStart => exact ⟨0, by omega, by omega, rfl, H2.out⟩
  case round =>
    obtain ⟨i, hi, rfl, rfl, hp⟩ := hrel
    have HI := Lib.hid hi
    by_cases he : i = 6
    · subst he
      have d1 : decide (((6 : Nat) : Int) < 6) = false := by decide
      obtain ⟨r3, X3, hpg⟩ := hp.pg
      have hpk := hp.parked
      rw [decide_eq_true (show (pitn (sdN 0 5, pa0 D0) 6).2.ln = 8 by rw [HG.out.2.1])] at hpk
      have hk4 : ∀ W, Below wr.heap.size wr W → W.cell? ⟨WB, 4, none⟩ = some X3.ts := fun W hW => (hpg.new hW).k4
      have hfin : ∀ W, Below wr.heap.size wr W → Below w.heap.size w W := fun W hW => hpg.bl.trans (hW.mono hpg.bl.size)
      have hqu : ∀ W, Below wr.heap.size wr W → Calls Tryz.prog 55 #[X3.ts, .agg #[.int .i64 2, .int .i64 (pi : Int)]] W fun e w' => ∃ A', e = .returned (.slice A' 1 1) ∧ S10.RowE w' W.heap.size (.slice A' 1 1) [entD D0] ∧ Below W.heap.size W w' := fun W hW => by
        have hm := HG.out.2.2.2.1
        have hM : (pitn (sdN 0 5, pa0 D0) 6).1 = pkM (sdN 0 5) D0 a pi := by rw [HG.out.2.1]
        have := (hpg.new hW).queue (b := 2) inI2 (i := pi) (by rw [hM, hm.1]; exact HG.out.2.2.2.2) (by rw [hM, hm.2]; show 1 ≤ 1000000; omega)
        rw [hM, hm.2] at this
        exact this
      have hpk2 : ∀ W, Below wr.heap.size wr W → Calls Tryz.prog 12 #[Pw B] W fun e w' => e = .returned (.bool true) ∧ W = w' := fun W hW => by
        have := (hp.new hW).parked
        rwa [decide_eq_true (show (pitn (sdN 0 5, pa0 D0) 6).2.ln = 8 by rw [HG.out.2.1])] at this
      obtain ⟨ts, hts⟩ : ∃ ts, ts = X3.ts := ⟨_, rfl⟩
      rw [← hts] at hk4 hqu
      have HK4 := Lib.hid hk4; have HFIN := Lib.hid hfin; have HQU := Lib.hid hqu; have HPK2 := Lib.hid hpk2
      clear hp hpg hpk hk4 hfin hqu hpk2 hts HG H2
      go_upto_region 10 with fail
      refine wp_region_held_drew (S := fun w' => w'.cell? ⟨WB, 4, none⟩ = some ts) (by kernel_rfl) ?_ (fun hHeld => ?_)
      · exact (HK4.out _ (Below.refl _ _).drew)
      refine tA 0 ⟨some 23, .move (.tmp 1), 24, "outright.go:27", #[], none⟩ ?vlvm1 ?rlvm1
      (try simp only [Act.put, tC, tD, tE])
      refine tA 1 ⟨some 24, .nilCheck (.tmp 23), 0, "outright.go:27", #[⟨0, .data⟩], none⟩ ?vlvm2 ?rlvm2
      (try simp only [Act.put, tC, tD, tE])
      refine tA 2 ⟨some 25, .fieldAddr 74 (.tmp 24) 4, 0, "outright.go:27", #[⟨1, .data⟩], none⟩ ?vlvm3 ?rlvm3
      (try simp only [Act.put, tC, tD, tE])
      refine tA 3 ⟨some 26, .load 70 (.tmp 25), 70, "outright.go:27", #[⟨2, .data⟩], none⟩ ?vlvm4 ?rlvm4
      (try simp only [Act.put, tC, tD, tE])
      refine wpAnyH_ready (rs := [4]) (by kernel_rfl) (by simp) ?_
      refine AllReadyH.cons (o := ⟨some 27, .call ⟨.value (.func 64), #[.const (.int .u32 1152), .const (.int .u64 2)], #[23, 29]⟩, 45, "outright.go:27", #[], none⟩) rfl (fun Kq hKq => ?_) AllReadyH.nil
      go_simp
      (refine (HPL.out _).mono ?_; rintro e' w2 ⟨rfl, hb2⟩; have HB2 := Lib.hid ((Below.refl _ _).drew.trans hb2); clear hb2)
      refine hKq.out _ _ ?_ (fun hHeld => ?_)
      · exact (HK4.out _ HB2.out)
      clear hKq Kq
      (try simp only [Act.put, tC, tD, tE])
      refine wpAnyH_ready (rs := [5]) (by kernel_rfl) (by simp) ?_
      refine AllReadyH.cons (o := ⟨some 28, .call ⟨.value (.func 55), #[.tmp 26, .tmp 27], #[70, 45]⟩, 123, "outright.go:27", #[⟨3, .data⟩, ⟨4, .data⟩, ⟨4, .chain⟩], none⟩) rfl (fun Kq hKq => ?_) AllReadyH.nil
      go_simp
      (refine (HQU.out _ HB2.out).mono ?_; rintro e' w3 ⟨A3, rfl, hr3, hb3⟩; have HB3 := Lib.hid (HB2.out.trans (hb3.mono HB2.out.size)); have HR3 := Lib.hid hr3; clear hr3 hb3)
      refine hKq.out _ _ ?_ (fun hHeld => ?_)
      · exact (HK4.out _ HB3.out)
      clear hKq Kq
      (try simp only [Act.put, tC, tD, tE])
      refine tA 6 ⟨some 4, .assign (.tmp 28), 123, "outright.go:27", #[⟨5, .data⟩, ⟨5, .chain⟩, ⟨0, .phase⟩, ⟨1, .phase⟩, ⟨2, .phase⟩, ⟨3, .phase⟩, ⟨4, .phase⟩, ⟨5, .phase⟩], none⟩ ?vlvm5 ?rlvm5
      (try simp only [Act.put, tC, tD, tE])
      refine wpAnyH_done (by kernel_rfl) ?_ _
      obtain ⟨gB, oo, rfl, _, k0, k1, k2⟩ := HR3.out.rd.ent (i := 0) (by show 0 < 1; omega)
      have k0' : w3.cell? ⟨gB, oo, none⟩ = some (.int .i64 3) := k0
      have k1' : w3.cell? ⟨gB, oo + 1, none⟩ = some (.int .u32 1152) := k1
      have k2' : w3.cell? ⟨gB, oo + 2, none⟩ = some (.int .u64 7) := k2
      have HPK3 := Lib.hid (HPK2.out _ HB3.out)
      clear k0 k1 k2 hHeld HPK2 HQU HPL
      go_wp2_with (go_at_call 12; refine HPK3.out.mono ?_; rintro e' w4 ⟨rfl, rfl⟩)
      go_ret
      exact ⟨rfl, HFIN.out _ HB3.out⟩
    · have hlt : i < 6 := by omega
      have d1 : decide ((i : Int) < 6) = true := decide_eq_true (by omega)
      have gl := HG.out.1 i hlt
      have g8 : ¬ (pitn (sdN 0 5, pa0 D0) i).2.ln = 8 := by omega
      have hpk := hp.parked
      have hst := hp.step1 (HG.out.2.2.1 i hlt) (HLN.out i hlt)
      rw [decide_eq_false g8] at hpk
      have e2 : ¬ (paE (pitn (sdN 0 5, pa0 D0) i).1 (pitn (sdN 0 5, pa0 D0) i).2).ln = 0 := by
        show ¬ (pitn (sdN 0 5, pa0 D0) (i + 1)).2.ln = 0
        by_cases hh : i + 1 = 6
        · rw [hh, HG.out.2.1]; show ¬ 8 = 0; omega
        · have := HG.out.1 (i + 1) (by omega); omega
      rw [decide_eq_false e2] at hst
      have HPK := Lib.hid hpk; have HST := Lib.hid hst; have HN := Lib.hid hlt
      have hm9 : i + 1 ≤ 6 := hlt
      clear hpk hst hp hi he e2 gl g8
      go_wp2_with (first
        | (go_at_call 12; refine HPK.out.mono ?_; rintro e' w6 ⟨rfl, rfl⟩)
        | (go_at_call 11; refine HST.out.mono ?_; rintro e' w7 ⟨rfl, hs⟩))
      go_roundg (7 - (i + 1))
      case measure => have := HI.out; omega
      case rel => exact ⟨i + 1, HN.out, by omega, by go_num, hs⟩
end Go.Proofs.YtpmafdggbeppcaaGreatDoor.S18
