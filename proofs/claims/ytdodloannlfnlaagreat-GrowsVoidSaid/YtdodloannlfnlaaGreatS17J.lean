/- The chapter's examples; GrowsTime. -/
import Derived.Test.YtdodloannlfnlaaGreatS17I
set_option linter.unusedVariables false
set_option linter.unusedSimpArgs false
namespace Go.Proofs.YtdodloannlfnlaaGreat.S17
open Go.Proofs.YtdodloannlfnlaaGreat Go.Proofs.YtdodloannlfnlaaGreat.S11 Go.Proofs.YtdodloannlfnlaaGreat.S12 Go.Proofs.YtdodloannlfnlaaGreat.S13 Go.Proofs.YtdodloannlfnlaaGreat.S14 Go.Proofs.YtdodloannlfnlaaGreat.S15
open Go.RowKit

theorem look02 (b : Nat) : S2.look L02 b = if b = 0 then 2 else 0 := by
  have e : L02 = [(0, 2)] := by decide
  rw [e]
  by_cases h : b = 0
  · subst h; rfl
  · rw [if_neg h]
    unfold S2.look
    have : ((0 : Nat) == b) = false := by simp; omega
    simp [List.find?, this]
theorem sat0 {n : Nat} (h : n < 65536) : S3.sat 0 n = n := by unfold S3.sat; rw [if_pos (by omega)]; omega
theorem wrap_u {u : Nat} (h : u ≤ 8) : IntKind.u64.wrap (u : Int) = (u : Int) := by rw [IntKind.wrap_u64]; omega
theorem has_yes {M : Sd} {k : Nat} (h : Inv M k) : decide (0 < (M.m (k : Int)).length) = true := by
  obtain ⟨τ, e⟩ := h.now
  rw [e, emp_len]
  exact decide_eq_true (Nat.pow_pos (by decide))
theorem lt_dec {i S : Nat} (h : i < S) : decide ((i : Int) < (S : Int)) = true := by simp; omega
theorem le_dec {i S : Nat} (h : ¬ i < S) : decide ((i : Int) < (S : Int)) = false := by simp; omega
theorem pos_dec {c : Nat} (h : 0 < c) : decide ((0 : Int) < (c : Int)) = true := by simp; omega
theorem steps_le {k : Nat} (h : k ≤ 8) (u : Nat) : ∃ c, jsteps k u = c ∧ 0 < c ∧ c ≤ 999 := by
  have hS : 2 ^ k ≤ 256 := Nat.pow_le_pow_right (by decide : 0 < 2) h
  unfold jsteps
  generalize 2 ^ k = S at *
  by_cases e : u ≤ k
  · rw [if_pos e]; exact ⟨2, rfl, by omega, by omega⟩
  · rw [if_neg e]; exact ⟨_, rfl, by omega, by omega⟩
theorem step_i {i : Nat} (h : i < 256) : Value.int .i64 (wrap64 ((i : Int) + 1)) = .int .i64 ((i + 1 : Nat) : Int) := by rw [show wrap64 ((i : Int) + 1) = ((i + 1 : Nat) : Int) by unfold wrap64; omega]
theorem inv_new (sp : Int) (h : 0 ≤ sp ∧ sp ≤ 16) (most : Nat) : Inv (sdN sp most) 2 := by
  refine ⟨(look02 0).trans rfl, Nat.le_refl _, by omega, fun a h1 h2 => (look02 a).trans (if_neg (by omega)), ⟨0, by show S10.M0 0 2 = emp 0 4; exact S10.upd_same _ _ _⟩, fun b hb => by show S10.M0 0 b = []; exact S10.upd_ne _ _ (by omega), h⟩
theorem inv_store {M : Sd} {k : Nat} (h : Inv M k) (v : Nat) : Inv (M.acc 2 1 v) k :=
  ⟨(acc_other (by omega)).trans h.tab, h.k1, h.k2, fun a h1 h2 => (acc_other (by omega)).trans (h.zero a h1 h2), h.now, h.up, h.ms⟩
theorem inv_tk {M : Sd} {k : Nat} (h : Inv M k) (n : Nat) : Inv (tk M n) k := ⟨h.tab, h.k1, h.k2, h.zero, h.now, h.up, h.ms⟩
section
variable {w0 w w' : World} {base WB : Nat} {M : Sd} {r : List Part} {X : Wm}
theorem pg_peek (h : Pg w0 w base WB M r X) {a : Nat} (ha : a < 4294967296) : Calls Tryz.prog 36 #[Pw X.cB, .int .u32 a] w fun e w' => e = .returned (.int .u64 (S2.look M.L a : Nat)) ∧ w = w' := by
  have := S2.peek_any w X.cB X.cM X.L X.n X.k X.a X.was X.is a h.pw.cells ha
  rwa [show X.L = M.L from congrArg Sd.L h.xm] at this
/-- A new Join, beside the world, that runs alone. -/
theorem join_at (h : Pg w0 w base WB M r X) {t k u : Nat} (ht : t < 64) : Calls Tryz.prog 5 #[.int .i64 (t : Int)] w fun e w' => ∃ B, e = .returned (Pw B) ∧ ∀ most c : Nat, jsteps k u = c → Inv M k → M.n ≤ 100000 → M.pn ≤ 100000 → u = thB (min (S2.look M.L 1) 63 + 1) → c ≤ most → most ≤ 1000 →
    Calls Tryz.prog 35 #[Pw WB, .iface 39 (Pw B), .int .i64 (most : Int)] w' fun e w2 => e = .returned (.int .i64 (c : Int)) ∧ ∃ M' R X', After M M' k u ∧ Pg w0 w2 base WB M' R X' := by
  refine (new_join h ht).mono ?_
  rintro e w' ⟨B, s, rfl, hj⟩
  exact ⟨B, rfl, fun most c hc hi hn hp hu h1 h2 => hc ▸ join_run hj ht hi hn hp hu most (hc ▸ h1) h2⟩
end
set_option maxRecDepth 100000 in
set_option maxHeartbeats 8000000 in
theorem lives17 (w : World) : Calls Tryz.prog 9 #[] w fun e w' => e = .returned (.bool true) ∧ Below w.heap.size w w' := by
  have HW : Hid (Calls Tryz.prog 34 #[.int .u8 0] w fun e w' => ∃ X, e = .returned (Pw X.wB) ∧ PW w' w.heap.size X ∧ At0 X 0 5 [] ∧ Below w.heap.size w w') := Lib.hid (world_any 0 (by omega) w)
  have HI : Hid (Inv (sdN 0 5) 2) := Lib.hid (inv_new 0 (by omega) 5)
  have HT : Hid (S2.look (sdN 0 5).L 1 = 0) := Lib.hid ((look02 1).trans (if_neg (by omega)))
  go_enter Tryz.func9, Tryz.ntmps9
  go_upto_region 4 with (go_at_call 34; refine HW.out.mono ?_; rintro e w1 ⟨X, rfl, hp, h0, hb⟩; have HP := Lib.hid (at0_sd h0 ▸ pg_of hp hb (by rw [h0.tn]; omega)); clear hp h0 hb)
  obtain ⟨WB, hWB⟩ : ∃ WB, WB = X.wB := ⟨_, rfl⟩
  rw [← hWB] at HP ⊢
  have HB1 := Lib.hid (join_at (t := 0) (k := 2) (u := 2) HP.out (by omega))
  clear hWB
  go_upto_region 5 with (first
    | (go_at_call 5; refine HB1.out.mono ?_; rintro e w2 ⟨B1, rfl, hr⟩; have HR1 := Lib.hid (hr 99 2 rfl HI.out (Nat.zero_le _) (Nat.zero_le _) (by rw [HT.out]; rfl) (by omega) (by omega)); clear hr)
    | (go_at_call 35; refine HR1.out.mono ?_; rintro e w3 ⟨rfl, M1, R1, X1, ha1, hp1⟩; have HA1 := Lib.hid ha1; have HP1 := Lib.hid hp1; clear ha1 hp1))
  have HI1 : Hid (Inv M1 2) := Lib.hid HA1.out.inv
  have e1 : S2.look M1.L 1 = 1 := by rw [HA1.out.th, HT.out]
  have HE1 := Lib.hid e1
  have HN1 := Lib.hid (And.intro HA1.out.n HA1.out.pn)
  clear e1
  have HB2 := Lib.hid (join_at (t := 1) (k := 2) (u := 3) HP1.out (by omega))
  go_upto_region 6 with (first
    | (go_at_call 5; refine HB2.out.mono ?_; rintro e w4 ⟨B2, rfl, hr⟩; have HR2 := Lib.hid (hr 99 12 rfl HI1.out (by have h := HN1.out.1; have e : (sdN 0 5).n = 0 := rfl; omega) (by have h := HN1.out.2; have e : (sdN 0 5).pn = 0 := rfl; omega) (by rw [HE1.out]; rfl) (by omega) (by omega)); clear hr)
    | (go_at_call 35; refine HR2.out.mono ?_; rintro e w5 ⟨rfl, M2, R2, X2, ha2, hp2⟩; have HA2 := Lib.hid ha2; have HP2 := Lib.hid hp2; clear ha2 hp2))
  have HI2 : Hid (Inv M2 3) := Lib.hid HA2.out.inv
  have e2 : S2.look M2.L 1 = 2 := by rw [HA2.out.th, HE1.out]
  have hk0 := pg_peek HP2.out (a := 0) (by omega)
  have hk1 := pg_peek HP2.out (a := 1) (by omega)
  rw [HI2.out.tab] at hk0
  rw [e2] at hk1

  rw [show (((0 : Nat) : Int)) = 0 from rfl] at hk0
  rw [show (((1 : Nat) : Int)) = 1 from rfl] at hk1
  have HK0 := Lib.hid hk0; have HK1 := Lib.hid hk1
  have y0 := HP2.out.c.1
  clear hk0 hk1 e2
  go_wp2_with (first
    | (go_at_call 36; ((with_reducible refine HK0.out.mono ?_)); rintro e w6 ⟨rfl, rfl⟩)
    | (go_at_call 36; ((with_reducible refine HK1.out.mono ?_)); rintro e w6 ⟨rfl, rfl⟩))
  go_ret
  exact ⟨rfl, HP2.out.bl⟩
end Go.Proofs.YtdodloannlfnlaaGreat.S17
