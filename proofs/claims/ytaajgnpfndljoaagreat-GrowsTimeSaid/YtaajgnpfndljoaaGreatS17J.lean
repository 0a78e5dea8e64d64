/- The chapter's examples; GrowsTime. -/
import Derived.Test.YtaajgnpfndljoaaGreatS17I
set_option linter.unusedVariables false
set_option linter.unusedSimpArgs false
namespace Go.Proofs.YtaajgnpfndljoaaGreat.S17
open Go.Proofs.YtaajgnpfndljoaaGreat Go.Proofs.YtaajgnpfndljoaaGreat.S11 Go.Proofs.YtaajgnpfndljoaaGreat.S12 Go.Proofs.YtaajgnpfndljoaaGreat.S13 Go.Proofs.YtaajgnpfndljoaaGreat.S14 Go.Proofs.YtaajgnpfndljoaaGreat.S15
open Go.RowKit

theorem look02 (b : Nat) : S2.look L02 b = if b = 0 then 2 else 0 := by
  have e : L02 = [(0, 2)] := by decide
  rw [e]
  by_cases h : b = 0
  · subst h; rfl
  · rw [if_neg h]
    unfold S2.look
    have : ((0 : Nat) == b) = false := by simp; omega
    simp [List.find?, this]
theorem sat0 {n : Nat} (h : n < 65536) : S3.sat 0 n = n := by unfold S3.sat; rw [if_pos (by omega)]; omega
theorem wrap_u {u : Nat} (h : u ≤ 8) : IntKind.u64.wrap (u : Int) = (u : Int) := by rw [IntKind.wrap_u64]; omega
theorem has_yes {M : Sd} {k : Nat} (h : Inv M k) : decide (0 < (M.m (k : Int)).length) = true := by
  obtain ⟨τ, e⟩ := h.now
  rw [e, emp_len]
  exact decide_eq_true (Nat.pow_pos (by decide))
theorem lt_dec {i S : Nat} (h : i < S) : decide ((i : Int) < (S : Int)) = true := by simp; omega
theorem le_dec {i S : Nat} (h : ¬ i < S) : decide ((i : Int) < (S : Int)) = false := by simp; omega
theorem pos_dec {c : Nat} (h : 0 < c) : decide ((0 : Int) < (c : Int)) = true := by simp; omega
theorem steps_le {k : Nat} (h : k ≤ 8) (u : Nat) : ∃ c, jsteps k u = c ∧ 0 < c ∧ c ≤ 999 := by
  have hS : 2 ^ k ≤ 256 := Nat.pow_le_pow_right (by decide : 0 < 2) h
  unfold jsteps
  generalize 2 ^ k = S at *
  by_cases e : u ≤ k
  · rw [if_pos e]; exact ⟨2, rfl, by omega, by omega⟩
  · rw [if_neg e]; exact ⟨_, rfl, by omega, by omega⟩
theorem after_few {M M' : Sd} {k u : Nat} (h : After M M' k u) (h1 : M.n ≤ 1000) (h2 : M.pn ≤ 1000) (h3 : M.tn ≤ 900) : M'.n ≤ 100000 ∧ M'.pn ≤ 100000 ∧ M'.tn ≤ 1000 :=
  ⟨by have := h.n; omega, by have := h.pn; omega, by have := h.tn; omega⟩
theorem step_i {i : Nat} (h : i < 256) : Value.int .i64 (wrap64 ((i : Int) + 1)) = .int .i64 ((i + 1 : Nat) : Int) := by rw [show wrap64 ((i : Int) + 1) = ((i + 1 : Nat) : Int) by unfold wrap64; omega]
theorem inv_new (sp : Int) (h : 0 ≤ sp ∧ sp ≤ 16) (most : Nat) : Inv (sdN sp most) 2 := by
  refine ⟨(look02 0).trans rfl, Nat.le_refl _, by omega, fun a h1 h2 => (look02 a).trans (if_neg (by omega)), ⟨0, by show S10.M0 0 2 = emp 0 4; exact S10.upd_same _ _ _⟩, fun b hb => by show S10.M0 0 b = []; exact S10.upd_ne _ _ (by omega), h⟩
theorem inv_store {M : Sd} {k : Nat} (h : Inv M k) (v : Nat) : Inv (M.acc 2 1 v) k :=
  ⟨(acc_other (by omega)).trans h.tab, h.k1, h.k2, fun a h1 h2 => (acc_other (by omega)).trans (h.zero a h1 h2), h.now, h.up, h.ms⟩
theorem inv_tk {M : Sd} {k : Nat} (h : Inv M k) (n : Nat) : Inv (tk M n) k := ⟨h.tab, h.k1, h.k2, h.zero, h.now, h.up, h.ms⟩
section
variable {w0 w w' : World} {base WB : Nat} {M : Sd} {r : List Part} {X : Wm}
theorem pg_peek (h : Pg w0 w base WB M r X) {a : Nat} (ha : a < 4294967296) : Calls Tryz.prog 11 #[Pw X.cB, .int .u32 a] w fun e w' => e = .returned (.int .u64 (S2.look M.L a : Nat)) ∧ w = w' := by
  have := S2.peek_any w X.cB X.cM X.L X.n X.k X.a X.was X.is a h.pw.cells ha
  rwa [show X.L = M.L from congrArg Sd.L h.xm] at this
/-- A new Join, beside the world, that runs alone. -/
theorem join_at (h : Pg w0 w base WB M r X) {t k u : Nat} (ht : t < 64) : Calls Tryz.prog 10 #[.int .i64 (t : Int)] w fun e w' => ∃ B, e = .returned (Pw B) ∧ ∀ most c : Nat, jsteps k u = c → Inv M k → M.n ≤ 100000 → M.pn ≤ 100000 → M.tn ≤ 1000 → u = thB (min (S2.look M.L 1) 63 + 1) → c ≤ most → most ≤ 1000 →
    Calls Tryz.prog 9 #[Pw WB, .iface 41 (Pw B), .int .i64 (most : Int)] w' fun e w2 => e = .returned (.int .i64 (c : Int)) ∧ ∃ M' R X', After M M' k u ∧ Pg w0 w2 base WB M' R X' := by
  refine (new_join h ht).mono ?_
  rintro e w' ⟨B, s, rfl, hj⟩
  exact ⟨B, rfl, fun most c hc hi hn hp htn hu h1 h2 => hc ▸ join_run hj ht hi hn hp htn hu most (hc ▸ h1) h2⟩
end
set_option maxRecDepth 100000 in
set_option maxHeartbeats 8000000 in
theorem lives17 (w : World) : Calls Tryz.prog 14 #[] w fun e w' => e = .returned (.bool true) ∧ Below w.heap.size w w' := by
  have HW : Hid (Calls Tryz.prog 4 #[.int .u8 0] w fun e w' => ∃ X, e = .returned (Pw X.wB) ∧ PW w' w.heap.size X ∧ At0 X 0 5 [] ∧ Below w.heap.size w w') := Lib.hid (world_any 0 (by omega) w)
  have HI : Hid (Inv (sdN 0 5) 2) := Lib.hid (inv_new 0 (by omega) 5)
  have HT : Hid (S2.look (sdN 0 5).L 1 = 0) := Lib.hid ((look02 1).trans (if_neg (by omega)))
  go_enter Tryz.func14, Tryz.ntmps14
  go_upto_region 4 with (go_at_call 4; refine HW.out.mono ?_; rintro e w1 ⟨X, rfl, hp, h0, hb⟩; have HP := Lib.hid (at0_sd h0 ▸ pg_of hp hb); clear hp h0 hb)
  obtain ⟨WB, hWB⟩ : ∃ WB, WB = X.wB := ⟨_, rfl⟩
  rw [← hWB] at HP ⊢
  have HB1 := Lib.hid (join_at (t := 0) (k := 2) (u := 2) HP.out (by omega))
  clear hWB
  go_upto_region 5 with (first
    | (go_at_call 10; refine HB1.out.mono ?_; rintro e w2 ⟨B1, rfl, hr⟩; have HR1 := Lib.hid (hr 99 2 rfl HI.out (Nat.zero_le _) (Nat.zero_le _) (by show 1 ≤ _; omega) (by rw [HT.out]; rfl) (by omega) (by omega)); clear hr)
    | (go_at_call 9; refine HR1.out.mono ?_; rintro e w3 ⟨rfl, M1, R1, X1, ha1, hp1⟩; have HA1 := Lib.hid ha1; have HP1 := Lib.hid hp1; clear ha1 hp1))
  have HI1 : Hid (Inv M1 2) := Lib.hid HA1.out.inv
  have e1 : S2.look M1.L 1 = 1 := by rw [HA1.out.th, HT.out]
  have HE1 := Lib.hid e1
  have HN1 := Lib.hid (And.intro HA1.out.n (And.intro HA1.out.pn HA1.out.tn))
  clear e1
  have HB2 := Lib.hid (join_at (t := 1) (k := 2) (u := 3) HP1.out (by omega))
  go_upto_region 6 with (first
    | (go_at_call 10; refine HB2.out.mono ?_; rintro e w4 ⟨B2, rfl, hr⟩; have HR2 := Lib.hid (hr 99 12 rfl HI1.out (by have h := HN1.out.1; have e : (sdN 0 5).n = 0 := rfl; omega) (by have h := HN1.out.2.1; have e : (sdN 0 5).pn = 0 := rfl; omega) (by have h := HN1.out.2.2; have e : (sdN 0 5).tn = 1 := rfl; omega) (by rw [HE1.out]; rfl) (by omega) (by omega)); clear hr)
    | (go_at_call 9; refine HR2.out.mono ?_; rintro e w5 ⟨rfl, M2, R2, X2, ha2, hp2⟩; have HA2 := Lib.hid ha2; have HP2 := Lib.hid hp2; clear ha2 hp2))
  have HI2 : Hid (Inv M2 3) := Lib.hid HA2.out.inv
  have e2 : S2.look M2.L 1 = 2 := by rw [HA2.out.th, HE1.out]
  have hk0 := pg_peek HP2.out (a := 0) (by omega)
  have hk1 := pg_peek HP2.out (a := 1) (by omega)
  rw [HI2.out.tab] at hk0
  rw [e2] at hk1

  rw [show (((0 : Nat) : Int)) = 0 from rfl] at hk0
  rw [show (((1 : Nat) : Int)) = 1 from rfl] at hk1
  have HK0 := Lib.hid hk0; have HK1 := Lib.hid hk1
  have y0 := HP2.out.c.1
  clear hk0 hk1 e2
  go_wp2_with (first
    | (go_at_call 11; ((with_reducible refine HK0.out.mono ?_)); rintro e w6 ⟨rfl, rfl⟩)
    | (go_at_call 11; ((with_reducible refine HK1.out.mono ?_)); rintro e w6 ⟨rfl, rfl⟩))
  go_ret
  exact ⟨rfl, HP2.out.bl⟩
set_option maxRecDepth 100000 in
set_option maxHeartbeats 8000000 in
theorem law_time (jd tick : Nat) (hj : jd < 256) (ht : tick < 65536) (w : World) : Calls Tryz.prog 3 #[.int .u8 (jd : Int), .int .u16 (tick : Int)] w fun e w' => e = .returned (.bool true) ∧ Below w.heap.size w w' := by
  have HW : Hid (Calls Tryz.prog 4 #[.int .u8 0] w fun e w' => ∃ X, e = .returned (Pw X.wB) ∧ PW w' w.heap.size X ∧ At0 X 0 5 [] ∧ Below w.heap.size w w') := Lib.hid (world_any 0 (by omega) w)
  have HI : Hid (Inv (sdN 0 5) 2) := Lib.hid (inv_new 0 (by omega) 5)
  have HLV := Lib.hid (fun W => lives17 W)
  obtain ⟨n, hn⟩ : ∃ n, n = jd % 64 := ⟨_, rfl⟩
  have hn63 : n ≤ 63 := by omega
  have HNL : Hid (n < 18446744073709551616) := Lib.hid (by omega)
  have HTL : Hid (tick ≤ 18446744073709551615) := Lib.hid (by omega)
  have HONE : Hid ((1 : Nat) < 4294967296) := Lib.hid (by omega)
  have a1 : (jd : Int).tmod 64 = (n : Int) := by rw [Int.tmod_eq_emod_of_nonneg (by omega)]; omega
  have a2 : (jd : Int) % 64 = (n : Int) := by omega
  have a3 : IntKind.u8.wrap (n : Int) = (n : Int) := by rw [IntKind.wrap_u8]; omega
  have a4 : IntKind.i64.wrap (n : Int) = (n : Int) := by rw [IntKind.wrap_i64]; omega
  have a5 : wrap64 (n : Int) = (n : Int) := by unfold wrap64; omega
  have a6 : IntKind.u64.wrap (n : Int) = (n : Int) := by rw [IntKind.wrap_u64]; omega
  have a7 : IntKind.u64.wrap (tick : Int) = (tick : Int) := by rw [IntKind.wrap_u64]; omega
  have a8 : wrap64 ((n : Int) + 1) = ((n + 1 : Nat) : Int) := by unfold wrap64; omega
  have HN := Lib.hid hn63; have HTK := Lib.hid ht
  clear hn hj ht
  go_enter Tryz.func3, Tryz.ntmps3
  go_upto_region 5 with (go_at_call 4; refine HW.out.mono ?_; rintro e w1 ⟨X, rfl, hp, h0, hb⟩; have HP := Lib.hid (at0_sd h0 ▸ pg_of hp hb); clear hp h0 hb)
  obtain ⟨WB, hWB⟩ : ∃ WB, WB = X.wB := ⟨_, rfl⟩
  rw [← hWB] at HP ⊢
  clear hWB
  have y0 := HP.out.c.1
  have hn0 : (sdN 0 5).n ≤ 1000000000 := by show 0 ≤ 1000000000; omega
  have hnl := HNL.out
  have HST := Lib.hid (Pg.store HP.out (a := 1) (v := n) HONE.out hnl hn0)
  clear hn0 hnl
  go_upto_region 6 with (go_at_call 5; refine HST.out.mono ?_; rintro e w2 ⟨rfl, X2, hp2, -⟩; have HP2 := Lib.hid hp2; clear hp2)
  have y1 := Pg.c1 HP2.out
  have HTI := Lib.hid (Pg.tick HP2.out tick HTL.out)
  clear y0
  go_upto_region 7 with (go_at_call 6; refine HTI.out.mono ?_; rintro e w3 ⟨rfl, X3, hp3⟩; have HP3 := Lib.hid hp3; clear hp3)
  clear y1 a1 a2
  obtain ⟨M1, hM1⟩ : ∃ M1, M1 = tk ((sdN 0 5).acc 2 1 n) tick := ⟨_, rfl⟩
  rw [← hM1] at HP3
  have HI1 : Hid (Inv M1 2) := Lib.hid (by rw [hM1]; exact inv_tk (inv_store HI.out n) tick)
  have HL1 : Hid (S2.look M1.L 1 = n) := Lib.hid (by rw [hM1]; exact acc_same (M := sdN 0 5) (k := 2) (by decide))
  have HT1 : Hid (M1.T = tick) := Lib.hid (by rw [hM1]; exact sat0 HTK.out)
  have HN1 : Hid (M1.n ≤ 100000 ∧ M1.pn ≤ 100000 ∧ M1.tn ≤ 1000) := Lib.hid (by rw [hM1]; exact ⟨by show 1 ≤ 100000; decide, Nat.zero_le _, by show 1 ≤ 1000; decide⟩)
  have hNe1 : Hid (M1.n = 1) := Lib.hid (by rw [hM1]; rfl)
  have hNe2 : Hid (M1.pn = 0) := Lib.hid (by rw [hM1]; rfl)
  have hNe3 : Hid (M1.tn = 1) := Lib.hid (by rw [hM1]; rfl)
  obtain ⟨u, hu⟩ : ∃ u, u = thB (n + 1) := ⟨_, rfl⟩
  have HU2 : Hid (2 ≤ u ∧ u ≤ 8) := Lib.hid (by rw [hu]; exact thB_in _)
  have HU3 : Hid (u = thB (min (S2.look M1.L 1) 63 + 1)) := Lib.hid (by rw [HL1.out, Nat.min_eq_left HN.out]; exact hu)
  have hb7 : ∀ W, Calls Tryz.prog 7 #[.int .i64 ((n + 1 : Nat) : Int)] W fun e w' => e = .returned (.int .i64 (u : Int)) ∧ W = w' := fun W => by rw [hu]; exact hbits_any (n + 1) (Nat.succ_le_succ HN.out) W
  have HB7 := Lib.hid hb7
  have HS8 : Hid (∀ W, Calls Tryz.prog 8 #[.int .i64 2] W fun e w' => e = .returned (.int .i64 4) ∧ W = w') := Lib.hid (fun W => size_adr (b := 2) (by decide) (by decide) W)
  clear hM1 hu hb7 hn63
  go_upto_region 8 with (go_at_call 7; refine (HB7.out _).mono ?_; rintro e w' ⟨rfl, rfl⟩)
  clear a3 a4 a5 a6 a8
  have wu : IntKind.u64.wrap (u : Int) = (u : Int) := wrap_u HU2.out.2
  by_cases hu : u ≤ 2
  · have e2 : u = 2 := by have := HU2.out; omega
    have HC : Hid (jsteps 2 u = 2) := Lib.hid (if_pos hu)
    have d9 : decide ((2 : Int) < (u : Int)) = false := by rw [e2]; rfl
    have hkk : (if u ≤ 2 then 2 else u) = u := by rw [if_pos hu, e2]
    have HKK := Lib.hid hkk; have HU := Lib.hid hu
    clear hkk hu e2
    go_upto_region 11 with (go_at_call 8; refine (HS8.out _).mono ?_; rintro e w' ⟨rfl, rfl⟩)
    have HJN := Lib.hid (join_at (t := 9) (k := 2) (u := u) HP3.out (by decide))
    go_upto_region 12 with (first
      | (go_at_call 10; refine HJN.out.mono ?_; rintro e w4 ⟨B1, rfl, hr⟩; have HR1 := Lib.hid (hr 99 2 HC.out HI1.out HN1.out.1 HN1.out.2.1 HN1.out.2.2 HU3.out (by decide) (by decide)); clear hr)
      | (go_at_call 9; refine HR1.out.mono ?_; rintro e w5 ⟨rfl, M2, R2, X4, ha2, hp4⟩; have HA2 := Lib.hid ha2; have HP4 := Lib.hid hp4; have HI2 : Hid (Inv M2 u) := Lib.hid (HKK.out ▸ ha2.inv); have HK0 := Lib.hid (HI2.out.tab ▸ pg_peek hp4 (a := 0) (by decide)); have HH : Hid (Calls Tryz.prog 12 #[X4.ts, .int .i64 (u : Int)] w5 fun e w' => e = .returned (.bool true) ∧ w5 = w') := Lib.hid (by have h := Pg.has hp4 (b := u) HU2.out.2; rwa [has_yes HI2.out] at h); have z0 := hp4.c.1; have z4 := Pg.c4 hp4; clear ha2 hp4)
      | (go_at_call 11; refine HK0.out.mono ?_; rintro e w6 ⟨rfl, rfl⟩)
      | (go_at_call 12; refine HH.out.mono ?_; rintro e w7 ⟨rfl, rfl⟩))
    have HTM : Hid (¬ u ≤ 2 → M2.m (u : Int) = emp (tick : Int) (2 ^ u)) := Lib.hid (fun h => by have e := HA2.out.timers h; rwa [HT1.out] at e)
    have HN2 : Hid (M2.n ≤ 100000 ∧ M2.pn ≤ 100000 ∧ M2.tn ≤ 1000) := Lib.hid (after_few HA2.out (by rw [hNe1.out]; decide) (by rw [hNe2.out]; decide) (by rw [hNe3.out]; decide))
    have HSU : Hid (∀ W, Calls Tryz.prog 8 #[.int .i64 (u : Int)] W fun e w' => e = .returned (.int .i64 ((2 ^ u : Nat) : Int)) ∧ W = w') := Lib.hid (fun W => size_adr HU2.out.1 HU2.out.2 W)
    have HS9 : Hid (2 ^ u ≤ 256) := Lib.hid (Nat.pow_le_pow_right (by decide : 0 < 2) HU2.out.2)
    clear z0 z4
    go_upto_region 14 with fail
    obtain ⟨S, hS⟩ : ∃ S, S = 2 ^ u := ⟨_, rfl⟩
    rw [← hS] at HSU HS9 HTM
    clear hS
    go_loopg [9] (S + 1) (fun q s9 wx => ∃ i : Nat, i ≤ S ∧ q = S + 1 - i ∧ s9 = .int .i64 (i : Int) ∧ ∃ X', Pg w wx w.heap.size WB M2 R2 X')
    case atStart => exact ⟨0, Nat.zero_le _, rfl, rfl, X4, HP4.out⟩
    case round =>
      obtain ⟨i, hi, rfl, rfl, X6, hp6⟩ := hrel
      have HP6 := Lib.hid hp6
      have y6 := hp6.c.1
      clear hp6
      by_cases he : i < S
      · have d14 : decide (i < S) = true := decide_eq_true he
        clear he hi
        go_upto_region 19 with (go_at_call 8; refine (HSU.out _).mono ?_; rintro e w' ⟨rfl, rfl⟩)
        obtain ⟨v, hv⟩ : ∃ v, v = thB (min (S2.look M2.L 1) 63 + 1) := ⟨_, rfl⟩
        have HJ2 := Lib.hid (join_at (t := 3) (k := u) (u := v) HP6.out (by decide))
        have HV := Lib.hid hv
        obtain ⟨c2, hc2, hc3, hc4⟩ := steps_le (k := u) HU2.out.2 v
        have HC2 := Lib.hid (And.intro hc2 (And.intro hc3 hc4))
        have d19 : 0 < c2 := hc3
        clear hc2 hc3 hc4 hv
        go_wp2_with (first
          | (go_at_call 10; refine HJ2.out.mono ?_; rintro e w8 ⟨B2, rfl, hr⟩; have HR2 := Lib.hid (hr 999 c2 HC2.out.1 HI2.out HN2.out.1 HN2.out.2.1 HN2.out.2.2 HV.out HC2.out.2.2 (by decide)); clear hr)
          | (go_at_call 9; refine HR2.out.mono ?_; rintro e w9 ⟨rfl, M3, R3, X5, ha3, hp5⟩; have HP5 := Lib.hid hp5; have HLV2 := Lib.hid (HLV.out w9); clear ha3 hp5)
          | (go_at_call 14; refine HLV2.out.mono ?_; rintro e w10 ⟨rfl, hb10⟩; have HB10 := Lib.hid hb10; clear hb10))
        go_ret
        exact ⟨rfl, HP5.out.bl.trans (HB10.out.mono HP5.out.bl.size)⟩
      · have d14 : decide (i < S) = false := decide_eq_false he
        clear he hi
        go_upto_region 19 with (go_at_call 8; refine (HSU.out _).mono ?_; rintro e w' ⟨rfl, rfl⟩)
        obtain ⟨v, hv⟩ : ∃ v, v = thB (min (S2.look M2.L 1) 63 + 1) := ⟨_, rfl⟩
        have HJ2 := Lib.hid (join_at (t := 3) (k := u) (u := v) HP6.out (by decide))
        have HV := Lib.hid hv
        obtain ⟨c2, hc2, hc3, hc4⟩ := steps_le (k := u) HU2.out.2 v
        have HC2 := Lib.hid (And.intro hc2 (And.intro hc3 hc4))
        have d19 : 0 < c2 := hc3
        clear hc2 hc3 hc4 hv
        go_wp2_with (first
          | (go_at_call 10; refine HJ2.out.mono ?_; rintro e w8 ⟨B2, rfl, hr⟩; have HR2 := Lib.hid (hr 999 c2 HC2.out.1 HI2.out HN2.out.1 HN2.out.2.1 HN2.out.2.2 HV.out HC2.out.2.2 (by decide)); clear hr)
          | (go_at_call 9; refine HR2.out.mono ?_; rintro e w9 ⟨rfl, M3, R3, X5, ha3, hp5⟩; have HP5 := Lib.hid hp5; have HLV2 := Lib.hid (HLV.out w9); clear ha3 hp5)
          | (go_at_call 14; refine HLV2.out.mono ?_; rintro e w10 ⟨rfl, hb10⟩; have HB10 := Lib.hid hb10; clear hb10))
        go_ret
        exact ⟨rfl, HP5.out.bl.trans (HB10.out.mono HP5.out.bl.size)⟩
  · have HC : Hid (jsteps 2 u = 12) := Lib.hid (if_neg hu)
    have d9 : decide ((2 : Int) < (u : Int)) = true := by simp; omega
    have hkk : (if u ≤ 2 then 2 else u) = u := if_neg hu
    have HKK := Lib.hid hkk; have HU := Lib.hid hu
    clear hkk hu
    go_upto_region 11 with (go_at_call 8; refine (HS8.out _).mono ?_; rintro e w' ⟨rfl, rfl⟩)
    have HJN := Lib.hid (join_at (t := 9) (k := 2) (u := u) HP3.out (by decide))
    go_upto_region 12 with (first
      | (go_at_call 10; refine HJN.out.mono ?_; rintro e w4 ⟨B1, rfl, hr⟩; have HR1 := Lib.hid (hr 99 12 HC.out HI1.out HN1.out.1 HN1.out.2.1 HN1.out.2.2 HU3.out (by decide) (by decide)); clear hr)
      | (go_at_call 9; refine HR1.out.mono ?_; rintro e w5 ⟨rfl, M2, R2, X4, ha2, hp4⟩; have HA2 := Lib.hid ha2; have HP4 := Lib.hid hp4; have HI2 : Hid (Inv M2 u) := Lib.hid (HKK.out ▸ ha2.inv); have HK0 := Lib.hid (HI2.out.tab ▸ pg_peek hp4 (a := 0) (by decide)); have HH : Hid (Calls Tryz.prog 12 #[X4.ts, .int .i64 (u : Int)] w5 fun e w' => e = .returned (.bool true) ∧ w5 = w') := Lib.hid (by have h := Pg.has hp4 (b := u) HU2.out.2; rwa [has_yes HI2.out] at h); have z0 := hp4.c.1; have z4 := Pg.c4 hp4; clear ha2 hp4)
      | (go_at_call 11; refine HK0.out.mono ?_; rintro e w6 ⟨rfl, rfl⟩)
      | (go_at_call 12; refine HH.out.mono ?_; rintro e w7 ⟨rfl, rfl⟩))
    have HTM : Hid (¬ u ≤ 2 → M2.m (u : Int) = emp (tick : Int) (2 ^ u)) := Lib.hid (fun h => by have e := HA2.out.timers h; rwa [HT1.out] at e)
    have HN2 : Hid (M2.n ≤ 100000 ∧ M2.pn ≤ 100000 ∧ M2.tn ≤ 1000) := Lib.hid (after_few HA2.out (by rw [hNe1.out]; decide) (by rw [hNe2.out]; decide) (by rw [hNe3.out]; decide))
    have HSU : Hid (∀ W, Calls Tryz.prog 8 #[.int .i64 (u : Int)] W fun e w' => e = .returned (.int .i64 ((2 ^ u : Nat) : Int)) ∧ W = w') := Lib.hid (fun W => size_adr HU2.out.1 HU2.out.2 W)
    have HS9 : Hid (2 ^ u ≤ 256) := Lib.hid (Nat.pow_le_pow_right (by decide : 0 < 2) HU2.out.2)
    clear z0 z4
    go_upto_region 14 with fail
    obtain ⟨S, hS⟩ : ∃ S, S = 2 ^ u := ⟨_, rfl⟩
    rw [← hS] at HSU HS9 HTM
    have HSE := Lib.hid hS
    clear hS
    go_loopg [9] (S + 1) (fun q s9 wx => ∃ i : Nat, i ≤ S ∧ q = S + 1 - i ∧ s9 = .int .i64 (i : Int) ∧ ∃ X', Pg w wx w.heap.size WB M2 R2 X')
    case atStart => exact ⟨0, Nat.zero_le _, rfl, rfl, X4, HP4.out⟩
    case round =>
      obtain ⟨i, hi, rfl, rfl, X6, hp6⟩ := hrel
      have HP6 := Lib.hid hp6
      have HI := Lib.hid hi
      by_cases he : i < S
      · have d14 : decide (i < S) = true := decide_eq_true he
        have y4 := Pg.c4 hp6
        have HTI := Lib.hid (Pg.timer hp6 (i := i) HU2.out.2 (by have e := HTM.out HU.out; rwa [HSE.out] at e) (by rw [← HSE.out]; exact he))
        have HE := Lib.hid he
        clear hp6 he hi
        go_wp2_with (first
          | (go_at_call 8; refine (HSU.out _).mono ?_; rintro e w' ⟨rfl, rfl⟩)
          | (go_at_call 13; refine HTI.out.mono ?_; rintro e w7 ⟨rfl, hb7⟩; have HP7 := Lib.hid (HP6.out.new hb7); clear hb7))
        go_roundg (S + 1 - (i + 1))
        case measure => exact Nat.sub_lt_sub_left (Nat.lt_succ_of_lt HE.out) (Nat.lt_succ_self i)
        case rel => exact ⟨i + 1, HE.out, rfl, step_i (Nat.lt_of_lt_of_le HE.out HS9.out), X6, HP7.out.new (below1 w7 _)⟩
      · have d14 : decide (i < S) = false := decide_eq_false he
        have y6 := hp6.c.1
        clear hp6 he hi
        go_upto_region 19 with (go_at_call 8; refine (HSU.out _).mono ?_; rintro e w' ⟨rfl, rfl⟩)
        obtain ⟨v, hv⟩ : ∃ v, v = thB (min (S2.look M2.L 1) 63 + 1) := ⟨_, rfl⟩
        have HJ2 := Lib.hid (join_at (t := 3) (k := u) (u := v) HP6.out (by decide))
        have HV := Lib.hid hv
        obtain ⟨c2, hc2, hc3, hc4⟩ := steps_le (k := u) HU2.out.2 v
        have HC2 := Lib.hid (And.intro hc2 (And.intro hc3 hc4))
        have d19 : 0 < c2 := hc3
        clear hc2 hc3 hc4 hv
        go_wp2_with (first
          | (go_at_call 10; refine HJ2.out.mono ?_; rintro e w8 ⟨B2, rfl, hr⟩; have HR2 := Lib.hid (hr 999 c2 HC2.out.1 HI2.out HN2.out.1 HN2.out.2.1 HN2.out.2.2 HV.out HC2.out.2.2 (by decide)); clear hr)
          | (go_at_call 9; refine HR2.out.mono ?_; rintro e w9 ⟨rfl, M3, R3, X5, ha3, hp5⟩; have HP5 := Lib.hid hp5; have HLV2 := Lib.hid (HLV.out w9); clear ha3 hp5)
          | (go_at_call 14; refine HLV2.out.mono ?_; rintro e w10 ⟨rfl, hb10⟩; have HB10 := Lib.hid hb10; clear hb10))
        go_ret
        exact ⟨rfl, HP5.out.bl.trans (HB10.out.mono HP5.out.bl.size)⟩
end Go.Proofs.YtaajgnpfndljoaaGreat.S17
