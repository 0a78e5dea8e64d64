/- PairsOrder's walk (lt). -/
import Derived.Test.YtdfokceecnmocaaS16I
set_option linter.unusedVariables false
set_option linter.unusedSimpArgs false
namespace Go.Proofs.Ytdfokceecnmocaa.S16
open Go.Proofs.Ytdfokceecnmocaa Go.Proofs.Ytdfokceecnmocaa.S11 Go.Proofs.Ytdfokceecnmocaa.S12 Go.Proofs.Ytdfokceecnmocaa.S13 Go.Proofs.Ytdfokceecnmocaa.S14 Go.Proofs.Ytdfokceecnmocaa.S15 Go.Proofs.Ytdfokceecnmocaa.S16
open Go.RowKit

theorem merge_lt {S P : World → Prop} {G : Prop} (h2 : (∀ W, S W → P W) → G) (h1 : ∀ W, S W → P W) : G := h2 h1
set_option maxRecDepth 100000 in
set_option maxHeartbeats 16000000 in
theorem law_pairs_lt {t k0 k1 bits m7 kN who ka kb La Lb : Nat} (hk0 : k0 < 65536) (hk1 : k1 < 65536) (n1 : 2 ≤ kN) (n2 : kN ≤ 8) (n3 : who < 64)
    (p1 : (bits : Int).tmod 7 = (m7 : Int)) (p1' : (bits : Int) % 7 = (m7 : Int)) (p2 : IntKind.u8.wrap (m7 : Int) = (m7 : Int)) (p3 : IntKind.u64.wrap (m7 : Int) = (m7 : Int)) (p4 : IntKind.u64.wrap (2 + (m7 : Int)) = (kN : Int))
    (q1 : (t : Int).tmod 64 = (who : Int)) (q1' : (t : Int) % 64 = (who : Int)) (q2 : IntKind.u8.wrap (who : Int) = (who : Int)) (q3 : IntKind.i64.wrap (who : Int) = (who : Int)) (q4 : wrap64 (who : Int) = (who : Int))
    (y1 : IntKind.u32.wrap (k0 : Int) = (k0 : Int)) (y2 : IntKind.u32.wrap (k1 : Int) = (k1 : Int))
    (hka : ka = bktN k0 kN) (hkb : kb = bktN k1 kN) (hla : La = lokN k0 kN) (hlb : Lb = lokN k1 kN) (hc : kb < ka) (w : World) :
    Calls Try.prog 4 #[.int .u8 (t : Int), .agg #[.int .u16 (k0 : Int), .int .u16 (k1 : Int)], .int .u8 (bits : Int)] w fun e w' => e = .returned (.bool true) ∧ Below w.heap.size w w' := by
  have HW : Hid (∀ w : World, Calls Try.prog 5 #[.int .u8 0] w fun e w' => ∃ X, e = .returned (Pw X.wB) ∧ PW w' w.heap.size X ∧ At0 X 0 5 [] ∧ Below w.heap.size w w') := Lib.hid (fun w => world_any 0 (by omega) w)
  have HLV := Lib.hid (fun W => lives16 W)
  have hbN : bitsN kN = kN := by unfold bitsN; rw [if_pos ⟨n1, n2⟩]
  have hia := lok_in k0 kN
  have hib := lok_in k1 kN
  have hLa : La = 256 + (2 ^ bitsN kN + ka) := by rw [hla, hka]; rfl
  have hLb : Lb = 256 + (2 ^ bitsN kN + kb) := by rw [hlb, hkb]; rfl
  rw [← hla] at hia
  rw [← hlb] at hib
  have za : S10.lockZ (kN : Int) (ka : Int) = (La : Int) := by
    have h := lok_lock k0 kN
    rw [← hka, ← hla, hbN] at h
    exact h
  have zb : S10.lockZ (kN : Int) (kb : Int) = (Lb : Int) := by
    have h := lok_lock k1 kN
    rw [← hkb, ← hlb, hbN] at h
    exact h
  have hpla : ∀ W, Calls Try.prog 7 #[.int .u32 (k0 : Int), .int .u64 (kN : Int)] W fun e w' => e = .returned (.agg #[.int .i64 (kN : Int), .int .i64 (ka : Int)]) ∧ Below W.heap.size W w' := fun W => by
    have h := place_any k0 kN (Nat.lt_trans hk0 (by decide)) (Nat.lt_of_le_of_lt n2 (by decide)) W
    unfold placeV at h
    rw [← hka, hbN] at h
    exact h
  have hplb : ∀ W, Calls Try.prog 7 #[.int .u32 (k1 : Int), .int .u64 (kN : Int)] W fun e w' => e = .returned (.agg #[.int .i64 (kN : Int), .int .i64 (kb : Int)]) ∧ Below W.heap.size W w' := fun W => by
    have h := place_any k1 kN (Nat.lt_trans hk1 (by decide)) (Nat.lt_of_le_of_lt n2 (by decide)) W
    unfold placeV at h
    rw [← hkb, hbN] at h
    exact h
  have hlka : ∀ W, Calls Try.prog 12 #[.agg #[.int .i64 (kN : Int), .int .i64 (ka : Int)]] W fun e w' => e = .returned (.int .u32 (La : Int)) ∧ Below W.heap.size W w' := fun W => by
    have h := lockOf_any (kN : Int) (ka : Int) W
    rwa [za] at h
  have hlkb : ∀ W, Calls Try.prog 12 #[.agg #[.int .i64 (kN : Int), .int .i64 (kb : Int)]] W fun e w' => e = .returned (.int .u32 (Lb : Int)) ∧ Below W.heap.size W w' := fun W => by
    have h := lockOf_any (kN : Int) (kb : Int) W
    rwa [zb] at h
  obtain ⟨M0, hM0⟩ : ∃ M0, M0 = (sdN 0 5).acc 2 0 kN := ⟨_, rfl⟩
  have l0 : S2.look M0.L 0 = kN := by rw [hM0]; exact acc_same (by decide)
  have lz : ∀ x, x ≠ 0 → S2.look M0.L x = 0 := fun x hx => by
    rw [hM0, acc_other hx]
    show S2.look L02 x = 0
    rw [look02, if_neg hx]
  have b0 : M0.n ≤ 10 ∧ M0.pn ≤ 10 ∧ M0.sp = 0 := by rw [hM0]; exact ⟨by show 1 ≤ 10; decide, by show 0 ≤ 10; decide, rfl⟩
  have e1 : loK k0 k1 kN = k1 := by unfold loK; rw [if_pos (by rw [← hka, ← hkb]; exact hc)]
  have e2 : hiK k0 k1 kN = k0 := by unfold hiK; rw [if_pos (by rw [← hka, ← hkb]; exact hc)]
  have hm1 : Lb = lokN (loK k0 k1 kN) kN := by rw [e1]; exact hlb
  have hm2 : La = lokN (hiK k0 k1 kN) kN := by rw [e2]; exact hla
  obtain ⟨M1, M2, P1, P2, f1, f2, z1, z2, ha2, bb1, bb2, htwo, hone⟩ := pr_alone (t := who) l0 hm1 hm2 (lz _ (by omega)) (lz _ (by omega))
  obtain ⟨M3, hM3⟩ : ∃ M3, M3 = (pitn (M2, P2) 2).1 := ⟨_, rfl⟩
  obtain ⟨P3, hP3⟩ : ∃ P3, P3 = (pitn (M2, P2) 2).2 := ⟨_, rfl⟩
  obtain ⟨g1, g2, g3, g4, g5, g6⟩ := htwo (by rw [← hka, ← hkb]; omega) (by omega)
  have hrun := fun (W : World) (r : List Part) (j u v B base WB : Nat) (X : Wm) (w0 : World) (h : PairAt w0 W base WB M2 r j u v P2 B X) (ok : PrOk P2) => run_p h ok (by rw [bb2.2.2, b0.2.2]; exact ⟨by omega, by omega⟩) 2 9 (by omega) (by omega) (by omega) (by omega) (by omega) g1 g2
  rw [← hM3, ← hP3] at hrun
  rw [← hP3] at g2 g3 g4 g5
  rw [← hM3] at g6
  have hlast : ∀ W r j u v B base WB X w0, PairAt w0 W base WB M2 r j u v P2 B X → Calls Try.prog 19 #[Pw X.cB] W fun e w' => ∃ ak aw ai : Int, e = .returned (.agg #[.int .u8 ak, .int .u32 (Lb : Int), .int .u64 aw, .int .u64 ai]) ∧ Below W.heap.size W w' := fun W r j u v B base WB X w0 h => by
    obtain ⟨q, hq⟩ := h.pg
    refine (pg_last_acc hq).mono ?_
    rintro e w' ⟨rfl, hb⟩
    rw [ha2]
    exact ⟨_, _, _, rfl, hb⟩
  have hgot : ∀ W r j u v B base WB X w0, PairAt w0 W base WB M3 r j u v P3 B X → Calls Try.prog 21 #[Pw B] W fun e w' => e = .returned (.tuple #[plV (kN : Int) (ka : Int), plV (kN : Int) (kb : Int)]) ∧ Below W.heap.size W w' := fun W r j u v B base WB X w0 h => by
    have := h.got g2
    rw [g3, g4, g5, hbN, ← hka, ← hkb] at this
    exact this
  have ta : S2.look M3.L La = 1 := g6.at_b
  have tb : S2.look M3.L Lb = 1 := g6.at_a
  have b3 : M3.n ≤ 100 ∧ M3.pn ≤ 100 ∧ M3.sp = 0 := ⟨by have := g6.n; omega, by have := g6.pn; omega, by rw [g6.sp]; exact b0.2.2⟩
  have HNP := Lib.hid (fun W => new_pair (t := who) (a := k0) (b := k1) n3 W)
  have hn1 : ¬ ka = kb := by omega
  have hn2 : ¬ (ka : Int) = (kb : Int) := by omega
  have HPA := Lib.hid hpla; have HPB := Lib.hid hplb; have HLKa := Lib.hid hlka; have HLKb := Lib.hid hlkb; have HAI := Lib.hid (And.intro hia hib)
  have HS := Lib.hid (And.intro f1 (And.intro f2 (And.intro z1 z2))); have HBB := Lib.hid (And.intro b0 (And.intro bb1 (And.intro bb2 b3))); have HM0 := Lib.hid hM0
  have HRUN := Lib.hid hrun; have HLAST := Lib.hid hlast; have HGOT := Lib.hid hgot; have HTA := Lib.hid ta; have HTB := Lib.hid tb
  have HZ := Lib.hid (And.intro za zb); have HN := Lib.hid (And.intro n1 (And.intro n2 (And.intro n3 (And.intro hk0 hk1))))
  have HC := Lib.hid hc; have HAB := Lib.hid (show La ≠ Lb by omega)
  have d12 : decide ((kb : Int) < (ka : Int)) = true := decide_eq_true (by omega)
  clear hpla hplb hlka hlkb hia hib f1 f2 z1 z2 b0 bb1 bb2 b3 hM0 hrun hlast hgot ta tb hc za zb n1 n2 n3 hk0 hk1 hbN hLa hLb l0 lz e1 e2 hm1 hm2 ha2 htwo hone g1 g2 g3 g4 g5 g6 hM3 hP3 hka hkb hla hlb
  go_enter Try.func4, Try.ntmps4
  go_upto_region 1 with (fail)
  obtain ⟨w1, hw1⟩ : ∃ w1, w1 = w.alloc (.cells #[.int .u16 (k0 : Int), .int .u16 (k1 : Int)] 55) := ⟨_, rfl⟩
  obtain ⟨KB, hKB⟩ : ∃ KB, KB = w.heap.size := ⟨_, rfl⟩
  have kc0 : w1.cell? ⟨KB, 0, none⟩ = some (.int .u16 (k0 : Int)) := by rw [hw1, hKB]; exact cell_row (heap_alloc_new w _) 0
  have kc1 : w1.cell? ⟨KB, 1, none⟩ = some (.int .u16 (k1 : Int)) := by rw [hw1, hKB]; exact cell_row (heap_alloc_new w _) 1
  have hb1 : Below w.heap.size w w1 := by rw [hw1]; exact below1 _ _
  rw [← hw1, ← hKB]
  have HK1 := Lib.hid (And.intro kc0 (And.intro kc1 hb1))
  clear kc0 kc1 hb1 hw1 hKB
  go_upto_region 5 with (go_at_call 5; refine (HW.out _).mono ?_; rintro e w2 ⟨X, rfl, hp, h0, hb⟩)
  have hpg := pg_of hp hb
  rw [at0_sd h0] at hpg
  obtain ⟨WB, hWB⟩ : ∃ x, x = X.wB := ⟨_, rfl⟩
  rw [← hWB] at hpg ⊢
  have x0 := hpg.c.1
  have HST := Lib.hid (hpg.store (a := 0) (v := kN) (by decide) (by have := HN.out; omega) (Nat.zero_le _))
  clear hpg hp h0 hb hWB HW
  go_upto_region 6 with (go_at_call 6; refine HST.out.mono ?_; rintro e w3 ⟨rfl, X3, h3, hc3⟩; clear hc3)
  clear x0 HST p1 p1' p2 p3 p4
  have h3' : Pg w1 w3 w1.heap.size WB M0 [] X3 := by rw [HM0.out]; exact h3
  have H3 := Lib.hid h3'
  clear h3 h3'
  have c0 : w3.cell? ⟨KB, 0, none⟩ = some (.int .u16 (k0 : Int)) := bcell H3.out.bl HK1.out.1
  go_upto_region 7 with (go_at_call 7; refine (HPA.out _).mono ?_; rintro e w4 ⟨rfl, hb4⟩; have HB4 := Lib.hid hb4; clear hb4)
  have h5 := Pg.add (H3.out.new HB4.out) (.cells #[.int .i64 (kN : Int), .int .i64 (ka : Int)] 39)
  obtain ⟨PB, hPB⟩ : ∃ PB, PB = w4.heap.size := ⟨_, rfl⟩
  rw [← hPB] at h5 ⊢
  have H5 := Lib.hid h5
  clear h5 hPB H3 HB4 HPA c0
  generalize w4.alloc (.cells #[.int .i64 (kN : Int), .int .i64 (ka : Int)] 39) = w5 at *
  have c1 : w5.cell? ⟨KB, 1, none⟩ = some (.int .u16 (k1 : Int)) := bcell H5.out.bl HK1.out.2.1
  go_upto_region 8 with (go_at_call 7; refine (HPB.out _).mono ?_; rintro e w6 ⟨rfl, hb6⟩; have HB6 := Lib.hid hb6; clear hb6)
  have h7 := Pg.add (H5.out.new HB6.out) (.cells #[.int .i64 (kN : Int), .int .i64 (kb : Int)] 39)
  obtain ⟨QB, hQB⟩ : ∃ QB, QB = w6.heap.size := ⟨_, rfl⟩
  rw [← hQB] at h7 ⊢
  have H7 := Lib.hid h7
  clear h7 hQB H5 HB6 HPB c1
  generalize w6.alloc (.cells #[.int .i64 (kN : Int), .int .i64 (kb : Int)] 39) = w7 at *
  have c0 : w7.cell? ⟨KB, 0, none⟩ = some (.int .u16 (k0 : Int)) := bcell H7.out.bl HK1.out.1
  have c1 : w7.cell? ⟨KB, 1, none⟩ = some (.int .u16 (k1 : Int)) := bcell H7.out.bl HK1.out.2.1
  go_upto_region 9 with (go_at_call 17; refine (HNP.out _).mono ?_; rintro e w8 ⟨v, rfl, hnp⟩)
  obtain ⟨B, rfl, X8, hpa⟩ := Pg.pair H7.out hnp
  have HS1 := Lib.hid (pstep_ok (R := [blockP PB (.cells #[.int .i64 (kN : Int), .int .i64 (ka : Int)] 39), blockP QB (.cells #[.int .i64 (kN : Int), .int .i64 (kb : Int)] 39)]) hpa (ok_pr HN.out.2.2.1 (by have := HN.out; omega) (by have := HN.out; omega)) (by rw [HBB.out.1.2.2]; exact ⟨by omega, by omega⟩) (by have := HBB.out; omega) (by have := HBB.out; omega) (by show 1 ≠ 0; omega) HS.out.1 (by rw [HS.out.2.2.1]; omega) ((Ext.refl _).app _) (by show 2 ≤ 2; omega) (by show 2 ≤ 3; omega) (by show 2 ≤ 4; omega))
  clear hnp hpa H7 HNP c0 c1 q1 q1' q2 q3 q4 y1 y2
  go_upto_region 10 with (go_at_call 18; refine HS1.out.mono ?_; rintro e w9 ⟨rfl, ok1, r9, X9, hE9, h9⟩)
  have HS2 := Lib.hid (pstep_ok (R := [blockP PB (.cells #[.int .i64 (kN : Int), .int .i64 (ka : Int)] 39), blockP QB (.cells #[.int .i64 (kN : Int), .int .i64 (kb : Int)] 39)]) h9 ok1 (by rw [HBB.out.2.1.2.2, HBB.out.1.2.2]; exact ⟨by omega, by omega⟩) (by have := HBB.out; omega) (by have := HBB.out; omega) (by rw [HS.out.2.2.1]; omega) HS.out.2.1 (by rw [HS.out.2.2.2]; omega) hE9 (by show 2 ≤ 2; omega) (by show 2 ≤ 3; omega) (by show 2 ≤ 4; omega))
  clear HS1 ok1 hE9 h9
  go_upto_region 11 with (go_at_call 18; refine HS2.out.mono ?_; rintro e w10 ⟨rfl, ok2, r10, X10, hE10, h10⟩)
  obtain ⟨jj, hjj⟩ : ∃ jj, jj = ([] ++ [blockP PB (.cells #[.int .i64 (kN : Int), .int .i64 (ka : Int)] 39)] ++ [blockP QB (.cells #[.int .i64 (kN : Int), .int .i64 (kb : Int)] 39)]).length := ⟨_, rfl⟩
  have hjj2 : jj = 2 := hjj
  rw [← hjj] at h10
  have HOK2 := Lib.hid ok2; have HE := Lib.hid hE10; have H10 := Lib.hid h10; have HJJ := Lib.hid hjj2
  clear HS2 ok2 hE10 h10 hjj hjj2
  have HJU := Lib.hid (show 2 ≤ jj + 1 ∧ 2 ≤ jj + 2 by have := HJJ.out; omega)
  generalize jj + 1 = ju at *
  generalize jj + 2 = jv at *
  obtain ⟨R10, hR10, hpg10⟩ := H10.out.ext HE.out (by rw [HJJ.out]; show 2 ≤ 2; omega)
  have pc0 : w10.cell? ⟨PB, 0, none⟩ = some (.int .i64 (kN : Int)) := cell_row (pg_at hpg10 (hR10 0 _ rfl)) 0
  have pc1 : w10.cell? ⟨PB, 1, none⟩ = some (.int .i64 (ka : Int)) := cell_row (pg_at hpg10 (hR10 0 _ rfl)) 1
  have qc0 : w10.cell? ⟨QB, 0, none⟩ = some (.int .i64 (kN : Int)) := cell_row (pg_at hpg10 (hR10 1 _ rfl)) 0
  have qc1 : w10.cell? ⟨QB, 1, none⟩ = some (.int .i64 (kb : Int)) := cell_row (pg_at hpg10 (hR10 1 _ rfl)) 1
  clear hR10 hpg10
  have HPQ := Lib.hid (And.intro pc0 (And.intro pc1 (And.intro qc0 qc1)))
  clear qc0 qc1
  go_upto_region 12 with (fail)
  obtain ⟨LB, hLB⟩ : ∃ LB, LB = w10.heap.size := ⟨_, rfl⟩
  have hl11 : (w10.alloc (.cells #[.int .i64 (kN : Int), .int .i64 (ka : Int)] 39)).heap[LB]? = some (.cells #[.int .i64 (kN : Int), .int .i64 (ka : Int)] 39 (0, 0)) := by rw [hLB]; exact heap_alloc_new _ _
  have hb11 : Below w10.heap.size w10 (w10.alloc (.cells #[.int .i64 (kN : Int), .int .i64 (ka : Int)] 39)) := below1 _ _
  rw [← hLB]
  have HB11 := Lib.hid hb11; have HL11 := Lib.hid hl11; have HLBS := Lib.hid hLB
  clear hb11 hl11 hLB pc0 pc1
  generalize w10.alloc (.cells #[.int .i64 (kN : Int), .int .i64 (ka : Int)] 39) = w11 at *
  have pc1 : w11.cell? ⟨PB, 1, none⟩ = some (.int .i64 (ka : Int)) := bcell HB11.out HPQ.out.2.1
  have qc0 : w11.cell? ⟨QB, 0, none⟩ = some (.int .i64 (kN : Int)) := bcell HB11.out HPQ.out.2.2.1
  have qc1 : w11.cell? ⟨QB, 1, none⟩ = some (.int .i64 (kb : Int)) := bcell HB11.out HPQ.out.2.2.2
  have lc0 : w11.cell? ⟨LB, 0, none⟩ = some (.int .i64 (kN : Int)) := cell_row HL11.out 0
  have lc1 : w11.cell? ⟨LB, 1, none⟩ = some (.int .i64 (ka : Int)) := cell_row HL11.out 1
  have lf0 : w11.frozen? ⟨LB, 0, none⟩ = false := froz_row HL11.out 0
  have lf1 : w11.frozen? ⟨LB, 1, none⟩ = false := froz_row HL11.out 1
  go_upto_region 14 with (fail)
  have hl12 := set_blk (set_blk HL11.out 0 (.int .i64 (kN : Int)) _ rfl) 1 (.int .i64 (kb : Int)) _ rfl
  have hb12 : Below w10.heap.size w10 ((w11.setCell ⟨LB, 0, none⟩ (.int .i64 (kN : Int))).setCell ⟨LB, 1, none⟩ (.int .i64 (kb : Int))) := (HB11.out.setCell (p := ⟨LB, 0, none⟩) (by rw [HLBS.out]; exact Nat.le_refl _) _).setCell (p := ⟨LB, 1, none⟩) (by rw [HLBS.out]; exact Nat.le_refl _) _
  have HL12 := Lib.hid hl12; have HB12 := Lib.hid hb12
  clear hl12 hb12 pc1 qc0 qc1 lc0 lc1 lf0 lf1 d12
  generalize (w11.setCell ⟨LB, 0, none⟩ (.int .i64 (kN : Int))).setCell ⟨LB, 1, none⟩ (.int .i64 (kb : Int)) = w12 at *
  have h12 := H10.out.new HB12.out
  obtain ⟨cb, hcb⟩ : ∃ cb, X10.cB = cb := ⟨_, rfl⟩
  have hc12 : w12.cell? ⟨LB, 0, none⟩ = some (.int .i64 (kN : Int)) ∧ w12.cell? ⟨LB, 1, none⟩ = some (.int .i64 (kb : Int)) ∧ w12.cell? ⟨WB, 0, none⟩ = some (Pw cb) := ⟨cell_row HL12.out 0, cell_row HL12.out 1, by
    obtain ⟨q, hq⟩ := h12.pg
    rw [← hcb]; exact hq.c.1⟩
  have hla := fun (W : World) (h : PairAt w1 W w1.heap.size WB M2 r10 jj ju jv P2 B X10) => HLAST.out _ _ _ _ _ _ _ _ _ _ h
  rw [hcb] at hla
  have hov := fun (W : World) (h : PairAt w1 W w1.heap.size WB M2 r10 jj ju jv P2 B X10) => h.over HOK2.out
  rw [decide_eq_false (by rw [HS.out.2.2.2]; omega)] at hov
  have HLL := HLKb
  have ifld : ∀ (ak aw ai : Int) (W : World), (Instr.field 61 (.agg #[.int .u8 ak, .int .u32 (Lb : Int), .int .u64 aw, .int .u64 ai]) 1).run Try.prog W = .ok (.int .u32 (Lb : Int)) W := fun ak aw ai W => by kernel_rfl
  have H12 := Lib.hid h12; have HC12 := Lib.hid hc12; have HLA := Lib.hid hla; have HOV := Lib.hid hov
  clear h12 hc12 hla hov hcb H10 HL12 HLAST HL11 HB11
  refine wp_region_held_drew (S := fun w' => w'.cell? ⟨LB, 0, none⟩ = some (.int .i64 (kN : Int)) ∧ w'.cell? ⟨LB, 1, none⟩ = some (.int .i64 (kb : Int)) ∧ w'.cell? ⟨WB, 0, none⟩ = some (Pw cb)) (by kernel_rfl) ?_ (fun hHeld => ?_)
  · exact ⟨bcell (Below.refl _ _).drew HC12.out.1, bcell (Below.refl _ _).drew HC12.out.2.1, bcell (Below.refl _ _).drew HC12.out.2.2⟩
  refine wpAnyH_take (i := 0) (oi := ({ dst := some 62, op := Op.move (Operand.tmp 7), type := 23, pos := "outright.go:145", after := #[], guard := none } : Oper)) (v := ?va14m1) rfl (by kernel_rfl) (by kernel_rfl) (by kernel_rfl) (fun _ _ _ h => h) (Or.inl ⟨by rfl, fun w hSw => ?hya14m1⟩) (by assumption) ?ra14m1
  case hya14m1 => (try dsimp only at hSw); go_simp; (try with_reducible rfl)
  (try simp only [Act.put, List.setIfInBounds_toArray, List.set_cons_zero, List.set_cons_succ])
  refine wpAnyH_take (i := 1) (oi := ({ dst := some 63, op := Op.nilCheck (Operand.tmp 62), type := 0, pos := "outright.go:145", after := #[{ on := 0, ground := Ground.data }], guard := none } : Oper)) (v := ?va14m2) rfl (by kernel_rfl) (by kernel_rfl) (by kernel_rfl) (fun _ _ _ h => h) (Or.inl ⟨by rfl, fun w hSw => ?hya14m2⟩) (by assumption) ?ra14m2
  case hya14m2 => (try dsimp only at hSw); go_simp; (try with_reducible rfl)
  (try simp only [Act.put, List.setIfInBounds_toArray, List.set_cons_zero, List.set_cons_succ])
  refine wpAnyH_take (i := 2) (oi := ({ dst := some 64, op := Op.fieldAddr 34 (Operand.tmp 63) 0, type := 0, pos := "outright.go:145", after := #[{ on := 1, ground := Ground.data }], guard := none } : Oper)) (v := ?va14m3) rfl (by kernel_rfl) (by kernel_rfl) (by kernel_rfl) (fun _ _ _ h => h) (Or.inl ⟨by rfl, fun w hSw => ?hya14m3⟩) (by assumption) ?ra14m3
  case hya14m3 => (try dsimp only at hSw); go_simp; (try with_reducible rfl)
  (try simp only [Act.put, List.setIfInBounds_toArray, List.set_cons_zero, List.set_cons_succ])
  refine wpAnyH_take (i := 3) (oi := ({ dst := some 65, op := Op.load 26 (Operand.tmp 64), type := 26, pos := "outright.go:145", after := #[{ on := 2, ground := Ground.data }], guard := none } : Oper)) (v := ?va14m4) rfl (by kernel_rfl) (by kernel_rfl) (by kernel_rfl) (fun _ _ _ h => h) (Or.inl ⟨by rfl, fun w hSw => ?hya14m4⟩) (by assumption) ?ra14m4
  case hya14m4 => (try dsimp only at hSw); go_simp; (try with_reducible rfl)
  (try simp only [Act.put, List.setIfInBounds_toArray, List.set_cons_zero, List.set_cons_succ])
  refine wpAnyH_take (i := 6) (oi := ({ dst := some 68, op := Op.load 39 (Operand.tmp 12), type := 39, pos := "outright.go:145", after := #[], guard := none } : Oper)) (v := ?va14m5) rfl (by kernel_rfl) (by kernel_rfl) (by kernel_rfl) (fun _ _ _ h => h) (Or.inl ⟨by rfl, fun w hSw => ?hya14m5⟩) (by assumption) ?ra14m5
  case hya14m5 => (try dsimp only at hSw); go_simp; (try with_reducible rfl)
  (try simp only [Act.put, List.setIfInBounds_toArray, List.set_cons_zero, List.set_cons_succ])
  refine wpAnyH_ready (rs := [4]) (by kernel_rfl) (by simp) ?_
  refine AllReadyH.cons (o := ({ dst := some 66, op := Op.call { callee := Callee.value (Operand.func 19), args := #[Operand.tmp 65], argTypes := #[26] }, type := 61, pos := "outright.go:145", after := #[{ on := 3, ground := Ground.data }], guard := none } : Oper)) rfl (fun Kq hKq => ?_) AllReadyH.nil
  go_simp
  (refine (HLA.out _ (H12.out.new (Below.refl _ _).drew)).mono ?_; rintro e w13 ⟨ak, aw, ai, rfl, hb13⟩; have HB13 := Lib.hid hb13; have H13 := Lib.hid (H12.out.new ((Below.refl _ _).drew.trans hb13)); clear hb13)
  refine hKq.out _ _ ?_ (fun hHeld => ?_)
  · exact ⟨bcell HB13.out hHeld.1, bcell HB13.out hHeld.2.1, bcell HB13.out hHeld.2.2⟩
  clear hKq Kq
  (try simp only [Act.put, List.setIfInBounds_toArray, List.set_cons_zero, List.set_cons_succ])
  refine wpAnyH_take (i := 5) (oi := ({ dst := some 67, op := Op.field 61 (Operand.tmp 66) 1, type := 37, pos := "outright.go:145", after := #[{ on := 4, ground := Ground.data }], guard := none } : Oper)) (v := ?va14m6) rfl (by kernel_rfl) (by kernel_rfl) (by kernel_rfl) (fun _ _ _ h => h) (Or.inl ⟨by rfl, fun w hSw => ?hya14m6⟩) (by assumption) ?ra14m6
  case hya14m6 => (try dsimp only at hSw); go_simp; (try with_reducible rfl)
  (try simp only [Act.put, List.setIfInBounds_toArray, List.set_cons_zero, List.set_cons_succ])
  refine wpAnyH_ready (rs := [7]) (by kernel_rfl) (by simp) ?_
  refine AllReadyH.cons (o := ({ dst := some 69, op := Op.call { callee := Callee.value (Operand.func 12), args := #[Operand.tmp 68], argTypes := #[39] }, type := 37, pos := "outright.go:145", after := #[{ on := 6, ground := Ground.data }, { on := 4, ground := Ground.chain }], guard := none } : Oper)) rfl (fun Kq hKq => ?_) AllReadyH.nil
  go_simp
  (refine (HLL.out _).mono ?_; rintro e w14 ⟨rfl, hb14⟩; have HB14 := Lib.hid hb14; have H14 := Lib.hid (H13.out.new hb14); clear hb14)
  refine hKq.out _ _ ?_ (fun hHeld => ?_)
  · exact ⟨bcell HB14.out hHeld.1, bcell HB14.out hHeld.2.1, bcell HB14.out hHeld.2.2⟩
  clear hKq Kq
  (try simp only [Act.put, List.setIfInBounds_toArray, List.set_cons_zero, List.set_cons_succ])
  refine wpAnyH_take (i := 8) (oi := ({ dst := some 70, op := Op.binOp BinOp.neq 37 (Operand.tmp 67) (Operand.tmp 69) 37, type := 4, pos := "outright.go:145", after := #[{ on := 5, ground := Ground.data }, { on := 7, ground := Ground.data }], guard := none } : Oper)) (v := ?va14m7) rfl (by kernel_rfl) (by kernel_rfl) (by kernel_rfl) (fun _ _ _ h => h) (Or.inl ⟨by rfl, fun w hSw => ?hya14m7⟩) (by assumption) ?ra14m7
  case hya14m7 => (try dsimp only at hSw); go_simp; (try with_reducible rfl)
  (try simp only [Act.put, List.setIfInBounds_toArray, List.set_cons_zero, List.set_cons_succ])
  refine wpAnyH_take (i := 9) (oi := ({ dst := some 71, op := Op.move (Operand.tmp 70), type := 4, pos := "outright.go:145", after := #[{ on := 8, ground := Ground.data }, { on := 7, ground := Ground.chain }], guard := none } : Oper)) (v := ?va14m8) rfl (by kernel_rfl) (by kernel_rfl) (by kernel_rfl) (fun _ _ _ h => h) (Or.inl ⟨by rfl, fun w hSw => ?hya14m8⟩) (by assumption) ?ra14m8
  case hya14m8 => (try dsimp only at hSw); go_simp; (try with_reducible rfl)
  (try simp only [Act.put, List.setIfInBounds_toArray, List.set_cons_zero, List.set_cons_succ])
  refine wpAnyH_take (i := 10) (oi := ({ dst := some 72, op := Op.move (Operand.tmp 11), type := 56, pos := "outright.go:145", after := #[{ on := 9, ground := Ground.guard }], guard := some (9, false) } : Oper)) (v := ?va14m9) rfl (by kernel_rfl) (by kernel_rfl) (by kernel_rfl) (fun _ _ _ h => h) (Or.inl ⟨by rfl, fun w hSw => ?hya14m9⟩) (by assumption) ?ra14m9
  case hya14m9 => (try dsimp only at hSw); go_simp; (try with_reducible rfl)
  (try simp only [Act.put, List.setIfInBounds_toArray, List.set_cons_zero, List.set_cons_succ])
  refine wpAnyH_ready (rs := [11]) (by kernel_rfl) (by simp) ?_
  refine AllReadyH.cons (o := ({ dst := some 73, op := Op.call { callee := Callee.value (Operand.func 20), args := #[Operand.tmp 72], argTypes := #[56] }, type := 4, pos := "outright.go:145", after := #[{ on := 10, ground := Ground.data }, { on := 9, ground := Ground.chain }, { on := 9, ground := Ground.guard }], guard := some (9, false) } : Oper)) rfl (fun Kq hKq => ?_) AllReadyH.nil
  go_simp
  (refine (HOV.out _ H14.out).mono ?_; rintro e w15 ⟨rfl, hb15⟩; have HB15 := Lib.hid hb15; have H15 := Lib.hid (H14.out.new hb15); clear hb15)
  refine hKq.out _ _ ?_ (fun hHeld => ?_)
  · exact ⟨bcell HB15.out hHeld.1, bcell HB15.out hHeld.2.1, bcell HB15.out hHeld.2.2⟩
  clear hKq Kq
  (try simp only [Act.put, List.setIfInBounds_toArray, List.set_cons_zero, List.set_cons_succ])
  refine wpAnyH_take (i := 12) (oi := ({ dst := some 74, op := Op.pick (Operand.tmp 71) (Operand.const (Value.bool true)) (Operand.tmp 73), type := 4, pos := "outright.go:145", after := #[{ on := 9, ground := Ground.data }, { on := 11, ground := Ground.data }], guard := none } : Oper)) (v := ?va14m10) rfl (by kernel_rfl) (by kernel_rfl) (by kernel_rfl) (fun _ _ _ h => h) (Or.inl ⟨by rfl, fun w hSw => ?hya14m10⟩) (by assumption) ?ra14m10
  case hya14m10 => (try dsimp only at hSw); go_simp; (try with_reducible rfl)
  (try simp only [Act.put, List.setIfInBounds_toArray, List.set_cons_zero, List.set_cons_succ])
  refine wpAnyH_done (by kernel_rfl) ?_ _
  clear ifld hHeld HLA HOV HLL HB13 HB14 HB15 H12 H13 H14
  have HPQ2 : Hid (w15.cell? ⟨PB, 0, none⟩ = some (.int .i64 (kN : Int)) ∧ w15.cell? ⟨PB, 1, none⟩ = some (.int .i64 (ka : Int)) ∧ w15.cell? ⟨QB, 0, none⟩ = some (.int .i64 (kN : Int)) ∧ w15.cell? ⟨QB, 1, none⟩ = some (.int .i64 (kb : Int))) := Lib.hid (by
    obtain ⟨R15, hR15, hpg15⟩ := H15.out.ext HE.out (by rw [HJJ.out]; show 2 ≤ 2; omega)
    exact ⟨cell_row (pg_at hpg15 (hR15 0 _ rfl)) 0, cell_row (pg_at hpg15 (hR15 0 _ rfl)) 1, cell_row (pg_at hpg15 (hR15 1 _ rfl)) 0, cell_row (pg_at hpg15 (hR15 1 _ rfl)) 1⟩)
  have HR := Lib.hid (HRUN.out _ _ _ _ _ _ _ _ _ _ H15.out HOK2.out)
  clear HRUN HPQ HC12
  obtain ⟨pc0, pc1, qc0, qc1⟩ := HPQ2.out
  clear HPQ2
  go_upto_region 19 with (fail)
  clear pc0 pc1 qc0 qc1
  go_upto_region 21 with (go_at_call 9; refine HR.out.mono ?_; rintro e w16 ⟨rfl, u1, u2, X16, h16⟩)
  have hE16 := (HE.out.set (i := ju) HJU.out.1 u1).set (i := jv) HJU.out.2 u2
  have HGO := Lib.hid (HGOT.out _ _ _ _ _ _ _ _ _ _ h16)
  obtain ⟨R16, hR16, hpg16⟩ := h16.ext hE16 (by rw [HJJ.out]; show 2 ≤ 2; omega)
  have HR16 := Lib.hid hR16; have H16 := Lib.hid hpg16
  clear hE16 h16 hR16 hpg16 HR HGOT H15 HE
  go_upto_region 22 with (go_at_call 21; refine HGO.out.mono ?_; rintro e w17 ⟨rfl, hb17⟩; have HB17 := Lib.hid hb17; clear hb17)
  have h19 := Pg.add (Pg.add (H16.out.new HB17.out) (.cells #[.int .i64 (kN : Int), .int .i64 (ka : Int)] 39)) (.cells #[.int .i64 (kN : Int), .int .i64 (kb : Int)] 39)
  obtain ⟨AB, hAB⟩ : ∃ AB, AB = w17.heap.size := ⟨_, rfl⟩
  obtain ⟨BB, hBB⟩ : ∃ BB, BB = (w17.alloc (.cells #[.int .i64 (kN : Int), .int .i64 (ka : Int)] 39)).heap.size := ⟨_, rfl⟩
  have hBB' : BB = AB + 1 := by rw [hBB, alloc_size, hAB]
  rw [← hAB, ← hBB] at h19
  rw [← hAB]
  (try rw [← hBB'])
  have kA : (R16 ++ [blockP AB (.cells #[.int .i64 (kN : Int), .int .i64 (ka : Int)] 39)] ++ [blockP BB (.cells #[.int .i64 (kN : Int), .int .i64 (kb : Int)] 39)])[R16.length]? = some (blockP AB (.cells #[.int .i64 (kN : Int), .int .i64 (ka : Int)] 39)) := (Ext.refl _).app _ _ _ (ext_last R16 _)
  have kB : (R16 ++ [blockP AB (.cells #[.int .i64 (kN : Int), .int .i64 (ka : Int)] 39)] ++ [blockP BB (.cells #[.int .i64 (kN : Int), .int .i64 (kb : Int)] 39)])[(R16 ++ [blockP AB (.cells #[.int .i64 (kN : Int), .int .i64 (ka : Int)] 39)]).length]? = some (blockP BB (.cells #[.int .i64 (kN : Int), .int .i64 (kb : Int)] 39)) := ext_last _ _
  have kP : (R16 ++ [blockP AB (.cells #[.int .i64 (kN : Int), .int .i64 (ka : Int)] 39)] ++ [blockP BB (.cells #[.int .i64 (kN : Int), .int .i64 (kb : Int)] 39)])[0]? = some (blockP PB (.cells #[.int .i64 (kN : Int), .int .i64 (ka : Int)] 39)) := (HR16.out.app _).app _ 0 _ rfl
  have kQ : (R16 ++ [blockP AB (.cells #[.int .i64 (kN : Int), .int .i64 (ka : Int)] 39)] ++ [blockP BB (.cells #[.int .i64 (kN : Int), .int .i64 (kb : Int)] 39)])[1]? = some (blockP QB (.cells #[.int .i64 (kN : Int), .int .i64 (kb : Int)] 39)) := (HR16.out.app _).app _ 1 _ rfl
  have HIX := Lib.hid (And.intro kA (And.intro kB (And.intro kP kQ)))
  have H19 := Lib.hid h19
  clear h19 hAB hBB hBB' H16 HB17 HGO kA kB kP kQ
  generalize (R16 ++ [blockP AB (.cells #[.int .i64 (kN : Int), .int .i64 (ka : Int)] 39)] ++ [blockP BB (.cells #[.int .i64 (kN : Int), .int .i64 (kb : Int)] 39)]) = R19 at *
  generalize (R16 ++ [blockP AB (.cells #[.int .i64 (kN : Int), .int .i64 (ka : Int)] 39)]).length = iB at *
  generalize (w17.alloc (.cells #[.int .i64 (kN : Int), .int .i64 (ka : Int)] 39)).alloc (.cells #[.int .i64 (kN : Int), .int .i64 (kb : Int)] 39) = w19 at *
  obtain ⟨cb, hcb⟩ : ∃ cb, X16.cB = cb := ⟨_, rfl⟩
  have hs22 : (fun w' => w'.cell? ⟨AB, 0, none⟩ = some (.int .i64 (kN : Int)) ∧ w'.cell? ⟨AB, 1, none⟩ = some (.int .i64 (ka : Int)) ∧ w'.cell? ⟨BB, 0, none⟩ = some (.int .i64 (kN : Int)) ∧ w'.cell? ⟨BB, 1, none⟩ = some (.int .i64 (kb : Int)) ∧ w'.cell? ⟨PB, 0, none⟩ = some (.int .i64 (kN : Int)) ∧ w'.cell? ⟨PB, 1, none⟩ = some (.int .i64 (ka : Int)) ∧ w'.cell? ⟨QB, 0, none⟩ = some (.int .i64 (kN : Int)) ∧ w'.cell? ⟨QB, 1, none⟩ = some (.int .i64 (kb : Int)) ∧ w'.cell? ⟨WB, 0, none⟩ = some (Pw cb)) w19.drew := ⟨cell_row (pg_at (H19.out.new (Below.refl _ _).drew) HIX.out.1) 0, cell_row (pg_at (H19.out.new (Below.refl _ _).drew) HIX.out.1) 1, cell_row (pg_at (H19.out.new (Below.refl _ _).drew) HIX.out.2.1) 0, cell_row (pg_at (H19.out.new (Below.refl _ _).drew) HIX.out.2.1) 1, cell_row (pg_at (H19.out.new (Below.refl _ _).drew) HIX.out.2.2.1) 0, cell_row (pg_at (H19.out.new (Below.refl _ _).drew) HIX.out.2.2.1) 1, cell_row (pg_at (H19.out.new (Below.refl _ _).drew) HIX.out.2.2.2) 0, cell_row (pg_at (H19.out.new (Below.refl _ _).drew) HIX.out.2.2.2) 1, by rw [← hcb]; exact (H19.out.new (Below.refl _ _).drew).c.1⟩
  have hpka : ∀ W R, Pg w1 W w1.heap.size WB M3 R X16 → Calls Try.prog 11 #[Pw cb, .int .u32 (La : Int)] W fun e w' => e = .returned (.int .u64 1) ∧ W = w' := fun W R hW => by
    have := pg_peek hW (a := La) (by have := HAI.out; omega)
    rw [hcb, HTA.out] at this
    exact this
  have hpkb : ∀ W R, Pg w1 W w1.heap.size WB M3 R X16 → Calls Try.prog 11 #[Pw cb, .int .u32 (Lb : Int)] W fun e w' => e = .returned (.int .u64 1) ∧ W = w' := fun W R hW => by
    have := pg_peek hW (a := Lb) (by have := HAI.out; omega)
    rw [hcb, HTB.out] at this
    exact this
  have HPKb := Lib.hid hpkb
  clear hpkb
  have HS22 := Lib.hid hs22; have HPKa := Lib.hid hpka
  clear hs22 hpka hcb
  refine wp_region_held_drew (S := fun w' => w'.cell? ⟨AB, 0, none⟩ = some (.int .i64 (kN : Int)) ∧ w'.cell? ⟨AB, 1, none⟩ = some (.int .i64 (ka : Int)) ∧ w'.cell? ⟨BB, 0, none⟩ = some (.int .i64 (kN : Int)) ∧ w'.cell? ⟨BB, 1, none⟩ = some (.int .i64 (kb : Int)) ∧ w'.cell? ⟨PB, 0, none⟩ = some (.int .i64 (kN : Int)) ∧ w'.cell? ⟨PB, 1, none⟩ = some (.int .i64 (ka : Int)) ∧ w'.cell? ⟨QB, 0, none⟩ = some (.int .i64 (kN : Int)) ∧ w'.cell? ⟨QB, 1, none⟩ = some (.int .i64 (kb : Int)) ∧ w'.cell? ⟨WB, 0, none⟩ = some (Pw cb)) (by kernel_rfl) ?_ (fun hHeld => ?_)
  · exact HS22.out
  refine wpAnyH_take (i := 0) (oi := ({ dst := some 89, op := Op.load 39 (Operand.tmp 14), type := 39, pos := "outright.go:156", after := #[], guard := none } : Oper)) (v := ?va22m1) rfl (by kernel_rfl) (by kernel_rfl) (by kernel_rfl) (fun _ _ _ h => h) (Or.inl ⟨by rfl, fun w hSw => ?hya22m1⟩) (by assumption) ?ra22m1
  case hya22m1 => (try dsimp only at hSw); go_simp; (try with_reducible rfl)
  (try simp only [Act.put, List.setIfInBounds_toArray, List.set_cons_zero, List.set_cons_succ])
  refine wpAnyH_take (i := 1) (oi := ({ dst := some 90, op := Op.load 39 (Operand.tmp 9), type := 39, pos := "outright.go:156", after := #[], guard := none } : Oper)) (v := ?va22m2) rfl (by kernel_rfl) (by kernel_rfl) (by kernel_rfl) (fun _ _ _ h => h) (Or.inl ⟨by rfl, fun w hSw => ?hya22m2⟩) (by assumption) ?ra22m2
  case hya22m2 => (try dsimp only at hSw); go_simp; (try with_reducible rfl)
  (try simp only [Act.put, List.setIfInBounds_toArray, List.set_cons_zero, List.set_cons_succ])
  refine wpAnyH_take (i := 2) (oi := ({ dst := some 91, op := Op.binOp BinOp.neq 39 (Operand.tmp 89) (Operand.tmp 90) 39, type := 4, pos := "outright.go:156", after := #[{ on := 0, ground := Ground.data }, { on := 1, ground := Ground.data }], guard := none } : Oper)) (v := ?va22m3) rfl (by kernel_rfl) (by kernel_rfl) (by kernel_rfl) (fun _ _ _ h => h) (Or.inl ⟨by rfl, fun w hSw => ?hya22m3⟩) (by assumption) ?ra22m3
  case hya22m3 => (try dsimp only at hSw); go_simp; (try with_reducible rfl)
  (try simp only [Act.put, List.setIfInBounds_toArray, List.set_cons_zero, List.set_cons_succ])
  refine wpAnyH_take (i := 3) (oi := ({ dst := some 92, op := Op.move (Operand.tmp 91), type := 4, pos := "outright.go:156", after := #[{ on := 2, ground := Ground.data }], guard := none } : Oper)) (v := ?va22m4) rfl (by kernel_rfl) (by kernel_rfl) (by kernel_rfl) (fun _ _ _ h => h) (Or.inl ⟨by rfl, fun w hSw => ?hya22m4⟩) (by assumption) ?ra22m4
  case hya22m4 => (try dsimp only at hSw); go_simp; (try with_reducible rfl)
  (try simp only [Act.put, List.setIfInBounds_toArray, List.set_cons_zero, List.set_cons_succ])
  refine wpAnyH_take (i := 4) (oi := ({ dst := some 93, op := Op.load 39 (Operand.tmp 15), type := 39, pos := "outright.go:156", after := #[{ on := 3, ground := Ground.guard }], guard := some (3, false) } : Oper)) (v := ?va22m5) rfl (by kernel_rfl) (by kernel_rfl) (by kernel_rfl) (fun _ _ _ h => h) (Or.inl ⟨by rfl, fun w hSw => ?hya22m5⟩) (by assumption) ?ra22m5
  case hya22m5 => (try dsimp only at hSw); go_simp; (try with_reducible rfl)
  (try simp only [Act.put, List.setIfInBounds_toArray, List.set_cons_zero, List.set_cons_succ])
  refine wpAnyH_take (i := 5) (oi := ({ dst := some 94, op := Op.load 39 (Operand.tmp 10), type := 39, pos := "outright.go:156", after := #[{ on := 3, ground := Ground.guard }], guard := some (3, false) } : Oper)) (v := ?va22m6) rfl (by kernel_rfl) (by kernel_rfl) (by kernel_rfl) (fun _ _ _ h => h) (Or.inl ⟨by rfl, fun w hSw => ?hya22m6⟩) (by assumption) ?ra22m6
  case hya22m6 => (try dsimp only at hSw); go_simp; (try with_reducible rfl)
  (try simp only [Act.put, List.setIfInBounds_toArray, List.set_cons_zero, List.set_cons_succ])
  refine wpAnyH_take (i := 6) (oi := ({ dst := some 95, op := Op.binOp BinOp.neq 39 (Operand.tmp 93) (Operand.tmp 94) 39, type := 4, pos := "outright.go:156", after := #[{ on := 4, ground := Ground.data }, { on := 5, ground := Ground.data }, { on := 3, ground := Ground.guard }], guard := some (3, false) } : Oper)) (v := ?va22m7) rfl (by kernel_rfl) (by kernel_rfl) (by kernel_rfl) (fun _ _ _ h => h) (Or.inl ⟨by rfl, fun w hSw => ?hya22m7⟩) (by assumption) ?ra22m7
  case hya22m7 => (try dsimp only at hSw); go_simp; (try with_reducible rfl)
  (try simp only [Act.put, List.setIfInBounds_toArray, List.set_cons_zero, List.set_cons_succ])
  refine wpAnyH_take (i := 7) (oi := ({ dst := some 96, op := Op.pick (Operand.tmp 92) (Operand.const (Value.bool true)) (Operand.tmp 95), type := 4, pos := "outright.go:156", after := #[{ on := 3, ground := Ground.data }, { on := 6, ground := Ground.data }], guard := none } : Oper)) (v := ?va22m8) rfl (by kernel_rfl) (by kernel_rfl) (by kernel_rfl) (fun _ _ _ h => h) (Or.inl ⟨by rfl, fun w hSw => ?hya22m8⟩) (by assumption) ?ra22m8
  case hya22m8 => (try dsimp only at hSw); go_simp; (try with_reducible rfl)
  (try simp only [Act.put, List.setIfInBounds_toArray, List.set_cons_zero, List.set_cons_succ])
  refine wpAnyH_take (i := 8) (oi := ({ dst := some 97, op := Op.move (Operand.tmp 96), type := 4, pos := "outright.go:156", after := #[{ on := 7, ground := Ground.data }, { on := 3, ground := Ground.chain }], guard := none } : Oper)) (v := ?va22m9) rfl (by kernel_rfl) (by kernel_rfl) (by kernel_rfl) (fun _ _ _ h => h) (Or.inl ⟨by rfl, fun w hSw => ?hya22m9⟩) (by assumption) ?ra22m9
  case hya22m9 => (try dsimp only at hSw); go_simp; (try with_reducible rfl)
  (try simp only [Act.put, List.setIfInBounds_toArray, List.set_cons_zero, List.set_cons_succ])
  refine wpAnyH_take (i := 9) (oi := ({ dst := some 98, op := Op.move (Operand.tmp 7), type := 23, pos := "outright.go:156", after := #[{ on := 8, ground := Ground.guard }], guard := some (8, false) } : Oper)) (v := ?va22m10) rfl (by kernel_rfl) (by kernel_rfl) (by kernel_rfl) (fun _ _ _ h => h) (Or.inl ⟨by rfl, fun w hSw => ?hya22m10⟩) (by assumption) ?ra22m10
  case hya22m10 => (try dsimp only at hSw); go_simp; (try with_reducible rfl)
  (try simp only [Act.put, List.setIfInBounds_toArray, List.set_cons_zero, List.set_cons_succ])
  refine wpAnyH_take (i := 10) (oi := ({ dst := some 99, op := Op.nilCheck (Operand.tmp 98), type := 0, pos := "outright.go:156", after := #[{ on := 9, ground := Ground.data }, { on := 8, ground := Ground.guard }], guard := some (8, false) } : Oper)) (v := ?va22m11) rfl (by kernel_rfl) (by kernel_rfl) (by kernel_rfl) (fun _ _ _ h => h) (Or.inl ⟨by rfl, fun w hSw => ?hya22m11⟩) (by assumption) ?ra22m11
  case hya22m11 => (try dsimp only at hSw); go_simp; (try with_reducible rfl)
  (try simp only [Act.put, List.setIfInBounds_toArray, List.set_cons_zero, List.set_cons_succ])
  refine wpAnyH_take (i := 11) (oi := ({ dst := some 100, op := Op.fieldAddr 34 (Operand.tmp 99) 0, type := 0, pos := "outright.go:156", after := #[{ on := 10, ground := Ground.data }, { on := 8, ground := Ground.guard }], guard := some (8, false) } : Oper)) (v := ?va22m12) rfl (by kernel_rfl) (by kernel_rfl) (by kernel_rfl) (fun _ _ _ h => h) (Or.inl ⟨by rfl, fun w hSw => ?hya22m12⟩) (by assumption) ?ra22m12
  case hya22m12 => (try dsimp only at hSw); go_simp; (try with_reducible rfl)
  (try simp only [Act.put, List.setIfInBounds_toArray, List.set_cons_zero, List.set_cons_succ])
  refine wpAnyH_take (i := 12) (oi := ({ dst := some 101, op := Op.load 26 (Operand.tmp 100), type := 26, pos := "outright.go:156", after := #[{ on := 11, ground := Ground.data }, { on := 8, ground := Ground.guard }], guard := some (8, false) } : Oper)) (v := ?va22m13) rfl (by kernel_rfl) (by kernel_rfl) (by kernel_rfl) (fun _ _ _ h => h) (Or.inl ⟨by rfl, fun w hSw => ?hya22m13⟩) (by assumption) ?ra22m13
  case hya22m13 => (try dsimp only at hSw); go_simp; (try with_reducible rfl)
  (try simp only [Act.put, List.setIfInBounds_toArray, List.set_cons_zero, List.set_cons_succ])
  refine wpAnyH_take (i := 13) (oi := ({ dst := some 102, op := Op.load 39 (Operand.tmp 9), type := 39, pos := "outright.go:156", after := #[{ on := 8, ground := Ground.guard }], guard := some (8, false) } : Oper)) (v := ?va22m14) rfl (by kernel_rfl) (by kernel_rfl) (by kernel_rfl) (fun _ _ _ h => h) (Or.inl ⟨by rfl, fun w hSw => ?hya22m14⟩) (by assumption) ?ra22m14
  case hya22m14 => (try dsimp only at hSw); go_simp; (try with_reducible rfl)
  (try simp only [Act.put, List.setIfInBounds_toArray, List.set_cons_zero, List.set_cons_succ])
  refine wpAnyH_ready (rs := [14]) (by kernel_rfl) (by simp) ?_
  refine AllReadyH.cons (o := ({ dst := some 103, op := Op.call { callee := Callee.value (Operand.func 12), args := #[Operand.tmp 102], argTypes := #[39] }, type := 37, pos := "outright.go:156", after := #[{ on := 13, ground := Ground.data }, { on := 8, ground := Ground.chain }, { on := 8, ground := Ground.guard }], guard := some (8, false) } : Oper)) rfl (fun Kq hKq => ?_) AllReadyH.nil
  go_simp
  (refine (HLKa.out _).mono ?_; rintro e w20 ⟨rfl, hb20⟩; have HB20 := Lib.hid hb20; have H20 := Lib.hid (H19.out.new ((Below.refl _ _).drew.trans hb20)); clear hb20)
  refine hKq.out _ _ ?_ (fun hHeld => ?_)
  · exact ⟨bcell HB20.out hHeld.1, bcell HB20.out hHeld.2.1, bcell HB20.out hHeld.2.2.1, bcell HB20.out hHeld.2.2.2.1, bcell HB20.out hHeld.2.2.2.2.1, bcell HB20.out hHeld.2.2.2.2.2.1, bcell HB20.out hHeld.2.2.2.2.2.2.1, bcell HB20.out hHeld.2.2.2.2.2.2.2.1, bcell HB20.out hHeld.2.2.2.2.2.2.2.2⟩
  clear hKq Kq
  (try simp only [Act.put, List.setIfInBounds_toArray, List.set_cons_zero, List.set_cons_succ])
  refine wpAnyH_ready (rs := [15]) (by kernel_rfl) (by simp) ?_
  refine AllReadyH.cons (o := ({ dst := some 104, op := Op.call { callee := Callee.value (Operand.func 11), args := #[Operand.tmp 101, Operand.tmp 103], argTypes := #[26, 37] }, type := 25, pos := "outright.go:156", after := #[{ on := 12, ground := Ground.data }, { on := 14, ground := Ground.data }, { on := 14, ground := Ground.chain }, { on := 8, ground := Ground.guard }], guard := some (8, false) } : Oper)) rfl (fun Kq hKq => ?_) AllReadyH.nil
  go_simp
  (refine (HPKa.out _ _ H20.out).mono ?_; rintro e w21 ⟨rfl, rfl⟩)
  refine hKq.out _ _ ?_ (fun hHeld => ?_)
  · exact hHeld
  clear hKq Kq
  (try simp only [Act.put, List.setIfInBounds_toArray, List.set_cons_zero, List.set_cons_succ])
  refine wpAnyH_take (i := 16) (oi := ({ dst := some 105, op := Op.binOp BinOp.neq 25 (Operand.tmp 104) (Operand.const (Value.int IntKind.u64 1)) 25, type := 4, pos := "outright.go:156", after := #[{ on := 15, ground := Ground.data }, { on := 8, ground := Ground.guard }], guard := some (8, false) } : Oper)) (v := ?va22m15) rfl (by kernel_rfl) (by kernel_rfl) (by kernel_rfl) (fun _ _ _ h => h) (Or.inl ⟨by rfl, fun w hSw => ?hya22m15⟩) (by assumption) ?ra22m15
  case hya22m15 => (try dsimp only at hSw); go_simp; (try with_reducible rfl)
  (try simp only [Act.put, List.setIfInBounds_toArray, List.set_cons_zero, List.set_cons_succ])
  refine wpAnyH_take (i := 17) (oi := ({ dst := some 106, op := Op.pick (Operand.tmp 97) (Operand.const (Value.bool true)) (Operand.tmp 105), type := 4, pos := "outright.go:156", after := #[{ on := 8, ground := Ground.data }, { on := 16, ground := Ground.data }], guard := none } : Oper)) (v := ?va22m16) rfl (by kernel_rfl) (by kernel_rfl) (by kernel_rfl) (fun _ _ _ h => h) (Or.inl ⟨by rfl, fun w hSw => ?hya22m16⟩) (by assumption) ?ra22m16
  case hya22m16 => (try dsimp only at hSw); go_simp; (try with_reducible rfl)
  (try simp only [Act.put, List.setIfInBounds_toArray, List.set_cons_zero, List.set_cons_succ])
  refine wpAnyH_take (i := 18) (oi := ({ dst := some 107, op := Op.move (Operand.tmp 106), type := 4, pos := "outright.go:156", after := #[{ on := 17, ground := Ground.data }, { on := 15, ground := Ground.chain }], guard := none } : Oper)) (v := ?va22m17) rfl (by kernel_rfl) (by kernel_rfl) (by kernel_rfl) (fun _ _ _ h => h) (Or.inl ⟨by rfl, fun w hSw => ?hya22m17⟩) (by assumption) ?ra22m17
  case hya22m17 => (try dsimp only at hSw); go_simp; (try with_reducible rfl)
  (try simp only [Act.put, List.setIfInBounds_toArray, List.set_cons_zero, List.set_cons_succ])
  refine wpAnyH_take (i := 19) (oi := ({ dst := some 108, op := Op.move (Operand.tmp 7), type := 23, pos := "outright.go:156", after := #[{ on := 18, ground := Ground.guard }], guard := some (18, false) } : Oper)) (v := ?va22m18) rfl (by kernel_rfl) (by kernel_rfl) (by kernel_rfl) (fun _ _ _ h => h) (Or.inl ⟨by rfl, fun w hSw => ?hya22m18⟩) (by assumption) ?ra22m18
  case hya22m18 => (try dsimp only at hSw); go_simp; (try with_reducible rfl)
  (try simp only [Act.put, List.setIfInBounds_toArray, List.set_cons_zero, List.set_cons_succ])
  refine wpAnyH_take (i := 20) (oi := ({ dst := some 109, op := Op.nilCheck (Operand.tmp 108), type := 0, pos := "outright.go:156", after := #[{ on := 19, ground := Ground.data }, { on := 18, ground := Ground.guard }], guard := some (18, false) } : Oper)) (v := ?va22m19) rfl (by kernel_rfl) (by kernel_rfl) (by kernel_rfl) (fun _ _ _ h => h) (Or.inl ⟨by rfl, fun w hSw => ?hya22m19⟩) (by assumption) ?ra22m19
  case hya22m19 => (try dsimp only at hSw); go_simp; (try with_reducible rfl)
  (try simp only [Act.put, List.setIfInBounds_toArray, List.set_cons_zero, List.set_cons_succ])
  refine wpAnyH_take (i := 21) (oi := ({ dst := some 110, op := Op.fieldAddr 34 (Operand.tmp 109) 0, type := 0, pos := "outright.go:156", after := #[{ on := 20, ground := Ground.data }, { on := 18, ground := Ground.guard }], guard := some (18, false) } : Oper)) (v := ?va22m20) rfl (by kernel_rfl) (by kernel_rfl) (by kernel_rfl) (fun _ _ _ h => h) (Or.inl ⟨by rfl, fun w hSw => ?hya22m20⟩) (by assumption) ?ra22m20
  case hya22m20 => (try dsimp only at hSw); go_simp; (try with_reducible rfl)
  (try simp only [Act.put, List.setIfInBounds_toArray, List.set_cons_zero, List.set_cons_succ])
  refine wpAnyH_take (i := 22) (oi := ({ dst := some 111, op := Op.load 26 (Operand.tmp 110), type := 26, pos := "outright.go:156", after := #[{ on := 21, ground := Ground.data }, { on := 18, ground := Ground.guard }], guard := some (18, false) } : Oper)) (v := ?va22m21) rfl (by kernel_rfl) (by kernel_rfl) (by kernel_rfl) (fun _ _ _ h => h) (Or.inl ⟨by rfl, fun w hSw => ?hya22m21⟩) (by assumption) ?ra22m21
  case hya22m21 => (try dsimp only at hSw); go_simp; (try with_reducible rfl)
  (try simp only [Act.put, List.setIfInBounds_toArray, List.set_cons_zero, List.set_cons_succ])
  refine wpAnyH_take (i := 23) (oi := ({ dst := some 112, op := Op.load 39 (Operand.tmp 10), type := 39, pos := "outright.go:156", after := #[{ on := 18, ground := Ground.guard }], guard := some (18, false) } : Oper)) (v := ?va22m22) rfl (by kernel_rfl) (by kernel_rfl) (by kernel_rfl) (fun _ _ _ h => h) (Or.inl ⟨by rfl, fun w hSw => ?hya22m22⟩) (by assumption) ?ra22m22
  case hya22m22 => (try dsimp only at hSw); go_simp; (try with_reducible rfl)
  (try simp only [Act.put, List.setIfInBounds_toArray, List.set_cons_zero, List.set_cons_succ])
  refine wpAnyH_ready (rs := [24]) (by kernel_rfl) (by simp) ?_
  refine AllReadyH.cons (o := ({ dst := some 113, op := Op.call { callee := Callee.value (Operand.func 12), args := #[Operand.tmp 112], argTypes := #[39] }, type := 37, pos := "outright.go:156", after := #[{ on := 23, ground := Ground.data }, { on := 18, ground := Ground.chain }, { on := 18, ground := Ground.guard }], guard := some (18, false) } : Oper)) rfl (fun Kq hKq => ?_) AllReadyH.nil
  go_simp
  (refine (HLKb.out _).mono ?_; rintro e w22 ⟨rfl, hb22⟩; have HB22 := Lib.hid hb22; have H22 := Lib.hid (H20.out.new hb22); clear hb22)
  refine hKq.out _ _ ?_ (fun hHeld => ?_)
  · exact ⟨bcell HB22.out hHeld.1, bcell HB22.out hHeld.2.1, bcell HB22.out hHeld.2.2.1, bcell HB22.out hHeld.2.2.2.1, bcell HB22.out hHeld.2.2.2.2.1, bcell HB22.out hHeld.2.2.2.2.2.1, bcell HB22.out hHeld.2.2.2.2.2.2.1, bcell HB22.out hHeld.2.2.2.2.2.2.2.1, bcell HB22.out hHeld.2.2.2.2.2.2.2.2⟩
  clear hKq Kq
  (try simp only [Act.put, List.setIfInBounds_toArray, List.set_cons_zero, List.set_cons_succ])
  refine wpAnyH_ready (rs := [25]) (by kernel_rfl) (by simp) ?_
  refine AllReadyH.cons (o := ({ dst := some 114, op := Op.call { callee := Callee.value (Operand.func 11), args := #[Operand.tmp 111, Operand.tmp 113], argTypes := #[26, 37] }, type := 25, pos := "outright.go:156", after := #[{ on := 22, ground := Ground.data }, { on := 24, ground := Ground.data }, { on := 24, ground := Ground.chain }, { on := 18, ground := Ground.guard }], guard := some (18, false) } : Oper)) rfl (fun Kq hKq => ?_) AllReadyH.nil
  go_simp
  (refine (HPKb.out _ _ H22.out).mono ?_; rintro e w23 ⟨rfl, rfl⟩)
  refine hKq.out _ _ ?_ (fun hHeld => ?_)
  · exact hHeld
  clear hKq Kq
  (try simp only [Act.put, List.setIfInBounds_toArray, List.set_cons_zero, List.set_cons_succ])
  refine wpAnyH_take (i := 26) (oi := ({ dst := some 115, op := Op.binOp BinOp.neq 25 (Operand.tmp 114) (Operand.const (Value.int IntKind.u64 1)) 25, type := 4, pos := "outright.go:156", after := #[{ on := 25, ground := Ground.data }, { on := 18, ground := Ground.guard }], guard := some (18, false) } : Oper)) (v := ?va22m23) rfl (by kernel_rfl) (by kernel_rfl) (by kernel_rfl) (fun _ _ _ h => h) (Or.inl ⟨by rfl, fun w hSw => ?hya22m23⟩) (by assumption) ?ra22m23
  case hya22m23 => (try dsimp only at hSw); go_simp; (try with_reducible rfl)
  (try simp only [Act.put, List.setIfInBounds_toArray, List.set_cons_zero, List.set_cons_succ])
  refine wpAnyH_take (i := 27) (oi := ({ dst := some 116, op := Op.pick (Operand.tmp 107) (Operand.const (Value.bool true)) (Operand.tmp 115), type := 4, pos := "outright.go:156", after := #[{ on := 18, ground := Ground.data }, { on := 26, ground := Ground.data }], guard := none } : Oper)) (v := ?va22m24) rfl (by kernel_rfl) (by kernel_rfl) (by kernel_rfl) (fun _ _ _ h => h) (Or.inl ⟨by rfl, fun w hSw => ?hya22m24⟩) (by assumption) ?ra22m24
  case hya22m24 => (try dsimp only at hSw); go_simp; (try with_reducible rfl)
  (try simp only [Act.put, List.setIfInBounds_toArray, List.set_cons_zero, List.set_cons_succ])
  refine wpAnyH_done (by kernel_rfl) ?_ _
  clear hHeld HS22 HPKa HPKb HB20 HB22 H19 H20
  have H24 := H22
  clear H22
  go_upto_region 24 with (fail)
  have hap := apart_two (H24.out.new (Below.refl _ _).drew) HZ.out.1 HZ.out.2 (fun h => by have := HC.out; have := h.2; omega) (by have := HAI.out; omega) (by have := HAI.out; omega) HAB.out HTA.out HTB.out (by rw [HBB.out.2.2.2.2.2]; exact ⟨by omega, by omega⟩) (by have := HBB.out; omega) (by have := HBB.out; omega)
  have HAP := Lib.hid hap
  clear hap
  refine wp_region_held_drew (S := fun w' => w'.cell? ⟨AB, 0, none⟩ = some (.int .i64 (kN : Int)) ∧ w'.cell? ⟨AB, 1, none⟩ = some (.int .i64 (ka : Int)) ∧ w'.cell? ⟨BB, 0, none⟩ = some (.int .i64 (kN : Int)) ∧ w'.cell? ⟨BB, 1, none⟩ = some (.int .i64 (kb : Int)) ∧ w'.cell? ⟨PB, 0, none⟩ = some (.int .i64 (kN : Int)) ∧ w'.cell? ⟨PB, 1, none⟩ = some (.int .i64 (ka : Int)) ∧ w'.cell? ⟨QB, 0, none⟩ = some (.int .i64 (kN : Int)) ∧ w'.cell? ⟨QB, 1, none⟩ = some (.int .i64 (kb : Int))) (by kernel_rfl) ?_ (fun hHeld => ?_)
  · exact ⟨cell_row (pg_at (H24.out.new (Below.refl _ _).drew) HIX.out.1) 0, cell_row (pg_at (H24.out.new (Below.refl _ _).drew) HIX.out.1) 1, cell_row (pg_at (H24.out.new (Below.refl _ _).drew) HIX.out.2.1) 0, cell_row (pg_at (H24.out.new (Below.refl _ _).drew) HIX.out.2.1) 1, cell_row (pg_at (H24.out.new (Below.refl _ _).drew) HIX.out.2.2.1) 0, cell_row (pg_at (H24.out.new (Below.refl _ _).drew) HIX.out.2.2.1) 1, cell_row (pg_at (H24.out.new (Below.refl _ _).drew) HIX.out.2.2.2) 0, cell_row (pg_at (H24.out.new (Below.refl _ _).drew) HIX.out.2.2.2) 1⟩
  refine wpAnyH_take (i := 0) (oi := ({ dst := some 117, op := Op.move (Operand.tmp 7), type := 23, pos := "outright.go:159", after := #[], guard := none } : Oper)) (v := ?va24m1) rfl (by kernel_rfl) (by kernel_rfl) (by kernel_rfl) (fun _ _ _ h => h) (Or.inl ⟨by rfl, fun w hSw => ?hya24m1⟩) (by assumption) ?ra24m1
  case hya24m1 => (try dsimp only at hSw); go_simp; (try with_reducible rfl)
  (try simp only [Act.put, List.setIfInBounds_toArray, List.set_cons_zero, List.set_cons_succ])
  refine wpAnyH_take (i := 1) (oi := ({ dst := some 118, op := Op.load 39 (Operand.tmp 14), type := 39, pos := "outright.go:159", after := #[], guard := none } : Oper)) (v := ?va24m2) rfl (by kernel_rfl) (by kernel_rfl) (by kernel_rfl) (fun _ _ _ h => h) (Or.inl ⟨by rfl, fun w hSw => ?hya24m2⟩) (by assumption) ?ra24m2
  case hya24m2 => (try dsimp only at hSw); go_simp; (try with_reducible rfl)
  (try simp only [Act.put, List.setIfInBounds_toArray, List.set_cons_zero, List.set_cons_succ])
  refine wpAnyH_take (i := 2) (oi := ({ dst := some 119, op := Op.load 39 (Operand.tmp 15), type := 39, pos := "outright.go:159", after := #[], guard := none } : Oper)) (v := ?va24m3) rfl (by kernel_rfl) (by kernel_rfl) (by kernel_rfl) (fun _ _ _ h => h) (Or.inl ⟨by rfl, fun w hSw => ?hya24m3⟩) (by assumption) ?ra24m3
  case hya24m3 => (try dsimp only at hSw); go_simp; (try with_reducible rfl)
  (try simp only [Act.put, List.setIfInBounds_toArray, List.set_cons_zero, List.set_cons_succ])
  refine wpAnyH_take (i := 6) (oi := ({ dst := some 123, op := Op.move (Operand.tmp 13), type := 3, pos := "outright.go:159", after := #[], guard := none } : Oper)) (v := ?va24m4) rfl (by kernel_rfl) (by kernel_rfl) (by kernel_rfl) (fun _ _ _ h => h) (Or.inl ⟨by rfl, fun w hSw => ?hya24m4⟩) (by assumption) ?ra24m4
  case hya24m4 => (try dsimp only at hSw); go_simp; (try with_reducible rfl)
  (try simp only [Act.put, List.setIfInBounds_toArray, List.set_cons_zero, List.set_cons_succ])
  refine wpAnyH_ready (rs := [3]) (by kernel_rfl) (by simp) ?_
  refine AllReadyH.cons (o := ({ dst := some 120, op := Op.call { callee := Callee.value (Operand.func 22), args := #[Operand.tmp 118, Operand.tmp 119], argTypes := #[39, 39] }, type := 65, pos := "outright.go:159", after := #[{ on := 1, ground := Ground.data }, { on := 2, ground := Ground.data }], guard := none } : Oper)) rfl (fun Kq hKq => ?_) AllReadyH.nil
  go_simp
  (refine HAP.out.mono ?_; rintro e w25 ⟨B2, rfl, hrn, R25, hE25, hpg25⟩; have HRN := Lib.hid hrn; have HE25 := Lib.hid hE25; have H25 := Lib.hid hpg25; clear hrn hE25 hpg25)
  refine hKq.out _ _ ?_ (fun hHeld => ?_)
  · exact ⟨cell_row (pg_at H25.out (HE25.out _ _ HIX.out.1)) 0, cell_row (pg_at H25.out (HE25.out _ _ HIX.out.1)) 1, cell_row (pg_at H25.out (HE25.out _ _ HIX.out.2.1)) 0, cell_row (pg_at H25.out (HE25.out _ _ HIX.out.2.1)) 1, cell_row (pg_at H25.out (HE25.out _ _ HIX.out.2.2.1)) 0, cell_row (pg_at H25.out (HE25.out _ _ HIX.out.2.2.1)) 1, cell_row (pg_at H25.out (HE25.out _ _ HIX.out.2.2.2)) 0, cell_row (pg_at H25.out (HE25.out _ _ HIX.out.2.2.2)) 1⟩
  clear hKq Kq
  (try simp only [Act.put, List.setIfInBounds_toArray, List.set_cons_zero, List.set_cons_succ])
  refine wpAnyH_take (i := 4) (oi := ({ dst := some 121, op := Op.makeInterface 65 (Operand.tmp 120), type := 102, pos := "outright.go:159", after := #[{ on := 3, ground := Ground.data }], guard := none } : Oper)) (v := ?va24m5) rfl (by kernel_rfl) (by kernel_rfl) (by kernel_rfl) (fun _ _ _ h => h) (Or.inl ⟨by rfl, fun w hSw => ?hya24m5⟩) (by assumption) ?ra24m5
  case hya24m5 => (try dsimp only at hSw); go_simp; (try with_reducible rfl)
  (try simp only [Act.put, List.setIfInBounds_toArray, List.set_cons_zero, List.set_cons_succ])
  refine wpAnyH_ready (rs := [5]) (by kernel_rfl) (by simp) ?_
  refine AllReadyH.cons (o := ({ dst := some 122, op := Op.call { callee := Callee.value (Operand.func 9), args := #[Operand.tmp 117, Operand.tmp 121, Operand.const (Value.int IntKind.i64 9)], argTypes := #[23, 102, 3] }, type := 3, pos := "outright.go:159", after := #[{ on := 0, ground := Ground.data }, { on := 4, ground := Ground.data }, { on := 3, ground := Ground.chain }], guard := none } : Oper)) rfl (fun Kq hKq => ?_) AllReadyH.nil
  go_simp
  (refine (HRN.out _ (Below.refl _ _)).mono ?_; rintro e w26 ⟨rfl, R26, M26, X26, hE26, hpg26, hl26⟩; have HE26 := Lib.hid hE26; have H26 := Lib.hid hpg26; have HL26 := Lib.hid hl26; clear hE26 hpg26 hl26)
  refine hKq.out _ _ ?_ (fun hHeld => ?_)
  · exact ⟨cell_row (pg_at H26.out (HE26.out _ _ HIX.out.1)) 0, cell_row (pg_at H26.out (HE26.out _ _ HIX.out.1)) 1, cell_row (pg_at H26.out (HE26.out _ _ HIX.out.2.1)) 0, cell_row (pg_at H26.out (HE26.out _ _ HIX.out.2.1)) 1, cell_row (pg_at H26.out (HE26.out _ _ HIX.out.2.2.1)) 0, cell_row (pg_at H26.out (HE26.out _ _ HIX.out.2.2.1)) 1, cell_row (pg_at H26.out (HE26.out _ _ HIX.out.2.2.2)) 0, cell_row (pg_at H26.out (HE26.out _ _ HIX.out.2.2.2)) 1⟩
  clear hKq Kq
  (try simp only [Act.put, List.setIfInBounds_toArray, List.set_cons_zero, List.set_cons_succ])
  obtain ⟨cd, hcd⟩ : ∃ cd, X26.cB = cd := ⟨_, rfl⟩
  have hwb := H26.out.c.1
  rw [hcd] at hwb
  have HCD := Lib.hid hcd
  refine wpAnyH_more' (S' := fun w' => (w'.cell? ⟨AB, 0, none⟩ = some (.int .i64 (kN : Int)) ∧ w'.cell? ⟨AB, 1, none⟩ = some (.int .i64 (ka : Int)) ∧ w'.cell? ⟨BB, 0, none⟩ = some (.int .i64 (kN : Int)) ∧ w'.cell? ⟨BB, 1, none⟩ = some (.int .i64 (kb : Int)) ∧ w'.cell? ⟨PB, 0, none⟩ = some (.int .i64 (kN : Int)) ∧ w'.cell? ⟨PB, 1, none⟩ = some (.int .i64 (ka : Int)) ∧ w'.cell? ⟨QB, 0, none⟩ = some (.int .i64 (kN : Int)) ∧ w'.cell? ⟨QB, 1, none⟩ = some (.int .i64 (kb : Int))) ∧ w'.cell? ⟨WB, 0, none⟩ = some (Pw cd)) (fun _ h => h.1) _ _ _ _ ?_
  have hHeld : (fun w' => (w'.cell? ⟨AB, 0, none⟩ = some (.int .i64 (kN : Int)) ∧ w'.cell? ⟨AB, 1, none⟩ = some (.int .i64 (ka : Int)) ∧ w'.cell? ⟨BB, 0, none⟩ = some (.int .i64 (kN : Int)) ∧ w'.cell? ⟨BB, 1, none⟩ = some (.int .i64 (kb : Int)) ∧ w'.cell? ⟨PB, 0, none⟩ = some (.int .i64 (kN : Int)) ∧ w'.cell? ⟨PB, 1, none⟩ = some (.int .i64 (ka : Int)) ∧ w'.cell? ⟨QB, 0, none⟩ = some (.int .i64 (kN : Int)) ∧ w'.cell? ⟨QB, 1, none⟩ = some (.int .i64 (kb : Int))) ∧ w'.cell? ⟨WB, 0, none⟩ = some (Pw cd)) w26 := ⟨hHeld, hwb⟩
  clear hcd hwb
  refine wpAnyH_take (i := 7) (oi := ({ dst := some 124, op := Op.binOp BinOp.eql 3 (Operand.tmp 122) (Operand.tmp 123) 3, type := 4, pos := "outright.go:159", after := #[{ on := 5, ground := Ground.data }, { on := 6, ground := Ground.data }], guard := none } : Oper)) (v := ?va24m6) rfl (by kernel_rfl) (by kernel_rfl) (by kernel_rfl) (fun _ _ _ h => h) (Or.inl ⟨by rfl, fun w hSw => ?hya24m6⟩) (by assumption) ?ra24m6
  case hya24m6 => (try dsimp only at hSw); go_simp; (try with_reducible rfl)
  (try simp only [Act.put, List.setIfInBounds_toArray, List.set_cons_zero, List.set_cons_succ])
  refine wpAnyH_take (i := 8) (oi := ({ dst := some 125, op := Op.move (Operand.tmp 124), type := 4, pos := "outright.go:159", after := #[{ on := 7, ground := Ground.data }, { on := 5, ground := Ground.chain }], guard := none } : Oper)) (v := ?va24m7) rfl (by kernel_rfl) (by kernel_rfl) (by kernel_rfl) (fun _ _ _ h => h) (Or.inl ⟨by rfl, fun w hSw => ?hya24m7⟩) (by assumption) ?ra24m7
  case hya24m7 => (try dsimp only at hSw); go_simp; (try with_reducible rfl)
  (try simp only [Act.put, List.setIfInBounds_toArray, List.set_cons_zero, List.set_cons_succ])
  refine wpAnyH_take (i := 9) (oi := ({ dst := some 126, op := Op.move (Operand.tmp 7), type := 23, pos := "outright.go:159", after := #[{ on := 8, ground := Ground.guard }], guard := some (8, true) } : Oper)) (v := ?va24m8) rfl (by kernel_rfl) (by kernel_rfl) (by kernel_rfl) (fun _ _ _ h => h) (Or.inl ⟨by rfl, fun w hSw => ?hya24m8⟩) (by assumption) ?ra24m8
  case hya24m8 => (try dsimp only at hSw); go_simp; (try with_reducible rfl)
  (try simp only [Act.put, List.setIfInBounds_toArray, List.set_cons_zero, List.set_cons_succ])
  refine wpAnyH_take (i := 10) (oi := ({ dst := some 127, op := Op.nilCheck (Operand.tmp 126), type := 0, pos := "outright.go:159", after := #[{ on := 9, ground := Ground.data }, { on := 8, ground := Ground.guard }], guard := some (8, true) } : Oper)) (v := ?va24m9) rfl (by kernel_rfl) (by kernel_rfl) (by kernel_rfl) (fun _ _ _ h => h) (Or.inl ⟨by rfl, fun w hSw => ?hya24m9⟩) (by assumption) ?ra24m9
  case hya24m9 => (try dsimp only at hSw); go_simp; (try with_reducible rfl)
  (try simp only [Act.put, List.setIfInBounds_toArray, List.set_cons_zero, List.set_cons_succ])
  refine wpAnyH_take (i := 11) (oi := ({ dst := some 128, op := Op.fieldAddr 34 (Operand.tmp 127) 0, type := 0, pos := "outright.go:159", after := #[{ on := 10, ground := Ground.data }, { on := 8, ground := Ground.guard }], guard := some (8, true) } : Oper)) (v := ?va24m10) rfl (by kernel_rfl) (by kernel_rfl) (by kernel_rfl) (fun _ _ _ h => h) (Or.inl ⟨by rfl, fun w hSw => ?hya24m10⟩) (by assumption) ?ra24m10
  case hya24m10 => (try dsimp only at hSw); go_simp; (try with_reducible rfl)
  (try simp only [Act.put, List.setIfInBounds_toArray, List.set_cons_zero, List.set_cons_succ])
  refine wpAnyH_take (i := 12) (oi := ({ dst := some 129, op := Op.load 26 (Operand.tmp 128), type := 26, pos := "outright.go:159", after := #[{ on := 11, ground := Ground.data }, { on := 8, ground := Ground.guard }], guard := some (8, true) } : Oper)) (v := ?va24m11) rfl (by kernel_rfl) (by kernel_rfl) (by kernel_rfl) (fun _ _ _ h => h) (Or.inl ⟨by rfl, fun w hSw => ?hya24m11⟩) (by assumption) ?ra24m11
  case hya24m11 => (try dsimp only at hSw); go_simp; (try with_reducible rfl)
  (try simp only [Act.put, List.setIfInBounds_toArray, List.set_cons_zero, List.set_cons_succ])
  refine wpAnyH_take (i := 13) (oi := ({ dst := some 130, op := Op.load 39 (Operand.tmp 9), type := 39, pos := "outright.go:159", after := #[{ on := 8, ground := Ground.guard }], guard := some (8, true) } : Oper)) (v := ?va24m12) rfl (by kernel_rfl) (by kernel_rfl) (by kernel_rfl) (fun _ _ _ h => h) (Or.inl ⟨by rfl, fun w hSw => ?hya24m12⟩) (by assumption) ?ra24m12
  case hya24m12 => (try dsimp only at hSw); go_simp; (try with_reducible rfl)
  (try simp only [Act.put, List.setIfInBounds_toArray, List.set_cons_zero, List.set_cons_succ])
  refine wpAnyH_take (i := 16) (oi := ({ dst := some 133, op := Op.move (Operand.tmp 7), type := 23, pos := "outright.go:159", after := #[{ on := 8, ground := Ground.guard }], guard := some (8, true) } : Oper)) (v := ?va24m13) rfl (by kernel_rfl) (by kernel_rfl) (by kernel_rfl) (fun _ _ _ h => h) (Or.inl ⟨by rfl, fun w hSw => ?hya24m13⟩) (by assumption) ?ra24m13
  case hya24m13 => (try dsimp only at hSw); go_simp; (try with_reducible rfl)
  (try simp only [Act.put, List.setIfInBounds_toArray, List.set_cons_zero, List.set_cons_succ])
  refine wpAnyH_take (i := 17) (oi := ({ dst := some 134, op := Op.nilCheck (Operand.tmp 133), type := 0, pos := "outright.go:159", after := #[{ on := 16, ground := Ground.data }, { on := 8, ground := Ground.guard }], guard := some (8, true) } : Oper)) (v := ?va24m14) rfl (by kernel_rfl) (by kernel_rfl) (by kernel_rfl) (fun _ _ _ h => h) (Or.inl ⟨by rfl, fun w hSw => ?hya24m14⟩) (by assumption) ?ra24m14
  case hya24m14 => (try dsimp only at hSw); go_simp; (try with_reducible rfl)
  (try simp only [Act.put, List.setIfInBounds_toArray, List.set_cons_zero, List.set_cons_succ])
  refine wpAnyH_take (i := 18) (oi := ({ dst := some 135, op := Op.fieldAddr 34 (Operand.tmp 134) 0, type := 0, pos := "outright.go:159", after := #[{ on := 17, ground := Ground.data }, { on := 8, ground := Ground.guard }], guard := some (8, true) } : Oper)) (v := ?va24m15) rfl (by kernel_rfl) (by kernel_rfl) (by kernel_rfl) (fun _ _ _ h => h) (Or.inl ⟨by rfl, fun w hSw => ?hya24m15⟩) (by assumption) ?ra24m15
  case hya24m15 => (try dsimp only at hSw); go_simp; (try with_reducible rfl)
  (try simp only [Act.put, List.setIfInBounds_toArray, List.set_cons_zero, List.set_cons_succ])
  refine wpAnyH_take (i := 19) (oi := ({ dst := some 136, op := Op.load 26 (Operand.tmp 135), type := 26, pos := "outright.go:159", after := #[{ on := 18, ground := Ground.data }, { on := 8, ground := Ground.guard }], guard := some (8, true) } : Oper)) (v := ?va24m16) rfl (by kernel_rfl) (by kernel_rfl) (by kernel_rfl) (fun _ _ _ h => h) (Or.inl ⟨by rfl, fun w hSw => ?hya24m16⟩) (by assumption) ?ra24m16
  case hya24m16 => (try dsimp only at hSw); go_simp; (try with_reducible rfl)
  (try simp only [Act.put, List.setIfInBounds_toArray, List.set_cons_zero, List.set_cons_succ])
  refine wpAnyH_take (i := 20) (oi := ({ dst := some 137, op := Op.load 39 (Operand.tmp 10), type := 39, pos := "outright.go:159", after := #[{ on := 8, ground := Ground.guard }], guard := some (8, true) } : Oper)) (v := ?va24m17) rfl (by kernel_rfl) (by kernel_rfl) (by kernel_rfl) (fun _ _ _ h => h) (Or.inl ⟨by rfl, fun w hSw => ?hya24m17⟩) (by assumption) ?ra24m17
  case hya24m17 => (try dsimp only at hSw); go_simp; (try with_reducible rfl)
  (try simp only [Act.put, List.setIfInBounds_toArray, List.set_cons_zero, List.set_cons_succ])
  refine wpAnyH_ready (rs := [14]) (by kernel_rfl) (by simp) ?_
  refine AllReadyH.cons (o := ({ dst := some 131, op := Op.call { callee := Callee.value (Operand.func 12), args := #[Operand.tmp 130], argTypes := #[39] }, type := 37, pos := "outright.go:159", after := #[{ on := 13, ground := Ground.data }, { on := 8, ground := Ground.chain }, { on := 8, ground := Ground.guard }], guard := some (8, true) } : Oper)) rfl (fun Kq hKq => ?_) AllReadyH.nil
  go_simp
  (refine (HLKa.out _).mono ?_; rintro e w27 ⟨rfl, hb27⟩; have HB27 := Lib.hid hb27; have H27 := Lib.hid (H26.out.new hb27); clear hb27)
  refine hKq.out _ _ ?_ (fun hHeld => ?_)
  · exact ⟨⟨bcell HB27.out hHeld.1.1, bcell HB27.out hHeld.1.2.1, bcell HB27.out hHeld.1.2.2.1, bcell HB27.out hHeld.1.2.2.2.1, bcell HB27.out hHeld.1.2.2.2.2.1, bcell HB27.out hHeld.1.2.2.2.2.2.1, bcell HB27.out hHeld.1.2.2.2.2.2.2.1, bcell HB27.out hHeld.1.2.2.2.2.2.2.2⟩, bcell HB27.out hHeld.2⟩
  clear hKq Kq
  (try simp only [Act.put, List.setIfInBounds_toArray, List.set_cons_zero, List.set_cons_succ])
  refine wpAnyH_ready (rs := [15]) (by kernel_rfl) (by simp) ?_
  refine AllReadyH.cons (o := ({ dst := some 132, op := Op.call { callee := Callee.value (Operand.func 11), args := #[Operand.tmp 129, Operand.tmp 131], argTypes := #[26, 37] }, type := 25, pos := "outright.go:159", after := #[{ on := 12, ground := Ground.data }, { on := 14, ground := Ground.data }, { on := 14, ground := Ground.chain }, { on := 8, ground := Ground.guard }], guard := some (8, true) } : Oper)) rfl (fun Kq hKq => ?_) AllReadyH.nil
  go_simp
  (have hpk := pg_peek H27.out (a := La) (by have := HAI.out; omega); rw [HL26.out.1, HCD.out] at hpk; refine hpk.mono ?_; rintro e w28 ⟨rfl, rfl⟩; clear hpk)
  refine hKq.out _ _ ?_ (fun hHeld => ?_)
  · exact hHeld
  clear hKq Kq
  (try simp only [Act.put, List.setIfInBounds_toArray, List.set_cons_zero, List.set_cons_succ])
  refine wpAnyH_ready (rs := [21]) (by kernel_rfl) (by simp) ?_
  refine AllReadyH.cons (o := ({ dst := some 138, op := Op.call { callee := Callee.value (Operand.func 12), args := #[Operand.tmp 137], argTypes := #[39] }, type := 37, pos := "outright.go:159", after := #[{ on := 20, ground := Ground.data }, { on := 15, ground := Ground.chain }, { on := 8, ground := Ground.guard }], guard := some (8, true) } : Oper)) rfl (fun Kq hKq => ?_) AllReadyH.nil
  go_simp
  (refine (HLKb.out _).mono ?_; rintro e w29 ⟨rfl, hb29⟩; have HB29 := Lib.hid hb29; have H29 := Lib.hid (H27.out.new hb29); clear hb29)
  refine hKq.out _ _ ?_ (fun hHeld => ?_)
  · exact ⟨⟨bcell HB29.out hHeld.1.1, bcell HB29.out hHeld.1.2.1, bcell HB29.out hHeld.1.2.2.1, bcell HB29.out hHeld.1.2.2.2.1, bcell HB29.out hHeld.1.2.2.2.2.1, bcell HB29.out hHeld.1.2.2.2.2.2.1, bcell HB29.out hHeld.1.2.2.2.2.2.2.1, bcell HB29.out hHeld.1.2.2.2.2.2.2.2⟩, bcell HB29.out hHeld.2⟩
  clear hKq Kq
  (try simp only [Act.put, List.setIfInBounds_toArray, List.set_cons_zero, List.set_cons_succ])
  refine wpAnyH_ready (rs := [22]) (by kernel_rfl) (by simp) ?_
  refine AllReadyH.cons (o := ({ dst := some 139, op := Op.call { callee := Callee.value (Operand.func 11), args := #[Operand.tmp 136, Operand.tmp 138], argTypes := #[26, 37] }, type := 25, pos := "outright.go:159", after := #[{ on := 19, ground := Ground.data }, { on := 21, ground := Ground.data }, { on := 21, ground := Ground.chain }, { on := 8, ground := Ground.guard }], guard := some (8, true) } : Oper)) rfl (fun Kq hKq => ?_) AllReadyH.nil
  go_simp
  (have hpk := pg_peek H29.out (a := Lb) (by have := HAI.out; omega); rw [HL26.out.2, HCD.out] at hpk; refine hpk.mono ?_; rintro e w30 ⟨rfl, rfl⟩; clear hpk)
  refine hKq.out _ _ ?_ (fun hHeld => ?_)
  · exact hHeld
  clear hKq Kq
  (try simp only [Act.put, List.setIfInBounds_toArray, List.set_cons_zero, List.set_cons_succ])
  refine wpAnyH_take (i := 23) (oi := ({ dst := some 140, op := Op.binOp BinOp.add 25 (Operand.tmp 132) (Operand.tmp 139) 25, type := 25, pos := "outright.go:159", after := #[{ on := 15, ground := Ground.data }, { on := 22, ground := Ground.data }, { on := 8, ground := Ground.guard }], guard := some (8, true) } : Oper)) (v := ?va24m18) rfl (by kernel_rfl) (by kernel_rfl) (by kernel_rfl) (fun _ _ _ h => h) (Or.inl ⟨by rfl, fun w hSw => ?hya24m18⟩) (by assumption) ?ra24m18
  case hya24m18 => (try dsimp only at hSw); go_simp; (try with_reducible rfl)
  (try simp only [Act.put, List.setIfInBounds_toArray, List.set_cons_zero, List.set_cons_succ])
  refine wpAnyH_take (i := 24) (oi := ({ dst := some 141, op := Op.binOp BinOp.eql 25 (Operand.tmp 140) (Operand.const (Value.int IntKind.u64 0)) 25, type := 4, pos := "outright.go:159", after := #[{ on := 23, ground := Ground.data }, { on := 8, ground := Ground.guard }], guard := some (8, true) } : Oper)) (v := ?va24m19) rfl (by kernel_rfl) (by kernel_rfl) (by kernel_rfl) (fun _ _ _ h => h) (Or.inl ⟨by rfl, fun w hSw => ?hya24m19⟩) (by assumption) ?ra24m19
  case hya24m19 => (try dsimp only at hSw); go_simp; (try with_reducible rfl)
  (try simp only [Act.put, List.setIfInBounds_toArray, List.set_cons_zero, List.set_cons_succ])
  refine wpAnyH_take (i := 25) (oi := ({ dst := some 142, op := Op.pick (Operand.tmp 125) (Operand.tmp 141) (Operand.const (Value.bool false)), type := 4, pos := "outright.go:159", after := #[{ on := 8, ground := Ground.data }, { on := 24, ground := Ground.data }], guard := none } : Oper)) (v := ?va24m20) rfl (by kernel_rfl) (by kernel_rfl) (by kernel_rfl) (fun _ _ _ h => h) (Or.inl ⟨by rfl, fun w hSw => ?hya24m20⟩) (by assumption) ?ra24m20
  case hya24m20 => (try dsimp only at hSw); go_simp; (try with_reducible rfl)
  (try simp only [Act.put, List.setIfInBounds_toArray, List.set_cons_zero, List.set_cons_succ])
  refine wpAnyH_take (i := 26) (oi := ({ dst := some 143, op := Op.move (Operand.tmp 142), type := 4, pos := "outright.go:159", after := #[{ on := 25, ground := Ground.data }, { on := 22, ground := Ground.chain }], guard := none } : Oper)) (v := ?va24m21) rfl (by kernel_rfl) (by kernel_rfl) (by kernel_rfl) (fun _ _ _ h => h) (Or.inl ⟨by rfl, fun w hSw => ?hya24m21⟩) (by assumption) ?ra24m21
  case hya24m21 => (try dsimp only at hSw); go_simp; (try with_reducible rfl)
  (try simp only [Act.put, List.setIfInBounds_toArray, List.set_cons_zero, List.set_cons_succ])
  refine wpAnyH_ready (rs := [27]) (by kernel_rfl) (by simp) ?_
  refine AllReadyH.cons (o := ({ dst := some 144, op := Op.call { callee := Callee.value (Operand.func 23), args := #[], argTypes := #[] }, type := 4, pos := "outright.go:159", after := #[{ on := 26, ground := Ground.chain }, { on := 26, ground := Ground.guard }], guard := some (26, true) } : Oper)) rfl (fun Kq hKq => ?_) AllReadyH.nil
  go_simp
  (refine (HLV.out _).mono ?_; rintro e w31 ⟨rfl, hb31⟩; have HB31 := Lib.hid hb31; have H31 := Lib.hid (H29.out.new hb31); clear hb31)
  refine hKq.out _ _ ?_ (fun hHeld => ?_)
  · exact ⟨⟨bcell HB31.out hHeld.1.1, bcell HB31.out hHeld.1.2.1, bcell HB31.out hHeld.1.2.2.1, bcell HB31.out hHeld.1.2.2.2.1, bcell HB31.out hHeld.1.2.2.2.2.1, bcell HB31.out hHeld.1.2.2.2.2.2.1, bcell HB31.out hHeld.1.2.2.2.2.2.2.1, bcell HB31.out hHeld.1.2.2.2.2.2.2.2⟩, bcell HB31.out hHeld.2⟩
  clear hKq Kq
  (try simp only [Act.put, List.setIfInBounds_toArray, List.set_cons_zero, List.set_cons_succ])
  refine wpAnyH_take (i := 28) (oi := ({ dst := some 145, op := Op.pick (Operand.tmp 143) (Operand.tmp 144) (Operand.const (Value.bool false)), type := 4, pos := "outright.go:159", after := #[{ on := 26, ground := Ground.data }, { on := 27, ground := Ground.data }], guard := none } : Oper)) (v := ?va24m22) rfl (by kernel_rfl) (by kernel_rfl) (by kernel_rfl) (fun _ _ _ h => h) (Or.inl ⟨by rfl, fun w hSw => ?hya24m22⟩) (by assumption) ?ra24m22
  case hya24m22 => (try dsimp only at hSw); go_simp; (try with_reducible rfl)
  (try simp only [Act.put, List.setIfInBounds_toArray, List.set_cons_zero, List.set_cons_succ])
  refine wpAnyH_take (i := 29) (oi := ({ dst := some 6, op := Op.assign (Operand.tmp 145), type := 4, pos := "outright.go:159", after := #[{ on := 28, ground := Ground.data }, { on := 27, ground := Ground.chain }, { on := 0, ground := Ground.phase }, { on := 1, ground := Ground.phase }, { on := 2, ground := Ground.phase }, { on := 3, ground := Ground.phase }, { on := 4, ground := Ground.phase }, { on := 5, ground := Ground.phase }, { on := 6, ground := Ground.phase }, { on := 7, ground := Ground.phase }, { on := 8, ground := Ground.phase }, { on := 9, ground := Ground.phase }, { on := 10, ground := Ground.phase }, { on := 11, ground := Ground.phase }, { on := 12, ground := Ground.phase }, { on := 13, ground := Ground.phase }, { on := 14, ground := Ground.phase }, { on := 15, ground := Ground.phase }, { on := 16, ground := Ground.phase }, { on := 17, ground := Ground.phase }, { on := 18, ground := Ground.phase }, { on := 19, ground := Ground.phase }, { on := 20, ground := Ground.phase }, { on := 21, ground := Ground.phase }, { on := 22, ground := Ground.phase }, { on := 23, ground := Ground.phase }, { on := 24, ground := Ground.phase }, { on := 25, ground := Ground.phase }, { on := 26, ground := Ground.phase }, { on := 27, ground := Ground.phase }, { on := 28, ground := Ground.phase }], guard := none } : Oper)) (v := ?va24m23) rfl (by kernel_rfl) (by kernel_rfl) (by kernel_rfl) (fun _ _ _ h => h) (Or.inl ⟨by rfl, fun w hSw => ?hya24m23⟩) (by assumption) ?ra24m23
  case hya24m23 => (try dsimp only at hSw); go_simp; (try with_reducible rfl)
  (try simp only [Act.put, List.setIfInBounds_toArray, List.set_cons_zero, List.set_cons_succ])
  refine wpAnyH_done (by kernel_rfl) ?_ _
  clear hHeld
  go_wp2_with fail
  go_ret
  exact ⟨rfl, HK1.out.2.2.trans (H31.out.bl.mono HK1.out.2.2.size)⟩
end Go.Proofs.Ytdfokceecnmocaa.S16
