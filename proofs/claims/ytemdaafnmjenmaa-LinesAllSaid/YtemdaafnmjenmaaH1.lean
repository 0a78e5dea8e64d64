/- LinesTake's walk. -/
import Derived.Test.YtemdaafnmjenmaaG1
import Derived.Test.YtemdaafnmjenmaaF1
namespace Go.Proofs.Ytemdaafnmjenmaa
open Go.RowKit

theorem Two.rd1 {w x : World} {base c1 c2 : Nat} {A1 A2 : Option Addr} {T L : List Ent} (h : Two w base (.slice A1 T.length c1) (.slice A2 L.length c2) T L) (hb : Below w.heap.size w x) : Rd x x.heap.size A1 (flat T) := (h.r1.new hb).rd
theorem Two.rd2 {w x : World} {base c1 c2 : Nat} {A1 A2 : Option Addr} {T L : List Ent} (h : Two w base (.slice A1 T.length c1) (.slice A2 L.length c2) T L) (hb : Below w.heap.size w x) : Rd x x.heap.size A2 (flat L) := (h.r2.new hb).rd
set_option maxHeartbeats 16000000 in
set_option maxRecDepth 100000 in
theorem law_take (A C : Option Addr) (n c nb cb : Nat) (D : List Ent) (key most kt : Int) (cl : List Nat) (hn : n = D.length) (hnb : nb = cl.length) (hn2 : n ≤ 9223372036854775807) (hnb2 : nb ≤ 9223372036854775807) (hm1 : -9223372036854775808 ≤ most) (hm2 : most ≤ 9223372036854775807) (hby : ∀ x ∈ cl, x < 256) (w : World) (hin : Rd w w.heap.size A (flat D)) (hinc : Rd w w.heap.size C (cl.map bv)) :
    Calls Try.prog 4 #[.slice A n c, .int .u32 key, .agg #[.int .i64 most, .slice C nb cb, .int .u32 kt]] w fun e w' => e = .returned (.bool true) ∧ Below w.heap.size w w' := by
  have hl := lives_any
  have HL := Lib.hid hl; have HIN := Lib.hid hin; have HINC := Lib.hid hinc; have HBY := Lib.hid hby; have HN := Lib.hid hn; have HNB := Lib.hid hnb; have HM1 := Lib.hid hm1; have HM2 := Lib.hid hm2
  clear hl hin hinc hby hm1 hm2
  by_cases h100 : n ≤ 100
  · by_cases h200 : nb ≤ 200
    · obtain ⟨w1, hw1⟩ : ∃ w1, w1 = w.alloc (.cells #[.int .i64 most, .slice C nb cb, .int .u32 kt] 49) := ⟨_, rfl⟩
      have hb01 : Below w.heap.size w w1 := by rw [hw1]; exact below1 w _
      have hbox : w1.heap[w.heap.size]? = some (.cells #[.int .i64 most, .slice C nb cb, .int .u32 kt] 49 (0, 0)) := by rw [hw1]; exact heap_alloc_new w _
      have hs1 : w1.heap.size = w.heap.size + 1 := by rw [hw1]; simp
      have hot := others_any c (HIN.out.below hb01 (Nat.le_refl _)) hb01.size (by omega)
      have ht1 := part_len (fsome key) most D
      have ht2 := part_len (fch key (chl (ints cl))) ⟨false, []⟩ D
      have hpn := part_nil key (fun _ => 0) ⟨true, []⟩ rfl D
      obtain ⟨p1, hp1⟩ : ∃ p, p = part (fsome key) most D := ⟨_, rfl⟩
      obtain ⟨p2, hp2⟩ : ∃ p, p = part (fch key (chl (ints cl))) ⟨false, []⟩ D := ⟨_, rfl⟩
      rw [← hp1] at ht1
      rw [← hp2] at ht2
      obtain ⟨T1, L1, q1⟩ := p1
      obtain ⟨T2, L2, q2⟩ := p2
      dsimp only at ht1 ht2
      have hT1 : T1.length ≤ 100 ∧ L1.length ≤ 100 ∧ T2.length ≤ 100 ∧ L2.length ≤ 100 := by omega
      have HP1 := Lib.hid hp1; have HP2 := Lib.hid hp2; have HPN := Lib.hid hpn; have HT := Lib.hid hT1
      have HOT := Lib.hid hot; have HBOX := Lib.hid hbox; have HS1 := Lib.hid hs1; have KW := Lib.hid hb01; have HB01 := Lib.hid hb01
      rw [← hn] at HOT
      have hmv : (movedL D T2 kt).length ≤ 200 := by rw [moved_len]; omega
      have hmoved := Lib.hid hmv
      clear hmv
      clear hot hbox hs1 hb01 hp1 hp2 hpn hn hnb ht1 ht2 hT1
      have HD6 : Hid (D.length ≤ 100) := HN.out ▸ h100
      go_enter Try.func4, Try.ntmps4
      go_wp2_with fail
      rw [← hw1]
      clear hw1
      have K1 : Hid (Below w1.heap.size w1 w1) := Below.refl _ _
      refine HOT.out.mono ?_
      rintro e w2 ⟨sm, rfl, hr, hb⟩
      obtain ⟨Bm, capm, rfl, _, _⟩ := hr.shape
      have RM := Lib.hid hr
      have Z12 : Hid (w1.heap.size ≤ w2.heap.size) := hb.size
      have KW' := Lib.hid (KW.out.trans (hb.mono KW.out.size)); clear KW; have KW := KW'; clear KW'
      have K1' : Hid (Below w1.heap.size w1 w2) := K1.out.trans (hb.mono K1.out.size)
      clear K1; have K1 := K1'; clear K1'
      have K2 : Hid (Below w2.heap.size w2 w2) := Below.refl _ _
      clear hr hb
      have y0 : w2.cell? ⟨w.heap.size, 0, none⟩ = some (.int .i64 most) := cell_row ((K1.out.block w.heap.size (by have := HS1.out; omega)).trans HBOX.out) 0
      have hf := some_any c key most HM1.out HM2.out (HIN.out.below KW.out (Nat.le_refl _)) KW.out.size (by have := HN.out; omega)
      rw [← HN.out, ← HP1.out] at hf
      dsimp only at hf
      unfold Tells2 at hf
      have HF := Lib.hid hf; clear hf
      go_wp2_with fail
      refine HF.out.mono ?_
      rintro e w3 ⟨Aa, Ab, rfl, hab, hb⟩
      have RAB := Lib.hid hab
      have Z23 : Hid (w2.heap.size ≤ w3.heap.size) := hb.size
      have KW' := Lib.hid (KW.out.trans (hb.mono KW.out.size)); clear KW; have KW := KW'; clear KW'
      have K1' : Hid (Below w1.heap.size w1 w3) := K1.out.trans (hb.mono K1.out.size)
      clear K1; have K1 := K1'; clear K1'
      have K2' : Hid (Below w2.heap.size w2 w3) := K2.out.trans (hb.mono K2.out.size)
      clear K2; have K2 := K2'; clear K2'
      have K3 : Hid (Below w3.heap.size w3 w3) := Below.refl _ _
      clear hab hb y0 HF
      have y0 : w3.cell? ⟨w.heap.size, 0, none⟩ = some (.int .i64 most) := cell_row ((K1.out.block w.heap.size (by have := HS1.out; omega)).trans HBOX.out) 0
      have hf := rsome_any capm key most ((RM.out.new K2.out).rd) (Nat.le_refl _) (by have := HN.out; omega)
      rw [← HN.out, ← HP1.out] at hf
      dsimp only at hf
      have HF := Lib.hid hf; clear hf
      go_wp2_with fail
      rw [← HN.out]
      refine HF.out.mono ?_
      rintro e w4 ⟨sc, sd, rfl, hcd, hb⟩
      obtain ⟨Ac, capc, rfl, _, _⟩ := hcd.r1.shape
      obtain ⟨Ad, capd, rfl, _, _⟩ := hcd.r2.shape
      have RCD := Lib.hid hcd
      have Z34 : Hid (w3.heap.size ≤ w4.heap.size) := hb.size
      have KW' := Lib.hid (KW.out.trans (hb.mono KW.out.size)); clear KW; have KW := KW'; clear KW'
      have K1' : Hid (Below w1.heap.size w1 w4) := K1.out.trans (hb.mono K1.out.size)
      clear K1; have K1 := K1'; clear K1'
      have K2' : Hid (Below w2.heap.size w2 w4) := K2.out.trans (hb.mono K2.out.size)
      clear K2; have K2 := K2'; clear K2'
      have K3' : Hid (Below w3.heap.size w3 w4) := K3.out.trans (hb.mono K3.out.size)
      clear K3; have K3 := K3'; clear K3'
      have K4 : Hid (Below w4.heap.size w4 w4) := Below.refl _ _
      clear hcd hb y0 HF
      have y1 : w4.cell? ⟨w.heap.size, 1, none⟩ = some (.slice C nb cb) := cell_row ((K1.out.block w.heap.size (by have := HS1.out; omega)).trans HBOX.out) 1
      have hrow := row_made cb (HINC.out.below KW.out (Nat.le_refl _)) KW.out.size
      rw [← HNB.out] at hrow
      have hb := below1 w4 (.cells #[.slice C nb cb, .slice none 0 0] 57)
      have hs5 : (w4.alloc (.cells #[.slice C nb cb, .slice none 0 0] 57)).heap.size = w4.heap.size + 1 := by simp
      have hf := chosen_row c cb key (by have := hrow; rw [HNB.out] at this ⊢; exact this) (by have := HNB.out; omega) HBY.out ((HIN.out.below KW.out (Nat.le_refl _)).below hb KW.out.size) KW.out.size (by have := HN.out; omega)
      rw [← HN.out, ← HP2.out] at hf
      dsimp only at hf
      unfold Tells3 at hf
      have HF := Lib.hid hf; clear hf
      go_wp2_with fail
      refine HF.out.mono ?_
      rintro e w6 ⟨Ax, Ay, srow, rfl, hxy, hrow6, ht⟩
      have hb : Below w4.heap.size w4 w6 := hb.trans (ht.below hb.size (fun k hk (e : k = w4.heap.size) => by omega))
      have RXY := Lib.hid hxy; have RR := Lib.hid hrow6; have HS5 := Lib.hid hs5
      have Z46 : Hid (w4.heap.size + 1 ≤ w6.heap.size) := by have := ht.size; rw [hs5] at this; exact this
      have KW' := Lib.hid (KW.out.trans (hb.mono KW.out.size)); clear KW; have KW := KW'; clear KW'
      have K1' : Hid (Below w1.heap.size w1 w6) := K1.out.trans (hb.mono K1.out.size)
      clear K1; have K1 := K1'; clear K1'
      have K2' : Hid (Below w2.heap.size w2 w6) := K2.out.trans (hb.mono K2.out.size)
      clear K2; have K2 := K2'; clear K2'
      have K3' : Hid (Below w3.heap.size w3 w6) := K3.out.trans (hb.mono K3.out.size)
      clear K3; have K3 := K3'; clear K3'
      have K4' : Hid (Below w4.heap.size w4 w6) := K4.out.trans (hb.mono K4.out.size)
      clear K4; have K4 := K4'; clear K4'
      have K6 : Hid (Below w6.heap.size w6 w6) := Below.refl _ _
      clear hrow hxy hrow6 ht hs5 hb y1 HF
      have hf := ints_any RR.out.cell RR.out.list (by have := Z46.out; have := RR.out.low; omega) HBY.out (by have := HNB.out; omega)
      have HF := Lib.hid hf; clear hf
      go_wp2_with fail
      refine HF.out.mono ?_
      rintro e w7 ⟨si, rfl, hri, hb⟩
      obtain ⟨Ai, capi, rfl, _, _⟩ := hri.shape
      have hil := ints_len cl
      rw [← hil] at hri
      have RI := Lib.hid hri
      have HIL := Lib.hid hil
      have KW' := Lib.hid (KW.out.trans (hb.mono KW.out.size)); clear KW; have KW := KW'; clear KW'
      have K1' : Hid (Below w1.heap.size w1 w7) := K1.out.trans (hb.mono K1.out.size)
      clear K1; have K1 := K1'; clear K1'
      have K2' : Hid (Below w2.heap.size w2 w7) := K2.out.trans (hb.mono K2.out.size)
      clear K2; have K2 := K2'; clear K2'
      have K3' : Hid (Below w3.heap.size w3 w7) := K3.out.trans (hb.mono K3.out.size)
      clear K3; have K3 := K3'; clear K3'
      have K4' : Hid (Below w4.heap.size w4 w7) := K4.out.trans (hb.mono K4.out.size)
      clear K4; have K4 := K4'; clear K4'
      have K6' : Hid (Below w6.heap.size w6 w7) := K6.out.trans (hb.mono K6.out.size)
      clear K6; have K6 := K6'; clear K6'
      clear hri hb HF hil
      have hf := rchosen_any (A := Bm) (C := Ai) (cl := ints cl) capm capi key ((RM.out.new K2.out).rd) (Nat.le_refl _) (by have := HN.out; omega) RI.out.rd (Nat.le_refl _) (by have := HIL.out; have := HNB.out; omega)
      rw [← HN.out, ← HP2.out, HIL.out] at hf
      dsimp only at hf
      have HF := Lib.hid hf; clear hf
      go_wp2_with fail
      refine HF.out.mono ?_
      rintro e w8 ⟨sv, sw, rfl, hvw, hb⟩
      obtain ⟨Av, capv, rfl, _, _⟩ := hvw.r1.shape
      obtain ⟨Aw, capw, rfl, _, _⟩ := hvw.r2.shape
      have RVW := Lib.hid hvw
      have KW' := Lib.hid (KW.out.trans (hb.mono KW.out.size)); clear KW; have KW := KW'; clear KW'
      have K1' : Hid (Below w1.heap.size w1 w8) := K1.out.trans (hb.mono K1.out.size)
      clear K1; have K1 := K1'; clear K1'
      have K2' : Hid (Below w2.heap.size w2 w8) := K2.out.trans (hb.mono K2.out.size)
      clear K2; have K2 := K2'; clear K2'
      have K3' : Hid (Below w3.heap.size w3 w8) := K3.out.trans (hb.mono K3.out.size)
      clear K3; have K3 := K3'; clear K3'
      have K4' : Hid (Below w4.heap.size w4 w8) := K4.out.trans (hb.mono K4.out.size)
      clear K4; have K4 := K4'; clear K4'
      have K6' : Hid (Below w6.heap.size w6 w8) := K6.out.trans (hb.mono K6.out.size)
      clear K6; have K6 := K6'; clear K6'
      have K8 : Hid (Below w8.heap.size w8 w8) := Below.refl _ _
      clear hvw hb HF
      have hf := same_any T1.length capc (RAB.out.rd1 K3.out) (RCD.out.rd1 K4.out) (Nat.le_refl _) (Nat.le_refl _) (by have := HT.out; omega)
      have HF := Lib.hid hf; clear hf
      go_wp2_with fail
      refine HF.out.mono ?_
      rintro e w9 ⟨rfl, hb⟩
      have KW' := Lib.hid (KW.out.trans (hb.mono KW.out.size)); clear KW; have KW := KW'; clear KW'
      have K1' : Hid (Below w1.heap.size w1 w9) := K1.out.trans (hb.mono K1.out.size)
      clear K1; have K1 := K1'; clear K1'
      have K2' : Hid (Below w2.heap.size w2 w9) := K2.out.trans (hb.mono K2.out.size)
      clear K2; have K2 := K2'; clear K2'
      have K3' : Hid (Below w3.heap.size w3 w9) := K3.out.trans (hb.mono K3.out.size)
      clear K3; have K3 := K3'; clear K3'
      have K4' : Hid (Below w4.heap.size w4 w9) := K4.out.trans (hb.mono K4.out.size)
      clear K4; have K4 := K4'; clear K4'
      have K6' : Hid (Below w6.heap.size w6 w9) := K6.out.trans (hb.mono K6.out.size)
      clear K6; have K6 := K6'; clear K6'
      have K8' : Hid (Below w8.heap.size w8 w9) := K8.out.trans (hb.mono K8.out.size)
      clear K8; have K8 := K8'; clear K8'
      clear hb HF
      have hf := same_any L1.length capd (RAB.out.rd2 K3.out) (RCD.out.rd2 K4.out) (Nat.le_refl _) (Nat.le_refl _) (by have := HT.out; omega)
      have HF := Lib.hid hf; clear hf
      go_wp2_with fail
      refine HF.out.mono ?_
      rintro e w10 ⟨rfl, hb⟩
      have KW' := Lib.hid (KW.out.trans (hb.mono KW.out.size)); clear KW; have KW := KW'; clear KW'
      have K1' : Hid (Below w1.heap.size w1 w10) := K1.out.trans (hb.mono K1.out.size)
      clear K1; have K1 := K1'; clear K1'
      have K2' : Hid (Below w2.heap.size w2 w10) := K2.out.trans (hb.mono K2.out.size)
      clear K2; have K2 := K2'; clear K2'
      have K3' : Hid (Below w3.heap.size w3 w10) := K3.out.trans (hb.mono K3.out.size)
      clear K3; have K3 := K3'; clear K3'
      have K4' : Hid (Below w4.heap.size w4 w10) := K4.out.trans (hb.mono K4.out.size)
      clear K4; have K4 := K4'; clear K4'
      have K6' : Hid (Below w6.heap.size w6 w10) := K6.out.trans (hb.mono K6.out.size)
      clear K6; have K6 := K6'; clear K6'
      have K8' : Hid (Below w8.heap.size w8 w10) := K8.out.trans (hb.mono K8.out.size)
      clear K8; have K8 := K8'; clear K8'
      clear hb HF
      have hf := same_any T2.length capv (RXY.out.rd1 K6.out) (RVW.out.rd1 K8.out) (Nat.le_refl _) (Nat.le_refl _) (by have := HT.out; omega)
      have HF := Lib.hid hf; clear hf
      go_wp2_with fail
      refine HF.out.mono ?_
      rintro e w11 ⟨rfl, hb⟩
      have KW' := Lib.hid (KW.out.trans (hb.mono KW.out.size)); clear KW; have KW := KW'; clear KW'
      have K1' : Hid (Below w1.heap.size w1 w11) := K1.out.trans (hb.mono K1.out.size)
      clear K1; have K1 := K1'; clear K1'
      have K2' : Hid (Below w2.heap.size w2 w11) := K2.out.trans (hb.mono K2.out.size)
      clear K2; have K2 := K2'; clear K2'
      have K3' : Hid (Below w3.heap.size w3 w11) := K3.out.trans (hb.mono K3.out.size)
      clear K3; have K3 := K3'; clear K3'
      have K4' : Hid (Below w4.heap.size w4 w11) := K4.out.trans (hb.mono K4.out.size)
      clear K4; have K4 := K4'; clear K4'
      have K6' : Hid (Below w6.heap.size w6 w11) := K6.out.trans (hb.mono K6.out.size)
      clear K6; have K6 := K6'; clear K6'
      have K8' : Hid (Below w8.heap.size w8 w11) := K8.out.trans (hb.mono K8.out.size)
      clear K8; have K8 := K8'; clear K8'
      clear hb HF
      have hf := same_any L2.length capw (RXY.out.rd2 K6.out) (RVW.out.rd2 K8.out) (Nat.le_refl _) (Nat.le_refl _) (by have := HT.out; omega)
      have HF := Lib.hid hf; clear hf
      go_wp2_with fail
      refine HF.out.mono ?_
      rintro e w12 ⟨rfl, hb⟩
      have KW' := Lib.hid (KW.out.trans (hb.mono KW.out.size)); clear KW; have KW := KW'; clear KW'
      have K1' : Hid (Below w1.heap.size w1 w12) := K1.out.trans (hb.mono K1.out.size)
      clear K1; have K1 := K1'; clear K1'
      have K2' : Hid (Below w2.heap.size w2 w12) := K2.out.trans (hb.mono K2.out.size)
      clear K2; have K2 := K2'; clear K2'
      have K3' : Hid (Below w3.heap.size w3 w12) := K3.out.trans (hb.mono K3.out.size)
      clear K3; have K3 := K3'; clear K3'
      have K4' : Hid (Below w4.heap.size w4 w12) := K4.out.trans (hb.mono K4.out.size)
      clear K4; have K4 := K4'; clear K4'
      have K6' : Hid (Below w6.heap.size w6 w12) := K6.out.trans (hb.mono K6.out.size)
      clear K6; have K6 := K6'; clear K6'
      have K8' : Hid (Below w8.heap.size w8 w12) := K8.out.trans (hb.mono K8.out.size)
      clear K8; have K8 := K8'; clear K8'
      clear hb HF
      go_wp2_with fail
      refine (tight_any Aa Ab T1.length L1.length _).mono ?_
      rintro e w' ⟨rfl, rfl⟩
      go_wp2_with fail
      refine (tight_any Ax Ay T2.length L2.length _).mono ?_
      rintro e w' ⟨rfl, rfl⟩
      clear K4 RCD
      have y2 : w12.cell? ⟨w.heap.size, 2, none⟩ = some (.int .u32 kt) := cell_row ((K1.out.block w.heap.size (by have := HS1.out; omega)).trans HBOX.out) 2
      have hf := moved_any c T2.length kt (HIN.out.below KW.out (Nat.le_refl _)) (RXY.out.rd1 K6.out) KW.out.size (Nat.le_refl _) (by have := HN.out; omega) (by have := HT.out; omega)
      rw [← HN.out] at hf
      unfold Tells at hf
      have HF := Lib.hid hf; clear hf
      go_wp2_with fail
      refine HF.out.mono ?_
      rintro e w13 ⟨Ato, rfl, hto, hb⟩
      have RTO := Lib.hid hto
      have Z1213 : Hid (w12.heap.size ≤ w13.heap.size) := hb.size
      have Z612 : Hid (w6.heap.size ≤ w12.heap.size) := K6.out.size
      have KW' := Lib.hid (KW.out.trans (hb.mono KW.out.size)); clear KW; have KW := KW'; clear KW'
      have K1' : Hid (Below w1.heap.size w1 w13) := K1.out.trans (hb.mono K1.out.size)
      clear K1; have K1 := K1'; clear K1'
      have K2' : Hid (Below w2.heap.size w2 w13) := K2.out.trans (hb.mono K2.out.size)
      clear K2; have K2 := K2'; clear K2'
      have K3' : Hid (Below w3.heap.size w3 w13) := K3.out.trans (hb.mono K3.out.size)
      clear K3; have K3 := K3'; clear K3'
      have K6' : Hid (Below w6.heap.size w6 w13) := K6.out.trans (hb.mono K6.out.size)
      clear K6; have K6 := K6'; clear K6'
      have K8' : Hid (Below w8.heap.size w8 w13) := K8.out.trans (hb.mono K8.out.size)
      clear K8; have K8 := K8'; clear K8'
      have K13 : Hid (Below w13.heap.size w13 w13) := Below.refl _ _
      clear hto hb HF y2
      have y2 : w13.cell? ⟨w.heap.size, 2, none⟩ = some (.int .u32 kt) := cell_row ((K1.out.block w.heap.size (by have := HS1.out; omega)).trans HBOX.out) 2
      have hf := rmoved_any capm capv kt ((RM.out.new K2.out).rd) (RVW.out.rd1 K8.out) (Nat.le_refl _) (Nat.le_refl _) (by have := HD6.out; omega) (by have := HT.out; omega)
      rw [← HN.out] at hf
      have HF := Lib.hid hf; clear hf
      go_wp2_with fail
      refine HF.out.mono ?_
      rintro e w14 ⟨srt, rfl, hrt, hb⟩
      obtain ⟨Art, caprt, rfl, _, _⟩ := hrt.shape
      have RRT := Lib.hid hrt
      have KW' := Lib.hid (KW.out.trans (hb.mono KW.out.size)); clear KW; have KW := KW'; clear KW'
      have K1' : Hid (Below w1.heap.size w1 w14) := K1.out.trans (hb.mono K1.out.size)
      clear K1; have K1 := K1'; clear K1'
      have K2' : Hid (Below w2.heap.size w2 w14) := K2.out.trans (hb.mono K2.out.size)
      clear K2; have K2 := K2'; clear K2'
      have K3' : Hid (Below w3.heap.size w3 w14) := K3.out.trans (hb.mono K3.out.size)
      clear K3; have K3 := K3'; clear K3'
      have K6' : Hid (Below w6.heap.size w6 w14) := K6.out.trans (hb.mono K6.out.size)
      clear K6; have K6 := K6'; clear K6'
      have K8' : Hid (Below w8.heap.size w8 w14) := K8.out.trans (hb.mono K8.out.size)
      clear K8; have K8 := K8'; clear K8'
      have K13' : Hid (Below w13.heap.size w13 w14) := K13.out.trans (hb.mono K13.out.size)
      clear K13; have K13 := K13'; clear K13'
      have K14 : Hid (Below w14.heap.size w14 w14) := Below.refl _ _
      clear hrt hb HF y2
      have hf := same_any (movedL D T2 kt).length caprt ((RTO.out.new K13.out).rd) ((RRT.out.new K14.out).rd) (Nat.le_refl _) (Nat.le_refl _) (by have := hmoved.out; omega)
      have HF := Lib.hid hf; clear hf
      go_wp2_with fail
      refine HF.out.mono ?_
      rintro e w15 ⟨rfl, hb⟩
      have KW' := Lib.hid (KW.out.trans (hb.mono KW.out.size)); clear KW; have KW := KW'; clear KW'
      have K1' : Hid (Below w1.heap.size w1 w15) := K1.out.trans (hb.mono K1.out.size)
      clear K1; have K1 := K1'; clear K1'
      have K2' : Hid (Below w2.heap.size w2 w15) := K2.out.trans (hb.mono K2.out.size)
      clear K2; have K2 := K2'; clear K2'
      have K3' : Hid (Below w3.heap.size w3 w15) := K3.out.trans (hb.mono K3.out.size)
      clear K3; have K3 := K3'; clear K3'
      have K6' : Hid (Below w6.heap.size w6 w15) := K6.out.trans (hb.mono K6.out.size)
      clear K6; have K6 := K6'; clear K6'
      have K8' : Hid (Below w8.heap.size w8 w15) := K8.out.trans (hb.mono K8.out.size)
      clear K8; have K8 := K8'; clear K8'
      have K13' : Hid (Below w13.heap.size w13 w15) := K13.out.trans (hb.mono K13.out.size)
      clear K13; have K13 := K13'; clear K13'
      have K14' : Hid (Below w14.heap.size w14 w15) := K14.out.trans (hb.mono K14.out.size)
      clear K14; have K14 := K14'; clear K14'
      clear hb HF
      have hf := same_any T2.length capv (RXY.out.rd1 K6.out) (RVW.out.rd1 K8.out) (Nat.le_refl _) (Nat.le_refl _) (by have := HT.out; omega)
      have HF := Lib.hid hf; clear hf
      go_wp2_with fail
      refine HF.out.mono ?_
      rintro e w16 ⟨rfl, hb⟩
      have KW' := Lib.hid (KW.out.trans (hb.mono KW.out.size)); clear KW; have KW := KW'; clear KW'
      have K1' : Hid (Below w1.heap.size w1 w16) := K1.out.trans (hb.mono K1.out.size)
      clear K1; have K1 := K1'; clear K1'
      have K2' : Hid (Below w2.heap.size w2 w16) := K2.out.trans (hb.mono K2.out.size)
      clear K2; have K2 := K2'; clear K2'
      have K3' : Hid (Below w3.heap.size w3 w16) := K3.out.trans (hb.mono K3.out.size)
      clear K3; have K3 := K3'; clear K3'
      have K6' : Hid (Below w6.heap.size w6 w16) := K6.out.trans (hb.mono K6.out.size)
      clear K6; have K6 := K6'; clear K6'
      have K8' : Hid (Below w8.heap.size w8 w16) := K8.out.trans (hb.mono K8.out.size)
      clear K8; have K8 := K8'; clear K8'
      have K13' : Hid (Below w13.heap.size w13 w16) := K13.out.trans (hb.mono K13.out.size)
      clear K13; have K13 := K13'; clear K13'
      have K14' : Hid (Below w14.heap.size w14 w16) := K14.out.trans (hb.mono K14.out.size)
      clear K14; have K14 := K14'; clear K14'
      clear hb HF
      go_wp2_with fail
      refine (tight_any Ato none (movedL D T2 kt).length 0 _).mono ?_
      rintro e w' ⟨rfl, rfl⟩
      clear K14 RRT K8 RVW
      have hf := chosen_nil c key (HIN.out.below KW.out (Nat.le_refl _)) KW.out.size (by have := HN.out; omega)
      rw [HPN.out.1, HPN.out.2, ← HN.out] at hf
      unfold Tells2 at hf
      have HF := Lib.hid hf; clear hf
      go_wp2_with fail
      refine HF.out.mono ?_
      rintro e w17 ⟨An, Al, rfl, hnl, hb⟩
      rw [← HN.out]
      have RNL := Lib.hid hnl
      have Z1617 : Hid (w16.heap.size ≤ w17.heap.size) := hb.size
      have Z1316 : Hid (w13.heap.size ≤ w16.heap.size) := K13.out.size
      have KW' := Lib.hid (KW.out.trans (hb.mono KW.out.size)); clear KW; have KW := KW'; clear KW'
      have K1' : Hid (Below w1.heap.size w1 w17) := K1.out.trans (hb.mono K1.out.size)
      clear K1; have K1 := K1'; clear K1'
      have K2' : Hid (Below w2.heap.size w2 w17) := K2.out.trans (hb.mono K2.out.size)
      clear K2; have K2 := K2'; clear K2'
      have K3' : Hid (Below w3.heap.size w3 w17) := K3.out.trans (hb.mono K3.out.size)
      clear K3; have K3 := K3'; clear K3'
      have K6' : Hid (Below w6.heap.size w6 w17) := K6.out.trans (hb.mono K6.out.size)
      clear K6; have K6 := K6'; clear K6'
      have K13' : Hid (Below w13.heap.size w13 w17) := K13.out.trans (hb.mono K13.out.size)
      clear K13; have K13 := K13'; clear K13'
      have K17 : Hid (Below w17.heap.size w17 w17) := Below.refl _ _
      clear hnl hb HF
      have hf := same_any D.length capm (RNL.out.rd2 K17.out) ((RM.out.new K2.out).rd) (Nat.le_refl _) (Nat.le_refl _) (by have := HD6.out; omega)
      rw [← HN.out] at hf
      have HF := Lib.hid hf; clear hf
      go_wp2_with fail
      refine HF.out.mono ?_
      rintro e w18 ⟨rfl, hb⟩
      have KW' := Lib.hid (KW.out.trans (hb.mono KW.out.size)); clear KW; have KW := KW'; clear KW'
      have K1' : Hid (Below w1.heap.size w1 w18) := K1.out.trans (hb.mono K1.out.size)
      clear K1; have K1 := K1'; clear K1'
      have K2' : Hid (Below w2.heap.size w2 w18) := K2.out.trans (hb.mono K2.out.size)
      clear K2; have K2 := K2'; clear K2'
      have K3' : Hid (Below w3.heap.size w3 w18) := K3.out.trans (hb.mono K3.out.size)
      clear K3; have K3 := K3'; clear K3'
      have K6' : Hid (Below w6.heap.size w6 w18) := K6.out.trans (hb.mono K6.out.size)
      clear K6; have K6 := K6'; clear K6'
      have K13' : Hid (Below w13.heap.size w13 w18) := K13.out.trans (hb.mono K13.out.size)
      clear K13; have K13 := K13'; clear K13'
      have K17' : Hid (Below w17.heap.size w17 w18) := K17.out.trans (hb.mono K17.out.size)
      clear K17; have K17 := K17'; clear K17'
      clear hb HF
      have r0 := RAB.out.r1.new K3.out; have r1 := RAB.out.r2.new K3.out; have r2 := RXY.out.r1.new K6.out; have r3 := RXY.out.r2.new K6.out; have r4 := RTO.out.new K13.out; have r5 := RNL.out.r2.new K17.out
      have R0 := Lib.hid r0
      have R1 := Lib.hid r1
      have R2 := Lib.hid r2
      have R3 := Lib.hid r3
      have R4 := Lib.hid r4
      have R5 := Lib.hid r5
      have hd : Duo w1 A (.slice Bm D.length capm) D w18 := ⟨K1.out, RM.out.new K2.out, (HIN.out.below KW.out (Nat.le_refl _)).more (by have := HS1.out; omega)⟩
      have HDU := Lib.hid hd
      have HLT : Hid ((∀ g, (Value.slice Bm D.length capm).ownBlock = some g → g < w2.heap.size) ∧ (∀ g, (Value.slice Aa T1.length T1.length).ownBlock = some g → w2.heap.size ≤ g ∧ g < w3.heap.size) ∧ (∀ g, (Value.slice Ab L1.length L1.length).ownBlock = some g → w2.heap.size ≤ g ∧ g < w3.heap.size) ∧ (∀ g, (Value.slice Ax T2.length T2.length).ownBlock = some g → w4.heap.size ≤ g ∧ g < w6.heap.size) ∧ (∀ g, (Value.slice Ay L2.length L2.length).ownBlock = some g → w4.heap.size ≤ g ∧ g < w6.heap.size) ∧ (∀ g, (Value.slice Ato (movedL D T2 kt).length (movedL D T2 kt).length).ownBlock = some g → w12.heap.size ≤ g ∧ g < w13.heap.size) ∧ (∀ g, (Value.slice Al D.length D.length).ownBlock = some g → w16.heap.size ≤ g ∧ g < w17.heap.size)) := ⟨fun g hg => (RM.out.lt g hg).2, RAB.out.r1.lt, RAB.out.r2.lt, fun g hg => by have := RXY.out.r1.lt g hg; have := HS5.out; omega, fun g hg => by have := RXY.out.r2.lt g hg; have := HS5.out; omega, RTO.out.lt, RNL.out.r2.lt⟩
      have HZ : Hid (w1.heap.size ≤ w2.heap.size ∧ w2.heap.size ≤ w3.heap.size ∧ w3.heap.size ≤ w4.heap.size ∧ w4.heap.size ≤ w6.heap.size ∧ w6.heap.size ≤ w12.heap.size ∧ w12.heap.size ≤ w13.heap.size ∧ w13.heap.size ≤ w16.heap.size ∧ w16.heap.size ≤ w17.heap.size) := ⟨Z12.out, Z23.out, Z34.out, (by have := Z46.out; omega), Z612.out, Z1213.out, Z1316.out, Z1617.out⟩
      have HAB : Hid (∀ g, (Value.slice Aa T1.length T1.length).ownBlock = some g → (Value.slice Ab L1.length L1.length).ownBlock ≠ some g) := RAB.out.ne
      have HXY : Hid (∀ g, (Value.slice Ax T2.length T2.length).ownBlock = some g → (Value.slice Ay L2.length L2.length).ownBlock ≠ some g) := RXY.out.ne
      have HLa := Lib.hid HLT.out.2.1; have HLb := Lib.hid HLT.out.2.2.1; have HLx := Lib.hid HLT.out.2.2.2.1; have HLy := Lib.hid HLT.out.2.2.2.2.1; have HLt := Lib.hid HLT.out.2.2.2.2.2.1; have HLl := Lib.hid HLT.out.2.2.2.2.2.2; have HLm := Lib.hid HLT.out.1
      clear r0 r1 r2 r3 r4 r5 hd HLT K1 K2 K3 K6 K13 K17 RAB RXY RTO RNL RM RI RR
      go_wp2_with fail
      refine (spoil_any R0.out).mono ?_
      rintro e w19 ⟨rfl, ht⟩
      have R1' := Lib.hid (R1.out.keep ht (fun g hg e => HAB.out g e hg)); clear R1; have R1 := R1'; clear R1'
      have R2' := Lib.hid (R2.out.keep ht (fun g hg e => by have := HLa.out g e; have := HLx.out g hg; have := HZ.out; omega)); clear R2; have R2 := R2'; clear R2'
      have R3' := Lib.hid (R3.out.keep ht (fun g hg e => by have := HLa.out g e; have := HLy.out g hg; have := HZ.out; omega)); clear R3; have R3 := R3'; clear R3'
      have R4' := Lib.hid (R4.out.keep ht (fun g hg e => by have := HLa.out g e; have := HLt.out g hg; have := HZ.out; omega)); clear R4; have R4 := R4'; clear R4'
      have R5' := Lib.hid (R5.out.keep ht (fun g hg e => by have := HLa.out g e; have := HLl.out g hg; have := HZ.out; omega)); clear R5; have R5 := R5'; clear R5'
      have HDU' := Lib.hid (HDU.out.keep ht (fun g e => ⟨by have := HLa.out g e; have := HZ.out; omega, fun hg => by have := HLa.out g e; have := HLm.out g hg; have := HZ.out; omega⟩)); clear HDU; have HDU := HDU'; clear HDU'
      clear ht R0
      go_wp2_with fail
      refine (spoil_any R1.out).mono ?_
      rintro e w20 ⟨rfl, ht⟩
      have R2' := Lib.hid (R2.out.keep ht (fun g hg e => by have := HLb.out g e; have := HLx.out g hg; have := HZ.out; omega)); clear R2; have R2 := R2'; clear R2'
      have R3' := Lib.hid (R3.out.keep ht (fun g hg e => by have := HLb.out g e; have := HLy.out g hg; have := HZ.out; omega)); clear R3; have R3 := R3'; clear R3'
      have R4' := Lib.hid (R4.out.keep ht (fun g hg e => by have := HLb.out g e; have := HLt.out g hg; have := HZ.out; omega)); clear R4; have R4 := R4'; clear R4'
      have R5' := Lib.hid (R5.out.keep ht (fun g hg e => by have := HLb.out g e; have := HLl.out g hg; have := HZ.out; omega)); clear R5; have R5 := R5'; clear R5'
      have HDU' := Lib.hid (HDU.out.keep ht (fun g e => ⟨by have := HLb.out g e; have := HZ.out; omega, fun hg => by have := HLb.out g e; have := HLm.out g hg; have := HZ.out; omega⟩)); clear HDU; have HDU := HDU'; clear HDU'
      clear ht R1
      go_wp2_with fail
      refine (spoil_any R2.out).mono ?_
      rintro e w21 ⟨rfl, ht⟩
      have R3' := Lib.hid (R3.out.keep ht (fun g hg e => HXY.out g e hg)); clear R3; have R3 := R3'; clear R3'
      have R4' := Lib.hid (R4.out.keep ht (fun g hg e => by have := HLx.out g e; have := HLt.out g hg; have := HZ.out; omega)); clear R4; have R4 := R4'; clear R4'
      have R5' := Lib.hid (R5.out.keep ht (fun g hg e => by have := HLx.out g e; have := HLl.out g hg; have := HZ.out; omega)); clear R5; have R5 := R5'; clear R5'
      have HDU' := Lib.hid (HDU.out.keep ht (fun g e => ⟨by have := HLx.out g e; have := HZ.out; omega, fun hg => by have := HLx.out g e; have := HLm.out g hg; have := HZ.out; omega⟩)); clear HDU; have HDU := HDU'; clear HDU'
      clear ht R2
      go_wp2_with fail
      refine (spoil_any R3.out).mono ?_
      rintro e w22 ⟨rfl, ht⟩
      have R4' := Lib.hid (R4.out.keep ht (fun g hg e => by have := HLy.out g e; have := HLt.out g hg; have := HZ.out; omega)); clear R4; have R4 := R4'; clear R4'
      have R5' := Lib.hid (R5.out.keep ht (fun g hg e => by have := HLy.out g e; have := HLl.out g hg; have := HZ.out; omega)); clear R5; have R5 := R5'; clear R5'
      have HDU' := Lib.hid (HDU.out.keep ht (fun g e => ⟨by have := HLy.out g e; have := HZ.out; omega, fun hg => by have := HLy.out g e; have := HLm.out g hg; have := HZ.out; omega⟩)); clear HDU; have HDU := HDU'; clear HDU'
      clear ht R3
      go_wp2_with fail
      refine (spoil_any R4.out).mono ?_
      rintro e w23 ⟨rfl, ht⟩
      have R5' := Lib.hid (R5.out.keep ht (fun g hg e => by have := HLt.out g e; have := HLl.out g hg; have := HZ.out; omega)); clear R5; have R5 := R5'; clear R5'
      have HDU' := Lib.hid (HDU.out.keep ht (fun g e => ⟨by have := HLt.out g e; have := HZ.out; omega, fun hg => by have := HLt.out g e; have := HLm.out g hg; have := HZ.out; omega⟩)); clear HDU; have HDU := HDU'; clear HDU'
      clear ht R4
      go_wp2_with fail
      rw [HN.out]
      refine (spoil_any R5.out).mono ?_
      rintro e w24 ⟨rfl, ht⟩
      have HDU' := Lib.hid (HDU.out.keep ht (fun g e => ⟨by have := HLl.out g e; have := HZ.out; omega, fun hg => by have := HLl.out g e; have := HLm.out g hg; have := HZ.out; omega⟩)); clear HDU; have HDU := HDU'; clear HDU'
      clear ht R5
      have hf := same_any c capm HDU.out.l (HDU.out.rd rfl) HDU.out.b.size (Nat.le_refl _) (by have := HD6.out; omega)
      have HF := Lib.hid hf; clear hf
      go_wp2_with fail
      refine HF.out.mono ?_
      rintro e w25 ⟨rfl, hb⟩
      have KB := Lib.hid (((HDU.out.b.trans (hb.mono HDU.out.b.size)).mono (show w.heap.size ≤ w1.heap.size by have := HS1.out; omega)))
      clear hb HF
      go_wp2_with fail
      refine (HL.out _).mono ?_
      rintro e w26 ⟨rfl, hb⟩
      have KB2 := Lib.hid (KB.out.trans (hb.mono (by have := KB.out.size; have := HS1.out; omega)))
      clear hb
      go_wp2_with fail
      go_ret
      exact ⟨rfl, HB01.out.trans KB2.out⟩
    · go_enter Try.func4, Try.ntmps4
      go_wp2_with fail
      refine (HL.out _).mono ?_
      rintro e w5 ⟨rfl, hb⟩
      have HB3 := Lib.hid ((below1 w _).trans (hb.mono (by simp)))
      clear hb
      go_wp2_with fail
      go_ret
      exact ⟨rfl, HB3.out⟩
  · go_enter Try.func4, Try.ntmps4
    go_wp2_with fail
    refine (HL.out _).mono ?_
    rintro e w5 ⟨rfl, hb⟩
    have HB3 := Lib.hid ((below1 w _).trans (hb.mono (by simp)))
    clear hb
    go_wp2_with fail
    go_ret
    exact ⟨rfl, HB3.out⟩
end Go.Proofs.Ytemdaafnmjenmaa
