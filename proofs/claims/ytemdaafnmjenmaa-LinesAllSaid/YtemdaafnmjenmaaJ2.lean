/- LinesAll's walk. -/
import Derived.Test.YtemdaafnmjenmaaJ1
import Derived.Test.YtemdaafnmjenmaaH1
namespace Go.Proofs.Ytemdaafnmjenmaa
open Go.RowKit

theorem drN2 {w w' : World} {B : Nat} (k : Nat) (h : Below B w w') : Below B w (w'.drewN k) := ⟨h.os, h.tape, h.output, h.size, h.block⟩
set_option maxHeartbeats 16000000 in
set_option maxRecDepth 100000 in
theorem law_all (A : Option Addr) (n c : Nat) (D : List Ent) (key kt : Int) (hn : n = D.length) (hc : n ≤ c) (hc2 : c ≤ 9223372036854775807) (w : World) (hin : Rd w w.heap.size A (flat D)) :
    Calls Try.prog 6 #[.slice A n c, .int .u32 key, .int .u32 kt] w fun e w' => e = .returned (.bool true) ∧ Below w.heap.size w w' := by
  have hl := lives_any
  have HL := Lib.hid hl; have HIN := Lib.hid hin; have HC := Lib.hid hc; have HC2 := Lib.hid hc2
  clear hl hin hc hc2
  by_cases h60 : n ≤ 60
  · obtain ⟨pt1, pt2⟩ := part_some_all key (n : Int) D (by omega)
    obtain ⟨pa1, pa2⟩ := part_all key D
    have hpl := part_len (fsome key) (n : Int) D
    have hs := some_any c key (n : Int) (by omega) (by omega) HIN.out (Nat.le_refl _) (by omega)
    have hix := idx_none key D
    have hrz := rest_zero D key
    have hrn := fun (R : List Ent) (i : Nat) (h : Rest D key i R) (hi : i < (D.filter (byKey key)).length) => rest_next h hi
    have hre := fun (R : List Ent) (h : Rest D key (D.filter (byKey key)).length R) => rest_end h
    rw [pt1, pt2] at hpl
    rw [pt1, pt2, ← hn] at hs
    unfold Tells2 at hs
    have hca := fun (x : World) (hl : Rd x w.heap.size A (flat D)) (hx : w.heap.size ≤ x.heap.size) => chosen_all c key hl hx (by omega)
    simp only [pa1, pa2] at hca
    obtain ⟨T, hT⟩ : ∃ T, T = D.filter (byKey key) := ⟨_, rfl⟩
    obtain ⟨L, hL⟩ : ∃ L, L = D.filter (notKey key) := ⟨_, rfl⟩
    rw [← hT, ← hL] at hpl hs
    simp only [← hT] at hrn hre hca
    simp only [← hL] at hre hca hix
    rw [← hn] at hpl
    have HS := Lib.hid hs; have HCA := Lib.hid hca; have HIX := Lib.hid hix; have HRZ := Lib.hid hrz; have HRN := Lib.hid hrn; have HRE := Lib.hid hre; have HN := Lib.hid hn
    have hTn : T.length ≤ 60 := by omega
    have hLn : L.length ≤ 60 := by omega
    have hD6 : D.length ≤ 60 := by omega
    have HPL := Lib.hid hpl
    clear hs hca hix hrz hrn hre pt1 pt2 pa1 pa2 hT hL hn
    go_enter Try.func6, Try.ntmps6
    go_wp2_with fail
    refine HS.out.mono ?_
    rintro e w1 ⟨Aa, Ab, rfl, hab, hb⟩
    have RAB := Lib.hid hab; have K1 := Lib.hid hb
    have hcc := HCA.out w1 (HIN.out.below hb (Nat.le_refl _)) hb.size
    rw [← HN.out] at hcc
    unfold Tells2 at hcc
    have HCC := Lib.hid hcc
    clear hab hb hcc
    go_wp2_with fail
    refine HCC.out.mono ?_
    rintro e w2 ⟨Ac, Ad, rfl, hcd, hb⟩
    have RCD := Lib.hid hcd
    have K12 := Lib.hid hb
    have K2 := Lib.hid (K1.out.trans (hb.mono K1.out.size))
    have hf := has_any L.length key (RAB.out.rd2 hb) (Nat.le_refl _) (by omega)
    rw [HIX.out] at hf
    have HF := Lib.hid hf
    clear hcd hb hf
    go_wp2_with fail
    refine HF.out.mono ?_
    rintro e w3 ⟨rfl, hb⟩
    have K23 := Lib.hid hb
    have K13 := Lib.hid (K12.out.trans (hb.mono K12.out.size))
    have K3 := Lib.hid (K2.out.trans (hb.mono K2.out.size))
    have FA := Lib.hid (RAB.out.rd1 K13.out); have FB := Lib.hid (RAB.out.rd2 K13.out); have FC := Lib.hid (RCD.out.rd1 hb); have FD := Lib.hid (RCD.out.rd2 hb)
    have HD6 := Lib.hid hD6
    clear hb HF HS HCC hpl
    go_wp2_with fail
    have hne := fun W e => neq36 e e W
    simp only [decide_true, Bool.not_true] at hne
    go_loopg [11, 12, 13, 14, 15] T.length (fun q s11 s12 s13 s14 s15 wx => ∃ (i : Nat) (R : List Ent) (Ar : Option Addr) (cr : Nat), i ≤ T.length ∧ q = T.length - i ∧ s12 = .int .i64 (i : Int) ∧ s11 = .slice Ar R.length cr ∧ Rest D key i R ∧ (R.length ≤ cr ∧ cr ≤ 9223372036854775807) ∧ Below w3.heap.size w3 wx ∧ Rd wx wx.heap.size Ar (flat R))
    case atStart => exact ⟨0, D, A, c, by omega, by omega, rfl, by rw [HN.out], HRZ.out, ⟨by have := HN.out; have := HC.out; omega, HC2.out⟩, Below.refl _ _, (HIN.out.below K3.out (Nat.le_refl _)).more K3.out.size⟩
    case round =>
      obtain ⟨i, R, Ar, cr, hi, rfl, rfl, rfl, hrest, ⟨hcr1, hcr2⟩, hb, hrd⟩ := hrel
      have HB := Lib.hid hb; have HREST := Lib.hid hrest; have HRD := Lib.hid hrd
      have hRl := rest_len hrest
      clear hb hrest hrd
      by_cases hiT : i < T.length
      · obtain ⟨j, hj, e1, e2, e3, hnext⟩ := HRN.out R i HREST.out hiT
        have HNX := Lib.hid hnext
        have hf := first_any cr key HRD.out (Nat.le_refl _) (by omega)
        rw [e1] at hf
        have HF := Lib.hid hf
        have hcu := fun (x : World) (hr : Rd x wr.heap.size Ar (flat R)) (hx : wr.heap.size ≤ x.heap.size) => cut_any cr (j : Int) hr hx (by omega) hcr1 hcr2
        unfold Cuts at hcu
        simp only [e2, e3] at hcu
        have HCU := Lib.hid hcu
        have hFl := rest_len hnext
        clear hf hcu hnext e1 e2 e3
        generalize cutL R (j : Int) = F at *
        generalize hx : T[i]! = x at *
        have HX := Lib.hid hx
        clear hx
        go_wp2_with fail
        refine HF.out.mono ?_
        rintro e w4 ⟨rfl, hb4⟩
        have hcut := HCU.out w4 (HRD.out.below hb4 (Nat.le_refl _)) hb4.size
        have HCUT := Lib.hid hcut; have HB4 := Lib.hid hb4
        clear hcut hb4 HF HCU
        go_wp2_with fail
        refine HCUT.out.mono ?_
        rintro e w5 ⟨A5, rfl, hr5, hb5⟩
        have hba := below1 w5 (.cells #[.int .i64 x.t, .int .u32 x.k, .int .u64 x.z] 36)
        have hna := heap_alloc_new w5 (.cells #[.int .i64 x.t, .int .u32 x.k, .int .u64 x.z] 36)
        have hall := (HB4.out.trans (hb5.mono HB4.out.size)).trans (hba.mono (Nat.le_trans HB4.out.size hb5.size))
        have hall3 := HB.out.trans (hall.mono HB.out.size)
        obtain ⟨g1, o1, rfl, _, a0, a1, a2⟩ := (FA.out.below hall3 (Nat.le_refl _)).ent (i := i) hiT
        obtain ⟨g3, o3, rfl, _, d0, d1, d2⟩ := (FC.out.below hall3 (Nat.le_refl _)).ent (i := i) hiT
        rw [HX.out] at a0 a1 a2 d0 d1 d2
        have x0 := cell_row hna 0
        have x1 := cell_row hna 1
        have x2 := cell_row hna 2
        have hr6 := (hr5.new hba).rd
        have HR6 := Lib.hid hr6; have H3 := Lib.hid hall3
        go_upto_region 12 with (fail)
        clear hr5 hb5 hba hna hall hall3 hr6
        generalize w5.alloc (.cells #[.int .i64 x.t, .int .u32 x.k, .int .u64 x.z] 36) = wz at *
        generalize w5.heap.size = X at *
        replace x0 : wz.cell? ⟨X, 0, none⟩ = some (.int .i64 x.t) := x0
        replace x1 : wz.cell? ⟨X, 1, none⟩ = some (.int .u32 x.k) := x1
        replace x2 : wz.cell? ⟨X, 2, none⟩ = some (.int .u64 x.z) := x2
        clear HCUT
        go_quiet (fail)
        go_wp2_with fail
        go_roundg (T.length - (i + 1))
        case measure => omega
        case rel => exact ⟨i + 1, F, A5, F.length, by omega, rfl, by go_num, rfl, HNX.out, ⟨Nat.le_refl _, by omega⟩, drN2 _ H3.out, HR6.out⟩
      · obtain rfl : i = T.length := by omega
        obtain rfl : R = L := HRE.out R HREST.out
        go_wp2_with fail
        have hmv := moved_any R.length T.length kt (FB.out.below HB.out (Nat.le_refl _)) (FA.out.below HB.out (Nat.le_refl _)) HB.out.size HB.out.size (by omega) (by omega)
        have hml : (movedL R T kt).length = n := by rw [moved_len]; have := HPL.out; omega
        unfold Tells at hmv
        rw [hml] at hmv
        have HMV := Lib.hid hmv; have HML := Lib.hid hml
        clear hmv hml
        refine HMV.out.mono ?_
        rintro e w7 ⟨Am, rfl, hrm, hb7⟩
        have hrm2 : Row w7 wr.heap.size 3 (.slice Am n n) (movedL R T kt).length (flat (movedL R T kt)) := hrm
        rw [HML.out] at hrm2
        have hfm : Rd w7 w7.heap.size Am (flat (movedL R T kt)) := hrm2.rd
        have K7 := Lib.hid (HB.out.trans (hb7.mono HB.out.size))
        have GR := Lib.hid (HRD.out.below hb7 (Nat.le_refl _))
        have FM := Lib.hid hfm
        have GB := Lib.hid (FB.out.below K7.out (Nat.le_refl _)); have GA := Lib.hid (FA.out.below K7.out (Nat.le_refl _)); have GD := Lib.hid (FD.out.below K7.out (Nat.le_refl _))
        have HZ : Hid (w3.heap.size ≤ w7.heap.size ∧ wr.heap.size ≤ w7.heap.size) := ⟨K7.out.size, hb7.size⟩
        have hPL := HPL.out
        clear hrm hrm2 hb7 hfm HMV HREST HRD
        go_wp2_with fail
        obtain ⟨wo, rfl⟩ : ∃ wo : World, wo = wr := ⟨_, rfl⟩
        go_loopg [17] n (fun q s17 wx => ∃ k : Nat, k ≤ n ∧ q = n - k ∧ s17 = .int .i64 (k : Int) ∧ Below w7.heap.size w7 wx)
        case atStart => exact ⟨0, by omega, by omega, rfl, Below.refl _ _⟩
        case round =>
          obtain ⟨k, hk, rfl, rfl, hb⟩ := hrel
          have HB8 := Lib.hid hb
          clear hb
          by_cases hkn : k < n
          · by_cases hkR : k < R.length
            · obtain ⟨g1, o1, hA1, _, a0, a1, a2⟩ := (FM.out.below HB8.out (Nat.le_refl _)).ent (i := k) (by have := HML.out; omega)
              obtain ⟨g2, o2, hA2, _, b0, b1, b2⟩ := (GB.out.below HB8.out HZ.out.1).ent (i := k) hkR
              obtain ⟨g3, o3, hA3, _, r0, r1, r2⟩ := (GR.out.below HB8.out HZ.out.2).ent (i := k) hkR
              obtain ⟨g4, o4, hA4, _, d0, d1, d2⟩ := (GD.out.below HB8.out HZ.out.1).ent (i := k) hkR
              subst hA1; subst hA2; subst hA3; subst hA4
              rw [moved_left hkR] at a0 a1 a2
              generalize R[k]! = x at *
              have hg1 : decide (k < R.length) = true := decide_eq_true hkR
              have hg2 : decide (R.length ≤ k) = false := decide_eq_false (by omega)
              go_upto_region 23 with (fail)
              simp only [List.append_eq, List.cons_append, List.nil_append]
              go_quiet (fail)
              go_wp2_with fail
              go_roundg (n - (k + 1))
              case measure => omega
              case rel => exact ⟨k + 1, by omega, rfl, by go_num, drN2 _ HB8.out⟩
            · obtain ⟨j, hkj⟩ : ∃ j, k = R.length + j := ⟨k - R.length, by omega⟩
              have hj : j < T.length := by omega
              have hmr := moved_right (L := R) (T := T) (kt := kt) hj
              rw [← hkj] at hmr
              have hsub : (k : Int) - (R.length : Int) = (j : Int) := by omega
              obtain ⟨g1, o1, hA1, _, a0, a1, a2⟩ := (FM.out.below HB8.out (Nat.le_refl _)).ent (i := k) (by have := HML.out; omega)
              obtain ⟨g5, o5, hA5, _, t0, t1, t2⟩ := (GA.out.below HB8.out HZ.out.1).ent (i := j) hj
              subst hA1; subst hA5
              rw [hmr] at a0 a1 a2
              dsimp only [re] at a0 a1 a2
              generalize T[j]! = x at *
              have hg1 : decide (k < R.length) = false := decide_eq_false hkR
              have hg2 : decide (R.length ≤ k) = true := decide_eq_true (by omega)
              clear hmr hkj
              go_upto_region 23 with (fail)
              simp only [List.append_eq, List.cons_append, List.nil_append]
              go_quiet (fail)
              go_wp2_with fail
              go_roundg (n - (k + 1))
              case measure => omega
              case rel => exact ⟨k + 1, by omega, rfl, by go_num, drN2 _ HB8.out⟩
          · obtain rfl : k = n := by omega
            go_wp2_with fail
            refine (HL.out _).mono ?_
            rintro e w9 ⟨rfl, hb9⟩
            have K9 : Below w.heap.size w w9 := ((K3.out.trans (K7.out.mono K3.out.size)).trans (HB8.out.mono (by have := K3.out.size; have := HZ.out.1; omega))).trans (hb9.mono (by have := K3.out.size; have := HZ.out.1; have := HB8.out.size; omega))
            have HK9 := Lib.hid K9
            clear K9 hb9
            go_wp2_with fail
            go_ret
            exact ⟨rfl, HK9.out⟩
  · go_enter Try.func6, Try.ntmps6
    go_wp2_with fail
    refine (HL.out _).mono ?_
    rintro e w5 ⟨rfl, hb⟩
    have HB3 := Lib.hid hb
    clear hb
    go_wp2_with fail
    go_ret
    exact ⟨rfl, HB3.out⟩
end Go.Proofs.Ytemdaafnmjenmaa
