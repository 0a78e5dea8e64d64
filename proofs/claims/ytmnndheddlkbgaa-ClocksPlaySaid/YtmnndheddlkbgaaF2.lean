/- ClocksPlay. -/
import Derived.Test.YtmnndheddlkbgaaF1
namespace Go.Proofs.Ytmnndheddlkbgaa
open Go.RowKit
set_option maxHeartbeats 8000000 in
set_option maxRecDepth 100000 in
theorem law_play (A0 : Option Addr) (c0 most : Nat) (D0 : List Nat) (p : Option Addr) (n c : Nat) (a : Acts) (hc0 : D0.length ≤ c0) (hc02 : c0 ≤ 9223372036854775807) (hmo : most ≤ 18446744073709551615) (hD0 : ∀ d ∈ D0, d ≤ 18446744073709551615) (hm : D0.length ≤ 300) (hn : n ≤ 100)
    (w : World) (hr0 : Rd w w.heap.size A0 D0) (hin : ActsIn w w.heap.size p n a) (hok : ActsOk w w.heap.size n a) :
    Calls Try.prog 3 #[.slice A0 D0.length c0, .int .u64 most, .slice p n c] w fun e w' => e = .returned (.bool true) ∧ Below w.heap.size w w' := by
  have ql := lives_any
  have hl0 : ([] : List Nat).length + D0.length ≤ 1000000 := by simp; omega
  have hrefl : D0.length = D0.length := rfl
  have QL := Lib.hid ql; have HR0 := Lib.hid hr0; have HIN := Lib.hid hin; have HOK := Lib.hid hok; have HDD := Lib.hid hD0; have HL0 := Lib.hid hl0; have HRF := Lib.hid hrefl
  clear ql hr0 hin hok hD0 hl0
  go_enter Try.func3, Try.ntmps3
  go_wp2_with (first
    | (at_builtin; refine wpList_append_row (base := w.heap.size) (v := .slice none 0 0) (D := []) rfl _ _ rfl (by rfl) (row_nil _ _) (Nat.le_refl _) _ (by rfl) HRF.out HR0.out HL0.out ?_; intro v1 w1 hr1 ht1 ho1; rw [List.nil_append] at hr1; obtain ⟨A1, cap1, hv1⟩ := hr1.shape; subst hv1))
  have b1 : Below w.heap.size w w1 := ht1.below (Nat.le_refl _) (fun k hk e => by simp [Value.ownBlock] at e)
  have hca := hr1.caps
  have hnw := new_any (w := w1) (A := A1) (D := D0) cap1 most hca.1 hca.2 hmo hr1.rd (Nat.le_refl _) HDD.out
  rw [List.take_of_length_le (by omega : D0.length ≤ 65536)] at hnw
  have hsp1 := hr1.spare
  have hlt1 := hr1.lt
  have HNW := Lib.hid hnw; have B1 := Lib.hid b1; have HSP1 := Lib.hid hsp1; have HLT1 := Lib.hid hlt1
  clear hnw b1 hsp1 hlt1 ht1 ho1 hr1 hca
  go_wp2_with fail
  refine HNW.out.mono ?_
  rintro e w2 hm2
  obtain ⟨B, rfl, hB, o2, b2⟩ := hm2.own
  have hs2 := HSP1.out.keeps (cap := cap1) (Keeps.of_below (P := fun k => k < w1.heap.size) b2 (fun k h => h)) (fun g hg => (HLT1.out g hg).2)
  have O2 := Lib.hid o2; have S2 := Lib.hid hs2; have B2 := Lib.hid (B1.out.trans (b2.mono B1.out.size))
  clear hm2 o2 hs2 b2 hB
  go_wp2_with fail
  go_loopg [9] D0.length (fun q s9 wx => ∃ k : Nat, k ≤ D0.length ∧ q = D0.length - k ∧ s9 = .int .i64 k ∧ Own wx w1.heap.size B 0 most D0 ∧ Below w.heap.size w wx ∧ Spare wx A1 D0.length)
  case atStart => exact ⟨0, by omega, rfl, rfl, O2.out, B2.out, S2.out⟩
  case round =>
    obtain ⟨k, hk, rfl, rfl, ho, hb, hsp⟩ := hrel
    by_cases hkn : k < D0.length
    · have hsp2 := hsp
      obtain ⟨g, o, rfl, hg, hc⟩ := hsp (by omega)
      obtain ⟨hc1, hf⟩ := hc k hkn
      obtain ⟨u, hu⟩ := Option.isSome_iff_exists.1 hc1
      have hgl := HLT1.out g rfl
      have t : Turns (fun j => j = g) wr (wr.setCell ⟨g, o + k, none⟩ (.int .u64 99)) := (Turns.refl _ wr).setCell _ _ rfl
      have ho2 := ho.far t (fun j e => by rw [e]; exact hgl.2)
      have hb2 := hb.trans (t.below (B := w.heap.size) hb.size (fun j hj e => by omega))
      have hs2 := hsp2.set ⟨g, o + k, none⟩ (.int .u64 99)
      have HO2 := Lib.hid ho2; have HB2 := Lib.hid hb2; have HS2 := Lib.hid hs2
      clear hsp2 hc hc1 t ho2 hb2 hs2 ho hb
      go_wp2_with fail
      go_roundg (D0.length - (k + 1))
      case measure => omega
      case rel => exact ⟨k + 1, by omega, rfl, by go_num, HO2.out, HB2.out, HS2.out⟩
    · have HO := Lib.hid ho; have HB := Lib.hid hb
      clear ho hb hsp
      have hsz1 : w1.heap.size ≤ wr.heap.size := HO.out.size
      have hrn := rnew_any (w := wr) (A := A0) (D := D0) c0 most hc0 hc02 hmo (HR0.out.below HB.out (Nat.le_refl _)) HB.out.size HDD.out
      rw [List.take_of_length_le (by omega : D0.length ≤ 65536)] at hrn
      have HRN := Lib.hid hrn
      clear hrn
      go_wp2_with fail
      refine HRN.out.mono ?_
      rintro e w3 hm3
      obtain ⟨R, rfl, d3, b3⟩ := duo_made (P := fun j => j < w.heap.size) (fun j hj => Nat.lt_of_lt_of_le hj B1.out.size) hsz1 HO.out hm3
      have D3 := Lib.hid d3; have B3 := Lib.hid (HB.out.trans (b3.mono HB.out.size))
      clear hm3 d3 b3 hsz1
      obtain ⟨wo, rfl⟩ : ∃ wo : World, wo = wr := ⟨_, rfl⟩
      go_wp2_with fail
      go_loopg [11] n (fun q s11 wx => ∃ (k T : Nat) (D : List Nat), k ≤ n ∧ q = n - k ∧ s11 = .int .i64 k ∧ Duo wx (fun j => j < w.heap.size) B R T T most D D ∧ Below w.heap.size w wx)
      case atStart => exact ⟨0, 0, D0, by omega, rfl, rfl, D3.out, B3.out⟩
      case round =>
        obtain ⟨k, T, D, hk, rfl, rfl, hdu, hb⟩ := hrel
        have DU := Lib.hid hdu; have BB := Lib.hid hb
        clear hdu hb
        by_cases hkn : k < n
        · obtain ⟨lb, lo, rfl, hlb, hcs⟩ := (HIN.out.below BB.out (Nat.le_refl _)) (by omega)
          obtain ⟨m0, m1, m2, m3, m4⟩ := hcs k hkn
          obtain ⟨hKl, hNl, hcl, hcl2, hrk, hLk⟩ := HOK.out k hkn
          have ba : Below wr.heap.size wr (wr.alloc (.cells #[.int .u8 (a.K k), .int .u64 (a.N k), .bool (a.on k), .int .u64 (a.U k), .slice (a.A k) (a.L k).length (a.c k)] 33)) := (Below.refl _ _).alloc (Nat.le_refl _) _
          have hx := ActAt.made (K := a.K k) (N := a.N k) (at_ := a.U k) (on := a.on k) (p := a.A k) (m := (a.L k).length) (c := a.c k) wr
          have hd := DU.out.add ba (fun j => j = wr.heap.size) (fun j e => ⟨by omega, by rw [e]; simp⟩)
          have AX := Lib.hid hx; have DX := Lib.hid hd; have BX := Lib.hid (BB.out.trans (ba.mono BB.out.size)); have HRK := Lib.hid hrk; have HLK := Lib.hid hLk; have HNN := Lib.hid hNl
          clear hcs ba hx hd hrk hLk
          go_upto_region 14 with (fail)
          generalize wr.alloc (.cells #[.int .u8 (a.K k), .int .u64 (a.N k), .bool (a.on k), .int .u64 (a.U k), .slice (a.A k) (a.L k).length (a.c k)] 33) = wz at *
          generalize wr.heap.size = X at *
          clear m0 m1 m2 m3 m4
          obtain ⟨hl, f0, f1, f2, f3, f4⟩ := AX.out
          by_cases hml : (a.L k).length ≤ 300
          · have tl : decide ((300 : Int) < ((a.L k).length : Int)) = false := by simp; omega
            go_upto_region 16 with (fail)
            by_cases hz : a.K k % 3 = 0
            · have t0 : (((a.K k : Nat) : Int) % 3 == 0) = true := by rw [beq_iff_eq]; omega
              clear hz tl
              go_wp2_with fail
              refine (duo_tick DX.out (a.N k) HNN.out).mono ?_
              rintro e w4 ⟨rfl, d4, k4⟩
              have D4 := Lib.hid d4; have X4 := Lib.hid (AX.out.keeps k4 (.inr rfl)); have B4 := Lib.hid (BX.out.trans (k4.below (fun j hj => .inl hj)))
              clear d4 k4 hl f0 f1 f2 f3 f4
              obtain ⟨hl, f0, f1, f2, f3, f4⟩ := X4.out
              go_wp2_with fail
              refine (duo_rtick D4.out (a.N k) HNN.out).mono ?_
              rintro e w5 ⟨rfl, d9, k5⟩
              have x9 := X4.out.keeps k5 (.inr rfl)
              have b9 := B4.out.trans (k5.below (B := w.heap.size) (fun j hj => .inl hj))
              clear k5 hl f0 f1 f2 f3 f4
              have D9 := Lib.hid d9; have X9 := Lib.hid x9; have B9 := Lib.hid b9
              clear d9 x9 b9
              obtain ⟨hl, f0, f1, f2, f3, f4⟩ := X9.out
              go_wp2_with fail
              refine (duo_same D9.out (a.K k) (a.N k) (a.U k) (a.on k) (a.A k) (a.L k).length (a.c k) HNN.out).mono ?_
              rintro e wt ⟨rfl, dt, bt⟩
              have Dt := Lib.hid (dt.weak (Q := fun j => j < w.heap.size) (fun j hj => .inl hj)); have Bt := Lib.hid (B9.out.trans (bt.mono B9.out.size))
              clear dt bt hl f0 f1 f2 f3 f4
              go_wp2_with fail
              go_roundg (n - (k + 1))
              case measure => omega
              case rel => exact ⟨k + 1, _, _, by omega, rfl, by go_num, Dt.out, Bt.out⟩
            · have t0 : (((a.K k : Nat) : Int) % 3 == 0) = false := by rw [beq_eq_false_iff_ne]; omega
              by_cases ho : a.K k % 3 = 1
              · have t1 : (((a.K k : Nat) : Int) % 3 == 1) = true := by rw [beq_iff_eq]; omega
                clear hz tl ho
                cases D with
                | nil =>
                  go_wp2_with fail
                  refine (duo_draw_none DX.out).mono ?_
                  rintro e w4 ⟨rfl, rfl⟩
                  go_wp2_with fail
                  refine (duo_rdraw_none DX.out).mono ?_
                  rintro e w5 ⟨rfl, rfl⟩
                  have d9 := DX.out
                  have x9 := AX.out
                  have b9 := BX.out
                  clear hl f0 f1 f2 f3 f4
                  have D9 := Lib.hid d9; have X9 := Lib.hid x9; have B9 := Lib.hid b9
                  clear d9 x9 b9
                  obtain ⟨hl, f0, f1, f2, f3, f4⟩ := X9.out
                  go_wp2_with fail
                  refine (duo_same D9.out (a.K k) (a.N k) (a.U k) (a.on k) (a.A k) (a.L k).length (a.c k) HNN.out).mono ?_
                  rintro e wt ⟨rfl, dt, bt⟩
                  have Dt := Lib.hid (dt.weak (Q := fun j => j < w.heap.size) (fun j hj => .inl hj)); have Bt := Lib.hid (B9.out.trans (bt.mono B9.out.size))
                  clear dt bt hl f0 f1 f2 f3 f4
                  go_wp2_with fail
                  go_roundg (n - (k + 1))
                  case measure => omega
                  case rel => exact ⟨k + 1, _, _, by omega, rfl, by go_num, Dt.out, Bt.out⟩
                | cons d D' =>
                  have hdr := duo_draw DX.out
                  have hrd := fun W (h : Duo W (fun j => j < w.heap.size ∨ j = X) B R T T most D' (d :: D')) => duo_rdraw h
                  have HDR := Lib.hid hdr; have HRD := Lib.hid hrd
                  clear hdr hrd
                  generalize brt d most = y at *
                  have ty : ((y : Int) != (y : Int)) = false := by simp
                  go_wp2_with fail
                  refine HDR.out.mono ?_
                  rintro e w4 ⟨rfl, d4, k4⟩
                  have D4 := Lib.hid d4; have X4 := Lib.hid (AX.out.keeps k4 (.inr rfl)); have B4 := Lib.hid (BX.out.trans (k4.below (fun j hj => .inl hj)))
                  clear d4 k4 hl f0 f1 f2 f3 f4
                  go_wp2_with fail
                  refine (HRD.out _ D4.out).mono ?_
                  rintro e w5 ⟨rfl, d9, k5⟩
                  have x9 := X4.out.keeps k5 (.inr rfl)
                  have b9 := B4.out.trans (k5.below (B := w.heap.size) (fun j hj => .inl hj))
                  clear k5
                  have D9 := Lib.hid d9; have X9 := Lib.hid x9; have B9 := Lib.hid b9
                  clear d9 x9 b9
                  obtain ⟨hl, f0, f1, f2, f3, f4⟩ := X9.out
                  go_wp2_with fail
                  refine (duo_same D9.out (a.K k) (a.N k) (a.U k) (a.on k) (a.A k) (a.L k).length (a.c k) HNN.out).mono ?_
                  rintro e wt ⟨rfl, dt, bt⟩
                  have Dt := Lib.hid (dt.weak (Q := fun j => j < w.heap.size) (fun j hj => .inl hj)); have Bt := Lib.hid (B9.out.trans (bt.mono B9.out.size))
                  clear dt bt hl f0 f1 f2 f3 f4
                  go_wp2_with fail
                  go_roundg (n - (k + 1))
                  case measure => omega
                  case rel => exact ⟨k + 1, _, _, by omega, rfl, by go_num, Dt.out, Bt.out⟩
              · have t1 : (((a.K k : Nat) : Int) % 3 == 1) = false := by rw [beq_eq_false_iff_ne]; omega
                clear hz tl ho
                have hrf : (a.L k).length = (a.L k).length := rfl
                have hl4 : ([] : List Nat).length + (a.L k).length ≤ 1000000 := by simp; omega
                have hrz := HRK.out.below BX.out (Nat.le_refl _)
                have HRF4 := Lib.hid hrf; have HL4 := Lib.hid hl4; have HRZ := Lib.hid hrz
                clear hl4 hrz
                go_wp2_with (first
                  | (at_builtin; refine wpList_append_row (base := wz.heap.size) (v := .slice none 0 0) (D := []) rfl _ _ rfl (by rfl) (row_nil _ _) (Nat.le_refl _) _ (by rfl) HRF4.out HRZ.out HL4.out ?_; intro v4 w4 hr4 ht4 ho4; rw [List.nil_append] at hr4; obtain ⟨A4, cap4, hv4⟩ := hr4.shape; subst hv4))
                have b4 : Below wz.heap.size wz w4 := ht4.below (Nat.le_refl _) (fun j hj e => by simp [Value.ownBlock] at e)
                obtain ⟨P2, d4, hP0, hPX, hPd⟩ : ∃ P2 : Nat → Prop, Duo w4 P2 B R T T most D D ∧ (∀ j, j < w.heap.size → P2 j) ∧ P2 X ∧ (∀ g, (Value.slice A4 (a.L k).length cap4).ownBlock = some g → P2 g) :=
                  ⟨_, DX.out.add b4 (fun j => (Value.slice A4 (a.L k).length cap4).ownBlock = some j) (fun j e => hr4.lt j e), fun j hj => .inl (.inl hj), .inl (.inr rfl), fun g hg => .inr hg⟩
                have hca4 := hr4.caps
                obtain ⟨F, hF⟩ : ∃ F, F = D ++ (a.L k).take (65536 - D.length) := ⟨_, rfl⟩
                have hmo4 := duo_more d4 cap4 hca4.1 hca4.2 hr4.rd HLK.out
                rw [← hF] at hmo4
                have hsp4 := hr4.spare
                have hlt4 : ∀ g, (Value.slice A4 (a.L k).length cap4).ownBlock = some g → wz.heap.size ≤ g := fun g hg => (hr4.lt g hg).1
                have X4 := Lib.hid (AX.out.new b4); have B4 := Lib.hid (BX.out.trans (b4.mono BX.out.size)); have HF := Lib.hid hF; have HMO := Lib.hid hmo4; have SP4 := Lib.hid hsp4; have HLT4 := Lib.hid hlt4; have HP0 := Lib.hid hP0; have HPX := Lib.hid hPX; have HPD := Lib.hid hPd
                have hXz := AX.out.lt
                have hzs := BX.out.size
                clear hl f0 f1 f2 f3 f4 ht4 ho4 hr4 b4 d4 hP0 hPX hPd hca4 hF hmo4 hsp4 hlt4
                go_wp2_with fail
                refine HMO.out.mono ?_
                rintro e w5 ⟨rfl, d5, k5⟩
                have D5 := Lib.hid d5; have X5 := Lib.hid (X4.out.keeps k5 HPX.out); have B5 := Lib.hid (B4.out.trans (k5.below HP0.out)); have SP5 := Lib.hid (SP4.out.keeps k5 HPD.out)
                clear d5 k5
                obtain ⟨wo2, rfl⟩ : ∃ wo2 : World, wo2 = wr := ⟨_, rfl⟩
                go_wp2_with fail
                go_loopg [14] (a.L k).length (fun q s14 wx => ∃ j : Nat, j ≤ (a.L k).length ∧ q = (a.L k).length - j ∧ s14 = .int .i64 j ∧ Duo wx P2 B R T T most F D ∧ Below w.heap.size w wx ∧ ActAt wx X (a.K k) (a.N k) (a.U k) (a.on k) (a.A k) (a.L k).length (a.c k) ∧ Spare wx A4 (a.L k).length)
                case atStart => exact ⟨0, by omega, rfl, rfl, D5.out, B5.out, X5.out, SP5.out⟩
                case round =>
                  obtain ⟨j, hj, rfl, rfl, hd5, hb5, hx5, hs5⟩ := hrel
                  by_cases hjn : j < (a.L k).length
                  · have hs5b := hs5
                    obtain ⟨g, o, rfl, hg, hc⟩ := hs5 (by omega)
                    obtain ⟨hc1, hf⟩ := hc j hjn
                    obtain ⟨u, hu⟩ := Option.isSome_iff_exists.1 hc1
                    have hgl := HLT4.out g rfl
                    have t : Turns (fun i => i = g) wr (wr.setCell ⟨g, o + j, none⟩ (.int .u64 98)) := (Turns.refl _ wr).setCell _ _ rfl
                    have hd6 := hd5.turn t (fun i e => by rw [e]; exact HPD.out g rfl)
                    have hb6 := hb5.trans (t.below (B := w.heap.size) hb5.size (fun i hi e => by omega))
                    have hx6 := hx5.keeps (Keeps.of_turns (P := fun i => i = X) t (fun i e => ⟨by rw [e]; exact hx5.lt, by omega⟩)) rfl
                    have hs6 := hs5b.set ⟨g, o + j, none⟩ (.int .u64 98)
                    have HD6 := Lib.hid hd6; have HB6 := Lib.hid hb6; have HX6 := Lib.hid hx6; have HS6 := Lib.hid hs6
                    clear hs5b hc hc1 t hd6 hb6 hx6 hs6 hd5 hb5 hx5
                    go_wp2_with fail
                    go_roundg ((a.L k).length - (j + 1))
                    case measure => omega
                    case rel => exact ⟨j + 1, by omega, rfl, by go_num, HD6.out, HB6.out, HX6.out, HS6.out⟩
                  · have hrm := duo_rmore hd5 (a.c k) hcl hcl2 (HRK.out.below hb5 (Nat.le_refl _)) hb5.size HLK.out
                    rw [← HF.out] at hrm
                    have HRM := Lib.hid hrm; have X6 := Lib.hid hx5; have B6 := Lib.hid hb5
                    clear hrm hd5 hb5 hx5 hs5
                    obtain ⟨hl, f0, f1, f2, f3, f4⟩ := X6.out
                    go_wp2_with fail
                    refine HRM.out.mono ?_
                    rintro e w7 ⟨rfl, d7, k7⟩
                    have d9 := d7.weak (Q := fun j => j < w.heap.size ∨ j = X) (fun j hj => by
                      rcases hj with hj | hj
                      · exact HP0.out j hj
                      · rw [hj]; exact HPX.out)
                    have x9 := X6.out.keeps k7 HPX.out
                    have b9 := B6.out.trans (k7.below HP0.out)
                    clear d7 k7 hl f0 f1 f2 f3 f4
                    have D9 := Lib.hid d9; have X9 := Lib.hid x9; have B9 := Lib.hid b9
                    clear d9 x9 b9
                    obtain ⟨hl, f0, f1, f2, f3, f4⟩ := X9.out
                    go_wp2_with fail
                    refine (duo_same D9.out (a.K k) (a.N k) (a.U k) (a.on k) (a.A k) (a.L k).length (a.c k) HNN.out).mono ?_
                    rintro e wt ⟨rfl, dt, bt⟩
                    have Dt := Lib.hid (dt.weak (Q := fun j => j < w.heap.size) (fun j hj => .inl hj)); have Bt := Lib.hid (B9.out.trans (bt.mono B9.out.size))
                    clear dt bt hl f0 f1 f2 f3 f4
                    go_wp2_with fail
                    go_roundg (n - (k + 1))
                    case measure => omega
                    case rel => exact ⟨k + 1, _, _, by omega, rfl, by go_num, Dt.out, Bt.out⟩
          · have tl : decide ((300 : Int) < ((a.L k).length : Int)) = true := by simp; omega
            go_wp2_with fail
            refine (QL.out _).mono ?_
            rintro e w8 ⟨rfl, b8⟩
            have B8 := Lib.hid (BX.out.trans (b8.mono BX.out.size))
            clear b8
            go_wp2_with fail
            go_ret
            exact ⟨rfl, B8.out⟩
        · obtain rfl : k = n := by omega
          go_wp2_with fail
          refine (QL.out _).mono ?_
          rintro e w8 ⟨rfl, b8⟩
          have B8 := Lib.hid (BB.out.trans (b8.mono BB.out.size))
          clear b8
          go_wp2_with fail
          go_ret
          exact ⟨rfl, B8.out⟩
end Go.Proofs.Ytmnndheddlkbgaa
