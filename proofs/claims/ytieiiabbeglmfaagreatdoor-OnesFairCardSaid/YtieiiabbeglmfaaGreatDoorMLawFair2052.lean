/- Texts of this seat, one behind the other. -/
import Derived.Test.YtieiiabbeglmfaaGreatDoorMLawFair201
import Derived.Test.YtieiiabbeglmfaaGreatDoorMLawFair2051
import Derived.Deep.RegionLaw
import Derived.Deep.RegionHeld
set_option linter.unusedVariables false
set_option linter.unusedSimpArgs false
set_option linter.unusedVariables false
set_option linter.unusedSimpArgs false
namespace Go.Proofs.YtieiiabbeglmfaaGreatDoor.S19
set_option maxRecDepth 100000
set_option maxHeartbeats 16000000
open Go.Proofs.YtieiiabbeglmfaaGreatDoor Go.Proofs.YtieiiabbeglmfaaGreatDoor.S11 Go.Proofs.YtieiiabbeglmfaaGreatDoor.S12 Go.Proofs.YtieiiabbeglmfaaGreatDoor.S13 Go.Proofs.YtieiiabbeglmfaaGreatDoor.S14 Go.Proofs.YtieiiabbeglmfaaGreatDoor.S15 Go.Proofs.YtieiiabbeglmfaaGreatDoor.S16 Go.Proofs.YtieiiabbeglmfaaGreatDoor.S18
open Go.RowKit
theorem eqTm (a : Int) (w : World) : (binOp .eql 100 (.agg #[.int .u64 a, .int .u64 0]) (.agg #[.int .u64 a, .int .u64 0])).run Tryz.prog w = .ok (.bool true) w := by go_simp
theorem fldR (m th : Int) (mo fa : Bool) (w : World) : (Instr.field 69 (.agg #[.int .i64 m, .int .i64 0, .bool mo, .bool fa, .int .i64 th]) 3).run Tryz.prog w = .ok (.bool fa) w := by first | kernel_rfl | go_simp
abbrev hF (p0 p1 : Part) (PB TB pi at' : Nat) : List Part := [p0, p1, rowsP [(PB, .cells #[.int .i64 2, .int .i64 (pi : Int)] 97 (0, 0))], rowsP [(TB, .cells #[.int .u64 (at' : Int), .int .u64 0] 100 (0, 0))]]
section
variable {w0 w w' : World} {base WB : Nat} {M : Sd} {L : List Rows} {p0 p1 : Part} {PB TB pi at' : Nat}
theorem hF_c (h : AllS w0 w base WB M (hF p0 p1 PB TB pi at') L) {v : Value} (hv : w.cell? ⟨WB, 4, none⟩ = some v) : w.cell? ⟨WB, 4, none⟩ = some v ∧ w.cell? ⟨PB, 0, none⟩ = some (.int .i64 2) ∧ w.cell? ⟨PB, 1, none⟩ = some (.int .i64 (pi : Int)) ∧ w.cell? ⟨TB, 0, none⟩ = some (.int .u64 (at' : Int)) ∧ w.cell? ⟨TB, 1, none⟩ = some (.int .u64 0) := by
  have h2 := (h.partH (a := 2) rfl).1 (PB, _) List.mem_cons_self
  have h3 := (h.partH (a := 3) rfl).1 (TB, _) List.mem_cons_self
  exact ⟨hv, cell_row h2 0, cell_row h2 1, cell_row h3 0, cell_row h3 1⟩
end
theorem law_fair {z0 z1 z2 : Nat} {Q : Bool} (w : World) (hT : Tab w) (hb0 : 0 < w.heap.size) (hz0 : z0 < 18446744073709551616) (hz1 : z1 < 18446744073709551616) (hz2 : z2 < 18446744073709551616) :
    Calls Tryz.prog 6 #[.agg #[.int .u64 (z0 : Int), .int .u64 (z1 : Int), .int .u64 (z2 : Int)], .bool Q] w fun e w' => e = .returned (.bool true) ∧ Below w.heap.size w w' := by
  have HLV : Hid (∀ W, Below w.heap.size w W → Calls Tryz.prog 26 #[] W fun e w' => e = .returned (.bool true) ∧ Below W.heap.size W w') := Lib.hid (fun W hW => lives19 W (hT.below hW hb0) (Nat.lt_of_lt_of_le hb0 hW.size))
  have HTW := Lib.hid (And.intro hT hb0)
  have HB0 := Lib.hid (below1 w (.cells #[.int .u64 (z0 : Int), .int .u64 (z1 : Int), .int .u64 (z2 : Int)] 92))
  have hn := heap_alloc_new w (.cells #[.int .u64 (z0 : Int), .int .u64 (z1 : Int), .int .u64 (z2 : Int)] 92)
  obtain ⟨ZB, hZB⟩ : ∃ ZB, ZB = w.heap.size := ⟨_, rfl⟩
  rw [← hZB] at hn
  have HZB := Lib.hid hZB
  have HNW := Lib.hid (fun (W : World) => @new_fair (W.alloc (.cells #[.int .u64 (z2 : Int)] 23)) W.heap.size z2 23 (heap_alloc_new W _) (by omega))
  obtain ⟨at', hat⟩ : ∃ at', at' = z0 % 1099511627776 := ⟨_, rfl⟩
  obtain ⟨now', hnow⟩ : ∃ now', now' = z1 % 1099511627776 := ⟨_, rfl⟩
  have m1 : (z0 : Int).tmod 1099511627776 = (at' : Int) := by rw [Int.tmod_eq_emod_of_nonneg (by omega)]; omega
  have m1' : (z0 : Int) % 1099511627776 = (at' : Int) := by omega
  have m2 : IntKind.u64.wrap (at' : Int) = (at' : Int) := by rw [IntKind.wrap_u64]; omega
  have m3 : (z1 : Int).tmod 1099511627776 = (now' : Int) := by rw [Int.tmod_eq_emod_of_nonneg (by omega)]; omega
  have m3' : (z1 : Int) % 1099511627776 = (now' : Int) := by omega
  have m4 : IntKind.u64.wrap (now' : Int) = (now' : Int) := by rw [IntKind.wrap_u64]; omega
  have HLT := Lib.hid (And.intro (show at' < 1099511627776 by omega) (show now' < 1099511627776 by omega))
  clear hZB hT hb0 hat hnow hz0 hz1 hz2
  go_enter Tryz.func6, Tryz.ntmps6
  go_upto_region 1 with fail
  rw [← HZB.out]
  generalize w.alloc (.cells #[.int .u64 (z0 : Int), .int .u64 (z1 : Int), .int .u64 (z2 : Int)] 92) = wz at *
  have c0 := cell_row hn 0; have c1 := cell_row hn 1; have c2 := cell_row hn 2
  go_upto_region 5 with (go_at_call 32; refine (HNW.out _).mono ?_; rintro e w2 ⟨X, rfl, hp, h0, hb2⟩; have HX := Lib.hid (And.intro hp (And.intro h0 hb2)); clear hp h0 hb2)
  clear c0 c1 c2 hn HNW
  have hbd := below1 wz (.cells #[.int .u64 (z2 : Int)] 23)
  have HBD := Lib.hid (HB0.out.trans (hbd.mono HB0.out.size))
  clear hbd
  generalize wz.alloc (.cells #[.int .u64 (z2 : Int)] 23) = wd at *
  have hpg := pg_of HX.out.1 HX.out.2.2
  rw [at0_d HX.out.2.1] at hpg
  obtain ⟨WB, hWB⟩ : ∃ WB, WB = X.wB := ⟨_, rfl⟩
  rw [← hWB] at hpg
  rw [← hWB]
  have h1 := ((((AllS.first hpg).addH noP (Below.refl _ _) trivial (fun k e => e.elim)).addH noP (Below.refl _ _) trivial (fun k e => e.elim)).addH noP (Below.refl _ _) trivial (fun k e => e.elim)).addH noP (Below.refl _ _) trivial (fun k e => e.elim)
  have H1 : Hid (AllS wd w2 wd.heap.size WB (sdD z2) [noP, noP, noP, noP] []) := Lib.hid h1
  have HT : Hid (Tab wd ∧ 0 < wd.heap.size) := Lib.hid ⟨HTW.out.1.below HBD.out HTW.out.2, Nat.lt_of_lt_of_le HTW.out.2 HBD.out.size⟩
  have HLW : Hid (∀ W, Below wd.heap.size wd W → Calls Tryz.prog 26 #[] W fun e w' => e = .returned (.bool true) ∧ Below w.heap.size w w') := Lib.hid (fun W hW => (HLV.out W (HBD.out.trans (hW.mono HBD.out.size))).mono (fun e w' h => ⟨h.1, (HBD.out.trans (hW.mono HBD.out.size)).trans (h.2.mono (HBD.out.trans (hW.mono HBD.out.size)).size)⟩))
  clear h1 hpg hWB HX HLV HTW HBD HB0 HZB
  obtain ⟨pi, hpi⟩ : ∃ pi, pi = bktN 1152 2 := ⟨_, rfl⟩
  have HPI : Hid (pi < 4) := Lib.hid (by rw [hpi]; exact bkt4 1152)
  have HPE := Lib.hid hpi
  have HPL : Hid (∀ W, Calls Tryz.prog 33 #[.int .u32 1152, .int .u64 2] W fun e w' => e = .returned (.agg #[.int .i64 2, .int .i64 (pi : Int)]) ∧ Below W.heap.size W w') := Lib.hid (fun W => by
    have := place_any 1152 2 (by omega) (by omega) W
    unfold placeV at this
    rw [bits2, ← HPE.out] at this
    exact this)
  clear hpi
  go_upto_region 7 with fail
  cases Q
  · go_upto_region 9 with fail
    have HA := Lib.hid H1.out
    obtain ⟨M, hM⟩ : ∃ M, M = sdD z2 := ⟨_, rfl⟩
    have HWN : Hid (Wn M (fun _ => []) (fun _ => 0) 0 20) := Lib.hid (by rw [hM]; exact (wnD z2).mono (by omega))
    have HDM : Hid (M.D = [z2] ∧ M.most = 9) := Lib.hid (by rw [hM]; exact ⟨rfl, rfl⟩)
    have HQQ : Hid (∀ i, (fun _ => [] : Nat → List S10.Ent) i = []) := Lib.hid (fun _ => rfl)
    have HQL : Hid (∀ i, ((fun _ => [] : Nat → List S10.Ent) i).length ≤ 100) := Lib.hid (fun _ => by simp)
    rw [← hM] at HA
    clear hM H1
    obtain ⟨p0, hp0⟩ : ∃ p0, p0 = noP := ⟨_, rfl⟩
    obtain ⟨p1, hp1⟩ : ∃ p1, p1 = noP := ⟨_, rfl⟩
    have HA : Hid (AllS wd w2 wd.heap.size WB M [p0, p1, noP, noP] []) := Lib.hid (by rw [hp0, hp1]; exact HA.out)
    clear hp0 hp1
    obtain ⟨L, hL⟩ : ∃ L : List Rows, L = [] := ⟨_, rfl⟩
    rw [← hL] at HA
    clear hL
    generalize (fun _ => [] : Nat → List S10.Ent) = q at *
    obtain ⟨wo, rfl⟩ : ∃ wo : World, wo = w2 := ⟨_, rfl⟩
    go_upto_region 10 with (go_at_call 33; refine (HPL.out _).mono ?_; rintro e w4 ⟨rfl, hb4⟩; have H4a := Lib.hid (HA.out.new hb4); clear hb4)
    have h4 := H4a.out.setB (a := 2) rfl (.cells #[.int .i64 2, .int .i64 (pi : Int)] 97)
    obtain ⟨PB, hPB⟩ : ∃ PB, PB = w4.heap.size := ⟨_, rfl⟩
    rw [← hPB] at h4 ⊢
    have H4 : Hid (AllS wd _ wd.heap.size WB M [p0, p1, rowsP [(PB, .cells #[.int .i64 2, .int .i64 (pi : Int)] 97)], noP] L) := Lib.hid h4
    clear h4 hPB H4a
    generalize w4.alloc (.cells #[.int .i64 2, .int .i64 (pi : Int)] 97) = w4b at *
    go_upto_region 11 with fail
    have h5 := H4.out.setB (a := 3) rfl (.cells #[.int .u64 (at' : Int), .int .u64 0] 100)
    obtain ⟨TB, hTB⟩ : ∃ TB, TB = w4b.heap.size := ⟨_, rfl⟩
    rw [← hTB] at h5 ⊢
    have H5 : Hid (AllS wd _ wd.heap.size WB M (hF p0 p1 PB TB pi at') L) := Lib.hid h5
    clear h5 hTB H4
    generalize w4b.alloc (.cells #[.int .u64 (at' : Int), .int .u64 0] 100) = w5 at *
    obtain ⟨ts, hts⟩ := H5.out.putT (ni := pi) (by rw [HWN.out.len]; exact HPI.out)
    obtain ⟨MP, hMP⟩ : ∃ MP : Sd, MP = { M with m := S10.upd M.m 2 ((M.m 2).set pi { (M.m 2)[pi]! with a := (at' : Int), f := 0 }) } := ⟨_, rfl⟩
    have HPT : Hid (∀ W, Below w5.heap.size w5 W → Calls Tryz.prog 34 #[ts, .agg #[.int .i64 2, .int .i64 (pi : Int)], .agg #[.int .u64 (at' : Int), .int .u64 0]] W fun e w' => e = .returned (.bool true) ∧ AllS wd w' wd.heap.size WB MP (hF p0 p1 PB TB pi at') L ∧ w'.cell? ⟨WB, 4, none⟩ = some ts) := Lib.hid (fun W hb => by rw [hMP]; exact (hts W hb).2 (at' : Int) 0)
    have HWP : Hid (Wn MP q (fun i => if i = pi then (at' : Int) else 0) 0 20) := Lib.hid (by rw [hMP]; exact HWN.out.putT HPI.out _ _)
    have HDP : Hid (MP.D = [z2] ∧ MP.most = 9 ∧ (MP.m 2)[pi]!.a = (at' : Int) ∧ (MP.m 2)[pi]!.f = 0) := Lib.hid (by
      have e2 : MP.m 2 = (M.m 2).set pi { (M.m 2)[pi]! with a := (at' : Int), f := 0 } := by rw [hMP]; exact S10.upd_same M.m 2 _
      have e3 : (MP.m 2)[pi]! = { (M.m 2)[pi]! with a := (at' : Int), f := 0 } := by rw [e2, getElem!_pos _ pi (by rw [List.length_set, HWN.out.len]; exact HPI.out), List.getElem_set_self]
      refine ⟨by rw [hMP]; exact HDM.out.1, by rw [hMP]; exact HDM.out.2, by rw [e3], by rw [e3]⟩)
    clear hMP
    have HC4 := Lib.hid (fun W hb => hF_c (H5.out.new hb) (hts W hb).1)
    clear hts
    refine wp_region_held_drew (S := fun w' => w'.cell? ⟨WB, 4, none⟩ = some ts ∧ w'.cell? ⟨PB, 0, none⟩ = some (.int .i64 2) ∧ w'.cell? ⟨PB, 1, none⟩ = some (.int .i64 (pi : Int)) ∧ w'.cell? ⟨TB, 0, none⟩ = some (.int .u64 (at' : Int)) ∧ w'.cell? ⟨TB, 1, none⟩ = some (.int .u64 0)) (by kernel_rfl) ?_ (fun hHeld => ?_)
    · exact (HC4.out _ (Below.refl _ _).drew)
    refine tA 0 ⟨some 46, .move (.tmp 8), 24, "outright.go:110", #[], none⟩ ?vfax1m1 ?rfax1m1
    (try simp only [Act.put, tC, tD, tE])
    refine tA 1 ⟨some 47, .nilCheck (.tmp 46), 0, "outright.go:110", #[⟨0, .data⟩], none⟩ ?vfax1m2 ?rfax1m2
    (try simp only [Act.put, tC, tD, tE])
    refine tA 2 ⟨some 48, .fieldAddr 47 (.tmp 47) 4, 0, "outright.go:110", #[⟨1, .data⟩], none⟩ ?vfax1m3 ?rfax1m3
    (try simp only [Act.put, tC, tD, tE])
    refine tA 3 ⟨some 49, .load 43 (.tmp 48), 43, "outright.go:110", #[⟨2, .data⟩], none⟩ ?vfax1m4 ?rfax1m4
    (try simp only [Act.put, tC, tD, tE])
    refine tA 4 ⟨some 50, .load 97 (.tmp 10), 97, "outright.go:110", #[], none⟩ ?vfax1m5 ?rfax1m5
    (try simp only [Act.put, tC, tD, tE])
    refine tA 5 ⟨some 51, .load 100 (.tmp 11), 100, "outright.go:110", #[], none⟩ ?vfax1m6 ?rfax1m6
    (try simp only [Act.put, tC, tD, tE])
    refine wpAnyH_ready (rs := [6]) (by kernel_rfl) (by simp) ?_
    refine AllReadyH.cons (o := ⟨some 52, .call ⟨.value (.func 34), #[.tmp 49, .tmp 50, .tmp 51], #[43, 97, 100]⟩, 4, "outright.go:110", #[⟨3, .data⟩, ⟨4, .data⟩, ⟨5, .data⟩], none⟩) rfl (fun Kq hKq => ?_) AllReadyH.nil
    go_simp
    (refine (HPT.out _ (Below.refl _ _).drew).mono ?_; rintro e' w6 ⟨rfl, h6, k6⟩; have H6 : Hid (AllS wd w6 wd.heap.size WB MP (hF p0 p1 PB TB pi at') L) := Lib.hid h6; have K6 := Lib.hid k6; clear h6 k6)
    refine hKq.out _ _ ?_ (fun hHeld => ?_)
    · exact hF_c H6.out K6.out
    clear hKq Kq
    (try simp only [Act.put, tC, tD, tE])
    refine wpAnyH_done (by kernel_rfl) ?_ _
    clear hHeld
    obtain ⟨kB, hkB⟩ := H6.out.tik
    have HKB := Lib.hid hkB
    have k1 := (hkB _ (Below.refl _ _)).1
    clear hkB
    go_upto_region 13 with (go_at_call 15; refine ((HKB.out _ (Below.refl _ _)).2 now' (by have := HLT.out.2; omega)).mono ?_; rintro e w7 ⟨rfl, h7⟩; have H7 := Lib.hid h7; clear h7)
    clear k1 HKB
    have hwn7 := HWP.out.tick now' (by have := HLT.out.2; omega)
    have HWN7 := Lib.hid hwn7
    have HWT : Hid ((MP.tick now').T = now') := Lib.hid (hwn7.T.trans (Nat.zero_add _))
    clear hwn7
    have hone := H7.out.one (v := .nilIface) (D := DF) (.inr ⟨rfl, rfl⟩) (by show 5 < 64; omega) (by show 1152 < 4294967296; omega) (by show 0 < 18446744073709551616; omega)
    have HONE : Hid (Calls Tryz.prog 19 #[.int .i64 5, .int .u32 1152, .nilIface] w7 _) := Lib.hid hone
    clear hone
    go_upto_region 14 with (go_at_call 19; refine HONE.out.mono ?_; rintro e w8 ⟨B1, rfl, h8⟩; have H8 := Lib.hid h8; clear h8)
    clear HONE
    have hrun := ask_fair (Q := false) HT.out.1 HT.out.2 HWN7.out (by omega) HQL.out (.inl ⟨HQQ.out, rfl⟩) H8.out
    have e0 : (if bktN 1152 2 = pi then (at' : Int) else 0) = (at' : Int) := if_pos HPE.out.symm
    rw [e0, Nat.zero_add, ← HPE.out] at hrun
    have HRUN : Hid (Calls Tryz.prog 16 #[Pw WB, .iface 76 (Pw B1), .int .i64 20] w8 _) := Lib.hid hrun
    clear hrun e0
    obtain ⟨fr, hfr⟩ : ∃ fr, fr = (false && decide ((at' : Int) < (now' : Int))) := ⟨_, rfl⟩
    rw [← hfr] at HRUN
    clear HWN7 HWP HPT HC4
    have HFRV : Hid (fr = false) := Lib.hid (by rw [hfr]; first | rfl | (rw [decide_eq_true hdn]; rfl) | (rw [decide_eq_false hdn]; rfl))
    rw [HFRV.out] at HRUN
    clear hfr
    go_upto_region 17 with (go_at_call 16; refine HRUN.out.mono ?_; rintro e w9 ⟨⟨nn, hn0, rfl⟩, M9, P9, h9, p1, p2, f9⟩; have H9 := Lib.hid h9; have HP9 := Lib.hid (And.intro p1 p2); have HF9 := Lib.hid f9; have e9a : decide ((nn : Int) = 0) = false := decide_eq_false (by omega); have e9b : ((nn : Int) == 0) = false := beq_false_of_ne (by omega); have e9c : decide (nn = 0) = false := decide_eq_false hn0; have e9d : (nn == 0) = false := beq_false_of_ne hn0; clear h9 p1 p2 f9)
    clear HRUN e9a e9b e9c e9d
    have HD9 := Lib.hid (AllS.done H9.out)
    have hpi9 : pi < (M9.m 2).length := by rw [HF9.out.len]; exact HPI.out
    obtain ⟨ts9, hts9⟩ := HD9.out.timer (ni := pi) hpi9
    obtain ⟨ra, hra⟩ : ∃ ra, ra = (M9.m 2)[pi]!.a := ⟨_, rfl⟩
    obtain ⟨rf, hrf⟩ : ∃ rf, rf = (M9.m 2)[pi]!.f := ⟨_, rfl⟩
    rw [← hra, ← hrf] at hts9
    have HT9 : Hid (∀ W, Below w9.heap.size w9 W → Calls Tryz.prog 35 #[ts9, .agg #[.int .i64 2, .int .i64 (pi : Int)]] W fun e w' => e = .returned (.agg #[.int .u64 ra, .int .u64 rf]) ∧ Below W.heap.size W w') := Lib.hid (fun W hb => (hts9 W hb).2)
    have HC9 : Hid (∀ W, Below w9.heap.size w9 W → W.cell? ⟨WB, 4, none⟩ = some ts9 ∧ W.cell? ⟨PB, 0, none⟩ = some (.int .i64 2) ∧ W.cell? ⟨PB, 1, none⟩ = some (.int .i64 (pi : Int))) := Lib.hid (fun W hb => ⟨(hts9 W hb).1, (hF_c (HD9.out.new hb) (hts9 W hb).1).2.1, (hF_c (HD9.out.new hb) (hts9 W hb).1).2.2.1⟩)
    have HRA := Lib.hid (And.intro hra hrf)
    clear hts9 hpi9 hra hrf
    refine wp_region_held_drew (S := fun w' => w'.cell? ⟨WB, 4, none⟩ = some ts9 ∧ w'.cell? ⟨PB, 0, none⟩ = some (.int .i64 2) ∧ w'.cell? ⟨PB, 1, none⟩ = some (.int .i64 (pi : Int))) (by kernel_rfl) ?_ (fun hHeld => ?_)
    · exact HC9.out _ (Below.refl _ _).drew
    refine tA 0 ⟨some 74, .move (.tmp 8), 24, "outright.go:117", #[], none⟩ ?vfbx2m1 ?rfbx2m1
    (try simp only [Act.put, tC, tD, tE])
    refine tA 1 ⟨some 75, .nilCheck (.tmp 74), 0, "outright.go:117", #[⟨0, .data⟩], none⟩ ?vfbx2m2 ?rfbx2m2
    (try simp only [Act.put, tC, tD, tE])
    refine tA 2 ⟨some 76, .fieldAddr 47 (.tmp 75) 4, 0, "outright.go:117", #[⟨1, .data⟩], none⟩ ?vfbx2m3 ?rfbx2m3
    (try simp only [Act.put, tC, tD, tE])
    refine tA 3 ⟨some 77, .load 43 (.tmp 76), 43, "outright.go:117", #[⟨2, .data⟩], none⟩ ?vfbx2m4 ?rfbx2m4
    (try simp only [Act.put, tC, tD, tE])
    refine tA 4 ⟨some 78, .load 97 (.tmp 10), 97, "outright.go:117", #[], none⟩ ?vfbx2m5 ?rfbx2m5
    (try simp only [Act.put, tC, tD, tE])
    apply mergeV (S := (fun (IB : Nat) W => w9.heap.size ≤ IB ∧ Below w9.heap.size w9 W ∧ W.heap[IB]? = some (.cells #[.int .u64 0, .int .u64 0] 100 (0, 0))))
    · intro REST
      refine wpAnyH_ready (rs := [5, 6]) (by kernel_rfl) (by simp) ?_
      refine AllReadyH.cons (o := ⟨some 79, .call ⟨.value (.func 35), #[.tmp 77, .tmp 78], #[43, 97]⟩, 100, "outright.go:117", #[⟨3, .data⟩, ⟨4, .data⟩], none⟩) rfl (fun Kq hKq => ?_) ?_
      · go_simp
        (refine (HT9.out _ (by first | exact HAL.out.2.1 | exact (Below.refl _ _).drew)).mono ?_; rintro e' w10 ⟨rfl, hb10⟩; (first | (have HAND : Hid (w9.heap.size ≤ IB ∧ Below w9.heap.size w9 w10 ∧ w10.heap[IB]? = some (.cells #[.int .u64 0, .int .u64 0] 100 (0, 0))) := Lib.hid ⟨HAL.out.1, HAL.out.2.1.trans (hb10.mono HAL.out.2.1.size), (hb10.block IB (heap_lt HAL.out.2.2)).trans HAL.out.2.2⟩; have HBC := Lib.hid HAND.out.2.1) | (have HBC : Hid (Below w9.heap.size w9 w10) := Lib.hid ((Below.refl _ _).drew.trans hb10))); clear hb10)
        refine hKq.out _ _ ?_ (fun hHeld => ?_)
        · exact HC9.out _ HBC.out
        clear hKq Kq
        (try simp only [Act.put, tC, tD, tE])
        refine wpAnyH_ready (rs := [6]) (by kernel_rfl) (by simp) ?_
        refine AllReadyH.cons (o := ⟨some 14, .alloc 100, 0, "outright.go:117", #[], none⟩) rfl (fun Kq hKq => ?_) AllReadyH.nil
        (first | (have hal : w9.heap.size ≤ w10.heap.size ∧ Below w9.heap.size w9 (w10.alloc (.cells #[.int .u64 0, .int .u64 0] 100)) ∧ (w10.alloc (.cells #[.int .u64 0, .int .u64 0] 100)).heap[w10.heap.size]? = some (.cells #[.int .u64 0, .int .u64 0] 100 (0, 0)) := ⟨HBC.out.size, HBC.out.trans ((below1 w10 _).mono HBC.out.size), heap_alloc_new _ _⟩; have HAND := Lib.hid hal; clear hal; go_simp; generalize w10.alloc (.cells #[.int .u64 0, .int .u64 0] 100) = w11 at *; generalize w10.heap.size = IB at *; have HBD := Lib.hid HAND.out.2.1) | (obtain ⟨IB, hIB⟩ : ∃ IB, IB = w9.heap.size := ⟨_, rfl⟩; have hal : w9.heap.size ≤ IB ∧ Below w9.heap.size w9 (w9.alloc (.cells #[.int .u64 0, .int .u64 0] 100)).drew ∧ (w9.alloc (.cells #[.int .u64 0, .int .u64 0] 100)).drew.heap[IB]? = some (.cells #[.int .u64 0, .int .u64 0] 100 (0, 0)) := ⟨Nat.le_of_eq hIB.symm, (below1 w9 _).drew, by rw [hIB]; exact heap_alloc_new _ _⟩; have HAL := Lib.hid hal; clear hal; go_simp; rw [← hIB]; clear hIB; generalize (w9.alloc (.cells #[.int .u64 0, .int .u64 0] 100)).drew = w11 at *; have HBD := Lib.hid HAL.out.2.1))
        refine hKq.out _ _ ?_ (fun hHeld => ?_)
        · exact HC9.out _ HBD.out
        clear hKq Kq
        (try simp only [Act.put, tC, tD, tE])
        exact REST _ _ HAND.out
      refine AllReadyH.cons (o := ⟨some 14, .alloc 100, 0, "outright.go:117", #[], none⟩) rfl (fun Kq hKq => ?_) AllReadyH.nil
      (first | (have hal : w9.heap.size ≤ w10.heap.size ∧ Below w9.heap.size w9 (w10.alloc (.cells #[.int .u64 0, .int .u64 0] 100)) ∧ (w10.alloc (.cells #[.int .u64 0, .int .u64 0] 100)).heap[w10.heap.size]? = some (.cells #[.int .u64 0, .int .u64 0] 100 (0, 0)) := ⟨HBC.out.size, HBC.out.trans ((below1 w10 _).mono HBC.out.size), heap_alloc_new _ _⟩; have HAND := Lib.hid hal; clear hal; go_simp; generalize w10.alloc (.cells #[.int .u64 0, .int .u64 0] 100) = w11 at *; generalize w10.heap.size = IB at *; have HBD := Lib.hid HAND.out.2.1) | (obtain ⟨IB, hIB⟩ : ∃ IB, IB = w9.heap.size := ⟨_, rfl⟩; have hal : w9.heap.size ≤ IB ∧ Below w9.heap.size w9 (w9.alloc (.cells #[.int .u64 0, .int .u64 0] 100)).drew ∧ (w9.alloc (.cells #[.int .u64 0, .int .u64 0] 100)).drew.heap[IB]? = some (.cells #[.int .u64 0, .int .u64 0] 100 (0, 0)) := ⟨Nat.le_of_eq hIB.symm, (below1 w9 _).drew, by rw [hIB]; exact heap_alloc_new _ _⟩; have HAL := Lib.hid hal; clear hal; go_simp; rw [← hIB]; clear hIB; generalize (w9.alloc (.cells #[.int .u64 0, .int .u64 0] 100)).drew = w11 at *; have HBD := Lib.hid HAL.out.2.1))
      refine hKq.out _ _ ?_ (fun hHeld => ?_)
      · exact HC9.out _ HBD.out
      clear hKq Kq
      (try simp only [Act.put, tC, tD, tE])
      refine wpAnyH_ready (rs := [5]) (by kernel_rfl) (by simp) ?_
      refine AllReadyH.cons (o := ⟨some 79, .call ⟨.value (.func 35), #[.tmp 77, .tmp 78], #[43, 97]⟩, 100, "outright.go:117", #[⟨3, .data⟩, ⟨4, .data⟩], none⟩) rfl (fun Kq hKq => ?_) AllReadyH.nil
      go_simp
      (refine (HT9.out _ (by first | exact HAL.out.2.1 | exact (Below.refl _ _).drew)).mono ?_; rintro e' w10 ⟨rfl, hb10⟩; (first | (have HAND : Hid (w9.heap.size ≤ IB ∧ Below w9.heap.size w9 w10 ∧ w10.heap[IB]? = some (.cells #[.int .u64 0, .int .u64 0] 100 (0, 0))) := Lib.hid ⟨HAL.out.1, HAL.out.2.1.trans (hb10.mono HAL.out.2.1.size), (hb10.block IB (heap_lt HAL.out.2.2)).trans HAL.out.2.2⟩; have HBC := Lib.hid HAND.out.2.1) | (have HBC : Hid (Below w9.heap.size w9 w10) := Lib.hid ((Below.refl _ _).drew.trans hb10))); clear hb10)
      refine hKq.out _ _ ?_ (fun hHeld => ?_)
      · exact HC9.out _ HBC.out
      clear hKq Kq
      (try simp only [Act.put, tC, tD, tE])
      exact REST _ _ HAND.out
    intro IB w12 hT
    have HT17 := Lib.hid hT
    have hHeld : (fun w' : World => w'.cell? ⟨WB, 4, none⟩ = some ts9 ∧ w'.cell? ⟨PB, 0, none⟩ = some (.int .i64 2) ∧ w'.cell? ⟨PB, 1, none⟩ = some (.int .i64 (pi : Int))) w12 := HC9.out _ HT17.out.2.1
    clear hT
    skip
    refine wpAnyH_ready (rs := [7]) (by kernel_rfl) (by simp) ?_
    refine AllReadyH.cons (o := ⟨none, .store 100 (.tmp 14) (.tmp 79), 0, "outright.go:117", #[⟨6, .data⟩, ⟨5, .data⟩, ⟨5, .chain⟩, ⟨0, .phase⟩, ⟨1, .phase⟩, ⟨2, .phase⟩, ⟨3, .phase⟩, ⟨4, .phase⟩, ⟨5, .phase⟩, ⟨6, .phase⟩], none⟩) rfl (fun Kq hKq => ?_) AllReadyH.nil
    (have q0 := cell_row HT17.out.2.2 0; have q1 := cell_row HT17.out.2.2 1; have f0 := froz_row HT17.out.2.2 0; have f1 := froz_row HT17.out.2.2 1; go_simp; clear q0 q1 f0 f1; have hst : Below w9.heap.size w9 ((w12.setCell ⟨IB, 0, none⟩ (.int .u64 ra)).setCell ⟨IB, 1, none⟩ (.int .u64 rf)) ∧ ((w12.setCell ⟨IB, 0, none⟩ (.int .u64 ra)).setCell ⟨IB, 1, none⟩ (.int .u64 rf)).heap[IB]? = some (.cells #[.int .u64 ra, .int .u64 rf] 100 (0, 0)) := ⟨(HT17.out.2.1.setCell (p := ⟨IB, 0, none⟩) HT17.out.1 _).setCell (p := ⟨IB, 1, none⟩) HT17.out.1 _, set_blk (set_blk HT17.out.2.2 0 _ _ rfl) 1 _ _ rfl⟩; have HST := Lib.hid hst; clear hst; generalize (w12.setCell ⟨IB, 0, none⟩ (.int .u64 ra)).setCell ⟨IB, 1, none⟩ (.int .u64 rf) = w13 at *)
    refine hKq.out _ _ ?_ (fun hHeld => ?_)
    · exact HC9.out _ HST.out.1
    clear hKq Kq
    (try simp only [Act.put, tC, tD, tE])
    refine wpAnyH_done (by kernel_rfl) ?_ _
    clear hHeld
    have HBW := Lib.hid HST.out.1
    have HIB := Lib.hid HST.out.2
    clear HT17 HT9 HC9
    obtain ⟨R9, hR9⟩ : ∃ R9, R9 = P9.R := ⟨_, rfl⟩
    have hgot := (H9.out.new HBW.out).got HP9.out.1
    rw [← hR9] at hgot
    have hfa : R9.fair = false := by rw [hR9]; exact HP9.out.2
    obtain ⟨rm, rmo, rfa, rth⟩ := R9
    obtain rfl : rfa = false := hfa
    have HGOT : Hid (Calls Tryz.prog 22 #[Pw B1] w13 fun e w' => e = .returned (.agg #[.int .i64 (rm : Int), .int .i64 0, .bool rmo, .bool false, .int .i64 rth]) ∧ Below w13.heap.size w13 w') := Lib.hid hgot
    have HDX := Lib.hid (HD9.out.new HBW.out)
    obtain ⟨kB9, hk9⟩ := HDX.out.left
    have hdl : M9.D.length = 1 := by rw [HF9.out.d]; show (if false = true then MP.D.tail else MP.D).length = _; rw [HDP.out.1]; rfl
    have HK9 : Hid (∀ W, Below w13.heap.size w13 W → W.cell? ⟨WB, 1, none⟩ = some (Pw kB9) ∧ Calls Tryz.prog 36 #[Pw kB9] W fun e w' => e = .returned (.int .i64 1) ∧ W = w') := Lib.hid (fun W hb => by have := hk9 W hb; rw [hdl] at this; exact this)
    clear hgot hR9 hk9 hdl
    have hfd := fldR (rm : Int) rth rmo false
    go_upto_region 20 with (first
      | (go_at_call 22; refine HGOT.out.mono ?_; rintro e w14 ⟨rfl, hb14⟩; have HB14 := Lib.hid hb14; have k14 := (HK9.out w14 hb14).1; clear hb14)
      | (go_at_call 36; refine (HK9.out w14 HB14.out).2.mono ?_; rintro e w15 ⟨rfl, rfl⟩))
    clear k14 hfd
    have HDY := Lib.hid (HDX.out.new HB14.out)
    have hib := (HB14.out.block IB (heap_lt HIB.out)).trans HIB.out
    have q0 := cell_row hib 0; have q1 := cell_row hib 1
    have htb := (HDY.out.partH (a := 3) rfl).1 (TB, _) List.mem_cons_self
    have t0 := cell_row htb 0; have t1 := cell_row htb 1
    have hra : ra = (at' : Int) := by rw [HRA.out.1, HF9.out.a]; exact HDP.out.2.2.1
    have hrf : rf = 0 := by rw [HRA.out.2, HF9.out.f]; exact HDP.out.2.2.2
    rw [hra] at q0
    rw [hrf] at q1
    have heq := eqTm (at' : Int)
    have HBL := Lib.hid HDY.out.bl
    clear hib htb hra hrf
    go_wp2_with (go_at_call 26; refine (HLW.out _ HBL.out).mono ?_; rintro e w16 ⟨rfl, hb16⟩; have HB16 := Lib.hid hb16; clear hb16)
    go_ret
    exact ⟨rfl, HB16.out⟩
  · have h2 := H1.out.setB (a := 1) rfl (.cells #[.int .u8 0] 5)
    have h2' : AllS wd (w2.alloc (.cells #[.int .u8 0] 5)) wd.heap.size WB (sdD z2) (noP :: [rowsP [(w2.heap.size, .cells #[.int .u8 0] 5 (0, 0))], noP, noP]) [] := h2
    have hks : ∀ i, i < [0].length → ([0] : List Nat)[i]! < 256 := by
      intro i hi
      have h0 : i = 0 := by simpa using hi
      subst h0
      decide
    have hsl := sleeping_any (A := some ⟨w2.heap.size, 0, none⟩) (c := 1) (ks := [0]) HT.out.1 HT.out.2 h2' (wnD z2) (by omega) (by simp) hks (fun W M' p L' h i hi => by
      have hi0 : i = 0 := by simpa using hi
      subst hi0
      have hbk := (h.partH (a := 1) rfl).1 (w2.heap.size, _) List.mem_cons_self
      exact ⟨w2.heap.size, 0, rfl, cell_row hbk 0⟩)
    have HSL : Hid (Calls Tryz.prog 27 #[Pw WB, .slice (some ⟨w2.heap.size, 0, none⟩) 1 1] (w2.alloc (.cells #[.int .u8 0] 5)) _) := Lib.hid hsl
    clear h2 h2' hsl H1 hks
    go_upto_region 9 with (go_at_call 27; refine HSL.out.mono ?_; rintro e w3 ⟨v, M, L, Bs, rfl, h3, hs3, hw3, hpf3, htk3, hmx3, hD3, hK3⟩; have HA := Lib.hid h3; have HWN : Hid (Wn M (sQ [0] 1) (fun _ => 0) 0 20) := Lib.hid (hw3.mono (by simp)); have HDM : Hid (M.D = [z2] ∧ M.most = 9) := Lib.hid ⟨hD3, hK3⟩; obtain ⟨A9, c9, e9, -, -⟩ := S10.Row.shape (h3.partH (a := 0) rfl); subst e9; clear h3 hs3 hw3 hpf3 htk3 hmx3 hD3 hK3)
    clear HSL
    have HQL : Hid (∀ i, ((sQ [0] 1) i).length ≤ 100) := Lib.hid (fun i => Nat.le_trans (sQ_len [0] 1 i) (by omega))
    obtain ⟨p0, hp0⟩ : ∃ p0, p0 = intsP (.slice A9 [0].length c9) [0].length (ptrs Bs) := ⟨_, rfl⟩
    obtain ⟨p1, hp1⟩ : ∃ p1, p1 = rowsP [(w2.heap.size, .cells #[.int .u8 0] 5 (0, 0))] := ⟨_, rfl⟩
    have HA : Hid (AllS wd w3 wd.heap.size WB M [p0, p1, noP, noP] L) := Lib.hid (by rw [hp0, hp1]; exact HA.out)
    clear hp0 hp1
    obtain ⟨q, hqe⟩ : ∃ q, q = sQ [0] 1 := ⟨_, rfl⟩
    rw [← hqe] at HWN HQL
    have HQQ : Hid (q = sQ [0] 1) := Lib.hid hqe
    clear hqe
    obtain ⟨wo, rfl⟩ : ∃ wo : World, wo = w3 := ⟨_, rfl⟩
    go_upto_region 10 with (go_at_call 33; refine (HPL.out _).mono ?_; rintro e w4 ⟨rfl, hb4⟩; have H4a := Lib.hid (HA.out.new hb4); clear hb4)
    have h4 := H4a.out.setB (a := 2) rfl (.cells #[.int .i64 2, .int .i64 (pi : Int)] 97)
    obtain ⟨PB, hPB⟩ : ∃ PB, PB = w4.heap.size := ⟨_, rfl⟩
    rw [← hPB] at h4 ⊢
    have H4 : Hid (AllS wd _ wd.heap.size WB M [p0, p1, rowsP [(PB, .cells #[.int .i64 2, .int .i64 (pi : Int)] 97)], noP] L) := Lib.hid h4
    clear h4 hPB H4a
    generalize w4.alloc (.cells #[.int .i64 2, .int .i64 (pi : Int)] 97) = w4b at *
    go_upto_region 11 with fail
    have h5 := H4.out.setB (a := 3) rfl (.cells #[.int .u64 (at' : Int), .int .u64 0] 100)
    obtain ⟨TB, hTB⟩ : ∃ TB, TB = w4b.heap.size := ⟨_, rfl⟩
    rw [← hTB] at h5 ⊢
    have H5 : Hid (AllS wd _ wd.heap.size WB M (hF p0 p1 PB TB pi at') L) := Lib.hid h5
    clear h5 hTB H4
    generalize w4b.alloc (.cells #[.int .u64 (at' : Int), .int .u64 0] 100) = w5 at *
    obtain ⟨ts, hts⟩ := H5.out.putT (ni := pi) (by rw [HWN.out.len]; exact HPI.out)
    obtain ⟨MP, hMP⟩ : ∃ MP : Sd, MP = { M with m := S10.upd M.m 2 ((M.m 2).set pi { (M.m 2)[pi]! with a := (at' : Int), f := 0 }) } := ⟨_, rfl⟩
    have HPT : Hid (∀ W, Below w5.heap.size w5 W → Calls Tryz.prog 34 #[ts, .agg #[.int .i64 2, .int .i64 (pi : Int)], .agg #[.int .u64 (at' : Int), .int .u64 0]] W fun e w' => e = .returned (.bool true) ∧ AllS wd w' wd.heap.size WB MP (hF p0 p1 PB TB pi at') L ∧ w'.cell? ⟨WB, 4, none⟩ = some ts) := Lib.hid (fun W hb => by rw [hMP]; exact (hts W hb).2 (at' : Int) 0)
    have HWP : Hid (Wn MP q (fun i => if i = pi then (at' : Int) else 0) 0 20) := Lib.hid (by rw [hMP]; exact HWN.out.putT HPI.out _ _)
    have HDP : Hid (MP.D = [z2] ∧ MP.most = 9 ∧ (MP.m 2)[pi]!.a = (at' : Int) ∧ (MP.m 2)[pi]!.f = 0) := Lib.hid (by
      have e2 : MP.m 2 = (M.m 2).set pi { (M.m 2)[pi]! with a := (at' : Int), f := 0 } := by rw [hMP]; exact S10.upd_same M.m 2 _
      have e3 : (MP.m 2)[pi]! = { (M.m 2)[pi]! with a := (at' : Int), f := 0 } := by rw [e2, getElem!_pos _ pi (by rw [List.length_set, HWN.out.len]; exact HPI.out), List.getElem_set_self]
      refine ⟨by rw [hMP]; exact HDM.out.1, by rw [hMP]; exact HDM.out.2, by rw [e3], by rw [e3]⟩)
    clear hMP
    have HC4 := Lib.hid (fun W hb => hF_c (H5.out.new hb) (hts W hb).1)
    clear hts
    refine wp_region_held_drew (S := fun w' => w'.cell? ⟨WB, 4, none⟩ = some ts ∧ w'.cell? ⟨PB, 0, none⟩ = some (.int .i64 2) ∧ w'.cell? ⟨PB, 1, none⟩ = some (.int .i64 (pi : Int)) ∧ w'.cell? ⟨TB, 0, none⟩ = some (.int .u64 (at' : Int)) ∧ w'.cell? ⟨TB, 1, none⟩ = some (.int .u64 0)) (by kernel_rfl) ?_ (fun hHeld => ?_)
    · exact (HC4.out _ (Below.refl _ _).drew)
    refine tA 0 ⟨some 46, .move (.tmp 8), 24, "outright.go:110", #[], none⟩ ?vfax3m1 ?rfax3m1
    (try simp only [Act.put, tC, tD, tE])
    refine tA 1 ⟨some 47, .nilCheck (.tmp 46), 0, "outright.go:110", #[⟨0, .data⟩], none⟩ ?vfax3m2 ?rfax3m2
    (try simp only [Act.put, tC, tD, tE])
    refine tA 2 ⟨some 48, .fieldAddr 47 (.tmp 47) 4, 0, "outright.go:110", #[⟨1, .data⟩], none⟩ ?vfax3m3 ?rfax3m3
    (try simp only [Act.put, tC, tD, tE])
    refine tA 3 ⟨some 49, .load 43 (.tmp 48), 43, "outright.go:110", #[⟨2, .data⟩], none⟩ ?vfax3m4 ?rfax3m4
    (try simp only [Act.put, tC, tD, tE])
    refine tA 4 ⟨some 50, .load 97 (.tmp 10), 97, "outright.go:110", #[], none⟩ ?vfax3m5 ?rfax3m5
    (try simp only [Act.put, tC, tD, tE])
    refine tA 5 ⟨some 51, .load 100 (.tmp 11), 100, "outright.go:110", #[], none⟩ ?vfax3m6 ?rfax3m6
    (try simp only [Act.put, tC, tD, tE])
    refine wpAnyH_ready (rs := [6]) (by kernel_rfl) (by simp) ?_
    refine AllReadyH.cons (o := ⟨some 52, .call ⟨.value (.func 34), #[.tmp 49, .tmp 50, .tmp 51], #[43, 97, 100]⟩, 4, "outright.go:110", #[⟨3, .data⟩, ⟨4, .data⟩, ⟨5, .data⟩], none⟩) rfl (fun Kq hKq => ?_) AllReadyH.nil
    go_simp
    (refine (HPT.out _ (Below.refl _ _).drew).mono ?_; rintro e' w6 ⟨rfl, h6, k6⟩; have H6 : Hid (AllS wd w6 wd.heap.size WB MP (hF p0 p1 PB TB pi at') L) := Lib.hid h6; have K6 := Lib.hid k6; clear h6 k6)
    refine hKq.out _ _ ?_ (fun hHeld => ?_)
    · exact hF_c H6.out K6.out
    clear hKq Kq
    (try simp only [Act.put, tC, tD, tE])
    refine wpAnyH_done (by kernel_rfl) ?_ _
    clear hHeld
    obtain ⟨kB, hkB⟩ := H6.out.tik
    have HKB := Lib.hid hkB
    have k1 := (hkB _ (Below.refl _ _)).1
    clear hkB
    go_upto_region 13 with (go_at_call 15; refine ((HKB.out _ (Below.refl _ _)).2 now' (by have := HLT.out.2; omega)).mono ?_; rintro e w7 ⟨rfl, h7⟩; have H7 := Lib.hid h7; clear h7)
    clear k1 HKB
    have hwn7 := HWP.out.tick now' (by have := HLT.out.2; omega)
    have HWN7 := Lib.hid hwn7
    have HWT : Hid ((MP.tick now').T = now') := Lib.hid (hwn7.T.trans (Nat.zero_add _))
    clear hwn7
    have hone := H7.out.one (v := .nilIface) (D := DF) (.inr ⟨rfl, rfl⟩) (by show 5 < 64; omega) (by show 1152 < 4294967296; omega) (by show 0 < 18446744073709551616; omega)
    have HONE : Hid (Calls Tryz.prog 19 #[.int .i64 5, .int .u32 1152, .nilIface] w7 _) := Lib.hid hone
    clear hone
    go_upto_region 14 with (go_at_call 19; refine HONE.out.mono ?_; rintro e w8 ⟨B1, rfl, h8⟩; have H8 := Lib.hid h8; clear h8)
    clear HONE
    have hrun := ask_fair (Q := true) HT.out.1 HT.out.2 HWN7.out (by omega) HQL.out (.inr ⟨HQQ.out, rfl⟩) H8.out
    have e0 : (if bktN 1152 2 = pi then (at' : Int) else 0) = (at' : Int) := if_pos HPE.out.symm
    rw [e0, Nat.zero_add, ← HPE.out] at hrun
    have HRUN : Hid (Calls Tryz.prog 16 #[Pw WB, .iface 76 (Pw B1), .int .i64 20] w8 _) := Lib.hid hrun
    clear hrun e0
    obtain ⟨fr, hfr⟩ : ∃ fr, fr = (true && decide ((at' : Int) < (now' : Int))) := ⟨_, rfl⟩
    rw [← hfr] at HRUN
    clear HWN7 HWP HPT HC4
    by_cases hdn : (at' : Int) < (now' : Int)
    · have d9 : decide ((at' : Int) < (now' : Int)) = true := decide_eq_true hdn
      have d9' : decide (at' < now') = true := decide_eq_true (by omega)
      have HFRV : Hid (fr = true) := Lib.hid (by rw [hfr]; first | rfl | (rw [decide_eq_true hdn]; rfl) | (rw [decide_eq_false hdn]; rfl))
      rw [HFRV.out] at HRUN
      clear hfr
      go_upto_region 17 with (go_at_call 16; refine HRUN.out.mono ?_; rintro e w9 ⟨⟨nn, hn0, rfl⟩, M9, P9, h9, p1, p2, f9⟩; have H9 := Lib.hid h9; have HP9 := Lib.hid (And.intro p1 p2); have HF9 := Lib.hid f9; have e9a : decide ((nn : Int) = 0) = false := decide_eq_false (by omega); have e9b : ((nn : Int) == 0) = false := beq_false_of_ne (by omega); have e9c : decide (nn = 0) = false := decide_eq_false hn0; have e9d : (nn == 0) = false := beq_false_of_ne hn0; clear h9 p1 p2 f9)
      clear HRUN e9a e9b e9c e9d
      have HD9 := Lib.hid (AllS.done H9.out)
      have hpi9 : pi < (M9.m 2).length := by rw [HF9.out.len]; exact HPI.out
      obtain ⟨ts9, hts9⟩ := HD9.out.timer (ni := pi) hpi9
      obtain ⟨ra, hra⟩ : ∃ ra, ra = (M9.m 2)[pi]!.a := ⟨_, rfl⟩
      obtain ⟨rf, hrf⟩ : ∃ rf, rf = (M9.m 2)[pi]!.f := ⟨_, rfl⟩
      rw [← hra, ← hrf] at hts9
      have HT9 : Hid (∀ W, Below w9.heap.size w9 W → Calls Tryz.prog 35 #[ts9, .agg #[.int .i64 2, .int .i64 (pi : Int)]] W fun e w' => e = .returned (.agg #[.int .u64 ra, .int .u64 rf]) ∧ Below W.heap.size W w') := Lib.hid (fun W hb => (hts9 W hb).2)
      have HC9 : Hid (∀ W, Below w9.heap.size w9 W → W.cell? ⟨WB, 4, none⟩ = some ts9 ∧ W.cell? ⟨PB, 0, none⟩ = some (.int .i64 2) ∧ W.cell? ⟨PB, 1, none⟩ = some (.int .i64 (pi : Int))) := Lib.hid (fun W hb => ⟨(hts9 W hb).1, (hF_c (HD9.out.new hb) (hts9 W hb).1).2.1, (hF_c (HD9.out.new hb) (hts9 W hb).1).2.2.1⟩)
      have HRA := Lib.hid (And.intro hra hrf)
      clear hts9 hpi9 hra hrf
      refine wp_region_held_drew (S := fun w' => w'.cell? ⟨WB, 4, none⟩ = some ts9 ∧ w'.cell? ⟨PB, 0, none⟩ = some (.int .i64 2) ∧ w'.cell? ⟨PB, 1, none⟩ = some (.int .i64 (pi : Int))) (by kernel_rfl) ?_ (fun hHeld => ?_)
      · exact HC9.out _ (Below.refl _ _).drew
      refine tA 0 ⟨some 74, .move (.tmp 8), 24, "outright.go:117", #[], none⟩ ?vfbx4m1 ?rfbx4m1
      (try simp only [Act.put, tC, tD, tE])
      refine tA 1 ⟨some 75, .nilCheck (.tmp 74), 0, "outright.go:117", #[⟨0, .data⟩], none⟩ ?vfbx4m2 ?rfbx4m2
      (try simp only [Act.put, tC, tD, tE])
      refine tA 2 ⟨some 76, .fieldAddr 47 (.tmp 75) 4, 0, "outright.go:117", #[⟨1, .data⟩], none⟩ ?vfbx4m3 ?rfbx4m3
      (try simp only [Act.put, tC, tD, tE])
      refine tA 3 ⟨some 77, .load 43 (.tmp 76), 43, "outright.go:117", #[⟨2, .data⟩], none⟩ ?vfbx4m4 ?rfbx4m4
      (try simp only [Act.put, tC, tD, tE])
      refine tA 4 ⟨some 78, .load 97 (.tmp 10), 97, "outright.go:117", #[], none⟩ ?vfbx4m5 ?rfbx4m5
      (try simp only [Act.put, tC, tD, tE])
      apply mergeV (S := (fun (IB : Nat) W => w9.heap.size ≤ IB ∧ Below w9.heap.size w9 W ∧ W.heap[IB]? = some (.cells #[.int .u64 0, .int .u64 0] 100 (0, 0))))
      · intro REST
        refine wpAnyH_ready (rs := [5, 6]) (by kernel_rfl) (by simp) ?_
        refine AllReadyH.cons (o := ⟨some 79, .call ⟨.value (.func 35), #[.tmp 77, .tmp 78], #[43, 97]⟩, 100, "outright.go:117", #[⟨3, .data⟩, ⟨4, .data⟩], none⟩) rfl (fun Kq hKq => ?_) ?_
        · go_simp
          (refine (HT9.out _ (by first | exact HAL.out.2.1 | exact (Below.refl _ _).drew)).mono ?_; rintro e' w10 ⟨rfl, hb10⟩; (first | (have HAND : Hid (w9.heap.size ≤ IB ∧ Below w9.heap.size w9 w10 ∧ w10.heap[IB]? = some (.cells #[.int .u64 0, .int .u64 0] 100 (0, 0))) := Lib.hid ⟨HAL.out.1, HAL.out.2.1.trans (hb10.mono HAL.out.2.1.size), (hb10.block IB (heap_lt HAL.out.2.2)).trans HAL.out.2.2⟩; have HBC := Lib.hid HAND.out.2.1) | (have HBC : Hid (Below w9.heap.size w9 w10) := Lib.hid ((Below.refl _ _).drew.trans hb10))); clear hb10)
          refine hKq.out _ _ ?_ (fun hHeld => ?_)
          · exact HC9.out _ HBC.out
          clear hKq Kq
          (try simp only [Act.put, tC, tD, tE])
          refine wpAnyH_ready (rs := [6]) (by kernel_rfl) (by simp) ?_
          refine AllReadyH.cons (o := ⟨some 14, .alloc 100, 0, "outright.go:117", #[], none⟩) rfl (fun Kq hKq => ?_) AllReadyH.nil
          (first | (have hal : w9.heap.size ≤ w10.heap.size ∧ Below w9.heap.size w9 (w10.alloc (.cells #[.int .u64 0, .int .u64 0] 100)) ∧ (w10.alloc (.cells #[.int .u64 0, .int .u64 0] 100)).heap[w10.heap.size]? = some (.cells #[.int .u64 0, .int .u64 0] 100 (0, 0)) := ⟨HBC.out.size, HBC.out.trans ((below1 w10 _).mono HBC.out.size), heap_alloc_new _ _⟩; have HAND := Lib.hid hal; clear hal; go_simp; generalize w10.alloc (.cells #[.int .u64 0, .int .u64 0] 100) = w11 at *; generalize w10.heap.size = IB at *; have HBD := Lib.hid HAND.out.2.1) | (obtain ⟨IB, hIB⟩ : ∃ IB, IB = w9.heap.size := ⟨_, rfl⟩; have hal : w9.heap.size ≤ IB ∧ Below w9.heap.size w9 (w9.alloc (.cells #[.int .u64 0, .int .u64 0] 100)).drew ∧ (w9.alloc (.cells #[.int .u64 0, .int .u64 0] 100)).drew.heap[IB]? = some (.cells #[.int .u64 0, .int .u64 0] 100 (0, 0)) := ⟨Nat.le_of_eq hIB.symm, (below1 w9 _).drew, by rw [hIB]; exact heap_alloc_new _ _⟩; have HAL := Lib.hid hal; clear hal; go_simp; rw [← hIB]; clear hIB; generalize (w9.alloc (.cells #[.int .u64 0, .int .u64 0] 100)).drew = w11 at *; have HBD := Lib.hid HAL.out.2.1))
          refine hKq.out _ _ ?_ (fun hHeld => ?_)
          · exact HC9.out _ HBD.out
          clear hKq Kq
          (try simp only [Act.put, tC, tD, tE])
          exact REST _ _ HAND.out
        refine AllReadyH.cons (o := ⟨some 14, .alloc 100, 0, "outright.go:117", #[], none⟩) rfl (fun Kq hKq => ?_) AllReadyH.nil
        (first | (have hal : w9.heap.size ≤ w10.heap.size ∧ Below w9.heap.size w9 (w10.alloc (.cells #[.int .u64 0, .int .u64 0] 100)) ∧ (w10.alloc (.cells #[.int .u64 0, .int .u64 0] 100)).heap[w10.heap.size]? = some (.cells #[.int .u64 0, .int .u64 0] 100 (0, 0)) := ⟨HBC.out.size, HBC.out.trans ((below1 w10 _).mono HBC.out.size), heap_alloc_new _ _⟩; have HAND := Lib.hid hal; clear hal; go_simp; generalize w10.alloc (.cells #[.int .u64 0, .int .u64 0] 100) = w11 at *; generalize w10.heap.size = IB at *; have HBD := Lib.hid HAND.out.2.1) | (obtain ⟨IB, hIB⟩ : ∃ IB, IB = w9.heap.size := ⟨_, rfl⟩; have hal : w9.heap.size ≤ IB ∧ Below w9.heap.size w9 (w9.alloc (.cells #[.int .u64 0, .int .u64 0] 100)).drew ∧ (w9.alloc (.cells #[.int .u64 0, .int .u64 0] 100)).drew.heap[IB]? = some (.cells #[.int .u64 0, .int .u64 0] 100 (0, 0)) := ⟨Nat.le_of_eq hIB.symm, (below1 w9 _).drew, by rw [hIB]; exact heap_alloc_new _ _⟩; have HAL := Lib.hid hal; clear hal; go_simp; rw [← hIB]; clear hIB; generalize (w9.alloc (.cells #[.int .u64 0, .int .u64 0] 100)).drew = w11 at *; have HBD := Lib.hid HAL.out.2.1))
        refine hKq.out _ _ ?_ (fun hHeld => ?_)
        · exact HC9.out _ HBD.out
        clear hKq Kq
        (try simp only [Act.put, tC, tD, tE])
        refine wpAnyH_ready (rs := [5]) (by kernel_rfl) (by simp) ?_
        refine AllReadyH.cons (o := ⟨some 79, .call ⟨.value (.func 35), #[.tmp 77, .tmp 78], #[43, 97]⟩, 100, "outright.go:117", #[⟨3, .data⟩, ⟨4, .data⟩], none⟩) rfl (fun Kq hKq => ?_) AllReadyH.nil
        go_simp
        (refine (HT9.out _ (by first | exact HAL.out.2.1 | exact (Below.refl _ _).drew)).mono ?_; rintro e' w10 ⟨rfl, hb10⟩; (first | (have HAND : Hid (w9.heap.size ≤ IB ∧ Below w9.heap.size w9 w10 ∧ w10.heap[IB]? = some (.cells #[.int .u64 0, .int .u64 0] 100 (0, 0))) := Lib.hid ⟨HAL.out.1, HAL.out.2.1.trans (hb10.mono HAL.out.2.1.size), (hb10.block IB (heap_lt HAL.out.2.2)).trans HAL.out.2.2⟩; have HBC := Lib.hid HAND.out.2.1) | (have HBC : Hid (Below w9.heap.size w9 w10) := Lib.hid ((Below.refl _ _).drew.trans hb10))); clear hb10)
        refine hKq.out _ _ ?_ (fun hHeld => ?_)
        · exact HC9.out _ HBC.out
        clear hKq Kq
        (try simp only [Act.put, tC, tD, tE])
        exact REST _ _ HAND.out
      intro IB w12 hT
      have HT17 := Lib.hid hT
      have hHeld : (fun w' : World => w'.cell? ⟨WB, 4, none⟩ = some ts9 ∧ w'.cell? ⟨PB, 0, none⟩ = some (.int .i64 2) ∧ w'.cell? ⟨PB, 1, none⟩ = some (.int .i64 (pi : Int))) w12 := HC9.out _ HT17.out.2.1
      clear hT
      skip
      refine wpAnyH_ready (rs := [7]) (by kernel_rfl) (by simp) ?_
      refine AllReadyH.cons (o := ⟨none, .store 100 (.tmp 14) (.tmp 79), 0, "outright.go:117", #[⟨6, .data⟩, ⟨5, .data⟩, ⟨5, .chain⟩, ⟨0, .phase⟩, ⟨1, .phase⟩, ⟨2, .phase⟩, ⟨3, .phase⟩, ⟨4, .phase⟩, ⟨5, .phase⟩, ⟨6, .phase⟩], none⟩) rfl (fun Kq hKq => ?_) AllReadyH.nil
      (have q0 := cell_row HT17.out.2.2 0; have q1 := cell_row HT17.out.2.2 1; have f0 := froz_row HT17.out.2.2 0; have f1 := froz_row HT17.out.2.2 1; go_simp; clear q0 q1 f0 f1; have hst : Below w9.heap.size w9 ((w12.setCell ⟨IB, 0, none⟩ (.int .u64 ra)).setCell ⟨IB, 1, none⟩ (.int .u64 rf)) ∧ ((w12.setCell ⟨IB, 0, none⟩ (.int .u64 ra)).setCell ⟨IB, 1, none⟩ (.int .u64 rf)).heap[IB]? = some (.cells #[.int .u64 ra, .int .u64 rf] 100 (0, 0)) := ⟨(HT17.out.2.1.setCell (p := ⟨IB, 0, none⟩) HT17.out.1 _).setCell (p := ⟨IB, 1, none⟩) HT17.out.1 _, set_blk (set_blk HT17.out.2.2 0 _ _ rfl) 1 _ _ rfl⟩; have HST := Lib.hid hst; clear hst; generalize (w12.setCell ⟨IB, 0, none⟩ (.int .u64 ra)).setCell ⟨IB, 1, none⟩ (.int .u64 rf) = w13 at *)
      refine hKq.out _ _ ?_ (fun hHeld => ?_)
      · exact HC9.out _ HST.out.1
      clear hKq Kq
      (try simp only [Act.put, tC, tD, tE])
      refine wpAnyH_done (by kernel_rfl) ?_ _
      clear hHeld
      have HBW := Lib.hid HST.out.1
      have HIB := Lib.hid HST.out.2
      clear HT17 HT9 HC9
      obtain ⟨R9, hR9⟩ : ∃ R9, R9 = P9.R := ⟨_, rfl⟩
      have hgot := (H9.out.new HBW.out).got HP9.out.1
      rw [← hR9] at hgot
      have hfa : R9.fair = true := by rw [hR9]; exact HP9.out.2
      obtain ⟨rm, rmo, rfa, rth⟩ := R9
      obtain rfl : rfa = true := hfa
      have HGOT : Hid (Calls Tryz.prog 22 #[Pw B1] w13 fun e w' => e = .returned (.agg #[.int .i64 (rm : Int), .int .i64 0, .bool rmo, .bool true, .int .i64 rth]) ∧ Below w13.heap.size w13 w') := Lib.hid hgot
      have HDX := Lib.hid (HD9.out.new HBW.out)
      obtain ⟨kB9, hk9⟩ := HDX.out.left
      have hdl : M9.D.length = 0 := by rw [HF9.out.d]; show (if true = true then MP.D.tail else MP.D).length = _; rw [HDP.out.1]; rfl
      have HK9 : Hid (∀ W, Below w13.heap.size w13 W → W.cell? ⟨WB, 1, none⟩ = some (Pw kB9) ∧ Calls Tryz.prog 36 #[Pw kB9] W fun e w' => e = .returned (.int .i64 0) ∧ W = w') := Lib.hid (fun W hb => by have := hk9 W hb; rw [hdl] at this; exact this)
      clear hgot hR9 hk9 hdl
      have hfd := fldR (rm : Int) rth rmo true
      go_upto_region 20 with (first
        | (go_at_call 22; refine HGOT.out.mono ?_; rintro e w14 ⟨rfl, hb14⟩; have HB14 := Lib.hid hb14; have k14 := (HK9.out w14 hb14).1; clear hb14)
        | (go_at_call 36; refine (HK9.out w14 HB14.out).2.mono ?_; rintro e w15 ⟨rfl, rfl⟩))
      clear k14 hfd
      have HDY := Lib.hid (HDX.out.new HB14.out)
      have hib := (HB14.out.block IB (heap_lt HIB.out)).trans HIB.out
      have q0 := cell_row hib 0; have q1 := cell_row hib 1
      obtain ⟨dn, hdnn⟩ : ∃ dn, dn = drawN [z2] 9 := ⟨_, rfl⟩
      have hdn9 : dn ≤ 9 := by
        have : z2 % 10 < 10 := Nat.mod_lt _ (by omega)
        rw [hdnn]
        show z2 % (9 + 1) ≤ 9
        omega
      have hra : ra = ((now' + dn : Nat) : Int) := by
        rw [HRA.out.1, HF9.out.a]
        have e1 : (MP.tick now').D = [z2] := HDP.out.1
        have e2 : (MP.tick now').most = 9 := HDP.out.2.1
        have e3 : (MP.tick now').T = now' := HWT.out
        rw [e1, e2, e3, ← hdnn]
        show ((S8.sat now' dn : Nat) : Int) = _
        have := HLT.out.2
        unfold S8.sat
        rw [if_pos (by omega)]
      have hrf : rf = (now' : Int) := by
        rw [HRA.out.2, HF9.out.f]
        have e3 : (MP.tick now').T = now' := HWT.out
        rw [e3]; rfl
      rw [hra] at q0
      rw [hrf] at q1
      have u1 : IntKind.u64.wrap ((now' : Int) + 9) = ((now' + 9 : Nat) : Int) := by rw [IntKind.wrap_u64]; have := HLT.out.2; omega
      have u2 : decide ((now' : Int) ≤ ((now' + dn : Nat) : Int)) = true := decide_eq_true (by omega)
      have u3 : decide (((now' + dn : Nat) : Int) ≤ ((now' + 9 : Nat) : Int)) = true := decide_eq_true (by omega)
      generalize now' + dn = v1 at *
      generalize now' + 9 = v2 at *
      have u4 : decide (now' ≤ v1) = true := decide_eq_true (by have := of_decide_eq_true u2; omega)
      have u5 : decide (v1 ≤ v2) = true := decide_eq_true (by have := of_decide_eq_true u3; omega)
      have HBL := Lib.hid HDY.out.bl
      clear hib hra hrf hdnn hdn9
      go_wp2_with (go_at_call 26; refine (HLW.out _ HBL.out).mono ?_; rintro e w16 ⟨rfl, hb16⟩; have HB16 := Lib.hid hb16; clear hb16)
      go_ret
      exact ⟨rfl, HB16.out⟩
    · have d9 : decide ((at' : Int) < (now' : Int)) = false := decide_eq_false hdn
      have d9' : decide (at' < now') = false := decide_eq_false (by omega)
      have HFRV : Hid (fr = false) := Lib.hid (by rw [hfr]; first | rfl | (rw [decide_eq_true hdn]; rfl) | (rw [decide_eq_false hdn]; rfl))
      rw [HFRV.out] at HRUN
      clear hfr
      go_upto_region 17 with (go_at_call 16; refine HRUN.out.mono ?_; rintro e w9 ⟨⟨nn, hn0, rfl⟩, M9, P9, h9, p1, p2, f9⟩; have H9 := Lib.hid h9; have HP9 := Lib.hid (And.intro p1 p2); have HF9 := Lib.hid f9; have e9a : decide ((nn : Int) = 0) = false := decide_eq_false (by omega); have e9b : ((nn : Int) == 0) = false := beq_false_of_ne (by omega); have e9c : decide (nn = 0) = false := decide_eq_false hn0; have e9d : (nn == 0) = false := beq_false_of_ne hn0; clear h9 p1 p2 f9)
      clear HRUN e9a e9b e9c e9d
      have HD9 := Lib.hid (AllS.done H9.out)
      have hpi9 : pi < (M9.m 2).length := by rw [HF9.out.len]; exact HPI.out
      obtain ⟨ts9, hts9⟩ := HD9.out.timer (ni := pi) hpi9
      obtain ⟨ra, hra⟩ : ∃ ra, ra = (M9.m 2)[pi]!.a := ⟨_, rfl⟩
      obtain ⟨rf, hrf⟩ : ∃ rf, rf = (M9.m 2)[pi]!.f := ⟨_, rfl⟩
      rw [← hra, ← hrf] at hts9
      have HT9 : Hid (∀ W, Below w9.heap.size w9 W → Calls Tryz.prog 35 #[ts9, .agg #[.int .i64 2, .int .i64 (pi : Int)]] W fun e w' => e = .returned (.agg #[.int .u64 ra, .int .u64 rf]) ∧ Below W.heap.size W w') := Lib.hid (fun W hb => (hts9 W hb).2)
      have HC9 : Hid (∀ W, Below w9.heap.size w9 W → W.cell? ⟨WB, 4, none⟩ = some ts9 ∧ W.cell? ⟨PB, 0, none⟩ = some (.int .i64 2) ∧ W.cell? ⟨PB, 1, none⟩ = some (.int .i64 (pi : Int))) := Lib.hid (fun W hb => ⟨(hts9 W hb).1, (hF_c (HD9.out.new hb) (hts9 W hb).1).2.1, (hF_c (HD9.out.new hb) (hts9 W hb).1).2.2.1⟩)
      have HRA := Lib.hid (And.intro hra hrf)
      clear hts9 hpi9 hra hrf
      refine wp_region_held_drew (S := fun w' => w'.cell? ⟨WB, 4, none⟩ = some ts9 ∧ w'.cell? ⟨PB, 0, none⟩ = some (.int .i64 2) ∧ w'.cell? ⟨PB, 1, none⟩ = some (.int .i64 (pi : Int))) (by kernel_rfl) ?_ (fun hHeld => ?_)
      · exact HC9.out _ (Below.refl _ _).drew
      refine tA 0 ⟨some 74, .move (.tmp 8), 24, "outright.go:117", #[], none⟩ ?vfbx5m1 ?rfbx5m1
      (try simp only [Act.put, tC, tD, tE])
      refine tA 1 ⟨some 75, .nilCheck (.tmp 74), 0, "outright.go:117", #[⟨0, .data⟩], none⟩ ?vfbx5m2 ?rfbx5m2
      (try simp only [Act.put, tC, tD, tE])
      refine tA 2 ⟨some 76, .fieldAddr 47 (.tmp 75) 4, 0, "outright.go:117", #[⟨1, .data⟩], none⟩ ?vfbx5m3 ?rfbx5m3
      (try simp only [Act.put, tC, tD, tE])
      refine tA 3 ⟨some 77, .load 43 (.tmp 76), 43, "outright.go:117", #[⟨2, .data⟩], none⟩ ?vfbx5m4 ?rfbx5m4
      (try simp only [Act.put, tC, tD, tE])
      refine tA 4 ⟨some 78, .load 97 (.tmp 10), 97, "outright.go:117", #[], none⟩ ?vfbx5m5 ?rfbx5m5
      (try simp only [Act.put, tC, tD, tE])
      apply mergeV (S := (fun (IB : Nat) W => w9.heap.size ≤ IB ∧ Below w9.heap.size w9 W ∧ W.heap[IB]? = some (.cells #[.int .u64 0, .int .u64 0] 100 (0, 0))))
      · intro REST
        refine wpAnyH_ready (rs := [5, 6]) (by kernel_rfl) (by simp) ?_
        refine AllReadyH.cons (o := ⟨some 79, .call ⟨.value (.func 35), #[.tmp 77, .tmp 78], #[43, 97]⟩, 100, "outright.go:117", #[⟨3, .data⟩, ⟨4, .data⟩], none⟩) rfl (fun Kq hKq => ?_) ?_
        · go_simp
          (refine (HT9.out _ (by first | exact HAL.out.2.1 | exact (Below.refl _ _).drew)).mono ?_; rintro e' w10 ⟨rfl, hb10⟩; (first | (have HAND : Hid (w9.heap.size ≤ IB ∧ Below w9.heap.size w9 w10 ∧ w10.heap[IB]? = some (.cells #[.int .u64 0, .int .u64 0] 100 (0, 0))) := Lib.hid ⟨HAL.out.1, HAL.out.2.1.trans (hb10.mono HAL.out.2.1.size), (hb10.block IB (heap_lt HAL.out.2.2)).trans HAL.out.2.2⟩; have HBC := Lib.hid HAND.out.2.1) | (have HBC : Hid (Below w9.heap.size w9 w10) := Lib.hid ((Below.refl _ _).drew.trans hb10))); clear hb10)
          refine hKq.out _ _ ?_ (fun hHeld => ?_)
          · exact HC9.out _ HBC.out
          clear hKq Kq
          (try simp only [Act.put, tC, tD, tE])
          refine wpAnyH_ready (rs := [6]) (by kernel_rfl) (by simp) ?_
          refine AllReadyH.cons (o := ⟨some 14, .alloc 100, 0, "outright.go:117", #[], none⟩) rfl (fun Kq hKq => ?_) AllReadyH.nil
          (first | (have hal : w9.heap.size ≤ w10.heap.size ∧ Below w9.heap.size w9 (w10.alloc (.cells #[.int .u64 0, .int .u64 0] 100)) ∧ (w10.alloc (.cells #[.int .u64 0, .int .u64 0] 100)).heap[w10.heap.size]? = some (.cells #[.int .u64 0, .int .u64 0] 100 (0, 0)) := ⟨HBC.out.size, HBC.out.trans ((below1 w10 _).mono HBC.out.size), heap_alloc_new _ _⟩; have HAND := Lib.hid hal; clear hal; go_simp; generalize w10.alloc (.cells #[.int .u64 0, .int .u64 0] 100) = w11 at *; generalize w10.heap.size = IB at *; have HBD := Lib.hid HAND.out.2.1) | (obtain ⟨IB, hIB⟩ : ∃ IB, IB = w9.heap.size := ⟨_, rfl⟩; have hal : w9.heap.size ≤ IB ∧ Below w9.heap.size w9 (w9.alloc (.cells #[.int .u64 0, .int .u64 0] 100)).drew ∧ (w9.alloc (.cells #[.int .u64 0, .int .u64 0] 100)).drew.heap[IB]? = some (.cells #[.int .u64 0, .int .u64 0] 100 (0, 0)) := ⟨Nat.le_of_eq hIB.symm, (below1 w9 _).drew, by rw [hIB]; exact heap_alloc_new _ _⟩; have HAL := Lib.hid hal; clear hal; go_simp; rw [← hIB]; clear hIB; generalize (w9.alloc (.cells #[.int .u64 0, .int .u64 0] 100)).drew = w11 at *; have HBD := Lib.hid HAL.out.2.1))
          refine hKq.out _ _ ?_ (fun hHeld => ?_)
          · exact HC9.out _ HBD.out
          clear hKq Kq
          (try simp only [Act.put, tC, tD, tE])
          exact REST _ _ HAND.out
        refine AllReadyH.cons (o := ⟨some 14, .alloc 100, 0, "outright.go:117", #[], none⟩) rfl (fun Kq hKq => ?_) AllReadyH.nil
        (first | (have hal : w9.heap.size ≤ w10.heap.size ∧ Below w9.heap.size w9 (w10.alloc (.cells #[.int .u64 0, .int .u64 0] 100)) ∧ (w10.alloc (.cells #[.int .u64 0, .int .u64 0] 100)).heap[w10.heap.size]? = some (.cells #[.int .u64 0, .int .u64 0] 100 (0, 0)) := ⟨HBC.out.size, HBC.out.trans ((below1 w10 _).mono HBC.out.size), heap_alloc_new _ _⟩; have HAND := Lib.hid hal; clear hal; go_simp; generalize w10.alloc (.cells #[.int .u64 0, .int .u64 0] 100) = w11 at *; generalize w10.heap.size = IB at *; have HBD := Lib.hid HAND.out.2.1) | (obtain ⟨IB, hIB⟩ : ∃ IB, IB = w9.heap.size := ⟨_, rfl⟩; have hal : w9.heap.size ≤ IB ∧ Below w9.heap.size w9 (w9.alloc (.cells #[.int .u64 0, .int .u64 0] 100)).drew ∧ (w9.alloc (.cells #[.int .u64 0, .int .u64 0] 100)).drew.heap[IB]? = some (.cells #[.int .u64 0, .int .u64 0] 100 (0, 0)) := ⟨Nat.le_of_eq hIB.symm, (below1 w9 _).drew, by rw [hIB]; exact heap_alloc_new _ _⟩; have HAL := Lib.hid hal; clear hal; go_simp; rw [← hIB]; clear hIB; generalize (w9.alloc (.cells #[.int .u64 0, .int .u64 0] 100)).drew = w11 at *; have HBD := Lib.hid HAL.out.2.1))
        refine hKq.out _ _ ?_ (fun hHeld => ?_)
        · exact HC9.out _ HBD.out
        clear hKq Kq
        (try simp only [Act.put, tC, tD, tE])
        refine wpAnyH_ready (rs := [5]) (by kernel_rfl) (by simp) ?_
        refine AllReadyH.cons (o := ⟨some 79, .call ⟨.value (.func 35), #[.tmp 77, .tmp 78], #[43, 97]⟩, 100, "outright.go:117", #[⟨3, .data⟩, ⟨4, .data⟩], none⟩) rfl (fun Kq hKq => ?_) AllReadyH.nil
        go_simp
        (refine (HT9.out _ (by first | exact HAL.out.2.1 | exact (Below.refl _ _).drew)).mono ?_; rintro e' w10 ⟨rfl, hb10⟩; (first | (have HAND : Hid (w9.heap.size ≤ IB ∧ Below w9.heap.size w9 w10 ∧ w10.heap[IB]? = some (.cells #[.int .u64 0, .int .u64 0] 100 (0, 0))) := Lib.hid ⟨HAL.out.1, HAL.out.2.1.trans (hb10.mono HAL.out.2.1.size), (hb10.block IB (heap_lt HAL.out.2.2)).trans HAL.out.2.2⟩; have HBC := Lib.hid HAND.out.2.1) | (have HBC : Hid (Below w9.heap.size w9 w10) := Lib.hid ((Below.refl _ _).drew.trans hb10))); clear hb10)
        refine hKq.out _ _ ?_ (fun hHeld => ?_)
        · exact HC9.out _ HBC.out
        clear hKq Kq
        (try simp only [Act.put, tC, tD, tE])
        exact REST _ _ HAND.out
      intro IB w12 hT
      have HT17 := Lib.hid hT
      have hHeld : (fun w' : World => w'.cell? ⟨WB, 4, none⟩ = some ts9 ∧ w'.cell? ⟨PB, 0, none⟩ = some (.int .i64 2) ∧ w'.cell? ⟨PB, 1, none⟩ = some (.int .i64 (pi : Int))) w12 := HC9.out _ HT17.out.2.1
      clear hT
      skip
      refine wpAnyH_ready (rs := [7]) (by kernel_rfl) (by simp) ?_
      refine AllReadyH.cons (o := ⟨none, .store 100 (.tmp 14) (.tmp 79), 0, "outright.go:117", #[⟨6, .data⟩, ⟨5, .data⟩, ⟨5, .chain⟩, ⟨0, .phase⟩, ⟨1, .phase⟩, ⟨2, .phase⟩, ⟨3, .phase⟩, ⟨4, .phase⟩, ⟨5, .phase⟩, ⟨6, .phase⟩], none⟩) rfl (fun Kq hKq => ?_) AllReadyH.nil
      (have q0 := cell_row HT17.out.2.2 0; have q1 := cell_row HT17.out.2.2 1; have f0 := froz_row HT17.out.2.2 0; have f1 := froz_row HT17.out.2.2 1; go_simp; clear q0 q1 f0 f1; have hst : Below w9.heap.size w9 ((w12.setCell ⟨IB, 0, none⟩ (.int .u64 ra)).setCell ⟨IB, 1, none⟩ (.int .u64 rf)) ∧ ((w12.setCell ⟨IB, 0, none⟩ (.int .u64 ra)).setCell ⟨IB, 1, none⟩ (.int .u64 rf)).heap[IB]? = some (.cells #[.int .u64 ra, .int .u64 rf] 100 (0, 0)) := ⟨(HT17.out.2.1.setCell (p := ⟨IB, 0, none⟩) HT17.out.1 _).setCell (p := ⟨IB, 1, none⟩) HT17.out.1 _, set_blk (set_blk HT17.out.2.2 0 _ _ rfl) 1 _ _ rfl⟩; have HST := Lib.hid hst; clear hst; generalize (w12.setCell ⟨IB, 0, none⟩ (.int .u64 ra)).setCell ⟨IB, 1, none⟩ (.int .u64 rf) = w13 at *)
      refine hKq.out _ _ ?_ (fun hHeld => ?_)
      · exact HC9.out _ HST.out.1
      clear hKq Kq
      (try simp only [Act.put, tC, tD, tE])
      refine wpAnyH_done (by kernel_rfl) ?_ _
      clear hHeld
      have HBW := Lib.hid HST.out.1
      have HIB := Lib.hid HST.out.2
      clear HT17 HT9 HC9
      obtain ⟨R9, hR9⟩ : ∃ R9, R9 = P9.R := ⟨_, rfl⟩
      have hgot := (H9.out.new HBW.out).got HP9.out.1
      rw [← hR9] at hgot
      have hfa : R9.fair = false := by rw [hR9]; exact HP9.out.2
      obtain ⟨rm, rmo, rfa, rth⟩ := R9
      obtain rfl : rfa = false := hfa
      have HGOT : Hid (Calls Tryz.prog 22 #[Pw B1] w13 fun e w' => e = .returned (.agg #[.int .i64 (rm : Int), .int .i64 0, .bool rmo, .bool false, .int .i64 rth]) ∧ Below w13.heap.size w13 w') := Lib.hid hgot
      have HDX := Lib.hid (HD9.out.new HBW.out)
      obtain ⟨kB9, hk9⟩ := HDX.out.left
      have hdl : M9.D.length = 1 := by rw [HF9.out.d]; show (if false = true then MP.D.tail else MP.D).length = _; rw [HDP.out.1]; rfl
      have HK9 : Hid (∀ W, Below w13.heap.size w13 W → W.cell? ⟨WB, 1, none⟩ = some (Pw kB9) ∧ Calls Tryz.prog 36 #[Pw kB9] W fun e w' => e = .returned (.int .i64 1) ∧ W = w') := Lib.hid (fun W hb => by have := hk9 W hb; rw [hdl] at this; exact this)
      clear hgot hR9 hk9 hdl
      have hfd := fldR (rm : Int) rth rmo false
      go_upto_region 20 with (first
        | (go_at_call 22; refine HGOT.out.mono ?_; rintro e w14 ⟨rfl, hb14⟩; have HB14 := Lib.hid hb14; have k14 := (HK9.out w14 hb14).1; clear hb14)
        | (go_at_call 36; refine (HK9.out w14 HB14.out).2.mono ?_; rintro e w15 ⟨rfl, rfl⟩))
      clear k14 hfd
      have HDY := Lib.hid (HDX.out.new HB14.out)
      have hib := (HB14.out.block IB (heap_lt HIB.out)).trans HIB.out
      have q0 := cell_row hib 0; have q1 := cell_row hib 1
      have htb := (HDY.out.partH (a := 3) rfl).1 (TB, _) List.mem_cons_self
      have t0 := cell_row htb 0; have t1 := cell_row htb 1
      have hra : ra = (at' : Int) := by rw [HRA.out.1, HF9.out.a]; exact HDP.out.2.2.1
      have hrf : rf = 0 := by rw [HRA.out.2, HF9.out.f]; exact HDP.out.2.2.2
      rw [hra] at q0
      rw [hrf] at q1
      have heq := eqTm (at' : Int)
      have HBL := Lib.hid HDY.out.bl
      clear hib htb hra hrf
      go_wp2_with (go_at_call 26; refine (HLW.out _ HBL.out).mono ?_; rintro e w16 ⟨rfl, hb16⟩; have HB16 := Lib.hid hb16; clear hb16)
      go_ret
      exact ⟨rfl, HB16.out⟩
end Go.Proofs.YtieiiabbeglmfaaGreatDoor.S19
