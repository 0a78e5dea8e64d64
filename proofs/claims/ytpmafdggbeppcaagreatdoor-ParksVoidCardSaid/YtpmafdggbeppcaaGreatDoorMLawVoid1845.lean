/- Texts of this seat, one behind the other. -/
import Derived.Test.YtpmafdggbeppcaaGreatDoorMLawVoid184
import Derived.Test.YtpmafdggbeppcaaGreatDoorMLawVoid1843
import Derived.Deep.RegionHeld3
import Derived.Deep.QuietTactic
import Derived.BigQuiet
set_option linter.unusedVariables false
set_option linter.unusedSimpArgs false
namespace Go.Proofs.YtpmafdggbeppcaaGreatDoor.S12
set_option maxRecDepth 100000
set_option maxHeartbeats 16000000
open Go.Proofs.YtpmafdggbeppcaaGreatDoor Go.Proofs.YtpmafdggbeppcaaGreatDoor.S11
open Go.RowKit
theorem rsteps_any {w : World} {RB rB pB : Nat} {n pn : Nat} (h0 : w.cell? ⟨RB, 0, none⟩ = some (Pw rB)) (h2 : w.cell? ⟨RB, 2, none⟩ = some (Pw pB)) (c : w.cell? ⟨rB, 1, none⟩ = some (.int .i64 (n : Int))) (p : w.cell? ⟨pB, 512, none⟩ = some (.int .i64 (pn : Int))) (h1 : n ≤ 1000000000) (h3 : pn ≤ 1000000000) :
    Calls Tryz.prog 101 #[Pw RB] w fun e w' => e = .returned (.int .i64 ((n + pn : Nat) : Int)) ∧ Below w.heap.size w w' := by
  have hw : IntKind.i64.wrap ((n : Int) + (pn : Int)) = ((n + pn : Nat) : Int) := by rw [IntKind.wrap_i64]; omega
  have hw2 : wrap64 ((n : Int) + (pn : Int)) = ((n + pn : Nat) : Int) := by unfold wrap64; omega
  go_enter Tryz.func101, Tryz.ntmps101
  go_wp2_with fail
  go_quiet (fail)
  go_wp2_with fail
  go_ret
  exact ⟨rfl, rfl, rfl, rfl, Nat.le_refl _, fun _ _ => rfl⟩
theorem eql131 (k a x y : Int) (w : World) : (binOp .eql 198 (.agg #[.int .u8 k, .int .u32 a, .int .u64 x, .int .u64 y]) (.agg #[.int .u8 k, .int .u32 a, .int .u64 x, .int .u64 y])).run Tryz.prog w = .ok (.bool true) w := by
  simp [go_sem, Tryz.underlying198]
def SameF (w2 : World) (B0 B1 WB RB cB kB nB rB rkB rpB rnB k a was is nl nc kl kc : Nat) (kd pp : Int) (nA kA : Option Addr) (w' : World) : Prop := Below w2.heap.size w2 w' ∧ w'.cell? ⟨B0, 0, none⟩ = some (Pw WB) ∧ w'.cell? ⟨B0, 1, none⟩ = some (Pw RB) ∧ w'.cell? ⟨B1, 0, none⟩ = some (.int .u8 kd) ∧ w'.cell? ⟨B1, 1, none⟩ = some (.int .i64 pp) ∧ w'.cell? ⟨WB, 0, none⟩ = some (Pw cB) ∧ w'.cell? ⟨WB, 1, none⟩ = some (Pw kB) ∧ w'.cell? ⟨WB, 5, none⟩ = some (Pw nB) ∧ w'.cell? ⟨RB, 0, none⟩ = some (Pw rB) ∧ w'.cell? ⟨RB, 1, none⟩ = some (Pw rkB) ∧ w'.cell? ⟨RB, 2, none⟩ = some (Pw rpB) ∧ w'.cell? ⟨RB, 5, none⟩ = some (Pw rnB) ∧ w'.cell? ⟨rB, 2, none⟩ = some (.int .u8 k) ∧ w'.cell? ⟨rB, 3, none⟩ = some (.int .u32 a) ∧ w'.cell? ⟨rB, 4, none⟩ = some (.int .u64 was) ∧ w'.cell? ⟨rB, 5, none⟩ = some (.int .u64 is) ∧ w'.cell? ⟨rpB, 513, none⟩ = some (.int .i64 kd) ∧ w'.cell? ⟨rpB, 514, none⟩ = some (.int .i64 pp) ∧ w'.cell? ⟨rnB, 0, none⟩ = some (.slice nA nl nc) ∧ w'.cell? ⟨rkB, 1, none⟩ = some (.slice kA kl kc)
theorem SameF.new {w2 w' w'' : World} {B0 B1 WB RB cB kB nB rB rkB rpB rnB k a was is nl nc kl kc : Nat} {kd pp : Int} {nA kA : Option Addr} (h : SameF w2 B0 B1 WB RB cB kB nB rB rkB rpB rnB k a was is nl nc kl kc kd pp nA kA w') (hb : Below w'.heap.size w' w'') : SameF w2 B0 B1 WB RB cB kB nB rB rkB rpB rnB k a was is nl nc kl kc kd pp nA kA w'' := by
  obtain ⟨hb0, c0, c1, c2, c3, c4, c5, c6, c7, c8, c9, c10, c11, c12, c13, c14, c15, c16, c17, c18⟩ := h
  exact ⟨hb0.trans (hb.mono hb0.size), bcell hb c0, bcell hb c1, bcell hb c2, bcell hb c3, bcell hb c4, bcell hb c5, bcell hb c6, bcell hb c7, bcell hb c8, bcell hb c9, bcell hb c10, bcell hb c11, bcell hb c12, bcell hb c13, bcell hb c14, bcell hb c15, bcell hb c16, bcell hb c17, bcell hb c18⟩
theorem pair_same {w0 w : World} {base WB RB N cn tn : Nat} {M : Sd} {E : List Part} {X : Wm} {Y : Rm} (h : Bg w0 w base WB RB N cn tn M M E X Y) (hc : cn ≤ 100000000) :
    Calls Tryz.prog 57 #[.agg #[Pw WB, Pw RB]] w fun e w' => e = .returned (.bool true) ∧ Below w.heap.size w w' := by
  have hb1 : Below w.heap.size w (w.alloc (.cells #[Pw WB, Pw RB] 27)) := (Below.refl _ _).alloc (Nat.le_refl _) _
  have hq0 := heap_alloc_new w (.cells #[Pw WB, Pw RB] 27)
  have h1 := h.new hb1
  obtain ⟨B0, hB0⟩ : ∃ B0, B0 = w.heap.size := ⟨_, rfl⟩
  rw [← hB0] at hq0
  have c0 := cell_row hq0 0; have c1 := cell_row hq0 1
  simp only [List.getElem?_toArray, List.getElem?_cons_zero, List.getElem?_cons_succ] at c0 c1
  have k2 := h1.pr.pw.c2
  rw [h1.wB] at k2
  have HL := Lib.hid (fun (W : World) (q : Below (w.alloc (.cells #[Pw WB, Pw RB] 27)).heap.size (w.alloc (.cells #[Pw WB, Pw RB] 27)) W) => S4.last_any (h1.new q).pr.pw.permits)
  have H1 := Lib.hid h1; have HB1 := Lib.hid hb1; have HQ0 := Lib.hid hq0
  have HB0 := Lib.hid hB0
  clear hb1 hq0 h1 h hB0
  go_enter Tryz.func57, Tryz.ntmps57
  go_upto_region 3 with (fail)
  rw [← HB0.out]
  generalize w.alloc (.cells #[Pw WB, Pw RB] 27) = w1 at *
  go_upto_region 4 with (go_at_call 99; refine (HL.out _ (Below.refl _ _)).mono ?_; rintro e wl ⟨rfl, hbl⟩)
  have hn := heap_alloc_new wl (.cells #[.int .u8 X.pk, .int .i64 X.pp] 180)
  have hbx : Below w1.heap.size w1 (wl.alloc (.cells #[.int .u8 X.pk, .int .i64 X.pp] 180)) := hbl.alloc hbl.size _
  have h2 := H1.out.new hbx
  have e0 := (hbx.block B0 (Array.getElem?_eq_some_iff.1 HQ0.out).1).trans HQ0.out
  obtain ⟨B1, hB1⟩ : ∃ B1, B1 = wl.heap.size := ⟨_, rfl⟩
  rw [← hB1] at hn ⊢
  have HBX := Lib.hid (HB1.out.trans (hbx.mono HB1.out.size))
  clear hbx hbl c0 c1 k2 HL
  generalize wl.alloc (.cells #[.int .u8 X.pk, .int .i64 X.pp] 180) = w2 at *
  have b0 := cell_row e0 0; have b1 := cell_row e0 1; have d0 := cell_row hn 0; have d1 := cell_row hn 1
  simp only [List.getElem?_toArray, List.getElem?_cons_zero, List.getElem?_cons_succ] at b0 b1 d0 d1
  obtain ⟨nA, nc, hns, _⟩ := h2.pr.rnotes.own.shape
  obtain ⟨kA, kc, hks, _⟩ := h2.pr.rclock.own
  have heq : X.sd = Y.sd := by rw [h2.xm, h2.ym]
  have e_n : X.n = Y.n := congrArg Sd.n heq
  have e_pn : X.pn = Y.pn := congrArg Sd.pn heq
  have e_k : X.k = Y.k := congrArg Sd.k heq
  have e_a : X.a = Y.a := congrArg Sd.a heq
  have e_was : X.was = Y.was := congrArg Sd.was heq
  have e_is : X.is = Y.is := congrArg Sd.is heq
  have e_pk : X.pk = Y.pk := congrArg Sd.pk heq
  have e_pp : X.pp = Y.pp := congrArg Sd.pp heq
  have e_nD : X.nD = Y.nD := congrArg Sd.nD heq
  have e_D : X.D = Y.D := congrArg Sd.D heq
  have hst : ∀ W, Below w2.heap.size w2 W → Calls Tryz.prog 100 #[Pw WB] W fun e w' => e = .returned (.int .i64 ((X.n + X.pn : Nat) : Int)) ∧ Below W.heap.size W w' := fun W q => by
    have := h2.new q
    rw [← this.wB]
    exact steps_any this.pr.pw (by have := h2.xn; omega) (by have := h2.pn; omega)
  have hrs : ∀ W, Below w2.heap.size w2 W → Calls Tryz.prog 101 #[Pw RB] W fun e w' => e = .returned (.int .i64 ((X.n + X.pn : Nat) : Int)) ∧ Below W.heap.size W w' := fun W q => by
    have g := h2.new q
    rw [← g.rB, e_n, e_pn]
    exact rsteps_any g.pr.r0 g.pr.r2 (cell_row g.pr.rcells.row 1) g.pr.rpermits.cn (by have := h2.yn; omega) (by have := h2.yp; omega)
  have hcl : ∀ W, Below w2.heap.size w2 W → Calls Tryz.prog 102 #[Pw X.cB] W fun e w' => e = .returned (.agg #[.int .u8 X.k, .int .u32 X.a, .int .u64 X.was, .int .u64 X.is]) ∧ Below W.heap.size W w' := fun W q => S2.last_any W _ _ _ _ _ _ _ _ (h2.new q).pr.pw.cells
  have hnc : ∀ W, Below w2.heap.size w2 W → Calls Tryz.prog 103 #[Pw X.nB] W fun e w' => e = .returned (.int .i64 (X.nD.length : Nat)) ∧ W = w' := fun W q => S11.count_any (h2.new q).pr.pw.notes
  have hlf : ∀ W, Below w2.heap.size w2 W → Calls Tryz.prog 104 #[Pw X.kB] W fun e w' => e = .returned (.int .i64 (X.D.length : Nat)) ∧ W = w' := fun W q => S3.left_any (h2.new q).pr.pw.clock
  have f4 := h2.pr.pw.c0; have f5 := h2.pr.pw.c1; have f6 := h2.pr.pw.c5
  have f7 := h2.pr.r0; have f8 := h2.pr.r1; have f9 := h2.pr.r2; have f10 := h2.pr.r5
  have f11 := cell_row h2.pr.rcells.row 2; have f12 := cell_row h2.pr.rcells.row 3; have f13 := cell_row h2.pr.rcells.row 4; have f14 := cell_row h2.pr.rcells.row 5
  simp only [List.getElem?_toArray, List.getElem?_cons_zero, List.getElem?_cons_succ] at f11 f12 f13 f14
  have f15 := h2.pr.rpermits.ck; have f16 := h2.pr.rpermits.cp
  have f17 := h2.pr.rnotes.cell
  have f18 := cell_row h2.pr.rclock.row 1
  simp only [List.getElem?_toArray, List.getElem?_cons_zero, List.getElem?_cons_succ] at f18
  rw [hns] at f17
  rw [hks] at f18
  rw [h2.wB] at f4 f5 f6
  rw [h2.rB] at f7 f8 f9 f10
  rw [← e_k] at f11; rw [← e_a] at f12; rw [← e_was] at f13; rw [← e_is] at f14; rw [← e_pk] at f15; rw [← e_pp] at f16; rw [← e_nD] at f17; rw [← e_D] at f18
  have hpk := h2.pkr
  have hwk : IntKind.i64.wrap X.pk = X.pk := by rw [IntKind.wrap_i64]; omega
  have hwk2 : wrap64 X.pk = X.pk := by unfold wrap64; omega
  obtain ⟨kB, hkB⟩ : ∃ x, x = X.kB := ⟨_, rfl⟩
  obtain ⟨cB, hcB⟩ : ∃ x, x = X.cB := ⟨_, rfl⟩
  obtain ⟨nB, hnB⟩ : ∃ x, x = X.nB := ⟨_, rfl⟩
  obtain ⟨rB, hrB⟩ : ∃ x, x = Y.rB := ⟨_, rfl⟩
  obtain ⟨rkB, hrkB⟩ : ∃ x, x = Y.kB := ⟨_, rfl⟩
  obtain ⟨rpB, hrpB⟩ : ∃ x, x = Y.pB := ⟨_, rfl⟩
  obtain ⟨rnB, hrnB⟩ : ∃ x, x = Y.nB := ⟨_, rfl⟩
  obtain ⟨k, hk⟩ : ∃ x, x = X.k := ⟨_, rfl⟩
  obtain ⟨a, ha⟩ : ∃ x, x = X.a := ⟨_, rfl⟩
  obtain ⟨was, hwas⟩ : ∃ x, x = X.was := ⟨_, rfl⟩
  obtain ⟨is, his⟩ : ∃ x, x = X.is := ⟨_, rfl⟩
  obtain ⟨nl, hnl⟩ : ∃ x, x = X.nD.length := ⟨_, rfl⟩
  obtain ⟨kl, hkl⟩ : ∃ x, x = X.D.length := ⟨_, rfl⟩
  obtain ⟨nn, hnn⟩ : ∃ x, x = X.n + X.pn := ⟨_, rfl⟩
  obtain ⟨kd, hkd⟩ : ∃ x, x = X.pk := ⟨_, rfl⟩
  obtain ⟨pp, hpp⟩ : ∃ x, x = X.pp := ⟨_, rfl⟩
  rw [← hnn] at hst hrs
  rw [← hcB, ← hk, ← ha, ← hwas, ← his] at hcl
  rw [← hnB, ← hnl] at hnc
  rw [← hkB, ← hkl] at hlf
  rw [← hcB] at f4; rw [← hkB] at f5; rw [← hnB] at f6; rw [← hrB] at f7 f11 f12 f13 f14; rw [← hrkB] at f8 f18; rw [← hrpB] at f9 f15 f16; rw [← hrnB] at f10 f17
  rw [← hk] at f11; rw [← ha] at f12; rw [← hwas] at f13; rw [← his] at f14; rw [← hkd] at f15 hwk hwk2 d0; rw [← hpp] at f16 d1; rw [← hnl] at f17; rw [← hkl] at f18
  have hev := fun W => eql131 k a was is W
  have HST := Lib.hid hst; have HRS := Lib.hid hrs; have HCL := Lib.hid hcl; have HNC := Lib.hid hnc; have HLF := Lib.hid hlf
  have HF : Hid (w2.drew.cell? ⟨B0, 0, none⟩ = some (Pw WB) ∧ w2.drew.cell? ⟨B0, 1, none⟩ = some (Pw RB) ∧ w2.drew.cell? ⟨B1, 0, none⟩ = some (.int .u8 kd) ∧ w2.drew.cell? ⟨B1, 1, none⟩ = some (.int .i64 pp) ∧ w2.drew.cell? ⟨WB, 0, none⟩ = some (Pw cB) ∧ w2.drew.cell? ⟨WB, 1, none⟩ = some (Pw kB) ∧ w2.drew.cell? ⟨WB, 5, none⟩ = some (Pw nB) ∧ w2.drew.cell? ⟨RB, 0, none⟩ = some (Pw rB) ∧ w2.drew.cell? ⟨RB, 1, none⟩ = some (Pw rkB) ∧ w2.drew.cell? ⟨RB, 2, none⟩ = some (Pw rpB) ∧ w2.drew.cell? ⟨RB, 5, none⟩ = some (Pw rnB) ∧ w2.drew.cell? ⟨rB, 2, none⟩ = some (.int .u8 k) ∧ w2.drew.cell? ⟨rB, 3, none⟩ = some (.int .u32 a) ∧ w2.drew.cell? ⟨rB, 4, none⟩ = some (.int .u64 was) ∧ w2.drew.cell? ⟨rB, 5, none⟩ = some (.int .u64 is) ∧ w2.drew.cell? ⟨rpB, 513, none⟩ = some (.int .i64 kd) ∧ w2.drew.cell? ⟨rpB, 514, none⟩ = some (.int .i64 pp) ∧ w2.drew.cell? ⟨rnB, 0, none⟩ = some (.slice nA nl nc) ∧ w2.drew.cell? ⟨rkB, 1, none⟩ = some (.slice kA kl kc)) := Lib.hid ⟨b0, b1, d0, d1, f4, f5, f6, f7, f8, f9, f10, f11, f12, f13, f14, f15, f16, f17, f18⟩
  clear hst hrs hcl hnc hlf b0 b1 d0 d1 f4 f5 f6 f7 f8 f9 f10 f11 f12 f13 f14 f15 f16 f17 f18 e0 hn h2 heq e_n e_pn e_k e_a e_was e_is e_pk e_pp e_nD e_D hns hks H1 HB1 HQ0 hpk hcB hkB hnB hrB hrkB hrpB hrnB hk ha hwas his hnl hkl hnn hkd hpp hB1 HB0 hc
  (try simp only [List.append_eq, List.cons_append, List.nil_append])
  refine wp_region_held_drew (S := fun w' => Below w2.heap.size w2 w' ∧ w'.cell? ⟨B0, 0, none⟩ = some (Pw WB) ∧ w'.cell? ⟨B0, 1, none⟩ = some (Pw RB) ∧ w'.cell? ⟨B1, 0, none⟩ = some (.int .u8 kd) ∧ w'.cell? ⟨B1, 1, none⟩ = some (.int .i64 pp) ∧ w'.cell? ⟨WB, 0, none⟩ = some (Pw cB) ∧ w'.cell? ⟨WB, 1, none⟩ = some (Pw kB) ∧ w'.cell? ⟨WB, 5, none⟩ = some (Pw nB) ∧ w'.cell? ⟨RB, 0, none⟩ = some (Pw rB) ∧ w'.cell? ⟨RB, 1, none⟩ = some (Pw rkB) ∧ w'.cell? ⟨RB, 2, none⟩ = some (Pw rpB) ∧ w'.cell? ⟨RB, 5, none⟩ = some (Pw rnB) ∧ w'.cell? ⟨rB, 2, none⟩ = some (.int .u8 k) ∧ w'.cell? ⟨rB, 3, none⟩ = some (.int .u32 a) ∧ w'.cell? ⟨rB, 4, none⟩ = some (.int .u64 was) ∧ w'.cell? ⟨rB, 5, none⟩ = some (.int .u64 is) ∧ w'.cell? ⟨rpB, 513, none⟩ = some (.int .i64 kd) ∧ w'.cell? ⟨rpB, 514, none⟩ = some (.int .i64 pp) ∧ w'.cell? ⟨rnB, 0, none⟩ = some (.slice nA nl nc) ∧ w'.cell? ⟨rkB, 1, none⟩ = some (.slice kA kl kc)) (by kernel_rfl) ?_ (fun hHeld => ?_)
  · exact ⟨(Below.refl _ _).drew, HF.out⟩
  refine tA 0 ⟨some 18, .fieldAddr 27 (.tmp 1) 0, 0, "help.go:108", #[], none⟩ ?vam1 ?ram1
  (try simp only [Act.put, tC, tD, tE])
  refine tA 1 ⟨some 19, .load 24 (.tmp 18), 24, "help.go:108", #[⟨0, .data⟩], none⟩ ?vam2 ?ram2
  (try simp only [Act.put, tC, tD, tE])
  refine tA 3 ⟨some 21, .fieldAddr 27 (.tmp 1) 1, 0, "help.go:108", #[], none⟩ ?vam3 ?ram3
  (try simp only [Act.put, tC, tD, tE])
  refine tA 4 ⟨some 22, .load 25 (.tmp 21), 25, "help.go:108", #[⟨3, .data⟩], none⟩ ?vam4 ?ram4
  (try simp only [Act.put, tC, tD, tE])
  refine wpAnyH_ready (rs := [2]) (by kernel_rfl) (by simp) ?_
  refine AllReadyH.cons (o := ⟨some 20, .call ⟨.value (.func 100), #[.tmp 19], #[24]⟩, 3, "help.go:108", #[⟨1, .data⟩], none⟩) rfl (fun Kq hKq => ?_) AllReadyH.nil
  go_simp
  (refine (HST.out _ hHeld.1).mono ?_; rintro e w3 ⟨rfl, hb⟩)
  refine hKq.out _ _ ?_ (fun hHeld => ?_)
  · exact SameF.new hHeld hb
  clear hKq Kq
  (try simp only [Act.put, tC, tD, tE])
  refine wpAnyH_ready (rs := [5]) (by kernel_rfl) (by simp) ?_
  refine AllReadyH.cons (o := ⟨some 23, .call ⟨.value (.func 101), #[.tmp 22], #[25]⟩, 3, "help.go:108", #[⟨4, .data⟩, ⟨2, .chain⟩], none⟩) rfl (fun Kq hKq => ?_) AllReadyH.nil
  go_simp
  (refine (HRS.out _ hHeld.1).mono ?_; rintro e w3 ⟨rfl, hb⟩)
  refine hKq.out _ _ ?_ (fun hHeld => ?_)
  · exact SameF.new hHeld hb
  clear hKq Kq
  (try simp only [Act.put, tC, tD, tE])
  refine tA 6 ⟨some 24, .binOp .eql 3 (.tmp 20) (.tmp 23) 3, 4, "help.go:108", #[⟨2, .data⟩, ⟨5, .data⟩], none⟩ ?vam5 ?ram5
  (try simp only [Act.put, tC, tD, tE])
  refine tA 7 ⟨some 25, .move (.tmp 24), 4, "help.go:108", #[⟨6, .data⟩, ⟨5, .chain⟩], none⟩ ?vam6 ?ram6
  (try simp only [Act.put, tC, tD, tE])
  refine tA 8 ⟨some 26, .fieldAddr 27 (.tmp 1) 0, 0, "help.go:108", #[⟨7, .guard⟩], some (7, true)⟩ ?vam7 ?ram7
  (try simp only [Act.put, tC, tD, tE])
  refine tA 9 ⟨some 27, .load 24 (.tmp 26), 24, "help.go:108", #[⟨8, .data⟩, ⟨7, .guard⟩], some (7, true)⟩ ?vam8 ?ram8
  (try simp only [Act.put, tC, tD, tE])
  refine tA 10 ⟨some 28, .nilCheck (.tmp 27), 0, "help.go:108", #[⟨9, .data⟩, ⟨7, .guard⟩], some (7, true)⟩ ?vam9 ?ram9
  (try simp only [Act.put, tC, tD, tE])
  refine tA 11 ⟨some 29, .fieldAddr 74 (.tmp 28) 0, 0, "help.go:108", #[⟨10, .data⟩, ⟨7, .guard⟩], some (7, true)⟩ ?vam10 ?ram10
  (try simp only [Act.put, tC, tD, tE])
  refine tA 12 ⟨some 30, .load 66 (.tmp 29), 66, "help.go:108", #[⟨11, .data⟩, ⟨7, .guard⟩], some (7, true)⟩ ?vam11 ?ram11
  (try simp only [Act.put, tC, tD, tE])
  refine tA 14 ⟨some 32, .fieldAddr 27 (.tmp 1) 1, 0, "help.go:108", #[⟨7, .guard⟩], some (7, true)⟩ ?vam12 ?ram12
  (try simp only [Act.put, tC, tD, tE])
  refine tA 15 ⟨some 33, .load 25 (.tmp 32), 25, "help.go:108", #[⟨14, .data⟩, ⟨7, .guard⟩], some (7, true)⟩ ?vam13 ?ram13
  (try simp only [Act.put, tC, tD, tE])
  refine tA 16 ⟨some 34, .nilCheck (.tmp 33), 0, "help.go:108", #[⟨15, .data⟩, ⟨7, .guard⟩], some (7, true)⟩ ?vam14 ?ram14
  (try simp only [Act.put, tC, tD, tE])
  refine tA 17 ⟨some 35, .fieldAddr 82 (.tmp 34) 0, 0, "help.go:108", #[⟨16, .data⟩, ⟨7, .guard⟩], some (7, true)⟩ ?vam15 ?ram15
  (try simp only [Act.put, tC, tD, tE])
  refine tA 18 ⟨some 36, .load 75 (.tmp 35), 75, "help.go:108", #[⟨17, .data⟩, ⟨7, .guard⟩], some (7, true)⟩ ?vam16 ?ram16
  (try simp only [Act.put, tC, tD, tE])
  refine tA 19 ⟨some 37, .nilCheck (.tmp 36), 0, "help.go:108", #[⟨18, .data⟩, ⟨7, .guard⟩], some (7, true)⟩ ?vam17 ?ram17
  (try simp only [Act.put, tC, tD, tE])
  refine tA 20 ⟨some 38, .fieldAddr 242 (.tmp 37) 2, 0, "help.go:108", #[⟨19, .data⟩, ⟨7, .guard⟩], some (7, true)⟩ ?vam18 ?ram18
  (try simp only [Act.put, tC, tD, tE])
  refine tA 21 ⟨some 39, .load 198 (.tmp 38), 198, "help.go:108", #[⟨20, .data⟩, ⟨7, .guard⟩], some (7, true)⟩ ?vam19 ?ram19
  (try simp only [Act.put, tC, tD, tE])
  refine wpAnyH_ready (rs := [13]) (by kernel_rfl) (by simp) ?_
  refine AllReadyH.cons (o := ⟨some 31, .call ⟨.value (.func 102), #[.tmp 30], #[66]⟩, 198, "help.go:108", #[⟨12, .data⟩, ⟨7, .chain⟩, ⟨7, .guard⟩], some (7, true)⟩) rfl (fun Kq hKq => ?_) AllReadyH.nil
  go_simp
  (refine (HCL.out _ hHeld.1).mono ?_; rintro e w3 ⟨rfl, hb⟩)
  refine hKq.out _ _ ?_ (fun hHeld => ?_)
  · exact SameF.new hHeld hb
  clear hKq Kq
  (try simp only [Act.put, tC, tD, tE])
  refine tA 22 ⟨some 40, .binOp .eql 198 (.tmp 31) (.tmp 39) 198, 4, "help.go:108", #[⟨13, .data⟩, ⟨21, .data⟩, ⟨7, .guard⟩], some (7, true)⟩ ?vam20 ?ram20
  (try simp only [Act.put, tC, tD, tE])
  refine tA 23 ⟨some 41, .pick (.tmp 25) (.tmp 40) (.const (.bool false)), 4, "help.go:108", #[⟨7, .data⟩, ⟨22, .data⟩], none⟩ ?vam21 ?ram21
  (try simp only [Act.put, tC, tD, tE])
  refine tA 24 ⟨some 42, .move (.tmp 41), 4, "help.go:108", #[⟨23, .data⟩, ⟨13, .chain⟩], none⟩ ?vam22 ?ram22
  (try simp only [Act.put, tC, tD, tE])
  refine tA 25 ⟨some 43, .fieldAddr 180 (.tmp 3) 0, 0, "help.go:108", #[⟨24, .guard⟩], some (24, true)⟩ ?vam23 ?ram23
  (try simp only [Act.put, tC, tD, tE])
  refine tA 26 ⟨some 44, .load 178 (.tmp 43), 178, "help.go:108", #[⟨25, .data⟩, ⟨24, .guard⟩], some (24, true)⟩ ?vam24 ?ram24
  (try simp only [Act.put, tC, tD, tE])
  refine tA 27 ⟨some 45, .convert 178 3 (.tmp 44), 3, "help.go:108", #[⟨26, .data⟩, ⟨24, .guard⟩], some (24, true)⟩ ?vam25 ?ram25
  (try simp only [Act.put, tC, tD, tE])
  refine tA 28 ⟨some 46, .fieldAddr 27 (.tmp 1) 1, 0, "help.go:108", #[⟨24, .guard⟩], some (24, true)⟩ ?vam26 ?ram26
  (try simp only [Act.put, tC, tD, tE])
  refine tA 29 ⟨some 47, .load 25 (.tmp 46), 25, "help.go:108", #[⟨28, .data⟩, ⟨24, .guard⟩], some (24, true)⟩ ?vam27 ?ram27
  (try simp only [Act.put, tC, tD, tE])
  refine tA 30 ⟨some 48, .nilCheck (.tmp 47), 0, "help.go:108", #[⟨29, .data⟩, ⟨24, .guard⟩], some (24, true)⟩ ?vam28 ?ram28
  (try simp only [Act.put, tC, tD, tE])
  refine tA 31 ⟨some 49, .fieldAddr 82 (.tmp 48) 2, 0, "help.go:108", #[⟨30, .data⟩, ⟨24, .guard⟩], some (24, true)⟩ ?vam29 ?ram29
  (try simp only [Act.put, tC, tD, tE])
  refine tA 32 ⟨some 50, .load 77 (.tmp 49), 77, "help.go:108", #[⟨31, .data⟩, ⟨24, .guard⟩], some (24, true)⟩ ?vam30 ?ram30
  (try simp only [Act.put, tC, tD, tE])
  refine tA 33 ⟨some 51, .nilCheck (.tmp 50), 0, "help.go:108", #[⟨32, .data⟩, ⟨24, .guard⟩], some (24, true)⟩ ?vam31 ?ram31
  (try simp only [Act.put, tC, tD, tE])
  refine tA 34 ⟨some 52, .fieldAddr 165 (.tmp 51) 2, 0, "help.go:108", #[⟨33, .data⟩, ⟨24, .guard⟩], some (24, true)⟩ ?vam32 ?ram32
  (try simp only [Act.put, tC, tD, tE])
  refine tA 35 ⟨some 53, .load 3 (.tmp 52), 3, "help.go:108", #[⟨34, .data⟩, ⟨24, .guard⟩], some (24, true)⟩ ?vam33 ?ram33
  (try simp only [Act.put, tC, tD, tE])
  refine tA 36 ⟨some 54, .binOp .eql 3 (.tmp 45) (.tmp 53) 3, 4, "help.go:108", #[⟨27, .data⟩, ⟨35, .data⟩, ⟨24, .guard⟩], some (24, true)⟩ ?vam34 ?ram34
  (try simp only [Act.put, tC, tD, tE])
  refine tA 37 ⟨some 55, .pick (.tmp 42) (.tmp 54) (.const (.bool false)), 4, "help.go:108", #[⟨24, .data⟩, ⟨36, .data⟩], none⟩ ?vam35 ?ram35
  (try simp only [Act.put, tC, tD, tE])
  refine tA 38 ⟨some 56, .move (.tmp 55), 4, "help.go:108", #[⟨37, .data⟩, ⟨24, .chain⟩], none⟩ ?vam36 ?ram36
  (try simp only [Act.put, tC, tD, tE])
  refine tA 39 ⟨some 57, .fieldAddr 180 (.tmp 3) 1, 0, "help.go:108", #[⟨38, .guard⟩], some (38, true)⟩ ?vam37 ?ram37
  (try simp only [Act.put, tC, tD, tE])
  refine tA 40 ⟨some 58, .load 3 (.tmp 57), 3, "help.go:108", #[⟨39, .data⟩, ⟨38, .guard⟩], some (38, true)⟩ ?vam38 ?ram38
  (try simp only [Act.put, tC, tD, tE])
  refine tA 41 ⟨some 59, .fieldAddr 27 (.tmp 1) 1, 0, "help.go:108", #[⟨38, .guard⟩], some (38, true)⟩ ?vam39 ?ram39
  (try simp only [Act.put, tC, tD, tE])
  refine tA 42 ⟨some 60, .load 25 (.tmp 59), 25, "help.go:108", #[⟨41, .data⟩, ⟨38, .guard⟩], some (38, true)⟩ ?vam40 ?ram40
  (try simp only [Act.put, tC, tD, tE])
  refine tA 43 ⟨some 61, .nilCheck (.tmp 60), 0, "help.go:108", #[⟨42, .data⟩, ⟨38, .guard⟩], some (38, true)⟩ ?vam41 ?ram41
  (try simp only [Act.put, tC, tD, tE])
  refine tA 44 ⟨some 62, .fieldAddr 82 (.tmp 61) 2, 0, "help.go:108", #[⟨43, .data⟩, ⟨38, .guard⟩], some (38, true)⟩ ?vam42 ?ram42
  (try simp only [Act.put, tC, tD, tE])
  refine tA 45 ⟨some 63, .load 77 (.tmp 62), 77, "help.go:108", #[⟨44, .data⟩, ⟨38, .guard⟩], some (38, true)⟩ ?vam43 ?ram43
  (try simp only [Act.put, tC, tD, tE])
  refine tA 46 ⟨some 64, .nilCheck (.tmp 63), 0, "help.go:108", #[⟨45, .data⟩, ⟨38, .guard⟩], some (38, true)⟩ ?vam44 ?ram44
  (try simp only [Act.put, tC, tD, tE])
  refine tA 47 ⟨some 65, .fieldAddr 165 (.tmp 64) 3, 0, "help.go:108", #[⟨46, .data⟩, ⟨38, .guard⟩], some (38, true)⟩ ?vam45 ?ram45
  (try simp only [Act.put, tC, tD, tE])
  refine tA 48 ⟨some 66, .load 3 (.tmp 65), 3, "help.go:108", #[⟨47, .data⟩, ⟨38, .guard⟩], some (38, true)⟩ ?vam46 ?ram46
  (try simp only [Act.put, tC, tD, tE])
  refine tA 49 ⟨some 67, .binOp .eql 3 (.tmp 58) (.tmp 66) 3, 4, "help.go:108", #[⟨40, .data⟩, ⟨48, .data⟩, ⟨38, .guard⟩], some (38, true)⟩ ?vam47 ?ram47
  (try simp only [Act.put, tC, tD, tE])
  refine tA 50 ⟨some 68, .pick (.tmp 56) (.tmp 67) (.const (.bool false)), 4, "help.go:108", #[⟨38, .data⟩, ⟨49, .data⟩], none⟩ ?vam48 ?ram48
  (try simp only [Act.put, tC, tD, tE])
  refine tA 51 ⟨some 69, .move (.tmp 68), 4, "help.go:108", #[⟨50, .data⟩, ⟨38, .chain⟩], none⟩ ?vam49 ?ram49
  (try simp only [Act.put, tC, tD, tE])
  refine tA 52 ⟨some 70, .fieldAddr 27 (.tmp 1) 0, 0, "help.go:108", #[⟨51, .guard⟩], some (51, true)⟩ ?vam50 ?ram50
  (try simp only [Act.put, tC, tD, tE])
  refine tA 53 ⟨some 71, .load 24 (.tmp 70), 24, "help.go:108", #[⟨52, .data⟩, ⟨51, .guard⟩], some (51, true)⟩ ?vam51 ?ram51
  (try simp only [Act.put, tC, tD, tE])
  refine tA 54 ⟨some 72, .nilCheck (.tmp 71), 0, "help.go:108", #[⟨53, .data⟩, ⟨51, .guard⟩], some (51, true)⟩ ?vam52 ?ram52
  (try simp only [Act.put, tC, tD, tE])
  refine tA 55 ⟨some 73, .fieldAddr 74 (.tmp 72) 5, 0, "help.go:108", #[⟨54, .data⟩, ⟨51, .guard⟩], some (51, true)⟩ ?vam53 ?ram53
  (try simp only [Act.put, tC, tD, tE])
  refine tA 56 ⟨some 74, .load 71 (.tmp 73), 71, "help.go:108", #[⟨55, .data⟩, ⟨51, .guard⟩], some (51, true)⟩ ?vam54 ?ram54
  (try simp only [Act.put, tC, tD, tE])
  refine tA 58 ⟨some 76, .fieldAddr 27 (.tmp 1) 1, 0, "help.go:108", #[⟨51, .guard⟩], some (51, true)⟩ ?vam55 ?ram55
  (try simp only [Act.put, tC, tD, tE])
  refine tA 59 ⟨some 77, .load 25 (.tmp 76), 25, "help.go:108", #[⟨58, .data⟩, ⟨51, .guard⟩], some (51, true)⟩ ?vam56 ?ram56
  (try simp only [Act.put, tC, tD, tE])
  refine tA 60 ⟨some 78, .nilCheck (.tmp 77), 0, "help.go:108", #[⟨59, .data⟩, ⟨51, .guard⟩], some (51, true)⟩ ?vam57 ?ram57
  (try simp only [Act.put, tC, tD, tE])
  refine tA 61 ⟨some 79, .fieldAddr 82 (.tmp 78) 5, 0, "help.go:108", #[⟨60, .data⟩, ⟨51, .guard⟩], some (51, true)⟩ ?vam58 ?ram58
  (try simp only [Act.put, tC, tD, tE])
  refine tA 62 ⟨some 80, .load 80 (.tmp 79), 80, "help.go:108", #[⟨61, .data⟩, ⟨51, .guard⟩], some (51, true)⟩ ?vam59 ?ram59
  (try simp only [Act.put, tC, tD, tE])
  refine tA 63 ⟨some 81, .nilCheck (.tmp 80), 0, "help.go:108", #[⟨62, .data⟩, ⟨51, .guard⟩], some (51, true)⟩ ?vam60 ?ram60
  (try simp only [Act.put, tC, tD, tE])
  refine tA 64 ⟨some 82, .fieldAddr 158 (.tmp 81) 0, 0, "help.go:108", #[⟨63, .data⟩, ⟨51, .guard⟩], some (51, true)⟩ ?vam61 ?ram61
  (try simp only [Act.put, tC, tD, tE])
  refine tA 65 ⟨some 83, .load 156 (.tmp 82), 156, "help.go:108", #[⟨64, .data⟩, ⟨51, .guard⟩], some (51, true)⟩ ?vam62 ?ram62
  (try simp only [Act.put, tC, tD, tE])
  refine tA 66 ⟨some 84, .call ⟨.builtin .len, #[.tmp 83], #[156]⟩, 3, "help.go:108", #[⟨65, .data⟩, ⟨51, .guard⟩], some (51, true)⟩ ?vam63 ?ram63
  (try simp only [Act.put, tC, tD, tE])
  refine wpAnyH_ready (rs := [57]) (by kernel_rfl) (by simp) ?_
  refine AllReadyH.cons (o := ⟨some 75, .call ⟨.value (.func 103), #[.tmp 74], #[71]⟩, 3, "help.go:108", #[⟨56, .data⟩, ⟨51, .chain⟩, ⟨51, .guard⟩], some (51, true)⟩) rfl (fun Kq hKq => ?_) AllReadyH.nil
  go_simp
  (refine (HNC.out _ hHeld.1).mono ?_; rintro e w3 ⟨rfl, rfl⟩)
  refine hKq.out _ _ ?_ (fun hHeld => ?_)
  · exact hHeld
  clear hKq Kq
  (try simp only [Act.put, tC, tD, tE])
  refine tA 67 ⟨some 85, .binOp .eql 3 (.tmp 75) (.tmp 84) 3, 4, "help.go:108", #[⟨57, .data⟩, ⟨66, .data⟩, ⟨51, .guard⟩], some (51, true)⟩ ?vam64 ?ram64
  (try simp only [Act.put, tC, tD, tE])
  refine tA 68 ⟨some 86, .pick (.tmp 69) (.tmp 85) (.const (.bool false)), 4, "help.go:108", #[⟨51, .data⟩, ⟨67, .data⟩], none⟩ ?vam65 ?ram65
  (try simp only [Act.put, tC, tD, tE])
  refine tA 69 ⟨some 87, .move (.tmp 86), 4, "help.go:108", #[⟨68, .data⟩, ⟨57, .chain⟩], none⟩ ?vam66 ?ram66
  (try simp only [Act.put, tC, tD, tE])
  refine tA 70 ⟨some 88, .fieldAddr 27 (.tmp 1) 0, 0, "help.go:108", #[⟨69, .guard⟩], some (69, true)⟩ ?vam67 ?ram67
  (try simp only [Act.put, tC, tD, tE])
  refine tA 71 ⟨some 89, .load 24 (.tmp 88), 24, "help.go:108", #[⟨70, .data⟩, ⟨69, .guard⟩], some (69, true)⟩ ?vam68 ?ram68
  (try simp only [Act.put, tC, tD, tE])
  refine tA 72 ⟨some 90, .nilCheck (.tmp 89), 0, "help.go:108", #[⟨71, .data⟩, ⟨69, .guard⟩], some (69, true)⟩ ?vam69 ?ram69
  (try simp only [Act.put, tC, tD, tE])
  refine tA 73 ⟨some 91, .fieldAddr 74 (.tmp 90) 1, 0, "help.go:108", #[⟨72, .data⟩, ⟨69, .guard⟩], some (69, true)⟩ ?vam70 ?ram70
  (try simp only [Act.put, tC, tD, tE])
  refine tA 74 ⟨some 92, .load 67 (.tmp 91), 67, "help.go:108", #[⟨73, .data⟩, ⟨69, .guard⟩], some (69, true)⟩ ?vam71 ?ram71
  (try simp only [Act.put, tC, tD, tE])
  refine tA 76 ⟨some 94, .fieldAddr 27 (.tmp 1) 1, 0, "help.go:108", #[⟨69, .guard⟩], some (69, true)⟩ ?vam72 ?ram72
  (try simp only [Act.put, tC, tD, tE])
  refine tA 77 ⟨some 95, .load 25 (.tmp 94), 25, "help.go:108", #[⟨76, .data⟩, ⟨69, .guard⟩], some (69, true)⟩ ?vam73 ?ram73
  (try simp only [Act.put, tC, tD, tE])
  refine tA 78 ⟨some 96, .nilCheck (.tmp 95), 0, "help.go:108", #[⟨77, .data⟩, ⟨69, .guard⟩], some (69, true)⟩ ?vam74 ?ram74
  (try simp only [Act.put, tC, tD, tE])
  refine tA 79 ⟨some 97, .fieldAddr 82 (.tmp 96) 1, 0, "help.go:108", #[⟨78, .data⟩, ⟨69, .guard⟩], some (69, true)⟩ ?vam75 ?ram75
  (try simp only [Act.put, tC, tD, tE])
  refine tA 80 ⟨some 98, .load 76 (.tmp 97), 76, "help.go:108", #[⟨79, .data⟩, ⟨69, .guard⟩], some (69, true)⟩ ?vam76 ?ram76
  (try simp only [Act.put, tC, tD, tE])
  refine tA 81 ⟨some 99, .nilCheck (.tmp 98), 0, "help.go:108", #[⟨80, .data⟩, ⟨69, .guard⟩], some (69, true)⟩ ?vam77 ?ram77
  (try simp only [Act.put, tC, tD, tE])
  refine tA 82 ⟨some 100, .fieldAddr 160 (.tmp 99) 1, 0, "help.go:108", #[⟨81, .data⟩, ⟨69, .guard⟩], some (69, true)⟩ ?vam78 ?ram78
  (try simp only [Act.put, tC, tD, tE])
  refine tA 83 ⟨some 101, .load 30 (.tmp 100), 30, "help.go:108", #[⟨82, .data⟩, ⟨69, .guard⟩], some (69, true)⟩ ?vam79 ?ram79
  (try simp only [Act.put, tC, tD, tE])
  refine tA 84 ⟨some 102, .call ⟨.builtin .len, #[.tmp 101], #[30]⟩, 3, "help.go:108", #[⟨83, .data⟩, ⟨69, .guard⟩], some (69, true)⟩ ?vam80 ?ram80
  (try simp only [Act.put, tC, tD, tE])
  refine wpAnyH_ready (rs := [75]) (by kernel_rfl) (by simp) ?_
  refine AllReadyH.cons (o := ⟨some 93, .call ⟨.value (.func 104), #[.tmp 92], #[67]⟩, 3, "help.go:108", #[⟨74, .data⟩, ⟨69, .chain⟩, ⟨69, .guard⟩], some (69, true)⟩) rfl (fun Kq hKq => ?_) AllReadyH.nil
  go_simp
  (refine (HLF.out _ hHeld.1).mono ?_; rintro e w3 ⟨rfl, rfl⟩)
  refine hKq.out _ _ ?_ (fun hHeld => ?_)
  · exact hHeld
  clear hKq Kq
  (try simp only [Act.put, tC, tD, tE])
  refine tA 85 ⟨some 103, .binOp .eql 3 (.tmp 93) (.tmp 102) 3, 4, "help.go:108", #[⟨75, .data⟩, ⟨84, .data⟩, ⟨69, .guard⟩], some (69, true)⟩ ?vam81 ?ram81
  (try simp only [Act.put, tC, tD, tE])
  refine tA 86 ⟨some 104, .pick (.tmp 87) (.tmp 103) (.const (.bool false)), 4, "help.go:108", #[⟨69, .data⟩, ⟨85, .data⟩], none⟩ ?vam82 ?ram82
  (try simp only [Act.put, tC, tD, tE])
  refine wpAnyH_take (i := 87) (oi := ({ dst := some 2, op := Op.assign (Operand.tmp 104), type := 4, pos := "help.go:108", after := ([{ on := 86, ground := Ground.data }, { on := 75, ground := Ground.chain }, { on := 0, ground := Ground.phase }, { on := 1, ground := Ground.phase }, { on := 2, ground := Ground.phase }, { on := 3, ground := Ground.phase }, { on := 4, ground := Ground.phase }, { on := 5, ground := Ground.phase }, { on := 6, ground := Ground.phase }, { on := 7, ground := Ground.phase }, { on := 8, ground := Ground.phase }, { on := 9, ground := Ground.phase }, { on := 10, ground := Ground.phase }, { on := 11, ground := Ground.phase }, { on := 12, ground := Ground.phase }, { on := 13, ground := Ground.phase }, { on := 14, ground := Ground.phase }, { on := 15, ground := Ground.phase }, { on := 16, ground := Ground.phase }, { on := 17, ground := Ground.phase }, { on := 18, ground := Ground.phase }, { on := 19, ground := Ground.phase }, { on := 20, ground := Ground.phase }, { on := 21, ground := Ground.phase }, { on := 22, ground := Ground.phase }, { on := 23, ground := Ground.phase }, { on := 24, ground := Ground.phase }, { on := 25, ground := Ground.phase }, { on := 26, ground := Ground.phase }, { on := 27, ground := Ground.phase }, { on := 28, ground := Ground.phase }, { on := 29, ground := Ground.phase }, { on := 30, ground := Ground.phase }, { on := 31, ground := Ground.phase }, { on := 32, ground := Ground.phase }, { on := 33, ground := Ground.phase }, { on := 34, ground := Ground.phase }, { on := 35, ground := Ground.phase }, { on := 36, ground := Ground.phase }, { on := 37, ground := Ground.phase }, { on := 38, ground := Ground.phase }, { on := 39, ground := Ground.phase }, { on := 40, ground := Ground.phase }, { on := 41, ground := Ground.phase }].append [{ on := 42, ground := Ground.phase }, { on := 43, ground := Ground.phase }, { on := 44, ground := Ground.phase }, { on := 45, ground := Ground.phase }, { on := 46, ground := Ground.phase }, { on := 47, ground := Ground.phase }, { on := 48, ground := Ground.phase }, { on := 49, ground := Ground.phase }, { on := 50, ground := Ground.phase }, { on := 51, ground := Ground.phase }, { on := 52, ground := Ground.phase }, { on := 53, ground := Ground.phase }, { on := 54, ground := Ground.phase }, { on := 55, ground := Ground.phase }, { on := 56, ground := Ground.phase }, { on := 57, ground := Ground.phase }, { on := 58, ground := Ground.phase }, { on := 59, ground := Ground.phase }, { on := 60, ground := Ground.phase }, { on := 61, ground := Ground.phase }, { on := 62, ground := Ground.phase }, { on := 63, ground := Ground.phase }, { on := 64, ground := Ground.phase }, { on := 65, ground := Ground.phase }, { on := 66, ground := Ground.phase }, { on := 67, ground := Ground.phase }, { on := 68, ground := Ground.phase }, { on := 69, ground := Ground.phase }, { on := 70, ground := Ground.phase }, { on := 71, ground := Ground.phase }, { on := 72, ground := Ground.phase }, { on := 73, ground := Ground.phase }, { on := 74, ground := Ground.phase }, { on := 75, ground := Ground.phase }, { on := 76, ground := Ground.phase }, { on := 77, ground := Ground.phase }, { on := 78, ground := Ground.phase }, { on := 79, ground := Ground.phase }, { on := 80, ground := Ground.phase }, { on := 81, ground := Ground.phase }, { on := 82, ground := Ground.phase }, { on := 83, ground := Ground.phase }, { on := 84, ground := Ground.phase }, { on := 85, ground := Ground.phase }, { on := 86, ground := Ground.phase }]).toArray, guard := none } : Oper)) (v := ?vam83) rfl (by kernel_rfl) (by kernel_rfl) (by kernel_rfl) (fun _ _ _ h => h) (Or.inl ⟨by rfl, fun w hSw => ?hyam83⟩) (by assumption) ?ram83
  case hyam83 => (try dsimp only at hSw); go_simp; (try with_reducible rfl)
  (try simp only [Act.put, tC, tD, tE])
  refine wpAnyH_done (by kernel_rfl) ?_ _
  go_wp2_with fail
  go_ret
  exact ⟨rfl, HBX.out.trans (hHeld.1.mono HBX.out.size)⟩
end Go.Proofs.YtpmafdggbeppcaaGreatDoor.S12
