import Derived.Test.YtdodloannlfnlaaGreatTK
import Derived.Test.YtdodloannlfnlaaGreatE26
import Derived.Deep.RegionHeld3
import Derived.Deep.QuietTactic
import Derived.BigQuiet
set_option linter.unusedVariables false
set_option linter.unusedSimpArgs false
namespace Go.Proofs.YtdodloannlfnlaaGreat.S12
set_option maxRecDepth 100000
set_option maxHeartbeats 16000000
open Go.Proofs.YtdodloannlfnlaaGreat Go.Proofs.YtdodloannlfnlaaGreat.S11
open Go.RowKit
theorem rsteps_any {w : World} {RB rB pB : Nat} {n pn : Nat} (h0 : w.cell? ⟨RB, 0, none⟩ = some (Pw rB)) (h2 : w.cell? ⟨RB, 2, none⟩ = some (Pw pB)) (c : w.cell? ⟨rB, 1, none⟩ = some (.int .i64 (n : Int))) (p : w.cell? ⟨pB, 512, none⟩ = some (.int .i64 (pn : Int))) (h1 : n ≤ 1000000000) (h3 : pn ≤ 1000000000) :
    Calls Tryz.prog 64 #[Pw RB] w fun e w' => e = .returned (.int .i64 ((n + pn : Nat) : Int)) ∧ Below w.heap.size w w' := by
  have hw : IntKind.i64.wrap ((n : Int) + (pn : Int)) = ((n + pn : Nat) : Int) := by rw [IntKind.wrap_i64]; omega
  have hw2 : wrap64 ((n : Int) + (pn : Int)) = ((n + pn : Nat) : Int) := by unfold wrap64; omega
  go_enter Tryz.func64, Tryz.ntmps64
  go_wp2_with fail
  go_quiet (fail)
  go_wp2_with fail
  go_ret
  exact ⟨rfl, rfl, rfl, rfl, Nat.le_refl _, fun _ _ => rfl⟩
theorem eql131 (k a x y : Int) (w : World) : (binOp .eql 173 (.agg #[.int .u8 k, .int .u32 a, .int .u64 x, .int .u64 y]) (.agg #[.int .u8 k, .int .u32 a, .int .u64 x, .int .u64 y])).run Tryz.prog w = .ok (.bool true) w := by
  simp [go_sem, Tryz.underlying173]
def SameF (w2 : World) (B0 B1 WB RB cB kB nB rB rkB rpB rnB k a was is nl nc kl kc : Nat) (kd pp : Int) (nA kA : Option Addr) (w' : World) : Prop := Below w2.heap.size w2 w' ∧ w'.cell? ⟨B0, 0, none⟩ = some (Pw WB) ∧ w'.cell? ⟨B0, 1, none⟩ = some (Pw RB) ∧ w'.cell? ⟨B1, 0, none⟩ = some (.int .u8 kd) ∧ w'.cell? ⟨B1, 1, none⟩ = some (.int .i64 pp) ∧ w'.cell? ⟨WB, 0, none⟩ = some (Pw cB) ∧ w'.cell? ⟨WB, 1, none⟩ = some (Pw kB) ∧ w'.cell? ⟨WB, 5, none⟩ = some (Pw nB) ∧ w'.cell? ⟨RB, 0, none⟩ = some (Pw rB) ∧ w'.cell? ⟨RB, 1, none⟩ = some (Pw rkB) ∧ w'.cell? ⟨RB, 2, none⟩ = some (Pw rpB) ∧ w'.cell? ⟨RB, 5, none⟩ = some (Pw rnB) ∧ w'.cell? ⟨rB, 2, none⟩ = some (.int .u8 k) ∧ w'.cell? ⟨rB, 3, none⟩ = some (.int .u32 a) ∧ w'.cell? ⟨rB, 4, none⟩ = some (.int .u64 was) ∧ w'.cell? ⟨rB, 5, none⟩ = some (.int .u64 is) ∧ w'.cell? ⟨rpB, 513, none⟩ = some (.int .i64 kd) ∧ w'.cell? ⟨rpB, 514, none⟩ = some (.int .i64 pp) ∧ w'.cell? ⟨rnB, 0, none⟩ = some (.slice nA nl nc) ∧ w'.cell? ⟨rkB, 1, none⟩ = some (.slice kA kl kc)
theorem SameF.new {w2 w' w'' : World} {B0 B1 WB RB cB kB nB rB rkB rpB rnB k a was is nl nc kl kc : Nat} {kd pp : Int} {nA kA : Option Addr} (h : SameF w2 B0 B1 WB RB cB kB nB rB rkB rpB rnB k a was is nl nc kl kc kd pp nA kA w') (hb : Below w'.heap.size w' w'') : SameF w2 B0 B1 WB RB cB kB nB rB rkB rpB rnB k a was is nl nc kl kc kd pp nA kA w'' := by
  obtain ⟨hb0, c0, c1, c2, c3, c4, c5, c6, c7, c8, c9, c10, c11, c12, c13, c14, c15, c16, c17, c18⟩ := h
  exact ⟨hb0.trans (hb.mono hb0.size), bcell hb c0, bcell hb c1, bcell hb c2, bcell hb c3, bcell hb c4, bcell hb c5, bcell hb c6, bcell hb c7, bcell hb c8, bcell hb c9, bcell hb c10, bcell hb c11, bcell hb c12, bcell hb c13, bcell hb c14, bcell hb c15, bcell hb c16, bcell hb c17, bcell hb c18⟩
theorem pair_same {w0 w : World} {base WB RB N cn tn : Nat} {M : Sd} {E : List Part} {X : Wm} {Y : Rm} (h : Bg w0 w base WB RB N cn tn M M E X Y) (hc : cn ≤ 100000000) :
    Calls Tryz.prog 23 #[.agg #[Pw WB, Pw RB]] w fun e w' => e = .returned (.bool true) ∧ Below w.heap.size w w' := by
  have hb1 : Below w.heap.size w (w.alloc (.cells #[Pw WB, Pw RB] 25)) := (Below.refl _ _).alloc (Nat.le_refl _) _
  have hq0 := heap_alloc_new w (.cells #[Pw WB, Pw RB] 25)
  have h1 := h.new hb1
  obtain ⟨B0, hB0⟩ : ∃ B0, B0 = w.heap.size := ⟨_, rfl⟩
  rw [← hB0] at hq0
  have c0 := cell_row hq0 0; have c1 := cell_row hq0 1
  simp only [List.getElem?_toArray, List.getElem?_cons_zero, List.getElem?_cons_succ] at c0 c1
  have k2 := h1.pr.pw.c2
  rw [h1.wB] at k2
  have HL := Lib.hid (fun (W : World) (q : Below (w.alloc (.cells #[Pw WB, Pw RB] 25)).heap.size (w.alloc (.cells #[Pw WB, Pw RB] 25)) W) => S4.last_any (h1.new q).pr.pw.permits)
  have H1 := Lib.hid h1; have HB1 := Lib.hid hb1; have HQ0 := Lib.hid hq0
  have HB0 := Lib.hid hB0
  clear hb1 hq0 h1 h hB0
  go_enter Tryz.func23, Tryz.ntmps23
  go_upto_region 3 with (fail)
  rw [← HB0.out]
  generalize w.alloc (.cells #[Pw WB, Pw RB] 25) = w1 at *
  go_upto_region 4 with (go_at_call 62; refine (HL.out _ (Below.refl _ _)).mono ?_; rintro e wl ⟨rfl, hbl⟩)
  have hn := heap_alloc_new wl (.cells #[.int .u8 X.pk, .int .i64 X.pp] 168)
  have hbx : Below w1.heap.size w1 (wl.alloc (.cells #[.int .u8 X.pk, .int .i64 X.pp] 168)) := hbl.alloc hbl.size _
  have h2 := H1.out.new hbx
  have e0 := (hbx.block B0 (Array.getElem?_eq_some_iff.1 HQ0.out).1).trans HQ0.out
  obtain ⟨B1, hB1⟩ : ∃ B1, B1 = wl.heap.size := ⟨_, rfl⟩
  rw [← hB1] at hn ⊢
  have HBX := Lib.hid (HB1.out.trans (hbx.mono HB1.out.size))
  clear hbx hbl c0 c1 k2 HL
  generalize wl.alloc (.cells #[.int .u8 X.pk, .int .i64 X.pp] 168) = w2 at *
  have b0 := cell_row e0 0; have b1 := cell_row e0 1; have d0 := cell_row hn 0; have d1 := cell_row hn 1
  simp only [List.getElem?_toArray, List.getElem?_cons_zero, List.getElem?_cons_succ] at b0 b1 d0 d1
  obtain ⟨nA, nc, hns, _⟩ := h2.pr.rnotes.own.shape
  obtain ⟨kA, kc, hks, _⟩ := h2.pr.rclock.own
  have heq : X.sd = Y.sd := by rw [h2.xm, h2.ym]
  have e_n : X.n = Y.n := congrArg Sd.n heq
  have e_pn : X.pn = Y.pn := congrArg Sd.pn heq
  have e_k : X.k = Y.k := congrArg Sd.k heq
  have e_a : X.a = Y.a := congrArg Sd.a heq
  have e_was : X.was = Y.was := congrArg Sd.was heq
  have e_is : X.is = Y.is := congrArg Sd.is heq
  have e_pk : X.pk = Y.pk := congrArg Sd.pk heq
  have e_pp : X.pp = Y.pp := congrArg Sd.pp heq
  have e_nD : X.nD = Y.nD := congrArg Sd.nD heq
  have e_D : X.D = Y.D := congrArg Sd.D heq
  have hst : ∀ W, Below w2.heap.size w2 W → Calls Tryz.prog 63 #[Pw WB] W fun e w' => e = .returned (.int .i64 ((X.n + X.pn : Nat) : Int)) ∧ Below W.heap.size W w' := fun W q => by
    have := h2.new q
    rw [← this.wB]
    exact steps_any this.pr.pw (by have := h2.xn; omega) (by have := h2.pn; omega)
  have hrs : ∀ W, Below w2.heap.size w2 W → Calls Tryz.prog 64 #[Pw RB] W fun e w' => e = .returned (.int .i64 ((X.n + X.pn : Nat) : Int)) ∧ Below W.heap.size W w' := fun W q => by
    have g := h2.new q
    rw [← g.rB, e_n, e_pn]
    exact rsteps_any g.pr.r0 g.pr.r2 (cell_row g.pr.rcells.row 1) g.pr.rpermits.cn (by have := h2.yn; omega) (by have := h2.yp; omega)
  have hcl : ∀ W, Below w2.heap.size w2 W → Calls Tryz.prog 65 #[Pw X.cB] W fun e w' => e = .returned (.agg #[.int .u8 X.k, .int .u32 X.a, .int .u64 X.was, .int .u64 X.is]) ∧ Below W.heap.size W w' := fun W q => S2.last_any W _ _ _ _ _ _ _ _ (h2.new q).pr.pw.cells
  have hnc : ∀ W, Below w2.heap.size w2 W → Calls Tryz.prog 66 #[Pw X.nB] W fun e w' => e = .returned (.int .i64 (X.nD.length : Nat)) ∧ W = w' := fun W q => S11.count_any (h2.new q).pr.pw.notes
  have hlf : ∀ W, Below w2.heap.size w2 W → Calls Tryz.prog 67 #[Pw X.kB] W fun e w' => e = .returned (.int .i64 (X.D.length : Nat)) ∧ W = w' := fun W q => S3.left_any (h2.new q).pr.pw.clock
  have f4 := h2.pr.pw.c0; have f5 := h2.pr.pw.c1; have f6 := h2.pr.pw.c5
  have f7 := h2.pr.r0; have f8 := h2.pr.r1; have f9 := h2.pr.r2; have f10 := h2.pr.r5
  have f11 := cell_row h2.pr.rcells.row 2; have f12 := cell_row h2.pr.rcells.row 3; have f13 := cell_row h2.pr.rcells.row 4; have f14 := cell_row h2.pr.rcells.row 5
  simp only [List.getElem?_toArray, List.getElem?_cons_zero, List.getElem?_cons_succ] at f11 f12 f13 f14
  have f15 := h2.pr.rpermits.ck; have f16 := h2.pr.rpermits.cp
  have f17 := h2.pr.rnotes.cell
  have f18 := cell_row h2.pr.rclock.row 1
  simp only [List.getElem?_toArray, List.getElem?_cons_zero, List.getElem?_cons_succ] at f18
  rw [hns] at f17
  rw [hks] at f18
  rw [h2.wB] at f4 f5 f6
  rw [h2.rB] at f7 f8 f9 f10
  rw [← e_k] at f11; rw [← e_a] at f12; rw [← e_was] at f13; rw [← e_is] at f14; rw [← e_pk] at f15; rw [← e_pp] at f16; rw [← e_nD] at f17; rw [← e_D] at f18
  have hpk := h2.pkr
  have hwk : IntKind.i64.wrap X.pk = X.pk := by rw [IntKind.wrap_i64]; omega
  have hwk2 : wrap64 X.pk = X.pk := by unfold wrap64; omega
  obtain ⟨kB, hkB⟩ : ∃ x, x = X.kB := ⟨_, rfl⟩
  obtain ⟨cB, hcB⟩ : ∃ x, x = X.cB := ⟨_, rfl⟩
  obtain ⟨nB, hnB⟩ : ∃ x, x = X.nB := ⟨_, rfl⟩
  obtain ⟨rB, hrB⟩ : ∃ x, x = Y.rB := ⟨_, rfl⟩
  obtain ⟨rkB, hrkB⟩ : ∃ x, x = Y.kB := ⟨_, rfl⟩
  obtain ⟨rpB, hrpB⟩ : ∃ x, x = Y.pB := ⟨_, rfl⟩
  obtain ⟨rnB, hrnB⟩ : ∃ x, x = Y.nB := ⟨_, rfl⟩
  obtain ⟨k, hk⟩ : ∃ x, x = X.k := ⟨_, rfl⟩
  obtain ⟨a, ha⟩ : ∃ x, x = X.a := ⟨_, rfl⟩
  obtain ⟨was, hwas⟩ : ∃ x, x = X.was := ⟨_, rfl⟩
  obtain ⟨is, his⟩ : ∃ x, x = X.is := ⟨_, rfl⟩
  obtain ⟨nl, hnl⟩ : ∃ x, x = X.nD.length := ⟨_, rfl⟩
  obtain ⟨kl, hkl⟩ : ∃ x, x = X.D.length := ⟨_, rfl⟩
  obtain ⟨nn, hnn⟩ : ∃ x, x = X.n + X.pn := ⟨_, rfl⟩
  obtain ⟨kd, hkd⟩ : ∃ x, x = X.pk := ⟨_, rfl⟩
  obtain ⟨pp, hpp⟩ : ∃ x, x = X.pp := ⟨_, rfl⟩
  rw [← hnn] at hst hrs
  rw [← hcB, ← hk, ← ha, ← hwas, ← his] at hcl
  rw [← hnB, ← hnl] at hnc
  rw [← hkB, ← hkl] at hlf
  rw [← hcB] at f4; rw [← hkB] at f5; rw [← hnB] at f6; rw [← hrB] at f7 f11 f12 f13 f14; rw [← hrkB] at f8 f18; rw [← hrpB] at f9 f15 f16; rw [← hrnB] at f10 f17
  rw [← hk] at f11; rw [← ha] at f12; rw [← hwas] at f13; rw [← his] at f14; rw [← hkd] at f15 hwk hwk2 d0; rw [← hpp] at f16 d1; rw [← hnl] at f17; rw [← hkl] at f18
  have hev := fun W => eql131 k a was is W
  have HST := Lib.hid hst; have HRS := Lib.hid hrs; have HCL := Lib.hid hcl; have HNC := Lib.hid hnc; have HLF := Lib.hid hlf
  have HF : Hid (w2.drew.cell? ⟨B0, 0, none⟩ = some (Pw WB) ∧ w2.drew.cell? ⟨B0, 1, none⟩ = some (Pw RB) ∧ w2.drew.cell? ⟨B1, 0, none⟩ = some (.int .u8 kd) ∧ w2.drew.cell? ⟨B1, 1, none⟩ = some (.int .i64 pp) ∧ w2.drew.cell? ⟨WB, 0, none⟩ = some (Pw cB) ∧ w2.drew.cell? ⟨WB, 1, none⟩ = some (Pw kB) ∧ w2.drew.cell? ⟨WB, 5, none⟩ = some (Pw nB) ∧ w2.drew.cell? ⟨RB, 0, none⟩ = some (Pw rB) ∧ w2.drew.cell? ⟨RB, 1, none⟩ = some (Pw rkB) ∧ w2.drew.cell? ⟨RB, 2, none⟩ = some (Pw rpB) ∧ w2.drew.cell? ⟨RB, 5, none⟩ = some (Pw rnB) ∧ w2.drew.cell? ⟨rB, 2, none⟩ = some (.int .u8 k) ∧ w2.drew.cell? ⟨rB, 3, none⟩ = some (.int .u32 a) ∧ w2.drew.cell? ⟨rB, 4, none⟩ = some (.int .u64 was) ∧ w2.drew.cell? ⟨rB, 5, none⟩ = some (.int .u64 is) ∧ w2.drew.cell? ⟨rpB, 513, none⟩ = some (.int .i64 kd) ∧ w2.drew.cell? ⟨rpB, 514, none⟩ = some (.int .i64 pp) ∧ w2.drew.cell? ⟨rnB, 0, none⟩ = some (.slice nA nl nc) ∧ w2.drew.cell? ⟨rkB, 1, none⟩ = some (.slice kA kl kc)) := Lib.hid ⟨b0, b1, d0, d1, f4, f5, f6, f7, f8, f9, f10, f11, f12, f13, f14, f15, f16, f17, f18⟩
  clear hst hrs hcl hnc hlf b0 b1 d0 d1 f4 f5 f6 f7 f8 f9 f10 f11 f12 f13 f14 f15 f16 f17 f18 e0 hn h2 heq e_n e_pn e_k e_a e_was e_is e_pk e_pp e_nD e_D hns hks H1 HB1 HQ0 hpk hcB hkB hnB hrB hrkB hrpB hrnB hk ha hwas his hnl hkl hnn hkd hpp hB1 HB0 hc
  (try simp only [List.append_eq, List.cons_append, List.nil_append])
  refine wp_region_held_drew (S := fun w' => Below w2.heap.size w2 w' ∧ w'.cell? ⟨B0, 0, none⟩ = some (Pw WB) ∧ w'.cell? ⟨B0, 1, none⟩ = some (Pw RB) ∧ w'.cell? ⟨B1, 0, none⟩ = some (.int .u8 kd) ∧ w'.cell? ⟨B1, 1, none⟩ = some (.int .i64 pp) ∧ w'.cell? ⟨WB, 0, none⟩ = some (Pw cB) ∧ w'.cell? ⟨WB, 1, none⟩ = some (Pw kB) ∧ w'.cell? ⟨WB, 5, none⟩ = some (Pw nB) ∧ w'.cell? ⟨RB, 0, none⟩ = some (Pw rB) ∧ w'.cell? ⟨RB, 1, none⟩ = some (Pw rkB) ∧ w'.cell? ⟨RB, 2, none⟩ = some (Pw rpB) ∧ w'.cell? ⟨RB, 5, none⟩ = some (Pw rnB) ∧ w'.cell? ⟨rB, 2, none⟩ = some (.int .u8 k) ∧ w'.cell? ⟨rB, 3, none⟩ = some (.int .u32 a) ∧ w'.cell? ⟨rB, 4, none⟩ = some (.int .u64 was) ∧ w'.cell? ⟨rB, 5, none⟩ = some (.int .u64 is) ∧ w'.cell? ⟨rpB, 513, none⟩ = some (.int .i64 kd) ∧ w'.cell? ⟨rpB, 514, none⟩ = some (.int .i64 pp) ∧ w'.cell? ⟨rnB, 0, none⟩ = some (.slice nA nl nc) ∧ w'.cell? ⟨rkB, 1, none⟩ = some (.slice kA kl kc)) (by kernel_rfl) ?_ (fun hHeld => ?_)
  · exact ⟨(Below.refl _ _).drew, HF.out⟩
  refine tA 0 ⟨some 18, .fieldAddr 25 (.tmp 1) 0, 0, "help.go:108", #[], none⟩ ?vam1 ?ram1
  (try simp only [Act.put, tC, tD, tE])
  refine tA 1 ⟨some 19, .load 22 (.tmp 18), 22, "help.go:108", #[⟨0, .data⟩], none⟩ ?vam2 ?ram2
  (try simp only [Act.put, tC, tD, tE])
  refine tA 3 ⟨some 21, .fieldAddr 25 (.tmp 1) 1, 0, "help.go:108", #[], none⟩ ?vam3 ?ram3
  (try simp only [Act.put, tC, tD, tE])
  refine tA 4 ⟨some 22, .load 23 (.tmp 21), 23, "help.go:108", #[⟨3, .data⟩], none⟩ ?vam4 ?ram4
  (try simp only [Act.put, tC, tD, tE])
  refine wpAnyH_ready (rs := [2]) (by kernel_rfl) (by simp) ?_
  refine AllReadyH.cons (o := ⟨some 20, .call ⟨.value (.func 63), #[.tmp 19], #[22]⟩, 3, "help.go:108", #[⟨1, .data⟩], none⟩) rfl (fun Kq hKq => ?_) AllReadyH.nil
  go_simp
  (refine (HST.out _ hHeld.1).mono ?_; rintro e w3 ⟨rfl, hb⟩)
  refine hKq.out _ _ ?_ (fun hHeld => ?_)
  · exact SameF.new hHeld hb
  clear hKq Kq
  (try simp only [Act.put, tC, tD, tE])
  refine wpAnyH_ready (rs := [5]) (by kernel_rfl) (by simp) ?_
  refine AllReadyH.cons (o := ⟨some 23, .call ⟨.value (.func 64), #[.tmp 22], #[23]⟩, 3, "help.go:108", #[⟨4, .data⟩, ⟨2, .chain⟩], none⟩) rfl (fun Kq hKq => ?_) AllReadyH.nil
  go_simp
  (refine (HRS.out _ hHeld.1).mono ?_; rintro e w3 ⟨rfl, hb⟩)
  refine hKq.out _ _ ?_ (fun hHeld => ?_)
  · exact SameF.new hHeld hb
  clear hKq Kq
  (try simp only [Act.put, tC, tD, tE])
  refine tA 6 ⟨some 24, .binOp .eql 3 (.tmp 20) (.tmp 23) 3, 4, "help.go:108", #[⟨2, .data⟩, ⟨5, .data⟩], none⟩ ?vam5 ?ram5
  (try simp only [Act.put, tC, tD, tE])
  refine tA 7 ⟨some 25, .move (.tmp 24), 4, "help.go:108", #[⟨6, .data⟩, ⟨5, .chain⟩], none⟩ ?vam6 ?ram6
  (try simp only [Act.put, tC, tD, tE])
  refine tA 8 ⟨some 26, .fieldAddr 25 (.tmp 1) 0, 0, "help.go:108", #[⟨7, .guard⟩], some (7, true)⟩ ?vam7 ?ram7
  (try simp only [Act.put, tC, tD, tE])
  refine tA 9 ⟨some 27, .load 22 (.tmp 26), 22, "help.go:108", #[⟨8, .data⟩, ⟨7, .guard⟩], some (7, true)⟩ ?vam8 ?ram8
  (try simp only [Act.put, tC, tD, tE])
  refine tA 10 ⟨some 28, .nilCheck (.tmp 27), 0, "help.go:108", #[⟨9, .data⟩, ⟨7, .guard⟩], some (7, true)⟩ ?vam9 ?ram9
  (try simp only [Act.put, tC, tD, tE])
  refine tA 11 ⟨some 29, .fieldAddr 60 (.tmp 28) 0, 0, "help.go:108", #[⟨10, .data⟩, ⟨7, .guard⟩], some (7, true)⟩ ?vam10 ?ram10
  (try simp only [Act.put, tC, tD, tE])
  refine tA 12 ⟨some 30, .load 52 (.tmp 29), 52, "help.go:108", #[⟨11, .data⟩, ⟨7, .guard⟩], some (7, true)⟩ ?vam11 ?ram11
  (try simp only [Act.put, tC, tD, tE])
  refine tA 14 ⟨some 32, .fieldAddr 25 (.tmp 1) 1, 0, "help.go:108", #[⟨7, .guard⟩], some (7, true)⟩ ?vam12 ?ram12
  (try simp only [Act.put, tC, tD, tE])
  refine tA 15 ⟨some 33, .load 23 (.tmp 32), 23, "help.go:108", #[⟨14, .data⟩, ⟨7, .guard⟩], some (7, true)⟩ ?vam13 ?ram13
  (try simp only [Act.put, tC, tD, tE])
  refine tA 16 ⟨some 34, .nilCheck (.tmp 33), 0, "help.go:108", #[⟨15, .data⟩, ⟨7, .guard⟩], some (7, true)⟩ ?vam14 ?ram14
  (try simp only [Act.put, tC, tD, tE])
  refine tA 17 ⟨some 35, .fieldAddr 68 (.tmp 34) 0, 0, "help.go:108", #[⟨16, .data⟩, ⟨7, .guard⟩], some (7, true)⟩ ?vam15 ?ram15
  (try simp only [Act.put, tC, tD, tE])
  refine tA 18 ⟨some 36, .load 61 (.tmp 35), 61, "help.go:108", #[⟨17, .data⟩, ⟨7, .guard⟩], some (7, true)⟩ ?vam16 ?ram16
  (try simp only [Act.put, tC, tD, tE])
  refine tA 19 ⟨some 37, .nilCheck (.tmp 36), 0, "help.go:108", #[⟨18, .data⟩, ⟨7, .guard⟩], some (7, true)⟩ ?vam17 ?ram17
  (try simp only [Act.put, tC, tD, tE])
  refine tA 20 ⟨some 38, .fieldAddr 176 (.tmp 37) 2, 0, "help.go:108", #[⟨19, .data⟩, ⟨7, .guard⟩], some (7, true)⟩ ?vam18 ?ram18
  (try simp only [Act.put, tC, tD, tE])
  refine tA 21 ⟨some 39, .load 173 (.tmp 38), 173, "help.go:108", #[⟨20, .data⟩, ⟨7, .guard⟩], some (7, true)⟩ ?vam19 ?ram19
  (try simp only [Act.put, tC, tD, tE])
  refine wpAnyH_ready (rs := [13]) (by kernel_rfl) (by simp) ?_
  refine AllReadyH.cons (o := ⟨some 31, .call ⟨.value (.func 65), #[.tmp 30], #[52]⟩, 173, "help.go:108", #[⟨12, .data⟩, ⟨7, .chain⟩, ⟨7, .guard⟩], some (7, true)⟩) rfl (fun Kq hKq => ?_) AllReadyH.nil
  go_simp
  (refine (HCL.out _ hHeld.1).mono ?_; rintro e w3 ⟨rfl, hb⟩)
  refine hKq.out _ _ ?_ (fun hHeld => ?_)
  · exact SameF.new hHeld hb
  clear hKq Kq
  (try simp only [Act.put, tC, tD, tE])
  refine tA 22 ⟨some 40, .binOp .eql 173 (.tmp 31) (.tmp 39) 173, 4, "help.go:108", #[⟨13, .data⟩, ⟨21, .data⟩, ⟨7, .guard⟩], some (7, true)⟩ ?vam20 ?ram20
  (try simp only [Act.put, tC, tD, tE])
  refine tA 23 ⟨some 41, .pick (.tmp 25) (.tmp 40) (.const (.bool false)), 4, "help.go:108", #[⟨7, .data⟩, ⟨22, .data⟩], none⟩ ?vam21 ?ram21
  (try simp only [Act.put, tC, tD, tE])
  refine tA 24 ⟨some 42, .move (.tmp 41), 4, "help.go:108", #[⟨23, .data⟩, ⟨13, .chain⟩], none⟩ ?vam22 ?ram22
  (try simp only [Act.put, tC, tD, tE])
  refine tA 25 ⟨some 43, .fieldAddr 168 (.tmp 3) 0, 0, "help.go:108", #[⟨24, .guard⟩], some (24, true)⟩ ?vam23 ?ram23
  (try simp only [Act.put, tC, tD, tE])
  refine tA 26 ⟨some 44, .load 166 (.tmp 43), 166, "help.go:108", #[⟨25, .data⟩, ⟨24, .guard⟩], some (24, true)⟩ ?vam24 ?ram24
  (try simp only [Act.put, tC, tD, tE])
  refine tA 27 ⟨some 45, .convert 166 3 (.tmp 44), 3, "help.go:108", #[⟨26, .data⟩, ⟨24, .guard⟩], some (24, true)⟩ ?vam25 ?ram25
  (try simp only [Act.put, tC, tD, tE])
  refine tA 28 ⟨some 46, .fieldAddr 25 (.tmp 1) 1, 0, "help.go:108", #[⟨24, .guard⟩], some (24, true)⟩ ?vam26 ?ram26
  (try simp only [Act.put, tC, tD, tE])
  refine tA 29 ⟨some 47, .load 23 (.tmp 46), 23, "help.go:108", #[⟨28, .data⟩, ⟨24, .guard⟩], some (24, true)⟩ ?vam27 ?ram27
  (try simp only [Act.put, tC, tD, tE])
  refine tA 30 ⟨some 48, .nilCheck (.tmp 47), 0, "help.go:108", #[⟨29, .data⟩, ⟨24, .guard⟩], some (24, true)⟩ ?vam28 ?ram28
  (try simp only [Act.put, tC, tD, tE])
  refine tA 31 ⟨some 49, .fieldAddr 68 (.tmp 48) 2, 0, "help.go:108", #[⟨30, .data⟩, ⟨24, .guard⟩], some (24, true)⟩ ?vam29 ?ram29
  (try simp only [Act.put, tC, tD, tE])
  refine tA 32 ⟨some 50, .load 63 (.tmp 49), 63, "help.go:108", #[⟨31, .data⟩, ⟨24, .guard⟩], some (24, true)⟩ ?vam30 ?ram30
  (try simp only [Act.put, tC, tD, tE])
  refine tA 33 ⟨some 51, .nilCheck (.tmp 50), 0, "help.go:108", #[⟨32, .data⟩, ⟨24, .guard⟩], some (24, true)⟩ ?vam31 ?ram31
  (try simp only [Act.put, tC, tD, tE])
  refine tA 34 ⟨some 52, .fieldAddr 113 (.tmp 51) 2, 0, "help.go:108", #[⟨33, .data⟩, ⟨24, .guard⟩], some (24, true)⟩ ?vam32 ?ram32
  (try simp only [Act.put, tC, tD, tE])
  refine tA 35 ⟨some 53, .load 3 (.tmp 52), 3, "help.go:108", #[⟨34, .data⟩, ⟨24, .guard⟩], some (24, true)⟩ ?vam33 ?ram33
  (try simp only [Act.put, tC, tD, tE])
  refine tA 36 ⟨some 54, .binOp .eql 3 (.tmp 45) (.tmp 53) 3, 4, "help.go:108", #[⟨27, .data⟩, ⟨35, .data⟩, ⟨24, .guard⟩], some (24, true)⟩ ?vam34 ?ram34
  (try simp only [Act.put, tC, tD, tE])
  refine tA 37 ⟨some 55, .pick (.tmp 42) (.tmp 54) (.const (.bool false)), 4, "help.go:108", #[⟨24, .data⟩, ⟨36, .data⟩], none⟩ ?vam35 ?ram35
  (try simp only [Act.put, tC, tD, tE])
  refine tA 38 ⟨some 56, .move (.tmp 55), 4, "help.go:108", #[⟨37, .data⟩, ⟨24, .chain⟩], none⟩ ?vam36 ?ram36
  (try simp only [Act.put, tC, tD, tE])
  refine tA 39 ⟨some 57, .fieldAddr 168 (.tmp 3) 1, 0, "help.go:108", #[⟨38, .guard⟩], some (38, true)⟩ ?vam37 ?ram37
  (try simp only [Act.put, tC, tD, tE])
  refine tA 40 ⟨some 58, .load 3 (.tmp 57), 3, "help.go:108", #[⟨39, .data⟩, ⟨38, .guard⟩], some (38, true)⟩ ?vam38 ?ram38
  (try simp only [Act.put, tC, tD, tE])
  refine tA 41 ⟨some 59, .fieldAddr 25 (.tmp 1) 1, 0, "help.go:108", #[⟨38, .guard⟩], some (38, true)⟩ ?vam39 ?ram39
  (try simp only [Act.put, tC, tD, tE])
  refine tA 42 ⟨some 60, .load 23 (.tmp 59), 23, "help.go:108", #[⟨41, .data⟩, ⟨38, .guard⟩], some (38, true)⟩ ?vam40 ?ram40
  (try simp only [Act.put, tC, tD, tE])
  refine tA 43 ⟨some 61, .nilCheck (.tmp 60), 0, "help.go:108", #[⟨42, .data⟩, ⟨38, .guard⟩], some (38, true)⟩ ?vam41 ?ram41
  (try simp only [Act.put, tC, tD, tE])
  refine tA 44 ⟨some 62, .fieldAddr 68 (.tmp 61) 2, 0, "help.go:108", #[⟨43, .data⟩, ⟨38, .guard⟩], some (38, true)⟩ ?vam42 ?ram42
  (try simp only [Act.put, tC, tD, tE])
  refine tA 45 ⟨some 63, .load 63 (.tmp 62), 63, "help.go:108", #[⟨44, .data⟩, ⟨38, .guard⟩], some (38, true)⟩ ?vam43 ?ram43
  (try simp only [Act.put, tC, tD, tE])
  refine tA 46 ⟨some 64, .nilCheck (.tmp 63), 0, "help.go:108", #[⟨45, .data⟩, ⟨38, .guard⟩], some (38, true)⟩ ?vam44 ?ram44
  (try simp only [Act.put, tC, tD, tE])
  refine tA 47 ⟨some 65, .fieldAddr 113 (.tmp 64) 3, 0, "help.go:108", #[⟨46, .data⟩, ⟨38, .guard⟩], some (38, true)⟩ ?vam45 ?ram45
  (try simp only [Act.put, tC, tD, tE])
  refine tA 48 ⟨some 66, .load 3 (.tmp 65), 3, "help.go:108", #[⟨47, .data⟩, ⟨38, .guard⟩], some (38, true)⟩ ?vam46 ?ram46
  (try simp only [Act.put, tC, tD, tE])
  refine tA 49 ⟨some 67, .binOp .eql 3 (.tmp 58) (.tmp 66) 3, 4, "help.go:108", #[⟨40, .data⟩, ⟨48, .data⟩, ⟨38, .guard⟩], some (38, true)⟩ ?vam47 ?ram47
  (try simp only [Act.put, tC, tD, tE])
  refine tA 50 ⟨some 68, .pick (.tmp 56) (.tmp 67) (.const (.bool false)), 4, "help.go:108", #[⟨38, .data⟩, ⟨49, .data⟩], none⟩ ?vam48 ?ram48
  (try simp only [Act.put, tC, tD, tE])
  refine tA 51 ⟨some 69, .move (.tmp 68), 4, "help.go:108", #[⟨50, .data⟩, ⟨38, .chain⟩], none⟩ ?vam49 ?ram49
  (try simp only [Act.put, tC, tD, tE])
  refine tA 52 ⟨some 70, .fieldAddr 25 (.tmp 1) 0, 0, "help.go:108", #[⟨51, .guard⟩], some (51, true)⟩ ?vam50 ?ram50
  (try simp only [Act.put, tC, tD, tE])
  refine tA 53 ⟨some 71, .load 22 (.tmp 70), 22, "help.go:108", #[⟨52, .data⟩, ⟨51, .guard⟩], some (51, true)⟩ ?vam51 ?ram51
  (try simp only [Act.put, tC, tD, tE])
  refine tA 54 ⟨some 72, .nilCheck (.tmp 71), 0, "help.go:108", #[⟨53, .data⟩, ⟨51, .guard⟩], some (51, true)⟩ ?vam52 ?ram52
  (try simp only [Act.put, tC, tD, tE])
  refine tA 55 ⟨some 73, .fieldAddr 60 (.tmp 72) 5, 0, "help.go:108", #[⟨54, .data⟩, ⟨51, .guard⟩], some (51, true)⟩ ?vam53 ?ram53
  (try simp only [Act.put, tC, tD, tE])
  refine tA 56 ⟨some 74, .load 57 (.tmp 73), 57, "help.go:108", #[⟨55, .data⟩, ⟨51, .guard⟩], some (51, true)⟩ ?vam54 ?ram54
  (try simp only [Act.put, tC, tD, tE])
  refine tA 58 ⟨some 76, .fieldAddr 25 (.tmp 1) 1, 0, "help.go:108", #[⟨51, .guard⟩], some (51, true)⟩ ?vam55 ?ram55
  (try simp only [Act.put, tC, tD, tE])
  refine tA 59 ⟨some 77, .load 23 (.tmp 76), 23, "help.go:108", #[⟨58, .data⟩, ⟨51, .guard⟩], some (51, true)⟩ ?vam56 ?ram56
  (try simp only [Act.put, tC, tD, tE])
  refine tA 60 ⟨some 78, .nilCheck (.tmp 77), 0, "help.go:108", #[⟨59, .data⟩, ⟨51, .guard⟩], some (51, true)⟩ ?vam57 ?ram57
  (try simp only [Act.put, tC, tD, tE])
  refine tA 61 ⟨some 79, .fieldAddr 68 (.tmp 78) 5, 0, "help.go:108", #[⟨60, .data⟩, ⟨51, .guard⟩], some (51, true)⟩ ?vam58 ?ram58
  (try simp only [Act.put, tC, tD, tE])
  refine tA 62 ⟨some 80, .load 66 (.tmp 79), 66, "help.go:108", #[⟨61, .data⟩, ⟨51, .guard⟩], some (51, true)⟩ ?vam59 ?ram59
  (try simp only [Act.put, tC, tD, tE])
  refine tA 63 ⟨some 81, .nilCheck (.tmp 80), 0, "help.go:108", #[⟨62, .data⟩, ⟨51, .guard⟩], some (51, true)⟩ ?vam60 ?ram60
  (try simp only [Act.put, tC, tD, tE])
  refine tA 64 ⟨some 82, .fieldAddr 104 (.tmp 81) 0, 0, "help.go:108", #[⟨63, .data⟩, ⟨51, .guard⟩], some (51, true)⟩ ?vam61 ?ram61
  (try simp only [Act.put, tC, tD, tE])
  refine tA 65 ⟨some 83, .load 102 (.tmp 82), 102, "help.go:108", #[⟨64, .data⟩, ⟨51, .guard⟩], some (51, true)⟩ ?vam62 ?ram62
  (try simp only [Act.put, tC, tD, tE])
  refine tA 66 ⟨some 84, .call ⟨.builtin .len, #[.tmp 83], #[102]⟩, 3, "help.go:108", #[⟨65, .data⟩, ⟨51, .guard⟩], some (51, true)⟩ ?vam63 ?ram63
  (try simp only [Act.put, tC, tD, tE])
  refine wpAnyH_ready (rs := [57]) (by kernel_rfl) (by simp) ?_
  refine AllReadyH.cons (o := ⟨some 75, .call ⟨.value (.func 66), #[.tmp 74], #[57]⟩, 3, "help.go:108", #[⟨56, .data⟩, ⟨51, .chain⟩, ⟨51, .guard⟩], some (51, true)⟩) rfl (fun Kq hKq => ?_) AllReadyH.nil
  go_simp
  (refine (HNC.out _ hHeld.1).mono ?_; rintro e w3 ⟨rfl, rfl⟩)
  refine hKq.out _ _ ?_ (fun hHeld => ?_)
  · exact hHeld
  clear hKq Kq
  (try simp only [Act.put, tC, tD, tE])
  refine tA 67 ⟨some 85, .binOp .eql 3 (.tmp 75) (.tmp 84) 3, 4, "help.go:108", #[⟨57, .data⟩, ⟨66, .data⟩, ⟨51, .guard⟩], some (51, true)⟩ ?vam64 ?ram64
  (try simp only [Act.put, tC, tD, tE])
  refine tA 68 ⟨some 86, .pick (.tmp 69) (.tmp 85) (.const (.bool false)), 4, "help.go:108", #[⟨51, .data⟩, ⟨67, .data⟩], none⟩ ?vam65 ?ram65
  (try simp only [Act.put, tC, tD, tE])
  refine tA 69 ⟨some 87, .move (.tmp 86), 4, "help.go:108", #[⟨68, .data⟩, ⟨57, .chain⟩], none⟩ ?vam66 ?ram66
  (try simp only [Act.put, tC, tD, tE])
  refine tA 70 ⟨some 88, .fieldAddr 25 (.tmp 1) 0, 0, "help.go:108", #[⟨69, .guard⟩], some (69, true)⟩ ?vam67 ?ram67
  (try simp only [Act.put, tC, tD, tE])
  refine tA 71 ⟨some 89, .load 22 (.tmp 88), 22, "help.go:108", #[⟨70, .data⟩, ⟨69, .guard⟩], some (69, true)⟩ ?vam68 ?ram68
  (try simp only [Act.put, tC, tD, tE])
  refine tA 72 ⟨some 90, .nilCheck (.tmp 89), 0, "help.go:108", #[⟨71, .data⟩, ⟨69, .guard⟩], some (69, true)⟩ ?vam69 ?ram69
  (try simp only [Act.put, tC, tD, tE])
  refine tA 73 ⟨some 91, .fieldAddr 60 (.tmp 90) 1, 0, "help.go:108", #[⟨72, .data⟩, ⟨69, .guard⟩], some (69, true)⟩ ?vam70 ?ram70
  (try simp only [Act.put, tC, tD, tE])
  refine tA 74 ⟨some 92, .load 53 (.tmp 91), 53, "help.go:108", #[⟨73, .data⟩, ⟨69, .guard⟩], some (69, true)⟩ ?vam71 ?ram71
  (try simp only [Act.put, tC, tD, tE])
  refine tA 76 ⟨some 94, .fieldAddr 25 (.tmp 1) 1, 0, "help.go:108", #[⟨69, .guard⟩], some (69, true)⟩ ?vam72 ?ram72
  (try simp only [Act.put, tC, tD, tE])
  refine tA 77 ⟨some 95, .load 23 (.tmp 94), 23, "help.go:108", #[⟨76, .data⟩, ⟨69, .guard⟩], some (69, true)⟩ ?vam73 ?ram73
  (try simp only [Act.put, tC, tD, tE])
  refine tA 78 ⟨some 96, .nilCheck (.tmp 95), 0, "help.go:108", #[⟨77, .data⟩, ⟨69, .guard⟩], some (69, true)⟩ ?vam74 ?ram74
  (try simp only [Act.put, tC, tD, tE])
  refine tA 79 ⟨some 97, .fieldAddr 68 (.tmp 96) 1, 0, "help.go:108", #[⟨78, .data⟩, ⟨69, .guard⟩], some (69, true)⟩ ?vam75 ?ram75
  (try simp only [Act.put, tC, tD, tE])
  refine tA 80 ⟨some 98, .load 62 (.tmp 97), 62, "help.go:108", #[⟨79, .data⟩, ⟨69, .guard⟩], some (69, true)⟩ ?vam76 ?ram76
  (try simp only [Act.put, tC, tD, tE])
  refine tA 81 ⟨some 99, .nilCheck (.tmp 98), 0, "help.go:108", #[⟨80, .data⟩, ⟨69, .guard⟩], some (69, true)⟩ ?vam77 ?ram77
  (try simp only [Act.put, tC, tD, tE])
  refine tA 82 ⟨some 100, .fieldAddr 108 (.tmp 99) 1, 0, "help.go:108", #[⟨81, .data⟩, ⟨69, .guard⟩], some (69, true)⟩ ?vam78 ?ram78
  (try simp only [Act.put, tC, tD, tE])
  refine tA 83 ⟨some 101, .load 28 (.tmp 100), 28, "help.go:108", #[⟨82, .data⟩, ⟨69, .guard⟩], some (69, true)⟩ ?vam79 ?ram79
  (try simp only [Act.put, tC, tD, tE])
  refine tA 84 ⟨some 102, .call ⟨.builtin .len, #[.tmp 101], #[28]⟩, 3, "help.go:108", #[⟨83, .data⟩, ⟨69, .guard⟩], some (69, true)⟩ ?vam80 ?ram80
  (try simp only [Act.put, tC, tD, tE])
  refine wpAnyH_ready (rs := [75]) (by kernel_rfl) (by simp) ?_
  refine AllReadyH.cons (o := ⟨some 93, .call ⟨.value (.func 67), #[.tmp 92], #[53]⟩, 3, "help.go:108", #[⟨74, .data⟩, ⟨69, .chain⟩, ⟨69, .guard⟩], some (69, true)⟩) rfl (fun Kq hKq => ?_) AllReadyH.nil
  go_simp
  (refine (HLF.out _ hHeld.1).mono ?_; rintro e w3 ⟨rfl, rfl⟩)
  refine hKq.out _ _ ?_ (fun hHeld => ?_)
  · exact hHeld
  clear hKq Kq
  (try simp only [Act.put, tC, tD, tE])
  refine tA 85 ⟨some 103, .binOp .eql 3 (.tmp 93) (.tmp 102) 3, 4, "help.go:108", #[⟨75, .data⟩, ⟨84, .data⟩, ⟨69, .guard⟩], some (69, true)⟩ ?vam81 ?ram81
  (try simp only [Act.put, tC, tD, tE])
  refine tA 86 ⟨some 104, .pick (.tmp 87) (.tmp 103) (.const (.bool false)), 4, "help.go:108", #[⟨69, .data⟩, ⟨85, .data⟩], none⟩ ?vam82 ?ram82
  (try simp only [Act.put, tC, tD, tE])
  refine wpAnyH_take (i := 87) (oi := ({ dst := some 2, op := Op.assign (Operand.tmp 104), type := 4, pos := "help.go:108", after := ([{ on := 86, ground := Ground.data }, { on := 75, ground := Ground.chain }, { on := 0, ground := Ground.phase }, { on := 1, ground := Ground.phase }, { on := 2, ground := Ground.phase }, { on := 3, ground := Ground.phase }, { on := 4, ground := Ground.phase }, { on := 5, ground := Ground.phase }, { on := 6, ground := Ground.phase }, { on := 7, ground := Ground.phase }, { on := 8, ground := Ground.phase }, { on := 9, ground := Ground.phase }, { on := 10, ground := Ground.phase }, { on := 11, ground := Ground.phase }, { on := 12, ground := Ground.phase }, { on := 13, ground := Ground.phase }, { on := 14, ground := Ground.phase }, { on := 15, ground := Ground.phase }, { on := 16, ground := Ground.phase }, { on := 17, ground := Ground.phase }, { on := 18, ground := Ground.phase }, { on := 19, ground := Ground.phase }, { on := 20, ground := Ground.phase }, { on := 21, ground := Ground.phase }, { on := 22, ground := Ground.phase }, { on := 23, ground := Ground.phase }, { on := 24, ground := Ground.phase }, { on := 25, ground := Ground.phase }, { on := 26, ground := Ground.phase }, { on := 27, ground := Ground.phase }, { on := 28, ground := Ground.phase }, { on := 29, ground := Ground.phase }, { on := 30, ground := Ground.phase }, { on := 31, ground := Ground.phase }, { on := 32, ground := Ground.phase }, { on := 33, ground := Ground.phase }, { on := 34, ground := Ground.phase }, { on := 35, ground := Ground.phase }, { on := 36, ground := Ground.phase }, { on := 37, ground := Ground.phase }, { on := 38, ground := Ground.phase }, { on := 39, ground := Ground.phase }, { on := 40, ground := Ground.phase }, { on := 41, ground := Ground.phase }].append [{ on := 42, ground := Ground.phase }, { on := 43, ground := Ground.phase }, { on := 44, ground := Ground.phase }, { on := 45, ground := Ground.phase }, { on := 46, ground := Ground.phase }, { on := 47, ground := Ground.phase }, { on := 48, ground := Ground.phase }, { on := 49, ground := Ground.phase }, { on := 50, ground := Ground.phase }, { on := 51, ground := Ground.phase }, { on := 52, ground := Ground.phase }, { on := 53, ground := Ground.phase }, { on := 54, ground := Ground.phase }, { on := 55, ground := Ground.phase }, { on := 56, ground := Ground.phase }, { on := 57, ground := Ground.phase }, { on := 58, ground := Ground.phase }, { on := 59, ground := Ground.phase }, { on := 60, ground := Ground.phase }, { on := 61, ground := Ground.phase }, { on := 62, ground := Ground.phase }, { on := 63, ground := Ground.phase }, { on := 64, ground := Ground.phase }, { on := 65, ground := Ground.phase }, { on := 66, ground := Ground.phase }, { on := 67, ground := Ground.phase }, { on := 68, ground := Ground.phase }, { on := 69, ground := Ground.phase }, { on := 70, ground := Ground.phase }, { on := 71, ground := Ground.phase }, { on := 72, ground := Ground.phase }, { on := 73, ground := Ground.phase }, { on := 74, ground := Ground.phase }, { on := 75, ground := Ground.phase }, { on := 76, ground := Ground.phase }, { on := 77, ground := Ground.phase }, { on := 78, ground := Ground.phase }, { on := 79, ground := Ground.phase }, { on := 80, ground := Ground.phase }, { on := 81, ground := Ground.phase }, { on := 82, ground := Ground.phase }, { on := 83, ground := Ground.phase }, { on := 84, ground := Ground.phase }, { on := 85, ground := Ground.phase }, { on := 86, ground := Ground.phase }]).toArray, guard := none } : Oper)) (v := ?vam83) rfl (by kernel_rfl) (by kernel_rfl) (by kernel_rfl) (fun _ _ _ h => h) (Or.inl ⟨by rfl, fun w hSw => ?hyam83⟩) (by assumption) ?ram83
  case hyam83 => (try dsimp only at hSw); go_simp; (try with_reducible rfl)
  (try simp only [Act.put, tC, tD, tE])
  refine wpAnyH_done (by kernel_rfl) ?_ _
  go_wp2_with fail
  go_ret
  exact ⟨rfl, HBX.out.trans (hHeld.1.mono HBX.out.size)⟩
end Go.Proofs.YtdodloannlfnlaaGreat.S12
namespace Go.Proofs.YtdodloannlfnlaaGreat.S10
set_option maxRecDepth 100000
set_option maxHeartbeats 16000000
open Go.Proofs.YtdodloannlfnlaaGreat
open Go.RowKit
theorem keep3 {w w' : World} {base g o : Nat} {d : Ent} (hb : Below base w w') (hg : g < base) (h : w.cell? ⟨g, o, none⟩ = some (.int .i64 d.t) ∧ w.cell? ⟨g, o + 1, none⟩ = some (.int .u32 d.k) ∧ w.cell? ⟨g, o + 2, none⟩ = some (.int .u64 d.z)) :
    w'.cell? ⟨g, o, none⟩ = some (.int .i64 d.t) ∧ w'.cell? ⟨g, o + 1, none⟩ = some (.int .u32 d.k) ∧ w'.cell? ⟨g, o + 2, none⟩ = some (.int .u64 d.z) :=
  ⟨(hb.cell (by exact hg)).trans h.1, (hb.cell (by exact hg)).trans h.2.1, (hb.cell (by exact hg)).trans h.2.2⟩
theorem same_any {w : World} {b1 b2 : Nat} {A B : Option Addr} {D : List Ent} (c c' : Nat) (hr1 : Rd w b1 A (flat D)) (hr2 : Rd w b2 B (flat D)) (hb1 : b1 ≤ w.heap.size) (hb2 : b2 ≤ w.heap.size) (hlen : D.length ≤ 1000000) :
    Calls Tryz.prog 75 #[.slice A D.length c, .slice B D.length c'] w fun e w' => e = .returned (.bool true) ∧ Below w.heap.size w w' := by
  have H1 := Lib.hid hr1; have H2 := Lib.hid hr2; have HS1 := Lib.hid hb1; have HS2 := Lib.hid hb2
  clear hr1 hr2 hb1 hb2
  obtain ⟨n, hn⟩ : ∃ n, n = D.length := ⟨_, rfl⟩
  rw [← hn]
  have HN := Lib.hid hn
  have hn6 : n ≤ 1000000 := by omega
  clear hn hlen
  go_enter Tryz.func75, Tryz.ntmps75
  go_wp2_with fail
  go_loopg [5] n (fun q s5 wx => ∃ k : Nat, k ≤ n ∧ q = n - k ∧ s5 = .int .i64 (k : Int) ∧ Below w.heap.size w wx)
  case atStart => exact ⟨0, by omega, rfl, rfl, Below.refl _ _⟩
  case round =>
    obtain ⟨k, hk, rfl, rfl, hb⟩ := hrel
    have HB := Lib.hid hb
    clear hb
    by_cases hkn : k < n
    · obtain ⟨g1, o1, rfl, hg1, c0, c1, c2⟩ := (H1.out.below HB.out HS1.out).ent (i := k) (by have := HN.out; omega)
      obtain ⟨g2, o2, rfl, hg2, d0, d1, d2⟩ := (H2.out.below HB.out HS2.out).ent (i := k) (by have := HN.out; omega)
      have hl1 : g1 < wr.heap.size := by have := HB.out.size; have := HS1.out; omega
      have hl2 : g2 < wr.heap.size := by have := HB.out.size; have := HS2.out; omega
      generalize hd : D[k]! = d at *
      clear hd
      have hne := fun W => neqO d d W
      simp only [decide_true, Bool.not_true] at hne
      go_upto_region 6 with (fail)
      refine wp_region_held_drew (S := fun w' => (w'.cell? ⟨g1, o1 + k * 3, none⟩ = some (.int .i64 d.t) ∧ w'.cell? ⟨g1, o1 + k * 3 + 1, none⟩ = some (.int .u32 d.k) ∧ w'.cell? ⟨g1, o1 + k * 3 + 2, none⟩ = some (.int .u64 d.z)) ∧ (w'.cell? ⟨g2, o2 + k * 3, none⟩ = some (.int .i64 d.t) ∧ w'.cell? ⟨g2, o2 + k * 3 + 1, none⟩ = some (.int .u32 d.k) ∧ w'.cell? ⟨g2, o2 + k * 3 + 2, none⟩ = some (.int .u64 d.z)) ∧ Below wr.heap.size wr w') (by kernel_rfl) ?_ (fun hHeld => ?_)
      · exact ⟨⟨c0, c1, c2⟩, ⟨d0, d1, d2⟩, (Below.refl _ wr).drew⟩
      refine tA 0 ⟨some 17, .move (.tmp 0), 77, "help.go:28", #[], none⟩ ?v0 ?r0
      (try simp only [Act.put, tC, tD, tE])
      refine tA 1 ⟨some 18, .move (.tmp 5), 3, "help.go:28", #[], none⟩ ?v1 ?r1
      (try simp only [Act.put, tC, tD, tE])
      refine tA 2 ⟨some 19, .indexAddr 77 (.tmp 17) (.tmp 18), 0, "help.go:28", #[⟨0, .data⟩, ⟨1, .data⟩], none⟩ ?v2 ?r2
      (try simp only [Act.put, tC, tD, tE])
      refine tA 3 ⟨some 20, .load 165 (.tmp 19), 165, "help.go:28", #[⟨2, .data⟩], none⟩ ?v3 ?r3
      (try simp only [Act.put, tC, tD, tE])
      refine tA 5 ⟨some 22, .move (.tmp 1), 86, "help.go:28", #[], none⟩ ?v5 ?r5
      (try simp only [Act.put, tC, tD, tE])
      refine tA 6 ⟨some 23, .move (.tmp 5), 3, "help.go:28", #[], none⟩ ?v6 ?r6
      (try simp only [Act.put, tC, tD, tE])
      refine tA 7 ⟨some 24, .indexAddr 86 (.tmp 22) (.tmp 23), 0, "help.go:28", #[⟨5, .data⟩, ⟨6, .data⟩], none⟩ ?v7 ?r7
      (try simp only [Act.put, tC, tD, tE])
      refine tA 8 ⟨some 25, .load 163 (.tmp 24), 163, "help.go:28", #[⟨7, .data⟩], none⟩ ?v8 ?r8
      (try simp only [Act.put, tC, tD, tE])
      refine wpAnyH_ready (rs := [4]) (by kernel_rfl) (by simp) ?_
      refine AllReadyH.cons (o := ⟨some 21, .call ⟨.value (.func 59), #[.tmp 20], #[165]⟩, 163, "help.go:28", #[⟨3, .data⟩], none⟩) rfl (fun Kq hKq => ?_) AllReadyH.nil
      go_simp
      (refine (other_any d _).mono ?_; rintro e w1 ⟨rfl, hb1⟩)
      refine hKq.out _ _ ?_ (fun hHeld => ?_)
      · exact ⟨keep3 hb1 (by have := hHeld.2.2.size; omega) hHeld.1, keep3 hb1 (by have := hHeld.2.2.size; omega) hHeld.2.1, hHeld.2.2.trans (hb1.mono hHeld.2.2.size)⟩
      clear hKq Kq
      (try simp only [Act.put, tC, tD, tE])
      refine tA 9 ⟨some 26, .binOp .neq 163 (.tmp 21) (.tmp 25) 163, 4, "help.go:28", #[⟨4, .data⟩, ⟨8, .data⟩], none⟩ ?v9 ?r9
      (try simp only [Act.put, tC, tD, tE])
      refine wpAnyH_done (by kernel_rfl) ?_ _
      have HH := Lib.hid hHeld.2.2
      clear hHeld
      go_wp2_with fail
      go_roundg (n - (k + 1))
      case measure => omega
      case rel => exact ⟨k + 1, by omega, rfl, by go_num, HB.out.trans (HH.out.mono HB.out.size)⟩
    · obtain rfl : k = n := by omega
      go_wp2_with fail
      go_ret
      exact ⟨rfl, HB.out⟩
end Go.Proofs.YtdodloannlfnlaaGreat.S10
namespace Go.Proofs.YtdodloannlfnlaaGreat.S10
set_option maxRecDepth 100000
set_option maxHeartbeats 16000000
open Go.Proofs.YtdodloannlfnlaaGreat
open Go.RowKit
structure Se (W : World) (base baseR : Nat) (own ownR : Nat → Option Role) (s r : Value) (n : Nat) (M R : Int → List Bk) (Z : Nat → Prop) : Prop where
  st : St W base own s n M
  rt : Rt W baseR ownR r R
  dj : ∀ g, Mine own g → ¬ Mine ownR g
  cl : ∀ g, Z g → g < W.heap.size ∧ ¬ Mine own g ∧ ¬ Mine ownR g
section
variable {W w' : World} {base baseR : Nat} {own ownR own' : Nat → Option Role} {s r : Value} {n n' : Nat} {M M' R R' : Int → List Bk} {Z : Nat → Prop}
theorem Se.turn (h : Se W base baseR own ownR s r n M R Z) {S : Nat → Prop} (t : Turns S W w') (h1 : ∀ g, Mine own g → ¬ S g) (h2 : ∀ g, Mine ownR g → ¬ S g) : Se w' base baseR own ownR s r n M R Z :=
  ⟨h.st.keep t h1, h.rt.keep t h2, h.dj, fun g hz => ⟨Nat.lt_of_lt_of_le (h.cl g hz).1 t.size, (h.cl g hz).2⟩⟩
theorem Se.new (h : Se W base baseR own ownR s r n M R Z) (hb : Below W.heap.size W w') : Se w' base baseR own ownR s r n M R Z :=
  h.turn (Turns.of_below (S := fun _ => False) hb) (fun _ _ e => e) (fun _ _ e => e)
theorem Se.drew (h : Se W base baseR own ownR s r n M R Z) : Se W.drew base baseR own ownR s r n M R Z := h.turn (Turns.refl (fun _ => False) W).drew (fun _ _ e => e) (fun _ _ e => e)
theorem Se.add (h : Se W base baseR own ownR s r n M R Z) (hb : Below W.heap.size W w') {Y : Nat → Prop} (hy : ∀ g, Y g → W.heap.size ≤ g ∧ g < w'.heap.size) : Se w' base baseR own ownR s r n M R (fun g => Z g ∨ Y g) := by
  have h1 := h.new hb
  refine ⟨h1.st, h1.rt, h.dj, fun g hg => ?_⟩
  rcases hg with hz | hy'
  · exact h1.cl g hz
  · have := hy g hy'
    refine ⟨this.2, fun hm => ?_, fun hm => ?_⟩
    · have := (h.st.fp hm).2; omega
    · have := (h.rt.fp hm).2; omega
theorem Se.sub (h : Se W base baseR own ownR s r n M R Z) {Y : Nat → Prop} (hy : ∀ g, Y g → Z g) : Se W base baseR own ownR s r n M R Y := ⟨h.st, h.rt, h.dj, fun g hg => h.cl g (hy g hg)⟩
end
theorem same_sets {w : World} {base baseR : Nat} {own ownR : Nat → Option Role} {s r : Value} {n N : Nat} {M : Int → List Bk} {Z : Nat → Prop} (B : Se w base baseR own ownR s r n M M Z) (hg : Good M N) (hN : N ≤ 100000) :
    Calls Tryz.prog 27 #[s, r] w fun e w' => e = .returned (.bool true) ∧ Below w.heap.size w w' := by
  have HSC := Lib.hid (B.sub (Y := fun _ => False) (fun g h => h.elim)); have HG := Lib.hid hg
  clear B hg
  go_enter Tryz.func27, Tryz.ntmps27
  go_wp2_with fail
  go_loopg [5] 9 (fun q s5 wx => ∃ k : Nat, k ≤ 9 ∧ q = 9 - k ∧ s5 = .int .i64 ((k + 1 : Nat) : Int) ∧ Below w.heap.size w wx)
  case atStart => exact ⟨0, by omega, rfl, rfl, Below.refl _ _⟩
  case round =>
    obtain ⟨k, hk, rfl, rfl, hb⟩ := hrel
    have HB := Lib.hid hb
    clear hb
    obtain ⟨wo, rfl⟩ : ∃ wo : World, wo = wr := ⟨_, rfl⟩
    by_cases hk9 : k < 9
    · obtain ⟨b, hbk⟩ : ∃ b : Int, b = ((k + 1 : Nat) : Int) := ⟨_, rfl⟩
      have HBK := Lib.hid hbk
      have hb9 : b ≤ 9 := by omega
      have hb1 : 1 ≤ b := by omega
      have hbI : InI b := by unfold InI; omega
      rw [← hbk]
      have hsc1 := HSC.out.new HB.out
      have hhs : ∀ W, Below w.heap.size w W → Calls Tryz.prog 50 #[s, .int .i64 b] W fun e w' => e = .returned (.bool (decide (0 < (M b).length))) ∧ W = w' := fun W hW => by
        obtain ⟨F, hr⟩ := (HSC.out.new hW).st.rs
        obtain ⟨A, c, V, e, _⟩ := hr.rd b
        exact has_any hr.sv hbI e
      have hrhs : ∀ W, Below w.heap.size w W → Calls Tryz.prog 47 #[r, .int .i64 b] W fun e w' => e = .returned (.bool (decide (0 < (M b).length))) ∧ W = w' := fun W hW => rhas_any (HSC.out.new hW).rt b
      have htc : 0 < (M b).length → ∃ rb k A c, r = .pointer (some ⟨rb, 0, none⟩) ∧ b = (k : Nat) ∧ k < 9 ∧ ∀ W, Below w.heap.size w W → W.cell? ⟨rb, 9 + k, none⟩ = some (.slice A (M b).length c) := fun hp => by
        obtain ⟨rb, Q, T, V, hf⟩ := HSC.out.rt
        obtain ⟨k, hbk, hk2, hk9⟩ := hf.nat (b := b) (fun e => by rw [e] at hp; simp at hp)
        subst hbk
        obtain ⟨A, c, e, _⟩ := (hf.ht k hk9).shape
        refine ⟨rb, k, A, c, hf.hs, rfl, hk9, fun W hW => ?_⟩
        rw [← e]
        exact (hW.cell (p := ⟨rb, 9 + k, none⟩) (hf.fp rb _ hf.os).2).trans (hf.hT k hk9).1
      have hml := HG.out.len b
      obtain ⟨m, hm⟩ : ∃ m, m = (M b).length := ⟨_, rfl⟩
      rw [← hm] at hhs hrhs htc hml
      have HHS := Lib.hid hhs; have HRHS := Lib.hid hrhs; have HTC := Lib.hid htc; have HM := Lib.hid hm
      clear hhs hrhs htc hm hsc1 hbk
      by_cases hm0 : m = 0
      · subst hm0
        have hd : decide (0 < 0) = false := by decide
        rw [hd] at HHS HRHS
        clear hd
        have e12 : IntKind.i64.wrap (b + 1) = b + 1 := by rw [IntKind.wrap_i64]; omega
        go_wp2_with (first
          | (go_at_call 50; refine (HHS.out _ HB.out).mono ?_; rintro e w' ⟨rfl, rfl⟩)
          | (go_at_call 47; refine (HRHS.out _ HB.out).mono ?_; rintro e w' ⟨rfl, rfl⟩))
        refine wp_loop_rounds 1 ?_
        rw [rounds_succ]
        go_wp2_with (go_at_call 47; refine (HRHS.out _ HB.out).mono ?_; rintro e w' ⟨rfl, rfl⟩)
        go_roundg (9 - (k + 1))
        case measure => omega
        case rel => exact ⟨k + 1, by omega, rfl, by rw [HBK.out]; go_num, HB.out⟩
      · obtain ⟨rb, kb, Ar, cr, rfl, hbkb, hkb9, hcell⟩ := HTC.out (by omega)
        have hd : decide (0 < m) = true := by simpa using Nat.pos_of_ne_zero hm0
        rw [hd] at HHS HRHS
        subst hbkb
        have HCELL := Lib.hid hcell
        clear hd hcell HTC
        have e12 : IntKind.i64.wrap ((kb : Int) + 1) = (kb : Int) + 1 := by rw [IntKind.wrap_i64]; omega
        go_wp2_with (first
          | (go_at_call 50; refine (HHS.out _ HB.out).mono ?_; rintro e w' ⟨rfl, rfl⟩)
          | (go_at_call 47; refine (HRHS.out _ HB.out).mono ?_; rintro e w' ⟨rfl, rfl⟩))
        go_loopg [6] m (fun q s6 wx => ∃ i : Nat, i ≤ m ∧ q = m - i ∧ s6 = .int .i64 (i : Int) ∧ Below w.heap.size w wx)
        case atStart => exact ⟨0, by omega, rfl, rfl, HB.out⟩
        case round =>
          obtain ⟨i, hi, rfl, rfl, hb2⟩ := hrel
          have HB2 := Lib.hid hb2
          have hcw := HCELL.out wr hb2
          clear hb2
          by_cases him : i < m
          · obtain ⟨xa, xf, htm, hrtm⟩ := timer_all M hbI (i : Int)
            obtain ⟨D, hD, hq, hrq⟩ := queue_all HG.out hN hbI (i : Int)
            obtain ⟨nd, hnd⟩ : ∃ nd, nd = D.length := ⟨_, rfl⟩
            rw [← hnd] at hq hrq
            have HTM := Lib.hid htm; have HRTM := Lib.hid hrtm; have HQ := Lib.hid hq; have HRQ := Lib.hid hrq; have HND := Lib.hid hnd; have HD9 := Lib.hid hD
            have hne := fun W => neqT xa xf xa xf W
            simp only [and_self, decide_true, Bool.not_true] at hne
            clear htm hrtm hq hrq hnd hD
            go_upto_region 10 with (go_at_call 47; refine (HRHS.out _ HB2.out).mono ?_; rintro e w' ⟨rfl, rfl⟩)
            have hnew := heap_alloc_new wr (.cells #[.int .i64 (kb : Int), .int .i64 (i : Int)] 76)
            have hbn := below1 wr (.cells #[.int .i64 (kb : Int), .int .i64 (i : Int)] 76)
            have hsz : (wr.alloc (.cells #[.int .i64 (kb : Int), .int .i64 (i : Int)] 76)).heap.size = wr.heap.size + 1 := by simp
            generalize hw3 : wr.alloc (.cells #[.int .i64 (kb : Int), .int .i64 (i : Int)] 76) = w3 at *
            clear hw3
            obtain ⟨X7, hX7⟩ : ∃ X, X = wr.heap.size := ⟨_, rfl⟩
            have hsc3 : Se w3.drew base baseR own ownR s (.pointer (some ⟨rb, 0, none⟩)) n M M (fun g => g = X7) := (((HSC.out.new HB2.out).add hbn (Y := fun g => g = X7) (fun g hg => by omega)).drew).sub (fun g hg => .inr hg)
            rw [← hX7] at hnew ⊢
            have x0 : w3.drew.cell? ⟨X7, 0, none⟩ = some (.int .i64 (kb : Int)) := cell_row hnew 0
            have x1 : w3.drew.cell? ⟨X7, 1, none⟩ = some (.int .i64 (i : Int)) := cell_row hnew 1
            have HSC3 := Lib.hid hsc3
            have HB3 : Hid (Below w.heap.size w w3.drew) := Lib.hid ((HB2.out.trans (hbn.mono HB2.out.size)).drew)
            clear hnew hbn hsz hX7 hsc3 hcw
            refine wp_region_held_drew (S := fun w' => w'.cell? ⟨X7, 0, none⟩ = some (.int .i64 (kb : Int)) ∧ w'.cell? ⟨X7, 1, none⟩ = some (.int .i64 (i : Int))) (by kernel_rfl) ?_ (fun hHeld => ?_)
            · exact ⟨x0, x1⟩
            refine tA 0 ⟨some 38, .move (.tmp 0), 56, "help.go:23", #[], none⟩ ?va0 ?ra0
            (try simp only [Act.put, tC, tD, tE])
            refine tA 1 ⟨some 39, .load 76 (.tmp 7), 76, "help.go:23", #[], none⟩ ?va1 ?ra1
            (try simp only [Act.put, tC, tD, tE])
            refine tA 4 ⟨some 42, .move (.tmp 1), 65, "help.go:23", #[], none⟩ ?va4 ?ra4
            (try simp only [Act.put, tC, tD, tE])
            refine tA 5 ⟨some 43, .load 76 (.tmp 7), 76, "help.go:23", #[], none⟩ ?va5 ?ra5
            (try simp only [Act.put, tC, tD, tE])
            refine wpAnyH_ready (rs := [2]) (by kernel_rfl) (by simp) ?_
            refine AllReadyH.cons (o := ⟨some 40, .call ⟨.value (.func 73), #[.tmp 38, .tmp 39], #[56, 76]⟩, 79, "help.go:23", #[⟨0, .data⟩, ⟨1, .data⟩], none⟩) rfl (fun Kq hKq => ?_) AllReadyH.nil
            go_simp
            (have l7 := (HSC3.out.cl X7 rfl).1; refine (HTM.out _ base own s n HSC3.out.st).mono ?_; rintro e w4 ⟨rfl, hb4⟩; have HSC4 := Lib.hid (HSC3.out.new hb4); have HB4 := Lib.hid hb4)
            refine hKq.out _ _ ?_ (fun hHeld => ?_)
            · exact ⟨(hb4.cell (p := ⟨X7, 0, none⟩) l7).trans hHeld.1, (hb4.cell (p := ⟨X7, 1, none⟩) l7).trans hHeld.2⟩
            clear hKq Kq
            (try simp only [Act.put, tC, tD, tE])
            refine wpAnyH_ready (rs := [3]) (by kernel_rfl) (by simp) ?_
            refine AllReadyH.cons (o := ⟨some 41, .call ⟨.value (.func 72), #[.tmp 40], #[79]⟩, 90, "help.go:23", #[⟨2, .data⟩, ⟨2, .chain⟩], none⟩) rfl (fun Kq hKq => ?_) AllReadyH.nil
            go_simp
            (have l7 := (HSC4.out.cl X7 rfl).1; refine (otherT_any xa xf _).mono ?_; rintro e w5 ⟨rfl, hb5⟩; have HSC5 := Lib.hid (HSC4.out.new hb5); have HB5 := Lib.hid hb5)
            refine hKq.out _ _ ?_ (fun hHeld => ?_)
            · exact ⟨(hb5.cell (p := ⟨X7, 0, none⟩) l7).trans hHeld.1, (hb5.cell (p := ⟨X7, 1, none⟩) l7).trans hHeld.2⟩
            clear hKq Kq
            (try simp only [Act.put, tC, tD, tE])
            refine wpAnyH_ready (rs := [6]) (by kernel_rfl) (by simp) ?_
            refine AllReadyH.cons (o := ⟨some 44, .call ⟨.value (.func 16), #[.tmp 43], #[76]⟩, 82, "help.go:23", #[⟨5, .data⟩, ⟨3, .chain⟩], none⟩) rfl (fun Kq hKq => ?_) AllReadyH.nil
            go_simp
            (have l7 := (HSC5.out.cl X7 rfl).1; refine (otherP_any (kb : Int) (i : Int) _).mono ?_; rintro e w6 ⟨rfl, hb6⟩; have HSC6 := Lib.hid (HSC5.out.new hb6); have HB6 := Lib.hid hb6)
            refine hKq.out _ _ ?_ (fun hHeld => ?_)
            · exact ⟨(hb6.cell (p := ⟨X7, 0, none⟩) l7).trans hHeld.1, (hb6.cell (p := ⟨X7, 1, none⟩) l7).trans hHeld.2⟩
            clear hKq Kq
            (try simp only [Act.put, tC, tD, tE])
            refine wpAnyH_ready (rs := [7]) (by kernel_rfl) (by simp) ?_
            refine AllReadyH.cons (o := ⟨some 45, .call ⟨.value (.func 74), #[.tmp 42, .tmp 44], #[65, 82]⟩, 90, "help.go:23", #[⟨4, .data⟩, ⟨6, .data⟩, ⟨6, .chain⟩], none⟩) rfl (fun Kq hKq => ?_) AllReadyH.nil
            go_simp
            (have l7 := (HSC6.out.cl X7 rfl).1; refine (HRTM.out _ baseR ownR _ HSC6.out.rt).mono ?_; rintro e w7 ⟨rfl, hb7⟩; have HSC7 := Lib.hid (HSC6.out.new hb7); have HB7 := Lib.hid hb7)
            refine hKq.out _ _ ?_ (fun hHeld => ?_)
            · exact ⟨(hb7.cell (p := ⟨X7, 0, none⟩) l7).trans hHeld.1, (hb7.cell (p := ⟨X7, 1, none⟩) l7).trans hHeld.2⟩
            clear hKq Kq
            (try simp only [Act.put, tC, tD, tE])
            refine tA 8 ⟨some 46, .binOp .neq 90 (.tmp 41) (.tmp 45) 90, 4, "help.go:23", #[⟨3, .data⟩, ⟨7, .data⟩], none⟩ ?va8 ?ra8
            (try simp only [Act.put, tC, tD, tE])
            refine tA 9 ⟨some 47, .move (.tmp 46), 4, "help.go:23", #[⟨8, .data⟩, ⟨7, .chain⟩], none⟩ ?va9 ?ra9
            (try simp only [Act.put, tC, tD, tE])
            refine tA 10 ⟨some 48, .move (.tmp 0), 56, "help.go:23", #[⟨9, .guard⟩], some (9, false)⟩ ?va10 ?ra10
            (try simp only [Act.put, tC, tD, tE])
            refine tA 11 ⟨some 49, .load 76 (.tmp 7), 76, "help.go:23", #[⟨9, .guard⟩], some (9, false)⟩ ?va11 ?ra11
            (try simp only [Act.put, tC, tD, tE])
            refine tA 13 ⟨some 51, .move (.tmp 1), 65, "help.go:23", #[⟨9, .guard⟩], some (9, false)⟩ ?va13 ?ra13
            (try simp only [Act.put, tC, tD, tE])
            refine tA 14 ⟨some 52, .load 76 (.tmp 7), 76, "help.go:23", #[⟨9, .guard⟩], some (9, false)⟩ ?va14 ?ra14
            (try simp only [Act.put, tC, tD, tE])
            refine wpAnyH_ready (rs := [12]) (by kernel_rfl) (by simp) ?_
            refine AllReadyH.cons (o := ⟨some 50, .call ⟨.value (.func 76), #[.tmp 48, .tmp 49], #[56, 76]⟩, 77, "help.go:23", #[⟨10, .data⟩, ⟨11, .data⟩, ⟨9, .chain⟩, ⟨9, .guard⟩], some (9, false)⟩) rfl (fun Kq hKq => ?_) AllReadyH.nil
            go_simp
            (have l7 := (HSC7.out.cl X7 rfl).1; refine (HQ.out _ base own s n HSC7.out.st).mono ?_; rintro e w8 ⟨A8, rfl, hr8, hb8⟩; have HR8 := Lib.hid hr8; clear hr8; have HSC8 := Lib.hid (HSC7.out.new hb8); have HB8 := Lib.hid hb8)
            refine hKq.out _ _ ?_ (fun hHeld => ?_)
            · exact ⟨(hb8.cell (p := ⟨X7, 0, none⟩) l7).trans hHeld.1, (hb8.cell (p := ⟨X7, 1, none⟩) l7).trans hHeld.2⟩
            clear hKq Kq
            (try simp only [Act.put, tC, tD, tE])
            refine wpAnyH_ready (rs := [15]) (by kernel_rfl) (by simp) ?_
            refine AllReadyH.cons (o := ⟨some 53, .call ⟨.value (.func 16), #[.tmp 52], #[76]⟩, 82, "help.go:23", #[⟨14, .data⟩, ⟨12, .chain⟩, ⟨9, .guard⟩], some (9, false)⟩) rfl (fun Kq hKq => ?_) AllReadyH.nil
            go_simp
            (have l7 := (HSC8.out.cl X7 rfl).1; refine (otherP_any (kb : Int) (i : Int) _).mono ?_; rintro e w9 ⟨rfl, hb9⟩; have HSC9 := Lib.hid (HSC8.out.new hb9); have HB9 := Lib.hid hb9)
            refine hKq.out _ _ ?_ (fun hHeld => ?_)
            · exact ⟨(hb9.cell (p := ⟨X7, 0, none⟩) l7).trans hHeld.1, (hb9.cell (p := ⟨X7, 1, none⟩) l7).trans hHeld.2⟩
            clear hKq Kq
            (try simp only [Act.put, tC, tD, tE])
            refine wpAnyH_ready (rs := [16]) (by kernel_rfl) (by simp) ?_
            refine AllReadyH.cons (o := ⟨some 54, .call ⟨.value (.func 77), #[.tmp 51, .tmp 53], #[65, 82]⟩, 86, "help.go:23", #[⟨13, .data⟩, ⟨15, .data⟩, ⟨15, .chain⟩, ⟨9, .guard⟩], some (9, false)⟩) rfl (fun Kq hKq => ?_) AllReadyH.nil
            go_simp
            (have l7 := (HSC9.out.cl X7 rfl).1; refine (HRQ.out _ baseR ownR _ HSC9.out.rt).mono ?_; rintro e w10 ⟨A10, c10, rfl, hc10, hc109, hr10, hb10⟩; have HR10 := Lib.hid hr10; clear hr10; have HSC10 := Lib.hid (HSC9.out.new hb10); have HB10 := Lib.hid hb10)
            refine hKq.out _ _ ?_ (fun hHeld => ?_)
            · exact ⟨(hb10.cell (p := ⟨X7, 0, none⟩) l7).trans hHeld.1, (hb10.cell (p := ⟨X7, 1, none⟩) l7).trans hHeld.2⟩
            clear hKq Kq
            (try simp only [Act.put, tC, tD, tE])
            refine wpAnyH_ready (rs := [17]) (by kernel_rfl) (by simp) ?_
            refine AllReadyH.cons (o := ⟨some 55, .call ⟨.value (.func 75), #[.tmp 50, .tmp 54], #[77, 86]⟩, 4, "help.go:23", #[⟨12, .data⟩, ⟨16, .data⟩, ⟨16, .chain⟩, ⟨9, .guard⟩], some (9, false)⟩) rfl (fun Kq hKq => ?_) AllReadyH.nil
            go_simp
            (have l7 := (HSC10.out.cl X7 rfl).1; have hq4 := (HR8.out.new HB9.out).new HB10.out; rw [HND.out] at hq4; have hsm := same_any D.length c10 hq4.rd ((HR10.out).more HB10.out.size) (Nat.le_refl _) (Nat.le_refl _) (by have := HD9.out; omega); rw [← HND.out] at hsm; refine hsm.mono ?_; rintro e w11 ⟨rfl, hb11⟩; have HSC11 := Lib.hid (HSC10.out.new hb11); have HB11 := Lib.hid hb11; clear hq4 hsm)
            refine hKq.out _ _ ?_ (fun hHeld => ?_)
            · exact ⟨(hb11.cell (p := ⟨X7, 0, none⟩) l7).trans hHeld.1, (hb11.cell (p := ⟨X7, 1, none⟩) l7).trans hHeld.2⟩
            clear hKq Kq
            (try simp only [Act.put, tC, tD, tE])
            refine tA 18 ⟨some 56, .unOp .not 4 (.tmp 55), 4, "help.go:23", #[⟨17, .data⟩, ⟨9, .guard⟩], some (9, false)⟩ ?va18 ?ra18
            (try simp only [Act.put, tC, tD, tE])
            refine tA 19 ⟨some 57, .pick (.tmp 47) (.const (.bool true)) (.tmp 56), 4, "help.go:23", #[⟨9, .data⟩, ⟨18, .data⟩], none⟩ ?va19 ?ra19
            (try simp only [Act.put, tC, tD, tE])
            refine wpAnyH_done (by kernel_rfl) ?_ _
            have b4 := HB3.out.trans (HB4.out.mono HB3.out.size)
            have b5 := b4.trans (HB5.out.mono b4.size)
            have b6 := b5.trans (HB6.out.mono b5.size)
            have b7 := b6.trans (HB7.out.mono b6.size)
            have b8 := b7.trans (HB8.out.mono b7.size)
            have b9 := b8.trans (HB9.out.mono b8.size)
            have b10 := b9.trans (HB10.out.mono b9.size)
            have HB12 := Lib.hid (b10.trans (HB11.out.mono b10.size))
            clear b4 b5 b6 b7 b8 b9 b10 hne
            go_wp2_with fail
            go_roundg (m - (i + 1))
            case measure => omega
            case rel => exact ⟨i + 1, by omega, rfl, by go_num, HB12.out⟩
          · obtain rfl : i = m := by omega
            go_wp2_with (go_at_call 47; refine (HRHS.out _ HB2.out).mono ?_; rintro e w' ⟨rfl, rfl⟩)
            go_roundg (9 - (k + 1))
            case measure => omega
            case rel => exact ⟨k + 1, by omega, rfl, by have := HBK.out; rw [this]; go_num, HB2.out⟩
    · obtain rfl : k = 9 := by omega
      go_wp2_with fail
      go_ret
      exact ⟨rfl, HB.out⟩
end Go.Proofs.YtdodloannlfnlaaGreat.S10
namespace Go.Proofs.YtdodloannlfnlaaGreat.S12
set_option maxRecDepth 100000
set_option maxHeartbeats 16000000
open Go.Proofs.YtdodloannlfnlaaGreat Go.Proofs.YtdodloannlfnlaaGreat.S11
open Go.RowKit
section
variable {P : Program} {ops : Array Oper} {Q : Exit → Act → World → Prop} {md : Region.Mode} {S S' : World → Prop}
theorem wpAnyH_more (h : ∀ w, S' w → S w) : ∀ (fuel : Nat) (listed : Array Bool) (a : Act) (w : World), wpAnyH P md ops Q S' fuel listed a w → wpAnyH P md ops Q S fuel listed a w
  | 0, _, _, _, hq => hq
  | fuel + 1, _, _, _, hq => ⟨hq.1, fun i hi => wpOp_mono (fun a' w' h' => ⟨h w' h'.1, wpAnyH_more h fuel _ a' w' h'.2⟩) (hq.2 i hi)⟩
end
theorem Bg.both02 {w0 w : World} {base WB RB N cn tn : Nat} {M : Sd} {E : List Part} {X : Wm} {Y : Rm} (h : Bg w0 w base WB RB N cn tn M M E X Y) : S2.Both w 0 X.cB Y.rB X.L X.n X.k X.a X.was X.is := by
  have heq : X.sd = Y.sd := by rw [h.xm, h.ym]
  have e_L : X.L = Y.L := congrArg Sd.L heq
  have e_n : X.n = Y.n := congrArg Sd.n heq
  have e_k : X.k = Y.k := congrArg Sd.k heq
  have e_a : X.a = Y.a := congrArg Sd.a heq
  have e_was : X.was = Y.was := congrArg Sd.was heq
  have e_is : X.is = Y.is := congrArg Sd.is heq
  have hr := h.pr.rcells
  rw [← e_L, ← e_n, ← e_k, ← e_a, ← e_was, ← e_is] at hr
  have ap : ∀ k, (cellsP X.cB X.cM X.L X.n X.k X.a X.was X.is).fp k → ¬ (rcellsP Y.rb Y.rB Y.rs Y.L Y.n Y.k Y.a Y.was Y.is).fp k := h.pr.apart 0 7 _ _ rfl rfl (by decide)
  refine ⟨Nat.zero_le _, Nat.zero_le _, Nat.zero_le _, fun e => ap X.cB (.inl rfl) (.inl e.symm), h.byt, X.cM, Y.rs, h.pr.pw.cells, ⟨hr.good, hr.row, S2.row_base hr.own (Nat.zero_le _), hr.ne⟩, fun m hm => ⟨Nat.zero_le _, fun e => ap m (.inr hm) (.inl e), fun e => ap m (.inr hm) (.inr e)⟩, fun e => ap X.cB (.inl rfl) (.inr e)⟩
theorem Bg.se {w0 w : World} {base WB RB N cn tn : Nat} {M : Sd} {E : List Part} {X : Wm} {Y : Rm} (h : Bg w0 w base WB RB N cn tn M M E X Y) : S10.Se w X.tb Y.tb X.tO Y.tO X.ts Y.ts X.tn M.m M.m (fun _ => False) :=
  ⟨h.st, h.rt, h.pr.apart 4 9 _ _ rfl rfl (by decide), fun _ e => e.elim⟩
def Z64l : List Value := List.replicate 64 (.int .u64 0)
def Z64 : Array Value := Z64l.toArray
theorem under64 : Tryz.prog.underlying 58 = some (.array 64 27) := by kernel_rfl
theorem info64 : (Tryz.prog.info? 58).map (·.size) = some Z64l.length := by kernel_rfl
theorem neq64 (w : World) : (binOp .neq 58 (.agg Z64) (.agg Z64)).run Tryz.prog w = .ok (.bool false) w := by kernel_rfl
theorem z64_get (j : Nat) (hj : j < 64) : Z64l[j]? = some (.int .u64 0) := by
  unfold Z64l
  rw [List.getElem?_replicate, if_pos hj]
theorem zx7 : ∀ j, j < 64 → Tryz.zeroCells60[7 + j]? = some (.int .u64 0) := by
  intro j hj
  have e : Tryz.zeroCells60 = (#[.pointer none, .pointer none, .pointer none, .pointer none, .pointer none, .pointer none, .int .i64 0] ++ Z64 : Array Value) := by kernel_rfl
  rw [e, Array.getElem?_append_right (by simp)]
  show Z64[7 + j - 7]? = _
  rw [Nat.add_sub_cancel_left]
  unfold Z64
  rw [List.getElem?_toArray]
  exact z64_get j hj
theorem zy7 : ∀ j, j < 64 → Tryz.zeroCells68[7 + j]? = some (.int .u64 0) := by
  intro j hj
  have e : Tryz.zeroCells68 = (#[.pointer none, .pointer none, .pointer none, .pointer none, .pointer none, .pointer none, .int .i64 0] ++ Z64 : Array Value) := by kernel_rfl
  rw [e, Array.getElem?_append_right (by simp)]
  show Z64[7 + j - 7]? = _
  rw [Nat.add_sub_cancel_left]
  unfold Z64
  rw [List.getElem?_toArray]
  exact z64_get j hj
theorem px7 (a b c d e f : Value) (sp : Int) (j : Nat) (hj : j < 64) : (pcells a b c d e f sp)[7 + j]? = some (.int .u64 0) := by
  simp [pcells, Array.getElem?_setIfInBounds, zsize, zx7 j hj, show ¬ 0 = 7 + j by omega, show ¬ 1 = 7 + j by omega, show ¬ 2 = 7 + j by omega, show ¬ 3 = 7 + j by omega, show ¬ 4 = 7 + j by omega, show ¬ 5 = 7 + j by omega, show ¬ 6 = 7 + j by omega]
theorem py7 (a b c d e f : Value) (sp : Int) (j : Nat) (hj : j < 64) : (wcells a b c d e f sp)[7 + j]? = some (.int .u64 0) := by
  simp [wcells, Array.getElem?_setIfInBounds, rsize, zy7 j hj, show ¬ 0 = 7 + j by omega, show ¬ 1 = 7 + j by omega, show ¬ 2 = 7 + j by omega, show ¬ 3 = 7 + j by omega, show ¬ 4 = 7 + j by omega, show ¬ 5 = 7 + j by omega, show ¬ 6 = 7 + j by omega]
theorem Bg.tokX {w0 w : World} {base WB RB N cn tn : Nat} {M RM : Sd} {E : List Part} {X : Wm} {Y : Rm} (h : Bg w0 w base WB RB N cn tn M RM E X Y) : w.rangeAt WB 7 Z64l := fun j v hj => by
  have hl : j < 64 := by
    have := (List.getElem?_eq_some_iff.1 hj).1
    unfold Z64l at this
    rwa [List.length_replicate] at this
  have hv : v = .int .u64 0 := by rw [z64_get j hl] at hj; injection hj with hj; exact hj.symm
  rw [hv, ← h.wB]
  exact (cell_row h.pr.pw.own (7 + j)).trans (px7 _ _ _ _ _ _ _ j hl)
theorem Bg.tokY {w0 w : World} {base WB RB N cn tn : Nat} {M RM : Sd} {E : List Part} {X : Wm} {Y : Rm} (h : Bg w0 w base WB RB N cn tn M RM E X Y) : w.rangeAt RB 7 Z64l := fun j v hj => by
  have hl : j < 64 := by
    have := (List.getElem?_eq_some_iff.1 hj).1
    unfold Z64l at this
    rwa [List.length_replicate] at this
  have hv : v = .int .u64 0 := by rw [z64_get j hl] at hj; injection hj with hj; exact hj.symm
  rw [hv, ← h.rB]
  exact (cell_row h.pr.rown (7 + j)).trans (py7 _ _ _ _ _ _ _ j hl)
def SaF (w2 : World) (B0 WB RB cB kB nB rB rkB rnB nl nc T : Nat) (ts rts : Value) (nA : Option Addr) (w' : World) : Prop := Below w2.heap.size w2 w' ∧ w'.cell? ⟨B0, 0, none⟩ = some (Pw WB) ∧ w'.cell? ⟨B0, 1, none⟩ = some (Pw RB) ∧ w'.cell? ⟨WB, 0, none⟩ = some (Pw cB) ∧ w'.cell? ⟨WB, 1, none⟩ = some (Pw kB) ∧ w'.cell? ⟨WB, 4, none⟩ = some ts ∧ w'.cell? ⟨WB, 5, none⟩ = some (Pw nB) ∧ w'.cell? ⟨RB, 0, none⟩ = some (Pw rB) ∧ w'.cell? ⟨RB, 1, none⟩ = some (Pw rkB) ∧ w'.cell? ⟨RB, 4, none⟩ = some rts ∧ w'.cell? ⟨RB, 5, none⟩ = some (Pw rnB) ∧ w'.cell? ⟨rnB, 0, none⟩ = some (.slice nA nl nc) ∧ w'.cell? ⟨rkB, 0, none⟩ = some (.int .u64 (T : Int))
theorem SaF.new {w2 w' w'' : World} {B0 WB RB cB kB nB rB rkB rnB nl nc T : Nat} {ts rts : Value} {nA : Option Addr} (h : SaF w2 B0 WB RB cB kB nB rB rkB rnB nl nc T ts rts nA w') (hb : Below w'.heap.size w' w'') : SaF w2 B0 WB RB cB kB nB rB rkB rnB nl nc T ts rts nA w'' := by
  obtain ⟨hb0, c0, c1, c2, c3, c4, c5, c6, c7, c8, c9, c10, c11⟩ := h
  exact ⟨hb0.trans (hb.mono hb0.size), bcell hb c0, bcell hb c1, bcell hb c2, bcell hb c3, bcell hb c4, bcell hb c5, bcell hb c6, bcell hb c7, bcell hb c8, bcell hb c9, bcell hb c10, bcell hb c11⟩
def SbF (w2 : World) (B0 WB RB pB rpB Bx : Nat) (xa : Bool) (w' : World) : Prop := Below w2.heap.size w2 w' ∧ w'.cell? ⟨B0, 0, none⟩ = some (Pw WB) ∧ w'.cell? ⟨B0, 1, none⟩ = some (Pw RB) ∧ w'.cell? ⟨WB, 2, none⟩ = some (Pw pB) ∧ w'.cell? ⟨RB, 2, none⟩ = some (Pw rpB) ∧ w'.cell? ⟨Bx, 1, none⟩ = some (.bool xa)
theorem SbF.new {w2 w' w'' : World} {B0 WB RB pB rpB Bx : Nat} {xa : Bool} (h : SbF w2 B0 WB RB pB rpB Bx xa w') (hb : Below w'.heap.size w' w'') : SbF w2 B0 WB RB pB rpB Bx xa w'' := by
  obtain ⟨hb0, c0, c1, c2, c3, c4⟩ := h
  exact ⟨hb0.trans (hb.mono hb0.size), bcell hb c0, bcell hb c1, bcell hb c2, bcell hb c3, bcell hb c4⟩
theorem pair_all {w0 w : World} {base WB RB N cn tn : Nat} {M : Sd} {E : List Part} {X : Wm} {Y : Rm} (h : Bg w0 w base WB RB N cn tn M M E X Y) (hc : cn ≤ 2100000) (hN : N ≤ 100000) :
    Calls Tryz.prog 8 #[.agg #[Pw WB, Pw RB]] w fun e w' => e = .returned (.bool true) ∧ Below w.heap.size w w' := by
  have hb1 : Below w.heap.size w (w.alloc (.cells #[Pw WB, Pw RB] 25)) := (Below.refl _ _).alloc (Nat.le_refl _) _
  have hq0 := heap_alloc_new w (.cells #[Pw WB, Pw RB] 25)
  have h2 := h.new hb1
  obtain ⟨B0, hB0⟩ : ∃ B0, B0 = w.heap.size := ⟨_, rfl⟩
  rw [← hB0] at hq0
  have HB1 := Lib.hid hb1
  have HB0 := Lib.hid hB0
  clear hb1 h hB0
  go_enter Tryz.func8, Tryz.ntmps8
  go_upto_region 1 with (fail)
  rw [← HB0.out]
  generalize w.alloc (.cells #[Pw WB, Pw RB] 25) = w2 at *
  have b0 := cell_row hq0 0; have b1 := cell_row hq0 1
  simp only [List.getElem?_toArray, List.getElem?_cons_zero, List.getElem?_cons_succ] at b0 b1
  obtain ⟨nA, nc, hns, _⟩ := h2.pr.rnotes.own.shape
  have heq : X.sd = Y.sd := by rw [h2.xm, h2.ym]
  have e_T : X.T = Y.T := congrArg Sd.T heq
  have e_nD : X.nD = Y.nD := congrArg Sd.nD heq
  have e_pf : X.pf = Y.pf := congrArg Sd.pf heq
  have e_lk : X.lk = Y.lk := congrArg Sd.lk heq
  have hsm := fun (W : World) (q : Below w2.heap.size w2 W) => pair_same (h2.new q) (by omega)
  have hs2 := fun (W : World) (q : Below w2.heap.size w2 W) => S2.same_any W 0 X.cB Y.rB X.L X.n X.k X.a X.was X.is (h2.new q).both02
  have hal := fun (W : World) (q : Below w2.heap.size w2 W) => S11.all_any (h2.new q).pr.pw.notes (by have := h2.nD; omega)
  have hnl : Y.nD.length ≤ 2100000 := by rw [← e_nD]; have := h2.nD; omega
  have hnw := fun (W : World) (q : Below w2.heap.size w2 W) => S3.now_any (h2.new q).pr.pw.clock
  have hts := fun (W : World) (q : Below w2.heap.size w2 W) => S10.same_sets (h2.new q).se h2.gd hN
  have hnr : ∀ W, Below w2.heap.size w2 W → Rd W W.heap.size nA (flat .i64 X.nD) := fun W q => by
    have hr := (h2.new q).pr.rnotes.own
    rw [hns] at hr
    rw [e_nD]
    exact hr.rd
  have f2 := h2.pr.pw.c0; have f3 := h2.pr.pw.c1; have f4 := h2.pr.pw.c4; have f5 := h2.pr.pw.c5
  have f6 := h2.pr.r0; have f7 := h2.pr.r1; have f8 := h2.pr.r4; have f9 := h2.pr.r5
  have f10 := h2.pr.rnotes.cell
  have f11 := cell_row h2.pr.rclock.row 0
  simp only [List.getElem?_toArray, List.getElem?_cons_zero, List.getElem?_cons_succ] at f11
  rw [hns, ← e_nD] at f10
  rw [← e_T] at f11
  rw [h2.wB] at f2 f3 f4 f5
  rw [h2.rB] at f6 f7 f8 f9
  have hns2 : ∀ W A9 b9, Below w2.heap.size w2 W → ∀ _ : Unit, ∀ _ : Unit, Row W b9 7 (.slice A9 X.nD.length X.nD.length) X.nD.length (flat .u8 X.nD) → Calls Tryz.prog 25 #[.slice A9 X.nD.length X.nD.length, .slice nA X.nD.length nc] W fun e w' => e = .returned (.bool true) ∧ Below W.heap.size W w' := fun W A9 b9 q _ _ hr =>
    S11.same_any _ nc hr.rd (hnr W q) (Nat.le_refl _) (Nat.le_refl _) (by have := h2.nD; omega) h2.nk
  have H2 := Lib.hid h2
  obtain ⟨D, hD⟩ : ∃ D, D = X.nD := ⟨_, rfl⟩
  rw [← hD] at f10 hns2 hal
  obtain ⟨nl, hnl2⟩ : ∃ x, x = D.length := ⟨_, rfl⟩
  have hal2 : ∀ W, Below w2.heap.size w2 W → Calls Tryz.prog 26 #[Pw X.nB] W fun e w' => ∃ A, e = .returned (.slice A nl nl) ∧ Row w' W.heap.size 7 (.slice A nl nl) nl (flat .u8 D) ∧ Below W.heap.size W w' := fun W q => by rw [hnl2]; exact hal W q
  rw [← hnl2] at f10 hns2
  have HTX := Lib.hid (fun (W : World) (q : Below w2.heap.size w2 W) => (h2.new q).tokX)
  have HTY := Lib.hid (fun (W : World) (q : Below w2.heap.size w2 W) => (h2.new q).tokY)
  have HSM := Lib.hid hsm; have HS2 := Lib.hid hs2; have HAL := Lib.hid hal2; have HNS := Lib.hid hns2; have HTS := Lib.hid hts; have HNW := Lib.hid hnw
  have HE := Lib.hid (And.intro e_pf e_lk)
  clear hsm hs2 hal hal2 hns2 hts hnw hnr hnl hnl2 hD e_T e_nD e_pf e_lk heq hc hN
  obtain ⟨kB, hkB⟩ : ∃ x, x = X.kB := ⟨_, rfl⟩
  obtain ⟨cB, hcB⟩ : ∃ x, x = X.cB := ⟨_, rfl⟩
  obtain ⟨nB, hnB⟩ : ∃ x, x = X.nB := ⟨_, rfl⟩
  obtain ⟨ts, hts⟩ : ∃ x, x = X.ts := ⟨_, rfl⟩
  obtain ⟨rts, hrts⟩ : ∃ x, x = Y.ts := ⟨_, rfl⟩
  obtain ⟨rB, hrB⟩ : ∃ x, x = Y.rB := ⟨_, rfl⟩
  obtain ⟨rkB, hrkB⟩ : ∃ x, x = Y.kB := ⟨_, rfl⟩
  obtain ⟨rnB, hrnB⟩ : ∃ x, x = Y.nB := ⟨_, rfl⟩
  obtain ⟨T, hT⟩ : ∃ x, x = X.T := ⟨_, rfl⟩
  rw [← hcB, ← hrB] at HS2; rw [← hnB] at HAL; rw [← hts, ← hrts] at HTS; rw [← hkB, ← hT] at HNW
  rw [← hcB] at f2; rw [← hkB] at f3; rw [← hts] at f4; rw [← hnB] at f5; rw [← hrB] at f6; rw [← hrkB] at f7 f11; rw [← hrts] at f8; rw [← hrnB] at f9 f10; rw [← hT] at f11
  have hev := fun W => neq64 W
  have HF : Hid (w2.drew.cell? ⟨B0, 0, none⟩ = some (Pw WB) ∧ w2.drew.cell? ⟨B0, 1, none⟩ = some (Pw RB) ∧ w2.drew.cell? ⟨WB, 0, none⟩ = some (Pw cB) ∧ w2.drew.cell? ⟨WB, 1, none⟩ = some (Pw kB) ∧ w2.drew.cell? ⟨WB, 4, none⟩ = some ts ∧ w2.drew.cell? ⟨WB, 5, none⟩ = some (Pw nB) ∧ w2.drew.cell? ⟨RB, 0, none⟩ = some (Pw rB) ∧ w2.drew.cell? ⟨RB, 1, none⟩ = some (Pw rkB) ∧ w2.drew.cell? ⟨RB, 4, none⟩ = some rts ∧ w2.drew.cell? ⟨RB, 5, none⟩ = some (Pw rnB) ∧ w2.drew.cell? ⟨rnB, 0, none⟩ = some (.slice nA nl nc) ∧ w2.drew.cell? ⟨rkB, 0, none⟩ = some (.int .u64 (T : Int))) := Lib.hid ⟨b0, b1, f2, f3, f4, f5, f6, f7, f8, f9, f10, f11⟩
  have HQ0 := Lib.hid hq0
  clear b0 b1 f2 f3 f4 f5 f6 f7 f8 f9 f10 f11 hkB hcB hnB hts hrts hrB hrkB hrnB hT hns h2 hq0
  (try simp only [List.append_eq, List.cons_append, List.nil_append])
  refine wp_region_held_drew (S := fun w' => Below w2.heap.size w2 w' ∧ w'.cell? ⟨B0, 0, none⟩ = some (Pw WB) ∧ w'.cell? ⟨B0, 1, none⟩ = some (Pw RB) ∧ w'.cell? ⟨WB, 0, none⟩ = some (Pw cB) ∧ w'.cell? ⟨WB, 1, none⟩ = some (Pw kB) ∧ w'.cell? ⟨WB, 4, none⟩ = some ts ∧ w'.cell? ⟨WB, 5, none⟩ = some (Pw nB) ∧ w'.cell? ⟨RB, 0, none⟩ = some (Pw rB) ∧ w'.cell? ⟨RB, 1, none⟩ = some (Pw rkB) ∧ w'.cell? ⟨RB, 4, none⟩ = some rts ∧ w'.cell? ⟨RB, 5, none⟩ = some (Pw rnB) ∧ w'.cell? ⟨rnB, 0, none⟩ = some (.slice nA nl nc) ∧ w'.cell? ⟨rkB, 0, none⟩ = some (.int .u64 (T : Int))) (by kernel_rfl) ?_ (fun hHeld => ?_)
  · exact ⟨(Below.refl _ _).drew, HF.out⟩
  refine tA 0 ⟨some 10, .load 25 (.tmp 1), 25, "help.go:113", #[], none⟩ ?vam1 ?ram1
  (try simp only [Act.put, tC, tD, tE])
  refine wpAnyH_ready (rs := [1]) (by kernel_rfl) (by simp) ?_
  refine AllReadyH.cons (o := ⟨some 11, .call ⟨.value (.func 23), #[.tmp 10], #[25]⟩, 4, "help.go:113", #[⟨0, .data⟩], none⟩) rfl (fun Kq hKq => ?_) AllReadyH.nil
  go_simp
  (refine (HSM.out _ hHeld.1).mono ?_; rintro e w3 ⟨rfl, hb⟩)
  refine hKq.out _ _ ?_ (fun hHeld => ?_)
  · exact SaF.new hHeld hb
  clear hKq Kq
  (try simp only [Act.put, tC, tD, tE])
  refine tA 2 ⟨some 12, .unOp .not 4 (.tmp 11), 4, "help.go:113", #[⟨1, .data⟩], none⟩ ?vam2 ?ram2
  (try simp only [Act.put, tC, tD, tE])
  refine tA 3 ⟨some 13, .move (.tmp 12), 4, "help.go:113", #[⟨2, .data⟩, ⟨1, .chain⟩], none⟩ ?vam3 ?ram3
  (try simp only [Act.put, tC, tD, tE])
  refine tA 4 ⟨some 14, .fieldAddr 25 (.tmp 1) 0, 0, "help.go:113", #[⟨3, .guard⟩], some (3, false)⟩ ?vam4 ?ram4
  (try simp only [Act.put, tC, tD, tE])
  refine tA 5 ⟨some 15, .load 22 (.tmp 14), 22, "help.go:113", #[⟨4, .data⟩, ⟨3, .guard⟩], some (3, false)⟩ ?vam5 ?ram5
  (try simp only [Act.put, tC, tD, tE])
  refine tA 6 ⟨some 16, .nilCheck (.tmp 15), 0, "help.go:113", #[⟨5, .data⟩, ⟨3, .guard⟩], some (3, false)⟩ ?vam6 ?ram6
  (try simp only [Act.put, tC, tD, tE])
  refine tA 7 ⟨some 17, .fieldAddr 60 (.tmp 16) 0, 0, "help.go:113", #[⟨6, .data⟩, ⟨3, .guard⟩], some (3, false)⟩ ?vam7 ?ram7
  (try simp only [Act.put, tC, tD, tE])
  refine tA 8 ⟨some 18, .load 52 (.tmp 17), 52, "help.go:113", #[⟨7, .data⟩, ⟨3, .guard⟩], some (3, false)⟩ ?vam8 ?ram8
  (try simp only [Act.put, tC, tD, tE])
  refine tA 9 ⟨some 19, .fieldAddr 25 (.tmp 1) 1, 0, "help.go:113", #[⟨3, .guard⟩], some (3, false)⟩ ?vam9 ?ram9
  (try simp only [Act.put, tC, tD, tE])
  refine tA 10 ⟨some 20, .load 23 (.tmp 19), 23, "help.go:113", #[⟨9, .data⟩, ⟨3, .guard⟩], some (3, false)⟩ ?vam10 ?ram10
  (try simp only [Act.put, tC, tD, tE])
  refine tA 11 ⟨some 21, .nilCheck (.tmp 20), 0, "help.go:113", #[⟨10, .data⟩, ⟨3, .guard⟩], some (3, false)⟩ ?vam11 ?ram11
  (try simp only [Act.put, tC, tD, tE])
  refine tA 12 ⟨some 22, .fieldAddr 68 (.tmp 21) 0, 0, "help.go:113", #[⟨11, .data⟩, ⟨3, .guard⟩], some (3, false)⟩ ?vam12 ?ram12
  (try simp only [Act.put, tC, tD, tE])
  refine tA 13 ⟨some 23, .load 61 (.tmp 22), 61, "help.go:113", #[⟨12, .data⟩, ⟨3, .guard⟩], some (3, false)⟩ ?vam13 ?ram13
  (try simp only [Act.put, tC, tD, tE])
  refine wpAnyH_ready (rs := [14]) (by kernel_rfl) (by simp) ?_
  refine AllReadyH.cons (o := ⟨some 24, .call ⟨.value (.func 24), #[.tmp 18, .tmp 23], #[52, 61]⟩, 4, "help.go:113", #[⟨8, .data⟩, ⟨13, .data⟩, ⟨3, .chain⟩, ⟨3, .guard⟩], some (3, false)⟩) rfl (fun Kq hKq => ?_) AllReadyH.nil
  go_simp
  (refine (HS2.out _ hHeld.1).mono ?_; rintro e w3 ⟨rfl, hb⟩)
  refine hKq.out _ _ ?_ (fun hHeld => ?_)
  · exact SaF.new hHeld hb
  clear hKq Kq
  (try simp only [Act.put, tC, tD, tE])
  refine tA 15 ⟨some 25, .unOp .not 4 (.tmp 24), 4, "help.go:113", #[⟨14, .data⟩, ⟨3, .guard⟩], some (3, false)⟩ ?vam14 ?ram14
  (try simp only [Act.put, tC, tD, tE])
  refine tA 16 ⟨some 26, .pick (.tmp 13) (.const (.bool true)) (.tmp 25), 4, "help.go:113", #[⟨3, .data⟩, ⟨15, .data⟩], none⟩ ?vam15 ?ram15
  (try simp only [Act.put, tC, tD, tE])
  refine tA 17 ⟨some 27, .move (.tmp 26), 4, "help.go:113", #[⟨16, .data⟩, ⟨14, .chain⟩], none⟩ ?vam16 ?ram16
  (try simp only [Act.put, tC, tD, tE])
  refine tA 18 ⟨some 28, .fieldAddr 25 (.tmp 1) 0, 0, "help.go:113", #[⟨17, .guard⟩], some (17, false)⟩ ?vam17 ?ram17
  (try simp only [Act.put, tC, tD, tE])
  refine tA 19 ⟨some 29, .load 22 (.tmp 28), 22, "help.go:113", #[⟨18, .data⟩, ⟨17, .guard⟩], some (17, false)⟩ ?vam18 ?ram18
  (try simp only [Act.put, tC, tD, tE])
  refine tA 20 ⟨some 30, .nilCheck (.tmp 29), 0, "help.go:113", #[⟨19, .data⟩, ⟨17, .guard⟩], some (17, false)⟩ ?vam19 ?ram19
  (try simp only [Act.put, tC, tD, tE])
  refine tA 21 ⟨some 31, .fieldAddr 60 (.tmp 30) 5, 0, "help.go:113", #[⟨20, .data⟩, ⟨17, .guard⟩], some (17, false)⟩ ?vam20 ?ram20
  (try simp only [Act.put, tC, tD, tE])
  refine tA 22 ⟨some 32, .load 57 (.tmp 31), 57, "help.go:113", #[⟨21, .data⟩, ⟨17, .guard⟩], some (17, false)⟩ ?vam21 ?ram21
  (try simp only [Act.put, tC, tD, tE])
  refine tA 24 ⟨some 34, .fieldAddr 25 (.tmp 1) 1, 0, "help.go:113", #[⟨17, .guard⟩], some (17, false)⟩ ?vam22 ?ram22
  (try simp only [Act.put, tC, tD, tE])
  refine tA 25 ⟨some 35, .load 23 (.tmp 34), 23, "help.go:113", #[⟨24, .data⟩, ⟨17, .guard⟩], some (17, false)⟩ ?vam23 ?ram23
  (try simp only [Act.put, tC, tD, tE])
  refine tA 26 ⟨some 36, .nilCheck (.tmp 35), 0, "help.go:113", #[⟨25, .data⟩, ⟨17, .guard⟩], some (17, false)⟩ ?vam24 ?ram24
  (try simp only [Act.put, tC, tD, tE])
  refine tA 27 ⟨some 37, .fieldAddr 68 (.tmp 36) 5, 0, "help.go:113", #[⟨26, .data⟩, ⟨17, .guard⟩], some (17, false)⟩ ?vam25 ?ram25
  (try simp only [Act.put, tC, tD, tE])
  refine tA 28 ⟨some 38, .load 66 (.tmp 37), 66, "help.go:113", #[⟨27, .data⟩, ⟨17, .guard⟩], some (17, false)⟩ ?vam26 ?ram26
  (try simp only [Act.put, tC, tD, tE])
  refine tA 29 ⟨some 39, .nilCheck (.tmp 38), 0, "help.go:113", #[⟨28, .data⟩, ⟨17, .guard⟩], some (17, false)⟩ ?vam27 ?ram27
  (try simp only [Act.put, tC, tD, tE])
  refine tA 30 ⟨some 40, .fieldAddr 104 (.tmp 39) 0, 0, "help.go:113", #[⟨29, .data⟩, ⟨17, .guard⟩], some (17, false)⟩ ?vam28 ?ram28
  (try simp only [Act.put, tC, tD, tE])
  refine tA 31 ⟨some 41, .load 102 (.tmp 40), 102, "help.go:113", #[⟨30, .data⟩, ⟨17, .guard⟩], some (17, false)⟩ ?vam29 ?ram29
  (try simp only [Act.put, tC, tD, tE])
  refine wpAnyH_ready (rs := [23]) (by kernel_rfl) (by simp) ?_
  refine AllReadyH.cons (o := ⟨some 33, .call ⟨.value (.func 26), #[.tmp 32], #[57]⟩, 100, "help.go:113", #[⟨22, .data⟩, ⟨17, .chain⟩, ⟨17, .guard⟩], some (17, false)⟩) rfl (fun Kq hKq => ?_) AllReadyH.nil
  go_simp
  (refine (HAL.out _ hHeld.1).mono ?_; rintro e w3 ⟨A9, rfl, hrow, hb⟩)
  refine hKq.out _ _ ?_ (fun hHeld => ?_)
  · exact SaF.new hHeld hb
  clear hKq Kq
  (try simp only [Act.put, tC, tD, tE])
  obtain ⟨b9, hrow⟩ : ∃ b, Row w3 b 7 (.slice A9 nl nl) nl (flat .u8 D) ∧ b ≤ w3.heap.size := ⟨_, hrow, hb.size⟩
  refine wpAnyH_more (S' := fun w' => (Below w2.heap.size w2 w' ∧ w'.cell? ⟨B0, 0, none⟩ = some (Pw WB) ∧ w'.cell? ⟨B0, 1, none⟩ = some (Pw RB) ∧ w'.cell? ⟨WB, 0, none⟩ = some (Pw cB) ∧ w'.cell? ⟨WB, 1, none⟩ = some (Pw kB) ∧ w'.cell? ⟨WB, 4, none⟩ = some ts ∧ w'.cell? ⟨WB, 5, none⟩ = some (Pw nB) ∧ w'.cell? ⟨RB, 0, none⟩ = some (Pw rB) ∧ w'.cell? ⟨RB, 1, none⟩ = some (Pw rkB) ∧ w'.cell? ⟨RB, 4, none⟩ = some rts ∧ w'.cell? ⟨RB, 5, none⟩ = some (Pw rnB) ∧ w'.cell? ⟨rnB, 0, none⟩ = some (.slice nA nl nc) ∧ w'.cell? ⟨rkB, 0, none⟩ = some (.int .u64 (T : Int))) ∧ Row w' b9 7 (.slice A9 nl nl) nl (flat .u8 D)) (fun _ h => h.1) _ _ _ _ ?_
  have HB9 := Lib.hid hrow.2
  have hHeld : (fun w' => (Below w2.heap.size w2 w' ∧ w'.cell? ⟨B0, 0, none⟩ = some (Pw WB) ∧ w'.cell? ⟨B0, 1, none⟩ = some (Pw RB) ∧ w'.cell? ⟨WB, 0, none⟩ = some (Pw cB) ∧ w'.cell? ⟨WB, 1, none⟩ = some (Pw kB) ∧ w'.cell? ⟨WB, 4, none⟩ = some ts ∧ w'.cell? ⟨WB, 5, none⟩ = some (Pw nB) ∧ w'.cell? ⟨RB, 0, none⟩ = some (Pw rB) ∧ w'.cell? ⟨RB, 1, none⟩ = some (Pw rkB) ∧ w'.cell? ⟨RB, 4, none⟩ = some rts ∧ w'.cell? ⟨RB, 5, none⟩ = some (Pw rnB) ∧ w'.cell? ⟨rnB, 0, none⟩ = some (.slice nA nl nc) ∧ w'.cell? ⟨rkB, 0, none⟩ = some (.int .u64 (T : Int))) ∧ Row w' b9 7 (.slice A9 nl nl) nl (flat .u8 D)) w3 := ⟨hHeld, hrow.1⟩
  refine wpAnyH_ready (rs := [32]) (by kernel_rfl) (by simp) ?_
  refine AllReadyH.cons (o := ⟨some 42, .call ⟨.value (.func 25), #[.tmp 33, .tmp 41], #[100, 102]⟩, 4, "help.go:113", #[⟨23, .data⟩, ⟨31, .data⟩, ⟨23, .chain⟩, ⟨17, .guard⟩], some (17, false)⟩) rfl (fun Kq hKq => ?_) AllReadyH.nil
  go_simp
  (refine (HNS.out _ _ _ hHeld.1.1 () () hHeld.2).mono ?_; rintro e w3 ⟨rfl, hb⟩)
  refine hKq.out _ _ ?_ (fun hHeld => ?_)
  · exact ⟨SaF.new hHeld.1 hb, hHeld.2.keep (Turns.of_below (S := fun _ => False) hb) (fun _ _ e => e)⟩
  clear hKq Kq
  (try simp only [Act.put, tC, tD, tE])
  refine tA 33 ⟨some 43, .unOp .not 4 (.tmp 42), 4, "help.go:113", #[⟨32, .data⟩, ⟨17, .guard⟩], some (17, false)⟩ ?vam30 ?ram30
  (try simp only [Act.put, tC, tD, tE])
  refine tA 34 ⟨some 44, .pick (.tmp 27) (.const (.bool true)) (.tmp 43), 4, "help.go:113", #[⟨17, .data⟩, ⟨33, .data⟩], none⟩ ?vam31 ?ram31
  (try simp only [Act.put, tC, tD, tE])
  refine tA 35 ⟨some 45, .move (.tmp 44), 4, "help.go:113", #[⟨34, .data⟩, ⟨32, .chain⟩], none⟩ ?vam32 ?ram32
  (try simp only [Act.put, tC, tD, tE])
  refine tA 36 ⟨some 46, .fieldAddr 25 (.tmp 1) 0, 0, "help.go:113", #[⟨35, .guard⟩], some (35, false)⟩ ?vam33 ?ram33
  (try simp only [Act.put, tC, tD, tE])
  refine tA 37 ⟨some 47, .load 22 (.tmp 46), 22, "help.go:113", #[⟨36, .data⟩, ⟨35, .guard⟩], some (35, false)⟩ ?vam34 ?ram34
  (try simp only [Act.put, tC, tD, tE])
  refine tA 38 ⟨some 48, .nilCheck (.tmp 47), 0, "help.go:113", #[⟨37, .data⟩, ⟨35, .guard⟩], some (35, false)⟩ ?vam35 ?ram35
  (try simp only [Act.put, tC, tD, tE])
  refine tA 39 ⟨some 49, .fieldAddr 60 (.tmp 48) 4, 0, "help.go:113", #[⟨38, .data⟩, ⟨35, .guard⟩], some (35, false)⟩ ?vam36 ?ram36
  (try simp only [Act.put, tC, tD, tE])
  refine tA 40 ⟨some 50, .load 56 (.tmp 49), 56, "help.go:113", #[⟨39, .data⟩, ⟨35, .guard⟩], some (35, false)⟩ ?vam37 ?ram37
  (try simp only [Act.put, tC, tD, tE])
  refine tA 41 ⟨some 51, .fieldAddr 25 (.tmp 1) 1, 0, "help.go:113", #[⟨35, .guard⟩], some (35, false)⟩ ?vam38 ?ram38
  (try simp only [Act.put, tC, tD, tE])
  refine tA 42 ⟨some 52, .load 23 (.tmp 51), 23, "help.go:113", #[⟨41, .data⟩, ⟨35, .guard⟩], some (35, false)⟩ ?vam39 ?ram39
  (try simp only [Act.put, tC, tD, tE])
  refine tA 43 ⟨some 53, .nilCheck (.tmp 52), 0, "help.go:113", #[⟨42, .data⟩, ⟨35, .guard⟩], some (35, false)⟩ ?vam40 ?ram40
  (try simp only [Act.put, tC, tD, tE])
  refine tA 44 ⟨some 54, .fieldAddr 68 (.tmp 53) 4, 0, "help.go:113", #[⟨43, .data⟩, ⟨35, .guard⟩], some (35, false)⟩ ?vam41 ?ram41
  (try simp only [Act.put, tC, tD, tE])
  refine tA 45 ⟨some 55, .load 65 (.tmp 54), 65, "help.go:113", #[⟨44, .data⟩, ⟨35, .guard⟩], some (35, false)⟩ ?vam42 ?ram42
  (try simp only [Act.put, tC, tD, tE])
  refine wpAnyH_ready (rs := [46]) (by kernel_rfl) (by simp) ?_
  refine AllReadyH.cons (o := ⟨some 56, .call ⟨.value (.func 27), #[.tmp 50, .tmp 55], #[56, 65]⟩, 4, "help.go:113", #[⟨40, .data⟩, ⟨45, .data⟩, ⟨35, .chain⟩, ⟨35, .guard⟩], some (35, false)⟩) rfl (fun Kq hKq => ?_) AllReadyH.nil
  go_simp
  (refine (HTS.out _ hHeld.1.1).mono ?_; rintro e w3 ⟨rfl, hb⟩)
  refine hKq.out _ _ ?_ (fun hHeld => ?_)
  · exact ⟨SaF.new hHeld.1 hb, hHeld.2.keep (Turns.of_below (S := fun _ => False) hb) (fun _ _ e => e)⟩
  clear hKq Kq
  (try simp only [Act.put, tC, tD, tE])
  refine tA 47 ⟨some 57, .unOp .not 4 (.tmp 56), 4, "help.go:113", #[⟨46, .data⟩, ⟨35, .guard⟩], some (35, false)⟩ ?vam43 ?ram43
  (try simp only [Act.put, tC, tD, tE])
  refine tA 48 ⟨some 58, .pick (.tmp 45) (.const (.bool true)) (.tmp 57), 4, "help.go:113", #[⟨35, .data⟩, ⟨47, .data⟩], none⟩ ?vam44 ?ram44
  (try simp only [Act.put, tC, tD, tE])
  refine tA 49 ⟨some 59, .move (.tmp 58), 4, "help.go:113", #[⟨48, .data⟩, ⟨46, .chain⟩], none⟩ ?vam45 ?ram45
  (try simp only [Act.put, tC, tD, tE])
  refine tA 50 ⟨some 60, .fieldAddr 25 (.tmp 1) 0, 0, "help.go:113", #[⟨49, .guard⟩], some (49, false)⟩ ?vam46 ?ram46
  (try simp only [Act.put, tC, tD, tE])
  refine tA 51 ⟨some 61, .load 22 (.tmp 60), 22, "help.go:113", #[⟨50, .data⟩, ⟨49, .guard⟩], some (49, false)⟩ ?vam47 ?ram47
  (try simp only [Act.put, tC, tD, tE])
  refine tA 52 ⟨some 62, .nilCheck (.tmp 61), 0, "help.go:113", #[⟨51, .data⟩, ⟨49, .guard⟩], some (49, false)⟩ ?vam48 ?ram48
  (try simp only [Act.put, tC, tD, tE])
  refine tA 53 ⟨some 63, .fieldAddr 60 (.tmp 62) 7, 0, "help.go:113", #[⟨52, .data⟩, ⟨49, .guard⟩], some (49, false)⟩ ?vam49 ?ram49
  (try simp only [Act.put, tC, tD, tE])
  refine wpAnyH_take (i := 54) (oi := ({ dst := some 64, op := Op.load 58 (Operand.tmp 63), type := 58, pos := "help.go:113", after := #[{ on := 53, ground := Ground.data }, { on := 49, ground := Ground.guard }], guard := some (49, false) } : Oper)) (v := .agg Z64) rfl (by kernel_rfl) (by kernel_rfl) (by kernel_rfl) (fun _ _ _ h => h) (yieldsIf_load_mid (by rfl) 58 (Operand.tmp 63) rfl WB 7 (by rfl) Z64l _ (fun w hS => HTX.out w hS.1.1) under64 rfl info64) (by assumption) ?ram50
  skip
  (try simp only [Act.put, tC, tD, tE])
  refine tA 55 ⟨some 65, .fieldAddr 25 (.tmp 1) 1, 0, "help.go:113", #[⟨49, .guard⟩], some (49, false)⟩ ?vam51 ?ram51
  (try simp only [Act.put, tC, tD, tE])
  refine tA 56 ⟨some 66, .load 23 (.tmp 65), 23, "help.go:113", #[⟨55, .data⟩, ⟨49, .guard⟩], some (49, false)⟩ ?vam52 ?ram52
  (try simp only [Act.put, tC, tD, tE])
  refine tA 57 ⟨some 67, .nilCheck (.tmp 66), 0, "help.go:113", #[⟨56, .data⟩, ⟨49, .guard⟩], some (49, false)⟩ ?vam53 ?ram53
  (try simp only [Act.put, tC, tD, tE])
  refine tA 58 ⟨some 68, .fieldAddr 68 (.tmp 67) 7, 0, "help.go:113", #[⟨57, .data⟩, ⟨49, .guard⟩], some (49, false)⟩ ?vam54 ?ram54
  (try simp only [Act.put, tC, tD, tE])
  refine wpAnyH_take (i := 59) (oi := ({ dst := some 69, op := Op.load 58 (Operand.tmp 68), type := 58, pos := "help.go:113", after := #[{ on := 58, ground := Ground.data }, { on := 49, ground := Ground.guard }], guard := some (49, false) } : Oper)) (v := .agg Z64) rfl (by kernel_rfl) (by kernel_rfl) (by kernel_rfl) (fun _ _ _ h => h) (yieldsIf_load_mid (by rfl) 58 (Operand.tmp 68) rfl RB 7 (by rfl) Z64l _ (fun w hS => HTY.out w hS.1.1) under64 rfl info64) (by assumption) ?ram55
  skip
  (try simp only [Act.put, tC, tD, tE])
  refine tA 60 ⟨some 70, .binOp .neq 58 (.tmp 64) (.tmp 69) 58, 4, "help.go:113", #[⟨54, .data⟩, ⟨59, .data⟩, ⟨49, .guard⟩], some (49, false)⟩ ?vam56 ?ram56
  (try simp only [Act.put, tC, tD, tE])
  refine tA 61 ⟨some 71, .pick (.tmp 59) (.const (.bool true)) (.tmp 70), 4, "help.go:113", #[⟨49, .data⟩, ⟨60, .data⟩], none⟩ ?vam57 ?ram57
  (try simp only [Act.put, tC, tD, tE])
  refine tA 62 ⟨some 72, .move (.tmp 71), 4, "help.go:113", #[⟨61, .data⟩, ⟨49, .chain⟩], none⟩ ?vam58 ?ram58
  (try simp only [Act.put, tC, tD, tE])
  refine tA 63 ⟨some 73, .fieldAddr 25 (.tmp 1) 0, 0, "help.go:113", #[⟨62, .guard⟩], some (62, false)⟩ ?vam59 ?ram59
  (try simp only [Act.put, tC, tD, tE])
  refine tA 64 ⟨some 74, .load 22 (.tmp 73), 22, "help.go:113", #[⟨63, .data⟩, ⟨62, .guard⟩], some (62, false)⟩ ?vam60 ?ram60
  (try simp only [Act.put, tC, tD, tE])
  refine tA 65 ⟨some 75, .nilCheck (.tmp 74), 0, "help.go:113", #[⟨64, .data⟩, ⟨62, .guard⟩], some (62, false)⟩ ?vam61 ?ram61
  (try simp only [Act.put, tC, tD, tE])
  refine tA 66 ⟨some 76, .fieldAddr 60 (.tmp 75) 1, 0, "help.go:113", #[⟨65, .data⟩, ⟨62, .guard⟩], some (62, false)⟩ ?vam62 ?ram62
  (try simp only [Act.put, tC, tD, tE])
  refine tA 67 ⟨some 77, .load 53 (.tmp 76), 53, "help.go:113", #[⟨66, .data⟩, ⟨62, .guard⟩], some (62, false)⟩ ?vam63 ?ram63
  (try simp only [Act.put, tC, tD, tE])
  refine tA 69 ⟨some 79, .fieldAddr 25 (.tmp 1) 1, 0, "help.go:113", #[⟨62, .guard⟩], some (62, false)⟩ ?vam64 ?ram64
  (try simp only [Act.put, tC, tD, tE])
  refine tA 70 ⟨some 80, .load 23 (.tmp 79), 23, "help.go:113", #[⟨69, .data⟩, ⟨62, .guard⟩], some (62, false)⟩ ?vam65 ?ram65
  (try simp only [Act.put, tC, tD, tE])
  refine tA 71 ⟨some 81, .nilCheck (.tmp 80), 0, "help.go:113", #[⟨70, .data⟩, ⟨62, .guard⟩], some (62, false)⟩ ?vam66 ?ram66
  (try simp only [Act.put, tC, tD, tE])
  refine tA 72 ⟨some 82, .fieldAddr 68 (.tmp 81) 1, 0, "help.go:113", #[⟨71, .data⟩, ⟨62, .guard⟩], some (62, false)⟩ ?vam67 ?ram67
  (try simp only [Act.put, tC, tD, tE])
  refine tA 73 ⟨some 83, .load 62 (.tmp 82), 62, "help.go:113", #[⟨72, .data⟩, ⟨62, .guard⟩], some (62, false)⟩ ?vam68 ?ram68
  (try simp only [Act.put, tC, tD, tE])
  refine tA 74 ⟨some 84, .nilCheck (.tmp 83), 0, "help.go:113", #[⟨73, .data⟩, ⟨62, .guard⟩], some (62, false)⟩ ?vam69 ?ram69
  (try simp only [Act.put, tC, tD, tE])
  refine tA 75 ⟨some 85, .fieldAddr 108 (.tmp 84) 0, 0, "help.go:113", #[⟨74, .data⟩, ⟨62, .guard⟩], some (62, false)⟩ ?vam70 ?ram70
  (try simp only [Act.put, tC, tD, tE])
  refine tA 76 ⟨some 86, .load 27 (.tmp 85), 27, "help.go:113", #[⟨75, .data⟩, ⟨62, .guard⟩], some (62, false)⟩ ?vam71 ?ram71
  (try simp only [Act.put, tC, tD, tE])
  refine wpAnyH_ready (rs := [68]) (by kernel_rfl) (by simp) ?_
  refine AllReadyH.cons (o := ⟨some 78, .call ⟨.value (.func 28), #[.tmp 77], #[53]⟩, 27, "help.go:113", #[⟨67, .data⟩, ⟨62, .chain⟩, ⟨62, .guard⟩], some (62, false)⟩) rfl (fun Kq hKq => ?_) AllReadyH.nil
  go_simp
  (refine (HNW.out _ hHeld.1.1).mono ?_; rintro e w3 ⟨rfl, rfl⟩)
  refine hKq.out _ _ ?_ (fun hHeld => ?_)
  · exact hHeld
  clear hKq Kq
  (try simp only [Act.put, tC, tD, tE])
  refine tA 77 ⟨some 87, .binOp .neq 27 (.tmp 78) (.tmp 86) 27, 4, "help.go:113", #[⟨68, .data⟩, ⟨76, .data⟩, ⟨62, .guard⟩], some (62, false)⟩ ?vam72 ?ram72
  (try simp only [Act.put, tC, tD, tE])
  refine tA 78 ⟨some 88, .pick (.tmp 72) (.const (.bool true)) (.tmp 87), 4, "help.go:113", #[⟨62, .data⟩, ⟨77, .data⟩], none⟩ ?vam73 ?ram73
  (try simp only [Act.put, tC, tD, tE])
  refine wpAnyH_done (by kernel_rfl) ?_ _
  have HB3 := Lib.hid hHeld.1.1
  clear hHeld HSM HS2 HAL HNS HTS HNW HF HTX HTY hev
  have HAS := Lib.hid (fun (i : Nat) (hi : i < 128) (W : World) (q : Below w2.heap.size w2 W) => S4.asleep_yes (H2.out.new q).pr.pw.permits hi)
  have HGQ := Lib.hid (fun (i : Nat) (hi : i < 128) (now : Nat) (W : World) (q : Below w2.heap.size w2 W) => S4.pgoes_yes (H2.out.new q).pr.pw.permits hi now)
  have HRQ : Hid (∀ (i : Nat), i < 128 → ∀ (now : Nat) W, Below w2.heap.size w2 W → Calls Tryz.prog 31 #[Pw Y.pB, .int .i64 (i : Int), .int .u64 (now : Int)] W fun e w' => e = .returned (.bool (S4.goesB (X.pf i) now)) ∧ Below W.heap.size W w') := Lib.hid (fun i hi now W q => by
    have := S4.rgoes_yes (H2.out.new q).pr.rpermits hi now
    rw [← HE.out.1, S4.goes_both (H2.out.pok i) now] at this
    exact this)
  go_wp2_with fail
  go_loopg [3, 4] 128 (fun q s3 s4 wx => ∃ i : Nat, i ≤ 128 ∧ q = 128 - i ∧ s3 = .int .i64 (i : Int) ∧ Below w2.heap.size w2 wx)
  case atStart => exact ⟨0, by omega, rfl, rfl, HB3.out⟩
  case round =>
    obtain ⟨i, hi, rfl, rfl, hb⟩ := hrel
    have h3 := H2.out.new hb
    have e0 := (hb.block B0 (Array.getElem?_eq_some_iff.1 HQ0.out).1).trans HQ0.out
    have b0 := cell_row e0 0; have b1 := cell_row e0 1
    simp only [List.getElem?_toArray, List.getElem?_cons_zero, List.getElem?_cons_succ] at b0 b1
    by_cases hi8 : i < 128
    · have has := HAS.out i hi8
      have hg0 : ∀ W, Below w2.heap.size w2 W → Calls Tryz.prog 30 #[Pw X.pB, .int .i64 (i : Int), .int .u64 0] W fun e w' => e = .returned (.bool (S4.goesB (X.pf i) 0)) ∧ Below W.heap.size W w' := HGQ.out i hi8 0
      have hr0 : ∀ W, Below w2.heap.size w2 W → Calls Tryz.prog 31 #[Pw Y.pB, .int .i64 (i : Int), .int .u64 0] W fun e w' => e = .returned (.bool (S4.goesB (X.pf i) 0)) ∧ Below W.heap.size W w' := HRQ.out i hi8 0
      have hg1 : ∀ W, Below w2.heap.size w2 W → Calls Tryz.prog 30 #[Pw X.pB, .int .i64 (i : Int), .int .u64 18446744073709551615] W fun e w' => e = .returned (.bool (S4.goesB (X.pf i) 18446744073709551615)) ∧ Below W.heap.size W w' := HGQ.out i hi8 18446744073709551615
      have hr1 : ∀ W, Below w2.heap.size w2 W → Calls Tryz.prog 31 #[Pw Y.pB, .int .i64 (i : Int), .int .u64 18446744073709551615] W fun e w' => e = .returned (.bool (S4.goesB (X.pf i) 18446744073709551615)) ∧ Below W.heap.size W w' := HRQ.out i hi8 18446744073709551615
      generalize S4.goesB (X.pf i) 0 = g0 at *
      generalize S4.goesB (X.pf i) 18446744073709551615 = g1 at *
      have d1 : (i : Int) < 128 := by omega
      have k0 := h3.pr.rpermits.c0 i hi8; have k1 := h3.pr.rpermits.c1 i hi8; have k2 := h3.pr.rpermits.c2 i hi8; have k3 := h3.pr.rpermits.c3 i hi8
      rw [← HE.out.1] at k0 k1 k2 k3
      have r2 := h3.pr.r2
      rw [h3.rB] at r2
      have x2 := h3.pr.pw.c2
      rw [h3.wB] at x2
      generalize X.pf i = pk at *
      obtain ⟨pp, pa, po, pt⟩ := pk
      dsimp only at k0 k1 k2 k3 has
      obtain ⟨pB, hpB⟩ : ∃ x, x = X.pB := ⟨_, rfl⟩
      obtain ⟨rpB, hrpB⟩ : ∃ x, x = Y.pB := ⟨_, rfl⟩
      rw [← hpB] at has hg0 hg1 x2; rw [← hrpB] at hr0 hr1 r2 k0 k1 k2 k3
      have HASI := Lib.hid has; have HGO0 := Lib.hid hg0; have HGO1 := Lib.hid hg1; have HRG0 := Lib.hid hr0; have HRG1 := Lib.hid hr1
      have HBR := Lib.hid hb
      have HI := Lib.hid hi8
      clear has hg0 hg1 hr0 hr1 h3 hpB hrpB e0 hi8 hi
      go_upto_region 7 with (fail)
      have hnx := heap_alloc_new wr (.cells #[.bool pp, .bool pa, .bool po, .int .u64 (pt : Int)] 110)
      have hby := below1 wr (.cells #[.bool pp, .bool pa, .bool po, .int .u64 (pt : Int)] 110)
      have y0 := bcell hby b0; have y1 := bcell hby b1; have y2 := bcell hby x2; have y3 := bcell hby r2
      have y4 := cell_row hnx 1
      simp only [List.getElem?_toArray, List.getElem?_cons_zero, List.getElem?_cons_succ] at y4
      have HBY := Lib.hid (HBR.out.trans (hby.mono HBR.out.size))
      obtain ⟨Bx, hBx⟩ : ∃ x, x = wr.heap.size := ⟨_, rfl⟩
      rw [← hBx] at y4 ⊢
      clear hnx hby b0 b1 x2 r2 k0 k1 k2 k3 hb hBx
      generalize wr.alloc (.cells #[.bool pp, .bool pa, .bool po, .int .u64 (pt : Int)] 110) = w4 at *
      have HF7 : Hid (w4.drew.cell? ⟨B0, 0, none⟩ = some (Pw WB) ∧ w4.drew.cell? ⟨B0, 1, none⟩ = some (Pw RB) ∧ w4.drew.cell? ⟨WB, 2, none⟩ = some (Pw pB) ∧ w4.drew.cell? ⟨RB, 2, none⟩ = some (Pw rpB) ∧ w4.drew.cell? ⟨Bx, 1, none⟩ = some (.bool pa)) := Lib.hid ⟨y0, y1, y2, y3, y4⟩
      clear y0 y1 y2 y3 y4
      refine wp_region_held_drew (S := fun w' => Below w2.heap.size w2 w' ∧ w'.cell? ⟨B0, 0, none⟩ = some (Pw WB) ∧ w'.cell? ⟨B0, 1, none⟩ = some (Pw RB) ∧ w'.cell? ⟨WB, 2, none⟩ = some (Pw pB) ∧ w'.cell? ⟨RB, 2, none⟩ = some (Pw rpB) ∧ w'.cell? ⟨Bx, 1, none⟩ = some (.bool pa)) (by kernel_rfl) ?_ (fun hHeld => ?_)
      · exact ⟨HBY.out.drew, HF7.out⟩
      refine tA 0 ⟨some 103, .fieldAddr 25 (.tmp 1) 0, 0, "help.go:118", #[], none⟩ ?vbm1 ?rbm1
      (try simp only [Act.put, tC, tD, tE])
      refine tA 1 ⟨some 104, .load 22 (.tmp 103), 22, "help.go:118", #[⟨0, .data⟩], none⟩ ?vbm2 ?rbm2
      (try simp only [Act.put, tC, tD, tE])
      refine tA 2 ⟨some 105, .nilCheck (.tmp 104), 0, "help.go:118", #[⟨1, .data⟩], none⟩ ?vbm3 ?rbm3
      (try simp only [Act.put, tC, tD, tE])
      refine tA 3 ⟨some 106, .fieldAddr 60 (.tmp 105) 2, 0, "help.go:118", #[⟨2, .data⟩], none⟩ ?vbm4 ?rbm4
      (try simp only [Act.put, tC, tD, tE])
      refine tA 4 ⟨some 107, .load 54 (.tmp 106), 54, "help.go:118", #[⟨3, .data⟩], none⟩ ?vbm5 ?rbm5
      (try simp only [Act.put, tC, tD, tE])
      refine tA 5 ⟨some 108, .move (.tmp 3), 3, "help.go:118", #[], none⟩ ?vbm6 ?rbm6
      (try simp only [Act.put, tC, tD, tE])
      refine tA 7 ⟨some 110, .fieldAddr 110 (.tmp 4) 1, 0, "help.go:118", #[], none⟩ ?vbm7 ?rbm7
      (try simp only [Act.put, tC, tD, tE])
      refine tA 8 ⟨some 111, .load 4 (.tmp 110), 4, "help.go:118", #[⟨7, .data⟩], none⟩ ?vbm8 ?rbm8
      (try simp only [Act.put, tC, tD, tE])
      refine wpAnyH_ready (rs := [6]) (by kernel_rfl) (by simp) ?_
      refine AllReadyH.cons (o := ⟨some 109, .call ⟨.value (.func 29), #[.tmp 107, .tmp 108], #[54, 3]⟩, 4, "help.go:118", #[⟨4, .data⟩, ⟨5, .data⟩], none⟩) rfl (fun Kq hKq => ?_) AllReadyH.nil
      go_simp
      (refine (HASI.out _ hHeld.1).mono ?_; rintro e w3 ⟨rfl, rfl⟩)
      refine hKq.out _ _ ?_ (fun hHeld => ?_)
      · exact hHeld
      clear hKq Kq
      (try simp only [Act.put, tC, tD, tE])
      refine tA 9 ⟨some 112, .binOp .neq 4 (.tmp 109) (.tmp 111) 4, 4, "help.go:118", #[⟨6, .data⟩, ⟨8, .data⟩], none⟩ ?vbm9 ?rbm9
      (try simp only [Act.put, tC, tD, tE])
      refine tA 10 ⟨some 113, .move (.tmp 112), 4, "help.go:118", #[⟨9, .data⟩, ⟨6, .chain⟩], none⟩ ?vbm10 ?rbm10
      (try simp only [Act.put, tC, tD, tE])
      refine tA 11 ⟨some 114, .fieldAddr 25 (.tmp 1) 0, 0, "help.go:118", #[⟨10, .guard⟩], some (10, false)⟩ ?vbm11 ?rbm11
      (try simp only [Act.put, tC, tD, tE])
      refine tA 12 ⟨some 115, .load 22 (.tmp 114), 22, "help.go:118", #[⟨11, .data⟩, ⟨10, .guard⟩], some (10, false)⟩ ?vbm12 ?rbm12
      (try simp only [Act.put, tC, tD, tE])
      refine tA 13 ⟨some 116, .nilCheck (.tmp 115), 0, "help.go:118", #[⟨12, .data⟩, ⟨10, .guard⟩], some (10, false)⟩ ?vbm13 ?rbm13
      (try simp only [Act.put, tC, tD, tE])
      refine tA 14 ⟨some 117, .fieldAddr 60 (.tmp 116) 2, 0, "help.go:118", #[⟨13, .data⟩, ⟨10, .guard⟩], some (10, false)⟩ ?vbm14 ?rbm14
      (try simp only [Act.put, tC, tD, tE])
      refine tA 15 ⟨some 118, .load 54 (.tmp 117), 54, "help.go:118", #[⟨14, .data⟩, ⟨10, .guard⟩], some (10, false)⟩ ?vbm15 ?rbm15
      (try simp only [Act.put, tC, tD, tE])
      refine tA 16 ⟨some 119, .move (.tmp 3), 3, "help.go:118", #[⟨10, .guard⟩], some (10, false)⟩ ?vbm16 ?rbm16
      (try simp only [Act.put, tC, tD, tE])
      refine tA 18 ⟨some 121, .fieldAddr 25 (.tmp 1) 1, 0, "help.go:118", #[⟨10, .guard⟩], some (10, false)⟩ ?vbm17 ?rbm17
      (try simp only [Act.put, tC, tD, tE])
      refine tA 19 ⟨some 122, .load 23 (.tmp 121), 23, "help.go:118", #[⟨18, .data⟩, ⟨10, .guard⟩], some (10, false)⟩ ?vbm18 ?rbm18
      (try simp only [Act.put, tC, tD, tE])
      refine tA 20 ⟨some 123, .nilCheck (.tmp 122), 0, "help.go:118", #[⟨19, .data⟩, ⟨10, .guard⟩], some (10, false)⟩ ?vbm19 ?rbm19
      (try simp only [Act.put, tC, tD, tE])
      refine tA 21 ⟨some 124, .fieldAddr 68 (.tmp 123) 2, 0, "help.go:118", #[⟨20, .data⟩, ⟨10, .guard⟩], some (10, false)⟩ ?vbm20 ?rbm20
      (try simp only [Act.put, tC, tD, tE])
      refine tA 22 ⟨some 125, .load 63 (.tmp 124), 63, "help.go:118", #[⟨21, .data⟩, ⟨10, .guard⟩], some (10, false)⟩ ?vbm21 ?rbm21
      (try simp only [Act.put, tC, tD, tE])
      refine tA 23 ⟨some 126, .move (.tmp 3), 3, "help.go:118", #[⟨10, .guard⟩], some (10, false)⟩ ?vbm22 ?rbm22
      (try simp only [Act.put, tC, tD, tE])
      refine wpAnyH_ready (rs := [17]) (by kernel_rfl) (by simp) ?_
      refine AllReadyH.cons (o := ⟨some 120, .call ⟨.value (.func 30), #[.tmp 118, .tmp 119, .const (.int .u64 0)], #[54, 3, 27]⟩, 4, "help.go:118", #[⟨15, .data⟩, ⟨16, .data⟩, ⟨10, .chain⟩, ⟨10, .guard⟩], some (10, false)⟩) rfl (fun Kq hKq => ?_) AllReadyH.nil
      go_simp
      (refine (HGO0.out _ hHeld.1).mono ?_; rintro e w3 ⟨rfl, hb⟩)
      refine hKq.out _ _ ?_ (fun hHeld => ?_)
      · exact SbF.new hHeld hb
      clear hKq Kq
      (try simp only [Act.put, tC, tD, tE])
      refine wpAnyH_ready (rs := [24]) (by kernel_rfl) (by simp) ?_
      refine AllReadyH.cons (o := ⟨some 127, .call ⟨.value (.func 31), #[.tmp 125, .tmp 126, .const (.int .u64 0)], #[63, 3, 27]⟩, 4, "help.go:118", #[⟨22, .data⟩, ⟨23, .data⟩, ⟨17, .chain⟩, ⟨10, .guard⟩], some (10, false)⟩) rfl (fun Kq hKq => ?_) AllReadyH.nil
      go_simp
      (refine (HRG0.out _ hHeld.1).mono ?_; rintro e w3 ⟨rfl, hb⟩)
      refine hKq.out _ _ ?_ (fun hHeld => ?_)
      · exact SbF.new hHeld hb
      clear hKq Kq
      (try simp only [Act.put, tC, tD, tE])
      refine tA 25 ⟨some 128, .binOp .neq 4 (.tmp 120) (.tmp 127) 4, 4, "help.go:118", #[⟨17, .data⟩, ⟨24, .data⟩, ⟨10, .guard⟩], some (10, false)⟩ ?vbm23 ?rbm23
      (try simp only [Act.put, tC, tD, tE])
      refine tA 26 ⟨some 129, .pick (.tmp 113) (.const (.bool true)) (.tmp 128), 4, "help.go:118", #[⟨10, .data⟩, ⟨25, .data⟩], none⟩ ?vbm24 ?rbm24
      (try simp only [Act.put, tC, tD, tE])
      refine tA 27 ⟨some 130, .move (.tmp 129), 4, "help.go:118", #[⟨26, .data⟩, ⟨24, .chain⟩], none⟩ ?vbm25 ?rbm25
      (try simp only [Act.put, tC, tD, tE])
      refine tA 28 ⟨some 131, .fieldAddr 25 (.tmp 1) 0, 0, "help.go:118", #[⟨27, .guard⟩], some (27, false)⟩ ?vbm26 ?rbm26
      (try simp only [Act.put, tC, tD, tE])
      refine tA 29 ⟨some 132, .load 22 (.tmp 131), 22, "help.go:118", #[⟨28, .data⟩, ⟨27, .guard⟩], some (27, false)⟩ ?vbm27 ?rbm27
      (try simp only [Act.put, tC, tD, tE])
      refine tA 30 ⟨some 133, .nilCheck (.tmp 132), 0, "help.go:118", #[⟨29, .data⟩, ⟨27, .guard⟩], some (27, false)⟩ ?vbm28 ?rbm28
      (try simp only [Act.put, tC, tD, tE])
      refine tA 31 ⟨some 134, .fieldAddr 60 (.tmp 133) 2, 0, "help.go:118", #[⟨30, .data⟩, ⟨27, .guard⟩], some (27, false)⟩ ?vbm29 ?rbm29
      (try simp only [Act.put, tC, tD, tE])
      refine tA 32 ⟨some 135, .load 54 (.tmp 134), 54, "help.go:118", #[⟨31, .data⟩, ⟨27, .guard⟩], some (27, false)⟩ ?vbm30 ?rbm30
      (try simp only [Act.put, tC, tD, tE])
      refine tA 33 ⟨some 136, .move (.tmp 3), 3, "help.go:118", #[⟨27, .guard⟩], some (27, false)⟩ ?vbm31 ?rbm31
      (try simp only [Act.put, tC, tD, tE])
      refine tA 35 ⟨some 138, .fieldAddr 25 (.tmp 1) 1, 0, "help.go:118", #[⟨27, .guard⟩], some (27, false)⟩ ?vbm32 ?rbm32
      (try simp only [Act.put, tC, tD, tE])
      refine tA 36 ⟨some 139, .load 23 (.tmp 138), 23, "help.go:118", #[⟨35, .data⟩, ⟨27, .guard⟩], some (27, false)⟩ ?vbm33 ?rbm33
      (try simp only [Act.put, tC, tD, tE])
      refine tA 37 ⟨some 140, .nilCheck (.tmp 139), 0, "help.go:118", #[⟨36, .data⟩, ⟨27, .guard⟩], some (27, false)⟩ ?vbm34 ?rbm34
      (try simp only [Act.put, tC, tD, tE])
      refine tA 38 ⟨some 141, .fieldAddr 68 (.tmp 140) 2, 0, "help.go:118", #[⟨37, .data⟩, ⟨27, .guard⟩], some (27, false)⟩ ?vbm35 ?rbm35
      (try simp only [Act.put, tC, tD, tE])
      refine tA 39 ⟨some 142, .load 63 (.tmp 141), 63, "help.go:118", #[⟨38, .data⟩, ⟨27, .guard⟩], some (27, false)⟩ ?vbm36 ?rbm36
      (try simp only [Act.put, tC, tD, tE])
      refine tA 40 ⟨some 143, .move (.tmp 3), 3, "help.go:118", #[⟨27, .guard⟩], some (27, false)⟩ ?vbm37 ?rbm37
      (try simp only [Act.put, tC, tD, tE])
      refine wpAnyH_ready (rs := [34]) (by kernel_rfl) (by simp) ?_
      refine AllReadyH.cons (o := ⟨some 137, .call ⟨.value (.func 30), #[.tmp 135, .tmp 136, .const (.int .u64 18446744073709551615)], #[54, 3, 27]⟩, 4, "help.go:118", #[⟨32, .data⟩, ⟨33, .data⟩, ⟨27, .chain⟩, ⟨27, .guard⟩], some (27, false)⟩) rfl (fun Kq hKq => ?_) AllReadyH.nil
      go_simp
      (refine (HGO1.out _ hHeld.1).mono ?_; rintro e w3 ⟨rfl, hb⟩)
      refine hKq.out _ _ ?_ (fun hHeld => ?_)
      · exact SbF.new hHeld hb
      clear hKq Kq
      (try simp only [Act.put, tC, tD, tE])
      refine wpAnyH_ready (rs := [41]) (by kernel_rfl) (by simp) ?_
      refine AllReadyH.cons (o := ⟨some 144, .call ⟨.value (.func 31), #[.tmp 142, .tmp 143, .const (.int .u64 18446744073709551615)], #[63, 3, 27]⟩, 4, "help.go:118", #[⟨39, .data⟩, ⟨40, .data⟩, ⟨34, .chain⟩, ⟨27, .guard⟩], some (27, false)⟩) rfl (fun Kq hKq => ?_) AllReadyH.nil
      go_simp
      (refine (HRG1.out _ hHeld.1).mono ?_; rintro e w3 ⟨rfl, hb⟩)
      refine hKq.out _ _ ?_ (fun hHeld => ?_)
      · exact SbF.new hHeld hb
      clear hKq Kq
      (try simp only [Act.put, tC, tD, tE])
      refine tA 42 ⟨some 145, .binOp .neq 4 (.tmp 137) (.tmp 144) 4, 4, "help.go:118", #[⟨34, .data⟩, ⟨41, .data⟩, ⟨27, .guard⟩], some (27, false)⟩ ?vbm38 ?rbm38
      (try simp only [Act.put, tC, tD, tE])
      refine tA 43 ⟨some 146, .pick (.tmp 130) (.const (.bool true)) (.tmp 145), 4, "help.go:118", #[⟨27, .data⟩, ⟨42, .data⟩], none⟩ ?vbm39 ?rbm39
      (try simp only [Act.put, tC, tD, tE])
      refine wpAnyH_done (by kernel_rfl) ?_ _
      have HB9 := Lib.hid hHeld.1
      clear hHeld HASI HGO0 HGO1 HRG0 HRG1 HF7 HBY HBR
      go_wp2_with fail
      go_roundg (128 - (i + 1))
      case measure => have := HI.out; omega
      case rel => exact ⟨i + 1, by have := HI.out; omega, rfl, by go_num, HB9.out⟩
    · obtain rfl : i = 128 := by omega
      have HB4 := Lib.hid hb
      clear hb h3 e0 b0 b1 hi hi8
      go_wp2_with fail
      go_loopg [5, 6, 7, 8, 9] 64 (fun q s5 s6 s7 s8 s9 wx => ∃ i : Nat, i ≤ 64 ∧ q = 64 - i ∧ s5 = .int .i64 (i : Int) ∧ Below w2.heap.size w2 wx)
      case atStart => exact ⟨0, by omega, rfl, rfl, HB4.out⟩
      case round =>
        obtain ⟨i, hi, rfl, rfl, hb⟩ := hrel
        have h3 := H2.out.new hb
        have e0 := (hb.block B0 (Array.getElem?_eq_some_iff.1 HQ0.out).1).trans HQ0.out
        have b0 := cell_row e0 0; have b1 := cell_row e0 1
        simp only [List.getElem?_toArray, List.getElem?_cons_zero, List.getElem?_cons_succ] at b0 b1
        by_cases hi6 : i < 64
        · have hra : ∀ W, Below w2.heap.size w2 W → Calls Tryz.prog 32 #[Pw Y.lB, .int .i64 (i : Int)] W fun e w' => e = .returned (S5.lnk3 X.lk i) ∧ Below W.heap.size W w' := fun W q => by
            have := S5.rat_yes (H2.out.new q).pr.rlinks i hi6
            rwa [← HE.out.2] at this
          have hat := fun (W : World) (q : Below w2.heap.size w2 W) => S5.at_yes (H2.out.new q).pr.pw.links i hi6
          unfold S5.lnk3 at hra
          unfold S5.lnk at hat
          generalize (X.lk (i * 3) : Int) - 1 = v0 at *
          generalize (X.lk (i * 3 + 1) : Int) - 1 = v1 at *
          generalize (X.lk (i * 3 + 2) : Int) - 1 = v2 at *
          have r3 := h3.pr.r3
          rw [h3.rB] at r3
          obtain ⟨lB, hlB⟩ : ∃ x, x = X.lB := ⟨_, rfl⟩
          obtain ⟨rlB, hrlB⟩ : ∃ x, x = Y.lB := ⟨_, rfl⟩
          rw [← hrlB] at hra r3; rw [← hlB] at hat
          have d1 : (i : Int) < 64 := by omega
          have HRA := Lib.hid hra; have HAT := Lib.hid hat
          have HB5 := Lib.hid hb; have HI := Lib.hid hi6
          have HX3 : Hid (∀ W, Below w2.heap.size w2 W → W.cell? ⟨WB, 3, none⟩ = some (Pw lB) ∧ W.cell? ⟨B0, 0, none⟩ = some (Pw WB)) := Lib.hid (fun W q => by
            have g := H2.out.new q
            have x := g.pr.pw.c3
            rw [g.wB, ← hlB] at x
            have e := (q.block B0 (Array.getElem?_eq_some_iff.1 HQ0.out).1).trans HQ0.out
            exact ⟨x, cell_row e 0⟩)
          clear hra hat h3 e0 hb hi6 hi hlB hrlB
          go_upto_region 13 with (go_at_call 32; refine (HRA.out _ HB5.out).mono ?_; rintro e w5 ⟨rfl, hb5⟩)
          have HB6 := Lib.hid (HB5.out.trans (hb5.mono HB5.out.size))
          obtain ⟨x3, x0⟩ := HX3.out _ HB6.out
          clear hb5 b0 b1 r3
          go_upto_region 14 with (go_at_call 33; refine (HAT.out _ HB6.out).mono ?_; rintro e w6 ⟨rfl, hb6⟩)
          have hnx := heap_alloc_new w6 (.cells #[.int .i64 v0, .int .i64 v1, .int .i64 v2] 118)
          have hby := below1 w6 (.cells #[.int .i64 v0, .int .i64 v1, .int .i64 v2] 118)
          have HB7 := Lib.hid (HB6.out.trans ((hb6.mono HB6.out.size).trans (hby.mono (Nat.le_trans HB6.out.size hb6.size))))
          have y0 := cell_row hnx 0; have y1 := cell_row hnx 1; have y2 := cell_row hnx 2
          simp only [List.getElem?_toArray, List.getElem?_cons_zero, List.getElem?_cons_succ] at y0 y1 y2
          clear hnx hby hb6 x3 x0
          generalize w6.alloc (.cells #[.int .i64 v0, .int .i64 v1, .int .i64 v2] 118) = w7 at *
          generalize w6.heap.size = Bl at *
          go_wp2_with fail
          go_roundg (64 - (i + 1))
          case measure => have := HI.out; omega
          case rel => exact ⟨i + 1, by have := HI.out; omega, rfl, by go_num, HB7.out⟩
        · obtain rfl : i = 64 := by omega
          go_wp2_with fail
          go_ret
          exact ⟨rfl, HB1.out.trans (hb.mono HB1.out.size)⟩
end Go.Proofs.YtdodloannlfnlaaGreat.S12
namespace Go.Proofs.YtdodloannlfnlaaGreat.S14
set_option maxRecDepth 100000
set_option maxHeartbeats 16000000
open Go.Proofs.YtdodloannlfnlaaGreat Go.Proofs.YtdodloannlfnlaaGreat.S11 Go.Proofs.YtdodloannlfnlaaGreat.S12 Go.Proofs.YtdodloannlfnlaaGreat.S13
open Go.RowKit
theorem begin_void (w : World) : Calls Tryz.prog 4 #[.agg #[.int .i64 0, .int .u64 0, .slice none 0 0, .slice none 0 0, .slice none 0 0, .slice none 0 0, .int .u64 0]] w fun e w' => ∃ M X Y, e = .returned (.agg #[Pw X.wB, Pw Y.wB]) ∧ Bg w w' w.heap.size X.wB Y.wB 1200 2097164 7 M M [] X Y :=
  begin_any (sp := 0) (mo := 0) (dc := 0) (sn := 0) (sc := 0) (gn := 0) (gc := 0) (qn := 0) (qc := 0) (tk := 0) (D := []) (SA := fun _ => 0) (SV := fun _ => 0) (G := fun _ => 0) (Q := fun _ => default)
    (by simp) (by simp) (by omega) (by omega) S3.Rd.nil (fun d hd => by cases hd) (by omega) (fun h => absurd h (by omega)) (fun i hi => absurd hi (by omega)) (fun h => absurd h (by omega)) (fun i hi => absurd hi (by omega)) (by omega) (fun h => absurd h (by omega)) (fun i hi => absurd hi (by omega)) (by omega) (by omega)
end Go.Proofs.YtdodloannlfnlaaGreat.S14
