/- Texts of this seat, one behind the other. -/
import Derived.Test.YtlflagjnlclffaaGreatMLawVoid1426
import Derived.Deep.RegionHeld3
import Derived.Deep.QuietTactic
import Derived.BigQuiet
set_option linter.unusedVariables false
set_option linter.unusedSimpArgs false
namespace Go.Proofs.YtlflagjnlclffaaGreat.S12
open Go.Proofs.YtlflagjnlclffaaGreat Go.Proofs.YtlflagjnlclffaaGreat.S11
open Go.RowKit

set_option maxRecDepth 100000 in
theorem rsteps_any {w : World} {RB rB pB : Nat} {n pn : Nat} (h0 : w.cell? ⟨RB, 0, none⟩ = some (Pw rB)) (h2 : w.cell? ⟨RB, 2, none⟩ = some (Pw pB)) (c : w.cell? ⟨rB, 1, none⟩ = some (.int .i64 (n : Int))) (p : w.cell? ⟨pB, 512, none⟩ = some (.int .i64 (pn : Int))) (h1 : n ≤ 1000000000) (h3 : pn ≤ 1000000000) :
    Calls Tryz.prog 58 #[Pw RB] w fun e w' => e = .returned (.int .i64 ((n + pn : Nat) : Int)) ∧ Below w.heap.size w w' := by
  have hw : IntKind.i64.wrap ((n : Int) + (pn : Int)) = ((n + pn : Nat) : Int) := by rw [IntKind.wrap_i64]; omega
  have hw2 : wrap64 ((n : Int) + (pn : Int)) = ((n + pn : Nat) : Int) := by unfold wrap64; omega
  go_enter Tryz.func58, Tryz.ntmps58
  go_wp2_with fail
  go_quiet (fail)
  go_wp2_with fail
  go_ret
  exact ⟨rfl, rfl, rfl, rfl, Nat.le_refl _, fun _ _ => rfl⟩
theorem eql131 (k a x y : Int) (w : World) : (binOp .eql 147 (.agg #[.int .u8 k, .int .u32 a, .int .u64 x, .int .u64 y]) (.agg #[.int .u8 k, .int .u32 a, .int .u64 x, .int .u64 y])).run Tryz.prog w = .ok (.bool true) w := by
  simp [go_sem, Tryz.underlying147]
def SameF (w2 : World) (B0 B1 WB RB cB kB nB rB rkB rpB rnB k a was is nl nc kl kc : Nat) (kd pp : Int) (nA kA : Option Addr) (w' : World) : Prop := Below w2.heap.size w2 w' ∧ w'.cell? ⟨B0, 0, none⟩ = some (Pw WB) ∧ w'.cell? ⟨B0, 1, none⟩ = some (Pw RB) ∧ w'.cell? ⟨B1, 0, none⟩ = some (.int .u8 kd) ∧ w'.cell? ⟨B1, 1, none⟩ = some (.int .i64 pp) ∧ w'.cell? ⟨WB, 0, none⟩ = some (Pw cB) ∧ w'.cell? ⟨WB, 1, none⟩ = some (Pw kB) ∧ w'.cell? ⟨WB, 5, none⟩ = some (Pw nB) ∧ w'.cell? ⟨RB, 0, none⟩ = some (Pw rB) ∧ w'.cell? ⟨RB, 1, none⟩ = some (Pw rkB) ∧ w'.cell? ⟨RB, 2, none⟩ = some (Pw rpB) ∧ w'.cell? ⟨RB, 5, none⟩ = some (Pw rnB) ∧ w'.cell? ⟨rB, 2, none⟩ = some (.int .u8 k) ∧ w'.cell? ⟨rB, 3, none⟩ = some (.int .u32 a) ∧ w'.cell? ⟨rB, 4, none⟩ = some (.int .u64 was) ∧ w'.cell? ⟨rB, 5, none⟩ = some (.int .u64 is) ∧ w'.cell? ⟨rpB, 513, none⟩ = some (.int .i64 kd) ∧ w'.cell? ⟨rpB, 514, none⟩ = some (.int .i64 pp) ∧ w'.cell? ⟨rnB, 0, none⟩ = some (.slice nA nl nc) ∧ w'.cell? ⟨rkB, 1, none⟩ = some (.slice kA kl kc)
theorem SameF.new {w2 w' w'' : World} {B0 B1 WB RB cB kB nB rB rkB rpB rnB k a was is nl nc kl kc : Nat} {kd pp : Int} {nA kA : Option Addr} (h : SameF w2 B0 B1 WB RB cB kB nB rB rkB rpB rnB k a was is nl nc kl kc kd pp nA kA w') (hb : Below w'.heap.size w' w'') : SameF w2 B0 B1 WB RB cB kB nB rB rkB rpB rnB k a was is nl nc kl kc kd pp nA kA w'' := by
  obtain ⟨hb0, c0, c1, c2, c3, c4, c5, c6, c7, c8, c9, c10, c11, c12, c13, c14, c15, c16, c17, c18⟩ := h
  exact ⟨hb0.trans (hb.mono hb0.size), bcell hb c0, bcell hb c1, bcell hb c2, bcell hb c3, bcell hb c4, bcell hb c5, bcell hb c6, bcell hb c7, bcell hb c8, bcell hb c9, bcell hb c10, bcell hb c11, bcell hb c12, bcell hb c13, bcell hb c14, bcell hb c15, bcell hb c16, bcell hb c17, bcell hb c18⟩
set_option maxRecDepth 100000 in
set_option maxHeartbeats 8000000 in
theorem pair_same {w0 w : World} {base WB RB N cn tn : Nat} {M : Sd} {E : List Part} {X : Wm} {Y : Rm} (h : Bg w0 w base WB RB N cn tn M M E X Y) (hc : cn ≤ 100000000) :
    Calls Tryz.prog 15 #[.agg #[Pw WB, Pw RB]] w fun e w' => e = .returned (.bool true) ∧ Below w.heap.size w w' := by
  have hb1 : Below w.heap.size w (w.alloc (.cells #[Pw WB, Pw RB] 36)) := (Below.refl _ _).alloc (Nat.le_refl _) _
  have hq0 := heap_alloc_new w (.cells #[Pw WB, Pw RB] 36)
  have h1 := h.new hb1
  obtain ⟨B0, hB0⟩ : ∃ B0, B0 = w.heap.size := ⟨_, rfl⟩
  rw [← hB0] at hq0
  have c0 := cell_row hq0 0; have c1 := cell_row hq0 1
  simp only [List.getElem?_toArray, List.getElem?_cons_zero, List.getElem?_cons_succ] at c0 c1
  have k2 := h1.pr.pw.c2
  rw [h1.wB] at k2
  have HL := Lib.hid (fun (W : World) (q : Below (w.alloc (.cells #[Pw WB, Pw RB] 36)).heap.size (w.alloc (.cells #[Pw WB, Pw RB] 36)) W) => S4.last_any (h1.new q).pr.pw.permits)
  have H1 := Lib.hid h1; have HB1 := Lib.hid hb1; have HQ0 := Lib.hid hq0
  have HB0 := Lib.hid hB0
  clear hb1 hq0 h1 h hB0
  go_enter Tryz.func15, Tryz.ntmps15
  go_upto_region 3 with (fail)
  rw [← HB0.out]
  generalize w.alloc (.cells #[Pw WB, Pw RB] 36) = w1 at *
  go_upto_region 4 with (go_at_call 56; refine (HL.out _ (Below.refl _ _)).mono ?_; rintro e wl ⟨rfl, hbl⟩)
  have hn := heap_alloc_new wl (.cells #[.int .u8 X.pk, .int .i64 X.pp] 142)
  have hbx : Below w1.heap.size w1 (wl.alloc (.cells #[.int .u8 X.pk, .int .i64 X.pp] 142)) := hbl.alloc hbl.size _
  have h2 := H1.out.new hbx
  have e0 := (hbx.block B0 (Array.getElem?_eq_some_iff.1 HQ0.out).1).trans HQ0.out
  obtain ⟨B1, hB1⟩ : ∃ B1, B1 = wl.heap.size := ⟨_, rfl⟩
  rw [← hB1] at hn ⊢
  have HBX := Lib.hid (HB1.out.trans (hbx.mono HB1.out.size))
  clear hbx hbl c0 c1 k2 HL
  generalize wl.alloc (.cells #[.int .u8 X.pk, .int .i64 X.pp] 142) = w2 at *
  have b0 := cell_row e0 0; have b1 := cell_row e0 1; have d0 := cell_row hn 0; have d1 := cell_row hn 1
  simp only [List.getElem?_toArray, List.getElem?_cons_zero, List.getElem?_cons_succ] at b0 b1 d0 d1
  obtain ⟨nA, nc, hns, _⟩ := h2.pr.rnotes.own.shape
  obtain ⟨kA, kc, hks, _⟩ := h2.pr.rclock.own
  have heq : X.sd = Y.sd := by rw [h2.xm, h2.ym]
  have e_n : X.n = Y.n := congrArg Sd.n heq
  have e_pn : X.pn = Y.pn := congrArg Sd.pn heq
  have e_k : X.k = Y.k := congrArg Sd.k heq
  have e_a : X.a = Y.a := congrArg Sd.a heq
  have e_was : X.was = Y.was := congrArg Sd.was heq
  have e_is : X.is = Y.is := congrArg Sd.is heq
  have e_pk : X.pk = Y.pk := congrArg Sd.pk heq
  have e_pp : X.pp = Y.pp := congrArg Sd.pp heq
  have e_nD : X.nD = Y.nD := congrArg Sd.nD heq
  have e_D : X.D = Y.D := congrArg Sd.D heq
  have hst : ∀ W, Below w2.heap.size w2 W → Calls Tryz.prog 57 #[Pw WB] W fun e w' => e = .returned (.int .i64 ((X.n + X.pn : Nat) : Int)) ∧ Below W.heap.size W w' := fun W q => by
    have := h2.new q
    rw [← this.wB]
    exact steps_any this.pr.pw (by have := h2.xn; omega) (by have := h2.pn; omega)
  have hrs : ∀ W, Below w2.heap.size w2 W → Calls Tryz.prog 58 #[Pw RB] W fun e w' => e = .returned (.int .i64 ((X.n + X.pn : Nat) : Int)) ∧ Below W.heap.size W w' := fun W q => by
    have g := h2.new q
    rw [← g.rB, e_n, e_pn]
    exact rsteps_any g.pr.r0 g.pr.r2 (cell_row g.pr.rcells.row 1) g.pr.rpermits.cn (by have := h2.yn; omega) (by have := h2.yp; omega)
  have hcl : ∀ W, Below w2.heap.size w2 W → Calls Tryz.prog 59 #[Pw X.cB] W fun e w' => e = .returned (.agg #[.int .u8 X.k, .int .u32 X.a, .int .u64 X.was, .int .u64 X.is]) ∧ Below W.heap.size W w' := fun W q => S2.last_any W _ _ _ _ _ _ _ _ (h2.new q).pr.pw.cells
  have hnc : ∀ W, Below w2.heap.size w2 W → Calls Tryz.prog 60 #[Pw X.nB] W fun e w' => e = .returned (.int .i64 (X.nD.length : Nat)) ∧ W = w' := fun W q => S11.count_any (h2.new q).pr.pw.notes
  have hlf : ∀ W, Below w2.heap.size w2 W → Calls Tryz.prog 61 #[Pw X.kB] W fun e w' => e = .returned (.int .i64 (X.D.length : Nat)) ∧ W = w' := fun W q => S3.left_any (h2.new q).pr.pw.clock
  have f4 := h2.pr.pw.c0; have f5 := h2.pr.pw.c1; have f6 := h2.pr.pw.c5
  have f7 := h2.pr.r0; have f8 := h2.pr.r1; have f9 := h2.pr.r2; have f10 := h2.pr.r5
  have f11 := cell_row h2.pr.rcells.row 2; have f12 := cell_row h2.pr.rcells.row 3; have f13 := cell_row h2.pr.rcells.row 4; have f14 := cell_row h2.pr.rcells.row 5
  simp only [List.getElem?_toArray, List.getElem?_cons_zero, List.getElem?_cons_succ] at f11 f12 f13 f14
  have f15 := h2.pr.rpermits.ck; have f16 := h2.pr.rpermits.cp
  have f17 := h2.pr.rnotes.cell
  have f18 := cell_row h2.pr.rclock.row 1
  simp only [List.getElem?_toArray, List.getElem?_cons_zero, List.getElem?_cons_succ] at f18
  rw [hns] at f17
  rw [hks] at f18
  rw [h2.wB] at f4 f5 f6
  rw [h2.rB] at f7 f8 f9 f10
  rw [← e_k] at f11; rw [← e_a] at f12; rw [← e_was] at f13; rw [← e_is] at f14; rw [← e_pk] at f15; rw [← e_pp] at f16; rw [← e_nD] at f17; rw [← e_D] at f18
  have hpk := h2.pkr
  have hwk : IntKind.i64.wrap X.pk = X.pk := by rw [IntKind.wrap_i64]; omega
  have hwk2 : wrap64 X.pk = X.pk := by unfold wrap64; omega
  obtain ⟨kB, hkB⟩ : ∃ x, x = X.kB := ⟨_, rfl⟩
  obtain ⟨cB, hcB⟩ : ∃ x, x = X.cB := ⟨_, rfl⟩
  obtain ⟨nB, hnB⟩ : ∃ x, x = X.nB := ⟨_, rfl⟩
  obtain ⟨rB, hrB⟩ : ∃ x, x = Y.rB := ⟨_, rfl⟩
  obtain ⟨rkB, hrkB⟩ : ∃ x, x = Y.kB := ⟨_, rfl⟩
  obtain ⟨rpB, hrpB⟩ : ∃ x, x = Y.pB := ⟨_, rfl⟩
  obtain ⟨rnB, hrnB⟩ : ∃ x, x = Y.nB := ⟨_, rfl⟩
  obtain ⟨k, hk⟩ : ∃ x, x = X.k := ⟨_, rfl⟩
  obtain ⟨a, ha⟩ : ∃ x, x = X.a := ⟨_, rfl⟩
  obtain ⟨was, hwas⟩ : ∃ x, x = X.was := ⟨_, rfl⟩
  obtain ⟨is, his⟩ : ∃ x, x = X.is := ⟨_, rfl⟩
  obtain ⟨nl, hnl⟩ : ∃ x, x = X.nD.length := ⟨_, rfl⟩
  obtain ⟨kl, hkl⟩ : ∃ x, x = X.D.length := ⟨_, rfl⟩
  obtain ⟨nn, hnn⟩ : ∃ x, x = X.n + X.pn := ⟨_, rfl⟩
  obtain ⟨kd, hkd⟩ : ∃ x, x = X.pk := ⟨_, rfl⟩
  obtain ⟨pp, hpp⟩ : ∃ x, x = X.pp := ⟨_, rfl⟩
  rw [← hnn] at hst hrs
  rw [← hcB, ← hk, ← ha, ← hwas, ← his] at hcl
  rw [← hnB, ← hnl] at hnc
  rw [← hkB, ← hkl] at hlf
  rw [← hcB] at f4; rw [← hkB] at f5; rw [← hnB] at f6; rw [← hrB] at f7 f11 f12 f13 f14; rw [← hrkB] at f8 f18; rw [← hrpB] at f9 f15 f16; rw [← hrnB] at f10 f17
  rw [← hk] at f11; rw [← ha] at f12; rw [← hwas] at f13; rw [← his] at f14; rw [← hkd] at f15 hwk hwk2 d0; rw [← hpp] at f16 d1; rw [← hnl] at f17; rw [← hkl] at f18
  have hev := fun W => eql131 k a was is W
  have HST := Lib.hid hst; have HRS := Lib.hid hrs; have HCL := Lib.hid hcl; have HNC := Lib.hid hnc; have HLF := Lib.hid hlf
  have HF : Hid (w2.drew.cell? ⟨B0, 0, none⟩ = some (Pw WB) ∧ w2.drew.cell? ⟨B0, 1, none⟩ = some (Pw RB) ∧ w2.drew.cell? ⟨B1, 0, none⟩ = some (.int .u8 kd) ∧ w2.drew.cell? ⟨B1, 1, none⟩ = some (.int .i64 pp) ∧ w2.drew.cell? ⟨WB, 0, none⟩ = some (Pw cB) ∧ w2.drew.cell? ⟨WB, 1, none⟩ = some (Pw kB) ∧ w2.drew.cell? ⟨WB, 5, none⟩ = some (Pw nB) ∧ w2.drew.cell? ⟨RB, 0, none⟩ = some (Pw rB) ∧ w2.drew.cell? ⟨RB, 1, none⟩ = some (Pw rkB) ∧ w2.drew.cell? ⟨RB, 2, none⟩ = some (Pw rpB) ∧ w2.drew.cell? ⟨RB, 5, none⟩ = some (Pw rnB) ∧ w2.drew.cell? ⟨rB, 2, none⟩ = some (.int .u8 k) ∧ w2.drew.cell? ⟨rB, 3, none⟩ = some (.int .u32 a) ∧ w2.drew.cell? ⟨rB, 4, none⟩ = some (.int .u64 was) ∧ w2.drew.cell? ⟨rB, 5, none⟩ = some (.int .u64 is) ∧ w2.drew.cell? ⟨rpB, 513, none⟩ = some (.int .i64 kd) ∧ w2.drew.cell? ⟨rpB, 514, none⟩ = some (.int .i64 pp) ∧ w2.drew.cell? ⟨rnB, 0, none⟩ = some (.slice nA nl nc) ∧ w2.drew.cell? ⟨rkB, 1, none⟩ = some (.slice kA kl kc)) := Lib.hid ⟨b0, b1, d0, d1, f4, f5, f6, f7, f8, f9, f10, f11, f12, f13, f14, f15, f16, f17, f18⟩
  clear hst hrs hcl hnc hlf b0 b1 d0 d1 f4 f5 f6 f7 f8 f9 f10 f11 f12 f13 f14 f15 f16 f17 f18 e0 hn h2 heq e_n e_pn e_k e_a e_was e_is e_pk e_pp e_nD e_D hns hks H1 HB1 HQ0 hpk hcB hkB hnB hrB hrkB hrpB hrnB hk ha hwas his hnl hkl hnn hkd hpp hB1 HB0 hc
  (try simp only [List.append_eq, List.cons_append, List.nil_append])
  refine wp_region_held_drew (S := fun w' => Below w2.heap.size w2 w' ∧ w'.cell? ⟨B0, 0, none⟩ = some (Pw WB) ∧ w'.cell? ⟨B0, 1, none⟩ = some (Pw RB) ∧ w'.cell? ⟨B1, 0, none⟩ = some (.int .u8 kd) ∧ w'.cell? ⟨B1, 1, none⟩ = some (.int .i64 pp) ∧ w'.cell? ⟨WB, 0, none⟩ = some (Pw cB) ∧ w'.cell? ⟨WB, 1, none⟩ = some (Pw kB) ∧ w'.cell? ⟨WB, 5, none⟩ = some (Pw nB) ∧ w'.cell? ⟨RB, 0, none⟩ = some (Pw rB) ∧ w'.cell? ⟨RB, 1, none⟩ = some (Pw rkB) ∧ w'.cell? ⟨RB, 2, none⟩ = some (Pw rpB) ∧ w'.cell? ⟨RB, 5, none⟩ = some (Pw rnB) ∧ w'.cell? ⟨rB, 2, none⟩ = some (.int .u8 k) ∧ w'.cell? ⟨rB, 3, none⟩ = some (.int .u32 a) ∧ w'.cell? ⟨rB, 4, none⟩ = some (.int .u64 was) ∧ w'.cell? ⟨rB, 5, none⟩ = some (.int .u64 is) ∧ w'.cell? ⟨rpB, 513, none⟩ = some (.int .i64 kd) ∧ w'.cell? ⟨rpB, 514, none⟩ = some (.int .i64 pp) ∧ w'.cell? ⟨rnB, 0, none⟩ = some (.slice nA nl nc) ∧ w'.cell? ⟨rkB, 1, none⟩ = some (.slice kA kl kc)) (by kernel_rfl) ?_ (fun hHeld => ?_)
  · exact ⟨(Below.refl _ _).drew, HF.out⟩
  refine wpAnyH_take (i := 0) (oi := ({ dst := some 18, op := Op.fieldAddr 36 (Operand.tmp 1) 0, type := 0, pos := "help.go:108", after := #[], guard := none } : Oper)) (v := ?vam1) rfl (by kernel_rfl) (by kernel_rfl) (by kernel_rfl) (fun _ _ _ h => h) (Or.inl ⟨by rfl, fun w hSw => ?hyam1⟩) (by assumption) ?ram1
  case hyam1 => (try dsimp only at hSw); go_simp; (try with_reducible rfl)
  (try simp only [Act.put, List.setIfInBounds_toArray, List.set_cons_zero, List.set_cons_succ])
  refine wpAnyH_take (i := 1) (oi := ({ dst := some 19, op := Op.load 33 (Operand.tmp 18), type := 33, pos := "help.go:108", after := #[{ on := 0, ground := Ground.data }], guard := none } : Oper)) (v := ?vam2) rfl (by kernel_rfl) (by kernel_rfl) (by kernel_rfl) (fun _ _ _ h => h) (Or.inl ⟨by rfl, fun w hSw => ?hyam2⟩) (by assumption) ?ram2
  case hyam2 => (try dsimp only at hSw); go_simp; (try with_reducible rfl)
  (try simp only [Act.put, List.setIfInBounds_toArray, List.set_cons_zero, List.set_cons_succ])
  refine wpAnyH_take (i := 3) (oi := ({ dst := some 21, op := Op.fieldAddr 36 (Operand.tmp 1) 1, type := 0, pos := "help.go:108", after := #[], guard := none } : Oper)) (v := ?vam3) rfl (by kernel_rfl) (by kernel_rfl) (by kernel_rfl) (fun _ _ _ h => h) (Or.inl ⟨by rfl, fun w hSw => ?hyam3⟩) (by assumption) ?ram3
  case hyam3 => (try dsimp only at hSw); go_simp; (try with_reducible rfl)
  (try simp only [Act.put, List.setIfInBounds_toArray, List.set_cons_zero, List.set_cons_succ])
  refine wpAnyH_take (i := 4) (oi := ({ dst := some 22, op := Op.load 34 (Operand.tmp 21), type := 34, pos := "help.go:108", after := #[{ on := 3, ground := Ground.data }], guard := none } : Oper)) (v := ?vam4) rfl (by kernel_rfl) (by kernel_rfl) (by kernel_rfl) (fun _ _ _ h => h) (Or.inl ⟨by rfl, fun w hSw => ?hyam4⟩) (by assumption) ?ram4
  case hyam4 => (try dsimp only at hSw); go_simp; (try with_reducible rfl)
  (try simp only [Act.put, List.setIfInBounds_toArray, List.set_cons_zero, List.set_cons_succ])
  refine wpAnyH_ready (rs := [2]) (by kernel_rfl) (by simp) ?_
  refine AllReadyH.cons (o := ({ dst := some 20, op := Op.call { callee := Callee.value (Operand.func 57), args := #[Operand.tmp 19], argTypes := #[33] }, type := 3, pos := "help.go:108", after := #[{ on := 1, ground := Ground.data }], guard := none } : Oper)) rfl (fun Kq hKq => ?_) AllReadyH.nil
  go_simp
  (refine (HST.out _ hHeld.1).mono ?_; rintro e w3 ⟨rfl, hb⟩)
  refine hKq.out _ _ ?_ (fun hHeld => ?_)
  · exact SameF.new hHeld hb
  clear hKq Kq
  (try simp only [Act.put, List.setIfInBounds_toArray, List.set_cons_zero, List.set_cons_succ])
  refine wpAnyH_ready (rs := [5]) (by kernel_rfl) (by simp) ?_
  refine AllReadyH.cons (o := ({ dst := some 23, op := Op.call { callee := Callee.value (Operand.func 58), args := #[Operand.tmp 22], argTypes := #[34] }, type := 3, pos := "help.go:108", after := #[{ on := 4, ground := Ground.data }, { on := 2, ground := Ground.chain }], guard := none } : Oper)) rfl (fun Kq hKq => ?_) AllReadyH.nil
  go_simp
  (refine (HRS.out _ hHeld.1).mono ?_; rintro e w3 ⟨rfl, hb⟩)
  refine hKq.out _ _ ?_ (fun hHeld => ?_)
  · exact SameF.new hHeld hb
  clear hKq Kq
  (try simp only [Act.put, List.setIfInBounds_toArray, List.set_cons_zero, List.set_cons_succ])
  refine wpAnyH_take (i := 6) (oi := ({ dst := some 24, op := Op.binOp BinOp.eql 3 (Operand.tmp 20) (Operand.tmp 23) 3, type := 4, pos := "help.go:108", after := #[{ on := 2, ground := Ground.data }, { on := 5, ground := Ground.data }], guard := none } : Oper)) (v := ?vam5) rfl (by kernel_rfl) (by kernel_rfl) (by kernel_rfl) (fun _ _ _ h => h) (Or.inl ⟨by rfl, fun w hSw => ?hyam5⟩) (by assumption) ?ram5
  case hyam5 => (try dsimp only at hSw); go_simp; (try with_reducible rfl)
  (try simp only [Act.put, List.setIfInBounds_toArray, List.set_cons_zero, List.set_cons_succ])
  refine wpAnyH_take (i := 7) (oi := ({ dst := some 25, op := Op.move (Operand.tmp 24), type := 4, pos := "help.go:108", after := #[{ on := 6, ground := Ground.data }, { on := 5, ground := Ground.chain }], guard := none } : Oper)) (v := ?vam6) rfl (by kernel_rfl) (by kernel_rfl) (by kernel_rfl) (fun _ _ _ h => h) (Or.inl ⟨by rfl, fun w hSw => ?hyam6⟩) (by assumption) ?ram6
  case hyam6 => (try dsimp only at hSw); go_simp; (try with_reducible rfl)
  (try simp only [Act.put, List.setIfInBounds_toArray, List.set_cons_zero, List.set_cons_succ])
  refine wpAnyH_take (i := 8) (oi := ({ dst := some 26, op := Op.fieldAddr 36 (Operand.tmp 1) 0, type := 0, pos := "help.go:108", after := #[{ on := 7, ground := Ground.guard }], guard := some (7, true) } : Oper)) (v := ?vam7) rfl (by kernel_rfl) (by kernel_rfl) (by kernel_rfl) (fun _ _ _ h => h) (Or.inl ⟨by rfl, fun w hSw => ?hyam7⟩) (by assumption) ?ram7
  case hyam7 => (try dsimp only at hSw); go_simp; (try with_reducible rfl)
  (try simp only [Act.put, List.setIfInBounds_toArray, List.set_cons_zero, List.set_cons_succ])
  refine wpAnyH_take (i := 9) (oi := ({ dst := some 27, op := Op.load 33 (Operand.tmp 26), type := 33, pos := "help.go:108", after := #[{ on := 8, ground := Ground.data }, { on := 7, ground := Ground.guard }], guard := some (7, true) } : Oper)) (v := ?vam8) rfl (by kernel_rfl) (by kernel_rfl) (by kernel_rfl) (fun _ _ _ h => h) (Or.inl ⟨by rfl, fun w hSw => ?hyam8⟩) (by assumption) ?ram8
  case hyam8 => (try dsimp only at hSw); go_simp; (try with_reducible rfl)
  (try simp only [Act.put, List.setIfInBounds_toArray, List.set_cons_zero, List.set_cons_succ])
  refine wpAnyH_take (i := 10) (oi := ({ dst := some 28, op := Op.nilCheck (Operand.tmp 27), type := 0, pos := "help.go:108", after := #[{ on := 9, ground := Ground.data }, { on := 7, ground := Ground.guard }], guard := some (7, true) } : Oper)) (v := ?vam9) rfl (by kernel_rfl) (by kernel_rfl) (by kernel_rfl) (fun _ _ _ h => h) (Or.inl ⟨by rfl, fun w hSw => ?hyam9⟩) (by assumption) ?ram9
  case hyam9 => (try dsimp only at hSw); go_simp; (try with_reducible rfl)
  (try simp only [Act.put, List.setIfInBounds_toArray, List.set_cons_zero, List.set_cons_succ])
  refine wpAnyH_take (i := 11) (oi := ({ dst := some 29, op := Op.fieldAddr 89 (Operand.tmp 28) 0, type := 0, pos := "help.go:108", after := #[{ on := 10, ground := Ground.data }, { on := 7, ground := Ground.guard }], guard := some (7, true) } : Oper)) (v := ?vam10) rfl (by kernel_rfl) (by kernel_rfl) (by kernel_rfl) (fun _ _ _ h => h) (Or.inl ⟨by rfl, fun w hSw => ?hyam10⟩) (by assumption) ?ram10
  case hyam10 => (try dsimp only at hSw); go_simp; (try with_reducible rfl)
  (try simp only [Act.put, List.setIfInBounds_toArray, List.set_cons_zero, List.set_cons_succ])
  refine wpAnyH_take (i := 12) (oi := ({ dst := some 30, op := Op.load 81 (Operand.tmp 29), type := 81, pos := "help.go:108", after := #[{ on := 11, ground := Ground.data }, { on := 7, ground := Ground.guard }], guard := some (7, true) } : Oper)) (v := ?vam11) rfl (by kernel_rfl) (by kernel_rfl) (by kernel_rfl) (fun _ _ _ h => h) (Or.inl ⟨by rfl, fun w hSw => ?hyam11⟩) (by assumption) ?ram11
  case hyam11 => (try dsimp only at hSw); go_simp; (try with_reducible rfl)
  (try simp only [Act.put, List.setIfInBounds_toArray, List.set_cons_zero, List.set_cons_succ])
  refine wpAnyH_take (i := 14) (oi := ({ dst := some 32, op := Op.fieldAddr 36 (Operand.tmp 1) 1, type := 0, pos := "help.go:108", after := #[{ on := 7, ground := Ground.guard }], guard := some (7, true) } : Oper)) (v := ?vam12) rfl (by kernel_rfl) (by kernel_rfl) (by kernel_rfl) (fun _ _ _ h => h) (Or.inl ⟨by rfl, fun w hSw => ?hyam12⟩) (by assumption) ?ram12
  case hyam12 => (try dsimp only at hSw); go_simp; (try with_reducible rfl)
  (try simp only [Act.put, List.setIfInBounds_toArray, List.set_cons_zero, List.set_cons_succ])
  refine wpAnyH_take (i := 15) (oi := ({ dst := some 33, op := Op.load 34 (Operand.tmp 32), type := 34, pos := "help.go:108", after := #[{ on := 14, ground := Ground.data }, { on := 7, ground := Ground.guard }], guard := some (7, true) } : Oper)) (v := ?vam13) rfl (by kernel_rfl) (by kernel_rfl) (by kernel_rfl) (fun _ _ _ h => h) (Or.inl ⟨by rfl, fun w hSw => ?hyam13⟩) (by assumption) ?ram13
  case hyam13 => (try dsimp only at hSw); go_simp; (try with_reducible rfl)
  (try simp only [Act.put, List.setIfInBounds_toArray, List.set_cons_zero, List.set_cons_succ])
  refine wpAnyH_take (i := 16) (oi := ({ dst := some 34, op := Op.nilCheck (Operand.tmp 33), type := 0, pos := "help.go:108", after := #[{ on := 15, ground := Ground.data }, { on := 7, ground := Ground.guard }], guard := some (7, true) } : Oper)) (v := ?vam14) rfl (by kernel_rfl) (by kernel_rfl) (by kernel_rfl) (fun _ _ _ h => h) (Or.inl ⟨by rfl, fun w hSw => ?hyam14⟩) (by assumption) ?ram14
  case hyam14 => (try dsimp only at hSw); go_simp; (try with_reducible rfl)
  (try simp only [Act.put, List.setIfInBounds_toArray, List.set_cons_zero, List.set_cons_succ])
  refine wpAnyH_take (i := 17) (oi := ({ dst := some 35, op := Op.fieldAddr 107 (Operand.tmp 34) 0, type := 0, pos := "help.go:108", after := #[{ on := 16, ground := Ground.data }, { on := 7, ground := Ground.guard }], guard := some (7, true) } : Oper)) (v := ?vam15) rfl (by kernel_rfl) (by kernel_rfl) (by kernel_rfl) (fun _ _ _ h => h) (Or.inl ⟨by rfl, fun w hSw => ?hyam15⟩) (by assumption) ?ram15
  case hyam15 => (try dsimp only at hSw); go_simp; (try with_reducible rfl)
  (try simp only [Act.put, List.setIfInBounds_toArray, List.set_cons_zero, List.set_cons_succ])
  refine wpAnyH_take (i := 18) (oi := ({ dst := some 36, op := Op.load 100 (Operand.tmp 35), type := 100, pos := "help.go:108", after := #[{ on := 17, ground := Ground.data }, { on := 7, ground := Ground.guard }], guard := some (7, true) } : Oper)) (v := ?vam16) rfl (by kernel_rfl) (by kernel_rfl) (by kernel_rfl) (fun _ _ _ h => h) (Or.inl ⟨by rfl, fun w hSw => ?hyam16⟩) (by assumption) ?ram16
  case hyam16 => (try dsimp only at hSw); go_simp; (try with_reducible rfl)
  (try simp only [Act.put, List.setIfInBounds_toArray, List.set_cons_zero, List.set_cons_succ])
  refine wpAnyH_take (i := 19) (oi := ({ dst := some 37, op := Op.nilCheck (Operand.tmp 36), type := 0, pos := "help.go:108", after := #[{ on := 18, ground := Ground.data }, { on := 7, ground := Ground.guard }], guard := some (7, true) } : Oper)) (v := ?vam17) rfl (by kernel_rfl) (by kernel_rfl) (by kernel_rfl) (fun _ _ _ h => h) (Or.inl ⟨by rfl, fun w hSw => ?hyam17⟩) (by assumption) ?ram17
  case hyam17 => (try dsimp only at hSw); go_simp; (try with_reducible rfl)
  (try simp only [Act.put, List.setIfInBounds_toArray, List.set_cons_zero, List.set_cons_succ])
  refine wpAnyH_take (i := 20) (oi := ({ dst := some 38, op := Op.fieldAddr 151 (Operand.tmp 37) 2, type := 0, pos := "help.go:108", after := #[{ on := 19, ground := Ground.data }, { on := 7, ground := Ground.guard }], guard := some (7, true) } : Oper)) (v := ?vam18) rfl (by kernel_rfl) (by kernel_rfl) (by kernel_rfl) (fun _ _ _ h => h) (Or.inl ⟨by rfl, fun w hSw => ?hyam18⟩) (by assumption) ?ram18
  case hyam18 => (try dsimp only at hSw); go_simp; (try with_reducible rfl)
  (try simp only [Act.put, List.setIfInBounds_toArray, List.set_cons_zero, List.set_cons_succ])
  refine wpAnyH_take (i := 21) (oi := ({ dst := some 39, op := Op.load 147 (Operand.tmp 38), type := 147, pos := "help.go:108", after := #[{ on := 20, ground := Ground.data }, { on := 7, ground := Ground.guard }], guard := some (7, true) } : Oper)) (v := ?vam19) rfl (by kernel_rfl) (by kernel_rfl) (by kernel_rfl) (fun _ _ _ h => h) (Or.inl ⟨by rfl, fun w hSw => ?hyam19⟩) (by assumption) ?ram19
  case hyam19 => (try dsimp only at hSw); go_simp; (try with_reducible rfl)
  (try simp only [Act.put, List.setIfInBounds_toArray, List.set_cons_zero, List.set_cons_succ])
  refine wpAnyH_ready (rs := [13]) (by kernel_rfl) (by simp) ?_
  refine AllReadyH.cons (o := ({ dst := some 31, op := Op.call { callee := Callee.value (Operand.func 59), args := #[Operand.tmp 30], argTypes := #[81] }, type := 147, pos := "help.go:108", after := #[{ on := 12, ground := Ground.data }, { on := 7, ground := Ground.chain }, { on := 7, ground := Ground.guard }], guard := some (7, true) } : Oper)) rfl (fun Kq hKq => ?_) AllReadyH.nil
  go_simp
  (refine (HCL.out _ hHeld.1).mono ?_; rintro e w3 ⟨rfl, hb⟩)
  refine hKq.out _ _ ?_ (fun hHeld => ?_)
  · exact SameF.new hHeld hb
  clear hKq Kq
  (try simp only [Act.put, List.setIfInBounds_toArray, List.set_cons_zero, List.set_cons_succ])
  refine wpAnyH_take (i := 22) (oi := ({ dst := some 40, op := Op.binOp BinOp.eql 147 (Operand.tmp 31) (Operand.tmp 39) 147, type := 4, pos := "help.go:108", after := #[{ on := 13, ground := Ground.data }, { on := 21, ground := Ground.data }, { on := 7, ground := Ground.guard }], guard := some (7, true) } : Oper)) (v := ?vam20) rfl (by kernel_rfl) (by kernel_rfl) (by kernel_rfl) (fun _ _ _ h => h) (Or.inl ⟨by rfl, fun w hSw => ?hyam20⟩) (by assumption) ?ram20
  case hyam20 => (try dsimp only at hSw); go_simp; (try with_reducible rfl)
  (try simp only [Act.put, List.setIfInBounds_toArray, List.set_cons_zero, List.set_cons_succ])
  refine wpAnyH_take (i := 23) (oi := ({ dst := some 41, op := Op.pick (Operand.tmp 25) (Operand.tmp 40) (Operand.const (Value.bool false)), type := 4, pos := "help.go:108", after := #[{ on := 7, ground := Ground.data }, { on := 22, ground := Ground.data }], guard := none } : Oper)) (v := ?vam21) rfl (by kernel_rfl) (by kernel_rfl) (by kernel_rfl) (fun _ _ _ h => h) (Or.inl ⟨by rfl, fun w hSw => ?hyam21⟩) (by assumption) ?ram21
  case hyam21 => (try dsimp only at hSw); go_simp; (try with_reducible rfl)
  (try simp only [Act.put, List.setIfInBounds_toArray, List.set_cons_zero, List.set_cons_succ])
  refine wpAnyH_take (i := 24) (oi := ({ dst := some 42, op := Op.move (Operand.tmp 41), type := 4, pos := "help.go:108", after := #[{ on := 23, ground := Ground.data }, { on := 13, ground := Ground.chain }], guard := none } : Oper)) (v := ?vam22) rfl (by kernel_rfl) (by kernel_rfl) (by kernel_rfl) (fun _ _ _ h => h) (Or.inl ⟨by rfl, fun w hSw => ?hyam22⟩) (by assumption) ?ram22
  case hyam22 => (try dsimp only at hSw); go_simp; (try with_reducible rfl)
  (try simp only [Act.put, List.setIfInBounds_toArray, List.set_cons_zero, List.set_cons_succ])
  refine wpAnyH_take (i := 25) (oi := ({ dst := some 43, op := Op.fieldAddr 142 (Operand.tmp 3) 0, type := 0, pos := "help.go:108", after := #[{ on := 24, ground := Ground.guard }], guard := some (24, true) } : Oper)) (v := ?vam23) rfl (by kernel_rfl) (by kernel_rfl) (by kernel_rfl) (fun _ _ _ h => h) (Or.inl ⟨by rfl, fun w hSw => ?hyam23⟩) (by assumption) ?ram23
  case hyam23 => (try dsimp only at hSw); go_simp; (try with_reducible rfl)
  (try simp only [Act.put, List.setIfInBounds_toArray, List.set_cons_zero, List.set_cons_succ])
  refine wpAnyH_take (i := 26) (oi := ({ dst := some 44, op := Op.load 140 (Operand.tmp 43), type := 140, pos := "help.go:108", after := #[{ on := 25, ground := Ground.data }, { on := 24, ground := Ground.guard }], guard := some (24, true) } : Oper)) (v := ?vam24) rfl (by kernel_rfl) (by kernel_rfl) (by kernel_rfl) (fun _ _ _ h => h) (Or.inl ⟨by rfl, fun w hSw => ?hyam24⟩) (by assumption) ?ram24
  case hyam24 => (try dsimp only at hSw); go_simp; (try with_reducible rfl)
  (try simp only [Act.put, List.setIfInBounds_toArray, List.set_cons_zero, List.set_cons_succ])
  refine wpAnyH_take (i := 27) (oi := ({ dst := some 45, op := Op.convert 140 3 (Operand.tmp 44), type := 3, pos := "help.go:108", after := #[{ on := 26, ground := Ground.data }, { on := 24, ground := Ground.guard }], guard := some (24, true) } : Oper)) (v := ?vam25) rfl (by kernel_rfl) (by kernel_rfl) (by kernel_rfl) (fun _ _ _ h => h) (Or.inl ⟨by rfl, fun w hSw => ?hyam25⟩) (by assumption) ?ram25
  case hyam25 => (try dsimp only at hSw); go_simp; (try with_reducible rfl)
  (try simp only [Act.put, List.setIfInBounds_toArray, List.set_cons_zero, List.set_cons_succ])
  refine wpAnyH_take (i := 28) (oi := ({ dst := some 46, op := Op.fieldAddr 36 (Operand.tmp 1) 1, type := 0, pos := "help.go:108", after := #[{ on := 24, ground := Ground.guard }], guard := some (24, true) } : Oper)) (v := ?vam26) rfl (by kernel_rfl) (by kernel_rfl) (by kernel_rfl) (fun _ _ _ h => h) (Or.inl ⟨by rfl, fun w hSw => ?hyam26⟩) (by assumption) ?ram26
  case hyam26 => (try dsimp only at hSw); go_simp; (try with_reducible rfl)
  (try simp only [Act.put, List.setIfInBounds_toArray, List.set_cons_zero, List.set_cons_succ])
  refine wpAnyH_take (i := 29) (oi := ({ dst := some 47, op := Op.load 34 (Operand.tmp 46), type := 34, pos := "help.go:108", after := #[{ on := 28, ground := Ground.data }, { on := 24, ground := Ground.guard }], guard := some (24, true) } : Oper)) (v := ?vam27) rfl (by kernel_rfl) (by kernel_rfl) (by kernel_rfl) (fun _ _ _ h => h) (Or.inl ⟨by rfl, fun w hSw => ?hyam27⟩) (by assumption) ?ram27
  case hyam27 => (try dsimp only at hSw); go_simp; (try with_reducible rfl)
  (try simp only [Act.put, List.setIfInBounds_toArray, List.set_cons_zero, List.set_cons_succ])
  refine wpAnyH_take (i := 30) (oi := ({ dst := some 48, op := Op.nilCheck (Operand.tmp 47), type := 0, pos := "help.go:108", after := #[{ on := 29, ground := Ground.data }, { on := 24, ground := Ground.guard }], guard := some (24, true) } : Oper)) (v := ?vam28) rfl (by kernel_rfl) (by kernel_rfl) (by kernel_rfl) (fun _ _ _ h => h) (Or.inl ⟨by rfl, fun w hSw => ?hyam28⟩) (by assumption) ?ram28
  case hyam28 => (try dsimp only at hSw); go_simp; (try with_reducible rfl)
  (try simp only [Act.put, List.setIfInBounds_toArray, List.set_cons_zero, List.set_cons_succ])
  refine wpAnyH_take (i := 31) (oi := ({ dst := some 49, op := Op.fieldAddr 107 (Operand.tmp 48) 2, type := 0, pos := "help.go:108", after := #[{ on := 30, ground := Ground.data }, { on := 24, ground := Ground.guard }], guard := some (24, true) } : Oper)) (v := ?vam29) rfl (by kernel_rfl) (by kernel_rfl) (by kernel_rfl) (fun _ _ _ h => h) (Or.inl ⟨by rfl, fun w hSw => ?hyam29⟩) (by assumption) ?ram29
  case hyam29 => (try dsimp only at hSw); go_simp; (try with_reducible rfl)
  (try simp only [Act.put, List.setIfInBounds_toArray, List.set_cons_zero, List.set_cons_succ])
  refine wpAnyH_take (i := 32) (oi := ({ dst := some 50, op := Op.load 102 (Operand.tmp 49), type := 102, pos := "help.go:108", after := #[{ on := 31, ground := Ground.data }, { on := 24, ground := Ground.guard }], guard := some (24, true) } : Oper)) (v := ?vam30) rfl (by kernel_rfl) (by kernel_rfl) (by kernel_rfl) (fun _ _ _ h => h) (Or.inl ⟨by rfl, fun w hSw => ?hyam30⟩) (by assumption) ?ram30
  case hyam30 => (try dsimp only at hSw); go_simp; (try with_reducible rfl)
  (try simp only [Act.put, List.setIfInBounds_toArray, List.set_cons_zero, List.set_cons_succ])
  refine wpAnyH_take (i := 33) (oi := ({ dst := some 51, op := Op.nilCheck (Operand.tmp 50), type := 0, pos := "help.go:108", after := #[{ on := 32, ground := Ground.data }, { on := 24, ground := Ground.guard }], guard := some (24, true) } : Oper)) (v := ?vam31) rfl (by kernel_rfl) (by kernel_rfl) (by kernel_rfl) (fun _ _ _ h => h) (Or.inl ⟨by rfl, fun w hSw => ?hyam31⟩) (by assumption) ?ram31
  case hyam31 => (try dsimp only at hSw); go_simp; (try with_reducible rfl)
  (try simp only [Act.put, List.setIfInBounds_toArray, List.set_cons_zero, List.set_cons_succ])
  refine wpAnyH_take (i := 34) (oi := ({ dst := some 52, op := Op.fieldAddr 156 (Operand.tmp 51) 2, type := 0, pos := "help.go:108", after := #[{ on := 33, ground := Ground.data }, { on := 24, ground := Ground.guard }], guard := some (24, true) } : Oper)) (v := ?vam32) rfl (by kernel_rfl) (by kernel_rfl) (by kernel_rfl) (fun _ _ _ h => h) (Or.inl ⟨by rfl, fun w hSw => ?hyam32⟩) (by assumption) ?ram32
  case hyam32 => (try dsimp only at hSw); go_simp; (try with_reducible rfl)
  (try simp only [Act.put, List.setIfInBounds_toArray, List.set_cons_zero, List.set_cons_succ])
  refine wpAnyH_take (i := 35) (oi := ({ dst := some 53, op := Op.load 3 (Operand.tmp 52), type := 3, pos := "help.go:108", after := #[{ on := 34, ground := Ground.data }, { on := 24, ground := Ground.guard }], guard := some (24, true) } : Oper)) (v := ?vam33) rfl (by kernel_rfl) (by kernel_rfl) (by kernel_rfl) (fun _ _ _ h => h) (Or.inl ⟨by rfl, fun w hSw => ?hyam33⟩) (by assumption) ?ram33
  case hyam33 => (try dsimp only at hSw); go_simp; (try with_reducible rfl)
  (try simp only [Act.put, List.setIfInBounds_toArray, List.set_cons_zero, List.set_cons_succ])
  refine wpAnyH_take (i := 36) (oi := ({ dst := some 54, op := Op.binOp BinOp.eql 3 (Operand.tmp 45) (Operand.tmp 53) 3, type := 4, pos := "help.go:108", after := #[{ on := 27, ground := Ground.data }, { on := 35, ground := Ground.data }, { on := 24, ground := Ground.guard }], guard := some (24, true) } : Oper)) (v := ?vam34) rfl (by kernel_rfl) (by kernel_rfl) (by kernel_rfl) (fun _ _ _ h => h) (Or.inl ⟨by rfl, fun w hSw => ?hyam34⟩) (by assumption) ?ram34
  case hyam34 => (try dsimp only at hSw); go_simp; (try with_reducible rfl)
  (try simp only [Act.put, List.setIfInBounds_toArray, List.set_cons_zero, List.set_cons_succ])
  refine wpAnyH_take (i := 37) (oi := ({ dst := some 55, op := Op.pick (Operand.tmp 42) (Operand.tmp 54) (Operand.const (Value.bool false)), type := 4, pos := "help.go:108", after := #[{ on := 24, ground := Ground.data }, { on := 36, ground := Ground.data }], guard := none } : Oper)) (v := ?vam35) rfl (by kernel_rfl) (by kernel_rfl) (by kernel_rfl) (fun _ _ _ h => h) (Or.inl ⟨by rfl, fun w hSw => ?hyam35⟩) (by assumption) ?ram35
  case hyam35 => (try dsimp only at hSw); go_simp; (try with_reducible rfl)
  (try simp only [Act.put, List.setIfInBounds_toArray, List.set_cons_zero, List.set_cons_succ])
  refine wpAnyH_take (i := 38) (oi := ({ dst := some 56, op := Op.move (Operand.tmp 55), type := 4, pos := "help.go:108", after := #[{ on := 37, ground := Ground.data }, { on := 24, ground := Ground.chain }], guard := none } : Oper)) (v := ?vam36) rfl (by kernel_rfl) (by kernel_rfl) (by kernel_rfl) (fun _ _ _ h => h) (Or.inl ⟨by rfl, fun w hSw => ?hyam36⟩) (by assumption) ?ram36
  case hyam36 => (try dsimp only at hSw); go_simp; (try with_reducible rfl)
  (try simp only [Act.put, List.setIfInBounds_toArray, List.set_cons_zero, List.set_cons_succ])
  refine wpAnyH_take (i := 39) (oi := ({ dst := some 57, op := Op.fieldAddr 142 (Operand.tmp 3) 1, type := 0, pos := "help.go:108", after := #[{ on := 38, ground := Ground.guard }], guard := some (38, true) } : Oper)) (v := ?vam37) rfl (by kernel_rfl) (by kernel_rfl) (by kernel_rfl) (fun _ _ _ h => h) (Or.inl ⟨by rfl, fun w hSw => ?hyam37⟩) (by assumption) ?ram37
  case hyam37 => (try dsimp only at hSw); go_simp; (try with_reducible rfl)
  (try simp only [Act.put, List.setIfInBounds_toArray, List.set_cons_zero, List.set_cons_succ])
  refine wpAnyH_take (i := 40) (oi := ({ dst := some 58, op := Op.load 3 (Operand.tmp 57), type := 3, pos := "help.go:108", after := #[{ on := 39, ground := Ground.data }, { on := 38, ground := Ground.guard }], guard := some (38, true) } : Oper)) (v := ?vam38) rfl (by kernel_rfl) (by kernel_rfl) (by kernel_rfl) (fun _ _ _ h => h) (Or.inl ⟨by rfl, fun w hSw => ?hyam38⟩) (by assumption) ?ram38
  case hyam38 => (try dsimp only at hSw); go_simp; (try with_reducible rfl)
  (try simp only [Act.put, List.setIfInBounds_toArray, List.set_cons_zero, List.set_cons_succ])
  refine wpAnyH_take (i := 41) (oi := ({ dst := some 59, op := Op.fieldAddr 36 (Operand.tmp 1) 1, type := 0, pos := "help.go:108", after := #[{ on := 38, ground := Ground.guard }], guard := some (38, true) } : Oper)) (v := ?vam39) rfl (by kernel_rfl) (by kernel_rfl) (by kernel_rfl) (fun _ _ _ h => h) (Or.inl ⟨by rfl, fun w hSw => ?hyam39⟩) (by assumption) ?ram39
  case hyam39 => (try dsimp only at hSw); go_simp; (try with_reducible rfl)
  (try simp only [Act.put, List.setIfInBounds_toArray, List.set_cons_zero, List.set_cons_succ])
  refine wpAnyH_take (i := 42) (oi := ({ dst := some 60, op := Op.load 34 (Operand.tmp 59), type := 34, pos := "help.go:108", after := #[{ on := 41, ground := Ground.data }, { on := 38, ground := Ground.guard }], guard := some (38, true) } : Oper)) (v := ?vam40) rfl (by kernel_rfl) (by kernel_rfl) (by kernel_rfl) (fun _ _ _ h => h) (Or.inl ⟨by rfl, fun w hSw => ?hyam40⟩) (by assumption) ?ram40
  case hyam40 => (try dsimp only at hSw); go_simp; (try with_reducible rfl)
  (try simp only [Act.put, List.setIfInBounds_toArray, List.set_cons_zero, List.set_cons_succ])
  refine wpAnyH_take (i := 43) (oi := ({ dst := some 61, op := Op.nilCheck (Operand.tmp 60), type := 0, pos := "help.go:108", after := #[{ on := 42, ground := Ground.data }, { on := 38, ground := Ground.guard }], guard := some (38, true) } : Oper)) (v := ?vam41) rfl (by kernel_rfl) (by kernel_rfl) (by kernel_rfl) (fun _ _ _ h => h) (Or.inl ⟨by rfl, fun w hSw => ?hyam41⟩) (by assumption) ?ram41
  case hyam41 => (try dsimp only at hSw); go_simp; (try with_reducible rfl)
  (try simp only [Act.put, List.setIfInBounds_toArray, List.set_cons_zero, List.set_cons_succ])
  refine wpAnyH_take (i := 44) (oi := ({ dst := some 62, op := Op.fieldAddr 107 (Operand.tmp 61) 2, type := 0, pos := "help.go:108", after := #[{ on := 43, ground := Ground.data }, { on := 38, ground := Ground.guard }], guard := some (38, true) } : Oper)) (v := ?vam42) rfl (by kernel_rfl) (by kernel_rfl) (by kernel_rfl) (fun _ _ _ h => h) (Or.inl ⟨by rfl, fun w hSw => ?hyam42⟩) (by assumption) ?ram42
  case hyam42 => (try dsimp only at hSw); go_simp; (try with_reducible rfl)
  (try simp only [Act.put, List.setIfInBounds_toArray, List.set_cons_zero, List.set_cons_succ])
  refine wpAnyH_take (i := 45) (oi := ({ dst := some 63, op := Op.load 102 (Operand.tmp 62), type := 102, pos := "help.go:108", after := #[{ on := 44, ground := Ground.data }, { on := 38, ground := Ground.guard }], guard := some (38, true) } : Oper)) (v := ?vam43) rfl (by kernel_rfl) (by kernel_rfl) (by kernel_rfl) (fun _ _ _ h => h) (Or.inl ⟨by rfl, fun w hSw => ?hyam43⟩) (by assumption) ?ram43
  case hyam43 => (try dsimp only at hSw); go_simp; (try with_reducible rfl)
  (try simp only [Act.put, List.setIfInBounds_toArray, List.set_cons_zero, List.set_cons_succ])
  refine wpAnyH_take (i := 46) (oi := ({ dst := some 64, op := Op.nilCheck (Operand.tmp 63), type := 0, pos := "help.go:108", after := #[{ on := 45, ground := Ground.data }, { on := 38, ground := Ground.guard }], guard := some (38, true) } : Oper)) (v := ?vam44) rfl (by kernel_rfl) (by kernel_rfl) (by kernel_rfl) (fun _ _ _ h => h) (Or.inl ⟨by rfl, fun w hSw => ?hyam44⟩) (by assumption) ?ram44
  case hyam44 => (try dsimp only at hSw); go_simp; (try with_reducible rfl)
  (try simp only [Act.put, List.setIfInBounds_toArray, List.set_cons_zero, List.set_cons_succ])
  refine wpAnyH_take (i := 47) (oi := ({ dst := some 65, op := Op.fieldAddr 156 (Operand.tmp 64) 3, type := 0, pos := "help.go:108", after := #[{ on := 46, ground := Ground.data }, { on := 38, ground := Ground.guard }], guard := some (38, true) } : Oper)) (v := ?vam45) rfl (by kernel_rfl) (by kernel_rfl) (by kernel_rfl) (fun _ _ _ h => h) (Or.inl ⟨by rfl, fun w hSw => ?hyam45⟩) (by assumption) ?ram45
  case hyam45 => (try dsimp only at hSw); go_simp; (try with_reducible rfl)
  (try simp only [Act.put, List.setIfInBounds_toArray, List.set_cons_zero, List.set_cons_succ])
  refine wpAnyH_take (i := 48) (oi := ({ dst := some 66, op := Op.load 3 (Operand.tmp 65), type := 3, pos := "help.go:108", after := #[{ on := 47, ground := Ground.data }, { on := 38, ground := Ground.guard }], guard := some (38, true) } : Oper)) (v := ?vam46) rfl (by kernel_rfl) (by kernel_rfl) (by kernel_rfl) (fun _ _ _ h => h) (Or.inl ⟨by rfl, fun w hSw => ?hyam46⟩) (by assumption) ?ram46
  case hyam46 => (try dsimp only at hSw); go_simp; (try with_reducible rfl)
  (try simp only [Act.put, List.setIfInBounds_toArray, List.set_cons_zero, List.set_cons_succ])
  refine wpAnyH_take (i := 49) (oi := ({ dst := some 67, op := Op.binOp BinOp.eql 3 (Operand.tmp 58) (Operand.tmp 66) 3, type := 4, pos := "help.go:108", after := #[{ on := 40, ground := Ground.data }, { on := 48, ground := Ground.data }, { on := 38, ground := Ground.guard }], guard := some (38, true) } : Oper)) (v := ?vam47) rfl (by kernel_rfl) (by kernel_rfl) (by kernel_rfl) (fun _ _ _ h => h) (Or.inl ⟨by rfl, fun w hSw => ?hyam47⟩) (by assumption) ?ram47
  case hyam47 => (try dsimp only at hSw); go_simp; (try with_reducible rfl)
  (try simp only [Act.put, List.setIfInBounds_toArray, List.set_cons_zero, List.set_cons_succ])
  refine wpAnyH_take (i := 50) (oi := ({ dst := some 68, op := Op.pick (Operand.tmp 56) (Operand.tmp 67) (Operand.const (Value.bool false)), type := 4, pos := "help.go:108", after := #[{ on := 38, ground := Ground.data }, { on := 49, ground := Ground.data }], guard := none } : Oper)) (v := ?vam48) rfl (by kernel_rfl) (by kernel_rfl) (by kernel_rfl) (fun _ _ _ h => h) (Or.inl ⟨by rfl, fun w hSw => ?hyam48⟩) (by assumption) ?ram48
  case hyam48 => (try dsimp only at hSw); go_simp; (try with_reducible rfl)
  (try simp only [Act.put, List.setIfInBounds_toArray, List.set_cons_zero, List.set_cons_succ])
  refine wpAnyH_take (i := 51) (oi := ({ dst := some 69, op := Op.move (Operand.tmp 68), type := 4, pos := "help.go:108", after := #[{ on := 50, ground := Ground.data }, { on := 38, ground := Ground.chain }], guard := none } : Oper)) (v := ?vam49) rfl (by kernel_rfl) (by kernel_rfl) (by kernel_rfl) (fun _ _ _ h => h) (Or.inl ⟨by rfl, fun w hSw => ?hyam49⟩) (by assumption) ?ram49
  case hyam49 => (try dsimp only at hSw); go_simp; (try with_reducible rfl)
  (try simp only [Act.put, List.setIfInBounds_toArray, List.set_cons_zero, List.set_cons_succ])
  refine wpAnyH_take (i := 52) (oi := ({ dst := some 70, op := Op.fieldAddr 36 (Operand.tmp 1) 0, type := 0, pos := "help.go:108", after := #[{ on := 51, ground := Ground.guard }], guard := some (51, true) } : Oper)) (v := ?vam50) rfl (by kernel_rfl) (by kernel_rfl) (by kernel_rfl) (fun _ _ _ h => h) (Or.inl ⟨by rfl, fun w hSw => ?hyam50⟩) (by assumption) ?ram50
  case hyam50 => (try dsimp only at hSw); go_simp; (try with_reducible rfl)
  (try simp only [Act.put, List.setIfInBounds_toArray, List.set_cons_zero, List.set_cons_succ])
  refine wpAnyH_take (i := 53) (oi := ({ dst := some 71, op := Op.load 33 (Operand.tmp 70), type := 33, pos := "help.go:108", after := #[{ on := 52, ground := Ground.data }, { on := 51, ground := Ground.guard }], guard := some (51, true) } : Oper)) (v := ?vam51) rfl (by kernel_rfl) (by kernel_rfl) (by kernel_rfl) (fun _ _ _ h => h) (Or.inl ⟨by rfl, fun w hSw => ?hyam51⟩) (by assumption) ?ram51
  case hyam51 => (try dsimp only at hSw); go_simp; (try with_reducible rfl)
  (try simp only [Act.put, List.setIfInBounds_toArray, List.set_cons_zero, List.set_cons_succ])
  refine wpAnyH_take (i := 54) (oi := ({ dst := some 72, op := Op.nilCheck (Operand.tmp 71), type := 0, pos := "help.go:108", after := #[{ on := 53, ground := Ground.data }, { on := 51, ground := Ground.guard }], guard := some (51, true) } : Oper)) (v := ?vam52) rfl (by kernel_rfl) (by kernel_rfl) (by kernel_rfl) (fun _ _ _ h => h) (Or.inl ⟨by rfl, fun w hSw => ?hyam52⟩) (by assumption) ?ram52
  case hyam52 => (try dsimp only at hSw); go_simp; (try with_reducible rfl)
  (try simp only [Act.put, List.setIfInBounds_toArray, List.set_cons_zero, List.set_cons_succ])
  refine wpAnyH_take (i := 55) (oi := ({ dst := some 73, op := Op.fieldAddr 89 (Operand.tmp 72) 5, type := 0, pos := "help.go:108", after := #[{ on := 54, ground := Ground.data }, { on := 51, ground := Ground.guard }], guard := some (51, true) } : Oper)) (v := ?vam53) rfl (by kernel_rfl) (by kernel_rfl) (by kernel_rfl) (fun _ _ _ h => h) (Or.inl ⟨by rfl, fun w hSw => ?hyam53⟩) (by assumption) ?ram53
  case hyam53 => (try dsimp only at hSw); go_simp; (try with_reducible rfl)
  (try simp only [Act.put, List.setIfInBounds_toArray, List.set_cons_zero, List.set_cons_succ])
  refine wpAnyH_take (i := 56) (oi := ({ dst := some 74, op := Op.load 86 (Operand.tmp 73), type := 86, pos := "help.go:108", after := #[{ on := 55, ground := Ground.data }, { on := 51, ground := Ground.guard }], guard := some (51, true) } : Oper)) (v := ?vam54) rfl (by kernel_rfl) (by kernel_rfl) (by kernel_rfl) (fun _ _ _ h => h) (Or.inl ⟨by rfl, fun w hSw => ?hyam54⟩) (by assumption) ?ram54
  case hyam54 => (try dsimp only at hSw); go_simp; (try with_reducible rfl)
  (try simp only [Act.put, List.setIfInBounds_toArray, List.set_cons_zero, List.set_cons_succ])
  refine wpAnyH_take (i := 58) (oi := ({ dst := some 76, op := Op.fieldAddr 36 (Operand.tmp 1) 1, type := 0, pos := "help.go:108", after := #[{ on := 51, ground := Ground.guard }], guard := some (51, true) } : Oper)) (v := ?vam55) rfl (by kernel_rfl) (by kernel_rfl) (by kernel_rfl) (fun _ _ _ h => h) (Or.inl ⟨by rfl, fun w hSw => ?hyam55⟩) (by assumption) ?ram55
  case hyam55 => (try dsimp only at hSw); go_simp; (try with_reducible rfl)
  (try simp only [Act.put, List.setIfInBounds_toArray, List.set_cons_zero, List.set_cons_succ])
  refine wpAnyH_take (i := 59) (oi := ({ dst := some 77, op := Op.load 34 (Operand.tmp 76), type := 34, pos := "help.go:108", after := #[{ on := 58, ground := Ground.data }, { on := 51, ground := Ground.guard }], guard := some (51, true) } : Oper)) (v := ?vam56) rfl (by kernel_rfl) (by kernel_rfl) (by kernel_rfl) (fun _ _ _ h => h) (Or.inl ⟨by rfl, fun w hSw => ?hyam56⟩) (by assumption) ?ram56
  case hyam56 => (try dsimp only at hSw); go_simp; (try with_reducible rfl)
  (try simp only [Act.put, List.setIfInBounds_toArray, List.set_cons_zero, List.set_cons_succ])
  refine wpAnyH_take (i := 60) (oi := ({ dst := some 78, op := Op.nilCheck (Operand.tmp 77), type := 0, pos := "help.go:108", after := #[{ on := 59, ground := Ground.data }, { on := 51, ground := Ground.guard }], guard := some (51, true) } : Oper)) (v := ?vam57) rfl (by kernel_rfl) (by kernel_rfl) (by kernel_rfl) (fun _ _ _ h => h) (Or.inl ⟨by rfl, fun w hSw => ?hyam57⟩) (by assumption) ?ram57
  case hyam57 => (try dsimp only at hSw); go_simp; (try with_reducible rfl)
  (try simp only [Act.put, List.setIfInBounds_toArray, List.set_cons_zero, List.set_cons_succ])
  refine wpAnyH_take (i := 61) (oi := ({ dst := some 79, op := Op.fieldAddr 107 (Operand.tmp 78) 5, type := 0, pos := "help.go:108", after := #[{ on := 60, ground := Ground.data }, { on := 51, ground := Ground.guard }], guard := some (51, true) } : Oper)) (v := ?vam58) rfl (by kernel_rfl) (by kernel_rfl) (by kernel_rfl) (fun _ _ _ h => h) (Or.inl ⟨by rfl, fun w hSw => ?hyam58⟩) (by assumption) ?ram58
  case hyam58 => (try dsimp only at hSw); go_simp; (try with_reducible rfl)
  (try simp only [Act.put, List.setIfInBounds_toArray, List.set_cons_zero, List.set_cons_succ])
  refine wpAnyH_take (i := 62) (oi := ({ dst := some 80, op := Op.load 105 (Operand.tmp 79), type := 105, pos := "help.go:108", after := #[{ on := 61, ground := Ground.data }, { on := 51, ground := Ground.guard }], guard := some (51, true) } : Oper)) (v := ?vam59) rfl (by kernel_rfl) (by kernel_rfl) (by kernel_rfl) (fun _ _ _ h => h) (Or.inl ⟨by rfl, fun w hSw => ?hyam59⟩) (by assumption) ?ram59
  case hyam59 => (try dsimp only at hSw); go_simp; (try with_reducible rfl)
  (try simp only [Act.put, List.setIfInBounds_toArray, List.set_cons_zero, List.set_cons_succ])
  refine wpAnyH_take (i := 63) (oi := ({ dst := some 81, op := Op.nilCheck (Operand.tmp 80), type := 0, pos := "help.go:108", after := #[{ on := 62, ground := Ground.data }, { on := 51, ground := Ground.guard }], guard := some (51, true) } : Oper)) (v := ?vam60) rfl (by kernel_rfl) (by kernel_rfl) (by kernel_rfl) (fun _ _ _ h => h) (Or.inl ⟨by rfl, fun w hSw => ?hyam60⟩) (by assumption) ?ram60
  case hyam60 => (try dsimp only at hSw); go_simp; (try with_reducible rfl)
  (try simp only [Act.put, List.setIfInBounds_toArray, List.set_cons_zero, List.set_cons_succ])
  refine wpAnyH_take (i := 64) (oi := ({ dst := some 82, op := Op.fieldAddr 159 (Operand.tmp 81) 0, type := 0, pos := "help.go:108", after := #[{ on := 63, ground := Ground.data }, { on := 51, ground := Ground.guard }], guard := some (51, true) } : Oper)) (v := ?vam61) rfl (by kernel_rfl) (by kernel_rfl) (by kernel_rfl) (fun _ _ _ h => h) (Or.inl ⟨by rfl, fun w hSw => ?hyam61⟩) (by assumption) ?ram61
  case hyam61 => (try dsimp only at hSw); go_simp; (try with_reducible rfl)
  (try simp only [Act.put, List.setIfInBounds_toArray, List.set_cons_zero, List.set_cons_succ])
  refine wpAnyH_take (i := 65) (oi := ({ dst := some 83, op := Op.load 157 (Operand.tmp 82), type := 157, pos := "help.go:108", after := #[{ on := 64, ground := Ground.data }, { on := 51, ground := Ground.guard }], guard := some (51, true) } : Oper)) (v := ?vam62) rfl (by kernel_rfl) (by kernel_rfl) (by kernel_rfl) (fun _ _ _ h => h) (Or.inl ⟨by rfl, fun w hSw => ?hyam62⟩) (by assumption) ?ram62
  case hyam62 => (try dsimp only at hSw); go_simp; (try with_reducible rfl)
  (try simp only [Act.put, List.setIfInBounds_toArray, List.set_cons_zero, List.set_cons_succ])
  refine wpAnyH_take (i := 66) (oi := ({ dst := some 84, op := Op.call { callee := Callee.builtin Builtin.len, args := #[Operand.tmp 83], argTypes := #[157] }, type := 3, pos := "help.go:108", after := #[{ on := 65, ground := Ground.data }, { on := 51, ground := Ground.guard }], guard := some (51, true) } : Oper)) (v := ?vam63) rfl (by kernel_rfl) (by kernel_rfl) (by kernel_rfl) (fun _ _ _ h => h) (Or.inl ⟨by rfl, fun w hSw => ?hyam63⟩) (by assumption) ?ram63
  case hyam63 => (try dsimp only at hSw); go_simp; (try with_reducible rfl)
  (try simp only [Act.put, List.setIfInBounds_toArray, List.set_cons_zero, List.set_cons_succ])
  refine wpAnyH_ready (rs := [57]) (by kernel_rfl) (by simp) ?_
  refine AllReadyH.cons (o := ({ dst := some 75, op := Op.call { callee := Callee.value (Operand.func 60), args := #[Operand.tmp 74], argTypes := #[86] }, type := 3, pos := "help.go:108", after := #[{ on := 56, ground := Ground.data }, { on := 51, ground := Ground.chain }, { on := 51, ground := Ground.guard }], guard := some (51, true) } : Oper)) rfl (fun Kq hKq => ?_) AllReadyH.nil
  go_simp
  (refine (HNC.out _ hHeld.1).mono ?_; rintro e w3 ⟨rfl, rfl⟩)
  refine hKq.out _ _ ?_ (fun hHeld => ?_)
  · exact hHeld
  clear hKq Kq
  (try simp only [Act.put, List.setIfInBounds_toArray, List.set_cons_zero, List.set_cons_succ])
  refine wpAnyH_take (i := 67) (oi := ({ dst := some 85, op := Op.binOp BinOp.eql 3 (Operand.tmp 75) (Operand.tmp 84) 3, type := 4, pos := "help.go:108", after := #[{ on := 57, ground := Ground.data }, { on := 66, ground := Ground.data }, { on := 51, ground := Ground.guard }], guard := some (51, true) } : Oper)) (v := ?vam64) rfl (by kernel_rfl) (by kernel_rfl) (by kernel_rfl) (fun _ _ _ h => h) (Or.inl ⟨by rfl, fun w hSw => ?hyam64⟩) (by assumption) ?ram64
  case hyam64 => (try dsimp only at hSw); go_simp; (try with_reducible rfl)
  (try simp only [Act.put, List.setIfInBounds_toArray, List.set_cons_zero, List.set_cons_succ])
  refine wpAnyH_take (i := 68) (oi := ({ dst := some 86, op := Op.pick (Operand.tmp 69) (Operand.tmp 85) (Operand.const (Value.bool false)), type := 4, pos := "help.go:108", after := #[{ on := 51, ground := Ground.data }, { on := 67, ground := Ground.data }], guard := none } : Oper)) (v := ?vam65) rfl (by kernel_rfl) (by kernel_rfl) (by kernel_rfl) (fun _ _ _ h => h) (Or.inl ⟨by rfl, fun w hSw => ?hyam65⟩) (by assumption) ?ram65
  case hyam65 => (try dsimp only at hSw); go_simp; (try with_reducible rfl)
  (try simp only [Act.put, List.setIfInBounds_toArray, List.set_cons_zero, List.set_cons_succ])
  refine wpAnyH_take (i := 69) (oi := ({ dst := some 87, op := Op.move (Operand.tmp 86), type := 4, pos := "help.go:108", after := #[{ on := 68, ground := Ground.data }, { on := 57, ground := Ground.chain }], guard := none } : Oper)) (v := ?vam66) rfl (by kernel_rfl) (by kernel_rfl) (by kernel_rfl) (fun _ _ _ h => h) (Or.inl ⟨by rfl, fun w hSw => ?hyam66⟩) (by assumption) ?ram66
  case hyam66 => (try dsimp only at hSw); go_simp; (try with_reducible rfl)
  (try simp only [Act.put, List.setIfInBounds_toArray, List.set_cons_zero, List.set_cons_succ])
  refine wpAnyH_take (i := 70) (oi := ({ dst := some 88, op := Op.fieldAddr 36 (Operand.tmp 1) 0, type := 0, pos := "help.go:108", after := #[{ on := 69, ground := Ground.guard }], guard := some (69, true) } : Oper)) (v := ?vam67) rfl (by kernel_rfl) (by kernel_rfl) (by kernel_rfl) (fun _ _ _ h => h) (Or.inl ⟨by rfl, fun w hSw => ?hyam67⟩) (by assumption) ?ram67
  case hyam67 => (try dsimp only at hSw); go_simp; (try with_reducible rfl)
  (try simp only [Act.put, List.setIfInBounds_toArray, List.set_cons_zero, List.set_cons_succ])
  refine wpAnyH_take (i := 71) (oi := ({ dst := some 89, op := Op.load 33 (Operand.tmp 88), type := 33, pos := "help.go:108", after := #[{ on := 70, ground := Ground.data }, { on := 69, ground := Ground.guard }], guard := some (69, true) } : Oper)) (v := ?vam68) rfl (by kernel_rfl) (by kernel_rfl) (by kernel_rfl) (fun _ _ _ h => h) (Or.inl ⟨by rfl, fun w hSw => ?hyam68⟩) (by assumption) ?ram68
  case hyam68 => (try dsimp only at hSw); go_simp; (try with_reducible rfl)
  (try simp only [Act.put, List.setIfInBounds_toArray, List.set_cons_zero, List.set_cons_succ])
  refine wpAnyH_take (i := 72) (oi := ({ dst := some 90, op := Op.nilCheck (Operand.tmp 89), type := 0, pos := "help.go:108", after := #[{ on := 71, ground := Ground.data }, { on := 69, ground := Ground.guard }], guard := some (69, true) } : Oper)) (v := ?vam69) rfl (by kernel_rfl) (by kernel_rfl) (by kernel_rfl) (fun _ _ _ h => h) (Or.inl ⟨by rfl, fun w hSw => ?hyam69⟩) (by assumption) ?ram69
  case hyam69 => (try dsimp only at hSw); go_simp; (try with_reducible rfl)
  (try simp only [Act.put, List.setIfInBounds_toArray, List.set_cons_zero, List.set_cons_succ])
  refine wpAnyH_take (i := 73) (oi := ({ dst := some 91, op := Op.fieldAddr 89 (Operand.tmp 90) 1, type := 0, pos := "help.go:108", after := #[{ on := 72, ground := Ground.data }, { on := 69, ground := Ground.guard }], guard := some (69, true) } : Oper)) (v := ?vam70) rfl (by kernel_rfl) (by kernel_rfl) (by kernel_rfl) (fun _ _ _ h => h) (Or.inl ⟨by rfl, fun w hSw => ?hyam70⟩) (by assumption) ?ram70
  case hyam70 => (try dsimp only at hSw); go_simp; (try with_reducible rfl)
  (try simp only [Act.put, List.setIfInBounds_toArray, List.set_cons_zero, List.set_cons_succ])
  refine wpAnyH_take (i := 74) (oi := ({ dst := some 92, op := Op.load 82 (Operand.tmp 91), type := 82, pos := "help.go:108", after := #[{ on := 73, ground := Ground.data }, { on := 69, ground := Ground.guard }], guard := some (69, true) } : Oper)) (v := ?vam71) rfl (by kernel_rfl) (by kernel_rfl) (by kernel_rfl) (fun _ _ _ h => h) (Or.inl ⟨by rfl, fun w hSw => ?hyam71⟩) (by assumption) ?ram71
  case hyam71 => (try dsimp only at hSw); go_simp; (try with_reducible rfl)
  (try simp only [Act.put, List.setIfInBounds_toArray, List.set_cons_zero, List.set_cons_succ])
  refine wpAnyH_take (i := 76) (oi := ({ dst := some 94, op := Op.fieldAddr 36 (Operand.tmp 1) 1, type := 0, pos := "help.go:108", after := #[{ on := 69, ground := Ground.guard }], guard := some (69, true) } : Oper)) (v := ?vam72) rfl (by kernel_rfl) (by kernel_rfl) (by kernel_rfl) (fun _ _ _ h => h) (Or.inl ⟨by rfl, fun w hSw => ?hyam72⟩) (by assumption) ?ram72
  case hyam72 => (try dsimp only at hSw); go_simp; (try with_reducible rfl)
  (try simp only [Act.put, List.setIfInBounds_toArray, List.set_cons_zero, List.set_cons_succ])
  refine wpAnyH_take (i := 77) (oi := ({ dst := some 95, op := Op.load 34 (Operand.tmp 94), type := 34, pos := "help.go:108", after := #[{ on := 76, ground := Ground.data }, { on := 69, ground := Ground.guard }], guard := some (69, true) } : Oper)) (v := ?vam73) rfl (by kernel_rfl) (by kernel_rfl) (by kernel_rfl) (fun _ _ _ h => h) (Or.inl ⟨by rfl, fun w hSw => ?hyam73⟩) (by assumption) ?ram73
  case hyam73 => (try dsimp only at hSw); go_simp; (try with_reducible rfl)
  (try simp only [Act.put, List.setIfInBounds_toArray, List.set_cons_zero, List.set_cons_succ])
  refine wpAnyH_take (i := 78) (oi := ({ dst := some 96, op := Op.nilCheck (Operand.tmp 95), type := 0, pos := "help.go:108", after := #[{ on := 77, ground := Ground.data }, { on := 69, ground := Ground.guard }], guard := some (69, true) } : Oper)) (v := ?vam74) rfl (by kernel_rfl) (by kernel_rfl) (by kernel_rfl) (fun _ _ _ h => h) (Or.inl ⟨by rfl, fun w hSw => ?hyam74⟩) (by assumption) ?ram74
  case hyam74 => (try dsimp only at hSw); go_simp; (try with_reducible rfl)
  (try simp only [Act.put, List.setIfInBounds_toArray, List.set_cons_zero, List.set_cons_succ])
  refine wpAnyH_take (i := 79) (oi := ({ dst := some 97, op := Op.fieldAddr 107 (Operand.tmp 96) 1, type := 0, pos := "help.go:108", after := #[{ on := 78, ground := Ground.data }, { on := 69, ground := Ground.guard }], guard := some (69, true) } : Oper)) (v := ?vam75) rfl (by kernel_rfl) (by kernel_rfl) (by kernel_rfl) (fun _ _ _ h => h) (Or.inl ⟨by rfl, fun w hSw => ?hyam75⟩) (by assumption) ?ram75
  case hyam75 => (try dsimp only at hSw); go_simp; (try with_reducible rfl)
  (try simp only [Act.put, List.setIfInBounds_toArray, List.set_cons_zero, List.set_cons_succ])
  refine wpAnyH_take (i := 80) (oi := ({ dst := some 98, op := Op.load 101 (Operand.tmp 97), type := 101, pos := "help.go:108", after := #[{ on := 79, ground := Ground.data }, { on := 69, ground := Ground.guard }], guard := some (69, true) } : Oper)) (v := ?vam76) rfl (by kernel_rfl) (by kernel_rfl) (by kernel_rfl) (fun _ _ _ h => h) (Or.inl ⟨by rfl, fun w hSw => ?hyam76⟩) (by assumption) ?ram76
  case hyam76 => (try dsimp only at hSw); go_simp; (try with_reducible rfl)
  (try simp only [Act.put, List.setIfInBounds_toArray, List.set_cons_zero, List.set_cons_succ])
  refine wpAnyH_take (i := 81) (oi := ({ dst := some 99, op := Op.nilCheck (Operand.tmp 98), type := 0, pos := "help.go:108", after := #[{ on := 80, ground := Ground.data }, { on := 69, ground := Ground.guard }], guard := some (69, true) } : Oper)) (v := ?vam77) rfl (by kernel_rfl) (by kernel_rfl) (by kernel_rfl) (fun _ _ _ h => h) (Or.inl ⟨by rfl, fun w hSw => ?hyam77⟩) (by assumption) ?ram77
  case hyam77 => (try dsimp only at hSw); go_simp; (try with_reducible rfl)
  (try simp only [Act.put, List.setIfInBounds_toArray, List.set_cons_zero, List.set_cons_succ])
  refine wpAnyH_take (i := 82) (oi := ({ dst := some 100, op := Op.fieldAddr 161 (Operand.tmp 99) 1, type := 0, pos := "help.go:108", after := #[{ on := 81, ground := Ground.data }, { on := 69, ground := Ground.guard }], guard := some (69, true) } : Oper)) (v := ?vam78) rfl (by kernel_rfl) (by kernel_rfl) (by kernel_rfl) (fun _ _ _ h => h) (Or.inl ⟨by rfl, fun w hSw => ?hyam78⟩) (by assumption) ?ram78
  case hyam78 => (try dsimp only at hSw); go_simp; (try with_reducible rfl)
  (try simp only [Act.put, List.setIfInBounds_toArray, List.set_cons_zero, List.set_cons_succ])
  refine wpAnyH_take (i := 83) (oi := ({ dst := some 101, op := Op.load 23 (Operand.tmp 100), type := 23, pos := "help.go:108", after := #[{ on := 82, ground := Ground.data }, { on := 69, ground := Ground.guard }], guard := some (69, true) } : Oper)) (v := ?vam79) rfl (by kernel_rfl) (by kernel_rfl) (by kernel_rfl) (fun _ _ _ h => h) (Or.inl ⟨by rfl, fun w hSw => ?hyam79⟩) (by assumption) ?ram79
  case hyam79 => (try dsimp only at hSw); go_simp; (try with_reducible rfl)
  (try simp only [Act.put, List.setIfInBounds_toArray, List.set_cons_zero, List.set_cons_succ])
  refine wpAnyH_take (i := 84) (oi := ({ dst := some 102, op := Op.call { callee := Callee.builtin Builtin.len, args := #[Operand.tmp 101], argTypes := #[23] }, type := 3, pos := "help.go:108", after := #[{ on := 83, ground := Ground.data }, { on := 69, ground := Ground.guard }], guard := some (69, true) } : Oper)) (v := ?vam80) rfl (by kernel_rfl) (by kernel_rfl) (by kernel_rfl) (fun _ _ _ h => h) (Or.inl ⟨by rfl, fun w hSw => ?hyam80⟩) (by assumption) ?ram80
  case hyam80 => (try dsimp only at hSw); go_simp; (try with_reducible rfl)
  (try simp only [Act.put, List.setIfInBounds_toArray, List.set_cons_zero, List.set_cons_succ])
  refine wpAnyH_ready (rs := [75]) (by kernel_rfl) (by simp) ?_
  refine AllReadyH.cons (o := ({ dst := some 93, op := Op.call { callee := Callee.value (Operand.func 61), args := #[Operand.tmp 92], argTypes := #[82] }, type := 3, pos := "help.go:108", after := #[{ on := 74, ground := Ground.data }, { on := 69, ground := Ground.chain }, { on := 69, ground := Ground.guard }], guard := some (69, true) } : Oper)) rfl (fun Kq hKq => ?_) AllReadyH.nil
  go_simp
  (refine (HLF.out _ hHeld.1).mono ?_; rintro e w3 ⟨rfl, rfl⟩)
  refine hKq.out _ _ ?_ (fun hHeld => ?_)
  · exact hHeld
  clear hKq Kq
  (try simp only [Act.put, List.setIfInBounds_toArray, List.set_cons_zero, List.set_cons_succ])
  refine wpAnyH_take (i := 85) (oi := ({ dst := some 103, op := Op.binOp BinOp.eql 3 (Operand.tmp 93) (Operand.tmp 102) 3, type := 4, pos := "help.go:108", after := #[{ on := 75, ground := Ground.data }, { on := 84, ground := Ground.data }, { on := 69, ground := Ground.guard }], guard := some (69, true) } : Oper)) (v := ?vam81) rfl (by kernel_rfl) (by kernel_rfl) (by kernel_rfl) (fun _ _ _ h => h) (Or.inl ⟨by rfl, fun w hSw => ?hyam81⟩) (by assumption) ?ram81
  case hyam81 => (try dsimp only at hSw); go_simp; (try with_reducible rfl)
  (try simp only [Act.put, List.setIfInBounds_toArray, List.set_cons_zero, List.set_cons_succ])
  refine wpAnyH_take (i := 86) (oi := ({ dst := some 104, op := Op.pick (Operand.tmp 87) (Operand.tmp 103) (Operand.const (Value.bool false)), type := 4, pos := "help.go:108", after := #[{ on := 69, ground := Ground.data }, { on := 85, ground := Ground.data }], guard := none } : Oper)) (v := ?vam82) rfl (by kernel_rfl) (by kernel_rfl) (by kernel_rfl) (fun _ _ _ h => h) (Or.inl ⟨by rfl, fun w hSw => ?hyam82⟩) (by assumption) ?ram82
  case hyam82 => (try dsimp only at hSw); go_simp; (try with_reducible rfl)
  (try simp only [Act.put, List.setIfInBounds_toArray, List.set_cons_zero, List.set_cons_succ])
  refine wpAnyH_take (i := 87) (oi := ({ dst := some 2, op := Op.assign (Operand.tmp 104), type := 4, pos := "help.go:108", after := ([{ on := 86, ground := Ground.data }, { on := 75, ground := Ground.chain }, { on := 0, ground := Ground.phase }, { on := 1, ground := Ground.phase }, { on := 2, ground := Ground.phase }, { on := 3, ground := Ground.phase }, { on := 4, ground := Ground.phase }, { on := 5, ground := Ground.phase }, { on := 6, ground := Ground.phase }, { on := 7, ground := Ground.phase }, { on := 8, ground := Ground.phase }, { on := 9, ground := Ground.phase }, { on := 10, ground := Ground.phase }, { on := 11, ground := Ground.phase }, { on := 12, ground := Ground.phase }, { on := 13, ground := Ground.phase }, { on := 14, ground := Ground.phase }, { on := 15, ground := Ground.phase }, { on := 16, ground := Ground.phase }, { on := 17, ground := Ground.phase }, { on := 18, ground := Ground.phase }, { on := 19, ground := Ground.phase }, { on := 20, ground := Ground.phase }, { on := 21, ground := Ground.phase }, { on := 22, ground := Ground.phase }, { on := 23, ground := Ground.phase }, { on := 24, ground := Ground.phase }, { on := 25, ground := Ground.phase }, { on := 26, ground := Ground.phase }, { on := 27, ground := Ground.phase }, { on := 28, ground := Ground.phase }, { on := 29, ground := Ground.phase }, { on := 30, ground := Ground.phase }, { on := 31, ground := Ground.phase }, { on := 32, ground := Ground.phase }, { on := 33, ground := Ground.phase }, { on := 34, ground := Ground.phase }, { on := 35, ground := Ground.phase }, { on := 36, ground := Ground.phase }, { on := 37, ground := Ground.phase }, { on := 38, ground := Ground.phase }, { on := 39, ground := Ground.phase }, { on := 40, ground := Ground.phase }, { on := 41, ground := Ground.phase }].append [{ on := 42, ground := Ground.phase }, { on := 43, ground := Ground.phase }, { on := 44, ground := Ground.phase }, { on := 45, ground := Ground.phase }, { on := 46, ground := Ground.phase }, { on := 47, ground := Ground.phase }, { on := 48, ground := Ground.phase }, { on := 49, ground := Ground.phase }, { on := 50, ground := Ground.phase }, { on := 51, ground := Ground.phase }, { on := 52, ground := Ground.phase }, { on := 53, ground := Ground.phase }, { on := 54, ground := Ground.phase }, { on := 55, ground := Ground.phase }, { on := 56, ground := Ground.phase }, { on := 57, ground := Ground.phase }, { on := 58, ground := Ground.phase }, { on := 59, ground := Ground.phase }, { on := 60, ground := Ground.phase }, { on := 61, ground := Ground.phase }, { on := 62, ground := Ground.phase }, { on := 63, ground := Ground.phase }, { on := 64, ground := Ground.phase }, { on := 65, ground := Ground.phase }, { on := 66, ground := Ground.phase }, { on := 67, ground := Ground.phase }, { on := 68, ground := Ground.phase }, { on := 69, ground := Ground.phase }, { on := 70, ground := Ground.phase }, { on := 71, ground := Ground.phase }, { on := 72, ground := Ground.phase }, { on := 73, ground := Ground.phase }, { on := 74, ground := Ground.phase }, { on := 75, ground := Ground.phase }, { on := 76, ground := Ground.phase }, { on := 77, ground := Ground.phase }, { on := 78, ground := Ground.phase }, { on := 79, ground := Ground.phase }, { on := 80, ground := Ground.phase }, { on := 81, ground := Ground.phase }, { on := 82, ground := Ground.phase }, { on := 83, ground := Ground.phase }, { on := 84, ground := Ground.phase }, { on := 85, ground := Ground.phase }, { on := 86, ground := Ground.phase }]).toArray, guard := none } : Oper)) (v := ?vam83) rfl (by kernel_rfl) (by kernel_rfl) (by kernel_rfl) (fun _ _ _ h => h) (Or.inl ⟨by rfl, fun w hSw => ?hyam83⟩) (by assumption) ?ram83
  case hyam83 => (try dsimp only at hSw); go_simp; (try with_reducible rfl)
  (try simp only [Act.put, List.setIfInBounds_toArray, List.set_cons_zero, List.set_cons_succ])
  refine wpAnyH_done (by kernel_rfl) ?_ _
  go_wp2_with fail
  go_ret
  exact ⟨rfl, HBX.out.trans (hHeld.1.mono HBX.out.size)⟩
end Go.Proofs.YtlflagjnlclffaaGreat.S12
namespace Go.Proofs.YtlflagjnlclffaaGreat.S10
open Go.Proofs.YtlflagjnlclffaaGreat
open Go.RowKit

theorem keep3 {w w' : World} {base g o : Nat} {d : Ent} (hb : Below base w w') (hg : g < base) (h : w.cell? ⟨g, o, none⟩ = some (.int .i64 d.t) ∧ w.cell? ⟨g, o + 1, none⟩ = some (.int .u32 d.k) ∧ w.cell? ⟨g, o + 2, none⟩ = some (.int .u64 d.z)) :
    w'.cell? ⟨g, o, none⟩ = some (.int .i64 d.t) ∧ w'.cell? ⟨g, o + 1, none⟩ = some (.int .u32 d.k) ∧ w'.cell? ⟨g, o + 2, none⟩ = some (.int .u64 d.z) :=
  ⟨(hb.cell (by exact hg)).trans h.1, (hb.cell (by exact hg)).trans h.2.1, (hb.cell (by exact hg)).trans h.2.2⟩
set_option maxHeartbeats 2000000 in
set_option maxRecDepth 100000 in
theorem same_any {w : World} {b1 b2 : Nat} {A B : Option Addr} {D : List Ent} (c c' : Nat) (hr1 : Rd w b1 A (flat D)) (hr2 : Rd w b2 B (flat D)) (hb1 : b1 ≤ w.heap.size) (hb2 : b2 ≤ w.heap.size) (hlen : D.length ≤ 1000000) :
    Calls Tryz.prog 122 #[.slice A D.length c, .slice B D.length c'] w fun e w' => e = .returned (.bool true) ∧ Below w.heap.size w w' := by
  have H1 := Lib.hid hr1; have H2 := Lib.hid hr2; have HS1 := Lib.hid hb1; have HS2 := Lib.hid hb2
  clear hr1 hr2 hb1 hb2
  obtain ⟨n, hn⟩ : ∃ n, n = D.length := ⟨_, rfl⟩
  rw [← hn]
  have HN := Lib.hid hn
  have hn6 : n ≤ 1000000 := by omega
  clear hn hlen
  go_enter Tryz.func122, Tryz.ntmps122
  go_wp2_with fail
  go_loopg [5] n (fun q s5 wx => ∃ k : Nat, k ≤ n ∧ q = n - k ∧ s5 = .int .i64 (k : Int) ∧ Below w.heap.size w wx)
  case atStart => exact ⟨0, by omega, rfl, rfl, Below.refl _ _⟩
  case round =>
    obtain ⟨k, hk, rfl, rfl, hb⟩ := hrel
    have HB := Lib.hid hb
    clear hb
    by_cases hkn : k < n
    · obtain ⟨g1, o1, rfl, hg1, c0, c1, c2⟩ := (H1.out.below HB.out HS1.out).ent (i := k) (by have := HN.out; omega)
      obtain ⟨g2, o2, rfl, hg2, d0, d1, d2⟩ := (H2.out.below HB.out HS2.out).ent (i := k) (by have := HN.out; omega)
      have hl1 : g1 < wr.heap.size := by have := HB.out.size; have := HS1.out; omega
      have hl2 : g2 < wr.heap.size := by have := HB.out.size; have := HS2.out; omega
      generalize hd : D[k]! = d at *
      clear hd
      have hne := fun W => neqO d d W
      simp only [decide_true, Bool.not_true] at hne
      go_upto_region 6 with (fail)
      refine wp_region_held_drew (S := fun w' => (w'.cell? ⟨g1, o1 + k * 3, none⟩ = some (.int .i64 d.t) ∧ w'.cell? ⟨g1, o1 + k * 3 + 1, none⟩ = some (.int .u32 d.k) ∧ w'.cell? ⟨g1, o1 + k * 3 + 2, none⟩ = some (.int .u64 d.z)) ∧ (w'.cell? ⟨g2, o2 + k * 3, none⟩ = some (.int .i64 d.t) ∧ w'.cell? ⟨g2, o2 + k * 3 + 1, none⟩ = some (.int .u32 d.k) ∧ w'.cell? ⟨g2, o2 + k * 3 + 2, none⟩ = some (.int .u64 d.z)) ∧ Below wr.heap.size wr w') (by kernel_rfl) ?_ (fun hHeld => ?_)
      · exact ⟨⟨c0, c1, c2⟩, ⟨d0, d1, d2⟩, (Below.refl _ wr).drew⟩
      refine wpAnyH_take (i := 0) (oi := ({ dst := some 17, op := Op.move (Operand.tmp 0), type := 111, pos := "help.go:28", after := #[], guard := none } : Oper)) (v := ?v0) rfl (by kernel_rfl) (by kernel_rfl) (by kernel_rfl) (fun _ _ _ h => h) (Or.inl ⟨by rfl, fun w hSw => ?hy0⟩) (by assumption) ?r0
      case hy0 => (try dsimp only at hSw); go_simp; (try with_reducible rfl)
      (try simp only [Act.put, List.setIfInBounds_toArray, List.set_cons_zero, List.set_cons_succ])
      refine wpAnyH_take (i := 1) (oi := ({ dst := some 18, op := Op.move (Operand.tmp 5), type := 3, pos := "help.go:28", after := #[], guard := none } : Oper)) (v := ?v1) rfl (by kernel_rfl) (by kernel_rfl) (by kernel_rfl) (fun _ _ _ h => h) (Or.inl ⟨by rfl, fun w hSw => ?hy1⟩) (by assumption) ?r1
      case hy1 => (try dsimp only at hSw); go_simp; (try with_reducible rfl)
      (try simp only [Act.put, List.setIfInBounds_toArray, List.set_cons_zero, List.set_cons_succ])
      refine wpAnyH_take (i := 2) (oi := ({ dst := some 19, op := Op.indexAddr 111 (Operand.tmp 17) (Operand.tmp 18), type := 0, pos := "help.go:28", after := #[{ on := 0, ground := Ground.data }, { on := 1, ground := Ground.data }], guard := none } : Oper)) (v := ?v2) rfl (by kernel_rfl) (by kernel_rfl) (by kernel_rfl) (fun _ _ _ h => h) (Or.inl ⟨by rfl, fun w hSw => ?hy2⟩) (by assumption) ?r2
      case hy2 => (try dsimp only at hSw); go_simp; (try with_reducible rfl)
      (try simp only [Act.put, List.setIfInBounds_toArray, List.set_cons_zero, List.set_cons_succ])
      refine wpAnyH_take (i := 3) (oi := ({ dst := some 20, op := Op.load 231 (Operand.tmp 19), type := 231, pos := "help.go:28", after := #[{ on := 2, ground := Ground.data }], guard := none } : Oper)) (v := ?v3) rfl (by kernel_rfl) (by kernel_rfl) (by kernel_rfl) (fun _ _ _ h => h) (Or.inl ⟨by rfl, fun w hSw => ?hy3⟩) (by assumption) ?r3
      case hy3 => (try dsimp only at hSw); go_simp; (try with_reducible rfl)
      (try simp only [Act.put, List.setIfInBounds_toArray, List.set_cons_zero, List.set_cons_succ])
      refine wpAnyH_take (i := 5) (oi := ({ dst := some 22, op := Op.move (Operand.tmp 1), type := 120, pos := "help.go:28", after := #[], guard := none } : Oper)) (v := ?v5) rfl (by kernel_rfl) (by kernel_rfl) (by kernel_rfl) (fun _ _ _ h => h) (Or.inl ⟨by rfl, fun w hSw => ?hy5⟩) (by assumption) ?r5
      case hy5 => (try dsimp only at hSw); go_simp; (try with_reducible rfl)
      (try simp only [Act.put, List.setIfInBounds_toArray, List.set_cons_zero, List.set_cons_succ])
      refine wpAnyH_take (i := 6) (oi := ({ dst := some 23, op := Op.move (Operand.tmp 5), type := 3, pos := "help.go:28", after := #[], guard := none } : Oper)) (v := ?v6) rfl (by kernel_rfl) (by kernel_rfl) (by kernel_rfl) (fun _ _ _ h => h) (Or.inl ⟨by rfl, fun w hSw => ?hy6⟩) (by assumption) ?r6
      case hy6 => (try dsimp only at hSw); go_simp; (try with_reducible rfl)
      (try simp only [Act.put, List.setIfInBounds_toArray, List.set_cons_zero, List.set_cons_succ])
      refine wpAnyH_take (i := 7) (oi := ({ dst := some 24, op := Op.indexAddr 120 (Operand.tmp 22) (Operand.tmp 23), type := 0, pos := "help.go:28", after := #[{ on := 5, ground := Ground.data }, { on := 6, ground := Ground.data }], guard := none } : Oper)) (v := ?v7) rfl (by kernel_rfl) (by kernel_rfl) (by kernel_rfl) (fun _ _ _ h => h) (Or.inl ⟨by rfl, fun w hSw => ?hy7⟩) (by assumption) ?r7
      case hy7 => (try dsimp only at hSw); go_simp; (try with_reducible rfl)
      (try simp only [Act.put, List.setIfInBounds_toArray, List.set_cons_zero, List.set_cons_succ])
      refine wpAnyH_take (i := 8) (oi := ({ dst := some 25, op := Op.load 229 (Operand.tmp 24), type := 229, pos := "help.go:28", after := #[{ on := 7, ground := Ground.data }], guard := none } : Oper)) (v := ?v8) rfl (by kernel_rfl) (by kernel_rfl) (by kernel_rfl) (fun _ _ _ h => h) (Or.inl ⟨by rfl, fun w hSw => ?hy8⟩) (by assumption) ?r8
      case hy8 => (try dsimp only at hSw); go_simp; (try with_reducible rfl)
      (try simp only [Act.put, List.setIfInBounds_toArray, List.set_cons_zero, List.set_cons_succ])
      refine wpAnyH_ready (rs := [4]) (by kernel_rfl) (by simp) ?_
      refine AllReadyH.cons (o := ({ dst := some 21, op := Op.call { callee := Callee.value (Operand.func 96), args := #[Operand.tmp 20], argTypes := #[231] }, type := 229, pos := "help.go:28", after := #[{ on := 3, ground := Ground.data }], guard := none } : Oper)) rfl (fun Kq hKq => ?_) AllReadyH.nil
      go_simp
      (refine (other_any d _).mono ?_; rintro e w1 ⟨rfl, hb1⟩)
      refine hKq.out _ _ ?_ (fun hHeld => ?_)
      · exact ⟨keep3 hb1 (by have := hHeld.2.2.size; omega) hHeld.1, keep3 hb1 (by have := hHeld.2.2.size; omega) hHeld.2.1, hHeld.2.2.trans (hb1.mono hHeld.2.2.size)⟩
      clear hKq Kq
      (try simp only [Act.put, List.setIfInBounds_toArray, List.set_cons_zero, List.set_cons_succ])
      refine wpAnyH_take (i := 9) (oi := ({ dst := some 26, op := Op.binOp BinOp.neq 229 (Operand.tmp 21) (Operand.tmp 25) 229, type := 4, pos := "help.go:28", after := #[{ on := 4, ground := Ground.data }, { on := 8, ground := Ground.data }], guard := none } : Oper)) (v := ?v9) rfl (by kernel_rfl) (by kernel_rfl) (by kernel_rfl) (fun _ _ _ h => h) (Or.inl ⟨by rfl, fun w hSw => ?hy9⟩) (by assumption) ?r9
      case hy9 => (try dsimp only at hSw); go_simp; (try with_reducible rfl)
      (try simp only [Act.put, List.setIfInBounds_toArray, List.set_cons_zero, List.set_cons_succ])
      refine wpAnyH_done (by kernel_rfl) ?_ _
      have HH := Lib.hid hHeld.2.2
      clear hHeld
      go_wp2_with fail
      go_roundg (n - (k + 1))
      case measure => omega
      case rel => exact ⟨k + 1, by omega, rfl, by go_num, HB.out.trans (HH.out.mono HB.out.size)⟩
    · obtain rfl : k = n := by omega
      go_wp2_with fail
      go_ret
      exact ⟨rfl, HB.out⟩
end Go.Proofs.YtlflagjnlclffaaGreat.S10
namespace Go.Proofs.YtlflagjnlclffaaGreat.S10
open Go.Proofs.YtlflagjnlclffaaGreat
open Go.RowKit

structure Se (W : World) (base baseR : Nat) (own ownR : Nat → Option Role) (s r : Value) (n : Nat) (M R : Int → List Bk) (Z : Nat → Prop) : Prop where
  st : St W base own s n M
  rt : Rt W baseR ownR r R
  dj : ∀ g, Mine own g → ¬ Mine ownR g
  cl : ∀ g, Z g → g < W.heap.size ∧ ¬ Mine own g ∧ ¬ Mine ownR g
section
variable {W w' : World} {base baseR : Nat} {own ownR own' : Nat → Option Role} {s r : Value} {n n' : Nat} {M M' R R' : Int → List Bk} {Z : Nat → Prop}
theorem Se.turn (h : Se W base baseR own ownR s r n M R Z) {S : Nat → Prop} (t : Turns S W w') (h1 : ∀ g, Mine own g → ¬ S g) (h2 : ∀ g, Mine ownR g → ¬ S g) : Se w' base baseR own ownR s r n M R Z :=
  ⟨h.st.keep t h1, h.rt.keep t h2, h.dj, fun g hz => ⟨Nat.lt_of_lt_of_le (h.cl g hz).1 t.size, (h.cl g hz).2⟩⟩
theorem Se.new (h : Se W base baseR own ownR s r n M R Z) (hb : Below W.heap.size W w') : Se w' base baseR own ownR s r n M R Z :=
  h.turn (Turns.of_below (S := fun _ => False) hb) (fun _ _ e => e) (fun _ _ e => e)
theorem Se.drew (h : Se W base baseR own ownR s r n M R Z) : Se W.drew base baseR own ownR s r n M R Z := h.turn (Turns.refl (fun _ => False) W).drew (fun _ _ e => e) (fun _ _ e => e)
theorem Se.add (h : Se W base baseR own ownR s r n M R Z) (hb : Below W.heap.size W w') {Y : Nat → Prop} (hy : ∀ g, Y g → W.heap.size ≤ g ∧ g < w'.heap.size) : Se w' base baseR own ownR s r n M R (fun g => Z g ∨ Y g) := by
  have h1 := h.new hb
  refine ⟨h1.st, h1.rt, h.dj, fun g hg => ?_⟩
  rcases hg with hz | hy'
  · exact h1.cl g hz
  · have := hy g hy'
    refine ⟨this.2, fun hm => ?_, fun hm => ?_⟩
    · have := (h.st.fp hm).2; omega
    · have := (h.rt.fp hm).2; omega
theorem Se.sub (h : Se W base baseR own ownR s r n M R Z) {Y : Nat → Prop} (hy : ∀ g, Y g → Z g) : Se W base baseR own ownR s r n M R Y := ⟨h.st, h.rt, h.dj, fun g hg => h.cl g (hy g hg)⟩
end
set_option maxHeartbeats 4000000 in
set_option maxRecDepth 100000 in
theorem same_sets {w : World} {base baseR : Nat} {own ownR : Nat → Option Role} {s r : Value} {n N : Nat} {M : Int → List Bk} {Z : Nat → Prop} (B : Se w base baseR own ownR s r n M M Z) (hg : Good M N) (hN : N ≤ 100000) :
    Calls Tryz.prog 65 #[s, r] w fun e w' => e = .returned (.bool true) ∧ Below w.heap.size w w' := by
  have HSC := Lib.hid (B.sub (Y := fun _ => False) (fun g h => h.elim)); have HG := Lib.hid hg
  clear B hg
  go_enter Tryz.func65, Tryz.ntmps65
  go_wp2_with fail
  go_loopg [5] 9 (fun q s5 wx => ∃ k : Nat, k ≤ 9 ∧ q = 9 - k ∧ s5 = .int .i64 ((k + 1 : Nat) : Int) ∧ Below w.heap.size w wx)
  case atStart => exact ⟨0, by omega, rfl, rfl, Below.refl _ _⟩
  case round =>
    obtain ⟨k, hk, rfl, rfl, hb⟩ := hrel
    have HB := Lib.hid hb
    clear hb
    obtain ⟨wo, rfl⟩ : ∃ wo : World, wo = wr := ⟨_, rfl⟩
    by_cases hk9 : k < 9
    · obtain ⟨b, hbk⟩ : ∃ b : Int, b = ((k + 1 : Nat) : Int) := ⟨_, rfl⟩
      have HBK := Lib.hid hbk
      have hb9 : b ≤ 9 := by omega
      have hb1 : 1 ≤ b := by omega
      have hbI : InI b := by unfold InI; omega
      rw [← hbk]
      have hsc1 := HSC.out.new HB.out
      have hhs : ∀ W, Below w.heap.size w W → Calls Tryz.prog 89 #[s, .int .i64 b] W fun e w' => e = .returned (.bool (decide (0 < (M b).length))) ∧ W = w' := fun W hW => by
        obtain ⟨F, hr⟩ := (HSC.out.new hW).st.rs
        obtain ⟨A, c, V, e, _⟩ := hr.rd b
        exact has_any hr.sv hbI e
      have hrhs : ∀ W, Below w.heap.size w W → Calls Tryz.prog 86 #[r, .int .i64 b] W fun e w' => e = .returned (.bool (decide (0 < (M b).length))) ∧ W = w' := fun W hW => rhas_any (HSC.out.new hW).rt b
      have htc : 0 < (M b).length → ∃ rb k A c, r = .pointer (some ⟨rb, 0, none⟩) ∧ b = (k : Nat) ∧ k < 9 ∧ ∀ W, Below w.heap.size w W → W.cell? ⟨rb, 9 + k, none⟩ = some (.slice A (M b).length c) := fun hp => by
        obtain ⟨rb, Q, T, V, hf⟩ := HSC.out.rt
        obtain ⟨k, hbk, hk2, hk9⟩ := hf.nat (b := b) (fun e => by rw [e] at hp; simp at hp)
        subst hbk
        obtain ⟨A, c, e, _⟩ := (hf.ht k hk9).shape
        refine ⟨rb, k, A, c, hf.hs, rfl, hk9, fun W hW => ?_⟩
        rw [← e]
        exact (hW.cell (p := ⟨rb, 9 + k, none⟩) (hf.fp rb _ hf.os).2).trans (hf.hT k hk9).1
      have hml := HG.out.len b
      obtain ⟨m, hm⟩ : ∃ m, m = (M b).length := ⟨_, rfl⟩
      rw [← hm] at hhs hrhs htc hml
      have HHS := Lib.hid hhs; have HRHS := Lib.hid hrhs; have HTC := Lib.hid htc; have HM := Lib.hid hm
      clear hhs hrhs htc hm hsc1 hbk
      by_cases hm0 : m = 0
      · subst hm0
        have hd : decide (0 < 0) = false := by decide
        rw [hd] at HHS HRHS
        clear hd
        have e12 : IntKind.i64.wrap (b + 1) = b + 1 := by rw [IntKind.wrap_i64]; omega
        go_wp2_with (first
          | (go_at_call 89; refine (HHS.out _ HB.out).mono ?_; rintro e w' ⟨rfl, rfl⟩)
          | (go_at_call 86; refine (HRHS.out _ HB.out).mono ?_; rintro e w' ⟨rfl, rfl⟩))
        refine wp_loop_rounds 1 ?_
        rw [rounds_succ]
        go_wp2_with (go_at_call 86; refine (HRHS.out _ HB.out).mono ?_; rintro e w' ⟨rfl, rfl⟩)
        go_roundg (9 - (k + 1))
        case measure => omega
        case rel => exact ⟨k + 1, by omega, rfl, by rw [HBK.out]; go_num, HB.out⟩
      · obtain ⟨rb, kb, Ar, cr, rfl, hbkb, hkb9, hcell⟩ := HTC.out (by omega)
        have hd : decide (0 < m) = true := by simpa using Nat.pos_of_ne_zero hm0
        rw [hd] at HHS HRHS
        subst hbkb
        have HCELL := Lib.hid hcell
        clear hd hcell HTC
        have e12 : IntKind.i64.wrap ((kb : Int) + 1) = (kb : Int) + 1 := by rw [IntKind.wrap_i64]; omega
        go_wp2_with (first
          | (go_at_call 89; refine (HHS.out _ HB.out).mono ?_; rintro e w' ⟨rfl, rfl⟩)
          | (go_at_call 86; refine (HRHS.out _ HB.out).mono ?_; rintro e w' ⟨rfl, rfl⟩))
        go_loopg [6] m (fun q s6 wx => ∃ i : Nat, i ≤ m ∧ q = m - i ∧ s6 = .int .i64 (i : Int) ∧ Below w.heap.size w wx)
        case atStart => exact ⟨0, by omega, rfl, rfl, HB.out⟩
        case round =>
          obtain ⟨i, hi, rfl, rfl, hb2⟩ := hrel
          have HB2 := Lib.hid hb2
          have hcw := HCELL.out wr hb2
          clear hb2
          by_cases him : i < m
          · obtain ⟨xa, xf, htm, hrtm⟩ := timer_all M hbI (i : Int)
            obtain ⟨D, hD, hq, hrq⟩ := queue_all HG.out hN hbI (i : Int)
            obtain ⟨nd, hnd⟩ : ∃ nd, nd = D.length := ⟨_, rfl⟩
            rw [← hnd] at hq hrq
            have HTM := Lib.hid htm; have HRTM := Lib.hid hrtm; have HQ := Lib.hid hq; have HRQ := Lib.hid hrq; have HND := Lib.hid hnd; have HD9 := Lib.hid hD
            have hne := fun W => neqT xa xf xa xf W
            simp only [and_self, decide_true, Bool.not_true] at hne
            clear htm hrtm hq hrq hnd hD
            go_upto_region 10 with (go_at_call 86; refine (HRHS.out _ HB2.out).mono ?_; rintro e w' ⟨rfl, rfl⟩)
            have hnew := heap_alloc_new wr (.cells #[.int .i64 (kb : Int), .int .i64 (i : Int)] 110)
            have hbn := below1 wr (.cells #[.int .i64 (kb : Int), .int .i64 (i : Int)] 110)
            have hsz : (wr.alloc (.cells #[.int .i64 (kb : Int), .int .i64 (i : Int)] 110)).heap.size = wr.heap.size + 1 := by simp
            generalize hw3 : wr.alloc (.cells #[.int .i64 (kb : Int), .int .i64 (i : Int)] 110) = w3 at *
            clear hw3
            obtain ⟨X7, hX7⟩ : ∃ X, X = wr.heap.size := ⟨_, rfl⟩
            have hsc3 : Se w3.drew base baseR own ownR s (.pointer (some ⟨rb, 0, none⟩)) n M M (fun g => g = X7) := (((HSC.out.new HB2.out).add hbn (Y := fun g => g = X7) (fun g hg => by omega)).drew).sub (fun g hg => .inr hg)
            rw [← hX7] at hnew ⊢
            have x0 : w3.drew.cell? ⟨X7, 0, none⟩ = some (.int .i64 (kb : Int)) := cell_row hnew 0
            have x1 : w3.drew.cell? ⟨X7, 1, none⟩ = some (.int .i64 (i : Int)) := cell_row hnew 1
            have HSC3 := Lib.hid hsc3
            have HB3 : Hid (Below w.heap.size w w3.drew) := Lib.hid ((HB2.out.trans (hbn.mono HB2.out.size)).drew)
            clear hnew hbn hsz hX7 hsc3 hcw
            refine wp_region_held_drew (S := fun w' => w'.cell? ⟨X7, 0, none⟩ = some (.int .i64 (kb : Int)) ∧ w'.cell? ⟨X7, 1, none⟩ = some (.int .i64 (i : Int))) (by kernel_rfl) ?_ (fun hHeld => ?_)
            · exact ⟨x0, x1⟩
            refine wpAnyH_take (i := 0) (oi := ({ dst := some 38, op := Op.move (Operand.tmp 0), type := 85, pos := "help.go:23", after := #[], guard := none } : Oper)) (v := ?va0) rfl (by kernel_rfl) (by kernel_rfl) (by kernel_rfl) (fun _ _ _ h => h) (Or.inl ⟨by rfl, fun w hSw => ?hya0⟩) (by assumption) ?ra0
            case hya0 => (try dsimp only at hSw); go_simp; (try with_reducible rfl)
            (try simp only [Act.put, List.setIfInBounds_toArray, List.set_cons_zero, List.set_cons_succ])
            refine wpAnyH_take (i := 1) (oi := ({ dst := some 39, op := Op.load 110 (Operand.tmp 7), type := 110, pos := "help.go:23", after := #[], guard := none } : Oper)) (v := ?va1) rfl (by kernel_rfl) (by kernel_rfl) (by kernel_rfl) (fun _ _ _ h => h) (Or.inl ⟨by rfl, fun w hSw => ?hya1⟩) (by assumption) ?ra1
            case hya1 => (try dsimp only at hSw); go_simp; (try with_reducible rfl)
            (try simp only [Act.put, List.setIfInBounds_toArray, List.set_cons_zero, List.set_cons_succ])
            refine wpAnyH_take (i := 4) (oi := ({ dst := some 42, op := Op.move (Operand.tmp 1), type := 104, pos := "help.go:23", after := #[], guard := none } : Oper)) (v := ?va4) rfl (by kernel_rfl) (by kernel_rfl) (by kernel_rfl) (fun _ _ _ h => h) (Or.inl ⟨by rfl, fun w hSw => ?hya4⟩) (by assumption) ?ra4
            case hya4 => (try dsimp only at hSw); go_simp; (try with_reducible rfl)
            (try simp only [Act.put, List.setIfInBounds_toArray, List.set_cons_zero, List.set_cons_succ])
            refine wpAnyH_take (i := 5) (oi := ({ dst := some 43, op := Op.load 110 (Operand.tmp 7), type := 110, pos := "help.go:23", after := #[], guard := none } : Oper)) (v := ?va5) rfl (by kernel_rfl) (by kernel_rfl) (by kernel_rfl) (fun _ _ _ h => h) (Or.inl ⟨by rfl, fun w hSw => ?hya5⟩) (by assumption) ?ra5
            case hya5 => (try dsimp only at hSw); go_simp; (try with_reducible rfl)
            (try simp only [Act.put, List.setIfInBounds_toArray, List.set_cons_zero, List.set_cons_succ])
            refine wpAnyH_ready (rs := [2]) (by kernel_rfl) (by simp) ?_
            refine AllReadyH.cons (o := ({ dst := some 40, op := Op.call { callee := Callee.value (Operand.func 120), args := #[Operand.tmp 38, Operand.tmp 39], argTypes := #[85, 110] }, type := 113, pos := "help.go:23", after := #[{ on := 0, ground := Ground.data }, { on := 1, ground := Ground.data }], guard := none } : Oper)) rfl (fun Kq hKq => ?_) AllReadyH.nil
            go_simp
            (have l7 := (HSC3.out.cl X7 rfl).1; refine (HTM.out _ base own s n HSC3.out.st).mono ?_; rintro e w4 ⟨rfl, hb4⟩; have HSC4 := Lib.hid (HSC3.out.new hb4); have HB4 := Lib.hid hb4)
            refine hKq.out _ _ ?_ (fun hHeld => ?_)
            · exact ⟨(hb4.cell (p := ⟨X7, 0, none⟩) l7).trans hHeld.1, (hb4.cell (p := ⟨X7, 1, none⟩) l7).trans hHeld.2⟩
            clear hKq Kq
            (try simp only [Act.put, List.setIfInBounds_toArray, List.set_cons_zero, List.set_cons_succ])
            refine wpAnyH_ready (rs := [3]) (by kernel_rfl) (by simp) ?_
            refine AllReadyH.cons (o := ({ dst := some 41, op := Op.call { callee := Callee.value (Operand.func 119), args := #[Operand.tmp 40], argTypes := #[113] }, type := 124, pos := "help.go:23", after := #[{ on := 2, ground := Ground.data }, { on := 2, ground := Ground.chain }], guard := none } : Oper)) rfl (fun Kq hKq => ?_) AllReadyH.nil
            go_simp
            (have l7 := (HSC4.out.cl X7 rfl).1; refine (otherT_any xa xf _).mono ?_; rintro e w5 ⟨rfl, hb5⟩; have HSC5 := Lib.hid (HSC4.out.new hb5); have HB5 := Lib.hid hb5)
            refine hKq.out _ _ ?_ (fun hHeld => ?_)
            · exact ⟨(hb5.cell (p := ⟨X7, 0, none⟩) l7).trans hHeld.1, (hb5.cell (p := ⟨X7, 1, none⟩) l7).trans hHeld.2⟩
            clear hKq Kq
            (try simp only [Act.put, List.setIfInBounds_toArray, List.set_cons_zero, List.set_cons_succ])
            refine wpAnyH_ready (rs := [6]) (by kernel_rfl) (by simp) ?_
            refine AllReadyH.cons (o := ({ dst := some 44, op := Op.call { callee := Callee.value (Operand.func 34), args := #[Operand.tmp 43], argTypes := #[110] }, type := 116, pos := "help.go:23", after := #[{ on := 5, ground := Ground.data }, { on := 3, ground := Ground.chain }], guard := none } : Oper)) rfl (fun Kq hKq => ?_) AllReadyH.nil
            go_simp
            (have l7 := (HSC5.out.cl X7 rfl).1; refine (otherP_any (kb : Int) (i : Int) _).mono ?_; rintro e w6 ⟨rfl, hb6⟩; have HSC6 := Lib.hid (HSC5.out.new hb6); have HB6 := Lib.hid hb6)
            refine hKq.out _ _ ?_ (fun hHeld => ?_)
            · exact ⟨(hb6.cell (p := ⟨X7, 0, none⟩) l7).trans hHeld.1, (hb6.cell (p := ⟨X7, 1, none⟩) l7).trans hHeld.2⟩
            clear hKq Kq
            (try simp only [Act.put, List.setIfInBounds_toArray, List.set_cons_zero, List.set_cons_succ])
            refine wpAnyH_ready (rs := [7]) (by kernel_rfl) (by simp) ?_
            refine AllReadyH.cons (o := ({ dst := some 45, op := Op.call { callee := Callee.value (Operand.func 121), args := #[Operand.tmp 42, Operand.tmp 44], argTypes := #[104, 116] }, type := 124, pos := "help.go:23", after := #[{ on := 4, ground := Ground.data }, { on := 6, ground := Ground.data }, { on := 6, ground := Ground.chain }], guard := none } : Oper)) rfl (fun Kq hKq => ?_) AllReadyH.nil
            go_simp
            (have l7 := (HSC6.out.cl X7 rfl).1; refine (HRTM.out _ baseR ownR _ HSC6.out.rt).mono ?_; rintro e w7 ⟨rfl, hb7⟩; have HSC7 := Lib.hid (HSC6.out.new hb7); have HB7 := Lib.hid hb7)
            refine hKq.out _ _ ?_ (fun hHeld => ?_)
            · exact ⟨(hb7.cell (p := ⟨X7, 0, none⟩) l7).trans hHeld.1, (hb7.cell (p := ⟨X7, 1, none⟩) l7).trans hHeld.2⟩
            clear hKq Kq
            (try simp only [Act.put, List.setIfInBounds_toArray, List.set_cons_zero, List.set_cons_succ])
            refine wpAnyH_take (i := 8) (oi := ({ dst := some 46, op := Op.binOp BinOp.neq 124 (Operand.tmp 41) (Operand.tmp 45) 124, type := 4, pos := "help.go:23", after := #[{ on := 3, ground := Ground.data }, { on := 7, ground := Ground.data }], guard := none } : Oper)) (v := ?va8) rfl (by kernel_rfl) (by kernel_rfl) (by kernel_rfl) (fun _ _ _ h => h) (Or.inl ⟨by rfl, fun w hSw => ?hya8⟩) (by assumption) ?ra8
            case hya8 => (try dsimp only at hSw); go_simp; (try with_reducible rfl)
            (try simp only [Act.put, List.setIfInBounds_toArray, List.set_cons_zero, List.set_cons_succ])
            refine wpAnyH_take (i := 9) (oi := ({ dst := some 47, op := Op.move (Operand.tmp 46), type := 4, pos := "help.go:23", after := #[{ on := 8, ground := Ground.data }, { on := 7, ground := Ground.chain }], guard := none } : Oper)) (v := ?va9) rfl (by kernel_rfl) (by kernel_rfl) (by kernel_rfl) (fun _ _ _ h => h) (Or.inl ⟨by rfl, fun w hSw => ?hya9⟩) (by assumption) ?ra9
            case hya9 => (try dsimp only at hSw); go_simp; (try with_reducible rfl)
            (try simp only [Act.put, List.setIfInBounds_toArray, List.set_cons_zero, List.set_cons_succ])
            refine wpAnyH_take (i := 10) (oi := ({ dst := some 48, op := Op.move (Operand.tmp 0), type := 85, pos := "help.go:23", after := #[{ on := 9, ground := Ground.guard }], guard := some (9, false) } : Oper)) (v := ?va10) rfl (by kernel_rfl) (by kernel_rfl) (by kernel_rfl) (fun _ _ _ h => h) (Or.inl ⟨by rfl, fun w hSw => ?hya10⟩) (by assumption) ?ra10
            case hya10 => (try dsimp only at hSw); go_simp; (try with_reducible rfl)
            (try simp only [Act.put, List.setIfInBounds_toArray, List.set_cons_zero, List.set_cons_succ])
            refine wpAnyH_take (i := 11) (oi := ({ dst := some 49, op := Op.load 110 (Operand.tmp 7), type := 110, pos := "help.go:23", after := #[{ on := 9, ground := Ground.guard }], guard := some (9, false) } : Oper)) (v := ?va11) rfl (by kernel_rfl) (by kernel_rfl) (by kernel_rfl) (fun _ _ _ h => h) (Or.inl ⟨by rfl, fun w hSw => ?hya11⟩) (by assumption) ?ra11
            case hya11 => (try dsimp only at hSw); go_simp; (try with_reducible rfl)
            (try simp only [Act.put, List.setIfInBounds_toArray, List.set_cons_zero, List.set_cons_succ])
            refine wpAnyH_take (i := 13) (oi := ({ dst := some 51, op := Op.move (Operand.tmp 1), type := 104, pos := "help.go:23", after := #[{ on := 9, ground := Ground.guard }], guard := some (9, false) } : Oper)) (v := ?va13) rfl (by kernel_rfl) (by kernel_rfl) (by kernel_rfl) (fun _ _ _ h => h) (Or.inl ⟨by rfl, fun w hSw => ?hya13⟩) (by assumption) ?ra13
            case hya13 => (try dsimp only at hSw); go_simp; (try with_reducible rfl)
            (try simp only [Act.put, List.setIfInBounds_toArray, List.set_cons_zero, List.set_cons_succ])
            refine wpAnyH_take (i := 14) (oi := ({ dst := some 52, op := Op.load 110 (Operand.tmp 7), type := 110, pos := "help.go:23", after := #[{ on := 9, ground := Ground.guard }], guard := some (9, false) } : Oper)) (v := ?va14) rfl (by kernel_rfl) (by kernel_rfl) (by kernel_rfl) (fun _ _ _ h => h) (Or.inl ⟨by rfl, fun w hSw => ?hya14⟩) (by assumption) ?ra14
            case hya14 => (try dsimp only at hSw); go_simp; (try with_reducible rfl)
            (try simp only [Act.put, List.setIfInBounds_toArray, List.set_cons_zero, List.set_cons_succ])
            refine wpAnyH_ready (rs := [12]) (by kernel_rfl) (by simp) ?_
            refine AllReadyH.cons (o := ({ dst := some 50, op := Op.call { callee := Callee.value (Operand.func 123), args := #[Operand.tmp 48, Operand.tmp 49], argTypes := #[85, 110] }, type := 111, pos := "help.go:23", after := #[{ on := 10, ground := Ground.data }, { on := 11, ground := Ground.data }, { on := 9, ground := Ground.chain }, { on := 9, ground := Ground.guard }], guard := some (9, false) } : Oper)) rfl (fun Kq hKq => ?_) AllReadyH.nil
            go_simp
            (have l7 := (HSC7.out.cl X7 rfl).1; refine (HQ.out _ base own s n HSC7.out.st).mono ?_; rintro e w8 ⟨A8, rfl, hr8, hb8⟩; have HR8 := Lib.hid hr8; clear hr8; have HSC8 := Lib.hid (HSC7.out.new hb8); have HB8 := Lib.hid hb8)
            refine hKq.out _ _ ?_ (fun hHeld => ?_)
            · exact ⟨(hb8.cell (p := ⟨X7, 0, none⟩) l7).trans hHeld.1, (hb8.cell (p := ⟨X7, 1, none⟩) l7).trans hHeld.2⟩
            clear hKq Kq
            (try simp only [Act.put, List.setIfInBounds_toArray, List.set_cons_zero, List.set_cons_succ])
            refine wpAnyH_ready (rs := [15]) (by kernel_rfl) (by simp) ?_
            refine AllReadyH.cons (o := ({ dst := some 53, op := Op.call { callee := Callee.value (Operand.func 34), args := #[Operand.tmp 52], argTypes := #[110] }, type := 116, pos := "help.go:23", after := #[{ on := 14, ground := Ground.data }, { on := 12, ground := Ground.chain }, { on := 9, ground := Ground.guard }], guard := some (9, false) } : Oper)) rfl (fun Kq hKq => ?_) AllReadyH.nil
            go_simp
            (have l7 := (HSC8.out.cl X7 rfl).1; refine (otherP_any (kb : Int) (i : Int) _).mono ?_; rintro e w9 ⟨rfl, hb9⟩; have HSC9 := Lib.hid (HSC8.out.new hb9); have HB9 := Lib.hid hb9)
            refine hKq.out _ _ ?_ (fun hHeld => ?_)
            · exact ⟨(hb9.cell (p := ⟨X7, 0, none⟩) l7).trans hHeld.1, (hb9.cell (p := ⟨X7, 1, none⟩) l7).trans hHeld.2⟩
            clear hKq Kq
            (try simp only [Act.put, List.setIfInBounds_toArray, List.set_cons_zero, List.set_cons_succ])
            refine wpAnyH_ready (rs := [16]) (by kernel_rfl) (by simp) ?_
            refine AllReadyH.cons (o := ({ dst := some 54, op := Op.call { callee := Callee.value (Operand.func 124), args := #[Operand.tmp 51, Operand.tmp 53], argTypes := #[104, 116] }, type := 120, pos := "help.go:23", after := #[{ on := 13, ground := Ground.data }, { on := 15, ground := Ground.data }, { on := 15, ground := Ground.chain }, { on := 9, ground := Ground.guard }], guard := some (9, false) } : Oper)) rfl (fun Kq hKq => ?_) AllReadyH.nil
            go_simp
            (have l7 := (HSC9.out.cl X7 rfl).1; refine (HRQ.out _ baseR ownR _ HSC9.out.rt).mono ?_; rintro e w10 ⟨A10, c10, rfl, hc10, hc109, hr10, hb10⟩; have HR10 := Lib.hid hr10; clear hr10; have HSC10 := Lib.hid (HSC9.out.new hb10); have HB10 := Lib.hid hb10)
            refine hKq.out _ _ ?_ (fun hHeld => ?_)
            · exact ⟨(hb10.cell (p := ⟨X7, 0, none⟩) l7).trans hHeld.1, (hb10.cell (p := ⟨X7, 1, none⟩) l7).trans hHeld.2⟩
            clear hKq Kq
            (try simp only [Act.put, List.setIfInBounds_toArray, List.set_cons_zero, List.set_cons_succ])
            refine wpAnyH_ready (rs := [17]) (by kernel_rfl) (by simp) ?_
            refine AllReadyH.cons (o := ({ dst := some 55, op := Op.call { callee := Callee.value (Operand.func 122), args := #[Operand.tmp 50, Operand.tmp 54], argTypes := #[111, 120] }, type := 4, pos := "help.go:23", after := #[{ on := 12, ground := Ground.data }, { on := 16, ground := Ground.data }, { on := 16, ground := Ground.chain }, { on := 9, ground := Ground.guard }], guard := some (9, false) } : Oper)) rfl (fun Kq hKq => ?_) AllReadyH.nil
            go_simp
            (have l7 := (HSC10.out.cl X7 rfl).1; have hq4 := (HR8.out.new HB9.out).new HB10.out; rw [HND.out] at hq4; have hsm := same_any D.length c10 hq4.rd ((HR10.out).more HB10.out.size) (Nat.le_refl _) (Nat.le_refl _) (by have := HD9.out; omega); rw [← HND.out] at hsm; refine hsm.mono ?_; rintro e w11 ⟨rfl, hb11⟩; have HSC11 := Lib.hid (HSC10.out.new hb11); have HB11 := Lib.hid hb11; clear hq4 hsm)
            refine hKq.out _ _ ?_ (fun hHeld => ?_)
            · exact ⟨(hb11.cell (p := ⟨X7, 0, none⟩) l7).trans hHeld.1, (hb11.cell (p := ⟨X7, 1, none⟩) l7).trans hHeld.2⟩
            clear hKq Kq
            (try simp only [Act.put, List.setIfInBounds_toArray, List.set_cons_zero, List.set_cons_succ])
            refine wpAnyH_take (i := 18) (oi := ({ dst := some 56, op := Op.unOp UnOp.not 4 (Operand.tmp 55), type := 4, pos := "help.go:23", after := #[{ on := 17, ground := Ground.data }, { on := 9, ground := Ground.guard }], guard := some (9, false) } : Oper)) (v := ?va18) rfl (by kernel_rfl) (by kernel_rfl) (by kernel_rfl) (fun _ _ _ h => h) (Or.inl ⟨by rfl, fun w hSw => ?hya18⟩) (by assumption) ?ra18
            case hya18 => (try dsimp only at hSw); go_simp; (try with_reducible rfl)
            (try simp only [Act.put, List.setIfInBounds_toArray, List.set_cons_zero, List.set_cons_succ])
            refine wpAnyH_take (i := 19) (oi := ({ dst := some 57, op := Op.pick (Operand.tmp 47) (Operand.const (Value.bool true)) (Operand.tmp 56), type := 4, pos := "help.go:23", after := #[{ on := 9, ground := Ground.data }, { on := 18, ground := Ground.data }], guard := none } : Oper)) (v := ?va19) rfl (by kernel_rfl) (by kernel_rfl) (by kernel_rfl) (fun _ _ _ h => h) (Or.inl ⟨by rfl, fun w hSw => ?hya19⟩) (by assumption) ?ra19
            case hya19 => (try dsimp only at hSw); go_simp; (try with_reducible rfl)
            (try simp only [Act.put, List.setIfInBounds_toArray, List.set_cons_zero, List.set_cons_succ])
            refine wpAnyH_done (by kernel_rfl) ?_ _
            have b4 := HB3.out.trans (HB4.out.mono HB3.out.size)
            have b5 := b4.trans (HB5.out.mono b4.size)
            have b6 := b5.trans (HB6.out.mono b5.size)
            have b7 := b6.trans (HB7.out.mono b6.size)
            have b8 := b7.trans (HB8.out.mono b7.size)
            have b9 := b8.trans (HB9.out.mono b8.size)
            have b10 := b9.trans (HB10.out.mono b9.size)
            have HB12 := Lib.hid (b10.trans (HB11.out.mono b10.size))
            clear b4 b5 b6 b7 b8 b9 b10 hne
            go_wp2_with fail
            go_roundg (m - (i + 1))
            case measure => omega
            case rel => exact ⟨i + 1, by omega, rfl, by go_num, HB12.out⟩
          · obtain rfl : i = m := by omega
            go_wp2_with (go_at_call 86; refine (HRHS.out _ HB2.out).mono ?_; rintro e w' ⟨rfl, rfl⟩)
            go_roundg (9 - (k + 1))
            case measure => omega
            case rel => exact ⟨k + 1, by omega, rfl, by have := HBK.out; rw [this]; go_num, HB2.out⟩
    · obtain rfl : k = 9 := by omega
      go_wp2_with fail
      go_ret
      exact ⟨rfl, HB.out⟩
end Go.Proofs.YtlflagjnlclffaaGreat.S10
namespace Go.Proofs.YtlflagjnlclffaaGreat.S12
open Go.Proofs.YtlflagjnlclffaaGreat Go.Proofs.YtlflagjnlclffaaGreat.S11
open Go.RowKit

section
variable {P : Program} {ops : Array Oper} {Q : Exit → Act → World → Prop} {md : Region.Mode} {S S' : World → Prop}
theorem wpAnyH_more (h : ∀ w, S' w → S w) : ∀ (fuel : Nat) (listed : Array Bool) (a : Act) (w : World), wpAnyH P md ops Q S' fuel listed a w → wpAnyH P md ops Q S fuel listed a w
  | 0, _, _, _, hq => hq
  | fuel + 1, _, _, _, hq => ⟨hq.1, fun i hi => wpOp_mono (fun a' w' h' => ⟨h w' h'.1, wpAnyH_more h fuel _ a' w' h'.2⟩) (hq.2 i hi)⟩
end
theorem Bg.both02 {w0 w : World} {base WB RB N cn tn : Nat} {M : Sd} {E : List Part} {X : Wm} {Y : Rm} (h : Bg w0 w base WB RB N cn tn M M E X Y) : S2.Both w 0 X.cB Y.rB X.L X.n X.k X.a X.was X.is := by
  have heq : X.sd = Y.sd := by rw [h.xm, h.ym]
  have e_L : X.L = Y.L := congrArg Sd.L heq
  have e_n : X.n = Y.n := congrArg Sd.n heq
  have e_k : X.k = Y.k := congrArg Sd.k heq
  have e_a : X.a = Y.a := congrArg Sd.a heq
  have e_was : X.was = Y.was := congrArg Sd.was heq
  have e_is : X.is = Y.is := congrArg Sd.is heq
  have hr := h.pr.rcells
  rw [← e_L, ← e_n, ← e_k, ← e_a, ← e_was, ← e_is] at hr
  have ap : ∀ k, (cellsP X.cB X.cM X.L X.n X.k X.a X.was X.is).fp k → ¬ (rcellsP Y.rb Y.rB Y.rs Y.L Y.n Y.k Y.a Y.was Y.is).fp k := h.pr.apart 0 7 _ _ rfl rfl (by decide)
  refine ⟨Nat.zero_le _, Nat.zero_le _, Nat.zero_le _, fun e => ap X.cB (.inl rfl) (.inl e.symm), h.byt, X.cM, Y.rs, h.pr.pw.cells, ⟨hr.good, hr.row, S2.row_base hr.own (Nat.zero_le _), hr.ne⟩, fun m hm => ⟨Nat.zero_le _, fun e => ap m (.inr hm) (.inl e), fun e => ap m (.inr hm) (.inr e)⟩, fun e => ap X.cB (.inl rfl) (.inr e)⟩
theorem Bg.se {w0 w : World} {base WB RB N cn tn : Nat} {M : Sd} {E : List Part} {X : Wm} {Y : Rm} (h : Bg w0 w base WB RB N cn tn M M E X Y) : S10.Se w X.tb Y.tb X.tO Y.tO X.ts Y.ts X.tn M.m M.m (fun _ => False) :=
  ⟨h.st, h.rt, h.pr.apart 4 9 _ _ rfl rfl (by decide), fun _ e => e.elim⟩
def Z64l : List Value := List.replicate 64 (.int .u64 0)
def Z64 : Array Value := Z64l.toArray
theorem under64 : Tryz.prog.underlying 87 = some (.array 64 22) := by kernel_rfl
theorem info64 : (Tryz.prog.info? 87).map (·.size) = some Z64l.length := by kernel_rfl
set_option maxRecDepth 100000 in
theorem neq64 (w : World) : (binOp .neq 87 (.agg Z64) (.agg Z64)).run Tryz.prog w = .ok (.bool false) w := by kernel_rfl
theorem z64_get (j : Nat) (hj : j < 64) : Z64l[j]? = some (.int .u64 0) := by
  unfold Z64l
  rw [List.getElem?_replicate, if_pos hj]
theorem zx7 : ∀ j, j < 64 → Tryz.zeroCells89[7 + j]? = some (.int .u64 0) := by
  intro j hj
  have e : Tryz.zeroCells89 = (#[.pointer none, .pointer none, .pointer none, .pointer none, .pointer none, .pointer none, .int .i64 0] ++ Z64 : Array Value) := by kernel_rfl
  rw [e, Array.getElem?_append_right (by simp)]
  show Z64[7 + j - 7]? = _
  rw [Nat.add_sub_cancel_left]
  unfold Z64
  rw [List.getElem?_toArray]
  exact z64_get j hj
theorem zy7 : ∀ j, j < 64 → Tryz.zeroCells107[7 + j]? = some (.int .u64 0) := by
  intro j hj
  have e : Tryz.zeroCells107 = (#[.pointer none, .pointer none, .pointer none, .pointer none, .pointer none, .pointer none, .int .i64 0] ++ Z64 : Array Value) := by kernel_rfl
  rw [e, Array.getElem?_append_right (by simp)]
  show Z64[7 + j - 7]? = _
  rw [Nat.add_sub_cancel_left]
  unfold Z64
  rw [List.getElem?_toArray]
  exact z64_get j hj
theorem px7 (a b c d e f : Value) (sp : Int) (j : Nat) (hj : j < 64) : (pcells a b c d e f sp)[7 + j]? = some (.int .u64 0) := by
  simp [pcells, Array.getElem?_setIfInBounds, zsize, zx7 j hj, show ¬ 0 = 7 + j by omega, show ¬ 1 = 7 + j by omega, show ¬ 2 = 7 + j by omega, show ¬ 3 = 7 + j by omega, show ¬ 4 = 7 + j by omega, show ¬ 5 = 7 + j by omega, show ¬ 6 = 7 + j by omega]
theorem py7 (a b c d e f : Value) (sp : Int) (j : Nat) (hj : j < 64) : (wcells a b c d e f sp)[7 + j]? = some (.int .u64 0) := by
  simp [wcells, Array.getElem?_setIfInBounds, rsize, zy7 j hj, show ¬ 0 = 7 + j by omega, show ¬ 1 = 7 + j by omega, show ¬ 2 = 7 + j by omega, show ¬ 3 = 7 + j by omega, show ¬ 4 = 7 + j by omega, show ¬ 5 = 7 + j by omega, show ¬ 6 = 7 + j by omega]
theorem Bg.tokX {w0 w : World} {base WB RB N cn tn : Nat} {M RM : Sd} {E : List Part} {X : Wm} {Y : Rm} (h : Bg w0 w base WB RB N cn tn M RM E X Y) : w.rangeAt WB 7 Z64l := fun j v hj => by
  have hl : j < 64 := by
    have := (List.getElem?_eq_some_iff.1 hj).1
    unfold Z64l at this
    rwa [List.length_replicate] at this
  have hv : v = .int .u64 0 := by rw [z64_get j hl] at hj; injection hj with hj; exact hj.symm
  rw [hv, ← h.wB]
  exact (cell_row h.pr.pw.own (7 + j)).trans (px7 _ _ _ _ _ _ _ j hl)
theorem Bg.tokY {w0 w : World} {base WB RB N cn tn : Nat} {M RM : Sd} {E : List Part} {X : Wm} {Y : Rm} (h : Bg w0 w base WB RB N cn tn M RM E X Y) : w.rangeAt RB 7 Z64l := fun j v hj => by
  have hl : j < 64 := by
    have := (List.getElem?_eq_some_iff.1 hj).1
    unfold Z64l at this
    rwa [List.length_replicate] at this
  have hv : v = .int .u64 0 := by rw [z64_get j hl] at hj; injection hj with hj; exact hj.symm
  rw [hv, ← h.rB]
  exact (cell_row h.pr.rown (7 + j)).trans (py7 _ _ _ _ _ _ _ j hl)
def SaF (w2 : World) (B0 WB RB cB kB nB rB rkB rnB nl nc T : Nat) (ts rts : Value) (nA : Option Addr) (w' : World) : Prop := Below w2.heap.size w2 w' ∧ w'.cell? ⟨B0, 0, none⟩ = some (Pw WB) ∧ w'.cell? ⟨B0, 1, none⟩ = some (Pw RB) ∧ w'.cell? ⟨WB, 0, none⟩ = some (Pw cB) ∧ w'.cell? ⟨WB, 1, none⟩ = some (Pw kB) ∧ w'.cell? ⟨WB, 4, none⟩ = some ts ∧ w'.cell? ⟨WB, 5, none⟩ = some (Pw nB) ∧ w'.cell? ⟨RB, 0, none⟩ = some (Pw rB) ∧ w'.cell? ⟨RB, 1, none⟩ = some (Pw rkB) ∧ w'.cell? ⟨RB, 4, none⟩ = some rts ∧ w'.cell? ⟨RB, 5, none⟩ = some (Pw rnB) ∧ w'.cell? ⟨rnB, 0, none⟩ = some (.slice nA nl nc) ∧ w'.cell? ⟨rkB, 0, none⟩ = some (.int .u64 (T : Int))
theorem SaF.new {w2 w' w'' : World} {B0 WB RB cB kB nB rB rkB rnB nl nc T : Nat} {ts rts : Value} {nA : Option Addr} (h : SaF w2 B0 WB RB cB kB nB rB rkB rnB nl nc T ts rts nA w') (hb : Below w'.heap.size w' w'') : SaF w2 B0 WB RB cB kB nB rB rkB rnB nl nc T ts rts nA w'' := by
  obtain ⟨hb0, c0, c1, c2, c3, c4, c5, c6, c7, c8, c9, c10, c11⟩ := h
  exact ⟨hb0.trans (hb.mono hb0.size), bcell hb c0, bcell hb c1, bcell hb c2, bcell hb c3, bcell hb c4, bcell hb c5, bcell hb c6, bcell hb c7, bcell hb c8, bcell hb c9, bcell hb c10, bcell hb c11⟩
def SbF (w2 : World) (B0 WB RB pB rpB Bx : Nat) (xa : Bool) (w' : World) : Prop := Below w2.heap.size w2 w' ∧ w'.cell? ⟨B0, 0, none⟩ = some (Pw WB) ∧ w'.cell? ⟨B0, 1, none⟩ = some (Pw RB) ∧ w'.cell? ⟨WB, 2, none⟩ = some (Pw pB) ∧ w'.cell? ⟨RB, 2, none⟩ = some (Pw rpB) ∧ w'.cell? ⟨Bx, 1, none⟩ = some (.bool xa)
theorem SbF.new {w2 w' w'' : World} {B0 WB RB pB rpB Bx : Nat} {xa : Bool} (h : SbF w2 B0 WB RB pB rpB Bx xa w') (hb : Below w'.heap.size w' w'') : SbF w2 B0 WB RB pB rpB Bx xa w'' := by
  obtain ⟨hb0, c0, c1, c2, c3, c4⟩ := h
  exact ⟨hb0.trans (hb.mono hb0.size), bcell hb c0, bcell hb c1, bcell hb c2, bcell hb c3, bcell hb c4⟩
set_option maxRecDepth 100000 in
set_option maxHeartbeats 8000000 in
theorem pair_all {w0 w : World} {base WB RB N cn tn : Nat} {M : Sd} {E : List Part} {X : Wm} {Y : Rm} (h : Bg w0 w base WB RB N cn tn M M E X Y) (hc : cn ≤ 2100000) (hN : N ≤ 100000) :
    Calls Tryz.prog 16 #[.agg #[Pw WB, Pw RB]] w fun e w' => e = .returned (.bool true) ∧ Below w.heap.size w w' := by
  have hb1 : Below w.heap.size w (w.alloc (.cells #[Pw WB, Pw RB] 36)) := (Below.refl _ _).alloc (Nat.le_refl _) _
  have hq0 := heap_alloc_new w (.cells #[Pw WB, Pw RB] 36)
  have h2 := h.new hb1
  obtain ⟨B0, hB0⟩ : ∃ B0, B0 = w.heap.size := ⟨_, rfl⟩
  rw [← hB0] at hq0
  have HB1 := Lib.hid hb1
  have HB0 := Lib.hid hB0
  clear hb1 h hB0
  go_enter Tryz.func16, Tryz.ntmps16
  go_upto_region 1 with (fail)
  rw [← HB0.out]
  generalize w.alloc (.cells #[Pw WB, Pw RB] 36) = w2 at *
  have b0 := cell_row hq0 0; have b1 := cell_row hq0 1
  simp only [List.getElem?_toArray, List.getElem?_cons_zero, List.getElem?_cons_succ] at b0 b1
  obtain ⟨nA, nc, hns, _⟩ := h2.pr.rnotes.own.shape
  have heq : X.sd = Y.sd := by rw [h2.xm, h2.ym]
  have e_T : X.T = Y.T := congrArg Sd.T heq
  have e_nD : X.nD = Y.nD := congrArg Sd.nD heq
  have e_pf : X.pf = Y.pf := congrArg Sd.pf heq
  have e_lk : X.lk = Y.lk := congrArg Sd.lk heq
  have hsm := fun (W : World) (q : Below w2.heap.size w2 W) => pair_same (h2.new q) (by omega)
  have hs2 := fun (W : World) (q : Below w2.heap.size w2 W) => S2.same_any W 0 X.cB Y.rB X.L X.n X.k X.a X.was X.is (h2.new q).both02
  have hal := fun (W : World) (q : Below w2.heap.size w2 W) => S11.all_any (h2.new q).pr.pw.notes (by have := h2.nD; omega)
  have hnl : Y.nD.length ≤ 2100000 := by rw [← e_nD]; have := h2.nD; omega
  have hnw := fun (W : World) (q : Below w2.heap.size w2 W) => S3.now_any (h2.new q).pr.pw.clock
  have hts := fun (W : World) (q : Below w2.heap.size w2 W) => S10.same_sets (h2.new q).se h2.gd hN
  have hnr : ∀ W, Below w2.heap.size w2 W → Rd W W.heap.size nA (flat .i64 X.nD) := fun W q => by
    have hr := (h2.new q).pr.rnotes.own
    rw [hns] at hr
    rw [e_nD]
    exact hr.rd
  have f2 := h2.pr.pw.c0; have f3 := h2.pr.pw.c1; have f4 := h2.pr.pw.c4; have f5 := h2.pr.pw.c5
  have f6 := h2.pr.r0; have f7 := h2.pr.r1; have f8 := h2.pr.r4; have f9 := h2.pr.r5
  have f10 := h2.pr.rnotes.cell
  have f11 := cell_row h2.pr.rclock.row 0
  simp only [List.getElem?_toArray, List.getElem?_cons_zero, List.getElem?_cons_succ] at f11
  rw [hns, ← e_nD] at f10
  rw [← e_T] at f11
  rw [h2.wB] at f2 f3 f4 f5
  rw [h2.rB] at f6 f7 f8 f9
  have hns2 : ∀ W A9 b9, Below w2.heap.size w2 W → ∀ _ : Unit, ∀ _ : Unit, Row W b9 7 (.slice A9 X.nD.length X.nD.length) X.nD.length (flat .u8 X.nD) → Calls Tryz.prog 63 #[.slice A9 X.nD.length X.nD.length, .slice nA X.nD.length nc] W fun e w' => e = .returned (.bool true) ∧ Below W.heap.size W w' := fun W A9 b9 q _ _ hr =>
    S11.same_any _ nc hr.rd (hnr W q) (Nat.le_refl _) (Nat.le_refl _) (by have := h2.nD; omega) h2.nk
  have H2 := Lib.hid h2
  obtain ⟨D, hD⟩ : ∃ D, D = X.nD := ⟨_, rfl⟩
  rw [← hD] at f10 hns2 hal
  obtain ⟨nl, hnl2⟩ : ∃ x, x = D.length := ⟨_, rfl⟩
  have hal2 : ∀ W, Below w2.heap.size w2 W → Calls Tryz.prog 64 #[Pw X.nB] W fun e w' => ∃ A, e = .returned (.slice A nl nl) ∧ Row w' W.heap.size 7 (.slice A nl nl) nl (flat .u8 D) ∧ Below W.heap.size W w' := fun W q => by rw [hnl2]; exact hal W q
  rw [← hnl2] at f10 hns2
  have HTX := Lib.hid (fun (W : World) (q : Below w2.heap.size w2 W) => (h2.new q).tokX)
  have HTY := Lib.hid (fun (W : World) (q : Below w2.heap.size w2 W) => (h2.new q).tokY)
  have HSM := Lib.hid hsm; have HS2 := Lib.hid hs2; have HAL := Lib.hid hal2; have HNS := Lib.hid hns2; have HTS := Lib.hid hts; have HNW := Lib.hid hnw
  have HE := Lib.hid (And.intro e_pf e_lk)
  clear hsm hs2 hal hal2 hns2 hts hnw hnr hnl hnl2 hD e_T e_nD e_pf e_lk heq hc hN
  obtain ⟨kB, hkB⟩ : ∃ x, x = X.kB := ⟨_, rfl⟩
  obtain ⟨cB, hcB⟩ : ∃ x, x = X.cB := ⟨_, rfl⟩
  obtain ⟨nB, hnB⟩ : ∃ x, x = X.nB := ⟨_, rfl⟩
  obtain ⟨ts, hts⟩ : ∃ x, x = X.ts := ⟨_, rfl⟩
  obtain ⟨rts, hrts⟩ : ∃ x, x = Y.ts := ⟨_, rfl⟩
  obtain ⟨rB, hrB⟩ : ∃ x, x = Y.rB := ⟨_, rfl⟩
  obtain ⟨rkB, hrkB⟩ : ∃ x, x = Y.kB := ⟨_, rfl⟩
  obtain ⟨rnB, hrnB⟩ : ∃ x, x = Y.nB := ⟨_, rfl⟩
  obtain ⟨T, hT⟩ : ∃ x, x = X.T := ⟨_, rfl⟩
  rw [← hcB, ← hrB] at HS2; rw [← hnB] at HAL; rw [← hts, ← hrts] at HTS; rw [← hkB, ← hT] at HNW
  rw [← hcB] at f2; rw [← hkB] at f3; rw [← hts] at f4; rw [← hnB] at f5; rw [← hrB] at f6; rw [← hrkB] at f7 f11; rw [← hrts] at f8; rw [← hrnB] at f9 f10; rw [← hT] at f11
  have hev := fun W => neq64 W
  have HF : Hid (w2.drew.cell? ⟨B0, 0, none⟩ = some (Pw WB) ∧ w2.drew.cell? ⟨B0, 1, none⟩ = some (Pw RB) ∧ w2.drew.cell? ⟨WB, 0, none⟩ = some (Pw cB) ∧ w2.drew.cell? ⟨WB, 1, none⟩ = some (Pw kB) ∧ w2.drew.cell? ⟨WB, 4, none⟩ = some ts ∧ w2.drew.cell? ⟨WB, 5, none⟩ = some (Pw nB) ∧ w2.drew.cell? ⟨RB, 0, none⟩ = some (Pw rB) ∧ w2.drew.cell? ⟨RB, 1, none⟩ = some (Pw rkB) ∧ w2.drew.cell? ⟨RB, 4, none⟩ = some rts ∧ w2.drew.cell? ⟨RB, 5, none⟩ = some (Pw rnB) ∧ w2.drew.cell? ⟨rnB, 0, none⟩ = some (.slice nA nl nc) ∧ w2.drew.cell? ⟨rkB, 0, none⟩ = some (.int .u64 (T : Int))) := Lib.hid ⟨b0, b1, f2, f3, f4, f5, f6, f7, f8, f9, f10, f11⟩
  have HQ0 := Lib.hid hq0
  clear b0 b1 f2 f3 f4 f5 f6 f7 f8 f9 f10 f11 hkB hcB hnB hts hrts hrB hrkB hrnB hT hns h2 hq0
  (try simp only [List.append_eq, List.cons_append, List.nil_append])
  refine wp_region_held_drew (S := fun w' => Below w2.heap.size w2 w' ∧ w'.cell? ⟨B0, 0, none⟩ = some (Pw WB) ∧ w'.cell? ⟨B0, 1, none⟩ = some (Pw RB) ∧ w'.cell? ⟨WB, 0, none⟩ = some (Pw cB) ∧ w'.cell? ⟨WB, 1, none⟩ = some (Pw kB) ∧ w'.cell? ⟨WB, 4, none⟩ = some ts ∧ w'.cell? ⟨WB, 5, none⟩ = some (Pw nB) ∧ w'.cell? ⟨RB, 0, none⟩ = some (Pw rB) ∧ w'.cell? ⟨RB, 1, none⟩ = some (Pw rkB) ∧ w'.cell? ⟨RB, 4, none⟩ = some rts ∧ w'.cell? ⟨RB, 5, none⟩ = some (Pw rnB) ∧ w'.cell? ⟨rnB, 0, none⟩ = some (.slice nA nl nc) ∧ w'.cell? ⟨rkB, 0, none⟩ = some (.int .u64 (T : Int))) (by kernel_rfl) ?_ (fun hHeld => ?_)
  · exact ⟨(Below.refl _ _).drew, HF.out⟩
  refine wpAnyH_take (i := 0) (oi := ({ dst := some 10, op := Op.load 36 (Operand.tmp 1), type := 36, pos := "help.go:113", after := #[], guard := none } : Oper)) (v := ?vam1) rfl (by kernel_rfl) (by kernel_rfl) (by kernel_rfl) (fun _ _ _ h => h) (Or.inl ⟨by rfl, fun w hSw => ?hyam1⟩) (by assumption) ?ram1
  case hyam1 => (try dsimp only at hSw); go_simp; (try with_reducible rfl)
  (try simp only [Act.put, List.setIfInBounds_toArray, List.set_cons_zero, List.set_cons_succ])
  refine wpAnyH_ready (rs := [1]) (by kernel_rfl) (by simp) ?_
  refine AllReadyH.cons (o := ({ dst := some 11, op := Op.call { callee := Callee.value (Operand.func 15), args := #[Operand.tmp 10], argTypes := #[36] }, type := 4, pos := "help.go:113", after := #[{ on := 0, ground := Ground.data }], guard := none } : Oper)) rfl (fun Kq hKq => ?_) AllReadyH.nil
  go_simp
  (refine (HSM.out _ hHeld.1).mono ?_; rintro e w3 ⟨rfl, hb⟩)
  refine hKq.out _ _ ?_ (fun hHeld => ?_)
  · exact SaF.new hHeld hb
  clear hKq Kq
  (try simp only [Act.put, List.setIfInBounds_toArray, List.set_cons_zero, List.set_cons_succ])
  refine wpAnyH_take (i := 2) (oi := ({ dst := some 12, op := Op.unOp UnOp.not 4 (Operand.tmp 11), type := 4, pos := "help.go:113", after := #[{ on := 1, ground := Ground.data }], guard := none } : Oper)) (v := ?vam2) rfl (by kernel_rfl) (by kernel_rfl) (by kernel_rfl) (fun _ _ _ h => h) (Or.inl ⟨by rfl, fun w hSw => ?hyam2⟩) (by assumption) ?ram2
  case hyam2 => (try dsimp only at hSw); go_simp; (try with_reducible rfl)
  (try simp only [Act.put, List.setIfInBounds_toArray, List.set_cons_zero, List.set_cons_succ])
  refine wpAnyH_take (i := 3) (oi := ({ dst := some 13, op := Op.move (Operand.tmp 12), type := 4, pos := "help.go:113", after := #[{ on := 2, ground := Ground.data }, { on := 1, ground := Ground.chain }], guard := none } : Oper)) (v := ?vam3) rfl (by kernel_rfl) (by kernel_rfl) (by kernel_rfl) (fun _ _ _ h => h) (Or.inl ⟨by rfl, fun w hSw => ?hyam3⟩) (by assumption) ?ram3
  case hyam3 => (try dsimp only at hSw); go_simp; (try with_reducible rfl)
  (try simp only [Act.put, List.setIfInBounds_toArray, List.set_cons_zero, List.set_cons_succ])
  refine wpAnyH_take (i := 4) (oi := ({ dst := some 14, op := Op.fieldAddr 36 (Operand.tmp 1) 0, type := 0, pos := "help.go:113", after := #[{ on := 3, ground := Ground.guard }], guard := some (3, false) } : Oper)) (v := ?vam4) rfl (by kernel_rfl) (by kernel_rfl) (by kernel_rfl) (fun _ _ _ h => h) (Or.inl ⟨by rfl, fun w hSw => ?hyam4⟩) (by assumption) ?ram4
  case hyam4 => (try dsimp only at hSw); go_simp; (try with_reducible rfl)
  (try simp only [Act.put, List.setIfInBounds_toArray, List.set_cons_zero, List.set_cons_succ])
  refine wpAnyH_take (i := 5) (oi := ({ dst := some 15, op := Op.load 33 (Operand.tmp 14), type := 33, pos := "help.go:113", after := #[{ on := 4, ground := Ground.data }, { on := 3, ground := Ground.guard }], guard := some (3, false) } : Oper)) (v := ?vam5) rfl (by kernel_rfl) (by kernel_rfl) (by kernel_rfl) (fun _ _ _ h => h) (Or.inl ⟨by rfl, fun w hSw => ?hyam5⟩) (by assumption) ?ram5
  case hyam5 => (try dsimp only at hSw); go_simp; (try with_reducible rfl)
  (try simp only [Act.put, List.setIfInBounds_toArray, List.set_cons_zero, List.set_cons_succ])
  refine wpAnyH_take (i := 6) (oi := ({ dst := some 16, op := Op.nilCheck (Operand.tmp 15), type := 0, pos := "help.go:113", after := #[{ on := 5, ground := Ground.data }, { on := 3, ground := Ground.guard }], guard := some (3, false) } : Oper)) (v := ?vam6) rfl (by kernel_rfl) (by kernel_rfl) (by kernel_rfl) (fun _ _ _ h => h) (Or.inl ⟨by rfl, fun w hSw => ?hyam6⟩) (by assumption) ?ram6
  case hyam6 => (try dsimp only at hSw); go_simp; (try with_reducible rfl)
  (try simp only [Act.put, List.setIfInBounds_toArray, List.set_cons_zero, List.set_cons_succ])
  refine wpAnyH_take (i := 7) (oi := ({ dst := some 17, op := Op.fieldAddr 89 (Operand.tmp 16) 0, type := 0, pos := "help.go:113", after := #[{ on := 6, ground := Ground.data }, { on := 3, ground := Ground.guard }], guard := some (3, false) } : Oper)) (v := ?vam7) rfl (by kernel_rfl) (by kernel_rfl) (by kernel_rfl) (fun _ _ _ h => h) (Or.inl ⟨by rfl, fun w hSw => ?hyam7⟩) (by assumption) ?ram7
  case hyam7 => (try dsimp only at hSw); go_simp; (try with_reducible rfl)
  (try simp only [Act.put, List.setIfInBounds_toArray, List.set_cons_zero, List.set_cons_succ])
  refine wpAnyH_take (i := 8) (oi := ({ dst := some 18, op := Op.load 81 (Operand.tmp 17), type := 81, pos := "help.go:113", after := #[{ on := 7, ground := Ground.data }, { on := 3, ground := Ground.guard }], guard := some (3, false) } : Oper)) (v := ?vam8) rfl (by kernel_rfl) (by kernel_rfl) (by kernel_rfl) (fun _ _ _ h => h) (Or.inl ⟨by rfl, fun w hSw => ?hyam8⟩) (by assumption) ?ram8
  case hyam8 => (try dsimp only at hSw); go_simp; (try with_reducible rfl)
  (try simp only [Act.put, List.setIfInBounds_toArray, List.set_cons_zero, List.set_cons_succ])
  refine wpAnyH_take (i := 9) (oi := ({ dst := some 19, op := Op.fieldAddr 36 (Operand.tmp 1) 1, type := 0, pos := "help.go:113", after := #[{ on := 3, ground := Ground.guard }], guard := some (3, false) } : Oper)) (v := ?vam9) rfl (by kernel_rfl) (by kernel_rfl) (by kernel_rfl) (fun _ _ _ h => h) (Or.inl ⟨by rfl, fun w hSw => ?hyam9⟩) (by assumption) ?ram9
  case hyam9 => (try dsimp only at hSw); go_simp; (try with_reducible rfl)
  (try simp only [Act.put, List.setIfInBounds_toArray, List.set_cons_zero, List.set_cons_succ])
  refine wpAnyH_take (i := 10) (oi := ({ dst := some 20, op := Op.load 34 (Operand.tmp 19), type := 34, pos := "help.go:113", after := #[{ on := 9, ground := Ground.data }, { on := 3, ground := Ground.guard }], guard := some (3, false) } : Oper)) (v := ?vam10) rfl (by kernel_rfl) (by kernel_rfl) (by kernel_rfl) (fun _ _ _ h => h) (Or.inl ⟨by rfl, fun w hSw => ?hyam10⟩) (by assumption) ?ram10
  case hyam10 => (try dsimp only at hSw); go_simp; (try with_reducible rfl)
  (try simp only [Act.put, List.setIfInBounds_toArray, List.set_cons_zero, List.set_cons_succ])
  refine wpAnyH_take (i := 11) (oi := ({ dst := some 21, op := Op.nilCheck (Operand.tmp 20), type := 0, pos := "help.go:113", after := #[{ on := 10, ground := Ground.data }, { on := 3, ground := Ground.guard }], guard := some (3, false) } : Oper)) (v := ?vam11) rfl (by kernel_rfl) (by kernel_rfl) (by kernel_rfl) (fun _ _ _ h => h) (Or.inl ⟨by rfl, fun w hSw => ?hyam11⟩) (by assumption) ?ram11
  case hyam11 => (try dsimp only at hSw); go_simp; (try with_reducible rfl)
  (try simp only [Act.put, List.setIfInBounds_toArray, List.set_cons_zero, List.set_cons_succ])
  refine wpAnyH_take (i := 12) (oi := ({ dst := some 22, op := Op.fieldAddr 107 (Operand.tmp 21) 0, type := 0, pos := "help.go:113", after := #[{ on := 11, ground := Ground.data }, { on := 3, ground := Ground.guard }], guard := some (3, false) } : Oper)) (v := ?vam12) rfl (by kernel_rfl) (by kernel_rfl) (by kernel_rfl) (fun _ _ _ h => h) (Or.inl ⟨by rfl, fun w hSw => ?hyam12⟩) (by assumption) ?ram12
  case hyam12 => (try dsimp only at hSw); go_simp; (try with_reducible rfl)
  (try simp only [Act.put, List.setIfInBounds_toArray, List.set_cons_zero, List.set_cons_succ])
  refine wpAnyH_take (i := 13) (oi := ({ dst := some 23, op := Op.load 100 (Operand.tmp 22), type := 100, pos := "help.go:113", after := #[{ on := 12, ground := Ground.data }, { on := 3, ground := Ground.guard }], guard := some (3, false) } : Oper)) (v := ?vam13) rfl (by kernel_rfl) (by kernel_rfl) (by kernel_rfl) (fun _ _ _ h => h) (Or.inl ⟨by rfl, fun w hSw => ?hyam13⟩) (by assumption) ?ram13
  case hyam13 => (try dsimp only at hSw); go_simp; (try with_reducible rfl)
  (try simp only [Act.put, List.setIfInBounds_toArray, List.set_cons_zero, List.set_cons_succ])
  refine wpAnyH_ready (rs := [14]) (by kernel_rfl) (by simp) ?_
  refine AllReadyH.cons (o := ({ dst := some 24, op := Op.call { callee := Callee.value (Operand.func 62), args := #[Operand.tmp 18, Operand.tmp 23], argTypes := #[81, 100] }, type := 4, pos := "help.go:113", after := #[{ on := 8, ground := Ground.data }, { on := 13, ground := Ground.data }, { on := 3, ground := Ground.chain }, { on := 3, ground := Ground.guard }], guard := some (3, false) } : Oper)) rfl (fun Kq hKq => ?_) AllReadyH.nil
  go_simp
  (refine (HS2.out _ hHeld.1).mono ?_; rintro e w3 ⟨rfl, hb⟩)
  refine hKq.out _ _ ?_ (fun hHeld => ?_)
  · exact SaF.new hHeld hb
  clear hKq Kq
  (try simp only [Act.put, List.setIfInBounds_toArray, List.set_cons_zero, List.set_cons_succ])
  refine wpAnyH_take (i := 15) (oi := ({ dst := some 25, op := Op.unOp UnOp.not 4 (Operand.tmp 24), type := 4, pos := "help.go:113", after := #[{ on := 14, ground := Ground.data }, { on := 3, ground := Ground.guard }], guard := some (3, false) } : Oper)) (v := ?vam14) rfl (by kernel_rfl) (by kernel_rfl) (by kernel_rfl) (fun _ _ _ h => h) (Or.inl ⟨by rfl, fun w hSw => ?hyam14⟩) (by assumption) ?ram14
  case hyam14 => (try dsimp only at hSw); go_simp; (try with_reducible rfl)
  (try simp only [Act.put, List.setIfInBounds_toArray, List.set_cons_zero, List.set_cons_succ])
  refine wpAnyH_take (i := 16) (oi := ({ dst := some 26, op := Op.pick (Operand.tmp 13) (Operand.const (Value.bool true)) (Operand.tmp 25), type := 4, pos := "help.go:113", after := #[{ on := 3, ground := Ground.data }, { on := 15, ground := Ground.data }], guard := none } : Oper)) (v := ?vam15) rfl (by kernel_rfl) (by kernel_rfl) (by kernel_rfl) (fun _ _ _ h => h) (Or.inl ⟨by rfl, fun w hSw => ?hyam15⟩) (by assumption) ?ram15
  case hyam15 => (try dsimp only at hSw); go_simp; (try with_reducible rfl)
  (try simp only [Act.put, List.setIfInBounds_toArray, List.set_cons_zero, List.set_cons_succ])
  refine wpAnyH_take (i := 17) (oi := ({ dst := some 27, op := Op.move (Operand.tmp 26), type := 4, pos := "help.go:113", after := #[{ on := 16, ground := Ground.data }, { on := 14, ground := Ground.chain }], guard := none } : Oper)) (v := ?vam16) rfl (by kernel_rfl) (by kernel_rfl) (by kernel_rfl) (fun _ _ _ h => h) (Or.inl ⟨by rfl, fun w hSw => ?hyam16⟩) (by assumption) ?ram16
  case hyam16 => (try dsimp only at hSw); go_simp; (try with_reducible rfl)
  (try simp only [Act.put, List.setIfInBounds_toArray, List.set_cons_zero, List.set_cons_succ])
  refine wpAnyH_take (i := 18) (oi := ({ dst := some 28, op := Op.fieldAddr 36 (Operand.tmp 1) 0, type := 0, pos := "help.go:113", after := #[{ on := 17, ground := Ground.guard }], guard := some (17, false) } : Oper)) (v := ?vam17) rfl (by kernel_rfl) (by kernel_rfl) (by kernel_rfl) (fun _ _ _ h => h) (Or.inl ⟨by rfl, fun w hSw => ?hyam17⟩) (by assumption) ?ram17
  case hyam17 => (try dsimp only at hSw); go_simp; (try with_reducible rfl)
  (try simp only [Act.put, List.setIfInBounds_toArray, List.set_cons_zero, List.set_cons_succ])
  refine wpAnyH_take (i := 19) (oi := ({ dst := some 29, op := Op.load 33 (Operand.tmp 28), type := 33, pos := "help.go:113", after := #[{ on := 18, ground := Ground.data }, { on := 17, ground := Ground.guard }], guard := some (17, false) } : Oper)) (v := ?vam18) rfl (by kernel_rfl) (by kernel_rfl) (by kernel_rfl) (fun _ _ _ h => h) (Or.inl ⟨by rfl, fun w hSw => ?hyam18⟩) (by assumption) ?ram18
  case hyam18 => (try dsimp only at hSw); go_simp; (try with_reducible rfl)
  (try simp only [Act.put, List.setIfInBounds_toArray, List.set_cons_zero, List.set_cons_succ])
  refine wpAnyH_take (i := 20) (oi := ({ dst := some 30, op := Op.nilCheck (Operand.tmp 29), type := 0, pos := "help.go:113", after := #[{ on := 19, ground := Ground.data }, { on := 17, ground := Ground.guard }], guard := some (17, false) } : Oper)) (v := ?vam19) rfl (by kernel_rfl) (by kernel_rfl) (by kernel_rfl) (fun _ _ _ h => h) (Or.inl ⟨by rfl, fun w hSw => ?hyam19⟩) (by assumption) ?ram19
  case hyam19 => (try dsimp only at hSw); go_simp; (try with_reducible rfl)
  (try simp only [Act.put, List.setIfInBounds_toArray, List.set_cons_zero, List.set_cons_succ])
  refine wpAnyH_take (i := 21) (oi := ({ dst := some 31, op := Op.fieldAddr 89 (Operand.tmp 30) 5, type := 0, pos := "help.go:113", after := #[{ on := 20, ground := Ground.data }, { on := 17, ground := Ground.guard }], guard := some (17, false) } : Oper)) (v := ?vam20) rfl (by kernel_rfl) (by kernel_rfl) (by kernel_rfl) (fun _ _ _ h => h) (Or.inl ⟨by rfl, fun w hSw => ?hyam20⟩) (by assumption) ?ram20
  case hyam20 => (try dsimp only at hSw); go_simp; (try with_reducible rfl)
  (try simp only [Act.put, List.setIfInBounds_toArray, List.set_cons_zero, List.set_cons_succ])
  refine wpAnyH_take (i := 22) (oi := ({ dst := some 32, op := Op.load 86 (Operand.tmp 31), type := 86, pos := "help.go:113", after := #[{ on := 21, ground := Ground.data }, { on := 17, ground := Ground.guard }], guard := some (17, false) } : Oper)) (v := ?vam21) rfl (by kernel_rfl) (by kernel_rfl) (by kernel_rfl) (fun _ _ _ h => h) (Or.inl ⟨by rfl, fun w hSw => ?hyam21⟩) (by assumption) ?ram21
  case hyam21 => (try dsimp only at hSw); go_simp; (try with_reducible rfl)
  (try simp only [Act.put, List.setIfInBounds_toArray, List.set_cons_zero, List.set_cons_succ])
  refine wpAnyH_take (i := 24) (oi := ({ dst := some 34, op := Op.fieldAddr 36 (Operand.tmp 1) 1, type := 0, pos := "help.go:113", after := #[{ on := 17, ground := Ground.guard }], guard := some (17, false) } : Oper)) (v := ?vam22) rfl (by kernel_rfl) (by kernel_rfl) (by kernel_rfl) (fun _ _ _ h => h) (Or.inl ⟨by rfl, fun w hSw => ?hyam22⟩) (by assumption) ?ram22
  case hyam22 => (try dsimp only at hSw); go_simp; (try with_reducible rfl)
  (try simp only [Act.put, List.setIfInBounds_toArray, List.set_cons_zero, List.set_cons_succ])
  refine wpAnyH_take (i := 25) (oi := ({ dst := some 35, op := Op.load 34 (Operand.tmp 34), type := 34, pos := "help.go:113", after := #[{ on := 24, ground := Ground.data }, { on := 17, ground := Ground.guard }], guard := some (17, false) } : Oper)) (v := ?vam23) rfl (by kernel_rfl) (by kernel_rfl) (by kernel_rfl) (fun _ _ _ h => h) (Or.inl ⟨by rfl, fun w hSw => ?hyam23⟩) (by assumption) ?ram23
  case hyam23 => (try dsimp only at hSw); go_simp; (try with_reducible rfl)
  (try simp only [Act.put, List.setIfInBounds_toArray, List.set_cons_zero, List.set_cons_succ])
  refine wpAnyH_take (i := 26) (oi := ({ dst := some 36, op := Op.nilCheck (Operand.tmp 35), type := 0, pos := "help.go:113", after := #[{ on := 25, ground := Ground.data }, { on := 17, ground := Ground.guard }], guard := some (17, false) } : Oper)) (v := ?vam24) rfl (by kernel_rfl) (by kernel_rfl) (by kernel_rfl) (fun _ _ _ h => h) (Or.inl ⟨by rfl, fun w hSw => ?hyam24⟩) (by assumption) ?ram24
  case hyam24 => (try dsimp only at hSw); go_simp; (try with_reducible rfl)
  (try simp only [Act.put, List.setIfInBounds_toArray, List.set_cons_zero, List.set_cons_succ])
  refine wpAnyH_take (i := 27) (oi := ({ dst := some 37, op := Op.fieldAddr 107 (Operand.tmp 36) 5, type := 0, pos := "help.go:113", after := #[{ on := 26, ground := Ground.data }, { on := 17, ground := Ground.guard }], guard := some (17, false) } : Oper)) (v := ?vam25) rfl (by kernel_rfl) (by kernel_rfl) (by kernel_rfl) (fun _ _ _ h => h) (Or.inl ⟨by rfl, fun w hSw => ?hyam25⟩) (by assumption) ?ram25
  case hyam25 => (try dsimp only at hSw); go_simp; (try with_reducible rfl)
  (try simp only [Act.put, List.setIfInBounds_toArray, List.set_cons_zero, List.set_cons_succ])
  refine wpAnyH_take (i := 28) (oi := ({ dst := some 38, op := Op.load 105 (Operand.tmp 37), type := 105, pos := "help.go:113", after := #[{ on := 27, ground := Ground.data }, { on := 17, ground := Ground.guard }], guard := some (17, false) } : Oper)) (v := ?vam26) rfl (by kernel_rfl) (by kernel_rfl) (by kernel_rfl) (fun _ _ _ h => h) (Or.inl ⟨by rfl, fun w hSw => ?hyam26⟩) (by assumption) ?ram26
  case hyam26 => (try dsimp only at hSw); go_simp; (try with_reducible rfl)
  (try simp only [Act.put, List.setIfInBounds_toArray, List.set_cons_zero, List.set_cons_succ])
  refine wpAnyH_take (i := 29) (oi := ({ dst := some 39, op := Op.nilCheck (Operand.tmp 38), type := 0, pos := "help.go:113", after := #[{ on := 28, ground := Ground.data }, { on := 17, ground := Ground.guard }], guard := some (17, false) } : Oper)) (v := ?vam27) rfl (by kernel_rfl) (by kernel_rfl) (by kernel_rfl) (fun _ _ _ h => h) (Or.inl ⟨by rfl, fun w hSw => ?hyam27⟩) (by assumption) ?ram27
  case hyam27 => (try dsimp only at hSw); go_simp; (try with_reducible rfl)
  (try simp only [Act.put, List.setIfInBounds_toArray, List.set_cons_zero, List.set_cons_succ])
  refine wpAnyH_take (i := 30) (oi := ({ dst := some 40, op := Op.fieldAddr 159 (Operand.tmp 39) 0, type := 0, pos := "help.go:113", after := #[{ on := 29, ground := Ground.data }, { on := 17, ground := Ground.guard }], guard := some (17, false) } : Oper)) (v := ?vam28) rfl (by kernel_rfl) (by kernel_rfl) (by kernel_rfl) (fun _ _ _ h => h) (Or.inl ⟨by rfl, fun w hSw => ?hyam28⟩) (by assumption) ?ram28
  case hyam28 => (try dsimp only at hSw); go_simp; (try with_reducible rfl)
  (try simp only [Act.put, List.setIfInBounds_toArray, List.set_cons_zero, List.set_cons_succ])
  refine wpAnyH_take (i := 31) (oi := ({ dst := some 41, op := Op.load 157 (Operand.tmp 40), type := 157, pos := "help.go:113", after := #[{ on := 30, ground := Ground.data }, { on := 17, ground := Ground.guard }], guard := some (17, false) } : Oper)) (v := ?vam29) rfl (by kernel_rfl) (by kernel_rfl) (by kernel_rfl) (fun _ _ _ h => h) (Or.inl ⟨by rfl, fun w hSw => ?hyam29⟩) (by assumption) ?ram29
  case hyam29 => (try dsimp only at hSw); go_simp; (try with_reducible rfl)
  (try simp only [Act.put, List.setIfInBounds_toArray, List.set_cons_zero, List.set_cons_succ])
  refine wpAnyH_ready (rs := [23]) (by kernel_rfl) (by simp) ?_
  refine AllReadyH.cons (o := ({ dst := some 33, op := Op.call { callee := Callee.value (Operand.func 64), args := #[Operand.tmp 32], argTypes := #[86] }, type := 164, pos := "help.go:113", after := #[{ on := 22, ground := Ground.data }, { on := 17, ground := Ground.chain }, { on := 17, ground := Ground.guard }], guard := some (17, false) } : Oper)) rfl (fun Kq hKq => ?_) AllReadyH.nil
  go_simp
  (refine (HAL.out _ hHeld.1).mono ?_; rintro e w3 ⟨A9, rfl, hrow, hb⟩)
  refine hKq.out _ _ ?_ (fun hHeld => ?_)
  · exact SaF.new hHeld hb
  clear hKq Kq
  (try simp only [Act.put, List.setIfInBounds_toArray, List.set_cons_zero, List.set_cons_succ])
  obtain ⟨b9, hrow⟩ : ∃ b, Row w3 b 7 (.slice A9 nl nl) nl (flat .u8 D) ∧ b ≤ w3.heap.size := ⟨_, hrow, hb.size⟩
  refine wpAnyH_more (S' := fun w' => (Below w2.heap.size w2 w' ∧ w'.cell? ⟨B0, 0, none⟩ = some (Pw WB) ∧ w'.cell? ⟨B0, 1, none⟩ = some (Pw RB) ∧ w'.cell? ⟨WB, 0, none⟩ = some (Pw cB) ∧ w'.cell? ⟨WB, 1, none⟩ = some (Pw kB) ∧ w'.cell? ⟨WB, 4, none⟩ = some ts ∧ w'.cell? ⟨WB, 5, none⟩ = some (Pw nB) ∧ w'.cell? ⟨RB, 0, none⟩ = some (Pw rB) ∧ w'.cell? ⟨RB, 1, none⟩ = some (Pw rkB) ∧ w'.cell? ⟨RB, 4, none⟩ = some rts ∧ w'.cell? ⟨RB, 5, none⟩ = some (Pw rnB) ∧ w'.cell? ⟨rnB, 0, none⟩ = some (.slice nA nl nc) ∧ w'.cell? ⟨rkB, 0, none⟩ = some (.int .u64 (T : Int))) ∧ Row w' b9 7 (.slice A9 nl nl) nl (flat .u8 D)) (fun _ h => h.1) _ _ _ _ ?_
  have HB9 := Lib.hid hrow.2
  have hHeld : (fun w' => (Below w2.heap.size w2 w' ∧ w'.cell? ⟨B0, 0, none⟩ = some (Pw WB) ∧ w'.cell? ⟨B0, 1, none⟩ = some (Pw RB) ∧ w'.cell? ⟨WB, 0, none⟩ = some (Pw cB) ∧ w'.cell? ⟨WB, 1, none⟩ = some (Pw kB) ∧ w'.cell? ⟨WB, 4, none⟩ = some ts ∧ w'.cell? ⟨WB, 5, none⟩ = some (Pw nB) ∧ w'.cell? ⟨RB, 0, none⟩ = some (Pw rB) ∧ w'.cell? ⟨RB, 1, none⟩ = some (Pw rkB) ∧ w'.cell? ⟨RB, 4, none⟩ = some rts ∧ w'.cell? ⟨RB, 5, none⟩ = some (Pw rnB) ∧ w'.cell? ⟨rnB, 0, none⟩ = some (.slice nA nl nc) ∧ w'.cell? ⟨rkB, 0, none⟩ = some (.int .u64 (T : Int))) ∧ Row w' b9 7 (.slice A9 nl nl) nl (flat .u8 D)) w3 := ⟨hHeld, hrow.1⟩
  refine wpAnyH_ready (rs := [32]) (by kernel_rfl) (by simp) ?_
  refine AllReadyH.cons (o := ({ dst := some 42, op := Op.call { callee := Callee.value (Operand.func 63), args := #[Operand.tmp 33, Operand.tmp 41], argTypes := #[164, 157] }, type := 4, pos := "help.go:113", after := #[{ on := 23, ground := Ground.data }, { on := 31, ground := Ground.data }, { on := 23, ground := Ground.chain }, { on := 17, ground := Ground.guard }], guard := some (17, false) } : Oper)) rfl (fun Kq hKq => ?_) AllReadyH.nil
  go_simp
  (refine (HNS.out _ _ _ hHeld.1.1 () () hHeld.2).mono ?_; rintro e w3 ⟨rfl, hb⟩)
  refine hKq.out _ _ ?_ (fun hHeld => ?_)
  · exact ⟨SaF.new hHeld.1 hb, hHeld.2.keep (Turns.of_below (S := fun _ => False) hb) (fun _ _ e => e)⟩
  clear hKq Kq
  (try simp only [Act.put, List.setIfInBounds_toArray, List.set_cons_zero, List.set_cons_succ])
  refine wpAnyH_take (i := 33) (oi := ({ dst := some 43, op := Op.unOp UnOp.not 4 (Operand.tmp 42), type := 4, pos := "help.go:113", after := #[{ on := 32, ground := Ground.data }, { on := 17, ground := Ground.guard }], guard := some (17, false) } : Oper)) (v := ?vam30) rfl (by kernel_rfl) (by kernel_rfl) (by kernel_rfl) (fun _ _ _ h => h) (Or.inl ⟨by rfl, fun w hSw => ?hyam30⟩) (by assumption) ?ram30
  case hyam30 => (try dsimp only at hSw); go_simp; (try with_reducible rfl)
  (try simp only [Act.put, List.setIfInBounds_toArray, List.set_cons_zero, List.set_cons_succ])
  refine wpAnyH_take (i := 34) (oi := ({ dst := some 44, op := Op.pick (Operand.tmp 27) (Operand.const (Value.bool true)) (Operand.tmp 43), type := 4, pos := "help.go:113", after := #[{ on := 17, ground := Ground.data }, { on := 33, ground := Ground.data }], guard := none } : Oper)) (v := ?vam31) rfl (by kernel_rfl) (by kernel_rfl) (by kernel_rfl) (fun _ _ _ h => h) (Or.inl ⟨by rfl, fun w hSw => ?hyam31⟩) (by assumption) ?ram31
  case hyam31 => (try dsimp only at hSw); go_simp; (try with_reducible rfl)
  (try simp only [Act.put, List.setIfInBounds_toArray, List.set_cons_zero, List.set_cons_succ])
  refine wpAnyH_take (i := 35) (oi := ({ dst := some 45, op := Op.move (Operand.tmp 44), type := 4, pos := "help.go:113", after := #[{ on := 34, ground := Ground.data }, { on := 32, ground := Ground.chain }], guard := none } : Oper)) (v := ?vam32) rfl (by kernel_rfl) (by kernel_rfl) (by kernel_rfl) (fun _ _ _ h => h) (Or.inl ⟨by rfl, fun w hSw => ?hyam32⟩) (by assumption) ?ram32
  case hyam32 => (try dsimp only at hSw); go_simp; (try with_reducible rfl)
  (try simp only [Act.put, List.setIfInBounds_toArray, List.set_cons_zero, List.set_cons_succ])
  refine wpAnyH_take (i := 36) (oi := ({ dst := some 46, op := Op.fieldAddr 36 (Operand.tmp 1) 0, type := 0, pos := "help.go:113", after := #[{ on := 35, ground := Ground.guard }], guard := some (35, false) } : Oper)) (v := ?vam33) rfl (by kernel_rfl) (by kernel_rfl) (by kernel_rfl) (fun _ _ _ h => h) (Or.inl ⟨by rfl, fun w hSw => ?hyam33⟩) (by assumption) ?ram33
  case hyam33 => (try dsimp only at hSw); go_simp; (try with_reducible rfl)
  (try simp only [Act.put, List.setIfInBounds_toArray, List.set_cons_zero, List.set_cons_succ])
  refine wpAnyH_take (i := 37) (oi := ({ dst := some 47, op := Op.load 33 (Operand.tmp 46), type := 33, pos := "help.go:113", after := #[{ on := 36, ground := Ground.data }, { on := 35, ground := Ground.guard }], guard := some (35, false) } : Oper)) (v := ?vam34) rfl (by kernel_rfl) (by kernel_rfl) (by kernel_rfl) (fun _ _ _ h => h) (Or.inl ⟨by rfl, fun w hSw => ?hyam34⟩) (by assumption) ?ram34
  case hyam34 => (try dsimp only at hSw); go_simp; (try with_reducible rfl)
  (try simp only [Act.put, List.setIfInBounds_toArray, List.set_cons_zero, List.set_cons_succ])
  refine wpAnyH_take (i := 38) (oi := ({ dst := some 48, op := Op.nilCheck (Operand.tmp 47), type := 0, pos := "help.go:113", after := #[{ on := 37, ground := Ground.data }, { on := 35, ground := Ground.guard }], guard := some (35, false) } : Oper)) (v := ?vam35) rfl (by kernel_rfl) (by kernel_rfl) (by kernel_rfl) (fun _ _ _ h => h) (Or.inl ⟨by rfl, fun w hSw => ?hyam35⟩) (by assumption) ?ram35
  case hyam35 => (try dsimp only at hSw); go_simp; (try with_reducible rfl)
  (try simp only [Act.put, List.setIfInBounds_toArray, List.set_cons_zero, List.set_cons_succ])
  refine wpAnyH_take (i := 39) (oi := ({ dst := some 49, op := Op.fieldAddr 89 (Operand.tmp 48) 4, type := 0, pos := "help.go:113", after := #[{ on := 38, ground := Ground.data }, { on := 35, ground := Ground.guard }], guard := some (35, false) } : Oper)) (v := ?vam36) rfl (by kernel_rfl) (by kernel_rfl) (by kernel_rfl) (fun _ _ _ h => h) (Or.inl ⟨by rfl, fun w hSw => ?hyam36⟩) (by assumption) ?ram36
  case hyam36 => (try dsimp only at hSw); go_simp; (try with_reducible rfl)
  (try simp only [Act.put, List.setIfInBounds_toArray, List.set_cons_zero, List.set_cons_succ])
  refine wpAnyH_take (i := 40) (oi := ({ dst := some 50, op := Op.load 85 (Operand.tmp 49), type := 85, pos := "help.go:113", after := #[{ on := 39, ground := Ground.data }, { on := 35, ground := Ground.guard }], guard := some (35, false) } : Oper)) (v := ?vam37) rfl (by kernel_rfl) (by kernel_rfl) (by kernel_rfl) (fun _ _ _ h => h) (Or.inl ⟨by rfl, fun w hSw => ?hyam37⟩) (by assumption) ?ram37
  case hyam37 => (try dsimp only at hSw); go_simp; (try with_reducible rfl)
  (try simp only [Act.put, List.setIfInBounds_toArray, List.set_cons_zero, List.set_cons_succ])
  refine wpAnyH_take (i := 41) (oi := ({ dst := some 51, op := Op.fieldAddr 36 (Operand.tmp 1) 1, type := 0, pos := "help.go:113", after := #[{ on := 35, ground := Ground.guard }], guard := some (35, false) } : Oper)) (v := ?vam38) rfl (by kernel_rfl) (by kernel_rfl) (by kernel_rfl) (fun _ _ _ h => h) (Or.inl ⟨by rfl, fun w hSw => ?hyam38⟩) (by assumption) ?ram38
  case hyam38 => (try dsimp only at hSw); go_simp; (try with_reducible rfl)
  (try simp only [Act.put, List.setIfInBounds_toArray, List.set_cons_zero, List.set_cons_succ])
  refine wpAnyH_take (i := 42) (oi := ({ dst := some 52, op := Op.load 34 (Operand.tmp 51), type := 34, pos := "help.go:113", after := #[{ on := 41, ground := Ground.data }, { on := 35, ground := Ground.guard }], guard := some (35, false) } : Oper)) (v := ?vam39) rfl (by kernel_rfl) (by kernel_rfl) (by kernel_rfl) (fun _ _ _ h => h) (Or.inl ⟨by rfl, fun w hSw => ?hyam39⟩) (by assumption) ?ram39
  case hyam39 => (try dsimp only at hSw); go_simp; (try with_reducible rfl)
  (try simp only [Act.put, List.setIfInBounds_toArray, List.set_cons_zero, List.set_cons_succ])
  refine wpAnyH_take (i := 43) (oi := ({ dst := some 53, op := Op.nilCheck (Operand.tmp 52), type := 0, pos := "help.go:113", after := #[{ on := 42, ground := Ground.data }, { on := 35, ground := Ground.guard }], guard := some (35, false) } : Oper)) (v := ?vam40) rfl (by kernel_rfl) (by kernel_rfl) (by kernel_rfl) (fun _ _ _ h => h) (Or.inl ⟨by rfl, fun w hSw => ?hyam40⟩) (by assumption) ?ram40
  case hyam40 => (try dsimp only at hSw); go_simp; (try with_reducible rfl)
  (try simp only [Act.put, List.setIfInBounds_toArray, List.set_cons_zero, List.set_cons_succ])
  refine wpAnyH_take (i := 44) (oi := ({ dst := some 54, op := Op.fieldAddr 107 (Operand.tmp 53) 4, type := 0, pos := "help.go:113", after := #[{ on := 43, ground := Ground.data }, { on := 35, ground := Ground.guard }], guard := some (35, false) } : Oper)) (v := ?vam41) rfl (by kernel_rfl) (by kernel_rfl) (by kernel_rfl) (fun _ _ _ h => h) (Or.inl ⟨by rfl, fun w hSw => ?hyam41⟩) (by assumption) ?ram41
  case hyam41 => (try dsimp only at hSw); go_simp; (try with_reducible rfl)
  (try simp only [Act.put, List.setIfInBounds_toArray, List.set_cons_zero, List.set_cons_succ])
  refine wpAnyH_take (i := 45) (oi := ({ dst := some 55, op := Op.load 104 (Operand.tmp 54), type := 104, pos := "help.go:113", after := #[{ on := 44, ground := Ground.data }, { on := 35, ground := Ground.guard }], guard := some (35, false) } : Oper)) (v := ?vam42) rfl (by kernel_rfl) (by kernel_rfl) (by kernel_rfl) (fun _ _ _ h => h) (Or.inl ⟨by rfl, fun w hSw => ?hyam42⟩) (by assumption) ?ram42
  case hyam42 => (try dsimp only at hSw); go_simp; (try with_reducible rfl)
  (try simp only [Act.put, List.setIfInBounds_toArray, List.set_cons_zero, List.set_cons_succ])
  refine wpAnyH_ready (rs := [46]) (by kernel_rfl) (by simp) ?_
  refine AllReadyH.cons (o := ({ dst := some 56, op := Op.call { callee := Callee.value (Operand.func 65), args := #[Operand.tmp 50, Operand.tmp 55], argTypes := #[85, 104] }, type := 4, pos := "help.go:113", after := #[{ on := 40, ground := Ground.data }, { on := 45, ground := Ground.data }, { on := 35, ground := Ground.chain }, { on := 35, ground := Ground.guard }], guard := some (35, false) } : Oper)) rfl (fun Kq hKq => ?_) AllReadyH.nil
  go_simp
  (refine (HTS.out _ hHeld.1.1).mono ?_; rintro e w3 ⟨rfl, hb⟩)
  refine hKq.out _ _ ?_ (fun hHeld => ?_)
  · exact ⟨SaF.new hHeld.1 hb, hHeld.2.keep (Turns.of_below (S := fun _ => False) hb) (fun _ _ e => e)⟩
  clear hKq Kq
  (try simp only [Act.put, List.setIfInBounds_toArray, List.set_cons_zero, List.set_cons_succ])
  refine wpAnyH_take (i := 47) (oi := ({ dst := some 57, op := Op.unOp UnOp.not 4 (Operand.tmp 56), type := 4, pos := "help.go:113", after := #[{ on := 46, ground := Ground.data }, { on := 35, ground := Ground.guard }], guard := some (35, false) } : Oper)) (v := ?vam43) rfl (by kernel_rfl) (by kernel_rfl) (by kernel_rfl) (fun _ _ _ h => h) (Or.inl ⟨by rfl, fun w hSw => ?hyam43⟩) (by assumption) ?ram43
  case hyam43 => (try dsimp only at hSw); go_simp; (try with_reducible rfl)
  (try simp only [Act.put, List.setIfInBounds_toArray, List.set_cons_zero, List.set_cons_succ])
  refine wpAnyH_take (i := 48) (oi := ({ dst := some 58, op := Op.pick (Operand.tmp 45) (Operand.const (Value.bool true)) (Operand.tmp 57), type := 4, pos := "help.go:113", after := #[{ on := 35, ground := Ground.data }, { on := 47, ground := Ground.data }], guard := none } : Oper)) (v := ?vam44) rfl (by kernel_rfl) (by kernel_rfl) (by kernel_rfl) (fun _ _ _ h => h) (Or.inl ⟨by rfl, fun w hSw => ?hyam44⟩) (by assumption) ?ram44
  case hyam44 => (try dsimp only at hSw); go_simp; (try with_reducible rfl)
  (try simp only [Act.put, List.setIfInBounds_toArray, List.set_cons_zero, List.set_cons_succ])
  refine wpAnyH_take (i := 49) (oi := ({ dst := some 59, op := Op.move (Operand.tmp 58), type := 4, pos := "help.go:113", after := #[{ on := 48, ground := Ground.data }, { on := 46, ground := Ground.chain }], guard := none } : Oper)) (v := ?vam45) rfl (by kernel_rfl) (by kernel_rfl) (by kernel_rfl) (fun _ _ _ h => h) (Or.inl ⟨by rfl, fun w hSw => ?hyam45⟩) (by assumption) ?ram45
  case hyam45 => (try dsimp only at hSw); go_simp; (try with_reducible rfl)
  (try simp only [Act.put, List.setIfInBounds_toArray, List.set_cons_zero, List.set_cons_succ])
  refine wpAnyH_take (i := 50) (oi := ({ dst := some 60, op := Op.fieldAddr 36 (Operand.tmp 1) 0, type := 0, pos := "help.go:113", after := #[{ on := 49, ground := Ground.guard }], guard := some (49, false) } : Oper)) (v := ?vam46) rfl (by kernel_rfl) (by kernel_rfl) (by kernel_rfl) (fun _ _ _ h => h) (Or.inl ⟨by rfl, fun w hSw => ?hyam46⟩) (by assumption) ?ram46
  case hyam46 => (try dsimp only at hSw); go_simp; (try with_reducible rfl)
  (try simp only [Act.put, List.setIfInBounds_toArray, List.set_cons_zero, List.set_cons_succ])
  refine wpAnyH_take (i := 51) (oi := ({ dst := some 61, op := Op.load 33 (Operand.tmp 60), type := 33, pos := "help.go:113", after := #[{ on := 50, ground := Ground.data }, { on := 49, ground := Ground.guard }], guard := some (49, false) } : Oper)) (v := ?vam47) rfl (by kernel_rfl) (by kernel_rfl) (by kernel_rfl) (fun _ _ _ h => h) (Or.inl ⟨by rfl, fun w hSw => ?hyam47⟩) (by assumption) ?ram47
  case hyam47 => (try dsimp only at hSw); go_simp; (try with_reducible rfl)
  (try simp only [Act.put, List.setIfInBounds_toArray, List.set_cons_zero, List.set_cons_succ])
  refine wpAnyH_take (i := 52) (oi := ({ dst := some 62, op := Op.nilCheck (Operand.tmp 61), type := 0, pos := "help.go:113", after := #[{ on := 51, ground := Ground.data }, { on := 49, ground := Ground.guard }], guard := some (49, false) } : Oper)) (v := ?vam48) rfl (by kernel_rfl) (by kernel_rfl) (by kernel_rfl) (fun _ _ _ h => h) (Or.inl ⟨by rfl, fun w hSw => ?hyam48⟩) (by assumption) ?ram48
  case hyam48 => (try dsimp only at hSw); go_simp; (try with_reducible rfl)
  (try simp only [Act.put, List.setIfInBounds_toArray, List.set_cons_zero, List.set_cons_succ])
  refine wpAnyH_take (i := 53) (oi := ({ dst := some 63, op := Op.fieldAddr 89 (Operand.tmp 62) 7, type := 0, pos := "help.go:113", after := #[{ on := 52, ground := Ground.data }, { on := 49, ground := Ground.guard }], guard := some (49, false) } : Oper)) (v := ?vam49) rfl (by kernel_rfl) (by kernel_rfl) (by kernel_rfl) (fun _ _ _ h => h) (Or.inl ⟨by rfl, fun w hSw => ?hyam49⟩) (by assumption) ?ram49
  case hyam49 => (try dsimp only at hSw); go_simp; (try with_reducible rfl)
  (try simp only [Act.put, List.setIfInBounds_toArray, List.set_cons_zero, List.set_cons_succ])
  refine wpAnyH_take (i := 54) (oi := ({ dst := some 64, op := Op.load 87 (Operand.tmp 63), type := 87, pos := "help.go:113", after := #[{ on := 53, ground := Ground.data }, { on := 49, ground := Ground.guard }], guard := some (49, false) } : Oper)) (v := .agg Z64) rfl (by kernel_rfl) (by kernel_rfl) (by kernel_rfl) (fun _ _ _ h => h) (yieldsIf_load_mid (by rfl) 87 (Operand.tmp 63) rfl WB 7 (by rfl) Z64l _ (fun w hS => HTX.out w hS.1.1) under64 rfl info64) (by assumption) ?ram50
  skip
  (try simp only [Act.put, List.setIfInBounds_toArray, List.set_cons_zero, List.set_cons_succ])
  refine wpAnyH_take (i := 55) (oi := ({ dst := some 65, op := Op.fieldAddr 36 (Operand.tmp 1) 1, type := 0, pos := "help.go:113", after := #[{ on := 49, ground := Ground.guard }], guard := some (49, false) } : Oper)) (v := ?vam51) rfl (by kernel_rfl) (by kernel_rfl) (by kernel_rfl) (fun _ _ _ h => h) (Or.inl ⟨by rfl, fun w hSw => ?hyam51⟩) (by assumption) ?ram51
  case hyam51 => (try dsimp only at hSw); go_simp; (try with_reducible rfl)
  (try simp only [Act.put, List.setIfInBounds_toArray, List.set_cons_zero, List.set_cons_succ])
  refine wpAnyH_take (i := 56) (oi := ({ dst := some 66, op := Op.load 34 (Operand.tmp 65), type := 34, pos := "help.go:113", after := #[{ on := 55, ground := Ground.data }, { on := 49, ground := Ground.guard }], guard := some (49, false) } : Oper)) (v := ?vam52) rfl (by kernel_rfl) (by kernel_rfl) (by kernel_rfl) (fun _ _ _ h => h) (Or.inl ⟨by rfl, fun w hSw => ?hyam52⟩) (by assumption) ?ram52
  case hyam52 => (try dsimp only at hSw); go_simp; (try with_reducible rfl)
  (try simp only [Act.put, List.setIfInBounds_toArray, List.set_cons_zero, List.set_cons_succ])
  refine wpAnyH_take (i := 57) (oi := ({ dst := some 67, op := Op.nilCheck (Operand.tmp 66), type := 0, pos := "help.go:113", after := #[{ on := 56, ground := Ground.data }, { on := 49, ground := Ground.guard }], guard := some (49, false) } : Oper)) (v := ?vam53) rfl (by kernel_rfl) (by kernel_rfl) (by kernel_rfl) (fun _ _ _ h => h) (Or.inl ⟨by rfl, fun w hSw => ?hyam53⟩) (by assumption) ?ram53
  case hyam53 => (try dsimp only at hSw); go_simp; (try with_reducible rfl)
  (try simp only [Act.put, List.setIfInBounds_toArray, List.set_cons_zero, List.set_cons_succ])
  refine wpAnyH_take (i := 58) (oi := ({ dst := some 68, op := Op.fieldAddr 107 (Operand.tmp 67) 7, type := 0, pos := "help.go:113", after := #[{ on := 57, ground := Ground.data }, { on := 49, ground := Ground.guard }], guard := some (49, false) } : Oper)) (v := ?vam54) rfl (by kernel_rfl) (by kernel_rfl) (by kernel_rfl) (fun _ _ _ h => h) (Or.inl ⟨by rfl, fun w hSw => ?hyam54⟩) (by assumption) ?ram54
  case hyam54 => (try dsimp only at hSw); go_simp; (try with_reducible rfl)
  (try simp only [Act.put, List.setIfInBounds_toArray, List.set_cons_zero, List.set_cons_succ])
  refine wpAnyH_take (i := 59) (oi := ({ dst := some 69, op := Op.load 87 (Operand.tmp 68), type := 87, pos := "help.go:113", after := #[{ on := 58, ground := Ground.data }, { on := 49, ground := Ground.guard }], guard := some (49, false) } : Oper)) (v := .agg Z64) rfl (by kernel_rfl) (by kernel_rfl) (by kernel_rfl) (fun _ _ _ h => h) (yieldsIf_load_mid (by rfl) 87 (Operand.tmp 68) rfl RB 7 (by rfl) Z64l _ (fun w hS => HTY.out w hS.1.1) under64 rfl info64) (by assumption) ?ram55
  skip
  (try simp only [Act.put, List.setIfInBounds_toArray, List.set_cons_zero, List.set_cons_succ])
  refine wpAnyH_take (i := 60) (oi := ({ dst := some 70, op := Op.binOp BinOp.neq 87 (Operand.tmp 64) (Operand.tmp 69) 87, type := 4, pos := "help.go:113", after := #[{ on := 54, ground := Ground.data }, { on := 59, ground := Ground.data }, { on := 49, ground := Ground.guard }], guard := some (49, false) } : Oper)) (v := ?vam56) rfl (by kernel_rfl) (by kernel_rfl) (by kernel_rfl) (fun _ _ _ h => h) (Or.inl ⟨by rfl, fun w hSw => ?hyam56⟩) (by assumption) ?ram56
  case hyam56 => (try dsimp only at hSw); go_simp; (try with_reducible rfl)
  (try simp only [Act.put, List.setIfInBounds_toArray, List.set_cons_zero, List.set_cons_succ])
  refine wpAnyH_take (i := 61) (oi := ({ dst := some 71, op := Op.pick (Operand.tmp 59) (Operand.const (Value.bool true)) (Operand.tmp 70), type := 4, pos := "help.go:113", after := #[{ on := 49, ground := Ground.data }, { on := 60, ground := Ground.data }], guard := none } : Oper)) (v := ?vam57) rfl (by kernel_rfl) (by kernel_rfl) (by kernel_rfl) (fun _ _ _ h => h) (Or.inl ⟨by rfl, fun w hSw => ?hyam57⟩) (by assumption) ?ram57
  case hyam57 => (try dsimp only at hSw); go_simp; (try with_reducible rfl)
  (try simp only [Act.put, List.setIfInBounds_toArray, List.set_cons_zero, List.set_cons_succ])
  refine wpAnyH_take (i := 62) (oi := ({ dst := some 72, op := Op.move (Operand.tmp 71), type := 4, pos := "help.go:113", after := #[{ on := 61, ground := Ground.data }, { on := 49, ground := Ground.chain }], guard := none } : Oper)) (v := ?vam58) rfl (by kernel_rfl) (by kernel_rfl) (by kernel_rfl) (fun _ _ _ h => h) (Or.inl ⟨by rfl, fun w hSw => ?hyam58⟩) (by assumption) ?ram58
  case hyam58 => (try dsimp only at hSw); go_simp; (try with_reducible rfl)
  (try simp only [Act.put, List.setIfInBounds_toArray, List.set_cons_zero, List.set_cons_succ])
  refine wpAnyH_take (i := 63) (oi := ({ dst := some 73, op := Op.fieldAddr 36 (Operand.tmp 1) 0, type := 0, pos := "help.go:113", after := #[{ on := 62, ground := Ground.guard }], guard := some (62, false) } : Oper)) (v := ?vam59) rfl (by kernel_rfl) (by kernel_rfl) (by kernel_rfl) (fun _ _ _ h => h) (Or.inl ⟨by rfl, fun w hSw => ?hyam59⟩) (by assumption) ?ram59
  case hyam59 => (try dsimp only at hSw); go_simp; (try with_reducible rfl)
  (try simp only [Act.put, List.setIfInBounds_toArray, List.set_cons_zero, List.set_cons_succ])
  refine wpAnyH_take (i := 64) (oi := ({ dst := some 74, op := Op.load 33 (Operand.tmp 73), type := 33, pos := "help.go:113", after := #[{ on := 63, ground := Ground.data }, { on := 62, ground := Ground.guard }], guard := some (62, false) } : Oper)) (v := ?vam60) rfl (by kernel_rfl) (by kernel_rfl) (by kernel_rfl) (fun _ _ _ h => h) (Or.inl ⟨by rfl, fun w hSw => ?hyam60⟩) (by assumption) ?ram60
  case hyam60 => (try dsimp only at hSw); go_simp; (try with_reducible rfl)
  (try simp only [Act.put, List.setIfInBounds_toArray, List.set_cons_zero, List.set_cons_succ])
  refine wpAnyH_take (i := 65) (oi := ({ dst := some 75, op := Op.nilCheck (Operand.tmp 74), type := 0, pos := "help.go:113", after := #[{ on := 64, ground := Ground.data }, { on := 62, ground := Ground.guard }], guard := some (62, false) } : Oper)) (v := ?vam61) rfl (by kernel_rfl) (by kernel_rfl) (by kernel_rfl) (fun _ _ _ h => h) (Or.inl ⟨by rfl, fun w hSw => ?hyam61⟩) (by assumption) ?ram61
  case hyam61 => (try dsimp only at hSw); go_simp; (try with_reducible rfl)
  (try simp only [Act.put, List.setIfInBounds_toArray, List.set_cons_zero, List.set_cons_succ])
  refine wpAnyH_take (i := 66) (oi := ({ dst := some 76, op := Op.fieldAddr 89 (Operand.tmp 75) 1, type := 0, pos := "help.go:113", after := #[{ on := 65, ground := Ground.data }, { on := 62, ground := Ground.guard }], guard := some (62, false) } : Oper)) (v := ?vam62) rfl (by kernel_rfl) (by kernel_rfl) (by kernel_rfl) (fun _ _ _ h => h) (Or.inl ⟨by rfl, fun w hSw => ?hyam62⟩) (by assumption) ?ram62
  case hyam62 => (try dsimp only at hSw); go_simp; (try with_reducible rfl)
  (try simp only [Act.put, List.setIfInBounds_toArray, List.set_cons_zero, List.set_cons_succ])
  refine wpAnyH_take (i := 67) (oi := ({ dst := some 77, op := Op.load 82 (Operand.tmp 76), type := 82, pos := "help.go:113", after := #[{ on := 66, ground := Ground.data }, { on := 62, ground := Ground.guard }], guard := some (62, false) } : Oper)) (v := ?vam63) rfl (by kernel_rfl) (by kernel_rfl) (by kernel_rfl) (fun _ _ _ h => h) (Or.inl ⟨by rfl, fun w hSw => ?hyam63⟩) (by assumption) ?ram63
  case hyam63 => (try dsimp only at hSw); go_simp; (try with_reducible rfl)
  (try simp only [Act.put, List.setIfInBounds_toArray, List.set_cons_zero, List.set_cons_succ])
  refine wpAnyH_take (i := 69) (oi := ({ dst := some 79, op := Op.fieldAddr 36 (Operand.tmp 1) 1, type := 0, pos := "help.go:113", after := #[{ on := 62, ground := Ground.guard }], guard := some (62, false) } : Oper)) (v := ?vam64) rfl (by kernel_rfl) (by kernel_rfl) (by kernel_rfl) (fun _ _ _ h => h) (Or.inl ⟨by rfl, fun w hSw => ?hyam64⟩) (by assumption) ?ram64
  case hyam64 => (try dsimp only at hSw); go_simp; (try with_reducible rfl)
  (try simp only [Act.put, List.setIfInBounds_toArray, List.set_cons_zero, List.set_cons_succ])
  refine wpAnyH_take (i := 70) (oi := ({ dst := some 80, op := Op.load 34 (Operand.tmp 79), type := 34, pos := "help.go:113", after := #[{ on := 69, ground := Ground.data }, { on := 62, ground := Ground.guard }], guard := some (62, false) } : Oper)) (v := ?vam65) rfl (by kernel_rfl) (by kernel_rfl) (by kernel_rfl) (fun _ _ _ h => h) (Or.inl ⟨by rfl, fun w hSw => ?hyam65⟩) (by assumption) ?ram65
  case hyam65 => (try dsimp only at hSw); go_simp; (try with_reducible rfl)
  (try simp only [Act.put, List.setIfInBounds_toArray, List.set_cons_zero, List.set_cons_succ])
  refine wpAnyH_take (i := 71) (oi := ({ dst := some 81, op := Op.nilCheck (Operand.tmp 80), type := 0, pos := "help.go:113", after := #[{ on := 70, ground := Ground.data }, { on := 62, ground := Ground.guard }], guard := some (62, false) } : Oper)) (v := ?vam66) rfl (by kernel_rfl) (by kernel_rfl) (by kernel_rfl) (fun _ _ _ h => h) (Or.inl ⟨by rfl, fun w hSw => ?hyam66⟩) (by assumption) ?ram66
  case hyam66 => (try dsimp only at hSw); go_simp; (try with_reducible rfl)
  (try simp only [Act.put, List.setIfInBounds_toArray, List.set_cons_zero, List.set_cons_succ])
  refine wpAnyH_take (i := 72) (oi := ({ dst := some 82, op := Op.fieldAddr 107 (Operand.tmp 81) 1, type := 0, pos := "help.go:113", after := #[{ on := 71, ground := Ground.data }, { on := 62, ground := Ground.guard }], guard := some (62, false) } : Oper)) (v := ?vam67) rfl (by kernel_rfl) (by kernel_rfl) (by kernel_rfl) (fun _ _ _ h => h) (Or.inl ⟨by rfl, fun w hSw => ?hyam67⟩) (by assumption) ?ram67
  case hyam67 => (try dsimp only at hSw); go_simp; (try with_reducible rfl)
  (try simp only [Act.put, List.setIfInBounds_toArray, List.set_cons_zero, List.set_cons_succ])
  refine wpAnyH_take (i := 73) (oi := ({ dst := some 83, op := Op.load 101 (Operand.tmp 82), type := 101, pos := "help.go:113", after := #[{ on := 72, ground := Ground.data }, { on := 62, ground := Ground.guard }], guard := some (62, false) } : Oper)) (v := ?vam68) rfl (by kernel_rfl) (by kernel_rfl) (by kernel_rfl) (fun _ _ _ h => h) (Or.inl ⟨by rfl, fun w hSw => ?hyam68⟩) (by assumption) ?ram68
  case hyam68 => (try dsimp only at hSw); go_simp; (try with_reducible rfl)
  (try simp only [Act.put, List.setIfInBounds_toArray, List.set_cons_zero, List.set_cons_succ])
  refine wpAnyH_take (i := 74) (oi := ({ dst := some 84, op := Op.nilCheck (Operand.tmp 83), type := 0, pos := "help.go:113", after := #[{ on := 73, ground := Ground.data }, { on := 62, ground := Ground.guard }], guard := some (62, false) } : Oper)) (v := ?vam69) rfl (by kernel_rfl) (by kernel_rfl) (by kernel_rfl) (fun _ _ _ h => h) (Or.inl ⟨by rfl, fun w hSw => ?hyam69⟩) (by assumption) ?ram69
  case hyam69 => (try dsimp only at hSw); go_simp; (try with_reducible rfl)
  (try simp only [Act.put, List.setIfInBounds_toArray, List.set_cons_zero, List.set_cons_succ])
  refine wpAnyH_take (i := 75) (oi := ({ dst := some 85, op := Op.fieldAddr 161 (Operand.tmp 84) 0, type := 0, pos := "help.go:113", after := #[{ on := 74, ground := Ground.data }, { on := 62, ground := Ground.guard }], guard := some (62, false) } : Oper)) (v := ?vam70) rfl (by kernel_rfl) (by kernel_rfl) (by kernel_rfl) (fun _ _ _ h => h) (Or.inl ⟨by rfl, fun w hSw => ?hyam70⟩) (by assumption) ?ram70
  case hyam70 => (try dsimp only at hSw); go_simp; (try with_reducible rfl)
  (try simp only [Act.put, List.setIfInBounds_toArray, List.set_cons_zero, List.set_cons_succ])
  refine wpAnyH_take (i := 76) (oi := ({ dst := some 86, op := Op.load 22 (Operand.tmp 85), type := 22, pos := "help.go:113", after := #[{ on := 75, ground := Ground.data }, { on := 62, ground := Ground.guard }], guard := some (62, false) } : Oper)) (v := ?vam71) rfl (by kernel_rfl) (by kernel_rfl) (by kernel_rfl) (fun _ _ _ h => h) (Or.inl ⟨by rfl, fun w hSw => ?hyam71⟩) (by assumption) ?ram71
  case hyam71 => (try dsimp only at hSw); go_simp; (try with_reducible rfl)
  (try simp only [Act.put, List.setIfInBounds_toArray, List.set_cons_zero, List.set_cons_succ])
  refine wpAnyH_ready (rs := [68]) (by kernel_rfl) (by simp) ?_
  refine AllReadyH.cons (o := ({ dst := some 78, op := Op.call { callee := Callee.value (Operand.func 66), args := #[Operand.tmp 77], argTypes := #[82] }, type := 22, pos := "help.go:113", after := #[{ on := 67, ground := Ground.data }, { on := 62, ground := Ground.chain }, { on := 62, ground := Ground.guard }], guard := some (62, false) } : Oper)) rfl (fun Kq hKq => ?_) AllReadyH.nil
  go_simp
  (refine (HNW.out _ hHeld.1.1).mono ?_; rintro e w3 ⟨rfl, rfl⟩)
  refine hKq.out _ _ ?_ (fun hHeld => ?_)
  · exact hHeld
  clear hKq Kq
  (try simp only [Act.put, List.setIfInBounds_toArray, List.set_cons_zero, List.set_cons_succ])
  refine wpAnyH_take (i := 77) (oi := ({ dst := some 87, op := Op.binOp BinOp.neq 22 (Operand.tmp 78) (Operand.tmp 86) 22, type := 4, pos := "help.go:113", after := #[{ on := 68, ground := Ground.data }, { on := 76, ground := Ground.data }, { on := 62, ground := Ground.guard }], guard := some (62, false) } : Oper)) (v := ?vam72) rfl (by kernel_rfl) (by kernel_rfl) (by kernel_rfl) (fun _ _ _ h => h) (Or.inl ⟨by rfl, fun w hSw => ?hyam72⟩) (by assumption) ?ram72
  case hyam72 => (try dsimp only at hSw); go_simp; (try with_reducible rfl)
  (try simp only [Act.put, List.setIfInBounds_toArray, List.set_cons_zero, List.set_cons_succ])
  refine wpAnyH_take (i := 78) (oi := ({ dst := some 88, op := Op.pick (Operand.tmp 72) (Operand.const (Value.bool true)) (Operand.tmp 87), type := 4, pos := "help.go:113", after := #[{ on := 62, ground := Ground.data }, { on := 77, ground := Ground.data }], guard := none } : Oper)) (v := ?vam73) rfl (by kernel_rfl) (by kernel_rfl) (by kernel_rfl) (fun _ _ _ h => h) (Or.inl ⟨by rfl, fun w hSw => ?hyam73⟩) (by assumption) ?ram73
  case hyam73 => (try dsimp only at hSw); go_simp; (try with_reducible rfl)
  (try simp only [Act.put, List.setIfInBounds_toArray, List.set_cons_zero, List.set_cons_succ])
  refine wpAnyH_done (by kernel_rfl) ?_ _
  have HB3 := Lib.hid hHeld.1.1
  clear hHeld HSM HS2 HAL HNS HTS HNW HF HTX HTY hev
  have HAS := Lib.hid (fun (i : Nat) (hi : i < 128) (W : World) (q : Below w2.heap.size w2 W) => S4.asleep_yes (H2.out.new q).pr.pw.permits hi)
  have HGQ := Lib.hid (fun (i : Nat) (hi : i < 128) (now : Nat) (W : World) (q : Below w2.heap.size w2 W) => S4.pgoes_yes (H2.out.new q).pr.pw.permits hi now)
  have HRQ : Hid (∀ (i : Nat), i < 128 → ∀ (now : Nat) W, Below w2.heap.size w2 W → Calls Tryz.prog 68 #[Pw Y.pB, .int .i64 (i : Int), .int .u64 (now : Int)] W fun e w' => e = .returned (.bool (S4.goesB (X.pf i) now)) ∧ Below W.heap.size W w') := Lib.hid (fun i hi now W q => by
    have := S4.rgoes_yes (H2.out.new q).pr.rpermits hi now
    rw [← HE.out.1, S4.goes_both (H2.out.pok i) now] at this
    exact this)
  go_wp2_with fail
  go_loopg [3, 4] 128 (fun q s3 s4 wx => ∃ i : Nat, i ≤ 128 ∧ q = 128 - i ∧ s3 = .int .i64 (i : Int) ∧ Below w2.heap.size w2 wx)
  case atStart => exact ⟨0, by omega, rfl, rfl, HB3.out⟩
  case round =>
    obtain ⟨i, hi, rfl, rfl, hb⟩ := hrel
    have h3 := H2.out.new hb
    have e0 := (hb.block B0 (Array.getElem?_eq_some_iff.1 HQ0.out).1).trans HQ0.out
    have b0 := cell_row e0 0; have b1 := cell_row e0 1
    simp only [List.getElem?_toArray, List.getElem?_cons_zero, List.getElem?_cons_succ] at b0 b1
    by_cases hi8 : i < 128
    · have has := HAS.out i hi8
      have hg0 : ∀ W, Below w2.heap.size w2 W → Calls Tryz.prog 67 #[Pw X.pB, .int .i64 (i : Int), .int .u64 0] W fun e w' => e = .returned (.bool (S4.goesB (X.pf i) 0)) ∧ Below W.heap.size W w' := HGQ.out i hi8 0
      have hr0 : ∀ W, Below w2.heap.size w2 W → Calls Tryz.prog 68 #[Pw Y.pB, .int .i64 (i : Int), .int .u64 0] W fun e w' => e = .returned (.bool (S4.goesB (X.pf i) 0)) ∧ Below W.heap.size W w' := HRQ.out i hi8 0
      have hg1 : ∀ W, Below w2.heap.size w2 W → Calls Tryz.prog 67 #[Pw X.pB, .int .i64 (i : Int), .int .u64 18446744073709551615] W fun e w' => e = .returned (.bool (S4.goesB (X.pf i) 18446744073709551615)) ∧ Below W.heap.size W w' := HGQ.out i hi8 18446744073709551615
      have hr1 : ∀ W, Below w2.heap.size w2 W → Calls Tryz.prog 68 #[Pw Y.pB, .int .i64 (i : Int), .int .u64 18446744073709551615] W fun e w' => e = .returned (.bool (S4.goesB (X.pf i) 18446744073709551615)) ∧ Below W.heap.size W w' := HRQ.out i hi8 18446744073709551615
      generalize S4.goesB (X.pf i) 0 = g0 at *
      generalize S4.goesB (X.pf i) 18446744073709551615 = g1 at *
      have d1 : (i : Int) < 128 := by omega
      have k0 := h3.pr.rpermits.c0 i hi8; have k1 := h3.pr.rpermits.c1 i hi8; have k2 := h3.pr.rpermits.c2 i hi8; have k3 := h3.pr.rpermits.c3 i hi8
      rw [← HE.out.1] at k0 k1 k2 k3
      have r2 := h3.pr.r2
      rw [h3.rB] at r2
      have x2 := h3.pr.pw.c2
      rw [h3.wB] at x2
      generalize X.pf i = pk at *
      obtain ⟨pp, pa, po, pt⟩ := pk
      dsimp only at k0 k1 k2 k3 has
      obtain ⟨pB, hpB⟩ : ∃ x, x = X.pB := ⟨_, rfl⟩
      obtain ⟨rpB, hrpB⟩ : ∃ x, x = Y.pB := ⟨_, rfl⟩
      rw [← hpB] at has hg0 hg1 x2; rw [← hrpB] at hr0 hr1 r2 k0 k1 k2 k3
      have HASI := Lib.hid has; have HGO0 := Lib.hid hg0; have HGO1 := Lib.hid hg1; have HRG0 := Lib.hid hr0; have HRG1 := Lib.hid hr1
      have HBR := Lib.hid hb
      have HI := Lib.hid hi8
      clear has hg0 hg1 hr0 hr1 h3 hpB hrpB e0 hi8 hi
      go_upto_region 7 with (fail)
      have hnx := heap_alloc_new wr (.cells #[.bool pp, .bool pa, .bool po, .int .u64 (pt : Int)] 153)
      have hby := below1 wr (.cells #[.bool pp, .bool pa, .bool po, .int .u64 (pt : Int)] 153)
      have y0 := bcell hby b0; have y1 := bcell hby b1; have y2 := bcell hby x2; have y3 := bcell hby r2
      have y4 := cell_row hnx 1
      simp only [List.getElem?_toArray, List.getElem?_cons_zero, List.getElem?_cons_succ] at y4
      have HBY := Lib.hid (HBR.out.trans (hby.mono HBR.out.size))
      obtain ⟨Bx, hBx⟩ : ∃ x, x = wr.heap.size := ⟨_, rfl⟩
      rw [← hBx] at y4 ⊢
      clear hnx hby b0 b1 x2 r2 k0 k1 k2 k3 hb hBx
      generalize wr.alloc (.cells #[.bool pp, .bool pa, .bool po, .int .u64 (pt : Int)] 153) = w4 at *
      have HF7 : Hid (w4.drew.cell? ⟨B0, 0, none⟩ = some (Pw WB) ∧ w4.drew.cell? ⟨B0, 1, none⟩ = some (Pw RB) ∧ w4.drew.cell? ⟨WB, 2, none⟩ = some (Pw pB) ∧ w4.drew.cell? ⟨RB, 2, none⟩ = some (Pw rpB) ∧ w4.drew.cell? ⟨Bx, 1, none⟩ = some (.bool pa)) := Lib.hid ⟨y0, y1, y2, y3, y4⟩
      clear y0 y1 y2 y3 y4
      refine wp_region_held_drew (S := fun w' => Below w2.heap.size w2 w' ∧ w'.cell? ⟨B0, 0, none⟩ = some (Pw WB) ∧ w'.cell? ⟨B0, 1, none⟩ = some (Pw RB) ∧ w'.cell? ⟨WB, 2, none⟩ = some (Pw pB) ∧ w'.cell? ⟨RB, 2, none⟩ = some (Pw rpB) ∧ w'.cell? ⟨Bx, 1, none⟩ = some (.bool pa)) (by kernel_rfl) ?_ (fun hHeld => ?_)
      · exact ⟨HBY.out.drew, HF7.out⟩
      refine wpAnyH_take (i := 0) (oi := ({ dst := some 103, op := Op.fieldAddr 36 (Operand.tmp 1) 0, type := 0, pos := "help.go:118", after := #[], guard := none } : Oper)) (v := ?vbm1) rfl (by kernel_rfl) (by kernel_rfl) (by kernel_rfl) (fun _ _ _ h => h) (Or.inl ⟨by rfl, fun w hSw => ?hybm1⟩) (by assumption) ?rbm1
      case hybm1 => (try dsimp only at hSw); go_simp; (try with_reducible rfl)
      (try simp only [Act.put, List.setIfInBounds_toArray, List.set_cons_zero, List.set_cons_succ])
      refine wpAnyH_take (i := 1) (oi := ({ dst := some 104, op := Op.load 33 (Operand.tmp 103), type := 33, pos := "help.go:118", after := #[{ on := 0, ground := Ground.data }], guard := none } : Oper)) (v := ?vbm2) rfl (by kernel_rfl) (by kernel_rfl) (by kernel_rfl) (fun _ _ _ h => h) (Or.inl ⟨by rfl, fun w hSw => ?hybm2⟩) (by assumption) ?rbm2
      case hybm2 => (try dsimp only at hSw); go_simp; (try with_reducible rfl)
      (try simp only [Act.put, List.setIfInBounds_toArray, List.set_cons_zero, List.set_cons_succ])
      refine wpAnyH_take (i := 2) (oi := ({ dst := some 105, op := Op.nilCheck (Operand.tmp 104), type := 0, pos := "help.go:118", after := #[{ on := 1, ground := Ground.data }], guard := none } : Oper)) (v := ?vbm3) rfl (by kernel_rfl) (by kernel_rfl) (by kernel_rfl) (fun _ _ _ h => h) (Or.inl ⟨by rfl, fun w hSw => ?hybm3⟩) (by assumption) ?rbm3
      case hybm3 => (try dsimp only at hSw); go_simp; (try with_reducible rfl)
      (try simp only [Act.put, List.setIfInBounds_toArray, List.set_cons_zero, List.set_cons_succ])
      refine wpAnyH_take (i := 3) (oi := ({ dst := some 106, op := Op.fieldAddr 89 (Operand.tmp 105) 2, type := 0, pos := "help.go:118", after := #[{ on := 2, ground := Ground.data }], guard := none } : Oper)) (v := ?vbm4) rfl (by kernel_rfl) (by kernel_rfl) (by kernel_rfl) (fun _ _ _ h => h) (Or.inl ⟨by rfl, fun w hSw => ?hybm4⟩) (by assumption) ?rbm4
      case hybm4 => (try dsimp only at hSw); go_simp; (try with_reducible rfl)
      (try simp only [Act.put, List.setIfInBounds_toArray, List.set_cons_zero, List.set_cons_succ])
      refine wpAnyH_take (i := 4) (oi := ({ dst := some 107, op := Op.load 83 (Operand.tmp 106), type := 83, pos := "help.go:118", after := #[{ on := 3, ground := Ground.data }], guard := none } : Oper)) (v := ?vbm5) rfl (by kernel_rfl) (by kernel_rfl) (by kernel_rfl) (fun _ _ _ h => h) (Or.inl ⟨by rfl, fun w hSw => ?hybm5⟩) (by assumption) ?rbm5
      case hybm5 => (try dsimp only at hSw); go_simp; (try with_reducible rfl)
      (try simp only [Act.put, List.setIfInBounds_toArray, List.set_cons_zero, List.set_cons_succ])
      refine wpAnyH_take (i := 5) (oi := ({ dst := some 108, op := Op.move (Operand.tmp 3), type := 3, pos := "help.go:118", after := #[], guard := none } : Oper)) (v := ?vbm6) rfl (by kernel_rfl) (by kernel_rfl) (by kernel_rfl) (fun _ _ _ h => h) (Or.inl ⟨by rfl, fun w hSw => ?hybm6⟩) (by assumption) ?rbm6
      case hybm6 => (try dsimp only at hSw); go_simp; (try with_reducible rfl)
      (try simp only [Act.put, List.setIfInBounds_toArray, List.set_cons_zero, List.set_cons_succ])
      refine wpAnyH_take (i := 7) (oi := ({ dst := some 110, op := Op.fieldAddr 153 (Operand.tmp 4) 1, type := 0, pos := "help.go:118", after := #[], guard := none } : Oper)) (v := ?vbm7) rfl (by kernel_rfl) (by kernel_rfl) (by kernel_rfl) (fun _ _ _ h => h) (Or.inl ⟨by rfl, fun w hSw => ?hybm7⟩) (by assumption) ?rbm7
      case hybm7 => (try dsimp only at hSw); go_simp; (try with_reducible rfl)
      (try simp only [Act.put, List.setIfInBounds_toArray, List.set_cons_zero, List.set_cons_succ])
      refine wpAnyH_take (i := 8) (oi := ({ dst := some 111, op := Op.load 4 (Operand.tmp 110), type := 4, pos := "help.go:118", after := #[{ on := 7, ground := Ground.data }], guard := none } : Oper)) (v := ?vbm8) rfl (by kernel_rfl) (by kernel_rfl) (by kernel_rfl) (fun _ _ _ h => h) (Or.inl ⟨by rfl, fun w hSw => ?hybm8⟩) (by assumption) ?rbm8
      case hybm8 => (try dsimp only at hSw); go_simp; (try with_reducible rfl)
      (try simp only [Act.put, List.setIfInBounds_toArray, List.set_cons_zero, List.set_cons_succ])
      refine wpAnyH_ready (rs := [6]) (by kernel_rfl) (by simp) ?_
      refine AllReadyH.cons (o := ({ dst := some 109, op := Op.call { callee := Callee.value (Operand.func 27), args := #[Operand.tmp 107, Operand.tmp 108], argTypes := #[83, 3] }, type := 4, pos := "help.go:118", after := #[{ on := 4, ground := Ground.data }, { on := 5, ground := Ground.data }], guard := none } : Oper)) rfl (fun Kq hKq => ?_) AllReadyH.nil
      go_simp
      (refine (HASI.out _ hHeld.1).mono ?_; rintro e w3 ⟨rfl, rfl⟩)
      refine hKq.out _ _ ?_ (fun hHeld => ?_)
      · exact hHeld
      clear hKq Kq
      (try simp only [Act.put, List.setIfInBounds_toArray, List.set_cons_zero, List.set_cons_succ])
      refine wpAnyH_take (i := 9) (oi := ({ dst := some 112, op := Op.binOp BinOp.neq 4 (Operand.tmp 109) (Operand.tmp 111) 4, type := 4, pos := "help.go:118", after := #[{ on := 6, ground := Ground.data }, { on := 8, ground := Ground.data }], guard := none } : Oper)) (v := ?vbm9) rfl (by kernel_rfl) (by kernel_rfl) (by kernel_rfl) (fun _ _ _ h => h) (Or.inl ⟨by rfl, fun w hSw => ?hybm9⟩) (by assumption) ?rbm9
      case hybm9 => (try dsimp only at hSw); go_simp; (try with_reducible rfl)
      (try simp only [Act.put, List.setIfInBounds_toArray, List.set_cons_zero, List.set_cons_succ])
      refine wpAnyH_take (i := 10) (oi := ({ dst := some 113, op := Op.move (Operand.tmp 112), type := 4, pos := "help.go:118", after := #[{ on := 9, ground := Ground.data }, { on := 6, ground := Ground.chain }], guard := none } : Oper)) (v := ?vbm10) rfl (by kernel_rfl) (by kernel_rfl) (by kernel_rfl) (fun _ _ _ h => h) (Or.inl ⟨by rfl, fun w hSw => ?hybm10⟩) (by assumption) ?rbm10
      case hybm10 => (try dsimp only at hSw); go_simp; (try with_reducible rfl)
      (try simp only [Act.put, List.setIfInBounds_toArray, List.set_cons_zero, List.set_cons_succ])
      refine wpAnyH_take (i := 11) (oi := ({ dst := some 114, op := Op.fieldAddr 36 (Operand.tmp 1) 0, type := 0, pos := "help.go:118", after := #[{ on := 10, ground := Ground.guard }], guard := some (10, false) } : Oper)) (v := ?vbm11) rfl (by kernel_rfl) (by kernel_rfl) (by kernel_rfl) (fun _ _ _ h => h) (Or.inl ⟨by rfl, fun w hSw => ?hybm11⟩) (by assumption) ?rbm11
      case hybm11 => (try dsimp only at hSw); go_simp; (try with_reducible rfl)
      (try simp only [Act.put, List.setIfInBounds_toArray, List.set_cons_zero, List.set_cons_succ])
      refine wpAnyH_take (i := 12) (oi := ({ dst := some 115, op := Op.load 33 (Operand.tmp 114), type := 33, pos := "help.go:118", after := #[{ on := 11, ground := Ground.data }, { on := 10, ground := Ground.guard }], guard := some (10, false) } : Oper)) (v := ?vbm12) rfl (by kernel_rfl) (by kernel_rfl) (by kernel_rfl) (fun _ _ _ h => h) (Or.inl ⟨by rfl, fun w hSw => ?hybm12⟩) (by assumption) ?rbm12
      case hybm12 => (try dsimp only at hSw); go_simp; (try with_reducible rfl)
      (try simp only [Act.put, List.setIfInBounds_toArray, List.set_cons_zero, List.set_cons_succ])
      refine wpAnyH_take (i := 13) (oi := ({ dst := some 116, op := Op.nilCheck (Operand.tmp 115), type := 0, pos := "help.go:118", after := #[{ on := 12, ground := Ground.data }, { on := 10, ground := Ground.guard }], guard := some (10, false) } : Oper)) (v := ?vbm13) rfl (by kernel_rfl) (by kernel_rfl) (by kernel_rfl) (fun _ _ _ h => h) (Or.inl ⟨by rfl, fun w hSw => ?hybm13⟩) (by assumption) ?rbm13
      case hybm13 => (try dsimp only at hSw); go_simp; (try with_reducible rfl)
      (try simp only [Act.put, List.setIfInBounds_toArray, List.set_cons_zero, List.set_cons_succ])
      refine wpAnyH_take (i := 14) (oi := ({ dst := some 117, op := Op.fieldAddr 89 (Operand.tmp 116) 2, type := 0, pos := "help.go:118", after := #[{ on := 13, ground := Ground.data }, { on := 10, ground := Ground.guard }], guard := some (10, false) } : Oper)) (v := ?vbm14) rfl (by kernel_rfl) (by kernel_rfl) (by kernel_rfl) (fun _ _ _ h => h) (Or.inl ⟨by rfl, fun w hSw => ?hybm14⟩) (by assumption) ?rbm14
      case hybm14 => (try dsimp only at hSw); go_simp; (try with_reducible rfl)
      (try simp only [Act.put, List.setIfInBounds_toArray, List.set_cons_zero, List.set_cons_succ])
      refine wpAnyH_take (i := 15) (oi := ({ dst := some 118, op := Op.load 83 (Operand.tmp 117), type := 83, pos := "help.go:118", after := #[{ on := 14, ground := Ground.data }, { on := 10, ground := Ground.guard }], guard := some (10, false) } : Oper)) (v := ?vbm15) rfl (by kernel_rfl) (by kernel_rfl) (by kernel_rfl) (fun _ _ _ h => h) (Or.inl ⟨by rfl, fun w hSw => ?hybm15⟩) (by assumption) ?rbm15
      case hybm15 => (try dsimp only at hSw); go_simp; (try with_reducible rfl)
      (try simp only [Act.put, List.setIfInBounds_toArray, List.set_cons_zero, List.set_cons_succ])
      refine wpAnyH_take (i := 16) (oi := ({ dst := some 119, op := Op.move (Operand.tmp 3), type := 3, pos := "help.go:118", after := #[{ on := 10, ground := Ground.guard }], guard := some (10, false) } : Oper)) (v := ?vbm16) rfl (by kernel_rfl) (by kernel_rfl) (by kernel_rfl) (fun _ _ _ h => h) (Or.inl ⟨by rfl, fun w hSw => ?hybm16⟩) (by assumption) ?rbm16
      case hybm16 => (try dsimp only at hSw); go_simp; (try with_reducible rfl)
      (try simp only [Act.put, List.setIfInBounds_toArray, List.set_cons_zero, List.set_cons_succ])
      refine wpAnyH_take (i := 18) (oi := ({ dst := some 121, op := Op.fieldAddr 36 (Operand.tmp 1) 1, type := 0, pos := "help.go:118", after := #[{ on := 10, ground := Ground.guard }], guard := some (10, false) } : Oper)) (v := ?vbm17) rfl (by kernel_rfl) (by kernel_rfl) (by kernel_rfl) (fun _ _ _ h => h) (Or.inl ⟨by rfl, fun w hSw => ?hybm17⟩) (by assumption) ?rbm17
      case hybm17 => (try dsimp only at hSw); go_simp; (try with_reducible rfl)
      (try simp only [Act.put, List.setIfInBounds_toArray, List.set_cons_zero, List.set_cons_succ])
      refine wpAnyH_take (i := 19) (oi := ({ dst := some 122, op := Op.load 34 (Operand.tmp 121), type := 34, pos := "help.go:118", after := #[{ on := 18, ground := Ground.data }, { on := 10, ground := Ground.guard }], guard := some (10, false) } : Oper)) (v := ?vbm18) rfl (by kernel_rfl) (by kernel_rfl) (by kernel_rfl) (fun _ _ _ h => h) (Or.inl ⟨by rfl, fun w hSw => ?hybm18⟩) (by assumption) ?rbm18
      case hybm18 => (try dsimp only at hSw); go_simp; (try with_reducible rfl)
      (try simp only [Act.put, List.setIfInBounds_toArray, List.set_cons_zero, List.set_cons_succ])
      refine wpAnyH_take (i := 20) (oi := ({ dst := some 123, op := Op.nilCheck (Operand.tmp 122), type := 0, pos := "help.go:118", after := #[{ on := 19, ground := Ground.data }, { on := 10, ground := Ground.guard }], guard := some (10, false) } : Oper)) (v := ?vbm19) rfl (by kernel_rfl) (by kernel_rfl) (by kernel_rfl) (fun _ _ _ h => h) (Or.inl ⟨by rfl, fun w hSw => ?hybm19⟩) (by assumption) ?rbm19
      case hybm19 => (try dsimp only at hSw); go_simp; (try with_reducible rfl)
      (try simp only [Act.put, List.setIfInBounds_toArray, List.set_cons_zero, List.set_cons_succ])
      refine wpAnyH_take (i := 21) (oi := ({ dst := some 124, op := Op.fieldAddr 107 (Operand.tmp 123) 2, type := 0, pos := "help.go:118", after := #[{ on := 20, ground := Ground.data }, { on := 10, ground := Ground.guard }], guard := some (10, false) } : Oper)) (v := ?vbm20) rfl (by kernel_rfl) (by kernel_rfl) (by kernel_rfl) (fun _ _ _ h => h) (Or.inl ⟨by rfl, fun w hSw => ?hybm20⟩) (by assumption) ?rbm20
      case hybm20 => (try dsimp only at hSw); go_simp; (try with_reducible rfl)
      (try simp only [Act.put, List.setIfInBounds_toArray, List.set_cons_zero, List.set_cons_succ])
      refine wpAnyH_take (i := 22) (oi := ({ dst := some 125, op := Op.load 102 (Operand.tmp 124), type := 102, pos := "help.go:118", after := #[{ on := 21, ground := Ground.data }, { on := 10, ground := Ground.guard }], guard := some (10, false) } : Oper)) (v := ?vbm21) rfl (by kernel_rfl) (by kernel_rfl) (by kernel_rfl) (fun _ _ _ h => h) (Or.inl ⟨by rfl, fun w hSw => ?hybm21⟩) (by assumption) ?rbm21
      case hybm21 => (try dsimp only at hSw); go_simp; (try with_reducible rfl)
      (try simp only [Act.put, List.setIfInBounds_toArray, List.set_cons_zero, List.set_cons_succ])
      refine wpAnyH_take (i := 23) (oi := ({ dst := some 126, op := Op.move (Operand.tmp 3), type := 3, pos := "help.go:118", after := #[{ on := 10, ground := Ground.guard }], guard := some (10, false) } : Oper)) (v := ?vbm22) rfl (by kernel_rfl) (by kernel_rfl) (by kernel_rfl) (fun _ _ _ h => h) (Or.inl ⟨by rfl, fun w hSw => ?hybm22⟩) (by assumption) ?rbm22
      case hybm22 => (try dsimp only at hSw); go_simp; (try with_reducible rfl)
      (try simp only [Act.put, List.setIfInBounds_toArray, List.set_cons_zero, List.set_cons_succ])
      refine wpAnyH_ready (rs := [17]) (by kernel_rfl) (by simp) ?_
      refine AllReadyH.cons (o := ({ dst := some 120, op := Op.call { callee := Callee.value (Operand.func 67), args := #[Operand.tmp 118, Operand.tmp 119, Operand.const (Value.int IntKind.u64 0)], argTypes := #[83, 3, 22] }, type := 4, pos := "help.go:118", after := #[{ on := 15, ground := Ground.data }, { on := 16, ground := Ground.data }, { on := 10, ground := Ground.chain }, { on := 10, ground := Ground.guard }], guard := some (10, false) } : Oper)) rfl (fun Kq hKq => ?_) AllReadyH.nil
      go_simp
      (refine (HGO0.out _ hHeld.1).mono ?_; rintro e w3 ⟨rfl, hb⟩)
      refine hKq.out _ _ ?_ (fun hHeld => ?_)
      · exact SbF.new hHeld hb
      clear hKq Kq
      (try simp only [Act.put, List.setIfInBounds_toArray, List.set_cons_zero, List.set_cons_succ])
      refine wpAnyH_ready (rs := [24]) (by kernel_rfl) (by simp) ?_
      refine AllReadyH.cons (o := ({ dst := some 127, op := Op.call { callee := Callee.value (Operand.func 68), args := #[Operand.tmp 125, Operand.tmp 126, Operand.const (Value.int IntKind.u64 0)], argTypes := #[102, 3, 22] }, type := 4, pos := "help.go:118", after := #[{ on := 22, ground := Ground.data }, { on := 23, ground := Ground.data }, { on := 17, ground := Ground.chain }, { on := 10, ground := Ground.guard }], guard := some (10, false) } : Oper)) rfl (fun Kq hKq => ?_) AllReadyH.nil
      go_simp
      (refine (HRG0.out _ hHeld.1).mono ?_; rintro e w3 ⟨rfl, hb⟩)
      refine hKq.out _ _ ?_ (fun hHeld => ?_)
      · exact SbF.new hHeld hb
      clear hKq Kq
      (try simp only [Act.put, List.setIfInBounds_toArray, List.set_cons_zero, List.set_cons_succ])
      refine wpAnyH_take (i := 25) (oi := ({ dst := some 128, op := Op.binOp BinOp.neq 4 (Operand.tmp 120) (Operand.tmp 127) 4, type := 4, pos := "help.go:118", after := #[{ on := 17, ground := Ground.data }, { on := 24, ground := Ground.data }, { on := 10, ground := Ground.guard }], guard := some (10, false) } : Oper)) (v := ?vbm23) rfl (by kernel_rfl) (by kernel_rfl) (by kernel_rfl) (fun _ _ _ h => h) (Or.inl ⟨by rfl, fun w hSw => ?hybm23⟩) (by assumption) ?rbm23
      case hybm23 => (try dsimp only at hSw); go_simp; (try with_reducible rfl)
      (try simp only [Act.put, List.setIfInBounds_toArray, List.set_cons_zero, List.set_cons_succ])
      refine wpAnyH_take (i := 26) (oi := ({ dst := some 129, op := Op.pick (Operand.tmp 113) (Operand.const (Value.bool true)) (Operand.tmp 128), type := 4, pos := "help.go:118", after := #[{ on := 10, ground := Ground.data }, { on := 25, ground := Ground.data }], guard := none } : Oper)) (v := ?vbm24) rfl (by kernel_rfl) (by kernel_rfl) (by kernel_rfl) (fun _ _ _ h => h) (Or.inl ⟨by rfl, fun w hSw => ?hybm24⟩) (by assumption) ?rbm24
      case hybm24 => (try dsimp only at hSw); go_simp; (try with_reducible rfl)
      (try simp only [Act.put, List.setIfInBounds_toArray, List.set_cons_zero, List.set_cons_succ])
      refine wpAnyH_take (i := 27) (oi := ({ dst := some 130, op := Op.move (Operand.tmp 129), type := 4, pos := "help.go:118", after := #[{ on := 26, ground := Ground.data }, { on := 24, ground := Ground.chain }], guard := none } : Oper)) (v := ?vbm25) rfl (by kernel_rfl) (by kernel_rfl) (by kernel_rfl) (fun _ _ _ h => h) (Or.inl ⟨by rfl, fun w hSw => ?hybm25⟩) (by assumption) ?rbm25
      case hybm25 => (try dsimp only at hSw); go_simp; (try with_reducible rfl)
      (try simp only [Act.put, List.setIfInBounds_toArray, List.set_cons_zero, List.set_cons_succ])
      refine wpAnyH_take (i := 28) (oi := ({ dst := some 131, op := Op.fieldAddr 36 (Operand.tmp 1) 0, type := 0, pos := "help.go:118", after := #[{ on := 27, ground := Ground.guard }], guard := some (27, false) } : Oper)) (v := ?vbm26) rfl (by kernel_rfl) (by kernel_rfl) (by kernel_rfl) (fun _ _ _ h => h) (Or.inl ⟨by rfl, fun w hSw => ?hybm26⟩) (by assumption) ?rbm26
      case hybm26 => (try dsimp only at hSw); go_simp; (try with_reducible rfl)
      (try simp only [Act.put, List.setIfInBounds_toArray, List.set_cons_zero, List.set_cons_succ])
      refine wpAnyH_take (i := 29) (oi := ({ dst := some 132, op := Op.load 33 (Operand.tmp 131), type := 33, pos := "help.go:118", after := #[{ on := 28, ground := Ground.data }, { on := 27, ground := Ground.guard }], guard := some (27, false) } : Oper)) (v := ?vbm27) rfl (by kernel_rfl) (by kernel_rfl) (by kernel_rfl) (fun _ _ _ h => h) (Or.inl ⟨by rfl, fun w hSw => ?hybm27⟩) (by assumption) ?rbm27
      case hybm27 => (try dsimp only at hSw); go_simp; (try with_reducible rfl)
      (try simp only [Act.put, List.setIfInBounds_toArray, List.set_cons_zero, List.set_cons_succ])
      refine wpAnyH_take (i := 30) (oi := ({ dst := some 133, op := Op.nilCheck (Operand.tmp 132), type := 0, pos := "help.go:118", after := #[{ on := 29, ground := Ground.data }, { on := 27, ground := Ground.guard }], guard := some (27, false) } : Oper)) (v := ?vbm28) rfl (by kernel_rfl) (by kernel_rfl) (by kernel_rfl) (fun _ _ _ h => h) (Or.inl ⟨by rfl, fun w hSw => ?hybm28⟩) (by assumption) ?rbm28
      case hybm28 => (try dsimp only at hSw); go_simp; (try with_reducible rfl)
      (try simp only [Act.put, List.setIfInBounds_toArray, List.set_cons_zero, List.set_cons_succ])
      refine wpAnyH_take (i := 31) (oi := ({ dst := some 134, op := Op.fieldAddr 89 (Operand.tmp 133) 2, type := 0, pos := "help.go:118", after := #[{ on := 30, ground := Ground.data }, { on := 27, ground := Ground.guard }], guard := some (27, false) } : Oper)) (v := ?vbm29) rfl (by kernel_rfl) (by kernel_rfl) (by kernel_rfl) (fun _ _ _ h => h) (Or.inl ⟨by rfl, fun w hSw => ?hybm29⟩) (by assumption) ?rbm29
      case hybm29 => (try dsimp only at hSw); go_simp; (try with_reducible rfl)
      (try simp only [Act.put, List.setIfInBounds_toArray, List.set_cons_zero, List.set_cons_succ])
      refine wpAnyH_take (i := 32) (oi := ({ dst := some 135, op := Op.load 83 (Operand.tmp 134), type := 83, pos := "help.go:118", after := #[{ on := 31, ground := Ground.data }, { on := 27, ground := Ground.guard }], guard := some (27, false) } : Oper)) (v := ?vbm30) rfl (by kernel_rfl) (by kernel_rfl) (by kernel_rfl) (fun _ _ _ h => h) (Or.inl ⟨by rfl, fun w hSw => ?hybm30⟩) (by assumption) ?rbm30
      case hybm30 => (try dsimp only at hSw); go_simp; (try with_reducible rfl)
      (try simp only [Act.put, List.setIfInBounds_toArray, List.set_cons_zero, List.set_cons_succ])
      refine wpAnyH_take (i := 33) (oi := ({ dst := some 136, op := Op.move (Operand.tmp 3), type := 3, pos := "help.go:118", after := #[{ on := 27, ground := Ground.guard }], guard := some (27, false) } : Oper)) (v := ?vbm31) rfl (by kernel_rfl) (by kernel_rfl) (by kernel_rfl) (fun _ _ _ h => h) (Or.inl ⟨by rfl, fun w hSw => ?hybm31⟩) (by assumption) ?rbm31
      case hybm31 => (try dsimp only at hSw); go_simp; (try with_reducible rfl)
      (try simp only [Act.put, List.setIfInBounds_toArray, List.set_cons_zero, List.set_cons_succ])
      refine wpAnyH_take (i := 35) (oi := ({ dst := some 138, op := Op.fieldAddr 36 (Operand.tmp 1) 1, type := 0, pos := "help.go:118", after := #[{ on := 27, ground := Ground.guard }], guard := some (27, false) } : Oper)) (v := ?vbm32) rfl (by kernel_rfl) (by kernel_rfl) (by kernel_rfl) (fun _ _ _ h => h) (Or.inl ⟨by rfl, fun w hSw => ?hybm32⟩) (by assumption) ?rbm32
      case hybm32 => (try dsimp only at hSw); go_simp; (try with_reducible rfl)
      (try simp only [Act.put, List.setIfInBounds_toArray, List.set_cons_zero, List.set_cons_succ])
      refine wpAnyH_take (i := 36) (oi := ({ dst := some 139, op := Op.load 34 (Operand.tmp 138), type := 34, pos := "help.go:118", after := #[{ on := 35, ground := Ground.data }, { on := 27, ground := Ground.guard }], guard := some (27, false) } : Oper)) (v := ?vbm33) rfl (by kernel_rfl) (by kernel_rfl) (by kernel_rfl) (fun _ _ _ h => h) (Or.inl ⟨by rfl, fun w hSw => ?hybm33⟩) (by assumption) ?rbm33
      case hybm33 => (try dsimp only at hSw); go_simp; (try with_reducible rfl)
      (try simp only [Act.put, List.setIfInBounds_toArray, List.set_cons_zero, List.set_cons_succ])
      refine wpAnyH_take (i := 37) (oi := ({ dst := some 140, op := Op.nilCheck (Operand.tmp 139), type := 0, pos := "help.go:118", after := #[{ on := 36, ground := Ground.data }, { on := 27, ground := Ground.guard }], guard := some (27, false) } : Oper)) (v := ?vbm34) rfl (by kernel_rfl) (by kernel_rfl) (by kernel_rfl) (fun _ _ _ h => h) (Or.inl ⟨by rfl, fun w hSw => ?hybm34⟩) (by assumption) ?rbm34
      case hybm34 => (try dsimp only at hSw); go_simp; (try with_reducible rfl)
      (try simp only [Act.put, List.setIfInBounds_toArray, List.set_cons_zero, List.set_cons_succ])
      refine wpAnyH_take (i := 38) (oi := ({ dst := some 141, op := Op.fieldAddr 107 (Operand.tmp 140) 2, type := 0, pos := "help.go:118", after := #[{ on := 37, ground := Ground.data }, { on := 27, ground := Ground.guard }], guard := some (27, false) } : Oper)) (v := ?vbm35) rfl (by kernel_rfl) (by kernel_rfl) (by kernel_rfl) (fun _ _ _ h => h) (Or.inl ⟨by rfl, fun w hSw => ?hybm35⟩) (by assumption) ?rbm35
      case hybm35 => (try dsimp only at hSw); go_simp; (try with_reducible rfl)
      (try simp only [Act.put, List.setIfInBounds_toArray, List.set_cons_zero, List.set_cons_succ])
      refine wpAnyH_take (i := 39) (oi := ({ dst := some 142, op := Op.load 102 (Operand.tmp 141), type := 102, pos := "help.go:118", after := #[{ on := 38, ground := Ground.data }, { on := 27, ground := Ground.guard }], guard := some (27, false) } : Oper)) (v := ?vbm36) rfl (by kernel_rfl) (by kernel_rfl) (by kernel_rfl) (fun _ _ _ h => h) (Or.inl ⟨by rfl, fun w hSw => ?hybm36⟩) (by assumption) ?rbm36
      case hybm36 => (try dsimp only at hSw); go_simp; (try with_reducible rfl)
      (try simp only [Act.put, List.setIfInBounds_toArray, List.set_cons_zero, List.set_cons_succ])
      refine wpAnyH_take (i := 40) (oi := ({ dst := some 143, op := Op.move (Operand.tmp 3), type := 3, pos := "help.go:118", after := #[{ on := 27, ground := Ground.guard }], guard := some (27, false) } : Oper)) (v := ?vbm37) rfl (by kernel_rfl) (by kernel_rfl) (by kernel_rfl) (fun _ _ _ h => h) (Or.inl ⟨by rfl, fun w hSw => ?hybm37⟩) (by assumption) ?rbm37
      case hybm37 => (try dsimp only at hSw); go_simp; (try with_reducible rfl)
      (try simp only [Act.put, List.setIfInBounds_toArray, List.set_cons_zero, List.set_cons_succ])
      refine wpAnyH_ready (rs := [34]) (by kernel_rfl) (by simp) ?_
      refine AllReadyH.cons (o := ({ dst := some 137, op := Op.call { callee := Callee.value (Operand.func 67), args := #[Operand.tmp 135, Operand.tmp 136, Operand.const (Value.int IntKind.u64 18446744073709551615)], argTypes := #[83, 3, 22] }, type := 4, pos := "help.go:118", after := #[{ on := 32, ground := Ground.data }, { on := 33, ground := Ground.data }, { on := 27, ground := Ground.chain }, { on := 27, ground := Ground.guard }], guard := some (27, false) } : Oper)) rfl (fun Kq hKq => ?_) AllReadyH.nil
      go_simp
      (refine (HGO1.out _ hHeld.1).mono ?_; rintro e w3 ⟨rfl, hb⟩)
      refine hKq.out _ _ ?_ (fun hHeld => ?_)
      · exact SbF.new hHeld hb
      clear hKq Kq
      (try simp only [Act.put, List.setIfInBounds_toArray, List.set_cons_zero, List.set_cons_succ])
      refine wpAnyH_ready (rs := [41]) (by kernel_rfl) (by simp) ?_
      refine AllReadyH.cons (o := ({ dst := some 144, op := Op.call { callee := Callee.value (Operand.func 68), args := #[Operand.tmp 142, Operand.tmp 143, Operand.const (Value.int IntKind.u64 18446744073709551615)], argTypes := #[102, 3, 22] }, type := 4, pos := "help.go:118", after := #[{ on := 39, ground := Ground.data }, { on := 40, ground := Ground.data }, { on := 34, ground := Ground.chain }, { on := 27, ground := Ground.guard }], guard := some (27, false) } : Oper)) rfl (fun Kq hKq => ?_) AllReadyH.nil
      go_simp
      (refine (HRG1.out _ hHeld.1).mono ?_; rintro e w3 ⟨rfl, hb⟩)
      refine hKq.out _ _ ?_ (fun hHeld => ?_)
      · exact SbF.new hHeld hb
      clear hKq Kq
      (try simp only [Act.put, List.setIfInBounds_toArray, List.set_cons_zero, List.set_cons_succ])
      refine wpAnyH_take (i := 42) (oi := ({ dst := some 145, op := Op.binOp BinOp.neq 4 (Operand.tmp 137) (Operand.tmp 144) 4, type := 4, pos := "help.go:118", after := #[{ on := 34, ground := Ground.data }, { on := 41, ground := Ground.data }, { on := 27, ground := Ground.guard }], guard := some (27, false) } : Oper)) (v := ?vbm38) rfl (by kernel_rfl) (by kernel_rfl) (by kernel_rfl) (fun _ _ _ h => h) (Or.inl ⟨by rfl, fun w hSw => ?hybm38⟩) (by assumption) ?rbm38
      case hybm38 => (try dsimp only at hSw); go_simp; (try with_reducible rfl)
      (try simp only [Act.put, List.setIfInBounds_toArray, List.set_cons_zero, List.set_cons_succ])
      refine wpAnyH_take (i := 43) (oi := ({ dst := some 146, op := Op.pick (Operand.tmp 130) (Operand.const (Value.bool true)) (Operand.tmp 145), type := 4, pos := "help.go:118", after := #[{ on := 27, ground := Ground.data }, { on := 42, ground := Ground.data }], guard := none } : Oper)) (v := ?vbm39) rfl (by kernel_rfl) (by kernel_rfl) (by kernel_rfl) (fun _ _ _ h => h) (Or.inl ⟨by rfl, fun w hSw => ?hybm39⟩) (by assumption) ?rbm39
      case hybm39 => (try dsimp only at hSw); go_simp; (try with_reducible rfl)
      (try simp only [Act.put, List.setIfInBounds_toArray, List.set_cons_zero, List.set_cons_succ])
      refine wpAnyH_done (by kernel_rfl) ?_ _
      have HB9 := Lib.hid hHeld.1
      clear hHeld HASI HGO0 HGO1 HRG0 HRG1 HF7 HBY HBR
      go_wp2_with fail
      go_roundg (128 - (i + 1))
      case measure => have := HI.out; omega
      case rel => exact ⟨i + 1, by have := HI.out; omega, rfl, by go_num, HB9.out⟩
    · obtain rfl : i = 128 := by omega
      have HB4 := Lib.hid hb
      clear hb h3 e0 b0 b1 hi hi8
      go_wp2_with fail
      go_loopg [5, 6, 7, 8, 9] 64 (fun q s5 s6 s7 s8 s9 wx => ∃ i : Nat, i ≤ 64 ∧ q = 64 - i ∧ s5 = .int .i64 (i : Int) ∧ Below w2.heap.size w2 wx)
      case atStart => exact ⟨0, by omega, rfl, rfl, HB4.out⟩
      case round =>
        obtain ⟨i, hi, rfl, rfl, hb⟩ := hrel
        have h3 := H2.out.new hb
        have e0 := (hb.block B0 (Array.getElem?_eq_some_iff.1 HQ0.out).1).trans HQ0.out
        have b0 := cell_row e0 0; have b1 := cell_row e0 1
        simp only [List.getElem?_toArray, List.getElem?_cons_zero, List.getElem?_cons_succ] at b0 b1
        by_cases hi6 : i < 64
        · have hra : ∀ W, Below w2.heap.size w2 W → Calls Tryz.prog 69 #[Pw Y.lB, .int .i64 (i : Int)] W fun e w' => e = .returned (S5.lnk3 X.lk i) ∧ Below W.heap.size W w' := fun W q => by
            have := S5.rat_yes (H2.out.new q).pr.rlinks i hi6
            rwa [← HE.out.2] at this
          have hat := fun (W : World) (q : Below w2.heap.size w2 W) => S5.at_yes (H2.out.new q).pr.pw.links i hi6
          unfold S5.lnk3 at hra
          unfold S5.lnk at hat
          generalize (X.lk (i * 3) : Int) - 1 = v0 at *
          generalize (X.lk (i * 3 + 1) : Int) - 1 = v1 at *
          generalize (X.lk (i * 3 + 2) : Int) - 1 = v2 at *
          have r3 := h3.pr.r3
          rw [h3.rB] at r3
          obtain ⟨lB, hlB⟩ : ∃ x, x = X.lB := ⟨_, rfl⟩
          obtain ⟨rlB, hrlB⟩ : ∃ x, x = Y.lB := ⟨_, rfl⟩
          rw [← hrlB] at hra r3; rw [← hlB] at hat
          have d1 : (i : Int) < 64 := by omega
          have HRA := Lib.hid hra; have HAT := Lib.hid hat
          have HB5 := Lib.hid hb; have HI := Lib.hid hi6
          have HX3 : Hid (∀ W, Below w2.heap.size w2 W → W.cell? ⟨WB, 3, none⟩ = some (Pw lB) ∧ W.cell? ⟨B0, 0, none⟩ = some (Pw WB)) := Lib.hid (fun W q => by
            have g := H2.out.new q
            have x := g.pr.pw.c3
            rw [g.wB, ← hlB] at x
            have e := (q.block B0 (Array.getElem?_eq_some_iff.1 HQ0.out).1).trans HQ0.out
            exact ⟨x, cell_row e 0⟩)
          clear hra hat h3 e0 hb hi6 hi hlB hrlB
          go_upto_region 13 with (go_at_call 69; refine (HRA.out _ HB5.out).mono ?_; rintro e w5 ⟨rfl, hb5⟩)
          have HB6 := Lib.hid (HB5.out.trans (hb5.mono HB5.out.size))
          obtain ⟨x3, x0⟩ := HX3.out _ HB6.out
          clear hb5 b0 b1 r3
          go_upto_region 14 with (go_at_call 70; refine (HAT.out _ HB6.out).mono ?_; rintro e w6 ⟨rfl, hb6⟩)
          have hnx := heap_alloc_new w6 (.cells #[.int .i64 v0, .int .i64 v1, .int .i64 v2] 172)
          have hby := below1 w6 (.cells #[.int .i64 v0, .int .i64 v1, .int .i64 v2] 172)
          have HB7 := Lib.hid (HB6.out.trans ((hb6.mono HB6.out.size).trans (hby.mono (Nat.le_trans HB6.out.size hb6.size))))
          have y0 := cell_row hnx 0; have y1 := cell_row hnx 1; have y2 := cell_row hnx 2
          simp only [List.getElem?_toArray, List.getElem?_cons_zero, List.getElem?_cons_succ] at y0 y1 y2
          clear hnx hby hb6 x3 x0
          generalize w6.alloc (.cells #[.int .i64 v0, .int .i64 v1, .int .i64 v2] 172) = w7 at *
          generalize w6.heap.size = Bl at *
          go_wp2_with fail
          go_roundg (64 - (i + 1))
          case measure => have := HI.out; omega
          case rel => exact ⟨i + 1, by have := HI.out; omega, rfl, by go_num, HB7.out⟩
        · obtain rfl : i = 64 := by omega
          go_wp2_with fail
          go_ret
          exact ⟨rfl, HB1.out.trans (hb.mono HB1.out.size)⟩
end Go.Proofs.YtlflagjnlclffaaGreat.S12
namespace Go.Proofs.YtlflagjnlclffaaGreat.S14
open Go.Proofs.YtlflagjnlclffaaGreat Go.Proofs.YtlflagjnlclffaaGreat.S11 Go.Proofs.YtlflagjnlclffaaGreat.S12 Go.Proofs.YtlflagjnlclffaaGreat.S13
open Go.RowKit

theorem begin_void (w : World) : Calls Tryz.prog 7 #[.agg #[.int .i64 0, .int .u64 0, .slice none 0 0, .slice none 0 0, .slice none 0 0, .slice none 0 0, .int .u64 0]] w fun e w' => ∃ M X Y, e = .returned (.agg #[Pw X.wB, Pw Y.wB]) ∧ Bg w w' w.heap.size X.wB Y.wB 1200 2097164 7 M M [] X Y :=
  begin_any (sp := 0) (mo := 0) (dc := 0) (sn := 0) (sc := 0) (gn := 0) (gc := 0) (qn := 0) (qc := 0) (tk := 0) (D := []) (SA := fun _ => 0) (SV := fun _ => 0) (G := fun _ => 0) (Q := fun _ => default)
    (by simp) (by simp) (by omega) (by omega) S3.Rd.nil (fun d hd => by cases hd) (by omega) (fun h => absurd h (by omega)) (fun i hi => absurd hi (by omega)) (fun h => absurd h (by omega)) (fun i hi => absurd hi (by omega)) (by omega) (fun h => absurd h (by omega)) (fun i hi => absurd hi (by omega)) (by omega) (by omega)
theorem over_nilf (w : World) : Calls Tryz.prog 21 #[.pointer none] w fun e w' => e = .returned (.bool true) ∧ w = w' := by
  go_enter Tryz.func21, Tryz.ntmps21
  go_wp2_with fail
  go_ret
  exact ⟨rfl, rfl⟩
theorem step_nilf (WB : Nat) (w : World) : Calls Tryz.prog 22 #[.pointer none, Pw WB] w fun e w' => e = .returned (.bool true) ∧ w = w' := by
  have HO := Lib.hid over_nilf
  go_enter Tryz.func22, Tryz.ntmps22
  go_upto_region 3 with (go_at_call 21; refine (HO.out _).mono ?_; rintro e w2 ⟨rfl, rfl⟩)
  go_wp2_with (go_at_call 21; refine (HO.out _).mono ?_; rintro e w2 ⟨rfl, rfl⟩)
  go_ret
  exact ⟨rfl, rfl⟩
theorem step_overf {w : World} {B : Nat} (c0 : w.cell? ⟨B, 0, none⟩ = some (.int .u8 ((0 : Nat) : Int))) (WB : Nat) : Calls Tryz.prog 22 #[Pw B, Pw WB] w fun e w' => e = .returned (.bool true) ∧ w = w' := by
  have HO := Lib.hid (over_f c0)
  clear c0
  go_enter Tryz.func22, Tryz.ntmps22
  go_upto_region 3 with (go_at_call 21; refine HO.out.mono ?_; rintro e w2 ⟨rfl, rfl⟩)
  go_wp2_with (go_at_call 21; refine HO.out.mono ?_; rintro e w2 ⟨rfl, rfl⟩)
  go_ret
  exact ⟨rfl, rfl⟩
theorem step_now {w : World} {B : Nat} (c0 : w.cell? ⟨B, 0, none⟩ = some (.int .u8 ((1 : Nat) : Int))) : Calls Tryz.prog 22 #[Pw B, .pointer none] w fun e w' => e = .returned (.bool false) ∧ w = w' := by
  have HO := Lib.hid (over_f c0)
  clear c0
  go_enter Tryz.func22, Tryz.ntmps22
  go_upto_region 3 with (go_at_call 21; refine HO.out.mono ?_; rintro e w2 ⟨rfl, rfl⟩)
  go_wp2_with (go_at_call 21; refine HO.out.mono ?_; rintro e w2 ⟨rfl, rfl⟩)
  go_ret
  exact ⟨rfl, rfl⟩
set_option maxRecDepth 100000 in
set_option maxHeartbeats 4000000 in
theorem law_void (a : Nat) (w : World) : Calls Tryz.prog 5 #[.int .u32 (a : Int)] w fun e w' => e = .returned (.bool true) ∧ Below w.heap.size w w' := by
  have HBG := Lib.hid (begin_void w)
  have HLV := Lib.hid (fun W => lives14 W)
  have HNF : Hid (∀ W, Calls Tryz.prog 18 #[.int .u32 (a : Int)] W fun e w' => e = .returned (Pw W.heap.size) ∧ w' = W.alloc (.cells (fr0 a).cs 77)) := Lib.hid (fun W => new_free a W)
  have HON := Lib.hid over_nilf
  have HSN := Lib.hid step_nilf
  go_enter Tryz.func5, Tryz.ntmps5
  go_upto_region 5 with (first
    | (go_at_call 7; refine HBG.out.mono ?_; rintro e w2 ⟨M, X, Y, rfl, hbg⟩)
    | (go_at_call 18; refine (HNF.out _).mono ?_; rintro e w5 ⟨rfl, rfl⟩))
  obtain ⟨w3, hw3⟩ : ∃ w3, w3 = w2.alloc (.cells #[Pw X.wB, Pw Y.wB] 36) := ⟨_, rfl⟩
  obtain ⟨w4, hw4⟩ : ∃ w4, w4 = w3.alloc (.cells #[.int .u8 0, .int .u32 0, .bool false, .bool false, .int .i64 0, .int .i64 0] 77) := ⟨_, rfl⟩
  obtain ⟨w5, hw5⟩ : ∃ w5, w5 = w4.alloc (.cells (fr0 a).cs 77) := ⟨_, rfl⟩
  have b3 : Below w2.heap.size w2 w3 := by rw [hw3]; exact below1 _ _
  have b4 : Below w3.heap.size w3 w4 := by rw [hw4]; exact below1 _ _
  have b5 : Below w4.heap.size w4 w5 := by rw [hw5]; exact below1 _ _
  have z3 : w3.heap.size = w2.heap.size + 1 := by rw [hw3]; simp
  have z4 : w4.heap.size = w3.heap.size + 1 := by rw [hw4]; simp
  have q3 : w3.heap[w2.heap.size]? = some (.cells #[Pw X.wB, Pw Y.wB] 36 (0, 0)) := by rw [hw3]; exact heap_alloc_new _ _
  have q4 : w4.heap[w3.heap.size]? = some (.cells #[.int .u8 0, .int .u32 0, .bool false, .bool false, .int .i64 0, .int .i64 0] 77 (0, 0)) := by rw [hw4]; exact heap_alloc_new _ _
  have q5 : w5.heap[w4.heap.size]? = some (.cells (fr0 a).cs 77 (0, 0)) := by rw [hw5]; exact heap_alloc_new _ _
  have p5 := (b5.block w2.heap.size (by omega)).trans ((b4.block w2.heap.size (by omega)).trans q3)
  have v5 := (b5.block w3.heap.size (by omega)).trans q4
  have hbg5 := ((hbg.new b3).new b4).new b5
  rw [← hw3, ← hw4, ← hw5]
  have hall := pair_all hbg5 (by omega) (by omega)
  have c0 := cell_row p5 0; have c1 := cell_row p5 1
  have v0 := cell_row v5 0
  simp only [List.getElem?_toArray, List.getElem?_cons_zero, List.getElem?_cons_succ] at c0 c1 v0
  have x0 : w5.cell? ⟨w4.heap.size, 0, none⟩ = some (.int .u8 ((1 : Nat) : Int)) := cell_row q5 0
  have HVO : Hid (Calls Tryz.prog 21 #[Pw (w2.heap.size + 1)] w5 fun e w' => e = .returned (.bool true) ∧ w5 = w') := Lib.hid (by rw [← z3]; exact over_f (B := w3.heap.size) (n := 0) v0)
  have HVS : Hid (∀ WB, Calls Tryz.prog 22 #[Pw (w2.heap.size + 1), Pw WB] w5 fun e w' => e = .returned (.bool true) ∧ w5 = w') := Lib.hid (fun WB => by rw [← z3]; exact step_overf (B := w3.heap.size) v0 WB)
  have HXS : Hid (Calls Tryz.prog 22 #[Pw (w2.heap.size + 1 + 1), .pointer none] w5 fun e w' => e = .returned (.bool false) ∧ w5 = w') := Lib.hid (by rw [← z3, ← z4]; exact step_now x0)
  have HXO : Hid (Calls Tryz.prog 21 #[Pw (w2.heap.size + 1 + 1)] w5 fun e w' => e = .returned (.bool false) ∧ w5 = w') := Lib.hid (by rw [← z3, ← z4]; exact over_f x0)
  have HAL := Lib.hid hall
  have HB := Lib.hid hbg5.bl
  clear hw3 hw4 hw5 b3 b4 b5 z3 z4 q3 q4 q5 p5 v5 hbg hbg5 hall x0 v0
  generalize w2.heap.size = Q2 at *
  go_wp2_with (first
    | (go_at_call 21; (with_reducible refine HVO.out.mono ?_); rintro e w6 ⟨rfl, rfl⟩)
    | (go_at_call 21; (with_reducible refine (HON.out _).mono ?_); rintro e w6 ⟨rfl, rfl⟩)
    | (go_at_call 21; (with_reducible refine HXO.out.mono ?_); rintro e w6 ⟨rfl, rfl⟩)
    | (go_at_call 22; (with_reducible refine (HVS.out _).mono ?_); rintro e w6 ⟨rfl, rfl⟩)
    | (go_at_call 22; (with_reducible refine (HSN.out _ _).mono ?_); rintro e w6 ⟨rfl, rfl⟩)
    | (go_at_call 22; (with_reducible refine HXS.out.mono ?_); rintro e w6 ⟨rfl, rfl⟩)
    | (go_at_call 16; refine HAL.out.mono ?_; rintro e w7 ⟨rfl, hb7⟩; have HB7 := Lib.hid hb7; clear hb7)
    | (go_at_call 17; refine (HLV.out _).mono ?_; rintro e w8 ⟨rfl, hb8⟩; have HB8 := Lib.hid hb8; clear hb8))
  go_ret
  exact ⟨rfl, (HB.out.trans (HB7.out.mono HB.out.size)).trans (HB8.out.mono (Nat.le_trans HB.out.size HB7.out.size))⟩
end Go.Proofs.YtlflagjnlclffaaGreat.S14
