/- Texts of this seat, one behind the other. -/
import Derived.Test.YthafnphpcdbnlaaGreatDoorMLawNew41
import Derived.Deep.RegionHeld3
import Derived.Deep.QuietTactic
import Derived.BigQuiet
set_option linter.unusedVariables false
set_option linter.unusedSimpArgs false
set_option linter.unusedVariables false
set_option linter.unusedSimpArgs false
namespace Go.Proofs.YthafnphpcdbnlaaGreatDoor.S12
open Go.Proofs.YthafnphpcdbnlaaGreatDoor Go.Proofs.YthafnphpcdbnlaaGreatDoor.S11
open Go.RowKit

theorem merge {S P : World → Prop} {G : Prop} (h2 : (∀ W, S W → P W) → G) (h1 : ∀ W, S W → P W) : G := h2 h1
set_option maxRecDepth 100000 in
/-- The document's steps. -/
theorem rsteps_any {w : World} {RB rB pB : Nat} {n pn : Nat} (h0 : w.cell? ⟨RB, 0, none⟩ = some (Pw rB)) (h2 : w.cell? ⟨RB, 2, none⟩ = some (Pw pB)) (c : w.cell? ⟨rB, 1, none⟩ = some (.int .i64 (n : Int))) (p : w.cell? ⟨pB, 512, none⟩ = some (.int .i64 (pn : Int))) (h1 : n ≤ 1000000000) (h3 : pn ≤ 1000000000) :
    Calls Tryz.prog 56 #[Pw RB] w fun e w' => e = .returned (.int .i64 ((n + pn : Nat) : Int)) ∧ Below w.heap.size w w' := by
  have hw : IntKind.i64.wrap ((n : Int) + (pn : Int)) = ((n + pn : Nat) : Int) := by rw [IntKind.wrap_i64]; omega
  have hw2 : wrap64 ((n : Int) + (pn : Int)) = ((n + pn : Nat) : Int) := by unfold wrap64; omega
  go_enter Tryz.func56, Tryz.ntmps56
  go_wp2_with fail
  go_quiet (fail)
  go_wp2_with fail
  go_ret
  exact ⟨rfl, rfl, rfl, rfl, Nat.le_refl _, fun _ _ => rfl⟩
theorem eql131 (k a x y : Int) (w : World) : (binOp .eql 111 (.agg #[.int .u8 k, .int .u32 a, .int .u64 x, .int .u64 y]) (.agg #[.int .u8 k, .int .u32 a, .int .u64 x, .int .u64 y])).run Tryz.prog w = .ok (.bool true) w := by
  simp [go_sem, Tryz.underlying111]
/-- What Same looks at. -/
def SameF (w2 : World) (B0 B1 WB RB cB kB nB rB rkB rpB rnB k a was is nl nc kl kc : Nat) (kd pp : Int) (nA kA : Option Addr) (w' : World) : Prop := Below w2.heap.size w2 w' ∧ w'.cell? ⟨B0, 0, none⟩ = some (Pw WB) ∧ w'.cell? ⟨B0, 1, none⟩ = some (Pw RB) ∧ w'.cell? ⟨B1, 0, none⟩ = some (.int .u8 kd) ∧ w'.cell? ⟨B1, 1, none⟩ = some (.int .i64 pp) ∧ w'.cell? ⟨WB, 0, none⟩ = some (Pw cB) ∧ w'.cell? ⟨WB, 1, none⟩ = some (Pw kB) ∧ w'.cell? ⟨WB, 5, none⟩ = some (Pw nB) ∧ w'.cell? ⟨RB, 0, none⟩ = some (Pw rB) ∧ w'.cell? ⟨RB, 1, none⟩ = some (Pw rkB) ∧ w'.cell? ⟨RB, 2, none⟩ = some (Pw rpB) ∧ w'.cell? ⟨RB, 5, none⟩ = some (Pw rnB) ∧ w'.cell? ⟨rB, 2, none⟩ = some (.int .u8 k) ∧ w'.cell? ⟨rB, 3, none⟩ = some (.int .u32 a) ∧ w'.cell? ⟨rB, 4, none⟩ = some (.int .u64 was) ∧ w'.cell? ⟨rB, 5, none⟩ = some (.int .u64 is) ∧ w'.cell? ⟨rpB, 513, none⟩ = some (.int .i64 kd) ∧ w'.cell? ⟨rpB, 514, none⟩ = some (.int .i64 pp) ∧ w'.cell? ⟨rnB, 0, none⟩ = some (.slice nA nl nc) ∧ w'.cell? ⟨rkB, 1, none⟩ = some (.slice kA kl kc)
theorem SameF.new {w2 w' w'' : World} {B0 B1 WB RB cB kB nB rB rkB rpB rnB k a was is nl nc kl kc : Nat} {kd pp : Int} {nA kA : Option Addr} (h : SameF w2 B0 B1 WB RB cB kB nB rB rkB rpB rnB k a was is nl nc kl kc kd pp nA kA w') (hb : Below w'.heap.size w' w'') : SameF w2 B0 B1 WB RB cB kB nB rB rkB rpB rnB k a was is nl nc kl kc kd pp nA kA w'' := by
  obtain ⟨hb0, c0, c1, c2, c3, c4, c5, c6, c7, c8, c9, c10, c11, c12, c13, c14, c15, c16, c17, c18⟩ := h
  exact ⟨hb0.trans (hb.mono hb0.size), bcell hb c0, bcell hb c1, bcell hb c2, bcell hb c3, bcell hb c4, bcell hb c5, bcell hb c6, bcell hb c7, bcell hb c8, bcell hb c9, bcell hb c10, bcell hb c11, bcell hb c12, bcell hb c13, bcell hb c14, bcell hb c15, bcell hb c16, bcell hb c17, bcell hb c18⟩
set_option maxRecDepth 100000 in
set_option maxHeartbeats 8000000 in
theorem pair_same {w0 w : World} {base WB RB N cn tn : Nat} {M : Sd} {E : List Part} {X : Wm} {Y : Rm} (h : Bg w0 w base WB RB N cn tn M M E X Y) (hc : cn ≤ 1000000) :
    Calls Tryz.prog 27 #[.agg #[Pw WB, Pw RB]] w fun e w' => e = .returned (.bool true) ∧ Below w.heap.size w w' := by
  have hb1 : Below w.heap.size w (w.alloc (.cells #[Pw WB, Pw RB] 38)) := (Below.refl _ _).alloc (Nat.le_refl _) _
  have hq0 := heap_alloc_new w (.cells #[Pw WB, Pw RB] 38)
  have h1 := h.new hb1
  obtain ⟨B0, hB0⟩ : ∃ B0, B0 = w.heap.size := ⟨_, rfl⟩
  rw [← hB0] at hq0
  have c0 := cell_row hq0 0; have c1 := cell_row hq0 1
  simp only [List.getElem?_toArray, List.getElem?_cons_zero, List.getElem?_cons_succ] at c0 c1
  have k2 := h1.pr.pw.c2
  rw [h1.wB] at k2
  have HL := Lib.hid (fun (W : World) (q : Below (w.alloc (.cells #[Pw WB, Pw RB] 38)).heap.size (w.alloc (.cells #[Pw WB, Pw RB] 38)) W) => S4.last_any (h1.new q).pr.pw.permits)
  have H1 := Lib.hid h1; have HB1 := Lib.hid hb1; have HQ0 := Lib.hid hq0
  have HB0 := Lib.hid hB0
  clear hb1 hq0 h1 h hB0
  go_enter Tryz.func27, Tryz.ntmps27
  go_upto_region 3 with (fail)
  rw [← HB0.out]
  generalize w.alloc (.cells #[Pw WB, Pw RB] 38) = w1 at *
  go_upto_region 4 with (go_at_call 55; refine (HL.out _ (Below.refl _ _)).mono ?_; rintro e wl ⟨rfl, hbl⟩)
  have hn := heap_alloc_new wl (.cells #[.int .u8 X.pk, .int .i64 X.pp] 127)
  have hbx : Below w1.heap.size w1 (wl.alloc (.cells #[.int .u8 X.pk, .int .i64 X.pp] 127)) := hbl.alloc hbl.size _
  have h2 := H1.out.new hbx
  have e0 := (hbx.block B0 (Array.getElem?_eq_some_iff.1 HQ0.out).1).trans HQ0.out
  obtain ⟨B1, hB1⟩ : ∃ B1, B1 = wl.heap.size := ⟨_, rfl⟩
  rw [← hB1] at hn ⊢
  have HBX := Lib.hid (HB1.out.trans (hbx.mono HB1.out.size))
  clear hbx hbl c0 c1 k2 HL
  generalize wl.alloc (.cells #[.int .u8 X.pk, .int .i64 X.pp] 127) = w2 at *
  have b0 := cell_row e0 0; have b1 := cell_row e0 1; have d0 := cell_row hn 0; have d1 := cell_row hn 1
  simp only [List.getElem?_toArray, List.getElem?_cons_zero, List.getElem?_cons_succ] at b0 b1 d0 d1
  obtain ⟨nA, nc, hns, _⟩ := h2.pr.rnotes.own.shape
  obtain ⟨kA, kc, hks, _⟩ := h2.pr.rclock.own
  have heq : X.sd = Y.sd := by rw [h2.xm, h2.ym]
  have e_n : X.n = Y.n := congrArg Sd.n heq
  have e_pn : X.pn = Y.pn := congrArg Sd.pn heq
  have e_k : X.k = Y.k := congrArg Sd.k heq
  have e_a : X.a = Y.a := congrArg Sd.a heq
  have e_was : X.was = Y.was := congrArg Sd.was heq
  have e_is : X.is = Y.is := congrArg Sd.is heq
  have e_pk : X.pk = Y.pk := congrArg Sd.pk heq
  have e_pp : X.pp = Y.pp := congrArg Sd.pp heq
  have e_nD : X.nD = Y.nD := congrArg Sd.nD heq
  have e_D : X.D = Y.D := congrArg Sd.D heq
  have hst : ∀ W, Below w2.heap.size w2 W → Calls Tryz.prog 12 #[Pw WB] W fun e w' => e = .returned (.int .i64 ((X.n + X.pn : Nat) : Int)) ∧ Below W.heap.size W w' := fun W q => by
    have := h2.new q
    rw [← this.wB]
    exact steps_any this.pr.pw (by have := h2.xn; omega) (by have := h2.pn; omega)
  have hrs : ∀ W, Below w2.heap.size w2 W → Calls Tryz.prog 56 #[Pw RB] W fun e w' => e = .returned (.int .i64 ((X.n + X.pn : Nat) : Int)) ∧ Below W.heap.size W w' := fun W q => by
    have g := h2.new q
    rw [← g.rB, e_n, e_pn]
    exact rsteps_any g.pr.r0 g.pr.r2 (cell_row g.pr.rcells.row 1) g.pr.rpermits.cn (by have := h2.yn; omega) (by have := h2.yp; omega)
  have hcl : ∀ W, Below w2.heap.size w2 W → Calls Tryz.prog 57 #[Pw X.cB] W fun e w' => e = .returned (.agg #[.int .u8 X.k, .int .u32 X.a, .int .u64 X.was, .int .u64 X.is]) ∧ Below W.heap.size W w' := fun W q => S2.last_any W _ _ _ _ _ _ _ _ (h2.new q).pr.pw.cells
  have hnc : ∀ W, Below w2.heap.size w2 W → Calls Tryz.prog 58 #[Pw X.nB] W fun e w' => e = .returned (.int .i64 (X.nD.length : Nat)) ∧ W = w' := fun W q => S11.count_any (h2.new q).pr.pw.notes
  have hlf : ∀ W, Below w2.heap.size w2 W → Calls Tryz.prog 59 #[Pw X.kB] W fun e w' => e = .returned (.int .i64 (X.D.length : Nat)) ∧ W = w' := fun W q => S3.left_any (h2.new q).pr.pw.clock
  have f4 := h2.pr.pw.c0; have f5 := h2.pr.pw.c1; have f6 := h2.pr.pw.c5
  have f7 := h2.pr.r0; have f8 := h2.pr.r1; have f9 := h2.pr.r2; have f10 := h2.pr.r5
  have f11 := cell_row h2.pr.rcells.row 2; have f12 := cell_row h2.pr.rcells.row 3; have f13 := cell_row h2.pr.rcells.row 4; have f14 := cell_row h2.pr.rcells.row 5
  simp only [List.getElem?_toArray, List.getElem?_cons_zero, List.getElem?_cons_succ] at f11 f12 f13 f14
  have f15 := h2.pr.rpermits.ck; have f16 := h2.pr.rpermits.cp
  have f17 := h2.pr.rnotes.cell
  have f18 := cell_row h2.pr.rclock.row 1
  simp only [List.getElem?_toArray, List.getElem?_cons_zero, List.getElem?_cons_succ] at f18
  rw [hns] at f17
  rw [hks] at f18
  rw [h2.wB] at f4 f5 f6
  rw [h2.rB] at f7 f8 f9 f10
  rw [← e_k] at f11; rw [← e_a] at f12; rw [← e_was] at f13; rw [← e_is] at f14; rw [← e_pk] at f15; rw [← e_pp] at f16; rw [← e_nD] at f17; rw [← e_D] at f18
  have hpk := h2.pkr
  have hwk : IntKind.i64.wrap X.pk = X.pk := by rw [IntKind.wrap_i64]; omega
  have hwk2 : wrap64 X.pk = X.pk := by unfold wrap64; omega
  obtain ⟨kB, hkB⟩ : ∃ x, x = X.kB := ⟨_, rfl⟩
  obtain ⟨cB, hcB⟩ : ∃ x, x = X.cB := ⟨_, rfl⟩
  obtain ⟨nB, hnB⟩ : ∃ x, x = X.nB := ⟨_, rfl⟩
  obtain ⟨rB, hrB⟩ : ∃ x, x = Y.rB := ⟨_, rfl⟩
  obtain ⟨rkB, hrkB⟩ : ∃ x, x = Y.kB := ⟨_, rfl⟩
  obtain ⟨rpB, hrpB⟩ : ∃ x, x = Y.pB := ⟨_, rfl⟩
  obtain ⟨rnB, hrnB⟩ : ∃ x, x = Y.nB := ⟨_, rfl⟩
  obtain ⟨k, hk⟩ : ∃ x, x = X.k := ⟨_, rfl⟩
  obtain ⟨a, ha⟩ : ∃ x, x = X.a := ⟨_, rfl⟩
  obtain ⟨was, hwas⟩ : ∃ x, x = X.was := ⟨_, rfl⟩
  obtain ⟨is, his⟩ : ∃ x, x = X.is := ⟨_, rfl⟩
  obtain ⟨nl, hnl⟩ : ∃ x, x = X.nD.length := ⟨_, rfl⟩
  obtain ⟨kl, hkl⟩ : ∃ x, x = X.D.length := ⟨_, rfl⟩
  obtain ⟨nn, hnn⟩ : ∃ x, x = X.n + X.pn := ⟨_, rfl⟩
  obtain ⟨kd, hkd⟩ : ∃ x, x = X.pk := ⟨_, rfl⟩
  obtain ⟨pp, hpp⟩ : ∃ x, x = X.pp := ⟨_, rfl⟩
  rw [← hnn] at hst hrs
  rw [← hcB, ← hk, ← ha, ← hwas, ← his] at hcl
  rw [← hnB, ← hnl] at hnc
  rw [← hkB, ← hkl] at hlf
  rw [← hcB] at f4; rw [← hkB] at f5; rw [← hnB] at f6; rw [← hrB] at f7 f11 f12 f13 f14; rw [← hrkB] at f8 f18; rw [← hrpB] at f9 f15 f16; rw [← hrnB] at f10 f17
  rw [← hk] at f11; rw [← ha] at f12; rw [← hwas] at f13; rw [← his] at f14; rw [← hkd] at f15 hwk hwk2 d0; rw [← hpp] at f16 d1; rw [← hnl] at f17; rw [← hkl] at f18
  have hev := fun W => eql131 k a was is W
  have HST := Lib.hid hst; have HRS := Lib.hid hrs; have HCL := Lib.hid hcl; have HNC := Lib.hid hnc; have HLF := Lib.hid hlf
  have HF : Hid (w2.drew.cell? ⟨B0, 0, none⟩ = some (Pw WB) ∧ w2.drew.cell? ⟨B0, 1, none⟩ = some (Pw RB) ∧ w2.drew.cell? ⟨B1, 0, none⟩ = some (.int .u8 kd) ∧ w2.drew.cell? ⟨B1, 1, none⟩ = some (.int .i64 pp) ∧ w2.drew.cell? ⟨WB, 0, none⟩ = some (Pw cB) ∧ w2.drew.cell? ⟨WB, 1, none⟩ = some (Pw kB) ∧ w2.drew.cell? ⟨WB, 5, none⟩ = some (Pw nB) ∧ w2.drew.cell? ⟨RB, 0, none⟩ = some (Pw rB) ∧ w2.drew.cell? ⟨RB, 1, none⟩ = some (Pw rkB) ∧ w2.drew.cell? ⟨RB, 2, none⟩ = some (Pw rpB) ∧ w2.drew.cell? ⟨RB, 5, none⟩ = some (Pw rnB) ∧ w2.drew.cell? ⟨rB, 2, none⟩ = some (.int .u8 k) ∧ w2.drew.cell? ⟨rB, 3, none⟩ = some (.int .u32 a) ∧ w2.drew.cell? ⟨rB, 4, none⟩ = some (.int .u64 was) ∧ w2.drew.cell? ⟨rB, 5, none⟩ = some (.int .u64 is) ∧ w2.drew.cell? ⟨rpB, 513, none⟩ = some (.int .i64 kd) ∧ w2.drew.cell? ⟨rpB, 514, none⟩ = some (.int .i64 pp) ∧ w2.drew.cell? ⟨rnB, 0, none⟩ = some (.slice nA nl nc) ∧ w2.drew.cell? ⟨rkB, 1, none⟩ = some (.slice kA kl kc)) := Lib.hid ⟨b0, b1, d0, d1, f4, f5, f6, f7, f8, f9, f10, f11, f12, f13, f14, f15, f16, f17, f18⟩
  clear hst hrs hcl hnc hlf b0 b1 d0 d1 f4 f5 f6 f7 f8 f9 f10 f11 f12 f13 f14 f15 f16 f17 f18 e0 hn h2 heq e_n e_pn e_k e_a e_was e_is e_pk e_pp e_nD e_D hns hks H1 HB1 HQ0 hpk hcB hkB hnB hrB hrkB hrpB hrnB hk ha hwas his hnl hkl hnn hkd hpp hB1 HB0 hc
  (try simp only [List.append_eq, List.cons_append, List.nil_append])
  refine wp_region_held_drew (S := fun w' => Below w2.heap.size w2 w' ∧ w'.cell? ⟨B0, 0, none⟩ = some (Pw WB) ∧ w'.cell? ⟨B0, 1, none⟩ = some (Pw RB) ∧ w'.cell? ⟨B1, 0, none⟩ = some (.int .u8 kd) ∧ w'.cell? ⟨B1, 1, none⟩ = some (.int .i64 pp) ∧ w'.cell? ⟨WB, 0, none⟩ = some (Pw cB) ∧ w'.cell? ⟨WB, 1, none⟩ = some (Pw kB) ∧ w'.cell? ⟨WB, 5, none⟩ = some (Pw nB) ∧ w'.cell? ⟨RB, 0, none⟩ = some (Pw rB) ∧ w'.cell? ⟨RB, 1, none⟩ = some (Pw rkB) ∧ w'.cell? ⟨RB, 2, none⟩ = some (Pw rpB) ∧ w'.cell? ⟨RB, 5, none⟩ = some (Pw rnB) ∧ w'.cell? ⟨rB, 2, none⟩ = some (.int .u8 k) ∧ w'.cell? ⟨rB, 3, none⟩ = some (.int .u32 a) ∧ w'.cell? ⟨rB, 4, none⟩ = some (.int .u64 was) ∧ w'.cell? ⟨rB, 5, none⟩ = some (.int .u64 is) ∧ w'.cell? ⟨rpB, 513, none⟩ = some (.int .i64 kd) ∧ w'.cell? ⟨rpB, 514, none⟩ = some (.int .i64 pp) ∧ w'.cell? ⟨rnB, 0, none⟩ = some (.slice nA nl nc) ∧ w'.cell? ⟨rkB, 1, none⟩ = some (.slice kA kl kc)) (by kernel_rfl) ?_ (fun hHeld => ?_)
  · exact ⟨(Below.refl _ _).drew, HF.out⟩
  refine wpAnyH_take (i := 0) (oi := ({ dst := some 18, op := Op.fieldAddr 38 (Operand.tmp 1) 0, type := 0, pos := "help.go:108", after := #[], guard := none } : Oper)) (v := ?vam1) rfl (by kernel_rfl) (by kernel_rfl) (by kernel_rfl) (fun _ _ _ h => h) (Or.inl ⟨by rfl, fun w hSw => ?hyam1⟩) (by assumption) ?ram1
  case hyam1 => (try dsimp only at hSw); go_simp; (try with_reducible rfl)
  (try simp only [Act.put, List.setIfInBounds_toArray, List.set_cons_zero, List.set_cons_succ])
  refine wpAnyH_take (i := 1) (oi := ({ dst := some 19, op := Op.load 28 (Operand.tmp 18), type := 28, pos := "help.go:108", after := #[{ on := 0, ground := Ground.data }], guard := none } : Oper)) (v := ?vam2) rfl (by kernel_rfl) (by kernel_rfl) (by kernel_rfl) (fun _ _ _ h => h) (Or.inl ⟨by rfl, fun w hSw => ?hyam2⟩) (by assumption) ?ram2
  case hyam2 => (try dsimp only at hSw); go_simp; (try with_reducible rfl)
  (try simp only [Act.put, List.setIfInBounds_toArray, List.set_cons_zero, List.set_cons_succ])
  refine wpAnyH_take (i := 3) (oi := ({ dst := some 21, op := Op.fieldAddr 38 (Operand.tmp 1) 1, type := 0, pos := "help.go:108", after := #[], guard := none } : Oper)) (v := ?vam3) rfl (by kernel_rfl) (by kernel_rfl) (by kernel_rfl) (fun _ _ _ h => h) (Or.inl ⟨by rfl, fun w hSw => ?hyam3⟩) (by assumption) ?ram3
  case hyam3 => (try dsimp only at hSw); go_simp; (try with_reducible rfl)
  (try simp only [Act.put, List.setIfInBounds_toArray, List.set_cons_zero, List.set_cons_succ])
  refine wpAnyH_take (i := 4) (oi := ({ dst := some 22, op := Op.load 32 (Operand.tmp 21), type := 32, pos := "help.go:108", after := #[{ on := 3, ground := Ground.data }], guard := none } : Oper)) (v := ?vam4) rfl (by kernel_rfl) (by kernel_rfl) (by kernel_rfl) (fun _ _ _ h => h) (Or.inl ⟨by rfl, fun w hSw => ?hyam4⟩) (by assumption) ?ram4
  case hyam4 => (try dsimp only at hSw); go_simp; (try with_reducible rfl)
  (try simp only [Act.put, List.setIfInBounds_toArray, List.set_cons_zero, List.set_cons_succ])
  refine wpAnyH_ready (rs := [2]) (by kernel_rfl) (by simp) ?_
  refine AllReadyH.cons (o := ({ dst := some 20, op := Op.call { callee := Callee.value (Operand.func 12), args := #[Operand.tmp 19], argTypes := #[28] }, type := 3, pos := "help.go:108", after := #[{ on := 1, ground := Ground.data }], guard := none } : Oper)) rfl (fun Kq hKq => ?_) AllReadyH.nil
  go_simp
  (refine (HST.out _ hHeld.1).mono ?_; rintro e w3 ⟨rfl, hb⟩)
  refine hKq.out _ _ ?_ (fun hHeld => ?_)
  · exact SameF.new hHeld hb
  clear hKq Kq
  (try simp only [Act.put, List.setIfInBounds_toArray, List.set_cons_zero, List.set_cons_succ])
  refine wpAnyH_ready (rs := [5]) (by kernel_rfl) (by simp) ?_
  refine AllReadyH.cons (o := ({ dst := some 23, op := Op.call { callee := Callee.value (Operand.func 56), args := #[Operand.tmp 22], argTypes := #[32] }, type := 3, pos := "help.go:108", after := #[{ on := 4, ground := Ground.data }, { on := 2, ground := Ground.chain }], guard := none } : Oper)) rfl (fun Kq hKq => ?_) AllReadyH.nil
  go_simp
  (refine (HRS.out _ hHeld.1).mono ?_; rintro e w3 ⟨rfl, hb⟩)
  refine hKq.out _ _ ?_ (fun hHeld => ?_)
  · exact SameF.new hHeld hb
  clear hKq Kq
  (try simp only [Act.put, List.setIfInBounds_toArray, List.set_cons_zero, List.set_cons_succ])
  refine wpAnyH_take (i := 6) (oi := ({ dst := some 24, op := Op.binOp BinOp.eql 3 (Operand.tmp 20) (Operand.tmp 23) 3, type := 4, pos := "help.go:108", after := #[{ on := 2, ground := Ground.data }, { on := 5, ground := Ground.data }], guard := none } : Oper)) (v := ?vam5) rfl (by kernel_rfl) (by kernel_rfl) (by kernel_rfl) (fun _ _ _ h => h) (Or.inl ⟨by rfl, fun w hSw => ?hyam5⟩) (by assumption) ?ram5
  case hyam5 => (try dsimp only at hSw); go_simp; (try with_reducible rfl)
  (try simp only [Act.put, List.setIfInBounds_toArray, List.set_cons_zero, List.set_cons_succ])
  refine wpAnyH_take (i := 7) (oi := ({ dst := some 25, op := Op.move (Operand.tmp 24), type := 4, pos := "help.go:108", after := #[{ on := 6, ground := Ground.data }, { on := 5, ground := Ground.chain }], guard := none } : Oper)) (v := ?vam6) rfl (by kernel_rfl) (by kernel_rfl) (by kernel_rfl) (fun _ _ _ h => h) (Or.inl ⟨by rfl, fun w hSw => ?hyam6⟩) (by assumption) ?ram6
  case hyam6 => (try dsimp only at hSw); go_simp; (try with_reducible rfl)
  (try simp only [Act.put, List.setIfInBounds_toArray, List.set_cons_zero, List.set_cons_succ])
  refine wpAnyH_take (i := 8) (oi := ({ dst := some 26, op := Op.fieldAddr 38 (Operand.tmp 1) 0, type := 0, pos := "help.go:108", after := #[{ on := 7, ground := Ground.guard }], guard := some (7, true) } : Oper)) (v := ?vam7) rfl (by kernel_rfl) (by kernel_rfl) (by kernel_rfl) (fun _ _ _ h => h) (Or.inl ⟨by rfl, fun w hSw => ?hyam7⟩) (by assumption) ?ram7
  case hyam7 => (try dsimp only at hSw); go_simp; (try with_reducible rfl)
  (try simp only [Act.put, List.setIfInBounds_toArray, List.set_cons_zero, List.set_cons_succ])
  refine wpAnyH_take (i := 9) (oi := ({ dst := some 27, op := Op.load 28 (Operand.tmp 26), type := 28, pos := "help.go:108", after := #[{ on := 8, ground := Ground.data }, { on := 7, ground := Ground.guard }], guard := some (7, true) } : Oper)) (v := ?vam8) rfl (by kernel_rfl) (by kernel_rfl) (by kernel_rfl) (fun _ _ _ h => h) (Or.inl ⟨by rfl, fun w hSw => ?hyam8⟩) (by assumption) ?ram8
  case hyam8 => (try dsimp only at hSw); go_simp; (try with_reducible rfl)
  (try simp only [Act.put, List.setIfInBounds_toArray, List.set_cons_zero, List.set_cons_succ])
  refine wpAnyH_take (i := 10) (oi := ({ dst := some 28, op := Op.nilCheck (Operand.tmp 27), type := 0, pos := "help.go:108", after := #[{ on := 9, ground := Ground.data }, { on := 7, ground := Ground.guard }], guard := some (7, true) } : Oper)) (v := ?vam9) rfl (by kernel_rfl) (by kernel_rfl) (by kernel_rfl) (fun _ _ _ h => h) (Or.inl ⟨by rfl, fun w hSw => ?hyam9⟩) (by assumption) ?ram9
  case hyam9 => (try dsimp only at hSw); go_simp; (try with_reducible rfl)
  (try simp only [Act.put, List.setIfInBounds_toArray, List.set_cons_zero, List.set_cons_succ])
  refine wpAnyH_take (i := 11) (oi := ({ dst := some 29, op := Op.fieldAddr 47 (Operand.tmp 28) 0, type := 0, pos := "help.go:108", after := #[{ on := 10, ground := Ground.data }, { on := 7, ground := Ground.guard }], guard := some (7, true) } : Oper)) (v := ?vam10) rfl (by kernel_rfl) (by kernel_rfl) (by kernel_rfl) (fun _ _ _ h => h) (Or.inl ⟨by rfl, fun w hSw => ?hyam10⟩) (by assumption) ?ram10
  case hyam10 => (try dsimp only at hSw); go_simp; (try with_reducible rfl)
  (try simp only [Act.put, List.setIfInBounds_toArray, List.set_cons_zero, List.set_cons_succ])
  refine wpAnyH_take (i := 12) (oi := ({ dst := some 30, op := Op.load 39 (Operand.tmp 29), type := 39, pos := "help.go:108", after := #[{ on := 11, ground := Ground.data }, { on := 7, ground := Ground.guard }], guard := some (7, true) } : Oper)) (v := ?vam11) rfl (by kernel_rfl) (by kernel_rfl) (by kernel_rfl) (fun _ _ _ h => h) (Or.inl ⟨by rfl, fun w hSw => ?hyam11⟩) (by assumption) ?ram11
  case hyam11 => (try dsimp only at hSw); go_simp; (try with_reducible rfl)
  (try simp only [Act.put, List.setIfInBounds_toArray, List.set_cons_zero, List.set_cons_succ])
  refine wpAnyH_take (i := 14) (oi := ({ dst := some 32, op := Op.fieldAddr 38 (Operand.tmp 1) 1, type := 0, pos := "help.go:108", after := #[{ on := 7, ground := Ground.guard }], guard := some (7, true) } : Oper)) (v := ?vam12) rfl (by kernel_rfl) (by kernel_rfl) (by kernel_rfl) (fun _ _ _ h => h) (Or.inl ⟨by rfl, fun w hSw => ?hyam12⟩) (by assumption) ?ram12
  case hyam12 => (try dsimp only at hSw); go_simp; (try with_reducible rfl)
  (try simp only [Act.put, List.setIfInBounds_toArray, List.set_cons_zero, List.set_cons_succ])
  refine wpAnyH_take (i := 15) (oi := ({ dst := some 33, op := Op.load 32 (Operand.tmp 32), type := 32, pos := "help.go:108", after := #[{ on := 14, ground := Ground.data }, { on := 7, ground := Ground.guard }], guard := some (7, true) } : Oper)) (v := ?vam13) rfl (by kernel_rfl) (by kernel_rfl) (by kernel_rfl) (fun _ _ _ h => h) (Or.inl ⟨by rfl, fun w hSw => ?hyam13⟩) (by assumption) ?ram13
  case hyam13 => (try dsimp only at hSw); go_simp; (try with_reducible rfl)
  (try simp only [Act.put, List.setIfInBounds_toArray, List.set_cons_zero, List.set_cons_succ])
  refine wpAnyH_take (i := 16) (oi := ({ dst := some 34, op := Op.nilCheck (Operand.tmp 33), type := 0, pos := "help.go:108", after := #[{ on := 15, ground := Ground.data }, { on := 7, ground := Ground.guard }], guard := some (7, true) } : Oper)) (v := ?vam14) rfl (by kernel_rfl) (by kernel_rfl) (by kernel_rfl) (fun _ _ _ h => h) (Or.inl ⟨by rfl, fun w hSw => ?hyam14⟩) (by assumption) ?ram14
  case hyam14 => (try dsimp only at hSw); go_simp; (try with_reducible rfl)
  (try simp only [Act.put, List.setIfInBounds_toArray, List.set_cons_zero, List.set_cons_succ])
  refine wpAnyH_take (i := 17) (oi := ({ dst := some 35, op := Op.fieldAddr 55 (Operand.tmp 34) 0, type := 0, pos := "help.go:108", after := #[{ on := 16, ground := Ground.data }, { on := 7, ground := Ground.guard }], guard := some (7, true) } : Oper)) (v := ?vam15) rfl (by kernel_rfl) (by kernel_rfl) (by kernel_rfl) (fun _ _ _ h => h) (Or.inl ⟨by rfl, fun w hSw => ?hyam15⟩) (by assumption) ?ram15
  case hyam15 => (try dsimp only at hSw); go_simp; (try with_reducible rfl)
  (try simp only [Act.put, List.setIfInBounds_toArray, List.set_cons_zero, List.set_cons_succ])
  refine wpAnyH_take (i := 18) (oi := ({ dst := some 36, op := Op.load 48 (Operand.tmp 35), type := 48, pos := "help.go:108", after := #[{ on := 17, ground := Ground.data }, { on := 7, ground := Ground.guard }], guard := some (7, true) } : Oper)) (v := ?vam16) rfl (by kernel_rfl) (by kernel_rfl) (by kernel_rfl) (fun _ _ _ h => h) (Or.inl ⟨by rfl, fun w hSw => ?hyam16⟩) (by assumption) ?ram16
  case hyam16 => (try dsimp only at hSw); go_simp; (try with_reducible rfl)
  (try simp only [Act.put, List.setIfInBounds_toArray, List.set_cons_zero, List.set_cons_succ])
  refine wpAnyH_take (i := 19) (oi := ({ dst := some 37, op := Op.nilCheck (Operand.tmp 36), type := 0, pos := "help.go:108", after := #[{ on := 18, ground := Ground.data }, { on := 7, ground := Ground.guard }], guard := some (7, true) } : Oper)) (v := ?vam17) rfl (by kernel_rfl) (by kernel_rfl) (by kernel_rfl) (fun _ _ _ h => h) (Or.inl ⟨by rfl, fun w hSw => ?hyam17⟩) (by assumption) ?ram17
  case hyam17 => (try dsimp only at hSw); go_simp; (try with_reducible rfl)
  (try simp only [Act.put, List.setIfInBounds_toArray, List.set_cons_zero, List.set_cons_succ])
  refine wpAnyH_take (i := 20) (oi := ({ dst := some 38, op := Op.fieldAddr 152 (Operand.tmp 37) 2, type := 0, pos := "help.go:108", after := #[{ on := 19, ground := Ground.data }, { on := 7, ground := Ground.guard }], guard := some (7, true) } : Oper)) (v := ?vam18) rfl (by kernel_rfl) (by kernel_rfl) (by kernel_rfl) (fun _ _ _ h => h) (Or.inl ⟨by rfl, fun w hSw => ?hyam18⟩) (by assumption) ?ram18
  case hyam18 => (try dsimp only at hSw); go_simp; (try with_reducible rfl)
  (try simp only [Act.put, List.setIfInBounds_toArray, List.set_cons_zero, List.set_cons_succ])
  refine wpAnyH_take (i := 21) (oi := ({ dst := some 39, op := Op.load 111 (Operand.tmp 38), type := 111, pos := "help.go:108", after := #[{ on := 20, ground := Ground.data }, { on := 7, ground := Ground.guard }], guard := some (7, true) } : Oper)) (v := ?vam19) rfl (by kernel_rfl) (by kernel_rfl) (by kernel_rfl) (fun _ _ _ h => h) (Or.inl ⟨by rfl, fun w hSw => ?hyam19⟩) (by assumption) ?ram19
  case hyam19 => (try dsimp only at hSw); go_simp; (try with_reducible rfl)
  (try simp only [Act.put, List.setIfInBounds_toArray, List.set_cons_zero, List.set_cons_succ])
  refine wpAnyH_ready (rs := [13]) (by kernel_rfl) (by simp) ?_
  refine AllReadyH.cons (o := ({ dst := some 31, op := Op.call { callee := Callee.value (Operand.func 57), args := #[Operand.tmp 30], argTypes := #[39] }, type := 111, pos := "help.go:108", after := #[{ on := 12, ground := Ground.data }, { on := 7, ground := Ground.chain }, { on := 7, ground := Ground.guard }], guard := some (7, true) } : Oper)) rfl (fun Kq hKq => ?_) AllReadyH.nil
  go_simp
  (refine (HCL.out _ hHeld.1).mono ?_; rintro e w3 ⟨rfl, hb⟩)
  refine hKq.out _ _ ?_ (fun hHeld => ?_)
  · exact SameF.new hHeld hb
  clear hKq Kq
  (try simp only [Act.put, List.setIfInBounds_toArray, List.set_cons_zero, List.set_cons_succ])
  refine wpAnyH_take (i := 22) (oi := ({ dst := some 40, op := Op.binOp BinOp.eql 111 (Operand.tmp 31) (Operand.tmp 39) 111, type := 4, pos := "help.go:108", after := #[{ on := 13, ground := Ground.data }, { on := 21, ground := Ground.data }, { on := 7, ground := Ground.guard }], guard := some (7, true) } : Oper)) (v := ?vam20) rfl (by kernel_rfl) (by kernel_rfl) (by kernel_rfl) (fun _ _ _ h => h) (Or.inl ⟨by rfl, fun w hSw => ?hyam20⟩) (by assumption) ?ram20
  case hyam20 => (try dsimp only at hSw); go_simp; (try with_reducible rfl)
  (try simp only [Act.put, List.setIfInBounds_toArray, List.set_cons_zero, List.set_cons_succ])
  refine wpAnyH_take (i := 23) (oi := ({ dst := some 41, op := Op.pick (Operand.tmp 25) (Operand.tmp 40) (Operand.const (Value.bool false)), type := 4, pos := "help.go:108", after := #[{ on := 7, ground := Ground.data }, { on := 22, ground := Ground.data }], guard := none } : Oper)) (v := ?vam21) rfl (by kernel_rfl) (by kernel_rfl) (by kernel_rfl) (fun _ _ _ h => h) (Or.inl ⟨by rfl, fun w hSw => ?hyam21⟩) (by assumption) ?ram21
  case hyam21 => (try dsimp only at hSw); go_simp; (try with_reducible rfl)
  (try simp only [Act.put, List.setIfInBounds_toArray, List.set_cons_zero, List.set_cons_succ])
  refine wpAnyH_take (i := 24) (oi := ({ dst := some 42, op := Op.move (Operand.tmp 41), type := 4, pos := "help.go:108", after := #[{ on := 23, ground := Ground.data }, { on := 13, ground := Ground.chain }], guard := none } : Oper)) (v := ?vam22) rfl (by kernel_rfl) (by kernel_rfl) (by kernel_rfl) (fun _ _ _ h => h) (Or.inl ⟨by rfl, fun w hSw => ?hyam22⟩) (by assumption) ?ram22
  case hyam22 => (try dsimp only at hSw); go_simp; (try with_reducible rfl)
  (try simp only [Act.put, List.setIfInBounds_toArray, List.set_cons_zero, List.set_cons_succ])
  refine wpAnyH_take (i := 25) (oi := ({ dst := some 43, op := Op.fieldAddr 127 (Operand.tmp 3) 0, type := 0, pos := "help.go:108", after := #[{ on := 24, ground := Ground.guard }], guard := some (24, true) } : Oper)) (v := ?vam23) rfl (by kernel_rfl) (by kernel_rfl) (by kernel_rfl) (fun _ _ _ h => h) (Or.inl ⟨by rfl, fun w hSw => ?hyam23⟩) (by assumption) ?ram23
  case hyam23 => (try dsimp only at hSw); go_simp; (try with_reducible rfl)
  (try simp only [Act.put, List.setIfInBounds_toArray, List.set_cons_zero, List.set_cons_succ])
  refine wpAnyH_take (i := 26) (oi := ({ dst := some 44, op := Op.load 120 (Operand.tmp 43), type := 120, pos := "help.go:108", after := #[{ on := 25, ground := Ground.data }, { on := 24, ground := Ground.guard }], guard := some (24, true) } : Oper)) (v := ?vam24) rfl (by kernel_rfl) (by kernel_rfl) (by kernel_rfl) (fun _ _ _ h => h) (Or.inl ⟨by rfl, fun w hSw => ?hyam24⟩) (by assumption) ?ram24
  case hyam24 => (try dsimp only at hSw); go_simp; (try with_reducible rfl)
  (try simp only [Act.put, List.setIfInBounds_toArray, List.set_cons_zero, List.set_cons_succ])
  refine wpAnyH_take (i := 27) (oi := ({ dst := some 45, op := Op.convert 120 3 (Operand.tmp 44), type := 3, pos := "help.go:108", after := #[{ on := 26, ground := Ground.data }, { on := 24, ground := Ground.guard }], guard := some (24, true) } : Oper)) (v := ?vam25) rfl (by kernel_rfl) (by kernel_rfl) (by kernel_rfl) (fun _ _ _ h => h) (Or.inl ⟨by rfl, fun w hSw => ?hyam25⟩) (by assumption) ?ram25
  case hyam25 => (try dsimp only at hSw); go_simp; (try with_reducible rfl)
  (try simp only [Act.put, List.setIfInBounds_toArray, List.set_cons_zero, List.set_cons_succ])
  refine wpAnyH_take (i := 28) (oi := ({ dst := some 46, op := Op.fieldAddr 38 (Operand.tmp 1) 1, type := 0, pos := "help.go:108", after := #[{ on := 24, ground := Ground.guard }], guard := some (24, true) } : Oper)) (v := ?vam26) rfl (by kernel_rfl) (by kernel_rfl) (by kernel_rfl) (fun _ _ _ h => h) (Or.inl ⟨by rfl, fun w hSw => ?hyam26⟩) (by assumption) ?ram26
  case hyam26 => (try dsimp only at hSw); go_simp; (try with_reducible rfl)
  (try simp only [Act.put, List.setIfInBounds_toArray, List.set_cons_zero, List.set_cons_succ])
  refine wpAnyH_take (i := 29) (oi := ({ dst := some 47, op := Op.load 32 (Operand.tmp 46), type := 32, pos := "help.go:108", after := #[{ on := 28, ground := Ground.data }, { on := 24, ground := Ground.guard }], guard := some (24, true) } : Oper)) (v := ?vam27) rfl (by kernel_rfl) (by kernel_rfl) (by kernel_rfl) (fun _ _ _ h => h) (Or.inl ⟨by rfl, fun w hSw => ?hyam27⟩) (by assumption) ?ram27
  case hyam27 => (try dsimp only at hSw); go_simp; (try with_reducible rfl)
  (try simp only [Act.put, List.setIfInBounds_toArray, List.set_cons_zero, List.set_cons_succ])
  refine wpAnyH_take (i := 30) (oi := ({ dst := some 48, op := Op.nilCheck (Operand.tmp 47), type := 0, pos := "help.go:108", after := #[{ on := 29, ground := Ground.data }, { on := 24, ground := Ground.guard }], guard := some (24, true) } : Oper)) (v := ?vam28) rfl (by kernel_rfl) (by kernel_rfl) (by kernel_rfl) (fun _ _ _ h => h) (Or.inl ⟨by rfl, fun w hSw => ?hyam28⟩) (by assumption) ?ram28
  case hyam28 => (try dsimp only at hSw); go_simp; (try with_reducible rfl)
  (try simp only [Act.put, List.setIfInBounds_toArray, List.set_cons_zero, List.set_cons_succ])
  refine wpAnyH_take (i := 31) (oi := ({ dst := some 49, op := Op.fieldAddr 55 (Operand.tmp 48) 2, type := 0, pos := "help.go:108", after := #[{ on := 30, ground := Ground.data }, { on := 24, ground := Ground.guard }], guard := some (24, true) } : Oper)) (v := ?vam29) rfl (by kernel_rfl) (by kernel_rfl) (by kernel_rfl) (fun _ _ _ h => h) (Or.inl ⟨by rfl, fun w hSw => ?hyam29⟩) (by assumption) ?ram29
  case hyam29 => (try dsimp only at hSw); go_simp; (try with_reducible rfl)
  (try simp only [Act.put, List.setIfInBounds_toArray, List.set_cons_zero, List.set_cons_succ])
  refine wpAnyH_take (i := 32) (oi := ({ dst := some 50, op := Op.load 50 (Operand.tmp 49), type := 50, pos := "help.go:108", after := #[{ on := 31, ground := Ground.data }, { on := 24, ground := Ground.guard }], guard := some (24, true) } : Oper)) (v := ?vam30) rfl (by kernel_rfl) (by kernel_rfl) (by kernel_rfl) (fun _ _ _ h => h) (Or.inl ⟨by rfl, fun w hSw => ?hyam30⟩) (by assumption) ?ram30
  case hyam30 => (try dsimp only at hSw); go_simp; (try with_reducible rfl)
  (try simp only [Act.put, List.setIfInBounds_toArray, List.set_cons_zero, List.set_cons_succ])
  refine wpAnyH_take (i := 33) (oi := ({ dst := some 51, op := Op.nilCheck (Operand.tmp 50), type := 0, pos := "help.go:108", after := #[{ on := 32, ground := Ground.data }, { on := 24, ground := Ground.guard }], guard := some (24, true) } : Oper)) (v := ?vam31) rfl (by kernel_rfl) (by kernel_rfl) (by kernel_rfl) (fun _ _ _ h => h) (Or.inl ⟨by rfl, fun w hSw => ?hyam31⟩) (by assumption) ?ram31
  case hyam31 => (try dsimp only at hSw); go_simp; (try with_reducible rfl)
  (try simp only [Act.put, List.setIfInBounds_toArray, List.set_cons_zero, List.set_cons_succ])
  refine wpAnyH_take (i := 34) (oi := ({ dst := some 52, op := Op.fieldAddr 84 (Operand.tmp 51) 2, type := 0, pos := "help.go:108", after := #[{ on := 33, ground := Ground.data }, { on := 24, ground := Ground.guard }], guard := some (24, true) } : Oper)) (v := ?vam32) rfl (by kernel_rfl) (by kernel_rfl) (by kernel_rfl) (fun _ _ _ h => h) (Or.inl ⟨by rfl, fun w hSw => ?hyam32⟩) (by assumption) ?ram32
  case hyam32 => (try dsimp only at hSw); go_simp; (try with_reducible rfl)
  (try simp only [Act.put, List.setIfInBounds_toArray, List.set_cons_zero, List.set_cons_succ])
  refine wpAnyH_take (i := 35) (oi := ({ dst := some 53, op := Op.load 3 (Operand.tmp 52), type := 3, pos := "help.go:108", after := #[{ on := 34, ground := Ground.data }, { on := 24, ground := Ground.guard }], guard := some (24, true) } : Oper)) (v := ?vam33) rfl (by kernel_rfl) (by kernel_rfl) (by kernel_rfl) (fun _ _ _ h => h) (Or.inl ⟨by rfl, fun w hSw => ?hyam33⟩) (by assumption) ?ram33
  case hyam33 => (try dsimp only at hSw); go_simp; (try with_reducible rfl)
  (try simp only [Act.put, List.setIfInBounds_toArray, List.set_cons_zero, List.set_cons_succ])
  refine wpAnyH_take (i := 36) (oi := ({ dst := some 54, op := Op.binOp BinOp.eql 3 (Operand.tmp 45) (Operand.tmp 53) 3, type := 4, pos := "help.go:108", after := #[{ on := 27, ground := Ground.data }, { on := 35, ground := Ground.data }, { on := 24, ground := Ground.guard }], guard := some (24, true) } : Oper)) (v := ?vam34) rfl (by kernel_rfl) (by kernel_rfl) (by kernel_rfl) (fun _ _ _ h => h) (Or.inl ⟨by rfl, fun w hSw => ?hyam34⟩) (by assumption) ?ram34
  case hyam34 => (try dsimp only at hSw); go_simp; (try with_reducible rfl)
  (try simp only [Act.put, List.setIfInBounds_toArray, List.set_cons_zero, List.set_cons_succ])
  refine wpAnyH_take (i := 37) (oi := ({ dst := some 55, op := Op.pick (Operand.tmp 42) (Operand.tmp 54) (Operand.const (Value.bool false)), type := 4, pos := "help.go:108", after := #[{ on := 24, ground := Ground.data }, { on := 36, ground := Ground.data }], guard := none } : Oper)) (v := ?vam35) rfl (by kernel_rfl) (by kernel_rfl) (by kernel_rfl) (fun _ _ _ h => h) (Or.inl ⟨by rfl, fun w hSw => ?hyam35⟩) (by assumption) ?ram35
  case hyam35 => (try dsimp only at hSw); go_simp; (try with_reducible rfl)
  (try simp only [Act.put, List.setIfInBounds_toArray, List.set_cons_zero, List.set_cons_succ])
  refine wpAnyH_take (i := 38) (oi := ({ dst := some 56, op := Op.move (Operand.tmp 55), type := 4, pos := "help.go:108", after := #[{ on := 37, ground := Ground.data }, { on := 24, ground := Ground.chain }], guard := none } : Oper)) (v := ?vam36) rfl (by kernel_rfl) (by kernel_rfl) (by kernel_rfl) (fun _ _ _ h => h) (Or.inl ⟨by rfl, fun w hSw => ?hyam36⟩) (by assumption) ?ram36
  case hyam36 => (try dsimp only at hSw); go_simp; (try with_reducible rfl)
  (try simp only [Act.put, List.setIfInBounds_toArray, List.set_cons_zero, List.set_cons_succ])
  refine wpAnyH_take (i := 39) (oi := ({ dst := some 57, op := Op.fieldAddr 127 (Operand.tmp 3) 1, type := 0, pos := "help.go:108", after := #[{ on := 38, ground := Ground.guard }], guard := some (38, true) } : Oper)) (v := ?vam37) rfl (by kernel_rfl) (by kernel_rfl) (by kernel_rfl) (fun _ _ _ h => h) (Or.inl ⟨by rfl, fun w hSw => ?hyam37⟩) (by assumption) ?ram37
  case hyam37 => (try dsimp only at hSw); go_simp; (try with_reducible rfl)
  (try simp only [Act.put, List.setIfInBounds_toArray, List.set_cons_zero, List.set_cons_succ])
  refine wpAnyH_take (i := 40) (oi := ({ dst := some 58, op := Op.load 3 (Operand.tmp 57), type := 3, pos := "help.go:108", after := #[{ on := 39, ground := Ground.data }, { on := 38, ground := Ground.guard }], guard := some (38, true) } : Oper)) (v := ?vam38) rfl (by kernel_rfl) (by kernel_rfl) (by kernel_rfl) (fun _ _ _ h => h) (Or.inl ⟨by rfl, fun w hSw => ?hyam38⟩) (by assumption) ?ram38
  case hyam38 => (try dsimp only at hSw); go_simp; (try with_reducible rfl)
  (try simp only [Act.put, List.setIfInBounds_toArray, List.set_cons_zero, List.set_cons_succ])
  refine wpAnyH_take (i := 41) (oi := ({ dst := some 59, op := Op.fieldAddr 38 (Operand.tmp 1) 1, type := 0, pos := "help.go:108", after := #[{ on := 38, ground := Ground.guard }], guard := some (38, true) } : Oper)) (v := ?vam39) rfl (by kernel_rfl) (by kernel_rfl) (by kernel_rfl) (fun _ _ _ h => h) (Or.inl ⟨by rfl, fun w hSw => ?hyam39⟩) (by assumption) ?ram39
  case hyam39 => (try dsimp only at hSw); go_simp; (try with_reducible rfl)
  (try simp only [Act.put, List.setIfInBounds_toArray, List.set_cons_zero, List.set_cons_succ])
  refine wpAnyH_take (i := 42) (oi := ({ dst := some 60, op := Op.load 32 (Operand.tmp 59), type := 32, pos := "help.go:108", after := #[{ on := 41, ground := Ground.data }, { on := 38, ground := Ground.guard }], guard := some (38, true) } : Oper)) (v := ?vam40) rfl (by kernel_rfl) (by kernel_rfl) (by kernel_rfl) (fun _ _ _ h => h) (Or.inl ⟨by rfl, fun w hSw => ?hyam40⟩) (by assumption) ?ram40
  case hyam40 => (try dsimp only at hSw); go_simp; (try with_reducible rfl)
  (try simp only [Act.put, List.setIfInBounds_toArray, List.set_cons_zero, List.set_cons_succ])
  refine wpAnyH_take (i := 43) (oi := ({ dst := some 61, op := Op.nilCheck (Operand.tmp 60), type := 0, pos := "help.go:108", after := #[{ on := 42, ground := Ground.data }, { on := 38, ground := Ground.guard }], guard := some (38, true) } : Oper)) (v := ?vam41) rfl (by kernel_rfl) (by kernel_rfl) (by kernel_rfl) (fun _ _ _ h => h) (Or.inl ⟨by rfl, fun w hSw => ?hyam41⟩) (by assumption) ?ram41
  case hyam41 => (try dsimp only at hSw); go_simp; (try with_reducible rfl)
  (try simp only [Act.put, List.setIfInBounds_toArray, List.set_cons_zero, List.set_cons_succ])
  refine wpAnyH_take (i := 44) (oi := ({ dst := some 62, op := Op.fieldAddr 55 (Operand.tmp 61) 2, type := 0, pos := "help.go:108", after := #[{ on := 43, ground := Ground.data }, { on := 38, ground := Ground.guard }], guard := some (38, true) } : Oper)) (v := ?vam42) rfl (by kernel_rfl) (by kernel_rfl) (by kernel_rfl) (fun _ _ _ h => h) (Or.inl ⟨by rfl, fun w hSw => ?hyam42⟩) (by assumption) ?ram42
  case hyam42 => (try dsimp only at hSw); go_simp; (try with_reducible rfl)
  (try simp only [Act.put, List.setIfInBounds_toArray, List.set_cons_zero, List.set_cons_succ])
  refine wpAnyH_take (i := 45) (oi := ({ dst := some 63, op := Op.load 50 (Operand.tmp 62), type := 50, pos := "help.go:108", after := #[{ on := 44, ground := Ground.data }, { on := 38, ground := Ground.guard }], guard := some (38, true) } : Oper)) (v := ?vam43) rfl (by kernel_rfl) (by kernel_rfl) (by kernel_rfl) (fun _ _ _ h => h) (Or.inl ⟨by rfl, fun w hSw => ?hyam43⟩) (by assumption) ?ram43
  case hyam43 => (try dsimp only at hSw); go_simp; (try with_reducible rfl)
  (try simp only [Act.put, List.setIfInBounds_toArray, List.set_cons_zero, List.set_cons_succ])
  refine wpAnyH_take (i := 46) (oi := ({ dst := some 64, op := Op.nilCheck (Operand.tmp 63), type := 0, pos := "help.go:108", after := #[{ on := 45, ground := Ground.data }, { on := 38, ground := Ground.guard }], guard := some (38, true) } : Oper)) (v := ?vam44) rfl (by kernel_rfl) (by kernel_rfl) (by kernel_rfl) (fun _ _ _ h => h) (Or.inl ⟨by rfl, fun w hSw => ?hyam44⟩) (by assumption) ?ram44
  case hyam44 => (try dsimp only at hSw); go_simp; (try with_reducible rfl)
  (try simp only [Act.put, List.setIfInBounds_toArray, List.set_cons_zero, List.set_cons_succ])
  refine wpAnyH_take (i := 47) (oi := ({ dst := some 65, op := Op.fieldAddr 84 (Operand.tmp 64) 3, type := 0, pos := "help.go:108", after := #[{ on := 46, ground := Ground.data }, { on := 38, ground := Ground.guard }], guard := some (38, true) } : Oper)) (v := ?vam45) rfl (by kernel_rfl) (by kernel_rfl) (by kernel_rfl) (fun _ _ _ h => h) (Or.inl ⟨by rfl, fun w hSw => ?hyam45⟩) (by assumption) ?ram45
  case hyam45 => (try dsimp only at hSw); go_simp; (try with_reducible rfl)
  (try simp only [Act.put, List.setIfInBounds_toArray, List.set_cons_zero, List.set_cons_succ])
  refine wpAnyH_take (i := 48) (oi := ({ dst := some 66, op := Op.load 3 (Operand.tmp 65), type := 3, pos := "help.go:108", after := #[{ on := 47, ground := Ground.data }, { on := 38, ground := Ground.guard }], guard := some (38, true) } : Oper)) (v := ?vam46) rfl (by kernel_rfl) (by kernel_rfl) (by kernel_rfl) (fun _ _ _ h => h) (Or.inl ⟨by rfl, fun w hSw => ?hyam46⟩) (by assumption) ?ram46
  case hyam46 => (try dsimp only at hSw); go_simp; (try with_reducible rfl)
  (try simp only [Act.put, List.setIfInBounds_toArray, List.set_cons_zero, List.set_cons_succ])
  refine wpAnyH_take (i := 49) (oi := ({ dst := some 67, op := Op.binOp BinOp.eql 3 (Operand.tmp 58) (Operand.tmp 66) 3, type := 4, pos := "help.go:108", after := #[{ on := 40, ground := Ground.data }, { on := 48, ground := Ground.data }, { on := 38, ground := Ground.guard }], guard := some (38, true) } : Oper)) (v := ?vam47) rfl (by kernel_rfl) (by kernel_rfl) (by kernel_rfl) (fun _ _ _ h => h) (Or.inl ⟨by rfl, fun w hSw => ?hyam47⟩) (by assumption) ?ram47
  case hyam47 => (try dsimp only at hSw); go_simp; (try with_reducible rfl)
  (try simp only [Act.put, List.setIfInBounds_toArray, List.set_cons_zero, List.set_cons_succ])
  refine wpAnyH_take (i := 50) (oi := ({ dst := some 68, op := Op.pick (Operand.tmp 56) (Operand.tmp 67) (Operand.const (Value.bool false)), type := 4, pos := "help.go:108", after := #[{ on := 38, ground := Ground.data }, { on := 49, ground := Ground.data }], guard := none } : Oper)) (v := ?vam48) rfl (by kernel_rfl) (by kernel_rfl) (by kernel_rfl) (fun _ _ _ h => h) (Or.inl ⟨by rfl, fun w hSw => ?hyam48⟩) (by assumption) ?ram48
  case hyam48 => (try dsimp only at hSw); go_simp; (try with_reducible rfl)
  (try simp only [Act.put, List.setIfInBounds_toArray, List.set_cons_zero, List.set_cons_succ])
  refine wpAnyH_take (i := 51) (oi := ({ dst := some 69, op := Op.move (Operand.tmp 68), type := 4, pos := "help.go:108", after := #[{ on := 50, ground := Ground.data }, { on := 38, ground := Ground.chain }], guard := none } : Oper)) (v := ?vam49) rfl (by kernel_rfl) (by kernel_rfl) (by kernel_rfl) (fun _ _ _ h => h) (Or.inl ⟨by rfl, fun w hSw => ?hyam49⟩) (by assumption) ?ram49
  case hyam49 => (try dsimp only at hSw); go_simp; (try with_reducible rfl)
  (try simp only [Act.put, List.setIfInBounds_toArray, List.set_cons_zero, List.set_cons_succ])
  refine wpAnyH_take (i := 52) (oi := ({ dst := some 70, op := Op.fieldAddr 38 (Operand.tmp 1) 0, type := 0, pos := "help.go:108", after := #[{ on := 51, ground := Ground.guard }], guard := some (51, true) } : Oper)) (v := ?vam50) rfl (by kernel_rfl) (by kernel_rfl) (by kernel_rfl) (fun _ _ _ h => h) (Or.inl ⟨by rfl, fun w hSw => ?hyam50⟩) (by assumption) ?ram50
  case hyam50 => (try dsimp only at hSw); go_simp; (try with_reducible rfl)
  (try simp only [Act.put, List.setIfInBounds_toArray, List.set_cons_zero, List.set_cons_succ])
  refine wpAnyH_take (i := 53) (oi := ({ dst := some 71, op := Op.load 28 (Operand.tmp 70), type := 28, pos := "help.go:108", after := #[{ on := 52, ground := Ground.data }, { on := 51, ground := Ground.guard }], guard := some (51, true) } : Oper)) (v := ?vam51) rfl (by kernel_rfl) (by kernel_rfl) (by kernel_rfl) (fun _ _ _ h => h) (Or.inl ⟨by rfl, fun w hSw => ?hyam51⟩) (by assumption) ?ram51
  case hyam51 => (try dsimp only at hSw); go_simp; (try with_reducible rfl)
  (try simp only [Act.put, List.setIfInBounds_toArray, List.set_cons_zero, List.set_cons_succ])
  refine wpAnyH_take (i := 54) (oi := ({ dst := some 72, op := Op.nilCheck (Operand.tmp 71), type := 0, pos := "help.go:108", after := #[{ on := 53, ground := Ground.data }, { on := 51, ground := Ground.guard }], guard := some (51, true) } : Oper)) (v := ?vam52) rfl (by kernel_rfl) (by kernel_rfl) (by kernel_rfl) (fun _ _ _ h => h) (Or.inl ⟨by rfl, fun w hSw => ?hyam52⟩) (by assumption) ?ram52
  case hyam52 => (try dsimp only at hSw); go_simp; (try with_reducible rfl)
  (try simp only [Act.put, List.setIfInBounds_toArray, List.set_cons_zero, List.set_cons_succ])
  refine wpAnyH_take (i := 55) (oi := ({ dst := some 73, op := Op.fieldAddr 47 (Operand.tmp 72) 5, type := 0, pos := "help.go:108", after := #[{ on := 54, ground := Ground.data }, { on := 51, ground := Ground.guard }], guard := some (51, true) } : Oper)) (v := ?vam53) rfl (by kernel_rfl) (by kernel_rfl) (by kernel_rfl) (fun _ _ _ h => h) (Or.inl ⟨by rfl, fun w hSw => ?hyam53⟩) (by assumption) ?ram53
  case hyam53 => (try dsimp only at hSw); go_simp; (try with_reducible rfl)
  (try simp only [Act.put, List.setIfInBounds_toArray, List.set_cons_zero, List.set_cons_succ])
  refine wpAnyH_take (i := 56) (oi := ({ dst := some 74, op := Op.load 44 (Operand.tmp 73), type := 44, pos := "help.go:108", after := #[{ on := 55, ground := Ground.data }, { on := 51, ground := Ground.guard }], guard := some (51, true) } : Oper)) (v := ?vam54) rfl (by kernel_rfl) (by kernel_rfl) (by kernel_rfl) (fun _ _ _ h => h) (Or.inl ⟨by rfl, fun w hSw => ?hyam54⟩) (by assumption) ?ram54
  case hyam54 => (try dsimp only at hSw); go_simp; (try with_reducible rfl)
  (try simp only [Act.put, List.setIfInBounds_toArray, List.set_cons_zero, List.set_cons_succ])
  refine wpAnyH_take (i := 58) (oi := ({ dst := some 76, op := Op.fieldAddr 38 (Operand.tmp 1) 1, type := 0, pos := "help.go:108", after := #[{ on := 51, ground := Ground.guard }], guard := some (51, true) } : Oper)) (v := ?vam55) rfl (by kernel_rfl) (by kernel_rfl) (by kernel_rfl) (fun _ _ _ h => h) (Or.inl ⟨by rfl, fun w hSw => ?hyam55⟩) (by assumption) ?ram55
  case hyam55 => (try dsimp only at hSw); go_simp; (try with_reducible rfl)
  (try simp only [Act.put, List.setIfInBounds_toArray, List.set_cons_zero, List.set_cons_succ])
  refine wpAnyH_take (i := 59) (oi := ({ dst := some 77, op := Op.load 32 (Operand.tmp 76), type := 32, pos := "help.go:108", after := #[{ on := 58, ground := Ground.data }, { on := 51, ground := Ground.guard }], guard := some (51, true) } : Oper)) (v := ?vam56) rfl (by kernel_rfl) (by kernel_rfl) (by kernel_rfl) (fun _ _ _ h => h) (Or.inl ⟨by rfl, fun w hSw => ?hyam56⟩) (by assumption) ?ram56
  case hyam56 => (try dsimp only at hSw); go_simp; (try with_reducible rfl)
  (try simp only [Act.put, List.setIfInBounds_toArray, List.set_cons_zero, List.set_cons_succ])
  refine wpAnyH_take (i := 60) (oi := ({ dst := some 78, op := Op.nilCheck (Operand.tmp 77), type := 0, pos := "help.go:108", after := #[{ on := 59, ground := Ground.data }, { on := 51, ground := Ground.guard }], guard := some (51, true) } : Oper)) (v := ?vam57) rfl (by kernel_rfl) (by kernel_rfl) (by kernel_rfl) (fun _ _ _ h => h) (Or.inl ⟨by rfl, fun w hSw => ?hyam57⟩) (by assumption) ?ram57
  case hyam57 => (try dsimp only at hSw); go_simp; (try with_reducible rfl)
  (try simp only [Act.put, List.setIfInBounds_toArray, List.set_cons_zero, List.set_cons_succ])
  refine wpAnyH_take (i := 61) (oi := ({ dst := some 79, op := Op.fieldAddr 55 (Operand.tmp 78) 5, type := 0, pos := "help.go:108", after := #[{ on := 60, ground := Ground.data }, { on := 51, ground := Ground.guard }], guard := some (51, true) } : Oper)) (v := ?vam58) rfl (by kernel_rfl) (by kernel_rfl) (by kernel_rfl) (fun _ _ _ h => h) (Or.inl ⟨by rfl, fun w hSw => ?hyam58⟩) (by assumption) ?ram58
  case hyam58 => (try dsimp only at hSw); go_simp; (try with_reducible rfl)
  (try simp only [Act.put, List.setIfInBounds_toArray, List.set_cons_zero, List.set_cons_succ])
  refine wpAnyH_take (i := 62) (oi := ({ dst := some 80, op := Op.load 53 (Operand.tmp 79), type := 53, pos := "help.go:108", after := #[{ on := 61, ground := Ground.data }, { on := 51, ground := Ground.guard }], guard := some (51, true) } : Oper)) (v := ?vam59) rfl (by kernel_rfl) (by kernel_rfl) (by kernel_rfl) (fun _ _ _ h => h) (Or.inl ⟨by rfl, fun w hSw => ?hyam59⟩) (by assumption) ?ram59
  case hyam59 => (try dsimp only at hSw); go_simp; (try with_reducible rfl)
  (try simp only [Act.put, List.setIfInBounds_toArray, List.set_cons_zero, List.set_cons_succ])
  refine wpAnyH_take (i := 63) (oi := ({ dst := some 81, op := Op.nilCheck (Operand.tmp 80), type := 0, pos := "help.go:108", after := #[{ on := 62, ground := Ground.data }, { on := 51, ground := Ground.guard }], guard := some (51, true) } : Oper)) (v := ?vam60) rfl (by kernel_rfl) (by kernel_rfl) (by kernel_rfl) (fun _ _ _ h => h) (Or.inl ⟨by rfl, fun w hSw => ?hyam60⟩) (by assumption) ?ram60
  case hyam60 => (try dsimp only at hSw); go_simp; (try with_reducible rfl)
  (try simp only [Act.put, List.setIfInBounds_toArray, List.set_cons_zero, List.set_cons_succ])
  refine wpAnyH_take (i := 64) (oi := ({ dst := some 82, op := Op.fieldAddr 93 (Operand.tmp 81) 0, type := 0, pos := "help.go:108", after := #[{ on := 63, ground := Ground.data }, { on := 51, ground := Ground.guard }], guard := some (51, true) } : Oper)) (v := ?vam61) rfl (by kernel_rfl) (by kernel_rfl) (by kernel_rfl) (fun _ _ _ h => h) (Or.inl ⟨by rfl, fun w hSw => ?hyam61⟩) (by assumption) ?ram61
  case hyam61 => (try dsimp only at hSw); go_simp; (try with_reducible rfl)
  (try simp only [Act.put, List.setIfInBounds_toArray, List.set_cons_zero, List.set_cons_succ])
  refine wpAnyH_take (i := 65) (oi := ({ dst := some 83, op := Op.load 91 (Operand.tmp 82), type := 91, pos := "help.go:108", after := #[{ on := 64, ground := Ground.data }, { on := 51, ground := Ground.guard }], guard := some (51, true) } : Oper)) (v := ?vam62) rfl (by kernel_rfl) (by kernel_rfl) (by kernel_rfl) (fun _ _ _ h => h) (Or.inl ⟨by rfl, fun w hSw => ?hyam62⟩) (by assumption) ?ram62
  case hyam62 => (try dsimp only at hSw); go_simp; (try with_reducible rfl)
  (try simp only [Act.put, List.setIfInBounds_toArray, List.set_cons_zero, List.set_cons_succ])
  refine wpAnyH_take (i := 66) (oi := ({ dst := some 84, op := Op.call { callee := Callee.builtin Builtin.len, args := #[Operand.tmp 83], argTypes := #[91] }, type := 3, pos := "help.go:108", after := #[{ on := 65, ground := Ground.data }, { on := 51, ground := Ground.guard }], guard := some (51, true) } : Oper)) (v := ?vam63) rfl (by kernel_rfl) (by kernel_rfl) (by kernel_rfl) (fun _ _ _ h => h) (Or.inl ⟨by rfl, fun w hSw => ?hyam63⟩) (by assumption) ?ram63
  case hyam63 => (try dsimp only at hSw); go_simp; (try with_reducible rfl)
  (try simp only [Act.put, List.setIfInBounds_toArray, List.set_cons_zero, List.set_cons_succ])
  refine wpAnyH_ready (rs := [57]) (by kernel_rfl) (by simp) ?_
  refine AllReadyH.cons (o := ({ dst := some 75, op := Op.call { callee := Callee.value (Operand.func 58), args := #[Operand.tmp 74], argTypes := #[44] }, type := 3, pos := "help.go:108", after := #[{ on := 56, ground := Ground.data }, { on := 51, ground := Ground.chain }, { on := 51, ground := Ground.guard }], guard := some (51, true) } : Oper)) rfl (fun Kq hKq => ?_) AllReadyH.nil
  go_simp
  (refine (HNC.out _ hHeld.1).mono ?_; rintro e w3 ⟨rfl, rfl⟩)
  refine hKq.out _ _ ?_ (fun hHeld => ?_)
  · exact hHeld
  clear hKq Kq
  (try simp only [Act.put, List.setIfInBounds_toArray, List.set_cons_zero, List.set_cons_succ])
  refine wpAnyH_take (i := 67) (oi := ({ dst := some 85, op := Op.binOp BinOp.eql 3 (Operand.tmp 75) (Operand.tmp 84) 3, type := 4, pos := "help.go:108", after := #[{ on := 57, ground := Ground.data }, { on := 66, ground := Ground.data }, { on := 51, ground := Ground.guard }], guard := some (51, true) } : Oper)) (v := ?vam64) rfl (by kernel_rfl) (by kernel_rfl) (by kernel_rfl) (fun _ _ _ h => h) (Or.inl ⟨by rfl, fun w hSw => ?hyam64⟩) (by assumption) ?ram64
  case hyam64 => (try dsimp only at hSw); go_simp; (try with_reducible rfl)
  (try simp only [Act.put, List.setIfInBounds_toArray, List.set_cons_zero, List.set_cons_succ])
  refine wpAnyH_take (i := 68) (oi := ({ dst := some 86, op := Op.pick (Operand.tmp 69) (Operand.tmp 85) (Operand.const (Value.bool false)), type := 4, pos := "help.go:108", after := #[{ on := 51, ground := Ground.data }, { on := 67, ground := Ground.data }], guard := none } : Oper)) (v := ?vam65) rfl (by kernel_rfl) (by kernel_rfl) (by kernel_rfl) (fun _ _ _ h => h) (Or.inl ⟨by rfl, fun w hSw => ?hyam65⟩) (by assumption) ?ram65
  case hyam65 => (try dsimp only at hSw); go_simp; (try with_reducible rfl)
  (try simp only [Act.put, List.setIfInBounds_toArray, List.set_cons_zero, List.set_cons_succ])
  refine wpAnyH_take (i := 69) (oi := ({ dst := some 87, op := Op.move (Operand.tmp 86), type := 4, pos := "help.go:108", after := #[{ on := 68, ground := Ground.data }, { on := 57, ground := Ground.chain }], guard := none } : Oper)) (v := ?vam66) rfl (by kernel_rfl) (by kernel_rfl) (by kernel_rfl) (fun _ _ _ h => h) (Or.inl ⟨by rfl, fun w hSw => ?hyam66⟩) (by assumption) ?ram66
  case hyam66 => (try dsimp only at hSw); go_simp; (try with_reducible rfl)
  (try simp only [Act.put, List.setIfInBounds_toArray, List.set_cons_zero, List.set_cons_succ])
  refine wpAnyH_take (i := 70) (oi := ({ dst := some 88, op := Op.fieldAddr 38 (Operand.tmp 1) 0, type := 0, pos := "help.go:108", after := #[{ on := 69, ground := Ground.guard }], guard := some (69, true) } : Oper)) (v := ?vam67) rfl (by kernel_rfl) (by kernel_rfl) (by kernel_rfl) (fun _ _ _ h => h) (Or.inl ⟨by rfl, fun w hSw => ?hyam67⟩) (by assumption) ?ram67
  case hyam67 => (try dsimp only at hSw); go_simp; (try with_reducible rfl)
  (try simp only [Act.put, List.setIfInBounds_toArray, List.set_cons_zero, List.set_cons_succ])
  refine wpAnyH_take (i := 71) (oi := ({ dst := some 89, op := Op.load 28 (Operand.tmp 88), type := 28, pos := "help.go:108", after := #[{ on := 70, ground := Ground.data }, { on := 69, ground := Ground.guard }], guard := some (69, true) } : Oper)) (v := ?vam68) rfl (by kernel_rfl) (by kernel_rfl) (by kernel_rfl) (fun _ _ _ h => h) (Or.inl ⟨by rfl, fun w hSw => ?hyam68⟩) (by assumption) ?ram68
  case hyam68 => (try dsimp only at hSw); go_simp; (try with_reducible rfl)
  (try simp only [Act.put, List.setIfInBounds_toArray, List.set_cons_zero, List.set_cons_succ])
  refine wpAnyH_take (i := 72) (oi := ({ dst := some 90, op := Op.nilCheck (Operand.tmp 89), type := 0, pos := "help.go:108", after := #[{ on := 71, ground := Ground.data }, { on := 69, ground := Ground.guard }], guard := some (69, true) } : Oper)) (v := ?vam69) rfl (by kernel_rfl) (by kernel_rfl) (by kernel_rfl) (fun _ _ _ h => h) (Or.inl ⟨by rfl, fun w hSw => ?hyam69⟩) (by assumption) ?ram69
  case hyam69 => (try dsimp only at hSw); go_simp; (try with_reducible rfl)
  (try simp only [Act.put, List.setIfInBounds_toArray, List.set_cons_zero, List.set_cons_succ])
  refine wpAnyH_take (i := 73) (oi := ({ dst := some 91, op := Op.fieldAddr 47 (Operand.tmp 90) 1, type := 0, pos := "help.go:108", after := #[{ on := 72, ground := Ground.data }, { on := 69, ground := Ground.guard }], guard := some (69, true) } : Oper)) (v := ?vam70) rfl (by kernel_rfl) (by kernel_rfl) (by kernel_rfl) (fun _ _ _ h => h) (Or.inl ⟨by rfl, fun w hSw => ?hyam70⟩) (by assumption) ?ram70
  case hyam70 => (try dsimp only at hSw); go_simp; (try with_reducible rfl)
  (try simp only [Act.put, List.setIfInBounds_toArray, List.set_cons_zero, List.set_cons_succ])
  refine wpAnyH_take (i := 74) (oi := ({ dst := some 92, op := Op.load 40 (Operand.tmp 91), type := 40, pos := "help.go:108", after := #[{ on := 73, ground := Ground.data }, { on := 69, ground := Ground.guard }], guard := some (69, true) } : Oper)) (v := ?vam71) rfl (by kernel_rfl) (by kernel_rfl) (by kernel_rfl) (fun _ _ _ h => h) (Or.inl ⟨by rfl, fun w hSw => ?hyam71⟩) (by assumption) ?ram71
  case hyam71 => (try dsimp only at hSw); go_simp; (try with_reducible rfl)
  (try simp only [Act.put, List.setIfInBounds_toArray, List.set_cons_zero, List.set_cons_succ])
  refine wpAnyH_take (i := 76) (oi := ({ dst := some 94, op := Op.fieldAddr 38 (Operand.tmp 1) 1, type := 0, pos := "help.go:108", after := #[{ on := 69, ground := Ground.guard }], guard := some (69, true) } : Oper)) (v := ?vam72) rfl (by kernel_rfl) (by kernel_rfl) (by kernel_rfl) (fun _ _ _ h => h) (Or.inl ⟨by rfl, fun w hSw => ?hyam72⟩) (by assumption) ?ram72
  case hyam72 => (try dsimp only at hSw); go_simp; (try with_reducible rfl)
  (try simp only [Act.put, List.setIfInBounds_toArray, List.set_cons_zero, List.set_cons_succ])
  refine wpAnyH_take (i := 77) (oi := ({ dst := some 95, op := Op.load 32 (Operand.tmp 94), type := 32, pos := "help.go:108", after := #[{ on := 76, ground := Ground.data }, { on := 69, ground := Ground.guard }], guard := some (69, true) } : Oper)) (v := ?vam73) rfl (by kernel_rfl) (by kernel_rfl) (by kernel_rfl) (fun _ _ _ h => h) (Or.inl ⟨by rfl, fun w hSw => ?hyam73⟩) (by assumption) ?ram73
  case hyam73 => (try dsimp only at hSw); go_simp; (try with_reducible rfl)
  (try simp only [Act.put, List.setIfInBounds_toArray, List.set_cons_zero, List.set_cons_succ])
  refine wpAnyH_take (i := 78) (oi := ({ dst := some 96, op := Op.nilCheck (Operand.tmp 95), type := 0, pos := "help.go:108", after := #[{ on := 77, ground := Ground.data }, { on := 69, ground := Ground.guard }], guard := some (69, true) } : Oper)) (v := ?vam74) rfl (by kernel_rfl) (by kernel_rfl) (by kernel_rfl) (fun _ _ _ h => h) (Or.inl ⟨by rfl, fun w hSw => ?hyam74⟩) (by assumption) ?ram74
  case hyam74 => (try dsimp only at hSw); go_simp; (try with_reducible rfl)
  (try simp only [Act.put, List.setIfInBounds_toArray, List.set_cons_zero, List.set_cons_succ])
  refine wpAnyH_take (i := 79) (oi := ({ dst := some 97, op := Op.fieldAddr 55 (Operand.tmp 96) 1, type := 0, pos := "help.go:108", after := #[{ on := 78, ground := Ground.data }, { on := 69, ground := Ground.guard }], guard := some (69, true) } : Oper)) (v := ?vam75) rfl (by kernel_rfl) (by kernel_rfl) (by kernel_rfl) (fun _ _ _ h => h) (Or.inl ⟨by rfl, fun w hSw => ?hyam75⟩) (by assumption) ?ram75
  case hyam75 => (try dsimp only at hSw); go_simp; (try with_reducible rfl)
  (try simp only [Act.put, List.setIfInBounds_toArray, List.set_cons_zero, List.set_cons_succ])
  refine wpAnyH_take (i := 80) (oi := ({ dst := some 98, op := Op.load 49 (Operand.tmp 97), type := 49, pos := "help.go:108", after := #[{ on := 79, ground := Ground.data }, { on := 69, ground := Ground.guard }], guard := some (69, true) } : Oper)) (v := ?vam76) rfl (by kernel_rfl) (by kernel_rfl) (by kernel_rfl) (fun _ _ _ h => h) (Or.inl ⟨by rfl, fun w hSw => ?hyam76⟩) (by assumption) ?ram76
  case hyam76 => (try dsimp only at hSw); go_simp; (try with_reducible rfl)
  (try simp only [Act.put, List.setIfInBounds_toArray, List.set_cons_zero, List.set_cons_succ])
  refine wpAnyH_take (i := 81) (oi := ({ dst := some 99, op := Op.nilCheck (Operand.tmp 98), type := 0, pos := "help.go:108", after := #[{ on := 80, ground := Ground.data }, { on := 69, ground := Ground.guard }], guard := some (69, true) } : Oper)) (v := ?vam77) rfl (by kernel_rfl) (by kernel_rfl) (by kernel_rfl) (fun _ _ _ h => h) (Or.inl ⟨by rfl, fun w hSw => ?hyam77⟩) (by assumption) ?ram77
  case hyam77 => (try dsimp only at hSw); go_simp; (try with_reducible rfl)
  (try simp only [Act.put, List.setIfInBounds_toArray, List.set_cons_zero, List.set_cons_succ])
  refine wpAnyH_take (i := 82) (oi := ({ dst := some 100, op := Op.fieldAddr 98 (Operand.tmp 99) 1, type := 0, pos := "help.go:108", after := #[{ on := 81, ground := Ground.data }, { on := 69, ground := Ground.guard }], guard := some (69, true) } : Oper)) (v := ?vam78) rfl (by kernel_rfl) (by kernel_rfl) (by kernel_rfl) (fun _ _ _ h => h) (Or.inl ⟨by rfl, fun w hSw => ?hyam78⟩) (by assumption) ?ram78
  case hyam78 => (try dsimp only at hSw); go_simp; (try with_reducible rfl)
  (try simp only [Act.put, List.setIfInBounds_toArray, List.set_cons_zero, List.set_cons_succ])
  refine wpAnyH_take (i := 83) (oi := ({ dst := some 101, op := Op.load 23 (Operand.tmp 100), type := 23, pos := "help.go:108", after := #[{ on := 82, ground := Ground.data }, { on := 69, ground := Ground.guard }], guard := some (69, true) } : Oper)) (v := ?vam79) rfl (by kernel_rfl) (by kernel_rfl) (by kernel_rfl) (fun _ _ _ h => h) (Or.inl ⟨by rfl, fun w hSw => ?hyam79⟩) (by assumption) ?ram79
  case hyam79 => (try dsimp only at hSw); go_simp; (try with_reducible rfl)
  (try simp only [Act.put, List.setIfInBounds_toArray, List.set_cons_zero, List.set_cons_succ])
  refine wpAnyH_take (i := 84) (oi := ({ dst := some 102, op := Op.call { callee := Callee.builtin Builtin.len, args := #[Operand.tmp 101], argTypes := #[23] }, type := 3, pos := "help.go:108", after := #[{ on := 83, ground := Ground.data }, { on := 69, ground := Ground.guard }], guard := some (69, true) } : Oper)) (v := ?vam80) rfl (by kernel_rfl) (by kernel_rfl) (by kernel_rfl) (fun _ _ _ h => h) (Or.inl ⟨by rfl, fun w hSw => ?hyam80⟩) (by assumption) ?ram80
  case hyam80 => (try dsimp only at hSw); go_simp; (try with_reducible rfl)
  (try simp only [Act.put, List.setIfInBounds_toArray, List.set_cons_zero, List.set_cons_succ])
  refine wpAnyH_ready (rs := [75]) (by kernel_rfl) (by simp) ?_
  refine AllReadyH.cons (o := ({ dst := some 93, op := Op.call { callee := Callee.value (Operand.func 59), args := #[Operand.tmp 92], argTypes := #[40] }, type := 3, pos := "help.go:108", after := #[{ on := 74, ground := Ground.data }, { on := 69, ground := Ground.chain }, { on := 69, ground := Ground.guard }], guard := some (69, true) } : Oper)) rfl (fun Kq hKq => ?_) AllReadyH.nil
  go_simp
  (refine (HLF.out _ hHeld.1).mono ?_; rintro e w3 ⟨rfl, rfl⟩)
  refine hKq.out _ _ ?_ (fun hHeld => ?_)
  · exact hHeld
  clear hKq Kq
  (try simp only [Act.put, List.setIfInBounds_toArray, List.set_cons_zero, List.set_cons_succ])
  refine wpAnyH_take (i := 85) (oi := ({ dst := some 103, op := Op.binOp BinOp.eql 3 (Operand.tmp 93) (Operand.tmp 102) 3, type := 4, pos := "help.go:108", after := #[{ on := 75, ground := Ground.data }, { on := 84, ground := Ground.data }, { on := 69, ground := Ground.guard }], guard := some (69, true) } : Oper)) (v := ?vam81) rfl (by kernel_rfl) (by kernel_rfl) (by kernel_rfl) (fun _ _ _ h => h) (Or.inl ⟨by rfl, fun w hSw => ?hyam81⟩) (by assumption) ?ram81
  case hyam81 => (try dsimp only at hSw); go_simp; (try with_reducible rfl)
  (try simp only [Act.put, List.setIfInBounds_toArray, List.set_cons_zero, List.set_cons_succ])
  refine wpAnyH_take (i := 86) (oi := ({ dst := some 104, op := Op.pick (Operand.tmp 87) (Operand.tmp 103) (Operand.const (Value.bool false)), type := 4, pos := "help.go:108", after := #[{ on := 69, ground := Ground.data }, { on := 85, ground := Ground.data }], guard := none } : Oper)) (v := ?vam82) rfl (by kernel_rfl) (by kernel_rfl) (by kernel_rfl) (fun _ _ _ h => h) (Or.inl ⟨by rfl, fun w hSw => ?hyam82⟩) (by assumption) ?ram82
  case hyam82 => (try dsimp only at hSw); go_simp; (try with_reducible rfl)
  (try simp only [Act.put, List.setIfInBounds_toArray, List.set_cons_zero, List.set_cons_succ])
  refine wpAnyH_take (i := 87) (oi := ({ dst := some 2, op := Op.assign (Operand.tmp 104), type := 4, pos := "help.go:108", after := ([{ on := 86, ground := Ground.data }, { on := 75, ground := Ground.chain }, { on := 0, ground := Ground.phase }, { on := 1, ground := Ground.phase }, { on := 2, ground := Ground.phase }, { on := 3, ground := Ground.phase }, { on := 4, ground := Ground.phase }, { on := 5, ground := Ground.phase }, { on := 6, ground := Ground.phase }, { on := 7, ground := Ground.phase }, { on := 8, ground := Ground.phase }, { on := 9, ground := Ground.phase }, { on := 10, ground := Ground.phase }, { on := 11, ground := Ground.phase }, { on := 12, ground := Ground.phase }, { on := 13, ground := Ground.phase }, { on := 14, ground := Ground.phase }, { on := 15, ground := Ground.phase }, { on := 16, ground := Ground.phase }, { on := 17, ground := Ground.phase }, { on := 18, ground := Ground.phase }, { on := 19, ground := Ground.phase }, { on := 20, ground := Ground.phase }, { on := 21, ground := Ground.phase }, { on := 22, ground := Ground.phase }, { on := 23, ground := Ground.phase }, { on := 24, ground := Ground.phase }, { on := 25, ground := Ground.phase }, { on := 26, ground := Ground.phase }, { on := 27, ground := Ground.phase }, { on := 28, ground := Ground.phase }, { on := 29, ground := Ground.phase }, { on := 30, ground := Ground.phase }, { on := 31, ground := Ground.phase }, { on := 32, ground := Ground.phase }, { on := 33, ground := Ground.phase }, { on := 34, ground := Ground.phase }, { on := 35, ground := Ground.phase }, { on := 36, ground := Ground.phase }, { on := 37, ground := Ground.phase }, { on := 38, ground := Ground.phase }, { on := 39, ground := Ground.phase }, { on := 40, ground := Ground.phase }, { on := 41, ground := Ground.phase }].append [{ on := 42, ground := Ground.phase }, { on := 43, ground := Ground.phase }, { on := 44, ground := Ground.phase }, { on := 45, ground := Ground.phase }, { on := 46, ground := Ground.phase }, { on := 47, ground := Ground.phase }, { on := 48, ground := Ground.phase }, { on := 49, ground := Ground.phase }, { on := 50, ground := Ground.phase }, { on := 51, ground := Ground.phase }, { on := 52, ground := Ground.phase }, { on := 53, ground := Ground.phase }, { on := 54, ground := Ground.phase }, { on := 55, ground := Ground.phase }, { on := 56, ground := Ground.phase }, { on := 57, ground := Ground.phase }, { on := 58, ground := Ground.phase }, { on := 59, ground := Ground.phase }, { on := 60, ground := Ground.phase }, { on := 61, ground := Ground.phase }, { on := 62, ground := Ground.phase }, { on := 63, ground := Ground.phase }, { on := 64, ground := Ground.phase }, { on := 65, ground := Ground.phase }, { on := 66, ground := Ground.phase }, { on := 67, ground := Ground.phase }, { on := 68, ground := Ground.phase }, { on := 69, ground := Ground.phase }, { on := 70, ground := Ground.phase }, { on := 71, ground := Ground.phase }, { on := 72, ground := Ground.phase }, { on := 73, ground := Ground.phase }, { on := 74, ground := Ground.phase }, { on := 75, ground := Ground.phase }, { on := 76, ground := Ground.phase }, { on := 77, ground := Ground.phase }, { on := 78, ground := Ground.phase }, { on := 79, ground := Ground.phase }, { on := 80, ground := Ground.phase }, { on := 81, ground := Ground.phase }, { on := 82, ground := Ground.phase }, { on := 83, ground := Ground.phase }, { on := 84, ground := Ground.phase }, { on := 85, ground := Ground.phase }, { on := 86, ground := Ground.phase }]).toArray, guard := none } : Oper)) (v := ?vam83) rfl (by kernel_rfl) (by kernel_rfl) (by kernel_rfl) (fun _ _ _ h => h) (Or.inl ⟨by rfl, fun w hSw => ?hyam83⟩) (by assumption) ?ram83
  case hyam83 => (try dsimp only at hSw); go_simp; (try with_reducible rfl)
  (try simp only [Act.put, List.setIfInBounds_toArray, List.set_cons_zero, List.set_cons_succ])
  refine wpAnyH_done (by kernel_rfl) ?_ _
  go_wp2_with fail
  go_ret
  exact ⟨rfl, HBX.out.trans (hHeld.1.mono HBX.out.size)⟩
end Go.Proofs.YthafnphpcdbnlaaGreatDoor.S12
