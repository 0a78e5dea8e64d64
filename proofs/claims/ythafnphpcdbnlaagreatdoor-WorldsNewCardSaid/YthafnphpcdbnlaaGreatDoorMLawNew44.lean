/- Texts of this seat, one behind the other. -/
import Derived.Test.YthafnphpcdbnlaaGreatDoorMLawNew15
import Derived.Test.YthafnphpcdbnlaaGreatDoorMLawNew42
import Derived.Test.YthafnphpcdbnlaaGreatDoorMLawNew43
import Derived.OrdersHeld
import Derived.Deep.MidRow
import Derived.Deep.RegionHeld3
import Derived.LoopTactic
import Derived.Deep.LoopGhost
set_option linter.unusedVariables false
set_option linter.unusedSimpArgs false
set_option linter.unusedVariables false
set_option linter.unusedSimpArgs false
namespace Go.Proofs.YthafnphpcdbnlaaGreatDoor.S12
open Go.Proofs.YthafnphpcdbnlaaGreatDoor Go.Proofs.YthafnphpcdbnlaaGreatDoor.S11
open Go.RowKit

section
variable {P : Program} {ops : Array Oper} {Q : Exit → Act → World → Prop} {md : Region.Mode} {S S' : World → Prop}
/-- From here on more is held. -/
theorem wpAnyH_more (h : ∀ w, S' w → S w) : ∀ (fuel : Nat) (listed : Array Bool) (a : Act) (w : World), wpAnyH P md ops Q S' fuel listed a w → wpAnyH P md ops Q S fuel listed a w
  | 0, _, _, _, hq => hq
  | fuel + 1, _, _, _, hq => ⟨hq.1, fun i hi => wpOp_mono (fun a' w' h' => ⟨h w' h'.1, wpAnyH_more h fuel _ a' w' h'.2⟩) (hq.2 i hi)⟩
end
/-- Both, from bases of their own: cells, notes, tables. -/
theorem Bg.both02 {w0 w : World} {base WB RB N cn tn : Nat} {M : Sd} {E : List Part} {X : Wm} {Y : Rm} (h : Bg w0 w base WB RB N cn tn M M E X Y) : S2.Both w 0 X.cB Y.rB X.L X.n X.k X.a X.was X.is := by
  have heq : X.sd = Y.sd := by rw [h.xm, h.ym]
  have e_L : X.L = Y.L := congrArg Sd.L heq
  have e_n : X.n = Y.n := congrArg Sd.n heq
  have e_k : X.k = Y.k := congrArg Sd.k heq
  have e_a : X.a = Y.a := congrArg Sd.a heq
  have e_was : X.was = Y.was := congrArg Sd.was heq
  have e_is : X.is = Y.is := congrArg Sd.is heq
  have hr := h.pr.rcells
  rw [← e_L, ← e_n, ← e_k, ← e_a, ← e_was, ← e_is] at hr
  have ap : ∀ k, (cellsP X.cB X.cM X.L X.n X.k X.a X.was X.is).fp k → ¬ (rcellsP Y.rb Y.rB Y.rs Y.L Y.n Y.k Y.a Y.was Y.is).fp k := h.pr.apart 0 7 _ _ rfl rfl (by decide)
  refine ⟨Nat.zero_le _, Nat.zero_le _, Nat.zero_le _, fun e => ap X.cB (.inl rfl) (.inl e.symm), h.byt, X.cM, Y.rs, h.pr.pw.cells, ⟨hr.good, hr.row, S2.row_base hr.own (Nat.zero_le _), hr.ne⟩, fun m hm => ⟨Nat.zero_le _, fun e => ap m (.inr hm) (.inl e), fun e => ap m (.inr hm) (.inr e)⟩, fun e => ap X.cB (.inl rfl) (.inr e)⟩
theorem Bg.se {w0 w : World} {base WB RB N cn tn : Nat} {M : Sd} {E : List Part} {X : Wm} {Y : Rm} (h : Bg w0 w base WB RB N cn tn M M E X Y) : S10.Se w X.tb Y.tb X.tO Y.tO X.ts Y.ts X.tn M.m M.m (fun _ => False) :=
  ⟨h.st, h.rt, h.pr.apart 4 9 _ _ rfl rfl (by decide), fun _ e => e.elim⟩
def Z64l : List Value := List.replicate 64 (.int .u64 0)
def Z64 : Array Value := Z64l.toArray
theorem under64 : Tryz.prog.underlying 45 = some (.array 64 22) := by kernel_rfl
theorem info64 : (Tryz.prog.info? 45).map (·.size) = some Z64l.length := by kernel_rfl
set_option maxRecDepth 100000 in
theorem neq64 (w : World) : (binOp .neq 45 (.agg Z64) (.agg Z64)).run Tryz.prog w = .ok (.bool false) w := by kernel_rfl
theorem z64_get (j : Nat) (hj : j < 64) : Z64l[j]? = some (.int .u64 0) := by
  unfold Z64l
  rw [List.getElem?_replicate, if_pos hj]
theorem zx7 : ∀ j, j < 64 → Tryz.zeroCells47[7 + j]? = some (.int .u64 0) := by
  intro j hj
  have e : Tryz.zeroCells47 = (#[.pointer none, .pointer none, .pointer none, .pointer none, .pointer none, .pointer none, .int .i64 0] ++ Z64 : Array Value) := by kernel_rfl
  rw [e, Array.getElem?_append_right (by simp)]
  show Z64[7 + j - 7]? = _
  rw [Nat.add_sub_cancel_left]
  unfold Z64
  rw [List.getElem?_toArray]
  exact z64_get j hj
theorem zy7 : ∀ j, j < 64 → Tryz.zeroCells55[7 + j]? = some (.int .u64 0) := by
  intro j hj
  have e : Tryz.zeroCells55 = (#[.pointer none, .pointer none, .pointer none, .pointer none, .pointer none, .pointer none, .int .i64 0] ++ Z64 : Array Value) := by kernel_rfl
  rw [e, Array.getElem?_append_right (by simp)]
  show Z64[7 + j - 7]? = _
  rw [Nat.add_sub_cancel_left]
  unfold Z64
  rw [List.getElem?_toArray]
  exact z64_get j hj
theorem px7 (a b c d e f : Value) (sp : Int) (j : Nat) (hj : j < 64) : (pcells a b c d e f sp)[7 + j]? = some (.int .u64 0) := by
  simp [pcells, Array.getElem?_setIfInBounds, zsize, zx7 j hj, show ¬ 0 = 7 + j by omega, show ¬ 1 = 7 + j by omega, show ¬ 2 = 7 + j by omega, show ¬ 3 = 7 + j by omega, show ¬ 4 = 7 + j by omega, show ¬ 5 = 7 + j by omega, show ¬ 6 = 7 + j by omega]
theorem py7 (a b c d e f : Value) (sp : Int) (j : Nat) (hj : j < 64) : (wcells a b c d e f sp)[7 + j]? = some (.int .u64 0) := by
  simp [wcells, Array.getElem?_setIfInBounds, rsize, zy7 j hj, show ¬ 0 = 7 + j by omega, show ¬ 1 = 7 + j by omega, show ¬ 2 = 7 + j by omega, show ¬ 3 = 7 + j by omega, show ¬ 4 = 7 + j by omega, show ¬ 5 = 7 + j by omega, show ¬ 6 = 7 + j by omega]
theorem Bg.tokX {w0 w : World} {base WB RB N cn tn : Nat} {M RM : Sd} {E : List Part} {X : Wm} {Y : Rm} (h : Bg w0 w base WB RB N cn tn M RM E X Y) : w.rangeAt WB 7 Z64l := fun j v hj => by
  have hl : j < 64 := by
    have := (List.getElem?_eq_some_iff.1 hj).1
    unfold Z64l at this
    rwa [List.length_replicate] at this
  have hv : v = .int .u64 0 := by rw [z64_get j hl] at hj; injection hj with hj; exact hj.symm
  rw [hv, ← h.wB]
  exact (cell_row h.pr.pw.own (7 + j)).trans (px7 _ _ _ _ _ _ _ j hl)
theorem Bg.tokY {w0 w : World} {base WB RB N cn tn : Nat} {M RM : Sd} {E : List Part} {X : Wm} {Y : Rm} (h : Bg w0 w base WB RB N cn tn M RM E X Y) : w.rangeAt RB 7 Z64l := fun j v hj => by
  have hl : j < 64 := by
    have := (List.getElem?_eq_some_iff.1 hj).1
    unfold Z64l at this
    rwa [List.length_replicate] at this
  have hv : v = .int .u64 0 := by rw [z64_get j hl] at hj; injection hj with hj; exact hj.symm
  rw [hv, ← h.rB]
  exact (cell_row h.pr.rown (7 + j)).trans (py7 _ _ _ _ _ _ _ j hl)
/-- What SameAll looks at. -/
def SaF (w2 : World) (B0 WB RB cB kB nB rB rkB rnB nl nc T : Nat) (ts rts : Value) (nA : Option Addr) (w' : World) : Prop := Below w2.heap.size w2 w' ∧ w'.cell? ⟨B0, 0, none⟩ = some (Pw WB) ∧ w'.cell? ⟨B0, 1, none⟩ = some (Pw RB) ∧ w'.cell? ⟨WB, 0, none⟩ = some (Pw cB) ∧ w'.cell? ⟨WB, 1, none⟩ = some (Pw kB) ∧ w'.cell? ⟨WB, 4, none⟩ = some ts ∧ w'.cell? ⟨WB, 5, none⟩ = some (Pw nB) ∧ w'.cell? ⟨RB, 0, none⟩ = some (Pw rB) ∧ w'.cell? ⟨RB, 1, none⟩ = some (Pw rkB) ∧ w'.cell? ⟨RB, 4, none⟩ = some rts ∧ w'.cell? ⟨RB, 5, none⟩ = some (Pw rnB) ∧ w'.cell? ⟨rnB, 0, none⟩ = some (.slice nA nl nc) ∧ w'.cell? ⟨rkB, 0, none⟩ = some (.int .u64 (T : Int))
theorem SaF.new {w2 w' w'' : World} {B0 WB RB cB kB nB rB rkB rnB nl nc T : Nat} {ts rts : Value} {nA : Option Addr} (h : SaF w2 B0 WB RB cB kB nB rB rkB rnB nl nc T ts rts nA w') (hb : Below w'.heap.size w' w'') : SaF w2 B0 WB RB cB kB nB rB rkB rnB nl nc T ts rts nA w'' := by
  obtain ⟨hb0, c0, c1, c2, c3, c4, c5, c6, c7, c8, c9, c10, c11⟩ := h
  exact ⟨hb0.trans (hb.mono hb0.size), bcell hb c0, bcell hb c1, bcell hb c2, bcell hb c3, bcell hb c4, bcell hb c5, bcell hb c6, bcell hb c7, bcell hb c8, bcell hb c9, bcell hb c10, bcell hb c11⟩
def SbF (w2 : World) (B0 WB RB pB rpB Bx : Nat) (xa : Bool) (w' : World) : Prop := Below w2.heap.size w2 w' ∧ w'.cell? ⟨B0, 0, none⟩ = some (Pw WB) ∧ w'.cell? ⟨B0, 1, none⟩ = some (Pw RB) ∧ w'.cell? ⟨WB, 2, none⟩ = some (Pw pB) ∧ w'.cell? ⟨RB, 2, none⟩ = some (Pw rpB) ∧ w'.cell? ⟨Bx, 1, none⟩ = some (.bool xa)
theorem SbF.new {w2 w' w'' : World} {B0 WB RB pB rpB Bx : Nat} {xa : Bool} (h : SbF w2 B0 WB RB pB rpB Bx xa w') (hb : Below w'.heap.size w' w'') : SbF w2 B0 WB RB pB rpB Bx xa w'' := by
  obtain ⟨hb0, c0, c1, c2, c3, c4⟩ := h
  exact ⟨hb0.trans (hb.mono hb0.size), bcell hb c0, bcell hb c1, bcell hb c2, bcell hb c3, bcell hb c4⟩
set_option maxRecDepth 100000 in
set_option maxHeartbeats 8000000 in
theorem pair_all {w0 w : World} {base WB RB N cn tn : Nat} {M : Sd} {E : List Part} {X : Wm} {Y : Rm} (h : Bg w0 w base WB RB N cn tn M M E X Y) (hc : cn ≤ 100000) (hN : N ≤ 100000) :
    Calls Tryz.prog 8 #[.agg #[Pw WB, Pw RB]] w fun e w' => e = .returned (.bool true) ∧ Below w.heap.size w w' := by
  have hb1 : Below w.heap.size w (w.alloc (.cells #[Pw WB, Pw RB] 38)) := (Below.refl _ _).alloc (Nat.le_refl _) _
  have hq0 := heap_alloc_new w (.cells #[Pw WB, Pw RB] 38)
  have h2 := h.new hb1
  obtain ⟨B0, hB0⟩ : ∃ B0, B0 = w.heap.size := ⟨_, rfl⟩
  rw [← hB0] at hq0
  have HB1 := Lib.hid hb1
  have HB0 := Lib.hid hB0
  clear hb1 h hB0
  go_enter Tryz.func8, Tryz.ntmps8
  go_upto_region 1 with (fail)
  rw [← HB0.out]
  generalize w.alloc (.cells #[Pw WB, Pw RB] 38) = w2 at *
  have b0 := cell_row hq0 0; have b1 := cell_row hq0 1
  simp only [List.getElem?_toArray, List.getElem?_cons_zero, List.getElem?_cons_succ] at b0 b1
  obtain ⟨nA, nc, hns, _⟩ := h2.pr.rnotes.own.shape
  have heq : X.sd = Y.sd := by rw [h2.xm, h2.ym]
  have e_T : X.T = Y.T := congrArg Sd.T heq
  have e_nD : X.nD = Y.nD := congrArg Sd.nD heq
  have e_pf : X.pf = Y.pf := congrArg Sd.pf heq
  have e_lk : X.lk = Y.lk := congrArg Sd.lk heq
  have hsm := fun (W : World) (q : Below w2.heap.size w2 W) => pair_same (h2.new q) (by omega)
  have hs2 := fun (W : World) (q : Below w2.heap.size w2 W) => S2.same_any W 0 X.cB Y.rB X.L X.n X.k X.a X.was X.is (h2.new q).both02
  have hal := fun (W : World) (q : Below w2.heap.size w2 W) => S11.all_any (h2.new q).pr.pw.notes (by have := h2.nD; omega)
  have hnl : Y.nD.length ≤ 1000000 := by rw [← e_nD]; have := h2.nD; omega
  have hnw := fun (W : World) (q : Below w2.heap.size w2 W) => S3.now_any (h2.new q).pr.pw.clock
  have hts := fun (W : World) (q : Below w2.heap.size w2 W) => S10.same_sets (h2.new q).se h2.gd hN
  have hnr : ∀ W, Below w2.heap.size w2 W → Rd W W.heap.size nA (flat .i64 X.nD) := fun W q => by
    have hr := (h2.new q).pr.rnotes.own
    rw [hns] at hr
    rw [e_nD]
    exact hr.rd
  have f2 := h2.pr.pw.c0; have f3 := h2.pr.pw.c1; have f4 := h2.pr.pw.c4; have f5 := h2.pr.pw.c5
  have f6 := h2.pr.r0; have f7 := h2.pr.r1; have f8 := h2.pr.r4; have f9 := h2.pr.r5
  have f10 := h2.pr.rnotes.cell
  have f11 := cell_row h2.pr.rclock.row 0
  simp only [List.getElem?_toArray, List.getElem?_cons_zero, List.getElem?_cons_succ] at f11
  rw [hns, ← e_nD] at f10
  rw [← e_T] at f11
  rw [h2.wB] at f2 f3 f4 f5
  rw [h2.rB] at f6 f7 f8 f9
  have hns2 : ∀ W A9 b9, Below w2.heap.size w2 W → ∀ _ : Unit, ∀ _ : Unit, Row W b9 7 (.slice A9 X.nD.length X.nD.length) X.nD.length (flat .u8 X.nD) → Calls Tryz.prog 29 #[.slice A9 X.nD.length X.nD.length, .slice nA X.nD.length nc] W fun e w' => e = .returned (.bool true) ∧ Below W.heap.size W w' := fun W A9 b9 q _ _ hr =>
    S11.same_any _ nc hr.rd (hnr W q) (Nat.le_refl _) (Nat.le_refl _) (by have := h2.nD; omega) h2.nk
  have H2 := Lib.hid h2
  obtain ⟨D, hD⟩ : ∃ D, D = X.nD := ⟨_, rfl⟩
  rw [← hD] at f10 hns2 hal
  obtain ⟨nl, hnl2⟩ : ∃ x, x = D.length := ⟨_, rfl⟩
  have hal2 : ∀ W, Below w2.heap.size w2 W → Calls Tryz.prog 16 #[Pw X.nB] W fun e w' => ∃ A, e = .returned (.slice A nl nl) ∧ Row w' W.heap.size 7 (.slice A nl nl) nl (flat .u8 D) ∧ Below W.heap.size W w' := fun W q => by rw [hnl2]; exact hal W q
  rw [← hnl2] at f10 hns2
  have HTX := Lib.hid (fun (W : World) (q : Below w2.heap.size w2 W) => (h2.new q).tokX)
  have HTY := Lib.hid (fun (W : World) (q : Below w2.heap.size w2 W) => (h2.new q).tokY)
  have HSM := Lib.hid hsm; have HS2 := Lib.hid hs2; have HAL := Lib.hid hal2; have HNS := Lib.hid hns2; have HTS := Lib.hid hts; have HNW := Lib.hid hnw
  have HE := Lib.hid (And.intro e_pf e_lk)
  clear hsm hs2 hal hal2 hns2 hts hnw hnr hnl hnl2 hD e_T e_nD e_pf e_lk heq hc hN
  obtain ⟨kB, hkB⟩ : ∃ x, x = X.kB := ⟨_, rfl⟩
  obtain ⟨cB, hcB⟩ : ∃ x, x = X.cB := ⟨_, rfl⟩
  obtain ⟨nB, hnB⟩ : ∃ x, x = X.nB := ⟨_, rfl⟩
  obtain ⟨ts, hts⟩ : ∃ x, x = X.ts := ⟨_, rfl⟩
  obtain ⟨rts, hrts⟩ : ∃ x, x = Y.ts := ⟨_, rfl⟩
  obtain ⟨rB, hrB⟩ : ∃ x, x = Y.rB := ⟨_, rfl⟩
  obtain ⟨rkB, hrkB⟩ : ∃ x, x = Y.kB := ⟨_, rfl⟩
  obtain ⟨rnB, hrnB⟩ : ∃ x, x = Y.nB := ⟨_, rfl⟩
  obtain ⟨T, hT⟩ : ∃ x, x = X.T := ⟨_, rfl⟩
  rw [← hcB, ← hrB] at HS2; rw [← hnB] at HAL; rw [← hts, ← hrts] at HTS; rw [← hkB, ← hT] at HNW
  rw [← hcB] at f2; rw [← hkB] at f3; rw [← hts] at f4; rw [← hnB] at f5; rw [← hrB] at f6; rw [← hrkB] at f7 f11; rw [← hrts] at f8; rw [← hrnB] at f9 f10; rw [← hT] at f11
  have hev := fun W => neq64 W
  have HF : Hid (w2.drew.cell? ⟨B0, 0, none⟩ = some (Pw WB) ∧ w2.drew.cell? ⟨B0, 1, none⟩ = some (Pw RB) ∧ w2.drew.cell? ⟨WB, 0, none⟩ = some (Pw cB) ∧ w2.drew.cell? ⟨WB, 1, none⟩ = some (Pw kB) ∧ w2.drew.cell? ⟨WB, 4, none⟩ = some ts ∧ w2.drew.cell? ⟨WB, 5, none⟩ = some (Pw nB) ∧ w2.drew.cell? ⟨RB, 0, none⟩ = some (Pw rB) ∧ w2.drew.cell? ⟨RB, 1, none⟩ = some (Pw rkB) ∧ w2.drew.cell? ⟨RB, 4, none⟩ = some rts ∧ w2.drew.cell? ⟨RB, 5, none⟩ = some (Pw rnB) ∧ w2.drew.cell? ⟨rnB, 0, none⟩ = some (.slice nA nl nc) ∧ w2.drew.cell? ⟨rkB, 0, none⟩ = some (.int .u64 (T : Int))) := Lib.hid ⟨b0, b1, f2, f3, f4, f5, f6, f7, f8, f9, f10, f11⟩
  have HQ0 := Lib.hid hq0
  clear b0 b1 f2 f3 f4 f5 f6 f7 f8 f9 f10 f11 hkB hcB hnB hts hrts hrB hrkB hrnB hT hns h2 hq0
  (try simp only [List.append_eq, List.cons_append, List.nil_append])
  refine wp_region_held_drew (S := fun w' => Below w2.heap.size w2 w' ∧ w'.cell? ⟨B0, 0, none⟩ = some (Pw WB) ∧ w'.cell? ⟨B0, 1, none⟩ = some (Pw RB) ∧ w'.cell? ⟨WB, 0, none⟩ = some (Pw cB) ∧ w'.cell? ⟨WB, 1, none⟩ = some (Pw kB) ∧ w'.cell? ⟨WB, 4, none⟩ = some ts ∧ w'.cell? ⟨WB, 5, none⟩ = some (Pw nB) ∧ w'.cell? ⟨RB, 0, none⟩ = some (Pw rB) ∧ w'.cell? ⟨RB, 1, none⟩ = some (Pw rkB) ∧ w'.cell? ⟨RB, 4, none⟩ = some rts ∧ w'.cell? ⟨RB, 5, none⟩ = some (Pw rnB) ∧ w'.cell? ⟨rnB, 0, none⟩ = some (.slice nA nl nc) ∧ w'.cell? ⟨rkB, 0, none⟩ = some (.int .u64 (T : Int))) (by kernel_rfl) ?_ (fun hHeld => ?_)
  · exact ⟨(Below.refl _ _).drew, HF.out⟩
  refine wpAnyH_take (i := 0) (oi := ({ dst := some 10, op := Op.load 38 (Operand.tmp 1), type := 38, pos := "help.go:113", after := #[], guard := none } : Oper)) (v := ?vam1) rfl (by kernel_rfl) (by kernel_rfl) (by kernel_rfl) (fun _ _ _ h => h) (Or.inl ⟨by rfl, fun w hSw => ?hyam1⟩) (by assumption) ?ram1
  case hyam1 => (try dsimp only at hSw); go_simp; (try with_reducible rfl)
  (try simp only [Act.put, List.setIfInBounds_toArray, List.set_cons_zero, List.set_cons_succ])
  refine wpAnyH_ready (rs := [1]) (by kernel_rfl) (by simp) ?_
  refine AllReadyH.cons (o := ({ dst := some 11, op := Op.call { callee := Callee.value (Operand.func 27), args := #[Operand.tmp 10], argTypes := #[38] }, type := 4, pos := "help.go:113", after := #[{ on := 0, ground := Ground.data }], guard := none } : Oper)) rfl (fun Kq hKq => ?_) AllReadyH.nil
  go_simp
  (refine (HSM.out _ hHeld.1).mono ?_; rintro e w3 ⟨rfl, hb⟩)
  refine hKq.out _ _ ?_ (fun hHeld => ?_)
  · exact SaF.new hHeld hb
  clear hKq Kq
  (try simp only [Act.put, List.setIfInBounds_toArray, List.set_cons_zero, List.set_cons_succ])
  refine wpAnyH_take (i := 2) (oi := ({ dst := some 12, op := Op.unOp UnOp.not 4 (Operand.tmp 11), type := 4, pos := "help.go:113", after := #[{ on := 1, ground := Ground.data }], guard := none } : Oper)) (v := ?vam2) rfl (by kernel_rfl) (by kernel_rfl) (by kernel_rfl) (fun _ _ _ h => h) (Or.inl ⟨by rfl, fun w hSw => ?hyam2⟩) (by assumption) ?ram2
  case hyam2 => (try dsimp only at hSw); go_simp; (try with_reducible rfl)
  (try simp only [Act.put, List.setIfInBounds_toArray, List.set_cons_zero, List.set_cons_succ])
  refine wpAnyH_take (i := 3) (oi := ({ dst := some 13, op := Op.move (Operand.tmp 12), type := 4, pos := "help.go:113", after := #[{ on := 2, ground := Ground.data }, { on := 1, ground := Ground.chain }], guard := none } : Oper)) (v := ?vam3) rfl (by kernel_rfl) (by kernel_rfl) (by kernel_rfl) (fun _ _ _ h => h) (Or.inl ⟨by rfl, fun w hSw => ?hyam3⟩) (by assumption) ?ram3
  case hyam3 => (try dsimp only at hSw); go_simp; (try with_reducible rfl)
  (try simp only [Act.put, List.setIfInBounds_toArray, List.set_cons_zero, List.set_cons_succ])
  refine wpAnyH_take (i := 4) (oi := ({ dst := some 14, op := Op.fieldAddr 38 (Operand.tmp 1) 0, type := 0, pos := "help.go:113", after := #[{ on := 3, ground := Ground.guard }], guard := some (3, false) } : Oper)) (v := ?vam4) rfl (by kernel_rfl) (by kernel_rfl) (by kernel_rfl) (fun _ _ _ h => h) (Or.inl ⟨by rfl, fun w hSw => ?hyam4⟩) (by assumption) ?ram4
  case hyam4 => (try dsimp only at hSw); go_simp; (try with_reducible rfl)
  (try simp only [Act.put, List.setIfInBounds_toArray, List.set_cons_zero, List.set_cons_succ])
  refine wpAnyH_take (i := 5) (oi := ({ dst := some 15, op := Op.load 28 (Operand.tmp 14), type := 28, pos := "help.go:113", after := #[{ on := 4, ground := Ground.data }, { on := 3, ground := Ground.guard }], guard := some (3, false) } : Oper)) (v := ?vam5) rfl (by kernel_rfl) (by kernel_rfl) (by kernel_rfl) (fun _ _ _ h => h) (Or.inl ⟨by rfl, fun w hSw => ?hyam5⟩) (by assumption) ?ram5
  case hyam5 => (try dsimp only at hSw); go_simp; (try with_reducible rfl)
  (try simp only [Act.put, List.setIfInBounds_toArray, List.set_cons_zero, List.set_cons_succ])
  refine wpAnyH_take (i := 6) (oi := ({ dst := some 16, op := Op.nilCheck (Operand.tmp 15), type := 0, pos := "help.go:113", after := #[{ on := 5, ground := Ground.data }, { on := 3, ground := Ground.guard }], guard := some (3, false) } : Oper)) (v := ?vam6) rfl (by kernel_rfl) (by kernel_rfl) (by kernel_rfl) (fun _ _ _ h => h) (Or.inl ⟨by rfl, fun w hSw => ?hyam6⟩) (by assumption) ?ram6
  case hyam6 => (try dsimp only at hSw); go_simp; (try with_reducible rfl)
  (try simp only [Act.put, List.setIfInBounds_toArray, List.set_cons_zero, List.set_cons_succ])
  refine wpAnyH_take (i := 7) (oi := ({ dst := some 17, op := Op.fieldAddr 47 (Operand.tmp 16) 0, type := 0, pos := "help.go:113", after := #[{ on := 6, ground := Ground.data }, { on := 3, ground := Ground.guard }], guard := some (3, false) } : Oper)) (v := ?vam7) rfl (by kernel_rfl) (by kernel_rfl) (by kernel_rfl) (fun _ _ _ h => h) (Or.inl ⟨by rfl, fun w hSw => ?hyam7⟩) (by assumption) ?ram7
  case hyam7 => (try dsimp only at hSw); go_simp; (try with_reducible rfl)
  (try simp only [Act.put, List.setIfInBounds_toArray, List.set_cons_zero, List.set_cons_succ])
  refine wpAnyH_take (i := 8) (oi := ({ dst := some 18, op := Op.load 39 (Operand.tmp 17), type := 39, pos := "help.go:113", after := #[{ on := 7, ground := Ground.data }, { on := 3, ground := Ground.guard }], guard := some (3, false) } : Oper)) (v := ?vam8) rfl (by kernel_rfl) (by kernel_rfl) (by kernel_rfl) (fun _ _ _ h => h) (Or.inl ⟨by rfl, fun w hSw => ?hyam8⟩) (by assumption) ?ram8
  case hyam8 => (try dsimp only at hSw); go_simp; (try with_reducible rfl)
  (try simp only [Act.put, List.setIfInBounds_toArray, List.set_cons_zero, List.set_cons_succ])
  refine wpAnyH_take (i := 9) (oi := ({ dst := some 19, op := Op.fieldAddr 38 (Operand.tmp 1) 1, type := 0, pos := "help.go:113", after := #[{ on := 3, ground := Ground.guard }], guard := some (3, false) } : Oper)) (v := ?vam9) rfl (by kernel_rfl) (by kernel_rfl) (by kernel_rfl) (fun _ _ _ h => h) (Or.inl ⟨by rfl, fun w hSw => ?hyam9⟩) (by assumption) ?ram9
  case hyam9 => (try dsimp only at hSw); go_simp; (try with_reducible rfl)
  (try simp only [Act.put, List.setIfInBounds_toArray, List.set_cons_zero, List.set_cons_succ])
  refine wpAnyH_take (i := 10) (oi := ({ dst := some 20, op := Op.load 32 (Operand.tmp 19), type := 32, pos := "help.go:113", after := #[{ on := 9, ground := Ground.data }, { on := 3, ground := Ground.guard }], guard := some (3, false) } : Oper)) (v := ?vam10) rfl (by kernel_rfl) (by kernel_rfl) (by kernel_rfl) (fun _ _ _ h => h) (Or.inl ⟨by rfl, fun w hSw => ?hyam10⟩) (by assumption) ?ram10
  case hyam10 => (try dsimp only at hSw); go_simp; (try with_reducible rfl)
  (try simp only [Act.put, List.setIfInBounds_toArray, List.set_cons_zero, List.set_cons_succ])
  refine wpAnyH_take (i := 11) (oi := ({ dst := some 21, op := Op.nilCheck (Operand.tmp 20), type := 0, pos := "help.go:113", after := #[{ on := 10, ground := Ground.data }, { on := 3, ground := Ground.guard }], guard := some (3, false) } : Oper)) (v := ?vam11) rfl (by kernel_rfl) (by kernel_rfl) (by kernel_rfl) (fun _ _ _ h => h) (Or.inl ⟨by rfl, fun w hSw => ?hyam11⟩) (by assumption) ?ram11
  case hyam11 => (try dsimp only at hSw); go_simp; (try with_reducible rfl)
  (try simp only [Act.put, List.setIfInBounds_toArray, List.set_cons_zero, List.set_cons_succ])
  refine wpAnyH_take (i := 12) (oi := ({ dst := some 22, op := Op.fieldAddr 55 (Operand.tmp 21) 0, type := 0, pos := "help.go:113", after := #[{ on := 11, ground := Ground.data }, { on := 3, ground := Ground.guard }], guard := some (3, false) } : Oper)) (v := ?vam12) rfl (by kernel_rfl) (by kernel_rfl) (by kernel_rfl) (fun _ _ _ h => h) (Or.inl ⟨by rfl, fun w hSw => ?hyam12⟩) (by assumption) ?ram12
  case hyam12 => (try dsimp only at hSw); go_simp; (try with_reducible rfl)
  (try simp only [Act.put, List.setIfInBounds_toArray, List.set_cons_zero, List.set_cons_succ])
  refine wpAnyH_take (i := 13) (oi := ({ dst := some 23, op := Op.load 48 (Operand.tmp 22), type := 48, pos := "help.go:113", after := #[{ on := 12, ground := Ground.data }, { on := 3, ground := Ground.guard }], guard := some (3, false) } : Oper)) (v := ?vam13) rfl (by kernel_rfl) (by kernel_rfl) (by kernel_rfl) (fun _ _ _ h => h) (Or.inl ⟨by rfl, fun w hSw => ?hyam13⟩) (by assumption) ?ram13
  case hyam13 => (try dsimp only at hSw); go_simp; (try with_reducible rfl)
  (try simp only [Act.put, List.setIfInBounds_toArray, List.set_cons_zero, List.set_cons_succ])
  refine wpAnyH_ready (rs := [14]) (by kernel_rfl) (by simp) ?_
  refine AllReadyH.cons (o := ({ dst := some 24, op := Op.call { callee := Callee.value (Operand.func 28), args := #[Operand.tmp 18, Operand.tmp 23], argTypes := #[39, 48] }, type := 4, pos := "help.go:113", after := #[{ on := 8, ground := Ground.data }, { on := 13, ground := Ground.data }, { on := 3, ground := Ground.chain }, { on := 3, ground := Ground.guard }], guard := some (3, false) } : Oper)) rfl (fun Kq hKq => ?_) AllReadyH.nil
  go_simp
  (refine (HS2.out _ hHeld.1).mono ?_; rintro e w3 ⟨rfl, hb⟩)
  refine hKq.out _ _ ?_ (fun hHeld => ?_)
  · exact SaF.new hHeld hb
  clear hKq Kq
  (try simp only [Act.put, List.setIfInBounds_toArray, List.set_cons_zero, List.set_cons_succ])
  refine wpAnyH_take (i := 15) (oi := ({ dst := some 25, op := Op.unOp UnOp.not 4 (Operand.tmp 24), type := 4, pos := "help.go:113", after := #[{ on := 14, ground := Ground.data }, { on := 3, ground := Ground.guard }], guard := some (3, false) } : Oper)) (v := ?vam14) rfl (by kernel_rfl) (by kernel_rfl) (by kernel_rfl) (fun _ _ _ h => h) (Or.inl ⟨by rfl, fun w hSw => ?hyam14⟩) (by assumption) ?ram14
  case hyam14 => (try dsimp only at hSw); go_simp; (try with_reducible rfl)
  (try simp only [Act.put, List.setIfInBounds_toArray, List.set_cons_zero, List.set_cons_succ])
  refine wpAnyH_take (i := 16) (oi := ({ dst := some 26, op := Op.pick (Operand.tmp 13) (Operand.const (Value.bool true)) (Operand.tmp 25), type := 4, pos := "help.go:113", after := #[{ on := 3, ground := Ground.data }, { on := 15, ground := Ground.data }], guard := none } : Oper)) (v := ?vam15) rfl (by kernel_rfl) (by kernel_rfl) (by kernel_rfl) (fun _ _ _ h => h) (Or.inl ⟨by rfl, fun w hSw => ?hyam15⟩) (by assumption) ?ram15
  case hyam15 => (try dsimp only at hSw); go_simp; (try with_reducible rfl)
  (try simp only [Act.put, List.setIfInBounds_toArray, List.set_cons_zero, List.set_cons_succ])
  refine wpAnyH_take (i := 17) (oi := ({ dst := some 27, op := Op.move (Operand.tmp 26), type := 4, pos := "help.go:113", after := #[{ on := 16, ground := Ground.data }, { on := 14, ground := Ground.chain }], guard := none } : Oper)) (v := ?vam16) rfl (by kernel_rfl) (by kernel_rfl) (by kernel_rfl) (fun _ _ _ h => h) (Or.inl ⟨by rfl, fun w hSw => ?hyam16⟩) (by assumption) ?ram16
  case hyam16 => (try dsimp only at hSw); go_simp; (try with_reducible rfl)
  (try simp only [Act.put, List.setIfInBounds_toArray, List.set_cons_zero, List.set_cons_succ])
  refine wpAnyH_take (i := 18) (oi := ({ dst := some 28, op := Op.fieldAddr 38 (Operand.tmp 1) 0, type := 0, pos := "help.go:113", after := #[{ on := 17, ground := Ground.guard }], guard := some (17, false) } : Oper)) (v := ?vam17) rfl (by kernel_rfl) (by kernel_rfl) (by kernel_rfl) (fun _ _ _ h => h) (Or.inl ⟨by rfl, fun w hSw => ?hyam17⟩) (by assumption) ?ram17
  case hyam17 => (try dsimp only at hSw); go_simp; (try with_reducible rfl)
  (try simp only [Act.put, List.setIfInBounds_toArray, List.set_cons_zero, List.set_cons_succ])
  refine wpAnyH_take (i := 19) (oi := ({ dst := some 29, op := Op.load 28 (Operand.tmp 28), type := 28, pos := "help.go:113", after := #[{ on := 18, ground := Ground.data }, { on := 17, ground := Ground.guard }], guard := some (17, false) } : Oper)) (v := ?vam18) rfl (by kernel_rfl) (by kernel_rfl) (by kernel_rfl) (fun _ _ _ h => h) (Or.inl ⟨by rfl, fun w hSw => ?hyam18⟩) (by assumption) ?ram18
  case hyam18 => (try dsimp only at hSw); go_simp; (try with_reducible rfl)
  (try simp only [Act.put, List.setIfInBounds_toArray, List.set_cons_zero, List.set_cons_succ])
  refine wpAnyH_take (i := 20) (oi := ({ dst := some 30, op := Op.nilCheck (Operand.tmp 29), type := 0, pos := "help.go:113", after := #[{ on := 19, ground := Ground.data }, { on := 17, ground := Ground.guard }], guard := some (17, false) } : Oper)) (v := ?vam19) rfl (by kernel_rfl) (by kernel_rfl) (by kernel_rfl) (fun _ _ _ h => h) (Or.inl ⟨by rfl, fun w hSw => ?hyam19⟩) (by assumption) ?ram19
  case hyam19 => (try dsimp only at hSw); go_simp; (try with_reducible rfl)
  (try simp only [Act.put, List.setIfInBounds_toArray, List.set_cons_zero, List.set_cons_succ])
  refine wpAnyH_take (i := 21) (oi := ({ dst := some 31, op := Op.fieldAddr 47 (Operand.tmp 30) 5, type := 0, pos := "help.go:113", after := #[{ on := 20, ground := Ground.data }, { on := 17, ground := Ground.guard }], guard := some (17, false) } : Oper)) (v := ?vam20) rfl (by kernel_rfl) (by kernel_rfl) (by kernel_rfl) (fun _ _ _ h => h) (Or.inl ⟨by rfl, fun w hSw => ?hyam20⟩) (by assumption) ?ram20
  case hyam20 => (try dsimp only at hSw); go_simp; (try with_reducible rfl)
  (try simp only [Act.put, List.setIfInBounds_toArray, List.set_cons_zero, List.set_cons_succ])
  refine wpAnyH_take (i := 22) (oi := ({ dst := some 32, op := Op.load 44 (Operand.tmp 31), type := 44, pos := "help.go:113", after := #[{ on := 21, ground := Ground.data }, { on := 17, ground := Ground.guard }], guard := some (17, false) } : Oper)) (v := ?vam21) rfl (by kernel_rfl) (by kernel_rfl) (by kernel_rfl) (fun _ _ _ h => h) (Or.inl ⟨by rfl, fun w hSw => ?hyam21⟩) (by assumption) ?ram21
  case hyam21 => (try dsimp only at hSw); go_simp; (try with_reducible rfl)
  (try simp only [Act.put, List.setIfInBounds_toArray, List.set_cons_zero, List.set_cons_succ])
  refine wpAnyH_take (i := 24) (oi := ({ dst := some 34, op := Op.fieldAddr 38 (Operand.tmp 1) 1, type := 0, pos := "help.go:113", after := #[{ on := 17, ground := Ground.guard }], guard := some (17, false) } : Oper)) (v := ?vam22) rfl (by kernel_rfl) (by kernel_rfl) (by kernel_rfl) (fun _ _ _ h => h) (Or.inl ⟨by rfl, fun w hSw => ?hyam22⟩) (by assumption) ?ram22
  case hyam22 => (try dsimp only at hSw); go_simp; (try with_reducible rfl)
  (try simp only [Act.put, List.setIfInBounds_toArray, List.set_cons_zero, List.set_cons_succ])
  refine wpAnyH_take (i := 25) (oi := ({ dst := some 35, op := Op.load 32 (Operand.tmp 34), type := 32, pos := "help.go:113", after := #[{ on := 24, ground := Ground.data }, { on := 17, ground := Ground.guard }], guard := some (17, false) } : Oper)) (v := ?vam23) rfl (by kernel_rfl) (by kernel_rfl) (by kernel_rfl) (fun _ _ _ h => h) (Or.inl ⟨by rfl, fun w hSw => ?hyam23⟩) (by assumption) ?ram23
  case hyam23 => (try dsimp only at hSw); go_simp; (try with_reducible rfl)
  (try simp only [Act.put, List.setIfInBounds_toArray, List.set_cons_zero, List.set_cons_succ])
  refine wpAnyH_take (i := 26) (oi := ({ dst := some 36, op := Op.nilCheck (Operand.tmp 35), type := 0, pos := "help.go:113", after := #[{ on := 25, ground := Ground.data }, { on := 17, ground := Ground.guard }], guard := some (17, false) } : Oper)) (v := ?vam24) rfl (by kernel_rfl) (by kernel_rfl) (by kernel_rfl) (fun _ _ _ h => h) (Or.inl ⟨by rfl, fun w hSw => ?hyam24⟩) (by assumption) ?ram24
  case hyam24 => (try dsimp only at hSw); go_simp; (try with_reducible rfl)
  (try simp only [Act.put, List.setIfInBounds_toArray, List.set_cons_zero, List.set_cons_succ])
  refine wpAnyH_take (i := 27) (oi := ({ dst := some 37, op := Op.fieldAddr 55 (Operand.tmp 36) 5, type := 0, pos := "help.go:113", after := #[{ on := 26, ground := Ground.data }, { on := 17, ground := Ground.guard }], guard := some (17, false) } : Oper)) (v := ?vam25) rfl (by kernel_rfl) (by kernel_rfl) (by kernel_rfl) (fun _ _ _ h => h) (Or.inl ⟨by rfl, fun w hSw => ?hyam25⟩) (by assumption) ?ram25
  case hyam25 => (try dsimp only at hSw); go_simp; (try with_reducible rfl)
  (try simp only [Act.put, List.setIfInBounds_toArray, List.set_cons_zero, List.set_cons_succ])
  refine wpAnyH_take (i := 28) (oi := ({ dst := some 38, op := Op.load 53 (Operand.tmp 37), type := 53, pos := "help.go:113", after := #[{ on := 27, ground := Ground.data }, { on := 17, ground := Ground.guard }], guard := some (17, false) } : Oper)) (v := ?vam26) rfl (by kernel_rfl) (by kernel_rfl) (by kernel_rfl) (fun _ _ _ h => h) (Or.inl ⟨by rfl, fun w hSw => ?hyam26⟩) (by assumption) ?ram26
  case hyam26 => (try dsimp only at hSw); go_simp; (try with_reducible rfl)
  (try simp only [Act.put, List.setIfInBounds_toArray, List.set_cons_zero, List.set_cons_succ])
  refine wpAnyH_take (i := 29) (oi := ({ dst := some 39, op := Op.nilCheck (Operand.tmp 38), type := 0, pos := "help.go:113", after := #[{ on := 28, ground := Ground.data }, { on := 17, ground := Ground.guard }], guard := some (17, false) } : Oper)) (v := ?vam27) rfl (by kernel_rfl) (by kernel_rfl) (by kernel_rfl) (fun _ _ _ h => h) (Or.inl ⟨by rfl, fun w hSw => ?hyam27⟩) (by assumption) ?ram27
  case hyam27 => (try dsimp only at hSw); go_simp; (try with_reducible rfl)
  (try simp only [Act.put, List.setIfInBounds_toArray, List.set_cons_zero, List.set_cons_succ])
  refine wpAnyH_take (i := 30) (oi := ({ dst := some 40, op := Op.fieldAddr 93 (Operand.tmp 39) 0, type := 0, pos := "help.go:113", after := #[{ on := 29, ground := Ground.data }, { on := 17, ground := Ground.guard }], guard := some (17, false) } : Oper)) (v := ?vam28) rfl (by kernel_rfl) (by kernel_rfl) (by kernel_rfl) (fun _ _ _ h => h) (Or.inl ⟨by rfl, fun w hSw => ?hyam28⟩) (by assumption) ?ram28
  case hyam28 => (try dsimp only at hSw); go_simp; (try with_reducible rfl)
  (try simp only [Act.put, List.setIfInBounds_toArray, List.set_cons_zero, List.set_cons_succ])
  refine wpAnyH_take (i := 31) (oi := ({ dst := some 41, op := Op.load 91 (Operand.tmp 40), type := 91, pos := "help.go:113", after := #[{ on := 30, ground := Ground.data }, { on := 17, ground := Ground.guard }], guard := some (17, false) } : Oper)) (v := ?vam29) rfl (by kernel_rfl) (by kernel_rfl) (by kernel_rfl) (fun _ _ _ h => h) (Or.inl ⟨by rfl, fun w hSw => ?hyam29⟩) (by assumption) ?ram29
  case hyam29 => (try dsimp only at hSw); go_simp; (try with_reducible rfl)
  (try simp only [Act.put, List.setIfInBounds_toArray, List.set_cons_zero, List.set_cons_succ])
  refine wpAnyH_ready (rs := [23]) (by kernel_rfl) (by simp) ?_
  refine AllReadyH.cons (o := ({ dst := some 33, op := Op.call { callee := Callee.value (Operand.func 16), args := #[Operand.tmp 32], argTypes := #[44] }, type := 64, pos := "help.go:113", after := #[{ on := 22, ground := Ground.data }, { on := 17, ground := Ground.chain }, { on := 17, ground := Ground.guard }], guard := some (17, false) } : Oper)) rfl (fun Kq hKq => ?_) AllReadyH.nil
  go_simp
  (refine (HAL.out _ hHeld.1).mono ?_; rintro e w3 ⟨A9, rfl, hrow, hb⟩)
  refine hKq.out _ _ ?_ (fun hHeld => ?_)
  · exact SaF.new hHeld hb
  clear hKq Kq
  (try simp only [Act.put, List.setIfInBounds_toArray, List.set_cons_zero, List.set_cons_succ])
  obtain ⟨b9, hrow⟩ : ∃ b, Row w3 b 7 (.slice A9 nl nl) nl (flat .u8 D) ∧ b ≤ w3.heap.size := ⟨_, hrow, hb.size⟩
  refine wpAnyH_more (S' := fun w' => (Below w2.heap.size w2 w' ∧ w'.cell? ⟨B0, 0, none⟩ = some (Pw WB) ∧ w'.cell? ⟨B0, 1, none⟩ = some (Pw RB) ∧ w'.cell? ⟨WB, 0, none⟩ = some (Pw cB) ∧ w'.cell? ⟨WB, 1, none⟩ = some (Pw kB) ∧ w'.cell? ⟨WB, 4, none⟩ = some ts ∧ w'.cell? ⟨WB, 5, none⟩ = some (Pw nB) ∧ w'.cell? ⟨RB, 0, none⟩ = some (Pw rB) ∧ w'.cell? ⟨RB, 1, none⟩ = some (Pw rkB) ∧ w'.cell? ⟨RB, 4, none⟩ = some rts ∧ w'.cell? ⟨RB, 5, none⟩ = some (Pw rnB) ∧ w'.cell? ⟨rnB, 0, none⟩ = some (.slice nA nl nc) ∧ w'.cell? ⟨rkB, 0, none⟩ = some (.int .u64 (T : Int))) ∧ Row w' b9 7 (.slice A9 nl nl) nl (flat .u8 D)) (fun _ h => h.1) _ _ _ _ ?_
  have HB9 := Lib.hid hrow.2
  have hHeld : (fun w' => (Below w2.heap.size w2 w' ∧ w'.cell? ⟨B0, 0, none⟩ = some (Pw WB) ∧ w'.cell? ⟨B0, 1, none⟩ = some (Pw RB) ∧ w'.cell? ⟨WB, 0, none⟩ = some (Pw cB) ∧ w'.cell? ⟨WB, 1, none⟩ = some (Pw kB) ∧ w'.cell? ⟨WB, 4, none⟩ = some ts ∧ w'.cell? ⟨WB, 5, none⟩ = some (Pw nB) ∧ w'.cell? ⟨RB, 0, none⟩ = some (Pw rB) ∧ w'.cell? ⟨RB, 1, none⟩ = some (Pw rkB) ∧ w'.cell? ⟨RB, 4, none⟩ = some rts ∧ w'.cell? ⟨RB, 5, none⟩ = some (Pw rnB) ∧ w'.cell? ⟨rnB, 0, none⟩ = some (.slice nA nl nc) ∧ w'.cell? ⟨rkB, 0, none⟩ = some (.int .u64 (T : Int))) ∧ Row w' b9 7 (.slice A9 nl nl) nl (flat .u8 D)) w3 := ⟨hHeld, hrow.1⟩
  refine wpAnyH_ready (rs := [32]) (by kernel_rfl) (by simp) ?_
  refine AllReadyH.cons (o := ({ dst := some 42, op := Op.call { callee := Callee.value (Operand.func 29), args := #[Operand.tmp 33, Operand.tmp 41], argTypes := #[64, 91] }, type := 4, pos := "help.go:113", after := #[{ on := 23, ground := Ground.data }, { on := 31, ground := Ground.data }, { on := 23, ground := Ground.chain }, { on := 17, ground := Ground.guard }], guard := some (17, false) } : Oper)) rfl (fun Kq hKq => ?_) AllReadyH.nil
  go_simp
  (refine (HNS.out _ _ _ hHeld.1.1 () () hHeld.2).mono ?_; rintro e w3 ⟨rfl, hb⟩)
  refine hKq.out _ _ ?_ (fun hHeld => ?_)
  · exact ⟨SaF.new hHeld.1 hb, hHeld.2.keep (Turns.of_below (S := fun _ => False) hb) (fun _ _ e => e)⟩
  clear hKq Kq
  (try simp only [Act.put, List.setIfInBounds_toArray, List.set_cons_zero, List.set_cons_succ])
  refine wpAnyH_take (i := 33) (oi := ({ dst := some 43, op := Op.unOp UnOp.not 4 (Operand.tmp 42), type := 4, pos := "help.go:113", after := #[{ on := 32, ground := Ground.data }, { on := 17, ground := Ground.guard }], guard := some (17, false) } : Oper)) (v := ?vam30) rfl (by kernel_rfl) (by kernel_rfl) (by kernel_rfl) (fun _ _ _ h => h) (Or.inl ⟨by rfl, fun w hSw => ?hyam30⟩) (by assumption) ?ram30
  case hyam30 => (try dsimp only at hSw); go_simp; (try with_reducible rfl)
  (try simp only [Act.put, List.setIfInBounds_toArray, List.set_cons_zero, List.set_cons_succ])
  refine wpAnyH_take (i := 34) (oi := ({ dst := some 44, op := Op.pick (Operand.tmp 27) (Operand.const (Value.bool true)) (Operand.tmp 43), type := 4, pos := "help.go:113", after := #[{ on := 17, ground := Ground.data }, { on := 33, ground := Ground.data }], guard := none } : Oper)) (v := ?vam31) rfl (by kernel_rfl) (by kernel_rfl) (by kernel_rfl) (fun _ _ _ h => h) (Or.inl ⟨by rfl, fun w hSw => ?hyam31⟩) (by assumption) ?ram31
  case hyam31 => (try dsimp only at hSw); go_simp; (try with_reducible rfl)
  (try simp only [Act.put, List.setIfInBounds_toArray, List.set_cons_zero, List.set_cons_succ])
  refine wpAnyH_take (i := 35) (oi := ({ dst := some 45, op := Op.move (Operand.tmp 44), type := 4, pos := "help.go:113", after := #[{ on := 34, ground := Ground.data }, { on := 32, ground := Ground.chain }], guard := none } : Oper)) (v := ?vam32) rfl (by kernel_rfl) (by kernel_rfl) (by kernel_rfl) (fun _ _ _ h => h) (Or.inl ⟨by rfl, fun w hSw => ?hyam32⟩) (by assumption) ?ram32
  case hyam32 => (try dsimp only at hSw); go_simp; (try with_reducible rfl)
  (try simp only [Act.put, List.setIfInBounds_toArray, List.set_cons_zero, List.set_cons_succ])
  refine wpAnyH_take (i := 36) (oi := ({ dst := some 46, op := Op.fieldAddr 38 (Operand.tmp 1) 0, type := 0, pos := "help.go:113", after := #[{ on := 35, ground := Ground.guard }], guard := some (35, false) } : Oper)) (v := ?vam33) rfl (by kernel_rfl) (by kernel_rfl) (by kernel_rfl) (fun _ _ _ h => h) (Or.inl ⟨by rfl, fun w hSw => ?hyam33⟩) (by assumption) ?ram33
  case hyam33 => (try dsimp only at hSw); go_simp; (try with_reducible rfl)
  (try simp only [Act.put, List.setIfInBounds_toArray, List.set_cons_zero, List.set_cons_succ])
  refine wpAnyH_take (i := 37) (oi := ({ dst := some 47, op := Op.load 28 (Operand.tmp 46), type := 28, pos := "help.go:113", after := #[{ on := 36, ground := Ground.data }, { on := 35, ground := Ground.guard }], guard := some (35, false) } : Oper)) (v := ?vam34) rfl (by kernel_rfl) (by kernel_rfl) (by kernel_rfl) (fun _ _ _ h => h) (Or.inl ⟨by rfl, fun w hSw => ?hyam34⟩) (by assumption) ?ram34
  case hyam34 => (try dsimp only at hSw); go_simp; (try with_reducible rfl)
  (try simp only [Act.put, List.setIfInBounds_toArray, List.set_cons_zero, List.set_cons_succ])
  refine wpAnyH_take (i := 38) (oi := ({ dst := some 48, op := Op.nilCheck (Operand.tmp 47), type := 0, pos := "help.go:113", after := #[{ on := 37, ground := Ground.data }, { on := 35, ground := Ground.guard }], guard := some (35, false) } : Oper)) (v := ?vam35) rfl (by kernel_rfl) (by kernel_rfl) (by kernel_rfl) (fun _ _ _ h => h) (Or.inl ⟨by rfl, fun w hSw => ?hyam35⟩) (by assumption) ?ram35
  case hyam35 => (try dsimp only at hSw); go_simp; (try with_reducible rfl)
  (try simp only [Act.put, List.setIfInBounds_toArray, List.set_cons_zero, List.set_cons_succ])
  refine wpAnyH_take (i := 39) (oi := ({ dst := some 49, op := Op.fieldAddr 47 (Operand.tmp 48) 4, type := 0, pos := "help.go:113", after := #[{ on := 38, ground := Ground.data }, { on := 35, ground := Ground.guard }], guard := some (35, false) } : Oper)) (v := ?vam36) rfl (by kernel_rfl) (by kernel_rfl) (by kernel_rfl) (fun _ _ _ h => h) (Or.inl ⟨by rfl, fun w hSw => ?hyam36⟩) (by assumption) ?ram36
  case hyam36 => (try dsimp only at hSw); go_simp; (try with_reducible rfl)
  (try simp only [Act.put, List.setIfInBounds_toArray, List.set_cons_zero, List.set_cons_succ])
  refine wpAnyH_take (i := 40) (oi := ({ dst := some 50, op := Op.load 43 (Operand.tmp 49), type := 43, pos := "help.go:113", after := #[{ on := 39, ground := Ground.data }, { on := 35, ground := Ground.guard }], guard := some (35, false) } : Oper)) (v := ?vam37) rfl (by kernel_rfl) (by kernel_rfl) (by kernel_rfl) (fun _ _ _ h => h) (Or.inl ⟨by rfl, fun w hSw => ?hyam37⟩) (by assumption) ?ram37
  case hyam37 => (try dsimp only at hSw); go_simp; (try with_reducible rfl)
  (try simp only [Act.put, List.setIfInBounds_toArray, List.set_cons_zero, List.set_cons_succ])
  refine wpAnyH_take (i := 41) (oi := ({ dst := some 51, op := Op.fieldAddr 38 (Operand.tmp 1) 1, type := 0, pos := "help.go:113", after := #[{ on := 35, ground := Ground.guard }], guard := some (35, false) } : Oper)) (v := ?vam38) rfl (by kernel_rfl) (by kernel_rfl) (by kernel_rfl) (fun _ _ _ h => h) (Or.inl ⟨by rfl, fun w hSw => ?hyam38⟩) (by assumption) ?ram38
  case hyam38 => (try dsimp only at hSw); go_simp; (try with_reducible rfl)
  (try simp only [Act.put, List.setIfInBounds_toArray, List.set_cons_zero, List.set_cons_succ])
  refine wpAnyH_take (i := 42) (oi := ({ dst := some 52, op := Op.load 32 (Operand.tmp 51), type := 32, pos := "help.go:113", after := #[{ on := 41, ground := Ground.data }, { on := 35, ground := Ground.guard }], guard := some (35, false) } : Oper)) (v := ?vam39) rfl (by kernel_rfl) (by kernel_rfl) (by kernel_rfl) (fun _ _ _ h => h) (Or.inl ⟨by rfl, fun w hSw => ?hyam39⟩) (by assumption) ?ram39
  case hyam39 => (try dsimp only at hSw); go_simp; (try with_reducible rfl)
  (try simp only [Act.put, List.setIfInBounds_toArray, List.set_cons_zero, List.set_cons_succ])
  refine wpAnyH_take (i := 43) (oi := ({ dst := some 53, op := Op.nilCheck (Operand.tmp 52), type := 0, pos := "help.go:113", after := #[{ on := 42, ground := Ground.data }, { on := 35, ground := Ground.guard }], guard := some (35, false) } : Oper)) (v := ?vam40) rfl (by kernel_rfl) (by kernel_rfl) (by kernel_rfl) (fun _ _ _ h => h) (Or.inl ⟨by rfl, fun w hSw => ?hyam40⟩) (by assumption) ?ram40
  case hyam40 => (try dsimp only at hSw); go_simp; (try with_reducible rfl)
  (try simp only [Act.put, List.setIfInBounds_toArray, List.set_cons_zero, List.set_cons_succ])
  refine wpAnyH_take (i := 44) (oi := ({ dst := some 54, op := Op.fieldAddr 55 (Operand.tmp 53) 4, type := 0, pos := "help.go:113", after := #[{ on := 43, ground := Ground.data }, { on := 35, ground := Ground.guard }], guard := some (35, false) } : Oper)) (v := ?vam41) rfl (by kernel_rfl) (by kernel_rfl) (by kernel_rfl) (fun _ _ _ h => h) (Or.inl ⟨by rfl, fun w hSw => ?hyam41⟩) (by assumption) ?ram41
  case hyam41 => (try dsimp only at hSw); go_simp; (try with_reducible rfl)
  (try simp only [Act.put, List.setIfInBounds_toArray, List.set_cons_zero, List.set_cons_succ])
  refine wpAnyH_take (i := 45) (oi := ({ dst := some 55, op := Op.load 52 (Operand.tmp 54), type := 52, pos := "help.go:113", after := #[{ on := 44, ground := Ground.data }, { on := 35, ground := Ground.guard }], guard := some (35, false) } : Oper)) (v := ?vam42) rfl (by kernel_rfl) (by kernel_rfl) (by kernel_rfl) (fun _ _ _ h => h) (Or.inl ⟨by rfl, fun w hSw => ?hyam42⟩) (by assumption) ?ram42
  case hyam42 => (try dsimp only at hSw); go_simp; (try with_reducible rfl)
  (try simp only [Act.put, List.setIfInBounds_toArray, List.set_cons_zero, List.set_cons_succ])
  refine wpAnyH_ready (rs := [46]) (by kernel_rfl) (by simp) ?_
  refine AllReadyH.cons (o := ({ dst := some 56, op := Op.call { callee := Callee.value (Operand.func 30), args := #[Operand.tmp 50, Operand.tmp 55], argTypes := #[43, 52] }, type := 4, pos := "help.go:113", after := #[{ on := 40, ground := Ground.data }, { on := 45, ground := Ground.data }, { on := 35, ground := Ground.chain }, { on := 35, ground := Ground.guard }], guard := some (35, false) } : Oper)) rfl (fun Kq hKq => ?_) AllReadyH.nil
  go_simp
  (refine (HTS.out _ hHeld.1.1).mono ?_; rintro e w3 ⟨rfl, hb⟩)
  refine hKq.out _ _ ?_ (fun hHeld => ?_)
  · exact ⟨SaF.new hHeld.1 hb, hHeld.2.keep (Turns.of_below (S := fun _ => False) hb) (fun _ _ e => e)⟩
  clear hKq Kq
  (try simp only [Act.put, List.setIfInBounds_toArray, List.set_cons_zero, List.set_cons_succ])
  refine wpAnyH_take (i := 47) (oi := ({ dst := some 57, op := Op.unOp UnOp.not 4 (Operand.tmp 56), type := 4, pos := "help.go:113", after := #[{ on := 46, ground := Ground.data }, { on := 35, ground := Ground.guard }], guard := some (35, false) } : Oper)) (v := ?vam43) rfl (by kernel_rfl) (by kernel_rfl) (by kernel_rfl) (fun _ _ _ h => h) (Or.inl ⟨by rfl, fun w hSw => ?hyam43⟩) (by assumption) ?ram43
  case hyam43 => (try dsimp only at hSw); go_simp; (try with_reducible rfl)
  (try simp only [Act.put, List.setIfInBounds_toArray, List.set_cons_zero, List.set_cons_succ])
  refine wpAnyH_take (i := 48) (oi := ({ dst := some 58, op := Op.pick (Operand.tmp 45) (Operand.const (Value.bool true)) (Operand.tmp 57), type := 4, pos := "help.go:113", after := #[{ on := 35, ground := Ground.data }, { on := 47, ground := Ground.data }], guard := none } : Oper)) (v := ?vam44) rfl (by kernel_rfl) (by kernel_rfl) (by kernel_rfl) (fun _ _ _ h => h) (Or.inl ⟨by rfl, fun w hSw => ?hyam44⟩) (by assumption) ?ram44
  case hyam44 => (try dsimp only at hSw); go_simp; (try with_reducible rfl)
  (try simp only [Act.put, List.setIfInBounds_toArray, List.set_cons_zero, List.set_cons_succ])
  refine wpAnyH_take (i := 49) (oi := ({ dst := some 59, op := Op.move (Operand.tmp 58), type := 4, pos := "help.go:113", after := #[{ on := 48, ground := Ground.data }, { on := 46, ground := Ground.chain }], guard := none } : Oper)) (v := ?vam45) rfl (by kernel_rfl) (by kernel_rfl) (by kernel_rfl) (fun _ _ _ h => h) (Or.inl ⟨by rfl, fun w hSw => ?hyam45⟩) (by assumption) ?ram45
  case hyam45 => (try dsimp only at hSw); go_simp; (try with_reducible rfl)
  (try simp only [Act.put, List.setIfInBounds_toArray, List.set_cons_zero, List.set_cons_succ])
  refine wpAnyH_take (i := 50) (oi := ({ dst := some 60, op := Op.fieldAddr 38 (Operand.tmp 1) 0, type := 0, pos := "help.go:113", after := #[{ on := 49, ground := Ground.guard }], guard := some (49, false) } : Oper)) (v := ?vam46) rfl (by kernel_rfl) (by kernel_rfl) (by kernel_rfl) (fun _ _ _ h => h) (Or.inl ⟨by rfl, fun w hSw => ?hyam46⟩) (by assumption) ?ram46
  case hyam46 => (try dsimp only at hSw); go_simp; (try with_reducible rfl)
  (try simp only [Act.put, List.setIfInBounds_toArray, List.set_cons_zero, List.set_cons_succ])
  refine wpAnyH_take (i := 51) (oi := ({ dst := some 61, op := Op.load 28 (Operand.tmp 60), type := 28, pos := "help.go:113", after := #[{ on := 50, ground := Ground.data }, { on := 49, ground := Ground.guard }], guard := some (49, false) } : Oper)) (v := ?vam47) rfl (by kernel_rfl) (by kernel_rfl) (by kernel_rfl) (fun _ _ _ h => h) (Or.inl ⟨by rfl, fun w hSw => ?hyam47⟩) (by assumption) ?ram47
  case hyam47 => (try dsimp only at hSw); go_simp; (try with_reducible rfl)
  (try simp only [Act.put, List.setIfInBounds_toArray, List.set_cons_zero, List.set_cons_succ])
  refine wpAnyH_take (i := 52) (oi := ({ dst := some 62, op := Op.nilCheck (Operand.tmp 61), type := 0, pos := "help.go:113", after := #[{ on := 51, ground := Ground.data }, { on := 49, ground := Ground.guard }], guard := some (49, false) } : Oper)) (v := ?vam48) rfl (by kernel_rfl) (by kernel_rfl) (by kernel_rfl) (fun _ _ _ h => h) (Or.inl ⟨by rfl, fun w hSw => ?hyam48⟩) (by assumption) ?ram48
  case hyam48 => (try dsimp only at hSw); go_simp; (try with_reducible rfl)
  (try simp only [Act.put, List.setIfInBounds_toArray, List.set_cons_zero, List.set_cons_succ])
  refine wpAnyH_take (i := 53) (oi := ({ dst := some 63, op := Op.fieldAddr 47 (Operand.tmp 62) 7, type := 0, pos := "help.go:113", after := #[{ on := 52, ground := Ground.data }, { on := 49, ground := Ground.guard }], guard := some (49, false) } : Oper)) (v := ?vam49) rfl (by kernel_rfl) (by kernel_rfl) (by kernel_rfl) (fun _ _ _ h => h) (Or.inl ⟨by rfl, fun w hSw => ?hyam49⟩) (by assumption) ?ram49
  case hyam49 => (try dsimp only at hSw); go_simp; (try with_reducible rfl)
  (try simp only [Act.put, List.setIfInBounds_toArray, List.set_cons_zero, List.set_cons_succ])
  refine wpAnyH_take (i := 54) (oi := ({ dst := some 64, op := Op.load 45 (Operand.tmp 63), type := 45, pos := "help.go:113", after := #[{ on := 53, ground := Ground.data }, { on := 49, ground := Ground.guard }], guard := some (49, false) } : Oper)) (v := .agg Z64) rfl (by kernel_rfl) (by kernel_rfl) (by kernel_rfl) (fun _ _ _ h => h) (yieldsIf_load_mid (by rfl) 45 (Operand.tmp 63) rfl WB 7 (by rfl) Z64l _ (fun w hS => HTX.out w hS.1.1) under64 rfl info64) (by assumption) ?ram50
  skip
  (try simp only [Act.put, List.setIfInBounds_toArray, List.set_cons_zero, List.set_cons_succ])
  refine wpAnyH_take (i := 55) (oi := ({ dst := some 65, op := Op.fieldAddr 38 (Operand.tmp 1) 1, type := 0, pos := "help.go:113", after := #[{ on := 49, ground := Ground.guard }], guard := some (49, false) } : Oper)) (v := ?vam51) rfl (by kernel_rfl) (by kernel_rfl) (by kernel_rfl) (fun _ _ _ h => h) (Or.inl ⟨by rfl, fun w hSw => ?hyam51⟩) (by assumption) ?ram51
  case hyam51 => (try dsimp only at hSw); go_simp; (try with_reducible rfl)
  (try simp only [Act.put, List.setIfInBounds_toArray, List.set_cons_zero, List.set_cons_succ])
  refine wpAnyH_take (i := 56) (oi := ({ dst := some 66, op := Op.load 32 (Operand.tmp 65), type := 32, pos := "help.go:113", after := #[{ on := 55, ground := Ground.data }, { on := 49, ground := Ground.guard }], guard := some (49, false) } : Oper)) (v := ?vam52) rfl (by kernel_rfl) (by kernel_rfl) (by kernel_rfl) (fun _ _ _ h => h) (Or.inl ⟨by rfl, fun w hSw => ?hyam52⟩) (by assumption) ?ram52
  case hyam52 => (try dsimp only at hSw); go_simp; (try with_reducible rfl)
  (try simp only [Act.put, List.setIfInBounds_toArray, List.set_cons_zero, List.set_cons_succ])
  refine wpAnyH_take (i := 57) (oi := ({ dst := some 67, op := Op.nilCheck (Operand.tmp 66), type := 0, pos := "help.go:113", after := #[{ on := 56, ground := Ground.data }, { on := 49, ground := Ground.guard }], guard := some (49, false) } : Oper)) (v := ?vam53) rfl (by kernel_rfl) (by kernel_rfl) (by kernel_rfl) (fun _ _ _ h => h) (Or.inl ⟨by rfl, fun w hSw => ?hyam53⟩) (by assumption) ?ram53
  case hyam53 => (try dsimp only at hSw); go_simp; (try with_reducible rfl)
  (try simp only [Act.put, List.setIfInBounds_toArray, List.set_cons_zero, List.set_cons_succ])
  refine wpAnyH_take (i := 58) (oi := ({ dst := some 68, op := Op.fieldAddr 55 (Operand.tmp 67) 7, type := 0, pos := "help.go:113", after := #[{ on := 57, ground := Ground.data }, { on := 49, ground := Ground.guard }], guard := some (49, false) } : Oper)) (v := ?vam54) rfl (by kernel_rfl) (by kernel_rfl) (by kernel_rfl) (fun _ _ _ h => h) (Or.inl ⟨by rfl, fun w hSw => ?hyam54⟩) (by assumption) ?ram54
  case hyam54 => (try dsimp only at hSw); go_simp; (try with_reducible rfl)
  (try simp only [Act.put, List.setIfInBounds_toArray, List.set_cons_zero, List.set_cons_succ])
  refine wpAnyH_take (i := 59) (oi := ({ dst := some 69, op := Op.load 45 (Operand.tmp 68), type := 45, pos := "help.go:113", after := #[{ on := 58, ground := Ground.data }, { on := 49, ground := Ground.guard }], guard := some (49, false) } : Oper)) (v := .agg Z64) rfl (by kernel_rfl) (by kernel_rfl) (by kernel_rfl) (fun _ _ _ h => h) (yieldsIf_load_mid (by rfl) 45 (Operand.tmp 68) rfl RB 7 (by rfl) Z64l _ (fun w hS => HTY.out w hS.1.1) under64 rfl info64) (by assumption) ?ram55
  skip
  (try simp only [Act.put, List.setIfInBounds_toArray, List.set_cons_zero, List.set_cons_succ])
  refine wpAnyH_take (i := 60) (oi := ({ dst := some 70, op := Op.binOp BinOp.neq 45 (Operand.tmp 64) (Operand.tmp 69) 45, type := 4, pos := "help.go:113", after := #[{ on := 54, ground := Ground.data }, { on := 59, ground := Ground.data }, { on := 49, ground := Ground.guard }], guard := some (49, false) } : Oper)) (v := ?vam56) rfl (by kernel_rfl) (by kernel_rfl) (by kernel_rfl) (fun _ _ _ h => h) (Or.inl ⟨by rfl, fun w hSw => ?hyam56⟩) (by assumption) ?ram56
  case hyam56 => (try dsimp only at hSw); go_simp; (try with_reducible rfl)
  (try simp only [Act.put, List.setIfInBounds_toArray, List.set_cons_zero, List.set_cons_succ])
  refine wpAnyH_take (i := 61) (oi := ({ dst := some 71, op := Op.pick (Operand.tmp 59) (Operand.const (Value.bool true)) (Operand.tmp 70), type := 4, pos := "help.go:113", after := #[{ on := 49, ground := Ground.data }, { on := 60, ground := Ground.data }], guard := none } : Oper)) (v := ?vam57) rfl (by kernel_rfl) (by kernel_rfl) (by kernel_rfl) (fun _ _ _ h => h) (Or.inl ⟨by rfl, fun w hSw => ?hyam57⟩) (by assumption) ?ram57
  case hyam57 => (try dsimp only at hSw); go_simp; (try with_reducible rfl)
  (try simp only [Act.put, List.setIfInBounds_toArray, List.set_cons_zero, List.set_cons_succ])
  refine wpAnyH_take (i := 62) (oi := ({ dst := some 72, op := Op.move (Operand.tmp 71), type := 4, pos := "help.go:113", after := #[{ on := 61, ground := Ground.data }, { on := 49, ground := Ground.chain }], guard := none } : Oper)) (v := ?vam58) rfl (by kernel_rfl) (by kernel_rfl) (by kernel_rfl) (fun _ _ _ h => h) (Or.inl ⟨by rfl, fun w hSw => ?hyam58⟩) (by assumption) ?ram58
  case hyam58 => (try dsimp only at hSw); go_simp; (try with_reducible rfl)
  (try simp only [Act.put, List.setIfInBounds_toArray, List.set_cons_zero, List.set_cons_succ])
  refine wpAnyH_take (i := 63) (oi := ({ dst := some 73, op := Op.fieldAddr 38 (Operand.tmp 1) 0, type := 0, pos := "help.go:113", after := #[{ on := 62, ground := Ground.guard }], guard := some (62, false) } : Oper)) (v := ?vam59) rfl (by kernel_rfl) (by kernel_rfl) (by kernel_rfl) (fun _ _ _ h => h) (Or.inl ⟨by rfl, fun w hSw => ?hyam59⟩) (by assumption) ?ram59
  case hyam59 => (try dsimp only at hSw); go_simp; (try with_reducible rfl)
  (try simp only [Act.put, List.setIfInBounds_toArray, List.set_cons_zero, List.set_cons_succ])
  refine wpAnyH_take (i := 64) (oi := ({ dst := some 74, op := Op.load 28 (Operand.tmp 73), type := 28, pos := "help.go:113", after := #[{ on := 63, ground := Ground.data }, { on := 62, ground := Ground.guard }], guard := some (62, false) } : Oper)) (v := ?vam60) rfl (by kernel_rfl) (by kernel_rfl) (by kernel_rfl) (fun _ _ _ h => h) (Or.inl ⟨by rfl, fun w hSw => ?hyam60⟩) (by assumption) ?ram60
  case hyam60 => (try dsimp only at hSw); go_simp; (try with_reducible rfl)
  (try simp only [Act.put, List.setIfInBounds_toArray, List.set_cons_zero, List.set_cons_succ])
  refine wpAnyH_take (i := 65) (oi := ({ dst := some 75, op := Op.nilCheck (Operand.tmp 74), type := 0, pos := "help.go:113", after := #[{ on := 64, ground := Ground.data }, { on := 62, ground := Ground.guard }], guard := some (62, false) } : Oper)) (v := ?vam61) rfl (by kernel_rfl) (by kernel_rfl) (by kernel_rfl) (fun _ _ _ h => h) (Or.inl ⟨by rfl, fun w hSw => ?hyam61⟩) (by assumption) ?ram61
  case hyam61 => (try dsimp only at hSw); go_simp; (try with_reducible rfl)
  (try simp only [Act.put, List.setIfInBounds_toArray, List.set_cons_zero, List.set_cons_succ])
  refine wpAnyH_take (i := 66) (oi := ({ dst := some 76, op := Op.fieldAddr 47 (Operand.tmp 75) 1, type := 0, pos := "help.go:113", after := #[{ on := 65, ground := Ground.data }, { on := 62, ground := Ground.guard }], guard := some (62, false) } : Oper)) (v := ?vam62) rfl (by kernel_rfl) (by kernel_rfl) (by kernel_rfl) (fun _ _ _ h => h) (Or.inl ⟨by rfl, fun w hSw => ?hyam62⟩) (by assumption) ?ram62
  case hyam62 => (try dsimp only at hSw); go_simp; (try with_reducible rfl)
  (try simp only [Act.put, List.setIfInBounds_toArray, List.set_cons_zero, List.set_cons_succ])
  refine wpAnyH_take (i := 67) (oi := ({ dst := some 77, op := Op.load 40 (Operand.tmp 76), type := 40, pos := "help.go:113", after := #[{ on := 66, ground := Ground.data }, { on := 62, ground := Ground.guard }], guard := some (62, false) } : Oper)) (v := ?vam63) rfl (by kernel_rfl) (by kernel_rfl) (by kernel_rfl) (fun _ _ _ h => h) (Or.inl ⟨by rfl, fun w hSw => ?hyam63⟩) (by assumption) ?ram63
  case hyam63 => (try dsimp only at hSw); go_simp; (try with_reducible rfl)
  (try simp only [Act.put, List.setIfInBounds_toArray, List.set_cons_zero, List.set_cons_succ])
  refine wpAnyH_take (i := 69) (oi := ({ dst := some 79, op := Op.fieldAddr 38 (Operand.tmp 1) 1, type := 0, pos := "help.go:113", after := #[{ on := 62, ground := Ground.guard }], guard := some (62, false) } : Oper)) (v := ?vam64) rfl (by kernel_rfl) (by kernel_rfl) (by kernel_rfl) (fun _ _ _ h => h) (Or.inl ⟨by rfl, fun w hSw => ?hyam64⟩) (by assumption) ?ram64
  case hyam64 => (try dsimp only at hSw); go_simp; (try with_reducible rfl)
  (try simp only [Act.put, List.setIfInBounds_toArray, List.set_cons_zero, List.set_cons_succ])
  refine wpAnyH_take (i := 70) (oi := ({ dst := some 80, op := Op.load 32 (Operand.tmp 79), type := 32, pos := "help.go:113", after := #[{ on := 69, ground := Ground.data }, { on := 62, ground := Ground.guard }], guard := some (62, false) } : Oper)) (v := ?vam65) rfl (by kernel_rfl) (by kernel_rfl) (by kernel_rfl) (fun _ _ _ h => h) (Or.inl ⟨by rfl, fun w hSw => ?hyam65⟩) (by assumption) ?ram65
  case hyam65 => (try dsimp only at hSw); go_simp; (try with_reducible rfl)
  (try simp only [Act.put, List.setIfInBounds_toArray, List.set_cons_zero, List.set_cons_succ])
  refine wpAnyH_take (i := 71) (oi := ({ dst := some 81, op := Op.nilCheck (Operand.tmp 80), type := 0, pos := "help.go:113", after := #[{ on := 70, ground := Ground.data }, { on := 62, ground := Ground.guard }], guard := some (62, false) } : Oper)) (v := ?vam66) rfl (by kernel_rfl) (by kernel_rfl) (by kernel_rfl) (fun _ _ _ h => h) (Or.inl ⟨by rfl, fun w hSw => ?hyam66⟩) (by assumption) ?ram66
  case hyam66 => (try dsimp only at hSw); go_simp; (try with_reducible rfl)
  (try simp only [Act.put, List.setIfInBounds_toArray, List.set_cons_zero, List.set_cons_succ])
  refine wpAnyH_take (i := 72) (oi := ({ dst := some 82, op := Op.fieldAddr 55 (Operand.tmp 81) 1, type := 0, pos := "help.go:113", after := #[{ on := 71, ground := Ground.data }, { on := 62, ground := Ground.guard }], guard := some (62, false) } : Oper)) (v := ?vam67) rfl (by kernel_rfl) (by kernel_rfl) (by kernel_rfl) (fun _ _ _ h => h) (Or.inl ⟨by rfl, fun w hSw => ?hyam67⟩) (by assumption) ?ram67
  case hyam67 => (try dsimp only at hSw); go_simp; (try with_reducible rfl)
  (try simp only [Act.put, List.setIfInBounds_toArray, List.set_cons_zero, List.set_cons_succ])
  refine wpAnyH_take (i := 73) (oi := ({ dst := some 83, op := Op.load 49 (Operand.tmp 82), type := 49, pos := "help.go:113", after := #[{ on := 72, ground := Ground.data }, { on := 62, ground := Ground.guard }], guard := some (62, false) } : Oper)) (v := ?vam68) rfl (by kernel_rfl) (by kernel_rfl) (by kernel_rfl) (fun _ _ _ h => h) (Or.inl ⟨by rfl, fun w hSw => ?hyam68⟩) (by assumption) ?ram68
  case hyam68 => (try dsimp only at hSw); go_simp; (try with_reducible rfl)
  (try simp only [Act.put, List.setIfInBounds_toArray, List.set_cons_zero, List.set_cons_succ])
  refine wpAnyH_take (i := 74) (oi := ({ dst := some 84, op := Op.nilCheck (Operand.tmp 83), type := 0, pos := "help.go:113", after := #[{ on := 73, ground := Ground.data }, { on := 62, ground := Ground.guard }], guard := some (62, false) } : Oper)) (v := ?vam69) rfl (by kernel_rfl) (by kernel_rfl) (by kernel_rfl) (fun _ _ _ h => h) (Or.inl ⟨by rfl, fun w hSw => ?hyam69⟩) (by assumption) ?ram69
  case hyam69 => (try dsimp only at hSw); go_simp; (try with_reducible rfl)
  (try simp only [Act.put, List.setIfInBounds_toArray, List.set_cons_zero, List.set_cons_succ])
  refine wpAnyH_take (i := 75) (oi := ({ dst := some 85, op := Op.fieldAddr 98 (Operand.tmp 84) 0, type := 0, pos := "help.go:113", after := #[{ on := 74, ground := Ground.data }, { on := 62, ground := Ground.guard }], guard := some (62, false) } : Oper)) (v := ?vam70) rfl (by kernel_rfl) (by kernel_rfl) (by kernel_rfl) (fun _ _ _ h => h) (Or.inl ⟨by rfl, fun w hSw => ?hyam70⟩) (by assumption) ?ram70
  case hyam70 => (try dsimp only at hSw); go_simp; (try with_reducible rfl)
  (try simp only [Act.put, List.setIfInBounds_toArray, List.set_cons_zero, List.set_cons_succ])
  refine wpAnyH_take (i := 76) (oi := ({ dst := some 86, op := Op.load 22 (Operand.tmp 85), type := 22, pos := "help.go:113", after := #[{ on := 75, ground := Ground.data }, { on := 62, ground := Ground.guard }], guard := some (62, false) } : Oper)) (v := ?vam71) rfl (by kernel_rfl) (by kernel_rfl) (by kernel_rfl) (fun _ _ _ h => h) (Or.inl ⟨by rfl, fun w hSw => ?hyam71⟩) (by assumption) ?ram71
  case hyam71 => (try dsimp only at hSw); go_simp; (try with_reducible rfl)
  (try simp only [Act.put, List.setIfInBounds_toArray, List.set_cons_zero, List.set_cons_succ])
  refine wpAnyH_ready (rs := [68]) (by kernel_rfl) (by simp) ?_
  refine AllReadyH.cons (o := ({ dst := some 78, op := Op.call { callee := Callee.value (Operand.func 31), args := #[Operand.tmp 77], argTypes := #[40] }, type := 22, pos := "help.go:113", after := #[{ on := 67, ground := Ground.data }, { on := 62, ground := Ground.chain }, { on := 62, ground := Ground.guard }], guard := some (62, false) } : Oper)) rfl (fun Kq hKq => ?_) AllReadyH.nil
  go_simp
  (refine (HNW.out _ hHeld.1.1).mono ?_; rintro e w3 ⟨rfl, rfl⟩)
  refine hKq.out _ _ ?_ (fun hHeld => ?_)
  · exact hHeld
  clear hKq Kq
  (try simp only [Act.put, List.setIfInBounds_toArray, List.set_cons_zero, List.set_cons_succ])
  refine wpAnyH_take (i := 77) (oi := ({ dst := some 87, op := Op.binOp BinOp.neq 22 (Operand.tmp 78) (Operand.tmp 86) 22, type := 4, pos := "help.go:113", after := #[{ on := 68, ground := Ground.data }, { on := 76, ground := Ground.data }, { on := 62, ground := Ground.guard }], guard := some (62, false) } : Oper)) (v := ?vam72) rfl (by kernel_rfl) (by kernel_rfl) (by kernel_rfl) (fun _ _ _ h => h) (Or.inl ⟨by rfl, fun w hSw => ?hyam72⟩) (by assumption) ?ram72
  case hyam72 => (try dsimp only at hSw); go_simp; (try with_reducible rfl)
  (try simp only [Act.put, List.setIfInBounds_toArray, List.set_cons_zero, List.set_cons_succ])
  refine wpAnyH_take (i := 78) (oi := ({ dst := some 88, op := Op.pick (Operand.tmp 72) (Operand.const (Value.bool true)) (Operand.tmp 87), type := 4, pos := "help.go:113", after := #[{ on := 62, ground := Ground.data }, { on := 77, ground := Ground.data }], guard := none } : Oper)) (v := ?vam73) rfl (by kernel_rfl) (by kernel_rfl) (by kernel_rfl) (fun _ _ _ h => h) (Or.inl ⟨by rfl, fun w hSw => ?hyam73⟩) (by assumption) ?ram73
  case hyam73 => (try dsimp only at hSw); go_simp; (try with_reducible rfl)
  (try simp only [Act.put, List.setIfInBounds_toArray, List.set_cons_zero, List.set_cons_succ])
  refine wpAnyH_done (by kernel_rfl) ?_ _
  have HB3 := Lib.hid hHeld.1.1
  clear hHeld HSM HS2 HAL HNS HTS HNW HF HTX HTY hev
  have HAS := Lib.hid (fun (i : Nat) (hi : i < 128) (W : World) (q : Below w2.heap.size w2 W) => S4.asleep_yes (H2.out.new q).pr.pw.permits hi)
  have HGQ := Lib.hid (fun (i : Nat) (hi : i < 128) (now : Nat) (W : World) (q : Below w2.heap.size w2 W) => S4.pgoes_yes (H2.out.new q).pr.pw.permits hi now)
  have HRQ : Hid (∀ (i : Nat), i < 128 → ∀ (now : Nat) W, Below w2.heap.size w2 W → Calls Tryz.prog 34 #[Pw Y.pB, .int .i64 (i : Int), .int .u64 (now : Int)] W fun e w' => e = .returned (.bool (S4.goesB (X.pf i) now)) ∧ Below W.heap.size W w') := Lib.hid (fun i hi now W q => by
    have := S4.rgoes_yes (H2.out.new q).pr.rpermits hi now
    rw [← HE.out.1, S4.goes_both (H2.out.pok i) now] at this
    exact this)
  go_wp2_with fail
  go_loopg [3, 4] 128 (fun q s3 s4 wx => ∃ i : Nat, i ≤ 128 ∧ q = 128 - i ∧ s3 = .int .i64 (i : Int) ∧ Below w2.heap.size w2 wx)
  case atStart => exact ⟨0, by omega, rfl, rfl, HB3.out⟩
  case round =>
    obtain ⟨i, hi, rfl, rfl, hb⟩ := hrel
    have h3 := H2.out.new hb
    have e0 := (hb.block B0 (Array.getElem?_eq_some_iff.1 HQ0.out).1).trans HQ0.out
    have b0 := cell_row e0 0; have b1 := cell_row e0 1
    simp only [List.getElem?_toArray, List.getElem?_cons_zero, List.getElem?_cons_succ] at b0 b1
    by_cases hi8 : i < 128
    · have has := HAS.out i hi8
      have hg0 : ∀ W, Below w2.heap.size w2 W → Calls Tryz.prog 33 #[Pw X.pB, .int .i64 (i : Int), .int .u64 0] W fun e w' => e = .returned (.bool (S4.goesB (X.pf i) 0)) ∧ Below W.heap.size W w' := HGQ.out i hi8 0
      have hr0 : ∀ W, Below w2.heap.size w2 W → Calls Tryz.prog 34 #[Pw Y.pB, .int .i64 (i : Int), .int .u64 0] W fun e w' => e = .returned (.bool (S4.goesB (X.pf i) 0)) ∧ Below W.heap.size W w' := HRQ.out i hi8 0
      have hg1 : ∀ W, Below w2.heap.size w2 W → Calls Tryz.prog 33 #[Pw X.pB, .int .i64 (i : Int), .int .u64 18446744073709551615] W fun e w' => e = .returned (.bool (S4.goesB (X.pf i) 18446744073709551615)) ∧ Below W.heap.size W w' := HGQ.out i hi8 18446744073709551615
      have hr1 : ∀ W, Below w2.heap.size w2 W → Calls Tryz.prog 34 #[Pw Y.pB, .int .i64 (i : Int), .int .u64 18446744073709551615] W fun e w' => e = .returned (.bool (S4.goesB (X.pf i) 18446744073709551615)) ∧ Below W.heap.size W w' := HRQ.out i hi8 18446744073709551615
      generalize S4.goesB (X.pf i) 0 = g0 at *
      generalize S4.goesB (X.pf i) 18446744073709551615 = g1 at *
      have d1 : (i : Int) < 128 := by omega
      have k0 := h3.pr.rpermits.c0 i hi8; have k1 := h3.pr.rpermits.c1 i hi8; have k2 := h3.pr.rpermits.c2 i hi8; have k3 := h3.pr.rpermits.c3 i hi8
      rw [← HE.out.1] at k0 k1 k2 k3
      have r2 := h3.pr.r2
      rw [h3.rB] at r2
      have x2 := h3.pr.pw.c2
      rw [h3.wB] at x2
      generalize X.pf i = pk at *
      obtain ⟨pp, pa, po, pt⟩ := pk
      dsimp only at k0 k1 k2 k3 has
      obtain ⟨pB, hpB⟩ : ∃ x, x = X.pB := ⟨_, rfl⟩
      obtain ⟨rpB, hrpB⟩ : ∃ x, x = Y.pB := ⟨_, rfl⟩
      rw [← hpB] at has hg0 hg1 x2; rw [← hrpB] at hr0 hr1 r2 k0 k1 k2 k3
      have HASI := Lib.hid has; have HGO0 := Lib.hid hg0; have HGO1 := Lib.hid hg1; have HRG0 := Lib.hid hr0; have HRG1 := Lib.hid hr1
      have HBR := Lib.hid hb
      have HI := Lib.hid hi8
      clear has hg0 hg1 hr0 hr1 h3 hpB hrpB e0 hi8 hi
      go_upto_region 7 with (fail)
      have hnx := heap_alloc_new wr (.cells #[.bool pp, .bool pa, .bool po, .int .u64 (pt : Int)] 81)
      have hby := below1 wr (.cells #[.bool pp, .bool pa, .bool po, .int .u64 (pt : Int)] 81)
      have y0 := bcell hby b0; have y1 := bcell hby b1; have y2 := bcell hby x2; have y3 := bcell hby r2
      have y4 := cell_row hnx 1
      simp only [List.getElem?_toArray, List.getElem?_cons_zero, List.getElem?_cons_succ] at y4
      have HBY := Lib.hid (HBR.out.trans (hby.mono HBR.out.size))
      obtain ⟨Bx, hBx⟩ : ∃ x, x = wr.heap.size := ⟨_, rfl⟩
      rw [← hBx] at y4 ⊢
      clear hnx hby b0 b1 x2 r2 k0 k1 k2 k3 hb hBx
      generalize wr.alloc (.cells #[.bool pp, .bool pa, .bool po, .int .u64 (pt : Int)] 81) = w4 at *
      have HF7 : Hid (w4.drew.cell? ⟨B0, 0, none⟩ = some (Pw WB) ∧ w4.drew.cell? ⟨B0, 1, none⟩ = some (Pw RB) ∧ w4.drew.cell? ⟨WB, 2, none⟩ = some (Pw pB) ∧ w4.drew.cell? ⟨RB, 2, none⟩ = some (Pw rpB) ∧ w4.drew.cell? ⟨Bx, 1, none⟩ = some (.bool pa)) := Lib.hid ⟨y0, y1, y2, y3, y4⟩
      clear y0 y1 y2 y3 y4
      refine wp_region_held_drew (S := fun w' => Below w2.heap.size w2 w' ∧ w'.cell? ⟨B0, 0, none⟩ = some (Pw WB) ∧ w'.cell? ⟨B0, 1, none⟩ = some (Pw RB) ∧ w'.cell? ⟨WB, 2, none⟩ = some (Pw pB) ∧ w'.cell? ⟨RB, 2, none⟩ = some (Pw rpB) ∧ w'.cell? ⟨Bx, 1, none⟩ = some (.bool pa)) (by kernel_rfl) ?_ (fun hHeld => ?_)
      · exact ⟨HBY.out.drew, HF7.out⟩
      refine wpAnyH_take (i := 0) (oi := ({ dst := some 103, op := Op.fieldAddr 38 (Operand.tmp 1) 0, type := 0, pos := "help.go:118", after := #[], guard := none } : Oper)) (v := ?vbm1) rfl (by kernel_rfl) (by kernel_rfl) (by kernel_rfl) (fun _ _ _ h => h) (Or.inl ⟨by rfl, fun w hSw => ?hybm1⟩) (by assumption) ?rbm1
      case hybm1 => (try dsimp only at hSw); go_simp; (try with_reducible rfl)
      (try simp only [Act.put, List.setIfInBounds_toArray, List.set_cons_zero, List.set_cons_succ])
      refine wpAnyH_take (i := 1) (oi := ({ dst := some 104, op := Op.load 28 (Operand.tmp 103), type := 28, pos := "help.go:118", after := #[{ on := 0, ground := Ground.data }], guard := none } : Oper)) (v := ?vbm2) rfl (by kernel_rfl) (by kernel_rfl) (by kernel_rfl) (fun _ _ _ h => h) (Or.inl ⟨by rfl, fun w hSw => ?hybm2⟩) (by assumption) ?rbm2
      case hybm2 => (try dsimp only at hSw); go_simp; (try with_reducible rfl)
      (try simp only [Act.put, List.setIfInBounds_toArray, List.set_cons_zero, List.set_cons_succ])
      refine wpAnyH_take (i := 2) (oi := ({ dst := some 105, op := Op.nilCheck (Operand.tmp 104), type := 0, pos := "help.go:118", after := #[{ on := 1, ground := Ground.data }], guard := none } : Oper)) (v := ?vbm3) rfl (by kernel_rfl) (by kernel_rfl) (by kernel_rfl) (fun _ _ _ h => h) (Or.inl ⟨by rfl, fun w hSw => ?hybm3⟩) (by assumption) ?rbm3
      case hybm3 => (try dsimp only at hSw); go_simp; (try with_reducible rfl)
      (try simp only [Act.put, List.setIfInBounds_toArray, List.set_cons_zero, List.set_cons_succ])
      refine wpAnyH_take (i := 3) (oi := ({ dst := some 106, op := Op.fieldAddr 47 (Operand.tmp 105) 2, type := 0, pos := "help.go:118", after := #[{ on := 2, ground := Ground.data }], guard := none } : Oper)) (v := ?vbm4) rfl (by kernel_rfl) (by kernel_rfl) (by kernel_rfl) (fun _ _ _ h => h) (Or.inl ⟨by rfl, fun w hSw => ?hybm4⟩) (by assumption) ?rbm4
      case hybm4 => (try dsimp only at hSw); go_simp; (try with_reducible rfl)
      (try simp only [Act.put, List.setIfInBounds_toArray, List.set_cons_zero, List.set_cons_succ])
      refine wpAnyH_take (i := 4) (oi := ({ dst := some 107, op := Op.load 41 (Operand.tmp 106), type := 41, pos := "help.go:118", after := #[{ on := 3, ground := Ground.data }], guard := none } : Oper)) (v := ?vbm5) rfl (by kernel_rfl) (by kernel_rfl) (by kernel_rfl) (fun _ _ _ h => h) (Or.inl ⟨by rfl, fun w hSw => ?hybm5⟩) (by assumption) ?rbm5
      case hybm5 => (try dsimp only at hSw); go_simp; (try with_reducible rfl)
      (try simp only [Act.put, List.setIfInBounds_toArray, List.set_cons_zero, List.set_cons_succ])
      refine wpAnyH_take (i := 5) (oi := ({ dst := some 108, op := Op.move (Operand.tmp 3), type := 3, pos := "help.go:118", after := #[], guard := none } : Oper)) (v := ?vbm6) rfl (by kernel_rfl) (by kernel_rfl) (by kernel_rfl) (fun _ _ _ h => h) (Or.inl ⟨by rfl, fun w hSw => ?hybm6⟩) (by assumption) ?rbm6
      case hybm6 => (try dsimp only at hSw); go_simp; (try with_reducible rfl)
      (try simp only [Act.put, List.setIfInBounds_toArray, List.set_cons_zero, List.set_cons_succ])
      refine wpAnyH_take (i := 7) (oi := ({ dst := some 110, op := Op.fieldAddr 81 (Operand.tmp 4) 1, type := 0, pos := "help.go:118", after := #[], guard := none } : Oper)) (v := ?vbm7) rfl (by kernel_rfl) (by kernel_rfl) (by kernel_rfl) (fun _ _ _ h => h) (Or.inl ⟨by rfl, fun w hSw => ?hybm7⟩) (by assumption) ?rbm7
      case hybm7 => (try dsimp only at hSw); go_simp; (try with_reducible rfl)
      (try simp only [Act.put, List.setIfInBounds_toArray, List.set_cons_zero, List.set_cons_succ])
      refine wpAnyH_take (i := 8) (oi := ({ dst := some 111, op := Op.load 4 (Operand.tmp 110), type := 4, pos := "help.go:118", after := #[{ on := 7, ground := Ground.data }], guard := none } : Oper)) (v := ?vbm8) rfl (by kernel_rfl) (by kernel_rfl) (by kernel_rfl) (fun _ _ _ h => h) (Or.inl ⟨by rfl, fun w hSw => ?hybm8⟩) (by assumption) ?rbm8
      case hybm8 => (try dsimp only at hSw); go_simp; (try with_reducible rfl)
      (try simp only [Act.put, List.setIfInBounds_toArray, List.set_cons_zero, List.set_cons_succ])
      refine wpAnyH_ready (rs := [6]) (by kernel_rfl) (by simp) ?_
      refine AllReadyH.cons (o := ({ dst := some 109, op := Op.call { callee := Callee.value (Operand.func 32), args := #[Operand.tmp 107, Operand.tmp 108], argTypes := #[41, 3] }, type := 4, pos := "help.go:118", after := #[{ on := 4, ground := Ground.data }, { on := 5, ground := Ground.data }], guard := none } : Oper)) rfl (fun Kq hKq => ?_) AllReadyH.nil
      go_simp
      (refine (HASI.out _ hHeld.1).mono ?_; rintro e w3 ⟨rfl, rfl⟩)
      refine hKq.out _ _ ?_ (fun hHeld => ?_)
      · exact hHeld
      clear hKq Kq
      (try simp only [Act.put, List.setIfInBounds_toArray, List.set_cons_zero, List.set_cons_succ])
      refine wpAnyH_take (i := 9) (oi := ({ dst := some 112, op := Op.binOp BinOp.neq 4 (Operand.tmp 109) (Operand.tmp 111) 4, type := 4, pos := "help.go:118", after := #[{ on := 6, ground := Ground.data }, { on := 8, ground := Ground.data }], guard := none } : Oper)) (v := ?vbm9) rfl (by kernel_rfl) (by kernel_rfl) (by kernel_rfl) (fun _ _ _ h => h) (Or.inl ⟨by rfl, fun w hSw => ?hybm9⟩) (by assumption) ?rbm9
      case hybm9 => (try dsimp only at hSw); go_simp; (try with_reducible rfl)
      (try simp only [Act.put, List.setIfInBounds_toArray, List.set_cons_zero, List.set_cons_succ])
      refine wpAnyH_take (i := 10) (oi := ({ dst := some 113, op := Op.move (Operand.tmp 112), type := 4, pos := "help.go:118", after := #[{ on := 9, ground := Ground.data }, { on := 6, ground := Ground.chain }], guard := none } : Oper)) (v := ?vbm10) rfl (by kernel_rfl) (by kernel_rfl) (by kernel_rfl) (fun _ _ _ h => h) (Or.inl ⟨by rfl, fun w hSw => ?hybm10⟩) (by assumption) ?rbm10
      case hybm10 => (try dsimp only at hSw); go_simp; (try with_reducible rfl)
      (try simp only [Act.put, List.setIfInBounds_toArray, List.set_cons_zero, List.set_cons_succ])
      refine wpAnyH_take (i := 11) (oi := ({ dst := some 114, op := Op.fieldAddr 38 (Operand.tmp 1) 0, type := 0, pos := "help.go:118", after := #[{ on := 10, ground := Ground.guard }], guard := some (10, false) } : Oper)) (v := ?vbm11) rfl (by kernel_rfl) (by kernel_rfl) (by kernel_rfl) (fun _ _ _ h => h) (Or.inl ⟨by rfl, fun w hSw => ?hybm11⟩) (by assumption) ?rbm11
      case hybm11 => (try dsimp only at hSw); go_simp; (try with_reducible rfl)
      (try simp only [Act.put, List.setIfInBounds_toArray, List.set_cons_zero, List.set_cons_succ])
      refine wpAnyH_take (i := 12) (oi := ({ dst := some 115, op := Op.load 28 (Operand.tmp 114), type := 28, pos := "help.go:118", after := #[{ on := 11, ground := Ground.data }, { on := 10, ground := Ground.guard }], guard := some (10, false) } : Oper)) (v := ?vbm12) rfl (by kernel_rfl) (by kernel_rfl) (by kernel_rfl) (fun _ _ _ h => h) (Or.inl ⟨by rfl, fun w hSw => ?hybm12⟩) (by assumption) ?rbm12
      case hybm12 => (try dsimp only at hSw); go_simp; (try with_reducible rfl)
      (try simp only [Act.put, List.setIfInBounds_toArray, List.set_cons_zero, List.set_cons_succ])
      refine wpAnyH_take (i := 13) (oi := ({ dst := some 116, op := Op.nilCheck (Operand.tmp 115), type := 0, pos := "help.go:118", after := #[{ on := 12, ground := Ground.data }, { on := 10, ground := Ground.guard }], guard := some (10, false) } : Oper)) (v := ?vbm13) rfl (by kernel_rfl) (by kernel_rfl) (by kernel_rfl) (fun _ _ _ h => h) (Or.inl ⟨by rfl, fun w hSw => ?hybm13⟩) (by assumption) ?rbm13
      case hybm13 => (try dsimp only at hSw); go_simp; (try with_reducible rfl)
      (try simp only [Act.put, List.setIfInBounds_toArray, List.set_cons_zero, List.set_cons_succ])
      refine wpAnyH_take (i := 14) (oi := ({ dst := some 117, op := Op.fieldAddr 47 (Operand.tmp 116) 2, type := 0, pos := "help.go:118", after := #[{ on := 13, ground := Ground.data }, { on := 10, ground := Ground.guard }], guard := some (10, false) } : Oper)) (v := ?vbm14) rfl (by kernel_rfl) (by kernel_rfl) (by kernel_rfl) (fun _ _ _ h => h) (Or.inl ⟨by rfl, fun w hSw => ?hybm14⟩) (by assumption) ?rbm14
      case hybm14 => (try dsimp only at hSw); go_simp; (try with_reducible rfl)
      (try simp only [Act.put, List.setIfInBounds_toArray, List.set_cons_zero, List.set_cons_succ])
      refine wpAnyH_take (i := 15) (oi := ({ dst := some 118, op := Op.load 41 (Operand.tmp 117), type := 41, pos := "help.go:118", after := #[{ on := 14, ground := Ground.data }, { on := 10, ground := Ground.guard }], guard := some (10, false) } : Oper)) (v := ?vbm15) rfl (by kernel_rfl) (by kernel_rfl) (by kernel_rfl) (fun _ _ _ h => h) (Or.inl ⟨by rfl, fun w hSw => ?hybm15⟩) (by assumption) ?rbm15
      case hybm15 => (try dsimp only at hSw); go_simp; (try with_reducible rfl)
      (try simp only [Act.put, List.setIfInBounds_toArray, List.set_cons_zero, List.set_cons_succ])
      refine wpAnyH_take (i := 16) (oi := ({ dst := some 119, op := Op.move (Operand.tmp 3), type := 3, pos := "help.go:118", after := #[{ on := 10, ground := Ground.guard }], guard := some (10, false) } : Oper)) (v := ?vbm16) rfl (by kernel_rfl) (by kernel_rfl) (by kernel_rfl) (fun _ _ _ h => h) (Or.inl ⟨by rfl, fun w hSw => ?hybm16⟩) (by assumption) ?rbm16
      case hybm16 => (try dsimp only at hSw); go_simp; (try with_reducible rfl)
      (try simp only [Act.put, List.setIfInBounds_toArray, List.set_cons_zero, List.set_cons_succ])
      refine wpAnyH_take (i := 18) (oi := ({ dst := some 121, op := Op.fieldAddr 38 (Operand.tmp 1) 1, type := 0, pos := "help.go:118", after := #[{ on := 10, ground := Ground.guard }], guard := some (10, false) } : Oper)) (v := ?vbm17) rfl (by kernel_rfl) (by kernel_rfl) (by kernel_rfl) (fun _ _ _ h => h) (Or.inl ⟨by rfl, fun w hSw => ?hybm17⟩) (by assumption) ?rbm17
      case hybm17 => (try dsimp only at hSw); go_simp; (try with_reducible rfl)
      (try simp only [Act.put, List.setIfInBounds_toArray, List.set_cons_zero, List.set_cons_succ])
      refine wpAnyH_take (i := 19) (oi := ({ dst := some 122, op := Op.load 32 (Operand.tmp 121), type := 32, pos := "help.go:118", after := #[{ on := 18, ground := Ground.data }, { on := 10, ground := Ground.guard }], guard := some (10, false) } : Oper)) (v := ?vbm18) rfl (by kernel_rfl) (by kernel_rfl) (by kernel_rfl) (fun _ _ _ h => h) (Or.inl ⟨by rfl, fun w hSw => ?hybm18⟩) (by assumption) ?rbm18
      case hybm18 => (try dsimp only at hSw); go_simp; (try with_reducible rfl)
      (try simp only [Act.put, List.setIfInBounds_toArray, List.set_cons_zero, List.set_cons_succ])
      refine wpAnyH_take (i := 20) (oi := ({ dst := some 123, op := Op.nilCheck (Operand.tmp 122), type := 0, pos := "help.go:118", after := #[{ on := 19, ground := Ground.data }, { on := 10, ground := Ground.guard }], guard := some (10, false) } : Oper)) (v := ?vbm19) rfl (by kernel_rfl) (by kernel_rfl) (by kernel_rfl) (fun _ _ _ h => h) (Or.inl ⟨by rfl, fun w hSw => ?hybm19⟩) (by assumption) ?rbm19
      case hybm19 => (try dsimp only at hSw); go_simp; (try with_reducible rfl)
      (try simp only [Act.put, List.setIfInBounds_toArray, List.set_cons_zero, List.set_cons_succ])
      refine wpAnyH_take (i := 21) (oi := ({ dst := some 124, op := Op.fieldAddr 55 (Operand.tmp 123) 2, type := 0, pos := "help.go:118", after := #[{ on := 20, ground := Ground.data }, { on := 10, ground := Ground.guard }], guard := some (10, false) } : Oper)) (v := ?vbm20) rfl (by kernel_rfl) (by kernel_rfl) (by kernel_rfl) (fun _ _ _ h => h) (Or.inl ⟨by rfl, fun w hSw => ?hybm20⟩) (by assumption) ?rbm20
      case hybm20 => (try dsimp only at hSw); go_simp; (try with_reducible rfl)
      (try simp only [Act.put, List.setIfInBounds_toArray, List.set_cons_zero, List.set_cons_succ])
      refine wpAnyH_take (i := 22) (oi := ({ dst := some 125, op := Op.load 50 (Operand.tmp 124), type := 50, pos := "help.go:118", after := #[{ on := 21, ground := Ground.data }, { on := 10, ground := Ground.guard }], guard := some (10, false) } : Oper)) (v := ?vbm21) rfl (by kernel_rfl) (by kernel_rfl) (by kernel_rfl) (fun _ _ _ h => h) (Or.inl ⟨by rfl, fun w hSw => ?hybm21⟩) (by assumption) ?rbm21
      case hybm21 => (try dsimp only at hSw); go_simp; (try with_reducible rfl)
      (try simp only [Act.put, List.setIfInBounds_toArray, List.set_cons_zero, List.set_cons_succ])
      refine wpAnyH_take (i := 23) (oi := ({ dst := some 126, op := Op.move (Operand.tmp 3), type := 3, pos := "help.go:118", after := #[{ on := 10, ground := Ground.guard }], guard := some (10, false) } : Oper)) (v := ?vbm22) rfl (by kernel_rfl) (by kernel_rfl) (by kernel_rfl) (fun _ _ _ h => h) (Or.inl ⟨by rfl, fun w hSw => ?hybm22⟩) (by assumption) ?rbm22
      case hybm22 => (try dsimp only at hSw); go_simp; (try with_reducible rfl)
      (try simp only [Act.put, List.setIfInBounds_toArray, List.set_cons_zero, List.set_cons_succ])
      refine wpAnyH_ready (rs := [17]) (by kernel_rfl) (by simp) ?_
      refine AllReadyH.cons (o := ({ dst := some 120, op := Op.call { callee := Callee.value (Operand.func 33), args := #[Operand.tmp 118, Operand.tmp 119, Operand.const (Value.int IntKind.u64 0)], argTypes := #[41, 3, 22] }, type := 4, pos := "help.go:118", after := #[{ on := 15, ground := Ground.data }, { on := 16, ground := Ground.data }, { on := 10, ground := Ground.chain }, { on := 10, ground := Ground.guard }], guard := some (10, false) } : Oper)) rfl (fun Kq hKq => ?_) AllReadyH.nil
      go_simp
      (refine (HGO0.out _ hHeld.1).mono ?_; rintro e w3 ⟨rfl, hb⟩)
      refine hKq.out _ _ ?_ (fun hHeld => ?_)
      · exact SbF.new hHeld hb
      clear hKq Kq
      (try simp only [Act.put, List.setIfInBounds_toArray, List.set_cons_zero, List.set_cons_succ])
      refine wpAnyH_ready (rs := [24]) (by kernel_rfl) (by simp) ?_
      refine AllReadyH.cons (o := ({ dst := some 127, op := Op.call { callee := Callee.value (Operand.func 34), args := #[Operand.tmp 125, Operand.tmp 126, Operand.const (Value.int IntKind.u64 0)], argTypes := #[50, 3, 22] }, type := 4, pos := "help.go:118", after := #[{ on := 22, ground := Ground.data }, { on := 23, ground := Ground.data }, { on := 17, ground := Ground.chain }, { on := 10, ground := Ground.guard }], guard := some (10, false) } : Oper)) rfl (fun Kq hKq => ?_) AllReadyH.nil
      go_simp
      (refine (HRG0.out _ hHeld.1).mono ?_; rintro e w3 ⟨rfl, hb⟩)
      refine hKq.out _ _ ?_ (fun hHeld => ?_)
      · exact SbF.new hHeld hb
      clear hKq Kq
      (try simp only [Act.put, List.setIfInBounds_toArray, List.set_cons_zero, List.set_cons_succ])
      refine wpAnyH_take (i := 25) (oi := ({ dst := some 128, op := Op.binOp BinOp.neq 4 (Operand.tmp 120) (Operand.tmp 127) 4, type := 4, pos := "help.go:118", after := #[{ on := 17, ground := Ground.data }, { on := 24, ground := Ground.data }, { on := 10, ground := Ground.guard }], guard := some (10, false) } : Oper)) (v := ?vbm23) rfl (by kernel_rfl) (by kernel_rfl) (by kernel_rfl) (fun _ _ _ h => h) (Or.inl ⟨by rfl, fun w hSw => ?hybm23⟩) (by assumption) ?rbm23
      case hybm23 => (try dsimp only at hSw); go_simp; (try with_reducible rfl)
      (try simp only [Act.put, List.setIfInBounds_toArray, List.set_cons_zero, List.set_cons_succ])
      refine wpAnyH_take (i := 26) (oi := ({ dst := some 129, op := Op.pick (Operand.tmp 113) (Operand.const (Value.bool true)) (Operand.tmp 128), type := 4, pos := "help.go:118", after := #[{ on := 10, ground := Ground.data }, { on := 25, ground := Ground.data }], guard := none } : Oper)) (v := ?vbm24) rfl (by kernel_rfl) (by kernel_rfl) (by kernel_rfl) (fun _ _ _ h => h) (Or.inl ⟨by rfl, fun w hSw => ?hybm24⟩) (by assumption) ?rbm24
      case hybm24 => (try dsimp only at hSw); go_simp; (try with_reducible rfl)
      (try simp only [Act.put, List.setIfInBounds_toArray, List.set_cons_zero, List.set_cons_succ])
      refine wpAnyH_take (i := 27) (oi := ({ dst := some 130, op := Op.move (Operand.tmp 129), type := 4, pos := "help.go:118", after := #[{ on := 26, ground := Ground.data }, { on := 24, ground := Ground.chain }], guard := none } : Oper)) (v := ?vbm25) rfl (by kernel_rfl) (by kernel_rfl) (by kernel_rfl) (fun _ _ _ h => h) (Or.inl ⟨by rfl, fun w hSw => ?hybm25⟩) (by assumption) ?rbm25
      case hybm25 => (try dsimp only at hSw); go_simp; (try with_reducible rfl)
      (try simp only [Act.put, List.setIfInBounds_toArray, List.set_cons_zero, List.set_cons_succ])
      refine wpAnyH_take (i := 28) (oi := ({ dst := some 131, op := Op.fieldAddr 38 (Operand.tmp 1) 0, type := 0, pos := "help.go:118", after := #[{ on := 27, ground := Ground.guard }], guard := some (27, false) } : Oper)) (v := ?vbm26) rfl (by kernel_rfl) (by kernel_rfl) (by kernel_rfl) (fun _ _ _ h => h) (Or.inl ⟨by rfl, fun w hSw => ?hybm26⟩) (by assumption) ?rbm26
      case hybm26 => (try dsimp only at hSw); go_simp; (try with_reducible rfl)
      (try simp only [Act.put, List.setIfInBounds_toArray, List.set_cons_zero, List.set_cons_succ])
      refine wpAnyH_take (i := 29) (oi := ({ dst := some 132, op := Op.load 28 (Operand.tmp 131), type := 28, pos := "help.go:118", after := #[{ on := 28, ground := Ground.data }, { on := 27, ground := Ground.guard }], guard := some (27, false) } : Oper)) (v := ?vbm27) rfl (by kernel_rfl) (by kernel_rfl) (by kernel_rfl) (fun _ _ _ h => h) (Or.inl ⟨by rfl, fun w hSw => ?hybm27⟩) (by assumption) ?rbm27
      case hybm27 => (try dsimp only at hSw); go_simp; (try with_reducible rfl)
      (try simp only [Act.put, List.setIfInBounds_toArray, List.set_cons_zero, List.set_cons_succ])
      refine wpAnyH_take (i := 30) (oi := ({ dst := some 133, op := Op.nilCheck (Operand.tmp 132), type := 0, pos := "help.go:118", after := #[{ on := 29, ground := Ground.data }, { on := 27, ground := Ground.guard }], guard := some (27, false) } : Oper)) (v := ?vbm28) rfl (by kernel_rfl) (by kernel_rfl) (by kernel_rfl) (fun _ _ _ h => h) (Or.inl ⟨by rfl, fun w hSw => ?hybm28⟩) (by assumption) ?rbm28
      case hybm28 => (try dsimp only at hSw); go_simp; (try with_reducible rfl)
      (try simp only [Act.put, List.setIfInBounds_toArray, List.set_cons_zero, List.set_cons_succ])
      refine wpAnyH_take (i := 31) (oi := ({ dst := some 134, op := Op.fieldAddr 47 (Operand.tmp 133) 2, type := 0, pos := "help.go:118", after := #[{ on := 30, ground := Ground.data }, { on := 27, ground := Ground.guard }], guard := some (27, false) } : Oper)) (v := ?vbm29) rfl (by kernel_rfl) (by kernel_rfl) (by kernel_rfl) (fun _ _ _ h => h) (Or.inl ⟨by rfl, fun w hSw => ?hybm29⟩) (by assumption) ?rbm29
      case hybm29 => (try dsimp only at hSw); go_simp; (try with_reducible rfl)
      (try simp only [Act.put, List.setIfInBounds_toArray, List.set_cons_zero, List.set_cons_succ])
      refine wpAnyH_take (i := 32) (oi := ({ dst := some 135, op := Op.load 41 (Operand.tmp 134), type := 41, pos := "help.go:118", after := #[{ on := 31, ground := Ground.data }, { on := 27, ground := Ground.guard }], guard := some (27, false) } : Oper)) (v := ?vbm30) rfl (by kernel_rfl) (by kernel_rfl) (by kernel_rfl) (fun _ _ _ h => h) (Or.inl ⟨by rfl, fun w hSw => ?hybm30⟩) (by assumption) ?rbm30
      case hybm30 => (try dsimp only at hSw); go_simp; (try with_reducible rfl)
      (try simp only [Act.put, List.setIfInBounds_toArray, List.set_cons_zero, List.set_cons_succ])
      refine wpAnyH_take (i := 33) (oi := ({ dst := some 136, op := Op.move (Operand.tmp 3), type := 3, pos := "help.go:118", after := #[{ on := 27, ground := Ground.guard }], guard := some (27, false) } : Oper)) (v := ?vbm31) rfl (by kernel_rfl) (by kernel_rfl) (by kernel_rfl) (fun _ _ _ h => h) (Or.inl ⟨by rfl, fun w hSw => ?hybm31⟩) (by assumption) ?rbm31
      case hybm31 => (try dsimp only at hSw); go_simp; (try with_reducible rfl)
      (try simp only [Act.put, List.setIfInBounds_toArray, List.set_cons_zero, List.set_cons_succ])
      refine wpAnyH_take (i := 35) (oi := ({ dst := some 138, op := Op.fieldAddr 38 (Operand.tmp 1) 1, type := 0, pos := "help.go:118", after := #[{ on := 27, ground := Ground.guard }], guard := some (27, false) } : Oper)) (v := ?vbm32) rfl (by kernel_rfl) (by kernel_rfl) (by kernel_rfl) (fun _ _ _ h => h) (Or.inl ⟨by rfl, fun w hSw => ?hybm32⟩) (by assumption) ?rbm32
      case hybm32 => (try dsimp only at hSw); go_simp; (try with_reducible rfl)
      (try simp only [Act.put, List.setIfInBounds_toArray, List.set_cons_zero, List.set_cons_succ])
      refine wpAnyH_take (i := 36) (oi := ({ dst := some 139, op := Op.load 32 (Operand.tmp 138), type := 32, pos := "help.go:118", after := #[{ on := 35, ground := Ground.data }, { on := 27, ground := Ground.guard }], guard := some (27, false) } : Oper)) (v := ?vbm33) rfl (by kernel_rfl) (by kernel_rfl) (by kernel_rfl) (fun _ _ _ h => h) (Or.inl ⟨by rfl, fun w hSw => ?hybm33⟩) (by assumption) ?rbm33
      case hybm33 => (try dsimp only at hSw); go_simp; (try with_reducible rfl)
      (try simp only [Act.put, List.setIfInBounds_toArray, List.set_cons_zero, List.set_cons_succ])
      refine wpAnyH_take (i := 37) (oi := ({ dst := some 140, op := Op.nilCheck (Operand.tmp 139), type := 0, pos := "help.go:118", after := #[{ on := 36, ground := Ground.data }, { on := 27, ground := Ground.guard }], guard := some (27, false) } : Oper)) (v := ?vbm34) rfl (by kernel_rfl) (by kernel_rfl) (by kernel_rfl) (fun _ _ _ h => h) (Or.inl ⟨by rfl, fun w hSw => ?hybm34⟩) (by assumption) ?rbm34
      case hybm34 => (try dsimp only at hSw); go_simp; (try with_reducible rfl)
      (try simp only [Act.put, List.setIfInBounds_toArray, List.set_cons_zero, List.set_cons_succ])
      refine wpAnyH_take (i := 38) (oi := ({ dst := some 141, op := Op.fieldAddr 55 (Operand.tmp 140) 2, type := 0, pos := "help.go:118", after := #[{ on := 37, ground := Ground.data }, { on := 27, ground := Ground.guard }], guard := some (27, false) } : Oper)) (v := ?vbm35) rfl (by kernel_rfl) (by kernel_rfl) (by kernel_rfl) (fun _ _ _ h => h) (Or.inl ⟨by rfl, fun w hSw => ?hybm35⟩) (by assumption) ?rbm35
      case hybm35 => (try dsimp only at hSw); go_simp; (try with_reducible rfl)
      (try simp only [Act.put, List.setIfInBounds_toArray, List.set_cons_zero, List.set_cons_succ])
      refine wpAnyH_take (i := 39) (oi := ({ dst := some 142, op := Op.load 50 (Operand.tmp 141), type := 50, pos := "help.go:118", after := #[{ on := 38, ground := Ground.data }, { on := 27, ground := Ground.guard }], guard := some (27, false) } : Oper)) (v := ?vbm36) rfl (by kernel_rfl) (by kernel_rfl) (by kernel_rfl) (fun _ _ _ h => h) (Or.inl ⟨by rfl, fun w hSw => ?hybm36⟩) (by assumption) ?rbm36
      case hybm36 => (try dsimp only at hSw); go_simp; (try with_reducible rfl)
      (try simp only [Act.put, List.setIfInBounds_toArray, List.set_cons_zero, List.set_cons_succ])
      refine wpAnyH_take (i := 40) (oi := ({ dst := some 143, op := Op.move (Operand.tmp 3), type := 3, pos := "help.go:118", after := #[{ on := 27, ground := Ground.guard }], guard := some (27, false) } : Oper)) (v := ?vbm37) rfl (by kernel_rfl) (by kernel_rfl) (by kernel_rfl) (fun _ _ _ h => h) (Or.inl ⟨by rfl, fun w hSw => ?hybm37⟩) (by assumption) ?rbm37
      case hybm37 => (try dsimp only at hSw); go_simp; (try with_reducible rfl)
      (try simp only [Act.put, List.setIfInBounds_toArray, List.set_cons_zero, List.set_cons_succ])
      refine wpAnyH_ready (rs := [34]) (by kernel_rfl) (by simp) ?_
      refine AllReadyH.cons (o := ({ dst := some 137, op := Op.call { callee := Callee.value (Operand.func 33), args := #[Operand.tmp 135, Operand.tmp 136, Operand.const (Value.int IntKind.u64 18446744073709551615)], argTypes := #[41, 3, 22] }, type := 4, pos := "help.go:118", after := #[{ on := 32, ground := Ground.data }, { on := 33, ground := Ground.data }, { on := 27, ground := Ground.chain }, { on := 27, ground := Ground.guard }], guard := some (27, false) } : Oper)) rfl (fun Kq hKq => ?_) AllReadyH.nil
      go_simp
      (refine (HGO1.out _ hHeld.1).mono ?_; rintro e w3 ⟨rfl, hb⟩)
      refine hKq.out _ _ ?_ (fun hHeld => ?_)
      · exact SbF.new hHeld hb
      clear hKq Kq
      (try simp only [Act.put, List.setIfInBounds_toArray, List.set_cons_zero, List.set_cons_succ])
      refine wpAnyH_ready (rs := [41]) (by kernel_rfl) (by simp) ?_
      refine AllReadyH.cons (o := ({ dst := some 144, op := Op.call { callee := Callee.value (Operand.func 34), args := #[Operand.tmp 142, Operand.tmp 143, Operand.const (Value.int IntKind.u64 18446744073709551615)], argTypes := #[50, 3, 22] }, type := 4, pos := "help.go:118", after := #[{ on := 39, ground := Ground.data }, { on := 40, ground := Ground.data }, { on := 34, ground := Ground.chain }, { on := 27, ground := Ground.guard }], guard := some (27, false) } : Oper)) rfl (fun Kq hKq => ?_) AllReadyH.nil
      go_simp
      (refine (HRG1.out _ hHeld.1).mono ?_; rintro e w3 ⟨rfl, hb⟩)
      refine hKq.out _ _ ?_ (fun hHeld => ?_)
      · exact SbF.new hHeld hb
      clear hKq Kq
      (try simp only [Act.put, List.setIfInBounds_toArray, List.set_cons_zero, List.set_cons_succ])
      refine wpAnyH_take (i := 42) (oi := ({ dst := some 145, op := Op.binOp BinOp.neq 4 (Operand.tmp 137) (Operand.tmp 144) 4, type := 4, pos := "help.go:118", after := #[{ on := 34, ground := Ground.data }, { on := 41, ground := Ground.data }, { on := 27, ground := Ground.guard }], guard := some (27, false) } : Oper)) (v := ?vbm38) rfl (by kernel_rfl) (by kernel_rfl) (by kernel_rfl) (fun _ _ _ h => h) (Or.inl ⟨by rfl, fun w hSw => ?hybm38⟩) (by assumption) ?rbm38
      case hybm38 => (try dsimp only at hSw); go_simp; (try with_reducible rfl)
      (try simp only [Act.put, List.setIfInBounds_toArray, List.set_cons_zero, List.set_cons_succ])
      refine wpAnyH_take (i := 43) (oi := ({ dst := some 146, op := Op.pick (Operand.tmp 130) (Operand.const (Value.bool true)) (Operand.tmp 145), type := 4, pos := "help.go:118", after := #[{ on := 27, ground := Ground.data }, { on := 42, ground := Ground.data }], guard := none } : Oper)) (v := ?vbm39) rfl (by kernel_rfl) (by kernel_rfl) (by kernel_rfl) (fun _ _ _ h => h) (Or.inl ⟨by rfl, fun w hSw => ?hybm39⟩) (by assumption) ?rbm39
      case hybm39 => (try dsimp only at hSw); go_simp; (try with_reducible rfl)
      (try simp only [Act.put, List.setIfInBounds_toArray, List.set_cons_zero, List.set_cons_succ])
      refine wpAnyH_done (by kernel_rfl) ?_ _
      have HB9 := Lib.hid hHeld.1
      clear hHeld HASI HGO0 HGO1 HRG0 HRG1 HF7 HBY HBR
      go_wp2_with fail
      go_roundg (128 - (i + 1))
      case measure => have := HI.out; omega
      case rel => exact ⟨i + 1, by have := HI.out; omega, rfl, by go_num, HB9.out⟩
    · obtain rfl : i = 128 := by omega
      have HB4 := Lib.hid hb
      clear hb h3 e0 b0 b1 hi hi8
      go_wp2_with fail
      go_loopg [5, 6, 7, 8, 9] 64 (fun q s5 s6 s7 s8 s9 wx => ∃ i : Nat, i ≤ 64 ∧ q = 64 - i ∧ s5 = .int .i64 (i : Int) ∧ Below w2.heap.size w2 wx)
      case atStart => exact ⟨0, by omega, rfl, rfl, HB4.out⟩
      case round =>
        obtain ⟨i, hi, rfl, rfl, hb⟩ := hrel
        have h3 := H2.out.new hb
        have e0 := (hb.block B0 (Array.getElem?_eq_some_iff.1 HQ0.out).1).trans HQ0.out
        have b0 := cell_row e0 0; have b1 := cell_row e0 1
        simp only [List.getElem?_toArray, List.getElem?_cons_zero, List.getElem?_cons_succ] at b0 b1
        by_cases hi6 : i < 64
        · have hra : ∀ W, Below w2.heap.size w2 W → Calls Tryz.prog 35 #[Pw Y.lB, .int .i64 (i : Int)] W fun e w' => e = .returned (S5.lnk3 X.lk i) ∧ Below W.heap.size W w' := fun W q => by
            have := S5.rat_yes (H2.out.new q).pr.rlinks i hi6
            rwa [← HE.out.2] at this
          have hat := fun (W : World) (q : Below w2.heap.size w2 W) => S5.at_yes (H2.out.new q).pr.pw.links i hi6
          unfold S5.lnk3 at hra
          unfold S5.lnk at hat
          generalize (X.lk (i * 3) : Int) - 1 = v0 at *
          generalize (X.lk (i * 3 + 1) : Int) - 1 = v1 at *
          generalize (X.lk (i * 3 + 2) : Int) - 1 = v2 at *
          have r3 := h3.pr.r3
          rw [h3.rB] at r3
          obtain ⟨lB, hlB⟩ : ∃ x, x = X.lB := ⟨_, rfl⟩
          obtain ⟨rlB, hrlB⟩ : ∃ x, x = Y.lB := ⟨_, rfl⟩
          rw [← hrlB] at hra r3; rw [← hlB] at hat
          have d1 : (i : Int) < 64 := by omega
          have HRA := Lib.hid hra; have HAT := Lib.hid hat
          have HB5 := Lib.hid hb; have HI := Lib.hid hi6
          have HX3 : Hid (∀ W, Below w2.heap.size w2 W → W.cell? ⟨WB, 3, none⟩ = some (Pw lB) ∧ W.cell? ⟨B0, 0, none⟩ = some (Pw WB)) := Lib.hid (fun W q => by
            have g := H2.out.new q
            have x := g.pr.pw.c3
            rw [g.wB, ← hlB] at x
            have e := (q.block B0 (Array.getElem?_eq_some_iff.1 HQ0.out).1).trans HQ0.out
            exact ⟨x, cell_row e 0⟩)
          clear hra hat h3 e0 hb hi6 hi hlB hrlB
          go_upto_region 13 with (go_at_call 35; refine (HRA.out _ HB5.out).mono ?_; rintro e w5 ⟨rfl, hb5⟩)
          have HB6 := Lib.hid (HB5.out.trans (hb5.mono HB5.out.size))
          obtain ⟨x3, x0⟩ := HX3.out _ HB6.out
          clear hb5 b0 b1 r3
          go_upto_region 14 with (go_at_call 36; refine (HAT.out _ HB6.out).mono ?_; rintro e w6 ⟨rfl, hb6⟩)
          have hnx := heap_alloc_new w6 (.cells #[.int .i64 v0, .int .i64 v1, .int .i64 v2] 103)
          have hby := below1 w6 (.cells #[.int .i64 v0, .int .i64 v1, .int .i64 v2] 103)
          have HB7 := Lib.hid (HB6.out.trans ((hb6.mono HB6.out.size).trans (hby.mono (Nat.le_trans HB6.out.size hb6.size))))
          have y0 := cell_row hnx 0; have y1 := cell_row hnx 1; have y2 := cell_row hnx 2
          simp only [List.getElem?_toArray, List.getElem?_cons_zero, List.getElem?_cons_succ] at y0 y1 y2
          clear hnx hby hb6 x3 x0
          generalize w6.alloc (.cells #[.int .i64 v0, .int .i64 v1, .int .i64 v2] 103) = w7 at *
          generalize w6.heap.size = Bl at *
          go_wp2_with fail
          go_roundg (64 - (i + 1))
          case measure => have := HI.out; omega
          case rel => exact ⟨i + 1, by have := HI.out; omega, rfl, by go_num, HB7.out⟩
        · obtain rfl : i = 64 := by omega
          go_wp2_with fail
          go_ret
          exact ⟨rfl, HB1.out.trans (hb.mono HB1.out.size)⟩
end Go.Proofs.YthafnphpcdbnlaaGreatDoor.S12
