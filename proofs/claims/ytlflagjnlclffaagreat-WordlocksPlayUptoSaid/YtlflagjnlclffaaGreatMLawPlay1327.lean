/- Texts of this seat, one behind the other. -/
import Derived.Test.YtlflagjnlclffaaGreatMLawPlay139
import Derived.Test.YtlflagjnlclffaaGreatMLawPlay1326
import Derived.OrdersHeld
import Derived.Deep.MidRow
import Derived.Deep.RegionHeld3
import Derived.LoopTactic
import Derived.Deep.LoopGhost
set_option linter.unusedVariables false
set_option linter.unusedSimpArgs false
namespace Go.Proofs.YtlflagjnlclffaaGreat.S12
open Go.Proofs.YtlflagjnlclffaaGreat Go.Proofs.YtlflagjnlclffaaGreat.S11
open Go.RowKit

section
variable {P : Program} {ops : Array Oper} {Q : Exit → Act → World → Prop} {md : Region.Mode} {S S' : World → Prop}
theorem wpAnyH_more (h : ∀ w, S' w → S w) : ∀ (fuel : Nat) (listed : Array Bool) (a : Act) (w : World), wpAnyH P md ops Q S' fuel listed a w → wpAnyH P md ops Q S fuel listed a w
  | 0, _, _, _, hq => hq
  | fuel + 1, _, _, _, hq => ⟨hq.1, fun i hi => wpOp_mono (fun a' w' h' => ⟨h w' h'.1, wpAnyH_more h fuel _ a' w' h'.2⟩) (hq.2 i hi)⟩
end
theorem Bg.both02 {w0 w : World} {base WB RB N cn tn : Nat} {M : Sd} {E : List Part} {X : Wm} {Y : Rm} (h : Bg w0 w base WB RB N cn tn M M E X Y) : S2.Both w 0 X.cB Y.rB X.L X.n X.k X.a X.was X.is := by
  have heq : X.sd = Y.sd := by rw [h.xm, h.ym]
  have e_L : X.L = Y.L := congrArg Sd.L heq
  have e_n : X.n = Y.n := congrArg Sd.n heq
  have e_k : X.k = Y.k := congrArg Sd.k heq
  have e_a : X.a = Y.a := congrArg Sd.a heq
  have e_was : X.was = Y.was := congrArg Sd.was heq
  have e_is : X.is = Y.is := congrArg Sd.is heq
  have hr := h.pr.rcells
  rw [← e_L, ← e_n, ← e_k, ← e_a, ← e_was, ← e_is] at hr
  have ap : ∀ k, (cellsP X.cB X.cM X.L X.n X.k X.a X.was X.is).fp k → ¬ (rcellsP Y.rb Y.rB Y.rs Y.L Y.n Y.k Y.a Y.was Y.is).fp k := h.pr.apart 0 7 _ _ rfl rfl (by decide)
  refine ⟨Nat.zero_le _, Nat.zero_le _, Nat.zero_le _, fun e => ap X.cB (.inl rfl) (.inl e.symm), h.byt, X.cM, Y.rs, h.pr.pw.cells, ⟨hr.good, hr.row, S2.row_base hr.own (Nat.zero_le _), hr.ne⟩, fun m hm => ⟨Nat.zero_le _, fun e => ap m (.inr hm) (.inl e), fun e => ap m (.inr hm) (.inr e)⟩, fun e => ap X.cB (.inl rfl) (.inr e)⟩
theorem Bg.se {w0 w : World} {base WB RB N cn tn : Nat} {M : Sd} {E : List Part} {X : Wm} {Y : Rm} (h : Bg w0 w base WB RB N cn tn M M E X Y) : S10.Se w X.tb Y.tb X.tO Y.tO X.ts Y.ts X.tn M.m M.m (fun _ => False) :=
  ⟨h.st, h.rt, h.pr.apart 4 9 _ _ rfl rfl (by decide), fun _ e => e.elim⟩
def Z64l : List Value := List.replicate 64 (.int .u64 0)
def Z64 : Array Value := Z64l.toArray
theorem under64 : Tryz.prog.underlying 87 = some (.array 64 22) := by kernel_rfl
theorem info64 : (Tryz.prog.info? 87).map (·.size) = some Z64l.length := by kernel_rfl
set_option maxRecDepth 100000 in
theorem neq64 (w : World) : (binOp .neq 87 (.agg Z64) (.agg Z64)).run Tryz.prog w = .ok (.bool false) w := by kernel_rfl
theorem z64_get (j : Nat) (hj : j < 64) : Z64l[j]? = some (.int .u64 0) := by
  unfold Z64l
  rw [List.getElem?_replicate, if_pos hj]
theorem zx7 : ∀ j, j < 64 → Tryz.zeroCells89[7 + j]? = some (.int .u64 0) := by
  intro j hj
  have e : Tryz.zeroCells89 = (#[.pointer none, .pointer none, .pointer none, .pointer none, .pointer none, .pointer none, .int .i64 0] ++ Z64 : Array Value) := by kernel_rfl
  rw [e, Array.getElem?_append_right (by simp)]
  show Z64[7 + j - 7]? = _
  rw [Nat.add_sub_cancel_left]
  unfold Z64
  rw [List.getElem?_toArray]
  exact z64_get j hj
theorem zy7 : ∀ j, j < 64 → Tryz.zeroCells107[7 + j]? = some (.int .u64 0) := by
  intro j hj
  have e : Tryz.zeroCells107 = (#[.pointer none, .pointer none, .pointer none, .pointer none, .pointer none, .pointer none, .int .i64 0] ++ Z64 : Array Value) := by kernel_rfl
  rw [e, Array.getElem?_append_right (by simp)]
  show Z64[7 + j - 7]? = _
  rw [Nat.add_sub_cancel_left]
  unfold Z64
  rw [List.getElem?_toArray]
  exact z64_get j hj
theorem px7 (a b c d e f : Value) (sp : Int) (j : Nat) (hj : j < 64) : (pcells a b c d e f sp)[7 + j]? = some (.int .u64 0) := by
  simp [pcells, Array.getElem?_setIfInBounds, zsize, zx7 j hj, show ¬ 0 = 7 + j by omega, show ¬ 1 = 7 + j by omega, show ¬ 2 = 7 + j by omega, show ¬ 3 = 7 + j by omega, show ¬ 4 = 7 + j by omega, show ¬ 5 = 7 + j by omega, show ¬ 6 = 7 + j by omega]
theorem py7 (a b c d e f : Value) (sp : Int) (j : Nat) (hj : j < 64) : (wcells a b c d e f sp)[7 + j]? = some (.int .u64 0) := by
  simp [wcells, Array.getElem?_setIfInBounds, rsize, zy7 j hj, show ¬ 0 = 7 + j by omega, show ¬ 1 = 7 + j by omega, show ¬ 2 = 7 + j by omega, show ¬ 3 = 7 + j by omega, show ¬ 4 = 7 + j by omega, show ¬ 5 = 7 + j by omega, show ¬ 6 = 7 + j by omega]
theorem Bg.tokX {w0 w : World} {base WB RB N cn tn : Nat} {M RM : Sd} {E : List Part} {X : Wm} {Y : Rm} (h : Bg w0 w base WB RB N cn tn M RM E X Y) : w.rangeAt WB 7 Z64l := fun j v hj => by
  have hl : j < 64 := by
    have := (List.getElem?_eq_some_iff.1 hj).1
    unfold Z64l at this
    rwa [List.length_replicate] at this
  have hv : v = .int .u64 0 := by rw [z64_get j hl] at hj; injection hj with hj; exact hj.symm
  rw [hv, ← h.wB]
  exact (cell_row h.pr.pw.own (7 + j)).trans (px7 _ _ _ _ _ _ _ j hl)
theorem Bg.tokY {w0 w : World} {base WB RB N cn tn : Nat} {M RM : Sd} {E : List Part} {X : Wm} {Y : Rm} (h : Bg w0 w base WB RB N cn tn M RM E X Y) : w.rangeAt RB 7 Z64l := fun j v hj => by
  have hl : j < 64 := by
    have := (List.getElem?_eq_some_iff.1 hj).1
    unfold Z64l at this
    rwa [List.length_replicate] at this
  have hv : v = .int .u64 0 := by rw [z64_get j hl] at hj; injection hj with hj; exact hj.symm
  rw [hv, ← h.rB]
  exact (cell_row h.pr.rown (7 + j)).trans (py7 _ _ _ _ _ _ _ j hl)
def SaF (w2 : World) (B0 WB RB cB kB nB rB rkB rnB nl nc T : Nat) (ts rts : Value) (nA : Option Addr) (w' : World) : Prop := Below w2.heap.size w2 w' ∧ w'.cell? ⟨B0, 0, none⟩ = some (Pw WB) ∧ w'.cell? ⟨B0, 1, none⟩ = some (Pw RB) ∧ w'.cell? ⟨WB, 0, none⟩ = some (Pw cB) ∧ w'.cell? ⟨WB, 1, none⟩ = some (Pw kB) ∧ w'.cell? ⟨WB, 4, none⟩ = some ts ∧ w'.cell? ⟨WB, 5, none⟩ = some (Pw nB) ∧ w'.cell? ⟨RB, 0, none⟩ = some (Pw rB) ∧ w'.cell? ⟨RB, 1, none⟩ = some (Pw rkB) ∧ w'.cell? ⟨RB, 4, none⟩ = some rts ∧ w'.cell? ⟨RB, 5, none⟩ = some (Pw rnB) ∧ w'.cell? ⟨rnB, 0, none⟩ = some (.slice nA nl nc) ∧ w'.cell? ⟨rkB, 0, none⟩ = some (.int .u64 (T : Int))
theorem SaF.new {w2 w' w'' : World} {B0 WB RB cB kB nB rB rkB rnB nl nc T : Nat} {ts rts : Value} {nA : Option Addr} (h : SaF w2 B0 WB RB cB kB nB rB rkB rnB nl nc T ts rts nA w') (hb : Below w'.heap.size w' w'') : SaF w2 B0 WB RB cB kB nB rB rkB rnB nl nc T ts rts nA w'' := by
  obtain ⟨hb0, c0, c1, c2, c3, c4, c5, c6, c7, c8, c9, c10, c11⟩ := h
  exact ⟨hb0.trans (hb.mono hb0.size), bcell hb c0, bcell hb c1, bcell hb c2, bcell hb c3, bcell hb c4, bcell hb c5, bcell hb c6, bcell hb c7, bcell hb c8, bcell hb c9, bcell hb c10, bcell hb c11⟩
def SbF (w2 : World) (B0 WB RB pB rpB Bx : Nat) (xa : Bool) (w' : World) : Prop := Below w2.heap.size w2 w' ∧ w'.cell? ⟨B0, 0, none⟩ = some (Pw WB) ∧ w'.cell? ⟨B0, 1, none⟩ = some (Pw RB) ∧ w'.cell? ⟨WB, 2, none⟩ = some (Pw pB) ∧ w'.cell? ⟨RB, 2, none⟩ = some (Pw rpB) ∧ w'.cell? ⟨Bx, 1, none⟩ = some (.bool xa)
theorem SbF.new {w2 w' w'' : World} {B0 WB RB pB rpB Bx : Nat} {xa : Bool} (h : SbF w2 B0 WB RB pB rpB Bx xa w') (hb : Below w'.heap.size w' w'') : SbF w2 B0 WB RB pB rpB Bx xa w'' := by
  obtain ⟨hb0, c0, c1, c2, c3, c4⟩ := h
  exact ⟨hb0.trans (hb.mono hb0.size), bcell hb c0, bcell hb c1, bcell hb c2, bcell hb c3, bcell hb c4⟩
set_option maxRecDepth 100000 in
set_option maxHeartbeats 8000000 in
theorem pair_all {w0 w : World} {base WB RB N cn tn : Nat} {M : Sd} {E : List Part} {X : Wm} {Y : Rm} (h : Bg w0 w base WB RB N cn tn M M E X Y) (hc : cn ≤ 2100000) (hN : N ≤ 100000) :
    Calls Tryz.prog 16 #[.agg #[Pw WB, Pw RB]] w fun e w' => e = .returned (.bool true) ∧ Below w.heap.size w w' := by
  have hb1 : Below w.heap.size w (w.alloc (.cells #[Pw WB, Pw RB] 36)) := (Below.refl _ _).alloc (Nat.le_refl _) _
  have hq0 := heap_alloc_new w (.cells #[Pw WB, Pw RB] 36)
  have h2 := h.new hb1
  obtain ⟨B0, hB0⟩ : ∃ B0, B0 = w.heap.size := ⟨_, rfl⟩
  rw [← hB0] at hq0
  have HB1 := Lib.hid hb1
  have HB0 := Lib.hid hB0
  clear hb1 h hB0
  go_enter Tryz.func16, Tryz.ntmps16
  go_upto_region 1 with (fail)
  rw [← HB0.out]
  generalize w.alloc (.cells #[Pw WB, Pw RB] 36) = w2 at *
  have b0 := cell_row hq0 0; have b1 := cell_row hq0 1
  simp only [List.getElem?_toArray, List.getElem?_cons_zero, List.getElem?_cons_succ] at b0 b1
  obtain ⟨nA, nc, hns, _⟩ := h2.pr.rnotes.own.shape
  have heq : X.sd = Y.sd := by rw [h2.xm, h2.ym]
  have e_T : X.T = Y.T := congrArg Sd.T heq
  have e_nD : X.nD = Y.nD := congrArg Sd.nD heq
  have e_pf : X.pf = Y.pf := congrArg Sd.pf heq
  have e_lk : X.lk = Y.lk := congrArg Sd.lk heq
  have hsm := fun (W : World) (q : Below w2.heap.size w2 W) => pair_same (h2.new q) (by omega)
  have hs2 := fun (W : World) (q : Below w2.heap.size w2 W) => S2.same_any W 0 X.cB Y.rB X.L X.n X.k X.a X.was X.is (h2.new q).both02
  have hal := fun (W : World) (q : Below w2.heap.size w2 W) => S11.all_any (h2.new q).pr.pw.notes (by have := h2.nD; omega)
  have hnl : Y.nD.length ≤ 2100000 := by rw [← e_nD]; have := h2.nD; omega
  have hnw := fun (W : World) (q : Below w2.heap.size w2 W) => S3.now_any (h2.new q).pr.pw.clock
  have hts := fun (W : World) (q : Below w2.heap.size w2 W) => S10.same_sets (h2.new q).se h2.gd hN
  have hnr : ∀ W, Below w2.heap.size w2 W → Rd W W.heap.size nA (flat .i64 X.nD) := fun W q => by
    have hr := (h2.new q).pr.rnotes.own
    rw [hns] at hr
    rw [e_nD]
    exact hr.rd
  have f2 := h2.pr.pw.c0; have f3 := h2.pr.pw.c1; have f4 := h2.pr.pw.c4; have f5 := h2.pr.pw.c5
  have f6 := h2.pr.r0; have f7 := h2.pr.r1; have f8 := h2.pr.r4; have f9 := h2.pr.r5
  have f10 := h2.pr.rnotes.cell
  have f11 := cell_row h2.pr.rclock.row 0
  simp only [List.getElem?_toArray, List.getElem?_cons_zero, List.getElem?_cons_succ] at f11
  rw [hns, ← e_nD] at f10
  rw [← e_T] at f11
  rw [h2.wB] at f2 f3 f4 f5
  rw [h2.rB] at f6 f7 f8 f9
  have hns2 : ∀ W A9 b9, Below w2.heap.size w2 W → ∀ _ : Unit, ∀ _ : Unit, Row W b9 7 (.slice A9 X.nD.length X.nD.length) X.nD.length (flat .u8 X.nD) → Calls Tryz.prog 63 #[.slice A9 X.nD.length X.nD.length, .slice nA X.nD.length nc] W fun e w' => e = .returned (.bool true) ∧ Below W.heap.size W w' := fun W A9 b9 q _ _ hr =>
    S11.same_any _ nc hr.rd (hnr W q) (Nat.le_refl _) (Nat.le_refl _) (by have := h2.nD; omega) h2.nk
  have H2 := Lib.hid h2
  obtain ⟨D, hD⟩ : ∃ D, D = X.nD := ⟨_, rfl⟩
  rw [← hD] at f10 hns2 hal
  obtain ⟨nl, hnl2⟩ : ∃ x, x = D.length := ⟨_, rfl⟩
  have hal2 : ∀ W, Below w2.heap.size w2 W → Calls Tryz.prog 64 #[Pw X.nB] W fun e w' => ∃ A, e = .returned (.slice A nl nl) ∧ Row w' W.heap.size 7 (.slice A nl nl) nl (flat .u8 D) ∧ Below W.heap.size W w' := fun W q => by rw [hnl2]; exact hal W q
  rw [← hnl2] at f10 hns2
  have HTX := Lib.hid (fun (W : World) (q : Below w2.heap.size w2 W) => (h2.new q).tokX)
  have HTY := Lib.hid (fun (W : World) (q : Below w2.heap.size w2 W) => (h2.new q).tokY)
  have HSM := Lib.hid hsm; have HS2 := Lib.hid hs2; have HAL := Lib.hid hal2; have HNS := Lib.hid hns2; have HTS := Lib.hid hts; have HNW := Lib.hid hnw
  have HE := Lib.hid (And.intro e_pf e_lk)
  clear hsm hs2 hal hal2 hns2 hts hnw hnr hnl hnl2 hD e_T e_nD e_pf e_lk heq hc hN
  obtain ⟨kB, hkB⟩ : ∃ x, x = X.kB := ⟨_, rfl⟩
  obtain ⟨cB, hcB⟩ : ∃ x, x = X.cB := ⟨_, rfl⟩
  obtain ⟨nB, hnB⟩ : ∃ x, x = X.nB := ⟨_, rfl⟩
  obtain ⟨ts, hts⟩ : ∃ x, x = X.ts := ⟨_, rfl⟩
  obtain ⟨rts, hrts⟩ : ∃ x, x = Y.ts := ⟨_, rfl⟩
  obtain ⟨rB, hrB⟩ : ∃ x, x = Y.rB := ⟨_, rfl⟩
  obtain ⟨rkB, hrkB⟩ : ∃ x, x = Y.kB := ⟨_, rfl⟩
  obtain ⟨rnB, hrnB⟩ : ∃ x, x = Y.nB := ⟨_, rfl⟩
  obtain ⟨T, hT⟩ : ∃ x, x = X.T := ⟨_, rfl⟩
  rw [← hcB, ← hrB] at HS2; rw [← hnB] at HAL; rw [← hts, ← hrts] at HTS; rw [← hkB, ← hT] at HNW
  rw [← hcB] at f2; rw [← hkB] at f3; rw [← hts] at f4; rw [← hnB] at f5; rw [← hrB] at f6; rw [← hrkB] at f7 f11; rw [← hrts] at f8; rw [← hrnB] at f9 f10; rw [← hT] at f11
  have hev := fun W => neq64 W
  have HF : Hid (w2.drew.cell? ⟨B0, 0, none⟩ = some (Pw WB) ∧ w2.drew.cell? ⟨B0, 1, none⟩ = some (Pw RB) ∧ w2.drew.cell? ⟨WB, 0, none⟩ = some (Pw cB) ∧ w2.drew.cell? ⟨WB, 1, none⟩ = some (Pw kB) ∧ w2.drew.cell? ⟨WB, 4, none⟩ = some ts ∧ w2.drew.cell? ⟨WB, 5, none⟩ = some (Pw nB) ∧ w2.drew.cell? ⟨RB, 0, none⟩ = some (Pw rB) ∧ w2.drew.cell? ⟨RB, 1, none⟩ = some (Pw rkB) ∧ w2.drew.cell? ⟨RB, 4, none⟩ = some rts ∧ w2.drew.cell? ⟨RB, 5, none⟩ = some (Pw rnB) ∧ w2.drew.cell? ⟨rnB, 0, none⟩ = some (.slice nA nl nc) ∧ w2.drew.cell? ⟨rkB, 0, none⟩ = some (.int .u64 (T : Int))) := Lib.hid ⟨b0, b1, f2, f3, f4, f5, f6, f7, f8, f9, f10, f11⟩
  have HQ0 := Lib.hid hq0
  clear b0 b1 f2 f3 f4 f5 f6 f7 f8 f9 f10 f11 hkB hcB hnB hts hrts hrB hrkB hrnB hT hns h2 hq0
  (try simp only [List.append_eq, List.cons_append, List.nil_append])
  refine wp_region_held_drew (S := fun w' => Below w2.heap.size w2 w' ∧ w'.cell? ⟨B0, 0, none⟩ = some (Pw WB) ∧ w'.cell? ⟨B0, 1, none⟩ = some (Pw RB) ∧ w'.cell? ⟨WB, 0, none⟩ = some (Pw cB) ∧ w'.cell? ⟨WB, 1, none⟩ = some (Pw kB) ∧ w'.cell? ⟨WB, 4, none⟩ = some ts ∧ w'.cell? ⟨WB, 5, none⟩ = some (Pw nB) ∧ w'.cell? ⟨RB, 0, none⟩ = some (Pw rB) ∧ w'.cell? ⟨RB, 1, none⟩ = some (Pw rkB) ∧ w'.cell? ⟨RB, 4, none⟩ = some rts ∧ w'.cell? ⟨RB, 5, none⟩ = some (Pw rnB) ∧ w'.cell? ⟨rnB, 0, none⟩ = some (.slice nA nl nc) ∧ w'.cell? ⟨rkB, 0, none⟩ = some (.int .u64 (T : Int))) (by kernel_rfl) ?_ (fun hHeld => ?_)
  · exact ⟨(Below.refl _ _).drew, HF.out⟩
  refine wpAnyH_take (i := 0) (oi := ({ dst := some 10, op := Op.load 36 (Operand.tmp 1), type := 36, pos := "help.go:113", after := #[], guard := none } : Oper)) (v := ?vam1) rfl (by kernel_rfl) (by kernel_rfl) (by kernel_rfl) (fun _ _ _ h => h) (Or.inl ⟨by rfl, fun w hSw => ?hyam1⟩) (by assumption) ?ram1
  case hyam1 => (try dsimp only at hSw); go_simp; (try with_reducible rfl)
  (try simp only [Act.put, List.setIfInBounds_toArray, List.set_cons_zero, List.set_cons_succ])
  refine wpAnyH_ready (rs := [1]) (by kernel_rfl) (by simp) ?_
  refine AllReadyH.cons (o := ({ dst := some 11, op := Op.call { callee := Callee.value (Operand.func 15), args := #[Operand.tmp 10], argTypes := #[36] }, type := 4, pos := "help.go:113", after := #[{ on := 0, ground := Ground.data }], guard := none } : Oper)) rfl (fun Kq hKq => ?_) AllReadyH.nil
  go_simp
  (refine (HSM.out _ hHeld.1).mono ?_; rintro e w3 ⟨rfl, hb⟩)
  refine hKq.out _ _ ?_ (fun hHeld => ?_)
  · exact SaF.new hHeld hb
  clear hKq Kq
  (try simp only [Act.put, List.setIfInBounds_toArray, List.set_cons_zero, List.set_cons_succ])
  refine wpAnyH_take (i := 2) (oi := ({ dst := some 12, op := Op.unOp UnOp.not 4 (Operand.tmp 11), type := 4, pos := "help.go:113", after := #[{ on := 1, ground := Ground.data }], guard := none } : Oper)) (v := ?vam2) rfl (by kernel_rfl) (by kernel_rfl) (by kernel_rfl) (fun _ _ _ h => h) (Or.inl ⟨by rfl, fun w hSw => ?hyam2⟩) (by assumption) ?ram2
  case hyam2 => (try dsimp only at hSw); go_simp; (try with_reducible rfl)
  (try simp only [Act.put, List.setIfInBounds_toArray, List.set_cons_zero, List.set_cons_succ])
  refine wpAnyH_take (i := 3) (oi := ({ dst := some 13, op := Op.move (Operand.tmp 12), type := 4, pos := "help.go:113", after := #[{ on := 2, ground := Ground.data }, { on := 1, ground := Ground.chain }], guard := none } : Oper)) (v := ?vam3) rfl (by kernel_rfl) (by kernel_rfl) (by kernel_rfl) (fun _ _ _ h => h) (Or.inl ⟨by rfl, fun w hSw => ?hyam3⟩) (by assumption) ?ram3
  case hyam3 => (try dsimp only at hSw); go_simp; (try with_reducible rfl)
  (try simp only [Act.put, List.setIfInBounds_toArray, List.set_cons_zero, List.set_cons_succ])
  refine wpAnyH_take (i := 4) (oi := ({ dst := some 14, op := Op.fieldAddr 36 (Operand.tmp 1) 0, type := 0, pos := "help.go:113", after := #[{ on := 3, ground := Ground.guard }], guard := some (3, false) } : Oper)) (v := ?vam4) rfl (by kernel_rfl) (by kernel_rfl) (by kernel_rfl) (fun _ _ _ h => h) (Or.inl ⟨by rfl, fun w hSw => ?hyam4⟩) (by assumption) ?ram4
  case hyam4 => (try dsimp only at hSw); go_simp; (try with_reducible rfl)
  (try simp only [Act.put, List.setIfInBounds_toArray, List.set_cons_zero, List.set_cons_succ])
  refine wpAnyH_take (i := 5) (oi := ({ dst := some 15, op := Op.load 33 (Operand.tmp 14), type := 33, pos := "help.go:113", after := #[{ on := 4, ground := Ground.data }, { on := 3, ground := Ground.guard }], guard := some (3, false) } : Oper)) (v := ?vam5) rfl (by kernel_rfl) (by kernel_rfl) (by kernel_rfl) (fun _ _ _ h => h) (Or.inl ⟨by rfl, fun w hSw => ?hyam5⟩) (by assumption) ?ram5
  case hyam5 => (try dsimp only at hSw); go_simp; (try with_reducible rfl)
  (try simp only [Act.put, List.setIfInBounds_toArray, List.set_cons_zero, List.set_cons_succ])
  refine wpAnyH_take (i := 6) (oi := ({ dst := some 16, op := Op.nilCheck (Operand.tmp 15), type := 0, pos := "help.go:113", after := #[{ on := 5, ground := Ground.data }, { on := 3, ground := Ground.guard }], guard := some (3, false) } : Oper)) (v := ?vam6) rfl (by kernel_rfl) (by kernel_rfl) (by kernel_rfl) (fun _ _ _ h => h) (Or.inl ⟨by rfl, fun w hSw => ?hyam6⟩) (by assumption) ?ram6
  case hyam6 => (try dsimp only at hSw); go_simp; (try with_reducible rfl)
  (try simp only [Act.put, List.setIfInBounds_toArray, List.set_cons_zero, List.set_cons_succ])
  refine wpAnyH_take (i := 7) (oi := ({ dst := some 17, op := Op.fieldAddr 89 (Operand.tmp 16) 0, type := 0, pos := "help.go:113", after := #[{ on := 6, ground := Ground.data }, { on := 3, ground := Ground.guard }], guard := some (3, false) } : Oper)) (v := ?vam7) rfl (by kernel_rfl) (by kernel_rfl) (by kernel_rfl) (fun _ _ _ h => h) (Or.inl ⟨by rfl, fun w hSw => ?hyam7⟩) (by assumption) ?ram7
  case hyam7 => (try dsimp only at hSw); go_simp; (try with_reducible rfl)
  (try simp only [Act.put, List.setIfInBounds_toArray, List.set_cons_zero, List.set_cons_succ])
  refine wpAnyH_take (i := 8) (oi := ({ dst := some 18, op := Op.load 81 (Operand.tmp 17), type := 81, pos := "help.go:113", after := #[{ on := 7, ground := Ground.data }, { on := 3, ground := Ground.guard }], guard := some (3, false) } : Oper)) (v := ?vam8) rfl (by kernel_rfl) (by kernel_rfl) (by kernel_rfl) (fun _ _ _ h => h) (Or.inl ⟨by rfl, fun w hSw => ?hyam8⟩) (by assumption) ?ram8
  case hyam8 => (try dsimp only at hSw); go_simp; (try with_reducible rfl)
  (try simp only [Act.put, List.setIfInBounds_toArray, List.set_cons_zero, List.set_cons_succ])
  refine wpAnyH_take (i := 9) (oi := ({ dst := some 19, op := Op.fieldAddr 36 (Operand.tmp 1) 1, type := 0, pos := "help.go:113", after := #[{ on := 3, ground := Ground.guard }], guard := some (3, false) } : Oper)) (v := ?vam9) rfl (by kernel_rfl) (by kernel_rfl) (by kernel_rfl) (fun _ _ _ h => h) (Or.inl ⟨by rfl, fun w hSw => ?hyam9⟩) (by assumption) ?ram9
  case hyam9 => (try dsimp only at hSw); go_simp; (try with_reducible rfl)
  (try simp only [Act.put, List.setIfInBounds_toArray, List.set_cons_zero, List.set_cons_succ])
  refine wpAnyH_take (i := 10) (oi := ({ dst := some 20, op := Op.load 34 (Operand.tmp 19), type := 34, pos := "help.go:113", after := #[{ on := 9, ground := Ground.data }, { on := 3, ground := Ground.guard }], guard := some (3, false) } : Oper)) (v := ?vam10) rfl (by kernel_rfl) (by kernel_rfl) (by kernel_rfl) (fun _ _ _ h => h) (Or.inl ⟨by rfl, fun w hSw => ?hyam10⟩) (by assumption) ?ram10
  case hyam10 => (try dsimp only at hSw); go_simp; (try with_reducible rfl)
  (try simp only [Act.put, List.setIfInBounds_toArray, List.set_cons_zero, List.set_cons_succ])
  refine wpAnyH_take (i := 11) (oi := ({ dst := some 21, op := Op.nilCheck (Operand.tmp 20), type := 0, pos := "help.go:113", after := #[{ on := 10, ground := Ground.data }, { on := 3, ground := Ground.guard }], guard := some (3, false) } : Oper)) (v := ?vam11) rfl (by kernel_rfl) (by kernel_rfl) (by kernel_rfl) (fun _ _ _ h => h) (Or.inl ⟨by rfl, fun w hSw => ?hyam11⟩) (by assumption) ?ram11
  case hyam11 => (try dsimp only at hSw); go_simp; (try with_reducible rfl)
  (try simp only [Act.put, List.setIfInBounds_toArray, List.set_cons_zero, List.set_cons_succ])
  refine wpAnyH_take (i := 12) (oi := ({ dst := some 22, op := Op.fieldAddr 107 (Operand.tmp 21) 0, type := 0, pos := "help.go:113", after := #[{ on := 11, ground := Ground.data }, { on := 3, ground := Ground.guard }], guard := some (3, false) } : Oper)) (v := ?vam12) rfl (by kernel_rfl) (by kernel_rfl) (by kernel_rfl) (fun _ _ _ h => h) (Or.inl ⟨by rfl, fun w hSw => ?hyam12⟩) (by assumption) ?ram12
  case hyam12 => (try dsimp only at hSw); go_simp; (try with_reducible rfl)
  (try simp only [Act.put, List.setIfInBounds_toArray, List.set_cons_zero, List.set_cons_succ])
  refine wpAnyH_take (i := 13) (oi := ({ dst := some 23, op := Op.load 100 (Operand.tmp 22), type := 100, pos := "help.go:113", after := #[{ on := 12, ground := Ground.data }, { on := 3, ground := Ground.guard }], guard := some (3, false) } : Oper)) (v := ?vam13) rfl (by kernel_rfl) (by kernel_rfl) (by kernel_rfl) (fun _ _ _ h => h) (Or.inl ⟨by rfl, fun w hSw => ?hyam13⟩) (by assumption) ?ram13
  case hyam13 => (try dsimp only at hSw); go_simp; (try with_reducible rfl)
  (try simp only [Act.put, List.setIfInBounds_toArray, List.set_cons_zero, List.set_cons_succ])
  refine wpAnyH_ready (rs := [14]) (by kernel_rfl) (by simp) ?_
  refine AllReadyH.cons (o := ({ dst := some 24, op := Op.call { callee := Callee.value (Operand.func 62), args := #[Operand.tmp 18, Operand.tmp 23], argTypes := #[81, 100] }, type := 4, pos := "help.go:113", after := #[{ on := 8, ground := Ground.data }, { on := 13, ground := Ground.data }, { on := 3, ground := Ground.chain }, { on := 3, ground := Ground.guard }], guard := some (3, false) } : Oper)) rfl (fun Kq hKq => ?_) AllReadyH.nil
  go_simp
  (refine (HS2.out _ hHeld.1).mono ?_; rintro e w3 ⟨rfl, hb⟩)
  refine hKq.out _ _ ?_ (fun hHeld => ?_)
  · exact SaF.new hHeld hb
  clear hKq Kq
  (try simp only [Act.put, List.setIfInBounds_toArray, List.set_cons_zero, List.set_cons_succ])
  refine wpAnyH_take (i := 15) (oi := ({ dst := some 25, op := Op.unOp UnOp.not 4 (Operand.tmp 24), type := 4, pos := "help.go:113", after := #[{ on := 14, ground := Ground.data }, { on := 3, ground := Ground.guard }], guard := some (3, false) } : Oper)) (v := ?vam14) rfl (by kernel_rfl) (by kernel_rfl) (by kernel_rfl) (fun _ _ _ h => h) (Or.inl ⟨by rfl, fun w hSw => ?hyam14⟩) (by assumption) ?ram14
  case hyam14 => (try dsimp only at hSw); go_simp; (try with_reducible rfl)
  (try simp only [Act.put, List.setIfInBounds_toArray, List.set_cons_zero, List.set_cons_succ])
  refine wpAnyH_take (i := 16) (oi := ({ dst := some 26, op := Op.pick (Operand.tmp 13) (Operand.const (Value.bool true)) (Operand.tmp 25), type := 4, pos := "help.go:113", after := #[{ on := 3, ground := Ground.data }, { on := 15, ground := Ground.data }], guard := none } : Oper)) (v := ?vam15) rfl (by kernel_rfl) (by kernel_rfl) (by kernel_rfl) (fun _ _ _ h => h) (Or.inl ⟨by rfl, fun w hSw => ?hyam15⟩) (by assumption) ?ram15
  case hyam15 => (try dsimp only at hSw); go_simp; (try with_reducible rfl)
  (try simp only [Act.put, List.setIfInBounds_toArray, List.set_cons_zero, List.set_cons_succ])
  refine wpAnyH_take (i := 17) (oi := ({ dst := some 27, op := Op.move (Operand.tmp 26), type := 4, pos := "help.go:113", after := #[{ on := 16, ground := Ground.data }, { on := 14, ground := Ground.chain }], guard := none } : Oper)) (v := ?vam16) rfl (by kernel_rfl) (by kernel_rfl) (by kernel_rfl) (fun _ _ _ h => h) (Or.inl ⟨by rfl, fun w hSw => ?hyam16⟩) (by assumption) ?ram16
  case hyam16 => (try dsimp only at hSw); go_simp; (try with_reducible rfl)
  (try simp only [Act.put, List.setIfInBounds_toArray, List.set_cons_zero, List.set_cons_succ])
  refine wpAnyH_take (i := 18) (oi := ({ dst := some 28, op := Op.fieldAddr 36 (Operand.tmp 1) 0, type := 0, pos := "help.go:113", after := #[{ on := 17, ground := Ground.guard }], guard := some (17, false) } : Oper)) (v := ?vam17) rfl (by kernel_rfl) (by kernel_rfl) (by kernel_rfl) (fun _ _ _ h => h) (Or.inl ⟨by rfl, fun w hSw => ?hyam17⟩) (by assumption) ?ram17
  case hyam17 => (try dsimp only at hSw); go_simp; (try with_reducible rfl)
  (try simp only [Act.put, List.setIfInBounds_toArray, List.set_cons_zero, List.set_cons_succ])
  refine wpAnyH_take (i := 19) (oi := ({ dst := some 29, op := Op.load 33 (Operand.tmp 28), type := 33, pos := "help.go:113", after := #[{ on := 18, ground := Ground.data }, { on := 17, ground := Ground.guard }], guard := some (17, false) } : Oper)) (v := ?vam18) rfl (by kernel_rfl) (by kernel_rfl) (by kernel_rfl) (fun _ _ _ h => h) (Or.inl ⟨by rfl, fun w hSw => ?hyam18⟩) (by assumption) ?ram18
  case hyam18 => (try dsimp only at hSw); go_simp; (try with_reducible rfl)
  (try simp only [Act.put, List.setIfInBounds_toArray, List.set_cons_zero, List.set_cons_succ])
  refine wpAnyH_take (i := 20) (oi := ({ dst := some 30, op := Op.nilCheck (Operand.tmp 29), type := 0, pos := "help.go:113", after := #[{ on := 19, ground := Ground.data }, { on := 17, ground := Ground.guard }], guard := some (17, false) } : Oper)) (v := ?vam19) rfl (by kernel_rfl) (by kernel_rfl) (by kernel_rfl) (fun _ _ _ h => h) (Or.inl ⟨by rfl, fun w hSw => ?hyam19⟩) (by assumption) ?ram19
  case hyam19 => (try dsimp only at hSw); go_simp; (try with_reducible rfl)
  (try simp only [Act.put, List.setIfInBounds_toArray, List.set_cons_zero, List.set_cons_succ])
  refine wpAnyH_take (i := 21) (oi := ({ dst := some 31, op := Op.fieldAddr 89 (Operand.tmp 30) 5, type := 0, pos := "help.go:113", after := #[{ on := 20, ground := Ground.data }, { on := 17, ground := Ground.guard }], guard := some (17, false) } : Oper)) (v := ?vam20) rfl (by kernel_rfl) (by kernel_rfl) (by kernel_rfl) (fun _ _ _ h => h) (Or.inl ⟨by rfl, fun w hSw => ?hyam20⟩) (by assumption) ?ram20
  case hyam20 => (try dsimp only at hSw); go_simp; (try with_reducible rfl)
  (try simp only [Act.put, List.setIfInBounds_toArray, List.set_cons_zero, List.set_cons_succ])
  refine wpAnyH_take (i := 22) (oi := ({ dst := some 32, op := Op.load 86 (Operand.tmp 31), type := 86, pos := "help.go:113", after := #[{ on := 21, ground := Ground.data }, { on := 17, ground := Ground.guard }], guard := some (17, false) } : Oper)) (v := ?vam21) rfl (by kernel_rfl) (by kernel_rfl) (by kernel_rfl) (fun _ _ _ h => h) (Or.inl ⟨by rfl, fun w hSw => ?hyam21⟩) (by assumption) ?ram21
  case hyam21 => (try dsimp only at hSw); go_simp; (try with_reducible rfl)
  (try simp only [Act.put, List.setIfInBounds_toArray, List.set_cons_zero, List.set_cons_succ])
  refine wpAnyH_take (i := 24) (oi := ({ dst := some 34, op := Op.fieldAddr 36 (Operand.tmp 1) 1, type := 0, pos := "help.go:113", after := #[{ on := 17, ground := Ground.guard }], guard := some (17, false) } : Oper)) (v := ?vam22) rfl (by kernel_rfl) (by kernel_rfl) (by kernel_rfl) (fun _ _ _ h => h) (Or.inl ⟨by rfl, fun w hSw => ?hyam22⟩) (by assumption) ?ram22
  case hyam22 => (try dsimp only at hSw); go_simp; (try with_reducible rfl)
  (try simp only [Act.put, List.setIfInBounds_toArray, List.set_cons_zero, List.set_cons_succ])
  refine wpAnyH_take (i := 25) (oi := ({ dst := some 35, op := Op.load 34 (Operand.tmp 34), type := 34, pos := "help.go:113", after := #[{ on := 24, ground := Ground.data }, { on := 17, ground := Ground.guard }], guard := some (17, false) } : Oper)) (v := ?vam23) rfl (by kernel_rfl) (by kernel_rfl) (by kernel_rfl) (fun _ _ _ h => h) (Or.inl ⟨by rfl, fun w hSw => ?hyam23⟩) (by assumption) ?ram23
  case hyam23 => (try dsimp only at hSw); go_simp; (try with_reducible rfl)
  (try simp only [Act.put, List.setIfInBounds_toArray, List.set_cons_zero, List.set_cons_succ])
  refine wpAnyH_take (i := 26) (oi := ({ dst := some 36, op := Op.nilCheck (Operand.tmp 35), type := 0, pos := "help.go:113", after := #[{ on := 25, ground := Ground.data }, { on := 17, ground := Ground.guard }], guard := some (17, false) } : Oper)) (v := ?vam24) rfl (by kernel_rfl) (by kernel_rfl) (by kernel_rfl) (fun _ _ _ h => h) (Or.inl ⟨by rfl, fun w hSw => ?hyam24⟩) (by assumption) ?ram24
  case hyam24 => (try dsimp only at hSw); go_simp; (try with_reducible rfl)
  (try simp only [Act.put, List.setIfInBounds_toArray, List.set_cons_zero, List.set_cons_succ])
  refine wpAnyH_take (i := 27) (oi := ({ dst := some 37, op := Op.fieldAddr 107 (Operand.tmp 36) 5, type := 0, pos := "help.go:113", after := #[{ on := 26, ground := Ground.data }, { on := 17, ground := Ground.guard }], guard := some (17, false) } : Oper)) (v := ?vam25) rfl (by kernel_rfl) (by kernel_rfl) (by kernel_rfl) (fun _ _ _ h => h) (Or.inl ⟨by rfl, fun w hSw => ?hyam25⟩) (by assumption) ?ram25
  case hyam25 => (try dsimp only at hSw); go_simp; (try with_reducible rfl)
  (try simp only [Act.put, List.setIfInBounds_toArray, List.set_cons_zero, List.set_cons_succ])
  refine wpAnyH_take (i := 28) (oi := ({ dst := some 38, op := Op.load 105 (Operand.tmp 37), type := 105, pos := "help.go:113", after := #[{ on := 27, ground := Ground.data }, { on := 17, ground := Ground.guard }], guard := some (17, false) } : Oper)) (v := ?vam26) rfl (by kernel_rfl) (by kernel_rfl) (by kernel_rfl) (fun _ _ _ h => h) (Or.inl ⟨by rfl, fun w hSw => ?hyam26⟩) (by assumption) ?ram26
  case hyam26 => (try dsimp only at hSw); go_simp; (try with_reducible rfl)
  (try simp only [Act.put, List.setIfInBounds_toArray, List.set_cons_zero, List.set_cons_succ])
  refine wpAnyH_take (i := 29) (oi := ({ dst := some 39, op := Op.nilCheck (Operand.tmp 38), type := 0, pos := "help.go:113", after := #[{ on := 28, ground := Ground.data }, { on := 17, ground := Ground.guard }], guard := some (17, false) } : Oper)) (v := ?vam27) rfl (by kernel_rfl) (by kernel_rfl) (by kernel_rfl) (fun _ _ _ h => h) (Or.inl ⟨by rfl, fun w hSw => ?hyam27⟩) (by assumption) ?ram27
  case hyam27 => (try dsimp only at hSw); go_simp; (try with_reducible rfl)
  (try simp only [Act.put, List.setIfInBounds_toArray, List.set_cons_zero, List.set_cons_succ])
  refine wpAnyH_take (i := 30) (oi := ({ dst := some 40, op := Op.fieldAddr 159 (Operand.tmp 39) 0, type := 0, pos := "help.go:113", after := #[{ on := 29, ground := Ground.data }, { on := 17, ground := Ground.guard }], guard := some (17, false) } : Oper)) (v := ?vam28) rfl (by kernel_rfl) (by kernel_rfl) (by kernel_rfl) (fun _ _ _ h => h) (Or.inl ⟨by rfl, fun w hSw => ?hyam28⟩) (by assumption) ?ram28
  case hyam28 => (try dsimp only at hSw); go_simp; (try with_reducible rfl)
  (try simp only [Act.put, List.setIfInBounds_toArray, List.set_cons_zero, List.set_cons_succ])
  refine wpAnyH_take (i := 31) (oi := ({ dst := some 41, op := Op.load 157 (Operand.tmp 40), type := 157, pos := "help.go:113", after := #[{ on := 30, ground := Ground.data }, { on := 17, ground := Ground.guard }], guard := some (17, false) } : Oper)) (v := ?vam29) rfl (by kernel_rfl) (by kernel_rfl) (by kernel_rfl) (fun _ _ _ h => h) (Or.inl ⟨by rfl, fun w hSw => ?hyam29⟩) (by assumption) ?ram29
  case hyam29 => (try dsimp only at hSw); go_simp; (try with_reducible rfl)
  (try simp only [Act.put, List.setIfInBounds_toArray, List.set_cons_zero, List.set_cons_succ])
  refine wpAnyH_ready (rs := [23]) (by kernel_rfl) (by simp) ?_
  refine AllReadyH.cons (o := ({ dst := some 33, op := Op.call { callee := Callee.value (Operand.func 64), args := #[Operand.tmp 32], argTypes := #[86] }, type := 164, pos := "help.go:113", after := #[{ on := 22, ground := Ground.data }, { on := 17, ground := Ground.chain }, { on := 17, ground := Ground.guard }], guard := some (17, false) } : Oper)) rfl (fun Kq hKq => ?_) AllReadyH.nil
  go_simp
  (refine (HAL.out _ hHeld.1).mono ?_; rintro e w3 ⟨A9, rfl, hrow, hb⟩)
  refine hKq.out _ _ ?_ (fun hHeld => ?_)
  · exact SaF.new hHeld hb
  clear hKq Kq
  (try simp only [Act.put, List.setIfInBounds_toArray, List.set_cons_zero, List.set_cons_succ])
  obtain ⟨b9, hrow⟩ : ∃ b, Row w3 b 7 (.slice A9 nl nl) nl (flat .u8 D) ∧ b ≤ w3.heap.size := ⟨_, hrow, hb.size⟩
  refine wpAnyH_more (S' := fun w' => (Below w2.heap.size w2 w' ∧ w'.cell? ⟨B0, 0, none⟩ = some (Pw WB) ∧ w'.cell? ⟨B0, 1, none⟩ = some (Pw RB) ∧ w'.cell? ⟨WB, 0, none⟩ = some (Pw cB) ∧ w'.cell? ⟨WB, 1, none⟩ = some (Pw kB) ∧ w'.cell? ⟨WB, 4, none⟩ = some ts ∧ w'.cell? ⟨WB, 5, none⟩ = some (Pw nB) ∧ w'.cell? ⟨RB, 0, none⟩ = some (Pw rB) ∧ w'.cell? ⟨RB, 1, none⟩ = some (Pw rkB) ∧ w'.cell? ⟨RB, 4, none⟩ = some rts ∧ w'.cell? ⟨RB, 5, none⟩ = some (Pw rnB) ∧ w'.cell? ⟨rnB, 0, none⟩ = some (.slice nA nl nc) ∧ w'.cell? ⟨rkB, 0, none⟩ = some (.int .u64 (T : Int))) ∧ Row w' b9 7 (.slice A9 nl nl) nl (flat .u8 D)) (fun _ h => h.1) _ _ _ _ ?_
  have HB9 := Lib.hid hrow.2
  have hHeld : (fun w' => (Below w2.heap.size w2 w' ∧ w'.cell? ⟨B0, 0, none⟩ = some (Pw WB) ∧ w'.cell? ⟨B0, 1, none⟩ = some (Pw RB) ∧ w'.cell? ⟨WB, 0, none⟩ = some (Pw cB) ∧ w'.cell? ⟨WB, 1, none⟩ = some (Pw kB) ∧ w'.cell? ⟨WB, 4, none⟩ = some ts ∧ w'.cell? ⟨WB, 5, none⟩ = some (Pw nB) ∧ w'.cell? ⟨RB, 0, none⟩ = some (Pw rB) ∧ w'.cell? ⟨RB, 1, none⟩ = some (Pw rkB) ∧ w'.cell? ⟨RB, 4, none⟩ = some rts ∧ w'.cell? ⟨RB, 5, none⟩ = some (Pw rnB) ∧ w'.cell? ⟨rnB, 0, none⟩ = some (.slice nA nl nc) ∧ w'.cell? ⟨rkB, 0, none⟩ = some (.int .u64 (T : Int))) ∧ Row w' b9 7 (.slice A9 nl nl) nl (flat .u8 D)) w3 := ⟨hHeld, hrow.1⟩
  refine wpAnyH_ready (rs := [32]) (by kernel_rfl) (by simp) ?_
  refine AllReadyH.cons (o := ({ dst := some 42, op := Op.call { callee := Callee.value (Operand.func 63), args := #[Operand.tmp 33, Operand.tmp 41], argTypes := #[164, 157] }, type := 4, pos := "help.go:113", after := #[{ on := 23, ground := Ground.data }, { on := 31, ground := Ground.data }, { on := 23, ground := Ground.chain }, { on := 17, ground := Ground.guard }], guard := some (17, false) } : Oper)) rfl (fun Kq hKq => ?_) AllReadyH.nil
  go_simp
  (refine (HNS.out _ _ _ hHeld.1.1 () () hHeld.2).mono ?_; rintro e w3 ⟨rfl, hb⟩)
  refine hKq.out _ _ ?_ (fun hHeld => ?_)
  · exact ⟨SaF.new hHeld.1 hb, hHeld.2.keep (Turns.of_below (S := fun _ => False) hb) (fun _ _ e => e)⟩
  clear hKq Kq
  (try simp only [Act.put, List.setIfInBounds_toArray, List.set_cons_zero, List.set_cons_succ])
  refine wpAnyH_take (i := 33) (oi := ({ dst := some 43, op := Op.unOp UnOp.not 4 (Operand.tmp 42), type := 4, pos := "help.go:113", after := #[{ on := 32, ground := Ground.data }, { on := 17, ground := Ground.guard }], guard := some (17, false) } : Oper)) (v := ?vam30) rfl (by kernel_rfl) (by kernel_rfl) (by kernel_rfl) (fun _ _ _ h => h) (Or.inl ⟨by rfl, fun w hSw => ?hyam30⟩) (by assumption) ?ram30
  case hyam30 => (try dsimp only at hSw); go_simp; (try with_reducible rfl)
  (try simp only [Act.put, List.setIfInBounds_toArray, List.set_cons_zero, List.set_cons_succ])
  refine wpAnyH_take (i := 34) (oi := ({ dst := some 44, op := Op.pick (Operand.tmp 27) (Operand.const (Value.bool true)) (Operand.tmp 43), type := 4, pos := "help.go:113", after := #[{ on := 17, ground := Ground.data }, { on := 33, ground := Ground.data }], guard := none } : Oper)) (v := ?vam31) rfl (by kernel_rfl) (by kernel_rfl) (by kernel_rfl) (fun _ _ _ h => h) (Or.inl ⟨by rfl, fun w hSw => ?hyam31⟩) (by assumption) ?ram31
  case hyam31 => (try dsimp only at hSw); go_simp; (try with_reducible rfl)
  (try simp only [Act.put, List.setIfInBounds_toArray, List.set_cons_zero, List.set_cons_succ])
  refine wpAnyH_take (i := 35) (oi := ({ dst := some 45, op := Op.move (Operand.tmp 44), type := 4, pos := "help.go:113", after := #[{ on := 34, ground := Ground.data }, { on := 32, ground := Ground.chain }], guard := none } : Oper)) (v := ?vam32) rfl (by kernel_rfl) (by kernel_rfl) (by kernel_rfl) (fun _ _ _ h => h) (Or.inl ⟨by rfl, fun w hSw => ?hyam32⟩) (by assumption) ?ram32
  case hyam32 => (try dsimp only at hSw); go_simp; (try with_reducible rfl)
  (try simp only [Act.put, List.setIfInBounds_toArray, List.set_cons_zero, List.set_cons_succ])
  refine wpAnyH_take (i := 36) (oi := ({ dst := some 46, op := Op.fieldAddr 36 (Operand.tmp 1) 0, type := 0, pos := "help.go:113", after := #[{ on := 35, ground := Ground.guard }], guard := some (35, false) } : Oper)) (v := ?vam33) rfl (by kernel_rfl) (by kernel_rfl) (by kernel_rfl) (fun _ _ _ h => h) (Or.inl ⟨by rfl, fun w hSw => ?hyam33⟩) (by assumption) ?ram33
  case hyam33 => (try dsimp only at hSw); go_simp; (try with_reducible rfl)
  (try simp only [Act.put, List.setIfInBounds_toArray, List.set_cons_zero, List.set_cons_succ])
  refine wpAnyH_take (i := 37) (oi := ({ dst := some 47, op := Op.load 33 (Operand.tmp 46), type := 33, pos := "help.go:113", after := #[{ on := 36, ground := Ground.data }, { on := 35, ground := Ground.guard }], guard := some (35, false) } : Oper)) (v := ?vam34) rfl (by kernel_rfl) (by kernel_rfl) (by kernel_rfl) (fun _ _ _ h => h) (Or.inl ⟨by rfl, fun w hSw => ?hyam34⟩) (by assumption) ?ram34
  case hyam34 => (try dsimp only at hSw); go_simp; (try with_reducible rfl)
  (try simp only [Act.put, List.setIfInBounds_toArray, List.set_cons_zero, List.set_cons_succ])
  refine wpAnyH_take (i := 38) (oi := ({ dst := some 48, op := Op.nilCheck (Operand.tmp 47), type := 0, pos := "help.go:113", after := #[{ on := 37, ground := Ground.data }, { on := 35, ground := Ground.guard }], guard := some (35, false) } : Oper)) (v := ?vam35) rfl (by kernel_rfl) (by kernel_rfl) (by kernel_rfl) (fun _ _ _ h => h) (Or.inl ⟨by rfl, fun w hSw => ?hyam35⟩) (by assumption) ?ram35
  case hyam35 => (try dsimp only at hSw); go_simp; (try with_reducible rfl)
  (try simp only [Act.put, List.setIfInBounds_toArray, List.set_cons_zero, List.set_cons_succ])
  refine wpAnyH_take (i := 39) (oi := ({ dst := some 49, op := Op.fieldAddr 89 (Operand.tmp 48) 4, type := 0, pos := "help.go:113", after := #[{ on := 38, ground := Ground.data }, { on := 35, ground := Ground.guard }], guard := some (35, false) } : Oper)) (v := ?vam36) rfl (by kernel_rfl) (by kernel_rfl) (by kernel_rfl) (fun _ _ _ h => h) (Or.inl ⟨by rfl, fun w hSw => ?hyam36⟩) (by assumption) ?ram36
  case hyam36 => (try dsimp only at hSw); go_simp; (try with_reducible rfl)
  (try simp only [Act.put, List.setIfInBounds_toArray, List.set_cons_zero, List.set_cons_succ])
  refine wpAnyH_take (i := 40) (oi := ({ dst := some 50, op := Op.load 85 (Operand.tmp 49), type := 85, pos := "help.go:113", after := #[{ on := 39, ground := Ground.data }, { on := 35, ground := Ground.guard }], guard := some (35, false) } : Oper)) (v := ?vam37) rfl (by kernel_rfl) (by kernel_rfl) (by kernel_rfl) (fun _ _ _ h => h) (Or.inl ⟨by rfl, fun w hSw => ?hyam37⟩) (by assumption) ?ram37
  case hyam37 => (try dsimp only at hSw); go_simp; (try with_reducible rfl)
  (try simp only [Act.put, List.setIfInBounds_toArray, List.set_cons_zero, List.set_cons_succ])
  refine wpAnyH_take (i := 41) (oi := ({ dst := some 51, op := Op.fieldAddr 36 (Operand.tmp 1) 1, type := 0, pos := "help.go:113", after := #[{ on := 35, ground := Ground.guard }], guard := some (35, false) } : Oper)) (v := ?vam38) rfl (by kernel_rfl) (by kernel_rfl) (by kernel_rfl) (fun _ _ _ h => h) (Or.inl ⟨by rfl, fun w hSw => ?hyam38⟩) (by assumption) ?ram38
  case hyam38 => (try dsimp only at hSw); go_simp; (try with_reducible rfl)
  (try simp only [Act.put, List.setIfInBounds_toArray, List.set_cons_zero, List.set_cons_succ])
  refine wpAnyH_take (i := 42) (oi := ({ dst := some 52, op := Op.load 34 (Operand.tmp 51), type := 34, pos := "help.go:113", after := #[{ on := 41, ground := Ground.data }, { on := 35, ground := Ground.guard }], guard := some (35, false) } : Oper)) (v := ?vam39) rfl (by kernel_rfl) (by kernel_rfl) (by kernel_rfl) (fun _ _ _ h => h) (Or.inl ⟨by rfl, fun w hSw => ?hyam39⟩) (by assumption) ?ram39
  case hyam39 => (try dsimp only at hSw); go_simp; (try with_reducible rfl)
  (try simp only [Act.put, List.setIfInBounds_toArray, List.set_cons_zero, List.set_cons_succ])
  refine wpAnyH_take (i := 43) (oi := ({ dst := some 53, op := Op.nilCheck (Operand.tmp 52), type := 0, pos := "help.go:113", after := #[{ on := 42, ground := Ground.data }, { on := 35, ground := Ground.guard }], guard := some (35, false) } : Oper)) (v := ?vam40) rfl (by kernel_rfl) (by kernel_rfl) (by kernel_rfl) (fun _ _ _ h => h) (Or.inl ⟨by rfl, fun w hSw => ?hyam40⟩) (by assumption) ?ram40
  case hyam40 => (try dsimp only at hSw); go_simp; (try with_reducible rfl)
  (try simp only [Act.put, List.setIfInBounds_toArray, List.set_cons_zero, List.set_cons_succ])
  refine wpAnyH_take (i := 44) (oi := ({ dst := some 54, op := Op.fieldAddr 107 (Operand.tmp 53) 4, type := 0, pos := "help.go:113", after := #[{ on := 43, ground := Ground.data }, { on := 35, ground := Ground.guard }], guard := some (35, false) } : Oper)) (v := ?vam41) rfl (by kernel_rfl) (by kernel_rfl) (by kernel_rfl) (fun _ _ _ h => h) (Or.inl ⟨by rfl, fun w hSw => ?hyam41⟩) (by assumption) ?ram41
  case hyam41 => (try dsimp only at hSw); go_simp; (try with_reducible rfl)
  (try simp only [Act.put, List.setIfInBounds_toArray, List.set_cons_zero, List.set_cons_succ])
  refine wpAnyH_take (i := 45) (oi := ({ dst := some 55, op := Op.load 104 (Operand.tmp 54), type := 104, pos := "help.go:113", after := #[{ on := 44, ground := Ground.data }, { on := 35, ground := Ground.guard }], guard := some (35, false) } : Oper)) (v := ?vam42) rfl (by kernel_rfl) (by kernel_rfl) (by kernel_rfl) (fun _ _ _ h => h) (Or.inl ⟨by rfl, fun w hSw => ?hyam42⟩) (by assumption) ?ram42
  case hyam42 => (try dsimp only at hSw); go_simp; (try with_reducible rfl)
  (try simp only [Act.put, List.setIfInBounds_toArray, List.set_cons_zero, List.set_cons_succ])
  refine wpAnyH_ready (rs := [46]) (by kernel_rfl) (by simp) ?_
  refine AllReadyH.cons (o := ({ dst := some 56, op := Op.call { callee := Callee.value (Operand.func 65), args := #[Operand.tmp 50, Operand.tmp 55], argTypes := #[85, 104] }, type := 4, pos := "help.go:113", after := #[{ on := 40, ground := Ground.data }, { on := 45, ground := Ground.data }, { on := 35, ground := Ground.chain }, { on := 35, ground := Ground.guard }], guard := some (35, false) } : Oper)) rfl (fun Kq hKq => ?_) AllReadyH.nil
  go_simp
  (refine (HTS.out _ hHeld.1.1).mono ?_; rintro e w3 ⟨rfl, hb⟩)
  refine hKq.out _ _ ?_ (fun hHeld => ?_)
  · exact ⟨SaF.new hHeld.1 hb, hHeld.2.keep (Turns.of_below (S := fun _ => False) hb) (fun _ _ e => e)⟩
  clear hKq Kq
  (try simp only [Act.put, List.setIfInBounds_toArray, List.set_cons_zero, List.set_cons_succ])
  refine wpAnyH_take (i := 47) (oi := ({ dst := some 57, op := Op.unOp UnOp.not 4 (Operand.tmp 56), type := 4, pos := "help.go:113", after := #[{ on := 46, ground := Ground.data }, { on := 35, ground := Ground.guard }], guard := some (35, false) } : Oper)) (v := ?vam43) rfl (by kernel_rfl) (by kernel_rfl) (by kernel_rfl) (fun _ _ _ h => h) (Or.inl ⟨by rfl, fun w hSw => ?hyam43⟩) (by assumption) ?ram43
  case hyam43 => (try dsimp only at hSw); go_simp; (try with_reducible rfl)
  (try simp only [Act.put, List.setIfInBounds_toArray, List.set_cons_zero, List.set_cons_succ])
  refine wpAnyH_take (i := 48) (oi := ({ dst := some 58, op := Op.pick (Operand.tmp 45) (Operand.const (Value.bool true)) (Operand.tmp 57), type := 4, pos := "help.go:113", after := #[{ on := 35, ground := Ground.data }, { on := 47, ground := Ground.data }], guard := none } : Oper)) (v := ?vam44) rfl (by kernel_rfl) (by kernel_rfl) (by kernel_rfl) (fun _ _ _ h => h) (Or.inl ⟨by rfl, fun w hSw => ?hyam44⟩) (by assumption) ?ram44
  case hyam44 => (try dsimp only at hSw); go_simp; (try with_reducible rfl)
  (try simp only [Act.put, List.setIfInBounds_toArray, List.set_cons_zero, List.set_cons_succ])
  refine wpAnyH_take (i := 49) (oi := ({ dst := some 59, op := Op.move (Operand.tmp 58), type := 4, pos := "help.go:113", after := #[{ on := 48, ground := Ground.data }, { on := 46, ground := Ground.chain }], guard := none } : Oper)) (v := ?vam45) rfl (by kernel_rfl) (by kernel_rfl) (by kernel_rfl) (fun _ _ _ h => h) (Or.inl ⟨by rfl, fun w hSw => ?hyam45⟩) (by assumption) ?ram45
  case hyam45 => (try dsimp only at hSw); go_simp; (try with_reducible rfl)
  (try simp only [Act.put, List.setIfInBounds_toArray, List.set_cons_zero, List.set_cons_succ])
  refine wpAnyH_take (i := 50) (oi := ({ dst := some 60, op := Op.fieldAddr 36 (Operand.tmp 1) 0, type := 0, pos := "help.go:113", after := #[{ on := 49, ground := Ground.guard }], guard := some (49, false) } : Oper)) (v := ?vam46) rfl (by kernel_rfl) (by kernel_rfl) (by kernel_rfl) (fun _ _ _ h => h) (Or.inl ⟨by rfl, fun w hSw => ?hyam46⟩) (by assumption) ?ram46
  case hyam46 => (try dsimp only at hSw); go_simp; (try with_reducible rfl)
  (try simp only [Act.put, List.setIfInBounds_toArray, List.set_cons_zero, List.set_cons_succ])
  refine wpAnyH_take (i := 51) (oi := ({ dst := some 61, op := Op.load 33 (Operand.tmp 60), type := 33, pos := "help.go:113", after := #[{ on := 50, ground := Ground.data }, { on := 49, ground := Ground.guard }], guard := some (49, false) } : Oper)) (v := ?vam47) rfl (by kernel_rfl) (by kernel_rfl) (by kernel_rfl) (fun _ _ _ h => h) (Or.inl ⟨by rfl, fun w hSw => ?hyam47⟩) (by assumption) ?ram47
  case hyam47 => (try dsimp only at hSw); go_simp; (try with_reducible rfl)
  (try simp only [Act.put, List.setIfInBounds_toArray, List.set_cons_zero, List.set_cons_succ])
  refine wpAnyH_take (i := 52) (oi := ({ dst := some 62, op := Op.nilCheck (Operand.tmp 61), type := 0, pos := "help.go:113", after := #[{ on := 51, ground := Ground.data }, { on := 49, ground := Ground.guard }], guard := some (49, false) } : Oper)) (v := ?vam48) rfl (by kernel_rfl) (by kernel_rfl) (by kernel_rfl) (fun _ _ _ h => h) (Or.inl ⟨by rfl, fun w hSw => ?hyam48⟩) (by assumption) ?ram48
  case hyam48 => (try dsimp only at hSw); go_simp; (try with_reducible rfl)
  (try simp only [Act.put, List.setIfInBounds_toArray, List.set_cons_zero, List.set_cons_succ])
  refine wpAnyH_take (i := 53) (oi := ({ dst := some 63, op := Op.fieldAddr 89 (Operand.tmp 62) 7, type := 0, pos := "help.go:113", after := #[{ on := 52, ground := Ground.data }, { on := 49, ground := Ground.guard }], guard := some (49, false) } : Oper)) (v := ?vam49) rfl (by kernel_rfl) (by kernel_rfl) (by kernel_rfl) (fun _ _ _ h => h) (Or.inl ⟨by rfl, fun w hSw => ?hyam49⟩) (by assumption) ?ram49
  case hyam49 => (try dsimp only at hSw); go_simp; (try with_reducible rfl)
  (try simp only [Act.put, List.setIfInBounds_toArray, List.set_cons_zero, List.set_cons_succ])
  refine wpAnyH_take (i := 54) (oi := ({ dst := some 64, op := Op.load 87 (Operand.tmp 63), type := 87, pos := "help.go:113", after := #[{ on := 53, ground := Ground.data }, { on := 49, ground := Ground.guard }], guard := some (49, false) } : Oper)) (v := .agg Z64) rfl (by kernel_rfl) (by kernel_rfl) (by kernel_rfl) (fun _ _ _ h => h) (yieldsIf_load_mid (by rfl) 87 (Operand.tmp 63) rfl WB 7 (by rfl) Z64l _ (fun w hS => HTX.out w hS.1.1) under64 rfl info64) (by assumption) ?ram50
  skip
  (try simp only [Act.put, List.setIfInBounds_toArray, List.set_cons_zero, List.set_cons_succ])
  refine wpAnyH_take (i := 55) (oi := ({ dst := some 65, op := Op.fieldAddr 36 (Operand.tmp 1) 1, type := 0, pos := "help.go:113", after := #[{ on := 49, ground := Ground.guard }], guard := some (49, false) } : Oper)) (v := ?vam51) rfl (by kernel_rfl) (by kernel_rfl) (by kernel_rfl) (fun _ _ _ h => h) (Or.inl ⟨by rfl, fun w hSw => ?hyam51⟩) (by assumption) ?ram51
  case hyam51 => (try dsimp only at hSw); go_simp; (try with_reducible rfl)
  (try simp only [Act.put, List.setIfInBounds_toArray, List.set_cons_zero, List.set_cons_succ])
  refine wpAnyH_take (i := 56) (oi := ({ dst := some 66, op := Op.load 34 (Operand.tmp 65), type := 34, pos := "help.go:113", after := #[{ on := 55, ground := Ground.data }, { on := 49, ground := Ground.guard }], guard := some (49, false) } : Oper)) (v := ?vam52) rfl (by kernel_rfl) (by kernel_rfl) (by kernel_rfl) (fun _ _ _ h => h) (Or.inl ⟨by rfl, fun w hSw => ?hyam52⟩) (by assumption) ?ram52
  case hyam52 => (try dsimp only at hSw); go_simp; (try with_reducible rfl)
  (try simp only [Act.put, List.setIfInBounds_toArray, List.set_cons_zero, List.set_cons_succ])
  refine wpAnyH_take (i := 57) (oi := ({ dst := some 67, op := Op.nilCheck (Operand.tmp 66), type := 0, pos := "help.go:113", after := #[{ on := 56, ground := Ground.data }, { on := 49, ground := Ground.guard }], guard := some (49, false) } : Oper)) (v := ?vam53) rfl (by kernel_rfl) (by kernel_rfl) (by kernel_rfl) (fun _ _ _ h => h) (Or.inl ⟨by rfl, fun w hSw => ?hyam53⟩) (by assumption) ?ram53
  case hyam53 => (try dsimp only at hSw); go_simp; (try with_reducible rfl)
  (try simp only [Act.put, List.setIfInBounds_toArray, List.set_cons_zero, List.set_cons_succ])
  refine wpAnyH_take (i := 58) (oi := ({ dst := some 68, op := Op.fieldAddr 107 (Operand.tmp 67) 7, type := 0, pos := "help.go:113", after := #[{ on := 57, ground := Ground.data }, { on := 49, ground := Ground.guard }], guard := some (49, false) } : Oper)) (v := ?vam54) rfl (by kernel_rfl) (by kernel_rfl) (by kernel_rfl) (fun _ _ _ h => h) (Or.inl ⟨by rfl, fun w hSw => ?hyam54⟩) (by assumption) ?ram54
  case hyam54 => (try dsimp only at hSw); go_simp; (try with_reducible rfl)
  (try simp only [Act.put, List.setIfInBounds_toArray, List.set_cons_zero, List.set_cons_succ])
  refine wpAnyH_take (i := 59) (oi := ({ dst := some 69, op := Op.load 87 (Operand.tmp 68), type := 87, pos := "help.go:113", after := #[{ on := 58, ground := Ground.data }, { on := 49, ground := Ground.guard }], guard := some (49, false) } : Oper)) (v := .agg Z64) rfl (by kernel_rfl) (by kernel_rfl) (by kernel_rfl) (fun _ _ _ h => h) (yieldsIf_load_mid (by rfl) 87 (Operand.tmp 68) rfl RB 7 (by rfl) Z64l _ (fun w hS => HTY.out w hS.1.1) under64 rfl info64) (by assumption) ?ram55
  skip
  (try simp only [Act.put, List.setIfInBounds_toArray, List.set_cons_zero, List.set_cons_succ])
  refine wpAnyH_take (i := 60) (oi := ({ dst := some 70, op := Op.binOp BinOp.neq 87 (Operand.tmp 64) (Operand.tmp 69) 87, type := 4, pos := "help.go:113", after := #[{ on := 54, ground := Ground.data }, { on := 59, ground := Ground.data }, { on := 49, ground := Ground.guard }], guard := some (49, false) } : Oper)) (v := ?vam56) rfl (by kernel_rfl) (by kernel_rfl) (by kernel_rfl) (fun _ _ _ h => h) (Or.inl ⟨by rfl, fun w hSw => ?hyam56⟩) (by assumption) ?ram56
  case hyam56 => (try dsimp only at hSw); go_simp; (try with_reducible rfl)
  (try simp only [Act.put, List.setIfInBounds_toArray, List.set_cons_zero, List.set_cons_succ])
  refine wpAnyH_take (i := 61) (oi := ({ dst := some 71, op := Op.pick (Operand.tmp 59) (Operand.const (Value.bool true)) (Operand.tmp 70), type := 4, pos := "help.go:113", after := #[{ on := 49, ground := Ground.data }, { on := 60, ground := Ground.data }], guard := none } : Oper)) (v := ?vam57) rfl (by kernel_rfl) (by kernel_rfl) (by kernel_rfl) (fun _ _ _ h => h) (Or.inl ⟨by rfl, fun w hSw => ?hyam57⟩) (by assumption) ?ram57
  case hyam57 => (try dsimp only at hSw); go_simp; (try with_reducible rfl)
  (try simp only [Act.put, List.setIfInBounds_toArray, List.set_cons_zero, List.set_cons_succ])
  refine wpAnyH_take (i := 62) (oi := ({ dst := some 72, op := Op.move (Operand.tmp 71), type := 4, pos := "help.go:113", after := #[{ on := 61, ground := Ground.data }, { on := 49, ground := Ground.chain }], guard := none } : Oper)) (v := ?vam58) rfl (by kernel_rfl) (by kernel_rfl) (by kernel_rfl) (fun _ _ _ h => h) (Or.inl ⟨by rfl, fun w hSw => ?hyam58⟩) (by assumption) ?ram58
  case hyam58 => (try dsimp only at hSw); go_simp; (try with_reducible rfl)
  (try simp only [Act.put, List.setIfInBounds_toArray, List.set_cons_zero, List.set_cons_succ])
  refine wpAnyH_take (i := 63) (oi := ({ dst := some 73, op := Op.fieldAddr 36 (Operand.tmp 1) 0, type := 0, pos := "help.go:113", after := #[{ on := 62, ground := Ground.guard }], guard := some (62, false) } : Oper)) (v := ?vam59) rfl (by kernel_rfl) (by kernel_rfl) (by kernel_rfl) (fun _ _ _ h => h) (Or.inl ⟨by rfl, fun w hSw => ?hyam59⟩) (by assumption) ?ram59
  case hyam59 => (try dsimp only at hSw); go_simp; (try with_reducible rfl)
  (try simp only [Act.put, List.setIfInBounds_toArray, List.set_cons_zero, List.set_cons_succ])
  refine wpAnyH_take (i := 64) (oi := ({ dst := some 74, op := Op.load 33 (Operand.tmp 73), type := 33, pos := "help.go:113", after := #[{ on := 63, ground := Ground.data }, { on := 62, ground := Ground.guard }], guard := some (62, false) } : Oper)) (v := ?vam60) rfl (by kernel_rfl) (by kernel_rfl) (by kernel_rfl) (fun _ _ _ h => h) (Or.inl ⟨by rfl, fun w hSw => ?hyam60⟩) (by assumption) ?ram60
  case hyam60 => (try dsimp only at hSw); go_simp; (try with_reducible rfl)
  (try simp only [Act.put, List.setIfInBounds_toArray, List.set_cons_zero, List.set_cons_succ])
  refine wpAnyH_take (i := 65) (oi := ({ dst := some 75, op := Op.nilCheck (Operand.tmp 74), type := 0, pos := "help.go:113", after := #[{ on := 64, ground := Ground.data }, { on := 62, ground := Ground.guard }], guard := some (62, false) } : Oper)) (v := ?vam61) rfl (by kernel_rfl) (by kernel_rfl) (by kernel_rfl) (fun _ _ _ h => h) (Or.inl ⟨by rfl, fun w hSw => ?hyam61⟩) (by assumption) ?ram61
  case hyam61 => (try dsimp only at hSw); go_simp; (try with_reducible rfl)
  (try simp only [Act.put, List.setIfInBounds_toArray, List.set_cons_zero, List.set_cons_succ])
  refine wpAnyH_take (i := 66) (oi := ({ dst := some 76, op := Op.fieldAddr 89 (Operand.tmp 75) 1, type := 0, pos := "help.go:113", after := #[{ on := 65, ground := Ground.data }, { on := 62, ground := Ground.guard }], guard := some (62, false) } : Oper)) (v := ?vam62) rfl (by kernel_rfl) (by kernel_rfl) (by kernel_rfl) (fun _ _ _ h => h) (Or.inl ⟨by rfl, fun w hSw => ?hyam62⟩) (by assumption) ?ram62
  case hyam62 => (try dsimp only at hSw); go_simp; (try with_reducible rfl)
  (try simp only [Act.put, List.setIfInBounds_toArray, List.set_cons_zero, List.set_cons_succ])
  refine wpAnyH_take (i := 67) (oi := ({ dst := some 77, op := Op.load 82 (Operand.tmp 76), type := 82, pos := "help.go:113", after := #[{ on := 66, ground := Ground.data }, { on := 62, ground := Ground.guard }], guard := some (62, false) } : Oper)) (v := ?vam63) rfl (by kernel_rfl) (by kernel_rfl) (by kernel_rfl) (fun _ _ _ h => h) (Or.inl ⟨by rfl, fun w hSw => ?hyam63⟩) (by assumption) ?ram63
  case hyam63 => (try dsimp only at hSw); go_simp; (try with_reducible rfl)
  (try simp only [Act.put, List.setIfInBounds_toArray, List.set_cons_zero, List.set_cons_succ])
  refine wpAnyH_take (i := 69) (oi := ({ dst := some 79, op := Op.fieldAddr 36 (Operand.tmp 1) 1, type := 0, pos := "help.go:113", after := #[{ on := 62, ground := Ground.guard }], guard := some (62, false) } : Oper)) (v := ?vam64) rfl (by kernel_rfl) (by kernel_rfl) (by kernel_rfl) (fun _ _ _ h => h) (Or.inl ⟨by rfl, fun w hSw => ?hyam64⟩) (by assumption) ?ram64
  case hyam64 => (try dsimp only at hSw); go_simp; (try with_reducible rfl)
  (try simp only [Act.put, List.setIfInBounds_toArray, List.set_cons_zero, List.set_cons_succ])
  refine wpAnyH_take (i := 70) (oi := ({ dst := some 80, op := Op.load 34 (Operand.tmp 79), type := 34, pos := "help.go:113", after := #[{ on := 69, ground := Ground.data }, { on := 62, ground := Ground.guard }], guard := some (62, false) } : Oper)) (v := ?vam65) rfl (by kernel_rfl) (by kernel_rfl) (by kernel_rfl) (fun _ _ _ h => h) (Or.inl ⟨by rfl, fun w hSw => ?hyam65⟩) (by assumption) ?ram65
  case hyam65 => (try dsimp only at hSw); go_simp; (try with_reducible rfl)
  (try simp only [Act.put, List.setIfInBounds_toArray, List.set_cons_zero, List.set_cons_succ])
  refine wpAnyH_take (i := 71) (oi := ({ dst := some 81, op := Op.nilCheck (Operand.tmp 80), type := 0, pos := "help.go:113", after := #[{ on := 70, ground := Ground.data }, { on := 62, ground := Ground.guard }], guard := some (62, false) } : Oper)) (v := ?vam66) rfl (by kernel_rfl) (by kernel_rfl) (by kernel_rfl) (fun _ _ _ h => h) (Or.inl ⟨by rfl, fun w hSw => ?hyam66⟩) (by assumption) ?ram66
  case hyam66 => (try dsimp only at hSw); go_simp; (try with_reducible rfl)
  (try simp only [Act.put, List.setIfInBounds_toArray, List.set_cons_zero, List.set_cons_succ])
  refine wpAnyH_take (i := 72) (oi := ({ dst := some 82, op := Op.fieldAddr 107 (Operand.tmp 81) 1, type := 0, pos := "help.go:113", after := #[{ on := 71, ground := Ground.data }, { on := 62, ground := Ground.guard }], guard := some (62, false) } : Oper)) (v := ?vam67) rfl (by kernel_rfl) (by kernel_rfl) (by kernel_rfl) (fun _ _ _ h => h) (Or.inl ⟨by rfl, fun w hSw => ?hyam67⟩) (by assumption) ?ram67
  case hyam67 => (try dsimp only at hSw); go_simp; (try with_reducible rfl)
  (try simp only [Act.put, List.setIfInBounds_toArray, List.set_cons_zero, List.set_cons_succ])
  refine wpAnyH_take (i := 73) (oi := ({ dst := some 83, op := Op.load 101 (Operand.tmp 82), type := 101, pos := "help.go:113", after := #[{ on := 72, ground := Ground.data }, { on := 62, ground := Ground.guard }], guard := some (62, false) } : Oper)) (v := ?vam68) rfl (by kernel_rfl) (by kernel_rfl) (by kernel_rfl) (fun _ _ _ h => h) (Or.inl ⟨by rfl, fun w hSw => ?hyam68⟩) (by assumption) ?ram68
  case hyam68 => (try dsimp only at hSw); go_simp; (try with_reducible rfl)
  (try simp only [Act.put, List.setIfInBounds_toArray, List.set_cons_zero, List.set_cons_succ])
  refine wpAnyH_take (i := 74) (oi := ({ dst := some 84, op := Op.nilCheck (Operand.tmp 83), type := 0, pos := "help.go:113", after := #[{ on := 73, ground := Ground.data }, { on := 62, ground := Ground.guard }], guard := some (62, false) } : Oper)) (v := ?vam69) rfl (by kernel_rfl) (by kernel_rfl) (by kernel_rfl) (fun _ _ _ h => h) (Or.inl ⟨by rfl, fun w hSw => ?hyam69⟩) (by assumption) ?ram69
  case hyam69 => (try dsimp only at hSw); go_simp; (try with_reducible rfl)
  (try simp only [Act.put, List.setIfInBounds_toArray, List.set_cons_zero, List.set_cons_succ])
  refine wpAnyH_take (i := 75) (oi := ({ dst := some 85, op := Op.fieldAddr 161 (Operand.tmp 84) 0, type := 0, pos := "help.go:113", after := #[{ on := 74, ground := Ground.data }, { on := 62, ground := Ground.guard }], guard := some (62, false) } : Oper)) (v := ?vam70) rfl (by kernel_rfl) (by kernel_rfl) (by kernel_rfl) (fun _ _ _ h => h) (Or.inl ⟨by rfl, fun w hSw => ?hyam70⟩) (by assumption) ?ram70
  case hyam70 => (try dsimp only at hSw); go_simp; (try with_reducible rfl)
  (try simp only [Act.put, List.setIfInBounds_toArray, List.set_cons_zero, List.set_cons_succ])
  refine wpAnyH_take (i := 76) (oi := ({ dst := some 86, op := Op.load 22 (Operand.tmp 85), type := 22, pos := "help.go:113", after := #[{ on := 75, ground := Ground.data }, { on := 62, ground := Ground.guard }], guard := some (62, false) } : Oper)) (v := ?vam71) rfl (by kernel_rfl) (by kernel_rfl) (by kernel_rfl) (fun _ _ _ h => h) (Or.inl ⟨by rfl, fun w hSw => ?hyam71⟩) (by assumption) ?ram71
  case hyam71 => (try dsimp only at hSw); go_simp; (try with_reducible rfl)
  (try simp only [Act.put, List.setIfInBounds_toArray, List.set_cons_zero, List.set_cons_succ])
  refine wpAnyH_ready (rs := [68]) (by kernel_rfl) (by simp) ?_
  refine AllReadyH.cons (o := ({ dst := some 78, op := Op.call { callee := Callee.value (Operand.func 66), args := #[Operand.tmp 77], argTypes := #[82] }, type := 22, pos := "help.go:113", after := #[{ on := 67, ground := Ground.data }, { on := 62, ground := Ground.chain }, { on := 62, ground := Ground.guard }], guard := some (62, false) } : Oper)) rfl (fun Kq hKq => ?_) AllReadyH.nil
  go_simp
  (refine (HNW.out _ hHeld.1.1).mono ?_; rintro e w3 ⟨rfl, rfl⟩)
  refine hKq.out _ _ ?_ (fun hHeld => ?_)
  · exact hHeld
  clear hKq Kq
  (try simp only [Act.put, List.setIfInBounds_toArray, List.set_cons_zero, List.set_cons_succ])
  refine wpAnyH_take (i := 77) (oi := ({ dst := some 87, op := Op.binOp BinOp.neq 22 (Operand.tmp 78) (Operand.tmp 86) 22, type := 4, pos := "help.go:113", after := #[{ on := 68, ground := Ground.data }, { on := 76, ground := Ground.data }, { on := 62, ground := Ground.guard }], guard := some (62, false) } : Oper)) (v := ?vam72) rfl (by kernel_rfl) (by kernel_rfl) (by kernel_rfl) (fun _ _ _ h => h) (Or.inl ⟨by rfl, fun w hSw => ?hyam72⟩) (by assumption) ?ram72
  case hyam72 => (try dsimp only at hSw); go_simp; (try with_reducible rfl)
  (try simp only [Act.put, List.setIfInBounds_toArray, List.set_cons_zero, List.set_cons_succ])
  refine wpAnyH_take (i := 78) (oi := ({ dst := some 88, op := Op.pick (Operand.tmp 72) (Operand.const (Value.bool true)) (Operand.tmp 87), type := 4, pos := "help.go:113", after := #[{ on := 62, ground := Ground.data }, { on := 77, ground := Ground.data }], guard := none } : Oper)) (v := ?vam73) rfl (by kernel_rfl) (by kernel_rfl) (by kernel_rfl) (fun _ _ _ h => h) (Or.inl ⟨by rfl, fun w hSw => ?hyam73⟩) (by assumption) ?ram73
  case hyam73 => (try dsimp only at hSw); go_simp; (try with_reducible rfl)
  (try simp only [Act.put, List.setIfInBounds_toArray, List.set_cons_zero, List.set_cons_succ])
  refine wpAnyH_done (by kernel_rfl) ?_ _
  have HB3 := Lib.hid hHeld.1.1
  clear hHeld HSM HS2 HAL HNS HTS HNW HF HTX HTY hev
  have HAS := Lib.hid (fun (i : Nat) (hi : i < 128) (W : World) (q : Below w2.heap.size w2 W) => S4.asleep_yes (H2.out.new q).pr.pw.permits hi)
  have HGQ := Lib.hid (fun (i : Nat) (hi : i < 128) (now : Nat) (W : World) (q : Below w2.heap.size w2 W) => S4.pgoes_yes (H2.out.new q).pr.pw.permits hi now)
  have HRQ : Hid (∀ (i : Nat), i < 128 → ∀ (now : Nat) W, Below w2.heap.size w2 W → Calls Tryz.prog 68 #[Pw Y.pB, .int .i64 (i : Int), .int .u64 (now : Int)] W fun e w' => e = .returned (.bool (S4.goesB (X.pf i) now)) ∧ Below W.heap.size W w') := Lib.hid (fun i hi now W q => by
    have := S4.rgoes_yes (H2.out.new q).pr.rpermits hi now
    rw [← HE.out.1, S4.goes_both (H2.out.pok i) now] at this
    exact this)
  go_wp2_with fail
  go_loopg [3, 4] 128 (fun q s3 s4 wx => ∃ i : Nat, i ≤ 128 ∧ q = 128 - i ∧ s3 = .int .i64 (i : Int) ∧ Below w2.heap.size w2 wx)
  case atStart => exact ⟨0, by omega, rfl, rfl, HB3.out⟩
  case round =>
    obtain ⟨i, hi, rfl, rfl, hb⟩ := hrel
    have h3 := H2.out.new hb
    have e0 := (hb.block B0 (Array.getElem?_eq_some_iff.1 HQ0.out).1).trans HQ0.out
    have b0 := cell_row e0 0; have b1 := cell_row e0 1
    simp only [List.getElem?_toArray, List.getElem?_cons_zero, List.getElem?_cons_succ] at b0 b1
    by_cases hi8 : i < 128
    · have has := HAS.out i hi8
      have hg0 : ∀ W, Below w2.heap.size w2 W → Calls Tryz.prog 67 #[Pw X.pB, .int .i64 (i : Int), .int .u64 0] W fun e w' => e = .returned (.bool (S4.goesB (X.pf i) 0)) ∧ Below W.heap.size W w' := HGQ.out i hi8 0
      have hr0 : ∀ W, Below w2.heap.size w2 W → Calls Tryz.prog 68 #[Pw Y.pB, .int .i64 (i : Int), .int .u64 0] W fun e w' => e = .returned (.bool (S4.goesB (X.pf i) 0)) ∧ Below W.heap.size W w' := HRQ.out i hi8 0
      have hg1 : ∀ W, Below w2.heap.size w2 W → Calls Tryz.prog 67 #[Pw X.pB, .int .i64 (i : Int), .int .u64 18446744073709551615] W fun e w' => e = .returned (.bool (S4.goesB (X.pf i) 18446744073709551615)) ∧ Below W.heap.size W w' := HGQ.out i hi8 18446744073709551615
      have hr1 : ∀ W, Below w2.heap.size w2 W → Calls Tryz.prog 68 #[Pw Y.pB, .int .i64 (i : Int), .int .u64 18446744073709551615] W fun e w' => e = .returned (.bool (S4.goesB (X.pf i) 18446744073709551615)) ∧ Below W.heap.size W w' := HRQ.out i hi8 18446744073709551615
      generalize S4.goesB (X.pf i) 0 = g0 at *
      generalize S4.goesB (X.pf i) 18446744073709551615 = g1 at *
      have d1 : (i : Int) < 128 := by omega
      have k0 := h3.pr.rpermits.c0 i hi8; have k1 := h3.pr.rpermits.c1 i hi8; have k2 := h3.pr.rpermits.c2 i hi8; have k3 := h3.pr.rpermits.c3 i hi8
      rw [← HE.out.1] at k0 k1 k2 k3
      have r2 := h3.pr.r2
      rw [h3.rB] at r2
      have x2 := h3.pr.pw.c2
      rw [h3.wB] at x2
      generalize X.pf i = pk at *
      obtain ⟨pp, pa, po, pt⟩ := pk
      dsimp only at k0 k1 k2 k3 has
      obtain ⟨pB, hpB⟩ : ∃ x, x = X.pB := ⟨_, rfl⟩
      obtain ⟨rpB, hrpB⟩ : ∃ x, x = Y.pB := ⟨_, rfl⟩
      rw [← hpB] at has hg0 hg1 x2; rw [← hrpB] at hr0 hr1 r2 k0 k1 k2 k3
      have HASI := Lib.hid has; have HGO0 := Lib.hid hg0; have HGO1 := Lib.hid hg1; have HRG0 := Lib.hid hr0; have HRG1 := Lib.hid hr1
      have HBR := Lib.hid hb
      have HI := Lib.hid hi8
      clear has hg0 hg1 hr0 hr1 h3 hpB hrpB e0 hi8 hi
      go_upto_region 7 with (fail)
      have hnx := heap_alloc_new wr (.cells #[.bool pp, .bool pa, .bool po, .int .u64 (pt : Int)] 153)
      have hby := below1 wr (.cells #[.bool pp, .bool pa, .bool po, .int .u64 (pt : Int)] 153)
      have y0 := bcell hby b0; have y1 := bcell hby b1; have y2 := bcell hby x2; have y3 := bcell hby r2
      have y4 := cell_row hnx 1
      simp only [List.getElem?_toArray, List.getElem?_cons_zero, List.getElem?_cons_succ] at y4
      have HBY := Lib.hid (HBR.out.trans (hby.mono HBR.out.size))
      obtain ⟨Bx, hBx⟩ : ∃ x, x = wr.heap.size := ⟨_, rfl⟩
      rw [← hBx] at y4 ⊢
      clear hnx hby b0 b1 x2 r2 k0 k1 k2 k3 hb hBx
      generalize wr.alloc (.cells #[.bool pp, .bool pa, .bool po, .int .u64 (pt : Int)] 153) = w4 at *
      have HF7 : Hid (w4.drew.cell? ⟨B0, 0, none⟩ = some (Pw WB) ∧ w4.drew.cell? ⟨B0, 1, none⟩ = some (Pw RB) ∧ w4.drew.cell? ⟨WB, 2, none⟩ = some (Pw pB) ∧ w4.drew.cell? ⟨RB, 2, none⟩ = some (Pw rpB) ∧ w4.drew.cell? ⟨Bx, 1, none⟩ = some (.bool pa)) := Lib.hid ⟨y0, y1, y2, y3, y4⟩
      clear y0 y1 y2 y3 y4
      refine wp_region_held_drew (S := fun w' => Below w2.heap.size w2 w' ∧ w'.cell? ⟨B0, 0, none⟩ = some (Pw WB) ∧ w'.cell? ⟨B0, 1, none⟩ = some (Pw RB) ∧ w'.cell? ⟨WB, 2, none⟩ = some (Pw pB) ∧ w'.cell? ⟨RB, 2, none⟩ = some (Pw rpB) ∧ w'.cell? ⟨Bx, 1, none⟩ = some (.bool pa)) (by kernel_rfl) ?_ (fun hHeld => ?_)
      · exact ⟨HBY.out.drew, HF7.out⟩
      refine wpAnyH_take (i := 0) (oi := ({ dst := some 103, op := Op.fieldAddr 36 (Operand.tmp 1) 0, type := 0, pos := "help.go:118", after := #[], guard := none } : Oper)) (v := ?vbm1) rfl (by kernel_rfl) (by kernel_rfl) (by kernel_rfl) (fun _ _ _ h => h) (Or.inl ⟨by rfl, fun w hSw => ?hybm1⟩) (by assumption) ?rbm1
      case hybm1 => (try dsimp only at hSw); go_simp; (try with_reducible rfl)
      (try simp only [Act.put, List.setIfInBounds_toArray, List.set_cons_zero, List.set_cons_succ])
      refine wpAnyH_take (i := 1) (oi := ({ dst := some 104, op := Op.load 33 (Operand.tmp 103), type := 33, pos := "help.go:118", after := #[{ on := 0, ground := Ground.data }], guard := none } : Oper)) (v := ?vbm2) rfl (by kernel_rfl) (by kernel_rfl) (by kernel_rfl) (fun _ _ _ h => h) (Or.inl ⟨by rfl, fun w hSw => ?hybm2⟩) (by assumption) ?rbm2
      case hybm2 => (try dsimp only at hSw); go_simp; (try with_reducible rfl)
      (try simp only [Act.put, List.setIfInBounds_toArray, List.set_cons_zero, List.set_cons_succ])
      refine wpAnyH_take (i := 2) (oi := ({ dst := some 105, op := Op.nilCheck (Operand.tmp 104), type := 0, pos := "help.go:118", after := #[{ on := 1, ground := Ground.data }], guard := none } : Oper)) (v := ?vbm3) rfl (by kernel_rfl) (by kernel_rfl) (by kernel_rfl) (fun _ _ _ h => h) (Or.inl ⟨by rfl, fun w hSw => ?hybm3⟩) (by assumption) ?rbm3
      case hybm3 => (try dsimp only at hSw); go_simp; (try with_reducible rfl)
      (try simp only [Act.put, List.setIfInBounds_toArray, List.set_cons_zero, List.set_cons_succ])
      refine wpAnyH_take (i := 3) (oi := ({ dst := some 106, op := Op.fieldAddr 89 (Operand.tmp 105) 2, type := 0, pos := "help.go:118", after := #[{ on := 2, ground := Ground.data }], guard := none } : Oper)) (v := ?vbm4) rfl (by kernel_rfl) (by kernel_rfl) (by kernel_rfl) (fun _ _ _ h => h) (Or.inl ⟨by rfl, fun w hSw => ?hybm4⟩) (by assumption) ?rbm4
      case hybm4 => (try dsimp only at hSw); go_simp; (try with_reducible rfl)
      (try simp only [Act.put, List.setIfInBounds_toArray, List.set_cons_zero, List.set_cons_succ])
      refine wpAnyH_take (i := 4) (oi := ({ dst := some 107, op := Op.load 83 (Operand.tmp 106), type := 83, pos := "help.go:118", after := #[{ on := 3, ground := Ground.data }], guard := none } : Oper)) (v := ?vbm5) rfl (by kernel_rfl) (by kernel_rfl) (by kernel_rfl) (fun _ _ _ h => h) (Or.inl ⟨by rfl, fun w hSw => ?hybm5⟩) (by assumption) ?rbm5
      case hybm5 => (try dsimp only at hSw); go_simp; (try with_reducible rfl)
      (try simp only [Act.put, List.setIfInBounds_toArray, List.set_cons_zero, List.set_cons_succ])
      refine wpAnyH_take (i := 5) (oi := ({ dst := some 108, op := Op.move (Operand.tmp 3), type := 3, pos := "help.go:118", after := #[], guard := none } : Oper)) (v := ?vbm6) rfl (by kernel_rfl) (by kernel_rfl) (by kernel_rfl) (fun _ _ _ h => h) (Or.inl ⟨by rfl, fun w hSw => ?hybm6⟩) (by assumption) ?rbm6
      case hybm6 => (try dsimp only at hSw); go_simp; (try with_reducible rfl)
      (try simp only [Act.put, List.setIfInBounds_toArray, List.set_cons_zero, List.set_cons_succ])
      refine wpAnyH_take (i := 7) (oi := ({ dst := some 110, op := Op.fieldAddr 153 (Operand.tmp 4) 1, type := 0, pos := "help.go:118", after := #[], guard := none } : Oper)) (v := ?vbm7) rfl (by kernel_rfl) (by kernel_rfl) (by kernel_rfl) (fun _ _ _ h => h) (Or.inl ⟨by rfl, fun w hSw => ?hybm7⟩) (by assumption) ?rbm7
      case hybm7 => (try dsimp only at hSw); go_simp; (try with_reducible rfl)
      (try simp only [Act.put, List.setIfInBounds_toArray, List.set_cons_zero, List.set_cons_succ])
      refine wpAnyH_take (i := 8) (oi := ({ dst := some 111, op := Op.load 4 (Operand.tmp 110), type := 4, pos := "help.go:118", after := #[{ on := 7, ground := Ground.data }], guard := none } : Oper)) (v := ?vbm8) rfl (by kernel_rfl) (by kernel_rfl) (by kernel_rfl) (fun _ _ _ h => h) (Or.inl ⟨by rfl, fun w hSw => ?hybm8⟩) (by assumption) ?rbm8
      case hybm8 => (try dsimp only at hSw); go_simp; (try with_reducible rfl)
      (try simp only [Act.put, List.setIfInBounds_toArray, List.set_cons_zero, List.set_cons_succ])
      refine wpAnyH_ready (rs := [6]) (by kernel_rfl) (by simp) ?_
      refine AllReadyH.cons (o := ({ dst := some 109, op := Op.call { callee := Callee.value (Operand.func 27), args := #[Operand.tmp 107, Operand.tmp 108], argTypes := #[83, 3] }, type := 4, pos := "help.go:118", after := #[{ on := 4, ground := Ground.data }, { on := 5, ground := Ground.data }], guard := none } : Oper)) rfl (fun Kq hKq => ?_) AllReadyH.nil
      go_simp
      (refine (HASI.out _ hHeld.1).mono ?_; rintro e w3 ⟨rfl, rfl⟩)
      refine hKq.out _ _ ?_ (fun hHeld => ?_)
      · exact hHeld
      clear hKq Kq
      (try simp only [Act.put, List.setIfInBounds_toArray, List.set_cons_zero, List.set_cons_succ])
      refine wpAnyH_take (i := 9) (oi := ({ dst := some 112, op := Op.binOp BinOp.neq 4 (Operand.tmp 109) (Operand.tmp 111) 4, type := 4, pos := "help.go:118", after := #[{ on := 6, ground := Ground.data }, { on := 8, ground := Ground.data }], guard := none } : Oper)) (v := ?vbm9) rfl (by kernel_rfl) (by kernel_rfl) (by kernel_rfl) (fun _ _ _ h => h) (Or.inl ⟨by rfl, fun w hSw => ?hybm9⟩) (by assumption) ?rbm9
      case hybm9 => (try dsimp only at hSw); go_simp; (try with_reducible rfl)
      (try simp only [Act.put, List.setIfInBounds_toArray, List.set_cons_zero, List.set_cons_succ])
      refine wpAnyH_take (i := 10) (oi := ({ dst := some 113, op := Op.move (Operand.tmp 112), type := 4, pos := "help.go:118", after := #[{ on := 9, ground := Ground.data }, { on := 6, ground := Ground.chain }], guard := none } : Oper)) (v := ?vbm10) rfl (by kernel_rfl) (by kernel_rfl) (by kernel_rfl) (fun _ _ _ h => h) (Or.inl ⟨by rfl, fun w hSw => ?hybm10⟩) (by assumption) ?rbm10
      case hybm10 => (try dsimp only at hSw); go_simp; (try with_reducible rfl)
      (try simp only [Act.put, List.setIfInBounds_toArray, List.set_cons_zero, List.set_cons_succ])
      refine wpAnyH_take (i := 11) (oi := ({ dst := some 114, op := Op.fieldAddr 36 (Operand.tmp 1) 0, type := 0, pos := "help.go:118", after := #[{ on := 10, ground := Ground.guard }], guard := some (10, false) } : Oper)) (v := ?vbm11) rfl (by kernel_rfl) (by kernel_rfl) (by kernel_rfl) (fun _ _ _ h => h) (Or.inl ⟨by rfl, fun w hSw => ?hybm11⟩) (by assumption) ?rbm11
      case hybm11 => (try dsimp only at hSw); go_simp; (try with_reducible rfl)
      (try simp only [Act.put, List.setIfInBounds_toArray, List.set_cons_zero, List.set_cons_succ])
      refine wpAnyH_take (i := 12) (oi := ({ dst := some 115, op := Op.load 33 (Operand.tmp 114), type := 33, pos := "help.go:118", after := #[{ on := 11, ground := Ground.data }, { on := 10, ground := Ground.guard }], guard := some (10, false) } : Oper)) (v := ?vbm12) rfl (by kernel_rfl) (by kernel_rfl) (by kernel_rfl) (fun _ _ _ h => h) (Or.inl ⟨by rfl, fun w hSw => ?hybm12⟩) (by assumption) ?rbm12
      case hybm12 => (try dsimp only at hSw); go_simp; (try with_reducible rfl)
      (try simp only [Act.put, List.setIfInBounds_toArray, List.set_cons_zero, List.set_cons_succ])
      refine wpAnyH_take (i := 13) (oi := ({ dst := some 116, op := Op.nilCheck (Operand.tmp 115), type := 0, pos := "help.go:118", after := #[{ on := 12, ground := Ground.data }, { on := 10, ground := Ground.guard }], guard := some (10, false) } : Oper)) (v := ?vbm13) rfl (by kernel_rfl) (by kernel_rfl) (by kernel_rfl) (fun _ _ _ h => h) (Or.inl ⟨by rfl, fun w hSw => ?hybm13⟩) (by assumption) ?rbm13
      case hybm13 => (try dsimp only at hSw); go_simp; (try with_reducible rfl)
      (try simp only [Act.put, List.setIfInBounds_toArray, List.set_cons_zero, List.set_cons_succ])
      refine wpAnyH_take (i := 14) (oi := ({ dst := some 117, op := Op.fieldAddr 89 (Operand.tmp 116) 2, type := 0, pos := "help.go:118", after := #[{ on := 13, ground := Ground.data }, { on := 10, ground := Ground.guard }], guard := some (10, false) } : Oper)) (v := ?vbm14) rfl (by kernel_rfl) (by kernel_rfl) (by kernel_rfl) (fun _ _ _ h => h) (Or.inl ⟨by rfl, fun w hSw => ?hybm14⟩) (by assumption) ?rbm14
      case hybm14 => (try dsimp only at hSw); go_simp; (try with_reducible rfl)
      (try simp only [Act.put, List.setIfInBounds_toArray, List.set_cons_zero, List.set_cons_succ])
      refine wpAnyH_take (i := 15) (oi := ({ dst := some 118, op := Op.load 83 (Operand.tmp 117), type := 83, pos := "help.go:118", after := #[{ on := 14, ground := Ground.data }, { on := 10, ground := Ground.guard }], guard := some (10, false) } : Oper)) (v := ?vbm15) rfl (by kernel_rfl) (by kernel_rfl) (by kernel_rfl) (fun _ _ _ h => h) (Or.inl ⟨by rfl, fun w hSw => ?hybm15⟩) (by assumption) ?rbm15
      case hybm15 => (try dsimp only at hSw); go_simp; (try with_reducible rfl)
      (try simp only [Act.put, List.setIfInBounds_toArray, List.set_cons_zero, List.set_cons_succ])
      refine wpAnyH_take (i := 16) (oi := ({ dst := some 119, op := Op.move (Operand.tmp 3), type := 3, pos := "help.go:118", after := #[{ on := 10, ground := Ground.guard }], guard := some (10, false) } : Oper)) (v := ?vbm16) rfl (by kernel_rfl) (by kernel_rfl) (by kernel_rfl) (fun _ _ _ h => h) (Or.inl ⟨by rfl, fun w hSw => ?hybm16⟩) (by assumption) ?rbm16
      case hybm16 => (try dsimp only at hSw); go_simp; (try with_reducible rfl)
      (try simp only [Act.put, List.setIfInBounds_toArray, List.set_cons_zero, List.set_cons_succ])
      refine wpAnyH_take (i := 18) (oi := ({ dst := some 121, op := Op.fieldAddr 36 (Operand.tmp 1) 1, type := 0, pos := "help.go:118", after := #[{ on := 10, ground := Ground.guard }], guard := some (10, false) } : Oper)) (v := ?vbm17) rfl (by kernel_rfl) (by kernel_rfl) (by kernel_rfl) (fun _ _ _ h => h) (Or.inl ⟨by rfl, fun w hSw => ?hybm17⟩) (by assumption) ?rbm17
      case hybm17 => (try dsimp only at hSw); go_simp; (try with_reducible rfl)
      (try simp only [Act.put, List.setIfInBounds_toArray, List.set_cons_zero, List.set_cons_succ])
      refine wpAnyH_take (i := 19) (oi := ({ dst := some 122, op := Op.load 34 (Operand.tmp 121), type := 34, pos := "help.go:118", after := #[{ on := 18, ground := Ground.data }, { on := 10, ground := Ground.guard }], guard := some (10, false) } : Oper)) (v := ?vbm18) rfl (by kernel_rfl) (by kernel_rfl) (by kernel_rfl) (fun _ _ _ h => h) (Or.inl ⟨by rfl, fun w hSw => ?hybm18⟩) (by assumption) ?rbm18
      case hybm18 => (try dsimp only at hSw); go_simp; (try with_reducible rfl)
      (try simp only [Act.put, List.setIfInBounds_toArray, List.set_cons_zero, List.set_cons_succ])
      refine wpAnyH_take (i := 20) (oi := ({ dst := some 123, op := Op.nilCheck (Operand.tmp 122), type := 0, pos := "help.go:118", after := #[{ on := 19, ground := Ground.data }, { on := 10, ground := Ground.guard }], guard := some (10, false) } : Oper)) (v := ?vbm19) rfl (by kernel_rfl) (by kernel_rfl) (by kernel_rfl) (fun _ _ _ h => h) (Or.inl ⟨by rfl, fun w hSw => ?hybm19⟩) (by assumption) ?rbm19
      case hybm19 => (try dsimp only at hSw); go_simp; (try with_reducible rfl)
      (try simp only [Act.put, List.setIfInBounds_toArray, List.set_cons_zero, List.set_cons_succ])
      refine wpAnyH_take (i := 21) (oi := ({ dst := some 124, op := Op.fieldAddr 107 (Operand.tmp 123) 2, type := 0, pos := "help.go:118", after := #[{ on := 20, ground := Ground.data }, { on := 10, ground := Ground.guard }], guard := some (10, false) } : Oper)) (v := ?vbm20) rfl (by kernel_rfl) (by kernel_rfl) (by kernel_rfl) (fun _ _ _ h => h) (Or.inl ⟨by rfl, fun w hSw => ?hybm20⟩) (by assumption) ?rbm20
      case hybm20 => (try dsimp only at hSw); go_simp; (try with_reducible rfl)
      (try simp only [Act.put, List.setIfInBounds_toArray, List.set_cons_zero, List.set_cons_succ])
      refine wpAnyH_take (i := 22) (oi := ({ dst := some 125, op := Op.load 102 (Operand.tmp 124), type := 102, pos := "help.go:118", after := #[{ on := 21, ground := Ground.data }, { on := 10, ground := Ground.guard }], guard := some (10, false) } : Oper)) (v := ?vbm21) rfl (by kernel_rfl) (by kernel_rfl) (by kernel_rfl) (fun _ _ _ h => h) (Or.inl ⟨by rfl, fun w hSw => ?hybm21⟩) (by assumption) ?rbm21
      case hybm21 => (try dsimp only at hSw); go_simp; (try with_reducible rfl)
      (try simp only [Act.put, List.setIfInBounds_toArray, List.set_cons_zero, List.set_cons_succ])
      refine wpAnyH_take (i := 23) (oi := ({ dst := some 126, op := Op.move (Operand.tmp 3), type := 3, pos := "help.go:118", after := #[{ on := 10, ground := Ground.guard }], guard := some (10, false) } : Oper)) (v := ?vbm22) rfl (by kernel_rfl) (by kernel_rfl) (by kernel_rfl) (fun _ _ _ h => h) (Or.inl ⟨by rfl, fun w hSw => ?hybm22⟩) (by assumption) ?rbm22
      case hybm22 => (try dsimp only at hSw); go_simp; (try with_reducible rfl)
      (try simp only [Act.put, List.setIfInBounds_toArray, List.set_cons_zero, List.set_cons_succ])
      refine wpAnyH_ready (rs := [17]) (by kernel_rfl) (by simp) ?_
      refine AllReadyH.cons (o := ({ dst := some 120, op := Op.call { callee := Callee.value (Operand.func 67), args := #[Operand.tmp 118, Operand.tmp 119, Operand.const (Value.int IntKind.u64 0)], argTypes := #[83, 3, 22] }, type := 4, pos := "help.go:118", after := #[{ on := 15, ground := Ground.data }, { on := 16, ground := Ground.data }, { on := 10, ground := Ground.chain }, { on := 10, ground := Ground.guard }], guard := some (10, false) } : Oper)) rfl (fun Kq hKq => ?_) AllReadyH.nil
      go_simp
      (refine (HGO0.out _ hHeld.1).mono ?_; rintro e w3 ⟨rfl, hb⟩)
      refine hKq.out _ _ ?_ (fun hHeld => ?_)
      · exact SbF.new hHeld hb
      clear hKq Kq
      (try simp only [Act.put, List.setIfInBounds_toArray, List.set_cons_zero, List.set_cons_succ])
      refine wpAnyH_ready (rs := [24]) (by kernel_rfl) (by simp) ?_
      refine AllReadyH.cons (o := ({ dst := some 127, op := Op.call { callee := Callee.value (Operand.func 68), args := #[Operand.tmp 125, Operand.tmp 126, Operand.const (Value.int IntKind.u64 0)], argTypes := #[102, 3, 22] }, type := 4, pos := "help.go:118", after := #[{ on := 22, ground := Ground.data }, { on := 23, ground := Ground.data }, { on := 17, ground := Ground.chain }, { on := 10, ground := Ground.guard }], guard := some (10, false) } : Oper)) rfl (fun Kq hKq => ?_) AllReadyH.nil
      go_simp
      (refine (HRG0.out _ hHeld.1).mono ?_; rintro e w3 ⟨rfl, hb⟩)
      refine hKq.out _ _ ?_ (fun hHeld => ?_)
      · exact SbF.new hHeld hb
      clear hKq Kq
      (try simp only [Act.put, List.setIfInBounds_toArray, List.set_cons_zero, List.set_cons_succ])
      refine wpAnyH_take (i := 25) (oi := ({ dst := some 128, op := Op.binOp BinOp.neq 4 (Operand.tmp 120) (Operand.tmp 127) 4, type := 4, pos := "help.go:118", after := #[{ on := 17, ground := Ground.data }, { on := 24, ground := Ground.data }, { on := 10, ground := Ground.guard }], guard := some (10, false) } : Oper)) (v := ?vbm23) rfl (by kernel_rfl) (by kernel_rfl) (by kernel_rfl) (fun _ _ _ h => h) (Or.inl ⟨by rfl, fun w hSw => ?hybm23⟩) (by assumption) ?rbm23
      case hybm23 => (try dsimp only at hSw); go_simp; (try with_reducible rfl)
      (try simp only [Act.put, List.setIfInBounds_toArray, List.set_cons_zero, List.set_cons_succ])
      refine wpAnyH_take (i := 26) (oi := ({ dst := some 129, op := Op.pick (Operand.tmp 113) (Operand.const (Value.bool true)) (Operand.tmp 128), type := 4, pos := "help.go:118", after := #[{ on := 10, ground := Ground.data }, { on := 25, ground := Ground.data }], guard := none } : Oper)) (v := ?vbm24) rfl (by kernel_rfl) (by kernel_rfl) (by kernel_rfl) (fun _ _ _ h => h) (Or.inl ⟨by rfl, fun w hSw => ?hybm24⟩) (by assumption) ?rbm24
      case hybm24 => (try dsimp only at hSw); go_simp; (try with_reducible rfl)
      (try simp only [Act.put, List.setIfInBounds_toArray, List.set_cons_zero, List.set_cons_succ])
      refine wpAnyH_take (i := 27) (oi := ({ dst := some 130, op := Op.move (Operand.tmp 129), type := 4, pos := "help.go:118", after := #[{ on := 26, ground := Ground.data }, { on := 24, ground := Ground.chain }], guard := none } : Oper)) (v := ?vbm25) rfl (by kernel_rfl) (by kernel_rfl) (by kernel_rfl) (fun _ _ _ h => h) (Or.inl ⟨by rfl, fun w hSw => ?hybm25⟩) (by assumption) ?rbm25
      case hybm25 => (try dsimp only at hSw); go_simp; (try with_reducible rfl)
      (try simp only [Act.put, List.setIfInBounds_toArray, List.set_cons_zero, List.set_cons_succ])
      refine wpAnyH_take (i := 28) (oi := ({ dst := some 131, op := Op.fieldAddr 36 (Operand.tmp 1) 0, type := 0, pos := "help.go:118", after := #[{ on := 27, ground := Ground.guard }], guard := some (27, false) } : Oper)) (v := ?vbm26) rfl (by kernel_rfl) (by kernel_rfl) (by kernel_rfl) (fun _ _ _ h => h) (Or.inl ⟨by rfl, fun w hSw => ?hybm26⟩) (by assumption) ?rbm26
      case hybm26 => (try dsimp only at hSw); go_simp; (try with_reducible rfl)
      (try simp only [Act.put, List.setIfInBounds_toArray, List.set_cons_zero, List.set_cons_succ])
      refine wpAnyH_take (i := 29) (oi := ({ dst := some 132, op := Op.load 33 (Operand.tmp 131), type := 33, pos := "help.go:118", after := #[{ on := 28, ground := Ground.data }, { on := 27, ground := Ground.guard }], guard := some (27, false) } : Oper)) (v := ?vbm27) rfl (by kernel_rfl) (by kernel_rfl) (by kernel_rfl) (fun _ _ _ h => h) (Or.inl ⟨by rfl, fun w hSw => ?hybm27⟩) (by assumption) ?rbm27
      case hybm27 => (try dsimp only at hSw); go_simp; (try with_reducible rfl)
      (try simp only [Act.put, List.setIfInBounds_toArray, List.set_cons_zero, List.set_cons_succ])
      refine wpAnyH_take (i := 30) (oi := ({ dst := some 133, op := Op.nilCheck (Operand.tmp 132), type := 0, pos := "help.go:118", after := #[{ on := 29, ground := Ground.data }, { on := 27, ground := Ground.guard }], guard := some (27, false) } : Oper)) (v := ?vbm28) rfl (by kernel_rfl) (by kernel_rfl) (by kernel_rfl) (fun _ _ _ h => h) (Or.inl ⟨by rfl, fun w hSw => ?hybm28⟩) (by assumption) ?rbm28
      case hybm28 => (try dsimp only at hSw); go_simp; (try with_reducible rfl)
      (try simp only [Act.put, List.setIfInBounds_toArray, List.set_cons_zero, List.set_cons_succ])
      refine wpAnyH_take (i := 31) (oi := ({ dst := some 134, op := Op.fieldAddr 89 (Operand.tmp 133) 2, type := 0, pos := "help.go:118", after := #[{ on := 30, ground := Ground.data }, { on := 27, ground := Ground.guard }], guard := some (27, false) } : Oper)) (v := ?vbm29) rfl (by kernel_rfl) (by kernel_rfl) (by kernel_rfl) (fun _ _ _ h => h) (Or.inl ⟨by rfl, fun w hSw => ?hybm29⟩) (by assumption) ?rbm29
      case hybm29 => (try dsimp only at hSw); go_simp; (try with_reducible rfl)
      (try simp only [Act.put, List.setIfInBounds_toArray, List.set_cons_zero, List.set_cons_succ])
      refine wpAnyH_take (i := 32) (oi := ({ dst := some 135, op := Op.load 83 (Operand.tmp 134), type := 83, pos := "help.go:118", after := #[{ on := 31, ground := Ground.data }, { on := 27, ground := Ground.guard }], guard := some (27, false) } : Oper)) (v := ?vbm30) rfl (by kernel_rfl) (by kernel_rfl) (by kernel_rfl) (fun _ _ _ h => h) (Or.inl ⟨by rfl, fun w hSw => ?hybm30⟩) (by assumption) ?rbm30
      case hybm30 => (try dsimp only at hSw); go_simp; (try with_reducible rfl)
      (try simp only [Act.put, List.setIfInBounds_toArray, List.set_cons_zero, List.set_cons_succ])
      refine wpAnyH_take (i := 33) (oi := ({ dst := some 136, op := Op.move (Operand.tmp 3), type := 3, pos := "help.go:118", after := #[{ on := 27, ground := Ground.guard }], guard := some (27, false) } : Oper)) (v := ?vbm31) rfl (by kernel_rfl) (by kernel_rfl) (by kernel_rfl) (fun _ _ _ h => h) (Or.inl ⟨by rfl, fun w hSw => ?hybm31⟩) (by assumption) ?rbm31
      case hybm31 => (try dsimp only at hSw); go_simp; (try with_reducible rfl)
      (try simp only [Act.put, List.setIfInBounds_toArray, List.set_cons_zero, List.set_cons_succ])
      refine wpAnyH_take (i := 35) (oi := ({ dst := some 138, op := Op.fieldAddr 36 (Operand.tmp 1) 1, type := 0, pos := "help.go:118", after := #[{ on := 27, ground := Ground.guard }], guard := some (27, false) } : Oper)) (v := ?vbm32) rfl (by kernel_rfl) (by kernel_rfl) (by kernel_rfl) (fun _ _ _ h => h) (Or.inl ⟨by rfl, fun w hSw => ?hybm32⟩) (by assumption) ?rbm32
      case hybm32 => (try dsimp only at hSw); go_simp; (try with_reducible rfl)
      (try simp only [Act.put, List.setIfInBounds_toArray, List.set_cons_zero, List.set_cons_succ])
      refine wpAnyH_take (i := 36) (oi := ({ dst := some 139, op := Op.load 34 (Operand.tmp 138), type := 34, pos := "help.go:118", after := #[{ on := 35, ground := Ground.data }, { on := 27, ground := Ground.guard }], guard := some (27, false) } : Oper)) (v := ?vbm33) rfl (by kernel_rfl) (by kernel_rfl) (by kernel_rfl) (fun _ _ _ h => h) (Or.inl ⟨by rfl, fun w hSw => ?hybm33⟩) (by assumption) ?rbm33
      case hybm33 => (try dsimp only at hSw); go_simp; (try with_reducible rfl)
      (try simp only [Act.put, List.setIfInBounds_toArray, List.set_cons_zero, List.set_cons_succ])
      refine wpAnyH_take (i := 37) (oi := ({ dst := some 140, op := Op.nilCheck (Operand.tmp 139), type := 0, pos := "help.go:118", after := #[{ on := 36, ground := Ground.data }, { on := 27, ground := Ground.guard }], guard := some (27, false) } : Oper)) (v := ?vbm34) rfl (by kernel_rfl) (by kernel_rfl) (by kernel_rfl) (fun _ _ _ h => h) (Or.inl ⟨by rfl, fun w hSw => ?hybm34⟩) (by assumption) ?rbm34
      case hybm34 => (try dsimp only at hSw); go_simp; (try with_reducible rfl)
      (try simp only [Act.put, List.setIfInBounds_toArray, List.set_cons_zero, List.set_cons_succ])
      refine wpAnyH_take (i := 38) (oi := ({ dst := some 141, op := Op.fieldAddr 107 (Operand.tmp 140) 2, type := 0, pos := "help.go:118", after := #[{ on := 37, ground := Ground.data }, { on := 27, ground := Ground.guard }], guard := some (27, false) } : Oper)) (v := ?vbm35) rfl (by kernel_rfl) (by kernel_rfl) (by kernel_rfl) (fun _ _ _ h => h) (Or.inl ⟨by rfl, fun w hSw => ?hybm35⟩) (by assumption) ?rbm35
      case hybm35 => (try dsimp only at hSw); go_simp; (try with_reducible rfl)
      (try simp only [Act.put, List.setIfInBounds_toArray, List.set_cons_zero, List.set_cons_succ])
      refine wpAnyH_take (i := 39) (oi := ({ dst := some 142, op := Op.load 102 (Operand.tmp 141), type := 102, pos := "help.go:118", after := #[{ on := 38, ground := Ground.data }, { on := 27, ground := Ground.guard }], guard := some (27, false) } : Oper)) (v := ?vbm36) rfl (by kernel_rfl) (by kernel_rfl) (by kernel_rfl) (fun _ _ _ h => h) (Or.inl ⟨by rfl, fun w hSw => ?hybm36⟩) (by assumption) ?rbm36
      case hybm36 => (try dsimp only at hSw); go_simp; (try with_reducible rfl)
      (try simp only [Act.put, List.setIfInBounds_toArray, List.set_cons_zero, List.set_cons_succ])
      refine wpAnyH_take (i := 40) (oi := ({ dst := some 143, op := Op.move (Operand.tmp 3), type := 3, pos := "help.go:118", after := #[{ on := 27, ground := Ground.guard }], guard := some (27, false) } : Oper)) (v := ?vbm37) rfl (by kernel_rfl) (by kernel_rfl) (by kernel_rfl) (fun _ _ _ h => h) (Or.inl ⟨by rfl, fun w hSw => ?hybm37⟩) (by assumption) ?rbm37
      case hybm37 => (try dsimp only at hSw); go_simp; (try with_reducible rfl)
      (try simp only [Act.put, List.setIfInBounds_toArray, List.set_cons_zero, List.set_cons_succ])
      refine wpAnyH_ready (rs := [34]) (by kernel_rfl) (by simp) ?_
      refine AllReadyH.cons (o := ({ dst := some 137, op := Op.call { callee := Callee.value (Operand.func 67), args := #[Operand.tmp 135, Operand.tmp 136, Operand.const (Value.int IntKind.u64 18446744073709551615)], argTypes := #[83, 3, 22] }, type := 4, pos := "help.go:118", after := #[{ on := 32, ground := Ground.data }, { on := 33, ground := Ground.data }, { on := 27, ground := Ground.chain }, { on := 27, ground := Ground.guard }], guard := some (27, false) } : Oper)) rfl (fun Kq hKq => ?_) AllReadyH.nil
      go_simp
      (refine (HGO1.out _ hHeld.1).mono ?_; rintro e w3 ⟨rfl, hb⟩)
      refine hKq.out _ _ ?_ (fun hHeld => ?_)
      · exact SbF.new hHeld hb
      clear hKq Kq
      (try simp only [Act.put, List.setIfInBounds_toArray, List.set_cons_zero, List.set_cons_succ])
      refine wpAnyH_ready (rs := [41]) (by kernel_rfl) (by simp) ?_
      refine AllReadyH.cons (o := ({ dst := some 144, op := Op.call { callee := Callee.value (Operand.func 68), args := #[Operand.tmp 142, Operand.tmp 143, Operand.const (Value.int IntKind.u64 18446744073709551615)], argTypes := #[102, 3, 22] }, type := 4, pos := "help.go:118", after := #[{ on := 39, ground := Ground.data }, { on := 40, ground := Ground.data }, { on := 34, ground := Ground.chain }, { on := 27, ground := Ground.guard }], guard := some (27, false) } : Oper)) rfl (fun Kq hKq => ?_) AllReadyH.nil
      go_simp
      (refine (HRG1.out _ hHeld.1).mono ?_; rintro e w3 ⟨rfl, hb⟩)
      refine hKq.out _ _ ?_ (fun hHeld => ?_)
      · exact SbF.new hHeld hb
      clear hKq Kq
      (try simp only [Act.put, List.setIfInBounds_toArray, List.set_cons_zero, List.set_cons_succ])
      refine wpAnyH_take (i := 42) (oi := ({ dst := some 145, op := Op.binOp BinOp.neq 4 (Operand.tmp 137) (Operand.tmp 144) 4, type := 4, pos := "help.go:118", after := #[{ on := 34, ground := Ground.data }, { on := 41, ground := Ground.data }, { on := 27, ground := Ground.guard }], guard := some (27, false) } : Oper)) (v := ?vbm38) rfl (by kernel_rfl) (by kernel_rfl) (by kernel_rfl) (fun _ _ _ h => h) (Or.inl ⟨by rfl, fun w hSw => ?hybm38⟩) (by assumption) ?rbm38
      case hybm38 => (try dsimp only at hSw); go_simp; (try with_reducible rfl)
      (try simp only [Act.put, List.setIfInBounds_toArray, List.set_cons_zero, List.set_cons_succ])
      refine wpAnyH_take (i := 43) (oi := ({ dst := some 146, op := Op.pick (Operand.tmp 130) (Operand.const (Value.bool true)) (Operand.tmp 145), type := 4, pos := "help.go:118", after := #[{ on := 27, ground := Ground.data }, { on := 42, ground := Ground.data }], guard := none } : Oper)) (v := ?vbm39) rfl (by kernel_rfl) (by kernel_rfl) (by kernel_rfl) (fun _ _ _ h => h) (Or.inl ⟨by rfl, fun w hSw => ?hybm39⟩) (by assumption) ?rbm39
      case hybm39 => (try dsimp only at hSw); go_simp; (try with_reducible rfl)
      (try simp only [Act.put, List.setIfInBounds_toArray, List.set_cons_zero, List.set_cons_succ])
      refine wpAnyH_done (by kernel_rfl) ?_ _
      have HB9 := Lib.hid hHeld.1
      clear hHeld HASI HGO0 HGO1 HRG0 HRG1 HF7 HBY HBR
      go_wp2_with fail
      go_roundg (128 - (i + 1))
      case measure => have := HI.out; omega
      case rel => exact ⟨i + 1, by have := HI.out; omega, rfl, by go_num, HB9.out⟩
    · obtain rfl : i = 128 := by omega
      have HB4 := Lib.hid hb
      clear hb h3 e0 b0 b1 hi hi8
      go_wp2_with fail
      go_loopg [5, 6, 7, 8, 9] 64 (fun q s5 s6 s7 s8 s9 wx => ∃ i : Nat, i ≤ 64 ∧ q = 64 - i ∧ s5 = .int .i64 (i : Int) ∧ Below w2.heap.size w2 wx)
      case atStart => exact ⟨0, by omega, rfl, rfl, HB4.out⟩
      case round =>
        obtain ⟨i, hi, rfl, rfl, hb⟩ := hrel
        have h3 := H2.out.new hb
        have e0 := (hb.block B0 (Array.getElem?_eq_some_iff.1 HQ0.out).1).trans HQ0.out
        have b0 := cell_row e0 0; have b1 := cell_row e0 1
        simp only [List.getElem?_toArray, List.getElem?_cons_zero, List.getElem?_cons_succ] at b0 b1
        by_cases hi6 : i < 64
        · have hra : ∀ W, Below w2.heap.size w2 W → Calls Tryz.prog 69 #[Pw Y.lB, .int .i64 (i : Int)] W fun e w' => e = .returned (S5.lnk3 X.lk i) ∧ Below W.heap.size W w' := fun W q => by
            have := S5.rat_yes (H2.out.new q).pr.rlinks i hi6
            rwa [← HE.out.2] at this
          have hat := fun (W : World) (q : Below w2.heap.size w2 W) => S5.at_yes (H2.out.new q).pr.pw.links i hi6
          unfold S5.lnk3 at hra
          unfold S5.lnk at hat
          generalize (X.lk (i * 3) : Int) - 1 = v0 at *
          generalize (X.lk (i * 3 + 1) : Int) - 1 = v1 at *
          generalize (X.lk (i * 3 + 2) : Int) - 1 = v2 at *
          have r3 := h3.pr.r3
          rw [h3.rB] at r3
          obtain ⟨lB, hlB⟩ : ∃ x, x = X.lB := ⟨_, rfl⟩
          obtain ⟨rlB, hrlB⟩ : ∃ x, x = Y.lB := ⟨_, rfl⟩
          rw [← hrlB] at hra r3; rw [← hlB] at hat
          have d1 : (i : Int) < 64 := by omega
          have HRA := Lib.hid hra; have HAT := Lib.hid hat
          have HB5 := Lib.hid hb; have HI := Lib.hid hi6
          have HX3 : Hid (∀ W, Below w2.heap.size w2 W → W.cell? ⟨WB, 3, none⟩ = some (Pw lB) ∧ W.cell? ⟨B0, 0, none⟩ = some (Pw WB)) := Lib.hid (fun W q => by
            have g := H2.out.new q
            have x := g.pr.pw.c3
            rw [g.wB, ← hlB] at x
            have e := (q.block B0 (Array.getElem?_eq_some_iff.1 HQ0.out).1).trans HQ0.out
            exact ⟨x, cell_row e 0⟩)
          clear hra hat h3 e0 hb hi6 hi hlB hrlB
          go_upto_region 13 with (go_at_call 69; refine (HRA.out _ HB5.out).mono ?_; rintro e w5 ⟨rfl, hb5⟩)
          have HB6 := Lib.hid (HB5.out.trans (hb5.mono HB5.out.size))
          obtain ⟨x3, x0⟩ := HX3.out _ HB6.out
          clear hb5 b0 b1 r3
          go_upto_region 14 with (go_at_call 70; refine (HAT.out _ HB6.out).mono ?_; rintro e w6 ⟨rfl, hb6⟩)
          have hnx := heap_alloc_new w6 (.cells #[.int .i64 v0, .int .i64 v1, .int .i64 v2] 172)
          have hby := below1 w6 (.cells #[.int .i64 v0, .int .i64 v1, .int .i64 v2] 172)
          have HB7 := Lib.hid (HB6.out.trans ((hb6.mono HB6.out.size).trans (hby.mono (Nat.le_trans HB6.out.size hb6.size))))
          have y0 := cell_row hnx 0; have y1 := cell_row hnx 1; have y2 := cell_row hnx 2
          simp only [List.getElem?_toArray, List.getElem?_cons_zero, List.getElem?_cons_succ] at y0 y1 y2
          clear hnx hby hb6 x3 x0
          generalize w6.alloc (.cells #[.int .i64 v0, .int .i64 v1, .int .i64 v2] 172) = w7 at *
          generalize w6.heap.size = Bl at *
          go_wp2_with fail
          go_roundg (64 - (i + 1))
          case measure => have := HI.out; omega
          case rel => exact ⟨i + 1, by have := HI.out; omega, rfl, by go_num, HB7.out⟩
        · obtain rfl : i = 64 := by omega
          go_wp2_with fail
          go_ret
          exact ⟨rfl, HB1.out.trans (hb.mono HB1.out.size)⟩
end Go.Proofs.YtlflagjnlclffaaGreat.S12
namespace Go.Proofs.YtlflagjnlclffaaGreat.S13
open Go.Proofs.YtlflagjnlclffaaGreat Go.Proofs.YtlflagjnlclffaaGreat.S11 Go.Proofs.YtlflagjnlclffaaGreat.S12
open Go.RowKit

structure Ap where
  k : Nat
  i : Nat
  t : Int
  a : Nat
  sa : Nat
  sv : Nat
  p : Int
def Ap.cs (y : Ap) : Array Value := #[.int .u8 (y.k : Int), .int .u8 (y.i : Int), .int .i64 y.t, .int .u32 (y.a : Int), .int .u32 (y.sa : Int), .int .u64 (y.sv : Int), .int .i64 y.p]
structure ApOk (y : Ap) : Prop where
  k : y.k < 256
  i : y.i < 256
  a : y.a < 4294967296
  sa : y.sa < 4294967296
  sv : y.sv < 18446744073709551616
def ApIn (w : World) (base : Nat) (A : Option Addr) (n : Nat) (F : Nat → Ap) : Prop := 0 < n → ∃ g o, A = some ⟨g, o, none⟩ ∧ g < base ∧ ∀ i, i < n → ApOk (F i) ∧ ∀ j u, (F i).cs[j]? = some u → w.cell? ⟨g, o + i * 7 + j, none⟩ = some u
def pre (PB WB RB base : Nat) (v : Value) (L : List O3) : List Part := [blockP PB (.cells #[Pw WB, Pw RB] 36), rowP base 2 v L.length (lcs L)]
structure PI (w0 wx : World) (base PB WB RB N c0 i : Nat) (v : Value) (L : List O3) : Prop where
  bg : ∃ tn M X Y, Bg w0 wx base WB RB N (c0 + 2 * i) tn M M (pre PB WB RB base v L ++ lparts L) X Y
  ok : ∀ o ∈ L, KOk o.2.2
  le : L.length ≤ i
section
variable {w0 w w' : World} {base PB WB RB N cn tn : Nat} {M : Sd} {X : Wm} {Y : Rm} {v : Value} {L : List O3} {R : List Part}
theorem Bg.pair (h : Bg w0 w base WB RB N cn tn M M (pre PB WB RB base v L ++ R) X Y) : w.heap[PB]? = some (.cells #[Pw WB, Pw RB] 36 (0, 0)) :=
  h.pr.ok 14 (blockP PB (.cells #[Pw WB, Pw RB] 36)) rfl
theorem Bg.row (h : Bg w0 w base WB RB N cn tn M M (pre PB WB RB base v L ++ R) X Y) : S10.Row w base 2 v L.length (lcs L) :=
  h.pr.ok 15 (rowP base 2 v L.length (lcs L)) rfl
theorem bg_row (h : Bg w0 w base WB RB N cn tn M M (pre PB WB RB base v L ++ R) X Y) {v' : Value} {L' : List O3} (hr : S10.Row w' base 2 v' L'.length (lcs L')) (t : S10.Turns (fun k => v.ownBlock = some k) w w') (ho : v'.ownBlock = v.ownBlock ∨ v'.ownBlock = some w.heap.size) :
    Bg w0 w' base WB RB N cn tn M M (pre PB WB RB base v' L' ++ R) X Y := by
  obtain ⟨hp, hb⟩ := Parts.turn h.pr (i := 15) (p := rowP base 2 v L.length (lcs L)) rfl (rowP base 2 v' L'.length (lcs L')) hr ⟨t.os, t.tape, t.output, t.size, t.block⟩ (fun k e => by
    rcases ho with e2 | e2
    · exact .inl (by show v.ownBlock = some k; rw [← e2]; exact e)
    · exact .inr (by have : some k = some w.heap.size := by rw [← e2]; exact e.symm
                     exact Nat.le_of_eq (Option.some.inj this).symm))
  exact { h with pr := hp, rb := Nat.le_trans h.rb t.size, bl := h.bl.trans hb }
theorem pre_set (P : List Part) (T : List Part) {i : Nat} {o : O3} {K : Lk} (h : L[i]? = some o) (hK : K = K) :
    ((P ++ (lparts L ++ T)).set (P.length + (2 * i + 1)) (lockRP o.2.1 K)).set (P.length + 2 * i) (lockP o.1 K) = P ++ (lparts (L.set i (o.1, o.2.1, K)) ++ T) := by
  obtain ⟨g1, g2, _, _⟩ := lparts_get L i o h
  have l1 := (List.getElem?_eq_some_iff.1 g1).1
  have l2 := (List.getElem?_eq_some_iff.1 g2).1
  rw [set_mid, set_mid, List.set_append_left _ _ l2, List.set_append_left _ _ (by rw [List.length_set]; exact l1), (lparts_set L i o K h).1]
end
end Go.Proofs.YtlflagjnlclffaaGreat.S13
namespace Go.Proofs.YtlflagjnlclffaaGreat.S12
open Go.Proofs.YtlflagjnlclffaaGreat Go.Proofs.YtlflagjnlclffaaGreat.S11
open Go.RowKit

def GIn (w : World) (base : Nat) (p : Option Addr) (n : Nat) (G : Nat → Int) : Prop := 0 < n → ∃ lb lo, p = some ⟨lb, lo, none⟩ ∧ lb < base ∧ ∀ i, i < n → w.cell? ⟨lb, lo + i, none⟩ = some (.int .i64 (G i))
structure Qu where
  b : Int
  i : Int
  A : Option Addr
  c : Nat
  D : List S10.Ent
  ta : Int
  tf : Int
instance : Inhabited Qu := ⟨⟨0, 0, none, 0, [], 0, 0⟩⟩
def QIn (w : World) (base : Nat) (p : Option Addr) (n : Nat) (Q : Nat → Qu) : Prop := 0 < n → ∃ lb lo, p = some ⟨lb, lo, none⟩ ∧ lb < base ∧ ∀ i, i < n → w.cell? ⟨lb, lo + i * 5, none⟩ = some (.int .i64 (Q i).b) ∧ w.cell? ⟨lb, lo + i * 5 + 1, none⟩ = some (.int .i64 (Q i).i) ∧ w.cell? ⟨lb, lo + i * 5 + 2, none⟩ = some (.slice (Q i).A (Q i).D.length (Q i).c) ∧ w.cell? ⟨lb, lo + i * 5 + 3, none⟩ = some (.int .u64 (Q i).ta) ∧ w.cell? ⟨lb, lo + i * 5 + 4, none⟩ = some (.int .u64 (Q i).tf)
structure QOk (w : World) (base : Nat) (q : Qu) : Prop where
  b : S10.InI q.b
  le : q.D.length ≤ q.c
  c : q.c ≤ 9223372036854775807
  rd : S10.Rd w base q.A (S10.flat q.D)
  keys : S10.Keys q.D
theorem GIn.below {w w' : World} {base b : Nat} {p : Option Addr} {n : Nat} {G : Nat → Int} (h : GIn w base p n G) (hb : Below b w w') (hbb : base ≤ b) : GIn w' base p n G := fun h0 => by
  obtain ⟨lb, lo, e, hl, hc⟩ := h h0
  exact ⟨lb, lo, e, hl, fun i hi => (hb.cell (p := ⟨lb, lo + i, none⟩) (Nat.lt_of_lt_of_le hl hbb)).trans (hc i hi)⟩
theorem QIn.below {w w' : World} {base b : Nat} {p : Option Addr} {n : Nat} {Q : Nat → Qu} (h : QIn w base p n Q) (hb : Below b w w') (hbb : base ≤ b) : QIn w' base p n Q := fun h0 => by
  obtain ⟨lb, lo, e, hl, hc⟩ := h h0
  have k : ∀ j, w'.cell? ⟨lb, j, none⟩ = w.cell? ⟨lb, j, none⟩ := fun j => hb.cell (p := ⟨lb, j, none⟩) (Nat.lt_of_lt_of_le hl hbb)
  refine ⟨lb, lo, e, hl, fun i hi => ?_⟩
  obtain ⟨h1, h2, h3, h4, h5⟩ := hc i hi
  exact ⟨(k _).trans h1, (k _).trans h2, (k _).trans h3, (k _).trans h4, (k _).trans h5⟩
theorem QOk.below {w w' : World} {base b : Nat} {q : Qu} (h : QOk w base q) (hb : Below b w w') (hbb : base ≤ b) : QOk w' base q := ⟨h.b, h.le, h.c, h.rd.below hb hbb, h.keys⟩
section
variable {w0 w w' : World} {base WB RB N cn tn : Nat} {M RM : Sd} {E : List Part} {X : Wm} {Y : Rm}
theorem Bg.outside (h : Bg w0 w base WB RB N cn tn M RM E X Y) {S : Nat → Prop} (t : Turns S w w') (hs : ∀ k, S k → k < base) : Bg w' w' base WB RB N cn tn M RM E X Y :=
  { h with pr := Parts.kept h.pr t (fun i p hp k hk e => by have := h.pr.low i p hp k hk; have := hs k e; omega), rb := Nat.le_trans h.rb t.size, bl := Below.refl _ _ }
end
theorem Parts.rebase {w : World} {b b' : Nat} {l : List Part} (h : Parts w b l) (hb : b' ≤ b) : Parts w b' l :=
  ⟨Nat.le_trans hb h.size, h.ok, h.apart, fun i p hp k hk => Nat.le_trans hb (h.low i p hp k hk)⟩
structure BCut (w wx : World) (B0 B1 B2 B3 b1 : Nat) (fb : Array Value) (Y : Rm) (sp : Int) (mo : Nat) (D : List Nat) (A : Option Addr) (c : Nat) : Prop where
  p0 : wx.heap[B0]? = some (.cells fb 30 (0, 0))
  p1 : wx.heap[B1]? = some (.cells #[.pointer none, .pointer none] 36 (0, 0))
  p2 : wx.heap[B2]? = some (.cells #[.pointer none, Pw Y.wB] 36 (0, 0))
  p3 : wx.heap[B3]? = some (.cells #[.int .i64 sp, .int .u64 (mo : Int), .slice A D.length c] 25 (0, 0))
  py : Parts wx b1 Y.parts
  r0 : RAt0 Y sp mo D
  rb : Y.rb ≤ wx.heap.size
  ok : okC sp D.length = true
  dl : D.length ≤ c
  dc : c ≤ 9223372036854775807
  mm : mo ≤ 18446744073709551615
  rd : S3.Rd wx w.heap.size A D
  dd : ∀ d ∈ D, d ≤ 18446744073709551615
  bl : Below w.heap.size w wx
  sz : b1 ≤ wx.heap.size
set_option maxRecDepth 100000 in
set_option maxHeartbeats 8000000 in
theorem begin_any {w : World} {sp : Int} {mo dc sn sc gn gc qn qc tk : Nat} {dA sA gA qA : Option Addr} {D : List Nat} {SA SV : Nat → Nat} {G : Nat → Int} {Q : Nat → Qu}
    (hd : D.length ≤ 1048576) (hdl : D.length ≤ dc) (hdc : dc ≤ 9223372036854775807) (hmo : mo ≤ 18446744073709551615) (hrd : S3.Rd w w.heap.size dA D) (hdd : ∀ d ∈ D, d ≤ 18446744073709551615)
    (hsn : sn ≤ 1048576) (hsi : S2.WIn w w.heap.size sA sn SA SV) (hso : S2.WOk sn SA SV) (hgi : GIn w w.heap.size gA gn G) (hgo : ∀ i, i < gn → S10.InI (G i)) (hgn : gn ≤ 9223372036854775807) (hqi : QIn w w.heap.size qA qn Q) (hqo : ∀ i, i < qn → QOk w w.heap.size (Q i)) (hqn : qn ≤ 9223372036854775807) (htk : tk ≤ 18446744073709551615) :
    Calls Tryz.prog 7 #[.agg #[.int .i64 sp, .int .u64 (mo : Int), .slice dA D.length dc, .slice sA sn sc, .slice gA gn gc, .slice qA qn qc, .int .u64 (tk : Int)]] w fun e w' => ∃ M X Y, e = .returned (.agg #[Pw X.wB, Pw Y.wB]) ∧ Bg w w' w.heap.size X.wB Y.wB 1200 2097164 7 M M [] X Y := by
  have hbw : Below w.heap.size w ((((w.alloc (.cells #[.int .i64 sp, .int .u64 (mo : Int), .slice dA D.length dc, .slice sA sn sc, .slice gA gn gc, .slice qA qn qc, .int .u64 (tk : Int)] 30)).alloc (.cells #[.pointer none, .pointer none] 36)).alloc (.cells #[.pointer none, .pointer none] 36)).alloc (.cells #[.int .i64 sp, .int .u64 (mo : Int), .slice dA D.length dc] 25)) := ((((Below.refl _ _).alloc (Nat.le_refl _) _).alloc (by simp) _).alloc (by simp; omega) _).alloc (by simp; omega) _
  have h0 := heap_alloc_new w (.cells #[.int .i64 sp, .int .u64 (mo : Int), .slice dA D.length dc, .slice sA sn sc, .slice gA gn gc, .slice qA qn qc, .int .u64 (tk : Int)] 30)
  have h1 := heap_alloc_new (w.alloc (.cells #[.int .i64 sp, .int .u64 (mo : Int), .slice dA D.length dc, .slice sA sn sc, .slice gA gn gc, .slice qA qn qc, .int .u64 (tk : Int)] 30)) (.cells #[.pointer none, .pointer none] 36)
  have h2 := heap_alloc_new ((w.alloc (.cells #[.int .i64 sp, .int .u64 (mo : Int), .slice dA D.length dc, .slice sA sn sc, .slice gA gn gc, .slice qA qn qc, .int .u64 (tk : Int)] 30)).alloc (.cells #[.pointer none, .pointer none] 36)) (.cells #[.pointer none, .pointer none] 36)
  have h3 := heap_alloc_new (((w.alloc (.cells #[.int .i64 sp, .int .u64 (mo : Int), .slice dA D.length dc, .slice sA sn sc, .slice gA gn gc, .slice qA qn qc, .int .u64 (tk : Int)] 30)).alloc (.cells #[.pointer none, .pointer none] 36)).alloc (.cells #[.pointer none, .pointer none] 36)) (.cells #[.int .i64 sp, .int .u64 (mo : Int), .slice dA D.length dc] 25)
  have s1 : (w.alloc (.cells #[.int .i64 sp, .int .u64 (mo : Int), .slice dA D.length dc, .slice sA sn sc, .slice gA gn gc, .slice qA qn qc, .int .u64 (tk : Int)] 30)).heap.size = w.heap.size + 1 := by simp
  have s2 : ((w.alloc (.cells #[.int .i64 sp, .int .u64 (mo : Int), .slice dA D.length dc, .slice sA sn sc, .slice gA gn gc, .slice qA qn qc, .int .u64 (tk : Int)] 30)).alloc (.cells #[.pointer none, .pointer none] 36)).heap.size = w.heap.size + 2 := by simp
  have s3 : (((w.alloc (.cells #[.int .i64 sp, .int .u64 (mo : Int), .slice dA D.length dc, .slice sA sn sc, .slice gA gn gc, .slice qA qn qc, .int .u64 (tk : Int)] 30)).alloc (.cells #[.pointer none, .pointer none] 36)).alloc (.cells #[.pointer none, .pointer none] 36)).heap.size = w.heap.size + 3 := by simp
  have s4 : ((((w.alloc (.cells #[.int .i64 sp, .int .u64 (mo : Int), .slice dA D.length dc, .slice sA sn sc, .slice gA gn gc, .slice qA qn qc, .int .u64 (tk : Int)] 30)).alloc (.cells #[.pointer none, .pointer none] 36)).alloc (.cells #[.pointer none, .pointer none] 36)).alloc (.cells #[.int .i64 sp, .int .u64 (mo : Int), .slice dA D.length dc] 25)).heap.size = w.heap.size + 4 := by simp
  have u2 := fun (k : Nat) (hk : k < w.heap.size + 3) => (below1 (((w.alloc (.cells #[.int .i64 sp, .int .u64 (mo : Int), .slice dA D.length dc, .slice sA sn sc, .slice gA gn gc, .slice qA qn qc, .int .u64 (tk : Int)] 30)).alloc (.cells #[.pointer none, .pointer none] 36)).alloc (.cells #[.pointer none, .pointer none] 36)) (.cells #[.int .i64 sp, .int .u64 (mo : Int), .slice dA D.length dc] 25)).block k (by rw [s3]; exact hk)
  have u1 := fun (k : Nat) (hk : k < w.heap.size + 2) => (below1 ((w.alloc (.cells #[.int .i64 sp, .int .u64 (mo : Int), .slice dA D.length dc, .slice sA sn sc, .slice gA gn gc, .slice qA qn qc, .int .u64 (tk : Int)] 30)).alloc (.cells #[.pointer none, .pointer none] 36)) (.cells #[.pointer none, .pointer none] 36)).block k (by rw [s2]; exact hk)
  have u0 := fun (k : Nat) (hk : k < w.heap.size + 1) => (below1 (w.alloc (.cells #[.int .i64 sp, .int .u64 (mo : Int), .slice dA D.length dc, .slice sA sn sc, .slice gA gn gc, .slice qA qn qc, .int .u64 (tk : Int)] 30)) (.cells #[.pointer none, .pointer none] 36)).block k (by rw [s1]; exact hk)
  rw [s1] at h1
  rw [s2] at h2
  rw [s3] at h3
  have h2' := (u2 (w.heap.size + 2) (by omega)).trans h2
  have h1' := (u2 (w.heap.size + 1) (by omega)).trans ((u1 (w.heap.size + 1) (by omega)).trans h1)
  have h0' := (u2 w.heap.size (by omega)).trans ((u1 w.heap.size (by omega)).trans ((u0 w.heap.size (by omega)).trans h0))
  obtain ⟨B0, hB0⟩ : ∃ B0, B0 = w.heap.size := ⟨_, rfl⟩
  obtain ⟨B1, hB1⟩ : ∃ B1, B1 = w.heap.size + 1 := ⟨_, rfl⟩
  obtain ⟨B2, hB2⟩ : ∃ B2, B2 = w.heap.size + 2 := ⟨_, rfl⟩
  obtain ⟨B3, hB3⟩ : ∃ B3, B3 = w.heap.size + 3 := ⟨_, rfl⟩
  obtain ⟨b1, hb1⟩ : ∃ b1, b1 = w.heap.size + 4 := ⟨_, rfl⟩
  rw [← hB0] at h0'
  rw [← hB1] at h1'
  rw [← hB2] at h2'
  rw [← hB3] at h3
  rw [← hb1] at s4
  have HB := Lib.hid (And.intro hB0 (And.intro hB1 (And.intro hB2 (And.intro hB3 hb1))))
  have H0 := Lib.hid h0'; have H1 := Lib.hid h1'; have H2 := Lib.hid h2'; have H3 := Lib.hid h3; have HBW := Lib.hid hbw; have HS4 := Lib.hid s4
  have HDD := Lib.hid (And.intro hd (And.intro hdl (And.intro hdc (And.intro hmo (And.intro hrd hdd)))))
  have HSI := Lib.hid (And.intro hsn (And.intro hsi hso)); have HGI := Lib.hid (And.intro hgi (And.intro hgo hgn)); have HQI := Lib.hid (And.intro hqi (And.intro hqo hqn)); have HTK := Lib.hid htk
  clear h0 h1 h2 h3 h0' h1' h2' s1 s2 s3 s4 u0 u1 u2 hd hdl hdc hmo hrd hdd hsn hsi hso hgi hgo hgn hqi hqo hqn htk hbw
  go_enter Tryz.func7, Tryz.ntmps7
  go_upto_region 3 with (fail)
  rw [← hB0, show B0 + 1 = B1 by omega, show B1 + 1 = B2 by omega, show B2 + 1 = B3 by omega]
  generalize ((((w.alloc (.cells #[.int .i64 sp, .int .u64 (mo : Int), .slice dA D.length dc, .slice sA sn sc, .slice gA gn gc, .slice qA qn qc, .int .u64 (tk : Int)] 30)).alloc (.cells #[.pointer none, .pointer none] 36)).alloc (.cells #[.pointer none, .pointer none] 36)).alloc (.cells #[.int .i64 sp, .int .u64 (mo : Int), .slice dA D.length dc] 25)) = w1 at *
  have HLT : Hid (B0 < b1 ∧ B1 < b1 ∧ B2 < b1 ∧ B3 < b1 ∧ w.heap.size ≤ B0 ∧ w.heap.size ≤ B1 ∧ w.heap.size ≤ B2 ∧ w.heap.size ≤ B3 ∧ B0 ≠ B2 ∧ B1 ≠ B2 ∧ B3 ≠ B2 ∧ B0 ≠ B3 ∧ B1 ≠ B3) := Lib.hid (by omega)
  clear hB0 hB1 hB2 hB3 hb1 HB
  have c0 := cell_row H3.out 0; have c1 := cell_row H3.out 1; have c2 := cell_row H3.out 2
  have y1 := cell_row H2.out 1; have z1 := froz_row H2.out 1
  simp only [List.getElem?_toArray, List.getElem?_cons_zero, List.getElem?_cons_succ] at c0 c1 c2 y1
  have hrd1 := HDD.out.2.2.2.2.1.below HBW.out (Nat.le_refl _)
  have HRD1 := Lib.hid hrd1
  clear hrd1
  go_upto_region 4 with (first
    | (go_at_call 30; refine (S3.otherC_any sp (mo : Int) dc HRD1.out HBW.out.size (by have := HDD.out.1; omega)).mono ?_; rintro e wo ⟨Ao, co, rfl, hlo, hco, hro, hbo⟩;
       have HRN := Lib.hid (rnew_any (w := wo) sp mo co hlo hco HDD.out.2.2.2.1 hro.rd (Nat.le_refl _) HDD.out.2.2.2.2.2);
       have y1' := bcell hbo y1;
       have HBO := Lib.hid hbo; clear hro hbo)
    | (go_at_call 29; refine HRN.out.mono ?_; rintro e wr ⟨v, er, rfl, hre, hbr⟩;
       have HRE := Lib.hid hre; have HBR := Lib.hid (HBO.out.trans (hbr.mono HBO.out.size));
       have hq2 : wr.heap[B2]? = _ := (HBR.out.block B2 (by rw [HS4.out]; exact HLT.out.2.2.1)).trans H2.out;
       have y2 := cell_row hq2 1; have z2 := froz_row hq2 1; have HQ2 := Lib.hid hq2; clear hre hbr hq2))
  have hq2s : (wr.setCell ⟨B2, 1, none⟩ (.pointer v)).heap[B2]? = some (.cells #[.pointer none, .pointer v] 36 (0, 0)) := by
    have h' := HQ2.out
    simp [World.setCell, Array.getElem?_modify, h']
  have hts : Turns (fun k => k = B2) wr (wr.setCell ⟨B2, 1, none⟩ (.pointer v)) := (Turns.refl (fun k => k = B2) wr).setCell ⟨B2, 1, none⟩ _ rfl
  have hblk : ∀ k o, k < b1 → k ≠ B2 → w1.heap[k]? = some o → (wr.setCell ⟨B2, 1, none⟩ (.pointer v)).heap[k]? = some o := fun k o hk hne e =>
    (hts.block k (by have := HBR.out.size; have := HS4.out; omega) hne).trans ((HBR.out.block k (by rw [HS4.out]; exact hk)).trans e)
  have hq0s := hblk B0 _ HLT.out.1 HLT.out.2.2.2.2.2.2.2.2.1 H0.out
  have hq1s := hblk B1 _ HLT.out.2.1 HLT.out.2.2.2.2.2.2.2.2.2.1 H1.out
  have hq3s := hblk B3 _ HLT.out.2.2.2.1 HLT.out.2.2.2.2.2.2.2.2.2.2.1 H3.out
  have hbs : Below w.heap.size w (wr.setCell ⟨B2, 1, none⟩ (.pointer v)) := (HBW.out.trans (HBR.out.mono HBW.out.size)).setCell (p := ⟨B2, 1, none⟩) HLT.out.2.2.2.2.2.2.1 _
  have hszs : b1 ≤ (wr.setCell ⟨B2, 1, none⟩ (.pointer v)).heap.size := by have := hts.size; have := HBR.out.size; have := HS4.out; omega
  have hkeep : ∀ l, Parts wr wo.heap.size l → Parts (wr.setCell ⟨B2, 1, none⟩ (.pointer v)) b1 l := fun l hl => (hl.kept hts (fun i p hp k hk e => by have := hl.low i p hp k hk; have := HBO.out.size; have := HS4.out; have := HLT.out; omega)).rebase (by have := HBO.out.size; have := HS4.out; omega)
  have hsz2 := hts.size
  have HQ2S := Lib.hid hq2s; have HQ0S := Lib.hid hq0s; have HQ1S := Lib.hid hq1s; have HQ3S := Lib.hid hq3s; have HBS := Lib.hid hbs; have HSZS := Lib.hid hszs; have HKEEP := Lib.hid hkeep; have HSZ2 := Lib.hid hsz2
  clear hq2s hts hblk hq0s hq1s hq3s hbs hszs hkeep hsz2 c0 c1 c2 y1 z1 y1' y2 z2 HQ2
  generalize wr.setCell ⟨B2, 1, none⟩ (.pointer v) = ws at *
  have y1 := cell_row HQ2S.out 1
  simp only [List.getElem?_toArray, List.getElem?_cons_zero, List.getElem?_cons_succ] at y1
  go_upto_if 23 with (fail)
  clear y1
  go_cut [] (fun wx => ∃ Y sp' mo' D' A' c', BCut w wx B0 B1 B2 B3 b1 #[.int .i64 sp, .int .u64 (mo : Int), .slice dA D.length dc, .slice sA sn sc, .slice gA gn gc, .slice qA qn qc, .int .u64 (tk : Int)] Y sp' mo' D' A' c')
  case first =>
    rcases HRE.out with ⟨hok, rfl, Y, hv, py, r0, rb⟩ | ⟨hok, hv, rfl⟩
    · injection hv with hv
      subst hv
      have HPY := Lib.hid py; have HR0 := Lib.hid r0; have HRB := Lib.hid rb; have HOK := Lib.hid hok
      clear py r0 rb hok
      go_wp2_with fail
      go_meet
      exact ⟨Y, sp, mo, D, dA, dc, HQ0S.out, HQ1S.out, HQ2S.out, HQ3S.out, HKEEP.out _ HPY.out, HR0.out, Nat.le_trans HRB.out HSZ2.out, HOK.out, HDD.out.2.1, HDD.out.2.2.1, HDD.out.2.2.2.1, HDD.out.2.2.2.2.1.below HBS.out (Nat.le_refl _), HDD.out.2.2.2.2.2, HBS.out, HSZS.out⟩
    · injection hv with hv
      subst hv
      have x0 := cell_row HQ3S.out 0; have x1 := cell_row HQ3S.out 1; have x2 := cell_row HQ3S.out 2
      have f0 := froz_row HQ3S.out 0; have f1 := froz_row HQ3S.out 1; have f2 := froz_row HQ3S.out 2
      simp only [List.getElem?_toArray, List.getElem?_cons_zero, List.getElem?_cons_succ] at x0 x1 x2
      clear hok
      go_upto_region 6 with (fail)
      have e3 : (((ws.setCell ⟨B3, 0, none⟩ (.int .i64 0)).setCell ⟨B3, 1, none⟩ (.int .u64 0)).setCell ⟨B3, 2, none⟩ (.slice none 0 0)).heap[B3]? = some (.cells #[.int .i64 0, .int .u64 0, .slice none 0 0] 25 (0, 0)) := by
        have h' := HQ3S.out
        simp [World.setCell, Array.getElem?_modify, h']
      have tt : Turns (fun k => k = B3) ws (((ws.setCell ⟨B3, 0, none⟩ (.int .i64 0)).setCell ⟨B3, 1, none⟩ (.int .u64 0)).setCell ⟨B3, 2, none⟩ (.slice none 0 0)) := (((Turns.refl (fun k => k = B3) ws).setCell ⟨B3, 0, none⟩ _ rfl).setCell ⟨B3, 1, none⟩ _ rfl).setCell ⟨B3, 2, none⟩ _ rfl
      have hbe : Below w.heap.size w (((ws.setCell ⟨B3, 0, none⟩ (.int .i64 0)).setCell ⟨B3, 1, none⟩ (.int .u64 0)).setCell ⟨B3, 2, none⟩ (.slice none 0 0)) := (((HBS.out.setCell (p := ⟨B3, 0, none⟩) HLT.out.2.2.2.2.2.2.2.1 _).setCell (p := ⟨B3, 1, none⟩) HLT.out.2.2.2.2.2.2.2.1 _).setCell (p := ⟨B3, 2, none⟩) HLT.out.2.2.2.2.2.2.2.1 _)
      have hb_ : ∀ k o, k < b1 → k ≠ B3 → ws.heap[k]? = some o → (((ws.setCell ⟨B3, 0, none⟩ (.int .i64 0)).setCell ⟨B3, 1, none⟩ (.int .u64 0)).setCell ⟨B3, 2, none⟩ (.slice none 0 0)).heap[k]? = some o := fun k o hk hne e => (tt.block k (by have := HSZS.out; omega) hne).trans e
      have e0 := hb_ B0 _ HLT.out.1 HLT.out.2.2.2.2.2.2.2.2.2.2.2.1 HQ0S.out
      have e1 := hb_ B1 _ HLT.out.2.1 HLT.out.2.2.2.2.2.2.2.2.2.2.2.2 HQ1S.out
      have e2 := hb_ B2 _ HLT.out.2.2.1 (fun e => HLT.out.2.2.2.2.2.2.2.2.2.2.1 e.symm) HQ2S.out
      have HE0 := Lib.hid e0; have HE1 := Lib.hid e1; have HE2 := Lib.hid e2; have HE3 := Lib.hid e3; have HBE := Lib.hid hbe
      have HSE : Hid (b1 ≤ (((ws.setCell ⟨B3, 0, none⟩ (.int .i64 0)).setCell ⟨B3, 1, none⟩ (.int .u64 0)).setCell ⟨B3, 2, none⟩ (.slice none 0 0)).heap.size) := Lib.hid (Nat.le_trans HSZS.out tt.size)
      clear e0 e1 e2 e3 tt hbe hb_ x0 x1 x2 f0 f1 f2
      generalize (((ws.setCell ⟨B3, 0, none⟩ (.int .i64 0)).setCell ⟨B3, 1, none⟩ (.int .u64 0)).setCell ⟨B3, 2, none⟩ (.slice none 0 0)) = we at *
      have x0 := cell_row HE3.out 0; have x1 := cell_row HE3.out 1; have x2 := cell_row HE3.out 2
      have y1 := cell_row HE2.out 1; have z1 := froz_row HE2.out 1
      simp only [List.getElem?_toArray, List.getElem?_cons_zero, List.getElem?_cons_succ] at x0 x1 x2 y1
      have hoc : Calls Tryz.prog 30 #[.agg #[.int .i64 0, .int .u64 0, .slice none 0 0]] we fun e w' => S3.OthC we w' 0 0 [] e := S3.otherC_any (D := []) (b2 := 0) 0 0 0 S3.Rd.nil (Nat.zero_le _) (by simp)
      have HOC := Lib.hid hoc
      clear hoc
      go_wp2_with (first
        | (go_at_call 30; refine HOC.out.mono ?_; rintro e wo2 ⟨Ao2, co2, rfl, hlo2, hco2, hro2, hbo2⟩;
           have HRN2 := Lib.hid (show Calls Tryz.prog 29 #[.agg #[.int .i64 0, .int .u64 0, .slice Ao2 0 co2]] wo2 fun e w' => ∃ v er, e = .returned (.tuple #[.pointer v, .int .i64 er]) ∧ RNewE wo2 w' 0 0 [] (.pointer v) er ∧ Below wo2.heap.size wo2 w' from rnew_any (w := wo2) (D := []) 0 0 co2 hlo2 hco2 (by omega) hro2.rd (Nat.le_refl _) (fun d hd => by cases hd));
           have y1' := bcell hbo2 y1;
           have HBO2 := Lib.hid hbo2; clear hro2 hbo2)
        | (go_at_call 29; refine HRN2.out.mono ?_; rintro e wr2 ⟨v2, er2, rfl, hre2, hbr2⟩;
           have HRE2 := Lib.hid hre2; have HBR2 := Lib.hid (HBO2.out.trans (hbr2.mono HBO2.out.size));
           have hq2 : wr2.heap[B2]? = _ := (HBR2.out.block B2 (by have := HSE.out; have := HLT.out; omega)).trans HE2.out;
           have y2 := cell_row hq2 1; have z2 := froz_row hq2 1; have HQ22 := Lib.hid hq2; clear hre2 hbr2 hq2))
      rcases HRE2.out with ⟨hok2, rfl, Y, hv2, py, r0, rb⟩ | ⟨hok2, _, _⟩
      · injection hv2 with hv2
        subst hv2
        have hq2s : (wr2.setCell ⟨B2, 1, none⟩ (Pw Y.wB)).heap[B2]? = some (.cells #[.pointer none, Pw Y.wB] 36 (0, 0)) := by
          have h' := HQ22.out
          simp [World.setCell, Array.getElem?_modify, h']
        have hts : Turns (fun k => k = B2) wr2 (wr2.setCell ⟨B2, 1, none⟩ (Pw Y.wB)) := (Turns.refl (fun k => k = B2) wr2).setCell ⟨B2, 1, none⟩ _ rfl
        have hblk : ∀ k o, k < b1 → k ≠ B2 → we.heap[k]? = some o → (wr2.setCell ⟨B2, 1, none⟩ (Pw Y.wB)).heap[k]? = some o := fun k o hk hne e =>
          (hts.block k (by have := HBR2.out.size; have := HSE.out; omega) hne).trans ((HBR2.out.block k (by have := HSE.out; omega)).trans e)
        have hbs2 : Below w.heap.size w (wr2.setCell ⟨B2, 1, none⟩ (Pw Y.wB)) := (HBE.out.trans (HBR2.out.mono HBE.out.size)).setCell (p := ⟨B2, 1, none⟩) HLT.out.2.2.2.2.2.2.1 _
        go_meet
        exact ⟨Y, 0, 0, [], none, 0, hblk B0 _ HLT.out.1 HLT.out.2.2.2.2.2.2.2.2.1 HE0.out, hblk B1 _ HLT.out.2.1 HLT.out.2.2.2.2.2.2.2.2.2.1 HE1.out, hq2s, hblk B3 _ HLT.out.2.2.2.1 HLT.out.2.2.2.2.2.2.2.2.2.2.1 HE3.out,
          (py.kept hts (fun i p hp k hk e => by have := py.low i p hp k hk; have := HBO2.out.size; have := HSE.out; have := HLT.out; omega)).rebase (by have := HBO2.out.size; have := HSE.out; omega),
          r0, Nat.le_trans rb hts.size, hok2, by simp, by omega, by omega, S3.Rd.nil, (fun d hd => by cases hd), hbs2, Nat.le_trans (Nat.le_trans HSE.out HBR2.out.size) hts.size⟩
      · exact absurd hok2 (by decide)
  case rest =>
    obtain ⟨Y, sp', mo', D', A', c', hc⟩ := hcut
    have x0 := cell_row hc.p3 0; have x1 := cell_row hc.p3 1; have x2 := cell_row hc.p3 2
    simp only [List.getElem?_toArray, List.getElem?_cons_zero, List.getElem?_cons_succ] at x0 x1 x2
    have HNW := Lib.hid (wnew_any sp' mo' c' hc.dl hc.dc hc.mm hc.rd hc.bl.size hc.dd)
    have HC := Lib.hid hc
    clear hc HRE HBR HQ0S HQ1S HQ2S HQ3S HBS HSZS HKEEP HSZ2 HBO HRD1 HBW HS4 H0 H1 H2 H3 HRN hlo hco
    go_upto_region 8 with (first
      | (go_at_call 31; refine HNW.out.mono ?_; rintro e wn ⟨v, er, rfl, hwe, hbn⟩;
         have hq2 : wn.heap[B2]? = _ := (hbn.block B2 (by have := HC.out.sz; have := HLT.out; omega)).trans HC.out.p2;
         have y2 := cell_row hq2 0; have z2 := froz_row hq2 0; have HQ2 := Lib.hid hq2; have HWE := Lib.hid hwe; have HBN := Lib.hid hbn; clear hq2 hwe hbn))
    rcases HWE.out with ⟨_, rfl, X, hv, pw, a0⟩ | ⟨hok, _, _⟩
    · injection hv with hv
      subst hv
      have hbg := bg_first (base := b1) (w0 := wn) HC.out.py HC.out.r0 HC.out.rb pw a0 HBN.out (Below.refl _ _) (by have := HC.out.ok; simp [okC] at this; omega)
      have hts : Turns (fun k => k = B2) wn (wn.setCell ⟨B2, 0, none⟩ (Pw X.wB)) := (Turns.refl (fun k => k = B2) wn).setCell ⟨B2, 0, none⟩ _ rfl
      have hbg2 := hbg.outside hts (fun k e => by have := HLT.out; omega)
      have hq2s : (wn.setCell ⟨B2, 0, none⟩ (Pw X.wB)).heap[B2]? = some (.cells #[Pw X.wB, Pw Y.wB] 36 (0, 0)) := by
        have h' := HQ2.out
        simp [World.setCell, Array.getElem?_modify, h']
      have g0 := (hts.block B0 (by have := HBN.out.size; have := HC.out.sz; have := HLT.out; omega) HLT.out.2.2.2.2.2.2.2.2.1).trans ((HBN.out.block B0 (by have := HC.out.sz; have := HLT.out; omega)).trans HC.out.p0)
      have g1 := (hts.block B1 (by have := HBN.out.size; have := HC.out.sz; have := HLT.out; omega) HLT.out.2.2.2.2.2.2.2.2.2.1).trans ((HBN.out.block B1 (by have := HC.out.sz; have := HLT.out; omega)).trans HC.out.p1)
      have hbs : Below w.heap.size w (wn.setCell ⟨B2, 0, none⟩ (Pw X.wB)) := (HC.out.bl.trans (HBN.out.mono HC.out.bl.size)).setCell (p := ⟨B2, 0, none⟩) HLT.out.2.2.2.2.2.2.1 _
      have hsz : b1 ≤ (wn.setCell ⟨B2, 0, none⟩ (Pw X.wB)).heap.size := hbg2.pr.size
      have HBG := Lib.hid hbg2; have HG0 := Lib.hid g0; have HG1 := Lib.hid g1; have HG2 := Lib.hid hq2s; have HBS := Lib.hid hbs; have HSZ := Lib.hid hsz
      obtain ⟨WB, hWB⟩ : ∃ WB, WB = X.wB := ⟨_, rfl⟩
      obtain ⟨RB, hRB⟩ : ∃ RB, RB = Y.wB := ⟨_, rfl⟩
      rw [← hWB, ← hRB] at HG2
      rw [← hWB] at HBG HG0 HG1 HBS HSZ ⊢
      rw [← hRB] at HBG
      have HBE : Hid (BgE (wn.setCell ⟨B2, 0, none⟩ (Pw WB)) (wn.setCell ⟨B2, 0, none⟩ (Pw WB)) b1 WB RB 0 0 1 []) := Lib.hid ⟨_, X, Y, HBG.out⟩
      clear hbg hts hbg2 hq2s g0 g1 hbs hsz HC HNW HWE HBN HQ2 HBG pw a0 x0 x1 x2 y2 z2 hWB hRB
      generalize wn.setCell ⟨B2, 0, none⟩ (Pw WB) = wS at *
      have y0 := cell_row HG2.out 0
      simp only [List.getElem?_toArray, List.getElem?_cons_zero, List.getElem?_cons_succ] at y0
      go_upto_region 11 with (fail)
      clear y0
      have HWB1 : Hid (w.heap.size ≤ b1) := Lib.hid (by have := HLT.out; omega)
      have HCELL : Hid (∀ W, Below b1 wS W → W.cell? ⟨B2, 0, none⟩ = some (Pw WB) ∧ W.cell? ⟨B2, 1, none⟩ = some (Pw RB) ∧ W.cell? ⟨B1, 0, none⟩ = some (.pointer none) ∧ W.cell? ⟨B0, 3, none⟩ = some (.slice sA sn sc) ∧ W.cell? ⟨B0, 4, none⟩ = some (.slice gA gn gc) ∧ W.cell? ⟨B0, 5, none⟩ = some (.slice qA qn qc) ∧ W.cell? ⟨B0, 6, none⟩ = some (.int .u64 (tk : Int))) := Lib.hid (fun W q => by
        have k2 := (q.block B2 HLT.out.2.2.1).trans HG2.out
        have k1 := (q.block B1 HLT.out.2.1).trans HG1.out
        have k0 := (q.block B0 HLT.out.1).trans HG0.out
        exact ⟨cell_row k2 0, cell_row k2 1, cell_row k1 0, cell_row k0 3, cell_row k0 4, cell_row k0 5, cell_row k0 6⟩)
      have HIN : Hid (∀ W, Below b1 wS W → Below w.heap.size w W) := Lib.hid (fun W q => HBS.out.trans (q.mono HWB1.out))
      clear HBS
      go_upto_block 0 with fail
      go_cut [] (fun wx => BgE wS wx b1 WB RB 0 12 7 [])
      case first =>
        go_wp2_with fail
        go_loopg [5, 6] 6 (fun q s5 s6 wx => ∃ (i : Nat) (bits : Int), i ≤ gn ∧ i ≤ 6 ∧ q = 6 - i ∧ s6 = .int .i64 (i : Int) ∧ s5 = .int .i64 bits ∧ (0 ≤ bits ∧ bits ≤ 8) ∧ BgE wS wx b1 WB RB 0 (2 * i) (1 + i) [])
        case atStart => exact ⟨0, 2, by omega, by omega, rfl, rfl, rfl, by omega, HBE.out⟩
        case round =>
          obtain ⟨i, bits, hi1, hi2, rfl, rfl, rfl, hbits, M, X, Y, hbg⟩ := hrel
          obtain ⟨k0, k1, k2, k3, k4, k5, k6⟩ := HCELL.out _ hbg.bl
          by_cases hin : i < gn ∧ i < 6
          · obtain ⟨hi3, hi4⟩ := hin
            obtain ⟨lb, lo, hga, hlb, hgc⟩ := HGI.out.1 (by omega)
            have HGC : Hid (∀ W, Below b1 wS W → W.cell? ⟨lb, lo + i, none⟩ = some (.int .i64 (G i))) := Lib.hid (fun W q => ((HIN.out W q).cell (p := ⟨lb, lo + i, none⟩) hlb).trans (hgc i hi3))
            subst hga
            obtain ⟨a, M', h1, h2, h5, h6⟩ := bg_grow (E := []) hbg.gd (by omega) (fr := bits) (tg := G i) (by unfold S10.InI; omega) (HGI.out.2.1 i hi3)
            have HGR := Lib.hid h5; have HGW := Lib.hid h6; have HAF := Lib.hid (And.intro h1 h2)
            have d1 : decide ((i : Int) < (gn : Int)) = true := by simp; omega
            have d2 : decide ((i : Int) < 6) = true := by simp; omega
            have hi5 : (i : Int) < (gn : Int) := by omega
            have k8 := HGC.out _ hbg.bl
            have k7 := hbg.c.2.2.2.2.2
            have HB0 := Lib.hid hbg; have HBI := Lib.hid hbits
            clear hbg h1 h2 h5 h6 hgc hlb hbits k0 k2 k3 k5 k6
            go_upto_region 14 with (fail)
            go_still_tail 11, (by kernel_rfl)
            change wpList _ _ _ _ _ wr.drew
            go_upto_if 66 with (go_at_call 32; refine (HGR.out _ _ _ _ _ _ _ _ _ (HB0.out.new ((Below.refl _ _).drew))).mono ?_; rintro e w3 ⟨rfl, Y3, h3, ht3⟩)
            have H3B := Lib.hid h3
            clear h3 ht3 HB0 HGR
            cases a
            · obtain rfl := HAF.out.1 rfl
              clear k1 k4 k7 k8
              go_wp2_with fail
              go_roundg (6 - (i + 1))
              case measure => omega
              case rel => exact ⟨i + 1, bits, by omega, by omega, rfl, by go_num, rfl, HBI.out, _, X, Y3, H3B.out.mono (Nat.le_refl _) (by omega) (by omega)⟩
            · have hg28 := HAF.out.2 rfl
              have HG28 := Lib.hid hg28
              have k7 := H3B.out.c.2.2.1
              clear hg28 HAF
              go_upto_region 15 with (fail)
              obtain ⟨j0, j1, j2, j3, j4, j5, j6⟩ := HCELL.out _ H3B.out.bl
              have j8 := HGC.out _ H3B.out.bl
              go_still_tail 11, (by kernel_rfl)
              change wpList _ _ _ _ _ w3.drew
              go_upto_region 16 with (go_at_call 33; refine (HGW.out _ _ _ _ _ _ _ _ _ (by omega) (H3B.out.new ((Below.refl _ _).drew))).mono ?_; rintro e w4 ⟨rfl, X4, h4, ht4⟩)
              obtain ⟨l0, l1, l2, l3, l4, l5, l6⟩ := HCELL.out _ h4.bl
              have l8 := HGC.out _ h4.bl
              obtain ⟨gv, hgv⟩ : ∃ gv : Nat, G i = (gv : Int) := Int.eq_ofNat_of_zero_le (by have := HG28.out; omega)
              have hwu : IntKind.u64.wrap (G i) = (gv : Int) := by
                rw [IntKind.wrap_u64]
                have := HG28.out
                omega
              have hps : Calls Tryz.prog 11 #[.agg #[Pw WB, Pw RB], .agg #[.int .u32 0, .int .u64 (gv : Int)]] w4 fun e w' => e = .returned (.tuple #[]) ∧ BgE wS w' b1 WB RB 0 (2 * i + 2) (1 + i + 1) [] := pair_store h4 (a := 0) (v := gv) (by omega) (by have := HG28.out; omega) (by omega)
              have HPS := Lib.hid hps; have HWU := Lib.hid hwu
              clear hgv h4 ht4 hps HGW H3B j0 j1 j2 j3 j4 j5 j6 j8 k7 hwu
              go_upto_region 17 with (fail)
              have hwu := HWU.out
              clear l8
              go_wp2_with (go_at_call 11; refine HPS.out.mono ?_; rintro e w5 ⟨rfl, M5, X5, Y5, h5⟩)
              go_roundg (6 - (i + 1))
              case measure => omega
              case rel => exact ⟨i + 1, G i, by omega, by omega, rfl, by go_num, rfl, by have := HG28.out; omega, M5, X5, Y5, h5.mono (Nat.le_refl _) (by omega) (by omega)⟩
          · have HBX := Lib.hid (show BgE wS wr b1 WB RB 0 12 7 [] from ⟨M, X, Y, hbg.mono (Nat.le_refl _) (by omega) (by omega)⟩)
            clear hbg hbits HBE
            by_cases hi5 : i < gn
            · have d1 : decide ((i : Int) < (gn : Int)) = true := by simp; omega
              have d2 : decide ((i : Int) < 6) = false := by simp; omega
              go_wp2_with fail
              go_meet
              exact HBX.out
            · have d1 : decide ((i : Int) < (gn : Int)) = false := by simp; omega
              go_wp2_with fail
              go_meet
              exact HBX.out
      case rest =>
        have HB1 := Lib.hid hcut
        clear hcut HBE
        go_upto_region 18 with (fail)
        go_upto_block 2 with fail
        go_cut [] (fun wx => BgE wS wx b1 WB RB 1200 12 7 [])
        case first =>
          go_wp2_with fail
          go_loopg [7, 8, 9] 20 (fun q s7 s8 s9 wx => ∃ i : Nat, i ≤ qn ∧ i ≤ 20 ∧ q = 20 - i ∧ s7 = .int .i64 (i : Int) ∧ BgE wS wx b1 WB RB (60 * i) 12 7 [])
          case atStart => exact ⟨0, by omega, by omega, rfl, rfl, HB1.out⟩
          case round =>
            obtain ⟨i, hi1, hi2, rfl, rfl, M, X, Y, hbg⟩ := hrel
            obtain ⟨k0, k1, k2, k3, k4, k5, k6⟩ := HCELL.out _ hbg.bl
            by_cases hin : i < qn ∧ i < 20
            · obtain ⟨hi3, hi4⟩ := hin
              obtain ⟨lb, lo, hqa, hlb, hqc⟩ := HQI.out.1 (by omega)
              have HQC : Hid (∀ W, Below b1 wS W → W.cell? ⟨lb, lo + i * 5, none⟩ = some (.int .i64 (Q i).b) ∧ W.cell? ⟨lb, lo + i * 5 + 1, none⟩ = some (.int .i64 (Q i).i) ∧ W.cell? ⟨lb, lo + i * 5 + 2, none⟩ = some (.slice (Q i).A (Q i).D.length (Q i).c) ∧ W.cell? ⟨lb, lo + i * 5 + 3, none⟩ = some (.int .u64 (Q i).ta) ∧ W.cell? ⟨lb, lo + i * 5 + 4, none⟩ = some (.int .u64 (Q i).tf)) := Lib.hid (fun W q => by
                have kk : ∀ j, W.cell? ⟨lb, j, none⟩ = w.cell? ⟨lb, j, none⟩ := fun j => (HIN.out W q).cell (p := ⟨lb, j, none⟩) hlb
                obtain ⟨q1, q2, q3, q4, q5⟩ := hqc i hi3
                exact ⟨(kk _).trans q1, (kk _).trans q2, (kk _).trans q3, (kk _).trans q4, (kk _).trans q5⟩)
              have hok := HQI.out.2.1 i hi3
              have HOK := Lib.hid hok
              clear hqc hok
              subst hqa
              generalize Q i = qq at *
              obtain ⟨b, i2, A, c, D, ta, tf⟩ := qq
              dsimp only at *
              obtain ⟨q1, q2, q3, q4, q5⟩ := HQC.out _ hbg.bl
              have d1 : decide ((i : Int) < (qn : Int)) = true := by simp; omega
              have d2 : decide ((i : Int) < 20) = true := by simp; omega
              have hi5 : (i : Int) < (qn : Int) := by omega
              have HB0 := Lib.hid hbg
              have HO2 : Hid (S10.InI b ∧ S10.Rd w w.heap.size A (S10.flat D) ∧ S10.Keys D) := Lib.hid ⟨HOK.out.b, HOK.out.rd, HOK.out.keys⟩
              clear hbg k0 k1 k2 k3 k4 k6 hlb HOK
              go_upto_region 22 with (fail)
              have h8 := HB0.out.push (blockP wr.heap.size (.cells #[.int .i64 b, .int .i64 i2, .slice A D.length c, .int .u64 ta, .int .u64 tf] 115)) (below1 _ _) (heap_alloc_new _ _) (fun k e => Nat.le_of_eq (show k = wr.heap.size from e).symm)
              have H8 := Lib.hid h8
              clear h8 HB0 q1 q2 q3 q4 q5
              generalize wr.alloc (.cells #[.int .i64 b, .int .i64 i2, .slice A D.length c, .int .u64 ta, .int .u64 tf] 115) = w8 at *
              generalize wr.heap.size = B8 at *
              have hq8 : w8.heap[B8]? = some (.cells #[.int .i64 b, .int .i64 i2, .slice A D.length c, .int .u64 ta, .int .u64 tf] 115) := H8.out.pr.ok 14 _ rfl
              have e2 := cell_row hq8 2
              simp only [List.getElem?_toArray, List.getElem?_cons_zero, List.getElem?_cons_succ] at e2
              by_cases hlen : D.length ≤ 20
              · have d3 : decide ((20 : Int) < (D.length : Int)) = false := by simp; omega
                have e0 := cell_row hq8 0; have e1 := cell_row hq8 1
                simp only [List.getElem?_toArray, List.getElem?_cons_zero, List.getElem?_cons_succ] at e0 e1
                have HL := Lib.hid hlen
                clear hq8 hlen
                go_upto_region 24 with (go_at_call 34; refine (S10.otherP_any b i2 _).mono ?_; rintro e w5 ⟨rfl, hb5⟩)
                have h9 := (H8.out.new hb5).push (blockP w5.heap.size (.cells #[.int .i64 b, .int .i64 i2] 116)) (below1 _ _) (heap_alloc_new _ _) (fun k e => Nat.le_of_eq (show k = w5.heap.size from e).symm)
                obtain ⟨B9, hB9⟩ : ∃ B9, B9 = w5.heap.size := ⟨_, rfl⟩
                obtain ⟨E, hE⟩ : ∃ E, E = ([] ++ [blockP B8 (.cells #[.int .i64 b, .int .i64 i2, .slice A D.length c, .int .u64 ta, .int .u64 tf] 115)]) ++ [blockP B9 (.cells #[.int .i64 b, .int .i64 i2] 116)] := ⟨_, rfl⟩
                rw [← hB9] at h9 ⊢
                rw [← hE] at h9
                have HEC : Hid (∀ W X Y M RM N cn tn, Bg wS W b1 WB RB N cn tn M RM E X Y → W.heap[B8]? = some (.cells #[.int .i64 b, .int .i64 i2, .slice A D.length c, .int .u64 ta, .int .u64 tf] 115) ∧ W.heap[B9]? = some (.cells #[.int .i64 b, .int .i64 i2] 116)) := Lib.hid (fun W X Y M RM N cn tn h => by
                  subst hE
                  exact ⟨h.pr.ok 14 _ rfl, h.pr.ok 15 _ rfl⟩)
                have H9 := Lib.hid h9
                clear h9 H8 hb5 e0 e1 e2 hE hB9
                generalize w5.alloc (.cells #[.int .i64 b, .int .i64 i2] 116) = w9 at *
                obtain ⟨a1, M1, hp1, hp2⟩ := bg_put (E := E) H9.out.gd HO2.out.1 i2 HO2.out.2.2 (by have := HL.out; omega)
                have HP1 := Lib.hid hp1; have HP2 := Lib.hid hp2
                clear hp1 hp2
                obtain ⟨k0, k1, k2, k3, k4, k5, k6⟩ := HCELL.out _ H9.out.bl
                obtain ⟨g8, g9⟩ := HEC.out _ _ _ _ _ _ _ _ H9.out
                have e0 := cell_row g8 0; have e1 := cell_row g8 1; have e2 := cell_row g8 2
                simp only [List.getElem?_toArray, List.getElem?_cons_zero, List.getElem?_cons_succ] at e0 e1 e2
                have m4 := H9.out.c.2.2.1
                clear k1 k2 k3 k4 k5 k6 g8 g9
                have HRQ : Hid (∀ W, Below b1 wS W → S10.Rd W w.heap.size A (S10.flat D) ∧ w.heap.size ≤ W.heap.size) := Lib.hid (fun W q => ⟨HO2.out.2.1.below (HIN.out W q) (Nat.le_refl _), (HIN.out W q).size⟩)
                go_still_tail 9, (by kernel_rfl)
                change wpList _ _ _ _ _ w9.drew
                go_upto_region 25 with (go_at_call 35; refine (HP1.out _ _ _ _ _ _ _ _ _ _ _ _ (H9.out.new ((Below.refl _ _).drew)) (HRQ.out _ H9.out.bl).1 (HRQ.out _ H9.out.bl).2).mono ?_; rintro e w10 ⟨rfl, X10, h10, ht10⟩)
                have H10 := Lib.hid h10
                clear h10 ht10 k0 e0 e1 e2 m4 HP1 H9
                obtain ⟨k0, k1, k2, k3, k4, k5, k6⟩ := HCELL.out _ H10.out.bl
                obtain ⟨g8, g9⟩ := HEC.out _ _ _ _ _ _ _ _ H10.out
                have e2 := cell_row g8 2; have f0 := cell_row g9 0; have f1 := cell_row g9 1
                simp only [List.getElem?_toArray, List.getElem?_cons_zero, List.getElem?_cons_succ] at e2 f0 f1
                have m4 := H10.out.c.2.2.2.2.2
                clear k0 k2 k3 k4 k5 k6 g8 g9
                have HOT := Lib.hid (fun (W : World) (q : Below w10.heap.size w10 W) => S10.others_any (w := W) (A := A) (D := D) c (HRQ.out W (H10.out.bl.trans (q.mono H10.out.pr.size))).1 (HRQ.out W (H10.out.bl.trans (q.mono H10.out.pr.size))).2 (by have := HL.out; omega))
                have HKP : Hid (∀ W, Below w10.heap.size w10 W → W.cell? ⟨B2, 1, none⟩ = some (Pw RB) ∧ W.cell? ⟨RB, 4, none⟩ = some Y.ts ∧ W.cell? ⟨B9, 0, none⟩ = some (.int .i64 b) ∧ W.cell? ⟨B9, 1, none⟩ = some (.int .i64 i2) ∧ W.cell? ⟨B8, 2, none⟩ = some (.slice A D.length c)) := Lib.hid (fun W q => ⟨bcell q k1, bcell q m4, bcell q f0, bcell q f1, bcell q e2⟩)
                have HKQ : Hid (∀ W Y', Bg wS W b1 WB RB (60 * i + 60) 12 7 M1 M1 E X10 Y' → Y'.ts = Y.ts → W.cell? ⟨B2, 1, none⟩ = some (Pw RB) ∧ W.cell? ⟨RB, 4, none⟩ = some Y.ts ∧ W.cell? ⟨B9, 0, none⟩ = some (.int .i64 b) ∧ W.cell? ⟨B9, 1, none⟩ = some (.int .i64 i2) ∧ W.cell? ⟨B8, 2, none⟩ = some (.slice A D.length c)) := Lib.hid (fun W Y' h ht => by
                  obtain ⟨g8, g9⟩ := HEC.out _ _ _ _ _ _ _ _ h
                  have hr := h.c.2.2.2.2.2
                  rw [ht] at hr
                  exact ⟨(HCELL.out _ h.bl).2.1, hr, cell_row g9 0, cell_row g9 1, cell_row g8 2⟩)
                go_region_held3 (fun w' => w'.cell? ⟨B2, 1, none⟩ = some (Pw RB) ∧ w'.cell? ⟨RB, 4, none⟩ = some Y.ts ∧ w'.cell? ⟨B9, 0, none⟩ = some (.int .i64 b) ∧ w'.cell? ⟨B9, 1, none⟩ = some (.int .i64 i2) ∧ w'.cell? ⟨B8, 2, none⟩ = some (.slice A D.length c))
                  (first
                    | exact ⟨k1, m4, f0, f1, e2⟩
                    | exact HKP.out _ HB11.out
                    | exact HKQ.out _ _ H12.out HT12.out)
                  (first
                    | (go_at_call 37; refine (HOT.out _ ((Below.refl _ _).drew)).mono ?_; rintro e w11 ⟨so, rfl, hro, _, hb11⟩; obtain ⟨A11, c11, hs11, _, _⟩ := S10.Row.shape hro; subst hs11; have HB11 : Hid (Below w10.heap.size w10 w11) := Lib.hid (((Below.refl _ w10).drew).trans hb11); have HRO := Lib.hid (S10.Row.rd hro); clear hro hb11)
                    | (go_at_call 36; refine (HP2.out _ _ _ _ _ _ _ _ _ _ _ _ (H10.out.new HB11.out) HRO.out (Nat.le_refl _)).mono ?_; rintro e w12 ⟨rfl, Y12, h12, ht12⟩; have H12 := Lib.hid h12; have HT12 := Lib.hid ht12; clear h12 ht12))
                clear k1 e2 f0 f1 m4 HKP HKQ HOT HP2 H10
                all_goals
                  obtain ⟨a2, M2, hp3, hp4⟩ := bg_putT (E := E) H12.out.gd HO2.out.1 i2 ta tf
                  have HP3 := Lib.hid hp3; have HP4 := Lib.hid hp4
                  clear hp3 hp4
                  obtain ⟨k0, k1, k2, k3, k4, k5, k6⟩ := HCELL.out _ H12.out.bl
                  obtain ⟨g8, g9⟩ := HEC.out _ _ _ _ _ _ _ _ H12.out
                  have e0 := cell_row g8 0; have e1 := cell_row g8 1; have e3 := cell_row g8 3; have e4 := cell_row g8 4
                  simp only [List.getElem?_toArray, List.getElem?_cons_zero, List.getElem?_cons_succ] at e0 e1 e3 e4
                  have m4 := H12.out.c.2.2.1
                  clear k1 k2 k3 k4 k5 k6 g8 g9
                  go_upto_region 26 with (fail)
                  go_still_tail 9, (by kernel_rfl)
                  change wpList _ _ _ _ _ w12.drew
                  go_upto_region 27 with (go_at_call 38; refine (HP3.out _ _ _ _ _ _ _ _ _ (H12.out.new ((Below.refl _ _).drew))).mono ?_; rintro e w13 ⟨rfl, X13, h13, ht13⟩)
                  have H13 := Lib.hid h13
                  clear h13 ht13 k0 e0 e1 e3 e4 m4 HP3 H12 HT12
                  obtain ⟨k0, k1, k2, k3, k4, k5, k6⟩ := HCELL.out _ H13.out.bl
                  obtain ⟨g8, g9⟩ := HEC.out _ _ _ _ _ _ _ _ H13.out
                  have e3 := cell_row g8 3; have e4 := cell_row g8 4; have f0 := cell_row g9 0; have f1 := cell_row g9 1
                  simp only [List.getElem?_toArray, List.getElem?_cons_zero, List.getElem?_cons_succ] at e3 e4 f0 f1
                  have m4 := H13.out.c.2.2.2.2.2
                  clear k0 k2 k3 k4 k5 k6 g8 g9
                  go_still_tail 13, (by kernel_rfl)
                  change wpList _ _ _ _ _ w13.drew
                  go_wp2_with (go_at_call 39; refine (HP4.out _ _ _ _ _ _ _ _ _ (H13.out.new ((Below.refl _ _).drew))).mono ?_; rintro e w14 ⟨rfl, Y14, h14, ht14⟩)
                  go_roundg (20 - (i + 1))
                  case measure => omega
                  case rel => exact ⟨i + 1, by omega, by omega, rfl, by go_num, _, _, _, h14.drop.mono (by omega) (Nat.le_refl _) (Nat.le_refl _)⟩
              · have d3 : decide ((20 : Int) < (D.length : Int)) = true := by simp; omega
                clear hq8 hlen
                go_wp2_with fail
                go_roundg (20 - (i + 1))
                case measure => omega
                case rel => exact ⟨i + 1, by omega, by omega, rfl, by go_num, M, X, Y, H8.out.drop.mono (by omega) (Nat.le_refl _) (Nat.le_refl _)⟩
            · have HBX := Lib.hid (show BgE wS wr b1 WB RB 1200 12 7 [] from ⟨M, X, Y, hbg.mono (by omega) (Nat.le_refl _) (Nat.le_refl _)⟩)
              clear hbg
              by_cases hi5 : i < qn
              · have d1 : decide ((i : Int) < (qn : Int)) = true := by simp; omega
                have d2 : decide ((i : Int) < 20) = false := by simp; omega
                go_wp2_with fail
                go_meet
                exact HBX.out
              · have d1 : decide ((i : Int) < (qn : Int)) = false := by simp; omega
                go_wp2_with fail
                go_meet
                exact HBX.out
        case rest =>
          obtain ⟨M, X, Y, hbg⟩ := hcut
          obtain ⟨k0, k1, k2, k3, k4, k5, k6⟩ := HCELL.out _ hbg.bl
          have HPT := Lib.hid (pair_tick hbg HTK.out)
          clear hbg HB1 HGI HQI HTK k2 k3 k4 k5
          go_upto_region 29 with (go_at_call 40; refine HPT.out.mono ?_; rintro e w20 ⟨rfl, hbt⟩)
          have HBT := Lib.hid hbt
          clear hbt k0 k1 k6 HPT
          go_wp2_with fail
          go_loopg [10] sn (fun q s10 wx => ∃ i : Nat, i ≤ sn ∧ q = sn - i ∧ s10 = .int .i64 (i : Int) ∧ BgE wS wx b1 WB RB 1200 (12 + 2 * i) 7 [])
          case atStart => exact ⟨0, by omega, rfl, rfl, HBT.out⟩
          case round =>
            obtain ⟨i, hi1, rfl, rfl, M, X, Y, hbg⟩ := hrel
            obtain ⟨k0, k1, k2, k3, k4, k5, k6⟩ := HCELL.out _ hbg.bl
            by_cases hin : i < sn
            · obtain ⟨lb, lo, hsa, hlb, hsc⟩ := HSI.out.2.1 (by omega)
              obtain ⟨q1, q2⟩ := hsc i hin
              have r1 := ((HIN.out _ hbg.bl).cell (p := ⟨lb, lo + i * 2, none⟩) hlb).trans q1
              have r2 := ((HIN.out _ hbg.bl).cell (p := ⟨lb, lo + i * 2 + 1, none⟩) hlb).trans q2
              obtain ⟨ha, hv⟩ := HSI.out.2.2 i hin
              subst hsa
              generalize SA i = aa at *
              generalize SV i = vv at *
              have HPS := Lib.hid (fun (W : World) (q : Below wr.heap.size wr W) => pair_store (hbg.new q) ha hv (by have := HSI.out.1; omega))
              have hi5 : (i : Int) < (sn : Int) := by omega
              have hsn9 := HSI.out.1
              have d1 : decide ((i : Int) < (sn : Int)) = true := by simp; omega
              clear hbg hsc q1 q2 ha hv hlb k2 k4 k5 k6
              go_upto_region 32 with (fail)
              go_still_tail 6, (by kernel_rfl)
              change wpList _ _ _ _ _ wr.drew
              go_wp2_with (go_at_call 11; refine (HPS.out _ ((Below.refl _ _).drew)).mono ?_; rintro e w21 ⟨rfl, hb21⟩)
              go_roundg (sn - (i + 1))
              case measure => omega
              case rel => exact ⟨i + 1, by omega, rfl, by go_num, (by
                obtain ⟨M2, X2, Y2, h2⟩ := hb21
                exact ⟨M2, X2, Y2, h2.mono (Nat.le_refl _) (by omega) (Nat.le_refl _)⟩)⟩
            · obtain rfl : i = sn := by omega
              have d1 : decide ((i : Int) < (i : Int)) = false := by simp
              have hq1 : wr.heap[B1]? = some (.cells #[.pointer none, .pointer none] 36 (0, 0)) := (hbg.bl.block B1 HLT.out.2.1).trans HG1.out
              have z0 := cell_row hq1 0; have z1 := cell_row hq1 1; have f0 := froz_row hq1 0; have f1 := froz_row hq1 1
              simp only [List.getElem?_toArray, List.getElem?_cons_zero, List.getElem?_cons_succ] at z0 z1
              have hts : Turns (fun k => k = B1) wr ((wr.setCell ⟨B1, 0, none⟩ (Pw WB)).setCell ⟨B1, 1, none⟩ (Pw RB)) := ((Turns.refl (fun k => k = B1) wr).setCell ⟨B1, 0, none⟩ _ rfl).setCell ⟨B1, 1, none⟩ _ rfl
              have hbo := hbg.outside hts (fun k e => by have := HLT.out; omega)
              have hfb : ((wr.setCell ⟨B1, 0, none⟩ (Pw WB)).setCell ⟨B1, 1, none⟩ (Pw RB)).heap[B1]? = some (.cells #[Pw WB, Pw RB] 36 (0, 0)) := by simp [World.setCell, Array.getElem?_modify, hq1]
              have d4 := cell_row hfb 0; have d5 := cell_row hfb 1
              simp only [List.getElem?_toArray, List.getElem?_cons_zero, List.getElem?_cons_succ] at d4 d5
              have hbl : Below w.heap.size w ((wr.setCell ⟨B1, 0, none⟩ (Pw WB)).setCell ⟨B1, 1, none⟩ (Pw RB)) := ((HIN.out _ hbg.bl).setCell (p := ⟨B1, 0, none⟩) HLT.out.2.2.2.2.2.1 _).setCell (p := ⟨B1, 1, none⟩) HLT.out.2.2.2.2.2.1 _
              obtain ⟨we, hwe⟩ : ∃ we, we = (wr.setCell ⟨B1, 0, none⟩ (Pw WB)).setCell ⟨B1, 1, none⟩ (Pw RB) := ⟨_, rfl⟩
              have hfin : ∃ M X Y, X.wB = WB ∧ Y.wB = RB ∧ Bg w we w.heap.size X.wB Y.wB 1200 2097164 7 M M [] X Y := by
                rw [← hwe] at hbo hbl
                refine ⟨M, X, Y, hbg.wB, hbg.rB, ?_⟩
                rw [hbg.wB, hbg.rB]
                have hbm := hbo.mono (Nat.le_refl 1200) (show 12 + 2 * i ≤ 2097164 by have := HSI.out.1; omega) (Nat.le_refl 7)
                exact { hbm with pr := Parts.rebase hbo.pr HWB1.out, bl := hbl }
              rw [hwe] at hfin
              clear hwe
              have HFIN := Lib.hid hfin
              clear hbg hq1 hts hbo hfb hbl hfin k2 k4 k5 k6
              go_upto_region 33 with (fail)
              go_wp2_with fail
              exact bodyPost_ret (v := .agg #[Pw WB, Pw RB]) (by simp [results, Tryz.results7, go_sem, d4, d5]) rfl (by
                obtain ⟨M', X', Y', e1, e2, h'⟩ := HFIN.out
                exact ⟨M', X', Y', by rw [e1, e2], h'⟩)
    · exact absurd hok (by rw [HC.out.ok]; decide)
end Go.Proofs.YtlflagjnlclffaaGreat.S12
