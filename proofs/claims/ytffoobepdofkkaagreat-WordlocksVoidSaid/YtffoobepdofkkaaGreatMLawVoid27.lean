/- Texts of this seat, one behind the other. -/
import Derived.Test.YtffoobepdofkkaaGreatMLawVoid9
import Derived.Test.YtffoobepdofkkaaGreatMLawVoid26
import Derived.OrdersHeld
import Derived.Deep.MidRow
import Derived.Deep.RegionHeld3
import Derived.LoopTactic
import Derived.Deep.LoopGhost
namespace Go.Proofs.YtffoobepdofkkaaGreat.S12
open Go.Proofs.YtffoobepdofkkaaGreat Go.Proofs.YtffoobepdofkkaaGreat.S11
open Go.RowKit

section
variable {P : Program} {ops : Array Oper} {Q : Exit → Act → World → Prop} {md : Region.Mode} {S S' : World → Prop}
/-- From here on more is held. -/
theorem wpAnyH_more (h : ∀ w, S' w → S w) : ∀ (fuel : Nat) (listed : Array Bool) (a : Act) (w : World), wpAnyH P md ops Q S' fuel listed a w → wpAnyH P md ops Q S fuel listed a w
  | 0, _, _, _, hq => hq
  | fuel + 1, _, _, _, hq => ⟨hq.1, fun i hi => wpOp_mono (fun a' w' h' => ⟨h w' h'.1, wpAnyH_more h fuel _ a' w' h'.2⟩) (hq.2 i hi)⟩
end
/-- Both, from bases of their own: cells, notes, tables. -/
theorem Bg.both02 {w0 w : World} {base WB RB N cn tn : Nat} {M : Sd} {E : List Part} {X : Wm} {Y : Rm} (h : Bg w0 w base WB RB N cn tn M M E X Y) : S2.Both w 0 X.cB Y.rB X.L X.n X.k X.a X.was X.is := by
  have heq : X.sd = Y.sd := by rw [h.xm, h.ym]
  have e_L : X.L = Y.L := congrArg Sd.L heq
  have e_n : X.n = Y.n := congrArg Sd.n heq
  have e_k : X.k = Y.k := congrArg Sd.k heq
  have e_a : X.a = Y.a := congrArg Sd.a heq
  have e_was : X.was = Y.was := congrArg Sd.was heq
  have e_is : X.is = Y.is := congrArg Sd.is heq
  have hr := h.pr.rcells
  rw [← e_L, ← e_n, ← e_k, ← e_a, ← e_was, ← e_is] at hr
  have ap : ∀ k, (cellsP X.cB X.cM X.L X.n X.k X.a X.was X.is).fp k → ¬ (rcellsP Y.rb Y.rB Y.rs Y.L Y.n Y.k Y.a Y.was Y.is).fp k := h.pr.apart 0 7 _ _ rfl rfl (by decide)
  refine ⟨Nat.zero_le _, Nat.zero_le _, Nat.zero_le _, fun e => ap X.cB (.inl rfl) (.inl e.symm), h.byt, X.cM, Y.rs, h.pr.pw.cells, ⟨hr.good, hr.row, S2.row_base hr.own (Nat.zero_le _), hr.ne⟩, fun m hm => ⟨Nat.zero_le _, fun e => ap m (.inr hm) (.inl e), fun e => ap m (.inr hm) (.inr e)⟩, fun e => ap X.cB (.inl rfl) (.inr e)⟩
theorem Bg.se {w0 w : World} {base WB RB N cn tn : Nat} {M : Sd} {E : List Part} {X : Wm} {Y : Rm} (h : Bg w0 w base WB RB N cn tn M M E X Y) : S10.Se w X.tb Y.tb X.tO Y.tO X.ts Y.ts X.tn M.m M.m (fun _ => False) :=
  ⟨h.st, h.rt, h.pr.apart 4 9 _ _ rfl rfl (by decide), fun _ e => e.elim⟩
def Z64l : List Value := List.replicate 64 (.int .u64 0)
def Z64 : Array Value := Z64l.toArray
theorem under64 : Tryz.prog.underlying 72 = some (.array 64 22) := by kernel_rfl
theorem info64 : (Tryz.prog.info? 72).map (·.size) = some Z64l.length := by kernel_rfl
set_option maxRecDepth 100000 in
theorem neq64 (w : World) : (binOp .neq 72 (.agg Z64) (.agg Z64)).run Tryz.prog w = .ok (.bool false) w := by kernel_rfl
theorem z64_get (j : Nat) (hj : j < 64) : Z64l[j]? = some (.int .u64 0) := by
  unfold Z64l
  rw [List.getElem?_replicate, if_pos hj]
theorem zx7 : ∀ j, j < 64 → Tryz.zeroCells74[7 + j]? = some (.int .u64 0) := by
  intro j hj
  have e : Tryz.zeroCells74 = (#[.pointer none, .pointer none, .pointer none, .pointer none, .pointer none, .pointer none, .int .i64 0] ++ Z64 : Array Value) := by kernel_rfl
  rw [e, Array.getElem?_append_right (by simp)]
  show Z64[7 + j - 7]? = _
  rw [Nat.add_sub_cancel_left]
  unfold Z64
  rw [List.getElem?_toArray]
  exact z64_get j hj
theorem zy7 : ∀ j, j < 64 → Tryz.zeroCells95[7 + j]? = some (.int .u64 0) := by
  intro j hj
  have e : Tryz.zeroCells95 = (#[.pointer none, .pointer none, .pointer none, .pointer none, .pointer none, .pointer none, .int .i64 0] ++ Z64 : Array Value) := by kernel_rfl
  rw [e, Array.getElem?_append_right (by simp)]
  show Z64[7 + j - 7]? = _
  rw [Nat.add_sub_cancel_left]
  unfold Z64
  rw [List.getElem?_toArray]
  exact z64_get j hj
theorem px7 (a b c d e f : Value) (sp : Int) (j : Nat) (hj : j < 64) : (pcells a b c d e f sp)[7 + j]? = some (.int .u64 0) := by
  simp [pcells, Array.getElem?_setIfInBounds, zsize, zx7 j hj, show ¬ 0 = 7 + j by omega, show ¬ 1 = 7 + j by omega, show ¬ 2 = 7 + j by omega, show ¬ 3 = 7 + j by omega, show ¬ 4 = 7 + j by omega, show ¬ 5 = 7 + j by omega, show ¬ 6 = 7 + j by omega]
theorem py7 (a b c d e f : Value) (sp : Int) (j : Nat) (hj : j < 64) : (wcells a b c d e f sp)[7 + j]? = some (.int .u64 0) := by
  simp [wcells, Array.getElem?_setIfInBounds, rsize, zy7 j hj, show ¬ 0 = 7 + j by omega, show ¬ 1 = 7 + j by omega, show ¬ 2 = 7 + j by omega, show ¬ 3 = 7 + j by omega, show ¬ 4 = 7 + j by omega, show ¬ 5 = 7 + j by omega, show ¬ 6 = 7 + j by omega]
theorem Bg.tokX {w0 w : World} {base WB RB N cn tn : Nat} {M RM : Sd} {E : List Part} {X : Wm} {Y : Rm} (h : Bg w0 w base WB RB N cn tn M RM E X Y) : w.rangeAt WB 7 Z64l := fun j v hj => by
  have hl : j < 64 := by
    have := (List.getElem?_eq_some_iff.1 hj).1
    unfold Z64l at this
    rwa [List.length_replicate] at this
  have hv : v = .int .u64 0 := by rw [z64_get j hl] at hj; injection hj with hj; exact hj.symm
  rw [hv, ← h.wB]
  exact (cell_row h.pr.pw.own (7 + j)).trans (px7 _ _ _ _ _ _ _ j hl)
theorem Bg.tokY {w0 w : World} {base WB RB N cn tn : Nat} {M RM : Sd} {E : List Part} {X : Wm} {Y : Rm} (h : Bg w0 w base WB RB N cn tn M RM E X Y) : w.rangeAt RB 7 Z64l := fun j v hj => by
  have hl : j < 64 := by
    have := (List.getElem?_eq_some_iff.1 hj).1
    unfold Z64l at this
    rwa [List.length_replicate] at this
  have hv : v = .int .u64 0 := by rw [z64_get j hl] at hj; injection hj with hj; exact hj.symm
  rw [hv, ← h.rB]
  exact (cell_row h.pr.rown (7 + j)).trans (py7 _ _ _ _ _ _ _ j hl)
/-- What SameAll looks at. -/
def SaF (w2 : World) (B0 WB RB cB kB nB rB rkB rnB nl nc T : Nat) (ts rts : Value) (nA : Option Addr) (w' : World) : Prop := Below w2.heap.size w2 w' ∧ w'.cell? ⟨B0, 0, none⟩ = some (Pw WB) ∧ w'.cell? ⟨B0, 1, none⟩ = some (Pw RB) ∧ w'.cell? ⟨WB, 0, none⟩ = some (Pw cB) ∧ w'.cell? ⟨WB, 1, none⟩ = some (Pw kB) ∧ w'.cell? ⟨WB, 4, none⟩ = some ts ∧ w'.cell? ⟨WB, 5, none⟩ = some (Pw nB) ∧ w'.cell? ⟨RB, 0, none⟩ = some (Pw rB) ∧ w'.cell? ⟨RB, 1, none⟩ = some (Pw rkB) ∧ w'.cell? ⟨RB, 4, none⟩ = some rts ∧ w'.cell? ⟨RB, 5, none⟩ = some (Pw rnB) ∧ w'.cell? ⟨rnB, 0, none⟩ = some (.slice nA nl nc) ∧ w'.cell? ⟨rkB, 0, none⟩ = some (.int .u64 (T : Int))
theorem SaF.new {w2 w' w'' : World} {B0 WB RB cB kB nB rB rkB rnB nl nc T : Nat} {ts rts : Value} {nA : Option Addr} (h : SaF w2 B0 WB RB cB kB nB rB rkB rnB nl nc T ts rts nA w') (hb : Below w'.heap.size w' w'') : SaF w2 B0 WB RB cB kB nB rB rkB rnB nl nc T ts rts nA w'' := by
  obtain ⟨hb0, c0, c1, c2, c3, c4, c5, c6, c7, c8, c9, c10, c11⟩ := h
  exact ⟨hb0.trans (hb.mono hb0.size), bcell hb c0, bcell hb c1, bcell hb c2, bcell hb c3, bcell hb c4, bcell hb c5, bcell hb c6, bcell hb c7, bcell hb c8, bcell hb c9, bcell hb c10, bcell hb c11⟩
def SbF (w2 : World) (B0 WB RB pB rpB Bx : Nat) (xa : Bool) (w' : World) : Prop := Below w2.heap.size w2 w' ∧ w'.cell? ⟨B0, 0, none⟩ = some (Pw WB) ∧ w'.cell? ⟨B0, 1, none⟩ = some (Pw RB) ∧ w'.cell? ⟨WB, 2, none⟩ = some (Pw pB) ∧ w'.cell? ⟨RB, 2, none⟩ = some (Pw rpB) ∧ w'.cell? ⟨Bx, 1, none⟩ = some (.bool xa)
theorem SbF.new {w2 w' w'' : World} {B0 WB RB pB rpB Bx : Nat} {xa : Bool} (h : SbF w2 B0 WB RB pB rpB Bx xa w') (hb : Below w'.heap.size w' w'') : SbF w2 B0 WB RB pB rpB Bx xa w'' := by
  obtain ⟨hb0, c0, c1, c2, c3, c4⟩ := h
  exact ⟨hb0.trans (hb.mono hb0.size), bcell hb c0, bcell hb c1, bcell hb c2, bcell hb c3, bcell hb c4⟩
set_option maxRecDepth 100000 in
set_option maxHeartbeats 8000000 in
theorem pair_all {w0 w : World} {base WB RB N cn tn : Nat} {M : Sd} {E : List Part} {X : Wm} {Y : Rm} (h : Bg w0 w base WB RB N cn tn M M E X Y) (hc : cn ≤ 100000) (hN : N ≤ 100000) :
    Calls Tryz.prog 15 #[.agg #[Pw WB, Pw RB]] w fun e w' => e = .returned (.bool true) ∧ Below w.heap.size w w' := by
  have hb1 : Below w.heap.size w (w.alloc (.cells #[Pw WB, Pw RB] 36)) := (Below.refl _ _).alloc (Nat.le_refl _) _
  have hq0 := heap_alloc_new w (.cells #[Pw WB, Pw RB] 36)
  have h2 := h.new hb1
  obtain ⟨B0, hB0⟩ : ∃ B0, B0 = w.heap.size := ⟨_, rfl⟩
  rw [← hB0] at hq0
  have HB1 := Lib.hid hb1
  have HB0 := Lib.hid hB0
  clear hb1 h hB0
  go_enter Tryz.func15, Tryz.ntmps15
  go_upto_region 1 with (fail)
  rw [← HB0.out]
  generalize w.alloc (.cells #[Pw WB, Pw RB] 36) = w2 at *
  have b0 := cell_row hq0 0; have b1 := cell_row hq0 1
  simp only [List.getElem?_toArray, List.getElem?_cons_zero, List.getElem?_cons_succ] at b0 b1
  obtain ⟨nA, nc, hns, _⟩ := h2.pr.rnotes.own.shape
  have heq : X.sd = Y.sd := by rw [h2.xm, h2.ym]
  have e_T : X.T = Y.T := congrArg Sd.T heq
  have e_nD : X.nD = Y.nD := congrArg Sd.nD heq
  have e_pf : X.pf = Y.pf := congrArg Sd.pf heq
  have e_lk : X.lk = Y.lk := congrArg Sd.lk heq
  have hsm := fun (W : World) (q : Below w2.heap.size w2 W) => pair_same (h2.new q) (by omega)
  have hs2 := fun (W : World) (q : Below w2.heap.size w2 W) => S2.same_any W 0 X.cB Y.rB X.L X.n X.k X.a X.was X.is (h2.new q).both02
  have hal := fun (W : World) (q : Below w2.heap.size w2 W) => S11.all_any (h2.new q).pr.pw.notes (by have := h2.nD; omega)
  have hnl : Y.nD.length ≤ 1000000 := by rw [← e_nD]; have := h2.nD; omega
  have hnw := fun (W : World) (q : Below w2.heap.size w2 W) => S3.now_any (h2.new q).pr.pw.clock
  have hts := fun (W : World) (q : Below w2.heap.size w2 W) => S10.same_sets (h2.new q).se h2.gd hN
  have hnr : ∀ W, Below w2.heap.size w2 W → Rd W W.heap.size nA (flat .i64 X.nD) := fun W q => by
    have hr := (h2.new q).pr.rnotes.own
    rw [hns] at hr
    rw [e_nD]
    exact hr.rd
  have f2 := h2.pr.pw.c0; have f3 := h2.pr.pw.c1; have f4 := h2.pr.pw.c4; have f5 := h2.pr.pw.c5
  have f6 := h2.pr.r0; have f7 := h2.pr.r1; have f8 := h2.pr.r4; have f9 := h2.pr.r5
  have f10 := h2.pr.rnotes.cell
  have f11 := cell_row h2.pr.rclock.row 0
  simp only [List.getElem?_toArray, List.getElem?_cons_zero, List.getElem?_cons_succ] at f11
  rw [hns, ← e_nD] at f10
  rw [← e_T] at f11
  rw [h2.wB] at f2 f3 f4 f5
  rw [h2.rB] at f6 f7 f8 f9
  have hns2 : ∀ W A9 b9, Below w2.heap.size w2 W → ∀ _ : Unit, ∀ _ : Unit, Row W b9 7 (.slice A9 X.nD.length X.nD.length) X.nD.length (flat .u8 X.nD) → Calls Tryz.prog 56 #[.slice A9 X.nD.length X.nD.length, .slice nA X.nD.length nc] W fun e w' => e = .returned (.bool true) ∧ Below W.heap.size W w' := fun W A9 b9 q _ _ hr =>
    S11.same_any _ nc hr.rd (hnr W q) (Nat.le_refl _) (Nat.le_refl _) (by have := h2.nD; omega) h2.nk
  have H2 := Lib.hid h2
  obtain ⟨D, hD⟩ : ∃ D, D = X.nD := ⟨_, rfl⟩
  rw [← hD] at f10 hns2 hal
  obtain ⟨nl, hnl2⟩ : ∃ x, x = D.length := ⟨_, rfl⟩
  have hal2 : ∀ W, Below w2.heap.size w2 W → Calls Tryz.prog 57 #[Pw X.nB] W fun e w' => ∃ A, e = .returned (.slice A nl nl) ∧ Row w' W.heap.size 7 (.slice A nl nl) nl (flat .u8 D) ∧ Below W.heap.size W w' := fun W q => by rw [hnl2]; exact hal W q
  rw [← hnl2] at f10 hns2
  have HTX := Lib.hid (fun (W : World) (q : Below w2.heap.size w2 W) => (h2.new q).tokX)
  have HTY := Lib.hid (fun (W : World) (q : Below w2.heap.size w2 W) => (h2.new q).tokY)
  have HSM := Lib.hid hsm; have HS2 := Lib.hid hs2; have HAL := Lib.hid hal2; have HNS := Lib.hid hns2; have HTS := Lib.hid hts; have HNW := Lib.hid hnw
  have HE := Lib.hid (And.intro e_pf e_lk)
  clear hsm hs2 hal hal2 hns2 hts hnw hnr hnl hnl2 hD e_T e_nD e_pf e_lk heq hc hN
  obtain ⟨kB, hkB⟩ : ∃ x, x = X.kB := ⟨_, rfl⟩
  obtain ⟨cB, hcB⟩ : ∃ x, x = X.cB := ⟨_, rfl⟩
  obtain ⟨nB, hnB⟩ : ∃ x, x = X.nB := ⟨_, rfl⟩
  obtain ⟨ts, hts⟩ : ∃ x, x = X.ts := ⟨_, rfl⟩
  obtain ⟨rts, hrts⟩ : ∃ x, x = Y.ts := ⟨_, rfl⟩
  obtain ⟨rB, hrB⟩ : ∃ x, x = Y.rB := ⟨_, rfl⟩
  obtain ⟨rkB, hrkB⟩ : ∃ x, x = Y.kB := ⟨_, rfl⟩
  obtain ⟨rnB, hrnB⟩ : ∃ x, x = Y.nB := ⟨_, rfl⟩
  obtain ⟨T, hT⟩ : ∃ x, x = X.T := ⟨_, rfl⟩
  rw [← hcB, ← hrB] at HS2; rw [← hnB] at HAL; rw [← hts, ← hrts] at HTS; rw [← hkB, ← hT] at HNW
  rw [← hcB] at f2; rw [← hkB] at f3; rw [← hts] at f4; rw [← hnB] at f5; rw [← hrB] at f6; rw [← hrkB] at f7 f11; rw [← hrts] at f8; rw [← hrnB] at f9 f10; rw [← hT] at f11
  have hev := fun W => neq64 W
  have HF : Hid (w2.drew.cell? ⟨B0, 0, none⟩ = some (Pw WB) ∧ w2.drew.cell? ⟨B0, 1, none⟩ = some (Pw RB) ∧ w2.drew.cell? ⟨WB, 0, none⟩ = some (Pw cB) ∧ w2.drew.cell? ⟨WB, 1, none⟩ = some (Pw kB) ∧ w2.drew.cell? ⟨WB, 4, none⟩ = some ts ∧ w2.drew.cell? ⟨WB, 5, none⟩ = some (Pw nB) ∧ w2.drew.cell? ⟨RB, 0, none⟩ = some (Pw rB) ∧ w2.drew.cell? ⟨RB, 1, none⟩ = some (Pw rkB) ∧ w2.drew.cell? ⟨RB, 4, none⟩ = some rts ∧ w2.drew.cell? ⟨RB, 5, none⟩ = some (Pw rnB) ∧ w2.drew.cell? ⟨rnB, 0, none⟩ = some (.slice nA nl nc) ∧ w2.drew.cell? ⟨rkB, 0, none⟩ = some (.int .u64 (T : Int))) := Lib.hid ⟨b0, b1, f2, f3, f4, f5, f6, f7, f8, f9, f10, f11⟩
  have HQ0 := Lib.hid hq0
  clear b0 b1 f2 f3 f4 f5 f6 f7 f8 f9 f10 f11 hkB hcB hnB hts hrts hrB hrkB hrnB hT hns h2 hq0
  (try simp only [List.append_eq, List.cons_append, List.nil_append])
  refine wp_region_held_drew (S := fun w' => Below w2.heap.size w2 w' ∧ w'.cell? ⟨B0, 0, none⟩ = some (Pw WB) ∧ w'.cell? ⟨B0, 1, none⟩ = some (Pw RB) ∧ w'.cell? ⟨WB, 0, none⟩ = some (Pw cB) ∧ w'.cell? ⟨WB, 1, none⟩ = some (Pw kB) ∧ w'.cell? ⟨WB, 4, none⟩ = some ts ∧ w'.cell? ⟨WB, 5, none⟩ = some (Pw nB) ∧ w'.cell? ⟨RB, 0, none⟩ = some (Pw rB) ∧ w'.cell? ⟨RB, 1, none⟩ = some (Pw rkB) ∧ w'.cell? ⟨RB, 4, none⟩ = some rts ∧ w'.cell? ⟨RB, 5, none⟩ = some (Pw rnB) ∧ w'.cell? ⟨rnB, 0, none⟩ = some (.slice nA nl nc) ∧ w'.cell? ⟨rkB, 0, none⟩ = some (.int .u64 (T : Int))) (by kernel_rfl) ?_ (fun hHeld => ?_)
  · exact ⟨(Below.refl _ _).drew, HF.out⟩
  refine wpAnyH_take (i := 0) (oi := ({ dst := some 10, op := Op.load 36 (Operand.tmp 1), type := 36, pos := "help.go:113", after := #[], guard := none } : Oper)) (v := ?vam1) rfl (by kernel_rfl) (by kernel_rfl) (by kernel_rfl) (fun _ _ _ h => h) (Or.inl ⟨by rfl, fun w hSw => ?hyam1⟩) (by assumption) ?ram1
  case hyam1 => (try dsimp only at hSw); go_simp; (try with_reducible rfl)
  (try simp only [Act.put, List.setIfInBounds_toArray, List.set_cons_zero, List.set_cons_succ])
  refine wpAnyH_ready (rs := [1]) (by kernel_rfl) (by simp) ?_
  refine AllReadyH.cons (o := ({ dst := some 11, op := Op.call { callee := Callee.value (Operand.func 14), args := #[Operand.tmp 10], argTypes := #[36] }, type := 4, pos := "help.go:113", after := #[{ on := 0, ground := Ground.data }], guard := none } : Oper)) rfl (fun Kq hKq => ?_) AllReadyH.nil
  go_simp
  (refine (HSM.out _ hHeld.1).mono ?_; rintro e w3 ⟨rfl, hb⟩)
  refine hKq.out _ _ ?_ (fun hHeld => ?_)
  · exact SaF.new hHeld hb
  clear hKq Kq
  (try simp only [Act.put, List.setIfInBounds_toArray, List.set_cons_zero, List.set_cons_succ])
  refine wpAnyH_take (i := 2) (oi := ({ dst := some 12, op := Op.unOp UnOp.not 4 (Operand.tmp 11), type := 4, pos := "help.go:113", after := #[{ on := 1, ground := Ground.data }], guard := none } : Oper)) (v := ?vam2) rfl (by kernel_rfl) (by kernel_rfl) (by kernel_rfl) (fun _ _ _ h => h) (Or.inl ⟨by rfl, fun w hSw => ?hyam2⟩) (by assumption) ?ram2
  case hyam2 => (try dsimp only at hSw); go_simp; (try with_reducible rfl)
  (try simp only [Act.put, List.setIfInBounds_toArray, List.set_cons_zero, List.set_cons_succ])
  refine wpAnyH_take (i := 3) (oi := ({ dst := some 13, op := Op.move (Operand.tmp 12), type := 4, pos := "help.go:113", after := #[{ on := 2, ground := Ground.data }, { on := 1, ground := Ground.chain }], guard := none } : Oper)) (v := ?vam3) rfl (by kernel_rfl) (by kernel_rfl) (by kernel_rfl) (fun _ _ _ h => h) (Or.inl ⟨by rfl, fun w hSw => ?hyam3⟩) (by assumption) ?ram3
  case hyam3 => (try dsimp only at hSw); go_simp; (try with_reducible rfl)
  (try simp only [Act.put, List.setIfInBounds_toArray, List.set_cons_zero, List.set_cons_succ])
  refine wpAnyH_take (i := 4) (oi := ({ dst := some 14, op := Op.fieldAddr 36 (Operand.tmp 1) 0, type := 0, pos := "help.go:113", after := #[{ on := 3, ground := Ground.guard }], guard := some (3, false) } : Oper)) (v := ?vam4) rfl (by kernel_rfl) (by kernel_rfl) (by kernel_rfl) (fun _ _ _ h => h) (Or.inl ⟨by rfl, fun w hSw => ?hyam4⟩) (by assumption) ?ram4
  case hyam4 => (try dsimp only at hSw); go_simp; (try with_reducible rfl)
  (try simp only [Act.put, List.setIfInBounds_toArray, List.set_cons_zero, List.set_cons_succ])
  refine wpAnyH_take (i := 5) (oi := ({ dst := some 15, op := Op.load 33 (Operand.tmp 14), type := 33, pos := "help.go:113", after := #[{ on := 4, ground := Ground.data }, { on := 3, ground := Ground.guard }], guard := some (3, false) } : Oper)) (v := ?vam5) rfl (by kernel_rfl) (by kernel_rfl) (by kernel_rfl) (fun _ _ _ h => h) (Or.inl ⟨by rfl, fun w hSw => ?hyam5⟩) (by assumption) ?ram5
  case hyam5 => (try dsimp only at hSw); go_simp; (try with_reducible rfl)
  (try simp only [Act.put, List.setIfInBounds_toArray, List.set_cons_zero, List.set_cons_succ])
  refine wpAnyH_take (i := 6) (oi := ({ dst := some 16, op := Op.nilCheck (Operand.tmp 15), type := 0, pos := "help.go:113", after := #[{ on := 5, ground := Ground.data }, { on := 3, ground := Ground.guard }], guard := some (3, false) } : Oper)) (v := ?vam6) rfl (by kernel_rfl) (by kernel_rfl) (by kernel_rfl) (fun _ _ _ h => h) (Or.inl ⟨by rfl, fun w hSw => ?hyam6⟩) (by assumption) ?ram6
  case hyam6 => (try dsimp only at hSw); go_simp; (try with_reducible rfl)
  (try simp only [Act.put, List.setIfInBounds_toArray, List.set_cons_zero, List.set_cons_succ])
  refine wpAnyH_take (i := 7) (oi := ({ dst := some 17, op := Op.fieldAddr 74 (Operand.tmp 16) 0, type := 0, pos := "help.go:113", after := #[{ on := 6, ground := Ground.data }, { on := 3, ground := Ground.guard }], guard := some (3, false) } : Oper)) (v := ?vam7) rfl (by kernel_rfl) (by kernel_rfl) (by kernel_rfl) (fun _ _ _ h => h) (Or.inl ⟨by rfl, fun w hSw => ?hyam7⟩) (by assumption) ?ram7
  case hyam7 => (try dsimp only at hSw); go_simp; (try with_reducible rfl)
  (try simp only [Act.put, List.setIfInBounds_toArray, List.set_cons_zero, List.set_cons_succ])
  refine wpAnyH_take (i := 8) (oi := ({ dst := some 18, op := Op.load 66 (Operand.tmp 17), type := 66, pos := "help.go:113", after := #[{ on := 7, ground := Ground.data }, { on := 3, ground := Ground.guard }], guard := some (3, false) } : Oper)) (v := ?vam8) rfl (by kernel_rfl) (by kernel_rfl) (by kernel_rfl) (fun _ _ _ h => h) (Or.inl ⟨by rfl, fun w hSw => ?hyam8⟩) (by assumption) ?ram8
  case hyam8 => (try dsimp only at hSw); go_simp; (try with_reducible rfl)
  (try simp only [Act.put, List.setIfInBounds_toArray, List.set_cons_zero, List.set_cons_succ])
  refine wpAnyH_take (i := 9) (oi := ({ dst := some 19, op := Op.fieldAddr 36 (Operand.tmp 1) 1, type := 0, pos := "help.go:113", after := #[{ on := 3, ground := Ground.guard }], guard := some (3, false) } : Oper)) (v := ?vam9) rfl (by kernel_rfl) (by kernel_rfl) (by kernel_rfl) (fun _ _ _ h => h) (Or.inl ⟨by rfl, fun w hSw => ?hyam9⟩) (by assumption) ?ram9
  case hyam9 => (try dsimp only at hSw); go_simp; (try with_reducible rfl)
  (try simp only [Act.put, List.setIfInBounds_toArray, List.set_cons_zero, List.set_cons_succ])
  refine wpAnyH_take (i := 10) (oi := ({ dst := some 20, op := Op.load 34 (Operand.tmp 19), type := 34, pos := "help.go:113", after := #[{ on := 9, ground := Ground.data }, { on := 3, ground := Ground.guard }], guard := some (3, false) } : Oper)) (v := ?vam10) rfl (by kernel_rfl) (by kernel_rfl) (by kernel_rfl) (fun _ _ _ h => h) (Or.inl ⟨by rfl, fun w hSw => ?hyam10⟩) (by assumption) ?ram10
  case hyam10 => (try dsimp only at hSw); go_simp; (try with_reducible rfl)
  (try simp only [Act.put, List.setIfInBounds_toArray, List.set_cons_zero, List.set_cons_succ])
  refine wpAnyH_take (i := 11) (oi := ({ dst := some 21, op := Op.nilCheck (Operand.tmp 20), type := 0, pos := "help.go:113", after := #[{ on := 10, ground := Ground.data }, { on := 3, ground := Ground.guard }], guard := some (3, false) } : Oper)) (v := ?vam11) rfl (by kernel_rfl) (by kernel_rfl) (by kernel_rfl) (fun _ _ _ h => h) (Or.inl ⟨by rfl, fun w hSw => ?hyam11⟩) (by assumption) ?ram11
  case hyam11 => (try dsimp only at hSw); go_simp; (try with_reducible rfl)
  (try simp only [Act.put, List.setIfInBounds_toArray, List.set_cons_zero, List.set_cons_succ])
  refine wpAnyH_take (i := 12) (oi := ({ dst := some 22, op := Op.fieldAddr 95 (Operand.tmp 21) 0, type := 0, pos := "help.go:113", after := #[{ on := 11, ground := Ground.data }, { on := 3, ground := Ground.guard }], guard := some (3, false) } : Oper)) (v := ?vam12) rfl (by kernel_rfl) (by kernel_rfl) (by kernel_rfl) (fun _ _ _ h => h) (Or.inl ⟨by rfl, fun w hSw => ?hyam12⟩) (by assumption) ?ram12
  case hyam12 => (try dsimp only at hSw); go_simp; (try with_reducible rfl)
  (try simp only [Act.put, List.setIfInBounds_toArray, List.set_cons_zero, List.set_cons_succ])
  refine wpAnyH_take (i := 13) (oi := ({ dst := some 23, op := Op.load 88 (Operand.tmp 22), type := 88, pos := "help.go:113", after := #[{ on := 12, ground := Ground.data }, { on := 3, ground := Ground.guard }], guard := some (3, false) } : Oper)) (v := ?vam13) rfl (by kernel_rfl) (by kernel_rfl) (by kernel_rfl) (fun _ _ _ h => h) (Or.inl ⟨by rfl, fun w hSw => ?hyam13⟩) (by assumption) ?ram13
  case hyam13 => (try dsimp only at hSw); go_simp; (try with_reducible rfl)
  (try simp only [Act.put, List.setIfInBounds_toArray, List.set_cons_zero, List.set_cons_succ])
  refine wpAnyH_ready (rs := [14]) (by kernel_rfl) (by simp) ?_
  refine AllReadyH.cons (o := ({ dst := some 24, op := Op.call { callee := Callee.value (Operand.func 55), args := #[Operand.tmp 18, Operand.tmp 23], argTypes := #[66, 88] }, type := 4, pos := "help.go:113", after := #[{ on := 8, ground := Ground.data }, { on := 13, ground := Ground.data }, { on := 3, ground := Ground.chain }, { on := 3, ground := Ground.guard }], guard := some (3, false) } : Oper)) rfl (fun Kq hKq => ?_) AllReadyH.nil
  go_simp
  (refine (HS2.out _ hHeld.1).mono ?_; rintro e w3 ⟨rfl, hb⟩)
  refine hKq.out _ _ ?_ (fun hHeld => ?_)
  · exact SaF.new hHeld hb
  clear hKq Kq
  (try simp only [Act.put, List.setIfInBounds_toArray, List.set_cons_zero, List.set_cons_succ])
  refine wpAnyH_take (i := 15) (oi := ({ dst := some 25, op := Op.unOp UnOp.not 4 (Operand.tmp 24), type := 4, pos := "help.go:113", after := #[{ on := 14, ground := Ground.data }, { on := 3, ground := Ground.guard }], guard := some (3, false) } : Oper)) (v := ?vam14) rfl (by kernel_rfl) (by kernel_rfl) (by kernel_rfl) (fun _ _ _ h => h) (Or.inl ⟨by rfl, fun w hSw => ?hyam14⟩) (by assumption) ?ram14
  case hyam14 => (try dsimp only at hSw); go_simp; (try with_reducible rfl)
  (try simp only [Act.put, List.setIfInBounds_toArray, List.set_cons_zero, List.set_cons_succ])
  refine wpAnyH_take (i := 16) (oi := ({ dst := some 26, op := Op.pick (Operand.tmp 13) (Operand.const (Value.bool true)) (Operand.tmp 25), type := 4, pos := "help.go:113", after := #[{ on := 3, ground := Ground.data }, { on := 15, ground := Ground.data }], guard := none } : Oper)) (v := ?vam15) rfl (by kernel_rfl) (by kernel_rfl) (by kernel_rfl) (fun _ _ _ h => h) (Or.inl ⟨by rfl, fun w hSw => ?hyam15⟩) (by assumption) ?ram15
  case hyam15 => (try dsimp only at hSw); go_simp; (try with_reducible rfl)
  (try simp only [Act.put, List.setIfInBounds_toArray, List.set_cons_zero, List.set_cons_succ])
  refine wpAnyH_take (i := 17) (oi := ({ dst := some 27, op := Op.move (Operand.tmp 26), type := 4, pos := "help.go:113", after := #[{ on := 16, ground := Ground.data }, { on := 14, ground := Ground.chain }], guard := none } : Oper)) (v := ?vam16) rfl (by kernel_rfl) (by kernel_rfl) (by kernel_rfl) (fun _ _ _ h => h) (Or.inl ⟨by rfl, fun w hSw => ?hyam16⟩) (by assumption) ?ram16
  case hyam16 => (try dsimp only at hSw); go_simp; (try with_reducible rfl)
  (try simp only [Act.put, List.setIfInBounds_toArray, List.set_cons_zero, List.set_cons_succ])
  refine wpAnyH_take (i := 18) (oi := ({ dst := some 28, op := Op.fieldAddr 36 (Operand.tmp 1) 0, type := 0, pos := "help.go:113", after := #[{ on := 17, ground := Ground.guard }], guard := some (17, false) } : Oper)) (v := ?vam17) rfl (by kernel_rfl) (by kernel_rfl) (by kernel_rfl) (fun _ _ _ h => h) (Or.inl ⟨by rfl, fun w hSw => ?hyam17⟩) (by assumption) ?ram17
  case hyam17 => (try dsimp only at hSw); go_simp; (try with_reducible rfl)
  (try simp only [Act.put, List.setIfInBounds_toArray, List.set_cons_zero, List.set_cons_succ])
  refine wpAnyH_take (i := 19) (oi := ({ dst := some 29, op := Op.load 33 (Operand.tmp 28), type := 33, pos := "help.go:113", after := #[{ on := 18, ground := Ground.data }, { on := 17, ground := Ground.guard }], guard := some (17, false) } : Oper)) (v := ?vam18) rfl (by kernel_rfl) (by kernel_rfl) (by kernel_rfl) (fun _ _ _ h => h) (Or.inl ⟨by rfl, fun w hSw => ?hyam18⟩) (by assumption) ?ram18
  case hyam18 => (try dsimp only at hSw); go_simp; (try with_reducible rfl)
  (try simp only [Act.put, List.setIfInBounds_toArray, List.set_cons_zero, List.set_cons_succ])
  refine wpAnyH_take (i := 20) (oi := ({ dst := some 30, op := Op.nilCheck (Operand.tmp 29), type := 0, pos := "help.go:113", after := #[{ on := 19, ground := Ground.data }, { on := 17, ground := Ground.guard }], guard := some (17, false) } : Oper)) (v := ?vam19) rfl (by kernel_rfl) (by kernel_rfl) (by kernel_rfl) (fun _ _ _ h => h) (Or.inl ⟨by rfl, fun w hSw => ?hyam19⟩) (by assumption) ?ram19
  case hyam19 => (try dsimp only at hSw); go_simp; (try with_reducible rfl)
  (try simp only [Act.put, List.setIfInBounds_toArray, List.set_cons_zero, List.set_cons_succ])
  refine wpAnyH_take (i := 21) (oi := ({ dst := some 31, op := Op.fieldAddr 74 (Operand.tmp 30) 5, type := 0, pos := "help.go:113", after := #[{ on := 20, ground := Ground.data }, { on := 17, ground := Ground.guard }], guard := some (17, false) } : Oper)) (v := ?vam20) rfl (by kernel_rfl) (by kernel_rfl) (by kernel_rfl) (fun _ _ _ h => h) (Or.inl ⟨by rfl, fun w hSw => ?hyam20⟩) (by assumption) ?ram20
  case hyam20 => (try dsimp only at hSw); go_simp; (try with_reducible rfl)
  (try simp only [Act.put, List.setIfInBounds_toArray, List.set_cons_zero, List.set_cons_succ])
  refine wpAnyH_take (i := 22) (oi := ({ dst := some 32, op := Op.load 71 (Operand.tmp 31), type := 71, pos := "help.go:113", after := #[{ on := 21, ground := Ground.data }, { on := 17, ground := Ground.guard }], guard := some (17, false) } : Oper)) (v := ?vam21) rfl (by kernel_rfl) (by kernel_rfl) (by kernel_rfl) (fun _ _ _ h => h) (Or.inl ⟨by rfl, fun w hSw => ?hyam21⟩) (by assumption) ?ram21
  case hyam21 => (try dsimp only at hSw); go_simp; (try with_reducible rfl)
  (try simp only [Act.put, List.setIfInBounds_toArray, List.set_cons_zero, List.set_cons_succ])
  refine wpAnyH_take (i := 24) (oi := ({ dst := some 34, op := Op.fieldAddr 36 (Operand.tmp 1) 1, type := 0, pos := "help.go:113", after := #[{ on := 17, ground := Ground.guard }], guard := some (17, false) } : Oper)) (v := ?vam22) rfl (by kernel_rfl) (by kernel_rfl) (by kernel_rfl) (fun _ _ _ h => h) (Or.inl ⟨by rfl, fun w hSw => ?hyam22⟩) (by assumption) ?ram22
  case hyam22 => (try dsimp only at hSw); go_simp; (try with_reducible rfl)
  (try simp only [Act.put, List.setIfInBounds_toArray, List.set_cons_zero, List.set_cons_succ])
  refine wpAnyH_take (i := 25) (oi := ({ dst := some 35, op := Op.load 34 (Operand.tmp 34), type := 34, pos := "help.go:113", after := #[{ on := 24, ground := Ground.data }, { on := 17, ground := Ground.guard }], guard := some (17, false) } : Oper)) (v := ?vam23) rfl (by kernel_rfl) (by kernel_rfl) (by kernel_rfl) (fun _ _ _ h => h) (Or.inl ⟨by rfl, fun w hSw => ?hyam23⟩) (by assumption) ?ram23
  case hyam23 => (try dsimp only at hSw); go_simp; (try with_reducible rfl)
  (try simp only [Act.put, List.setIfInBounds_toArray, List.set_cons_zero, List.set_cons_succ])
  refine wpAnyH_take (i := 26) (oi := ({ dst := some 36, op := Op.nilCheck (Operand.tmp 35), type := 0, pos := "help.go:113", after := #[{ on := 25, ground := Ground.data }, { on := 17, ground := Ground.guard }], guard := some (17, false) } : Oper)) (v := ?vam24) rfl (by kernel_rfl) (by kernel_rfl) (by kernel_rfl) (fun _ _ _ h => h) (Or.inl ⟨by rfl, fun w hSw => ?hyam24⟩) (by assumption) ?ram24
  case hyam24 => (try dsimp only at hSw); go_simp; (try with_reducible rfl)
  (try simp only [Act.put, List.setIfInBounds_toArray, List.set_cons_zero, List.set_cons_succ])
  refine wpAnyH_take (i := 27) (oi := ({ dst := some 37, op := Op.fieldAddr 95 (Operand.tmp 36) 5, type := 0, pos := "help.go:113", after := #[{ on := 26, ground := Ground.data }, { on := 17, ground := Ground.guard }], guard := some (17, false) } : Oper)) (v := ?vam25) rfl (by kernel_rfl) (by kernel_rfl) (by kernel_rfl) (fun _ _ _ h => h) (Or.inl ⟨by rfl, fun w hSw => ?hyam25⟩) (by assumption) ?ram25
  case hyam25 => (try dsimp only at hSw); go_simp; (try with_reducible rfl)
  (try simp only [Act.put, List.setIfInBounds_toArray, List.set_cons_zero, List.set_cons_succ])
  refine wpAnyH_take (i := 28) (oi := ({ dst := some 38, op := Op.load 93 (Operand.tmp 37), type := 93, pos := "help.go:113", after := #[{ on := 27, ground := Ground.data }, { on := 17, ground := Ground.guard }], guard := some (17, false) } : Oper)) (v := ?vam26) rfl (by kernel_rfl) (by kernel_rfl) (by kernel_rfl) (fun _ _ _ h => h) (Or.inl ⟨by rfl, fun w hSw => ?hyam26⟩) (by assumption) ?ram26
  case hyam26 => (try dsimp only at hSw); go_simp; (try with_reducible rfl)
  (try simp only [Act.put, List.setIfInBounds_toArray, List.set_cons_zero, List.set_cons_succ])
  refine wpAnyH_take (i := 29) (oi := ({ dst := some 39, op := Op.nilCheck (Operand.tmp 38), type := 0, pos := "help.go:113", after := #[{ on := 28, ground := Ground.data }, { on := 17, ground := Ground.guard }], guard := some (17, false) } : Oper)) (v := ?vam27) rfl (by kernel_rfl) (by kernel_rfl) (by kernel_rfl) (fun _ _ _ h => h) (Or.inl ⟨by rfl, fun w hSw => ?hyam27⟩) (by assumption) ?ram27
  case hyam27 => (try dsimp only at hSw); go_simp; (try with_reducible rfl)
  (try simp only [Act.put, List.setIfInBounds_toArray, List.set_cons_zero, List.set_cons_succ])
  refine wpAnyH_take (i := 30) (oi := ({ dst := some 40, op := Op.fieldAddr 143 (Operand.tmp 39) 0, type := 0, pos := "help.go:113", after := #[{ on := 29, ground := Ground.data }, { on := 17, ground := Ground.guard }], guard := some (17, false) } : Oper)) (v := ?vam28) rfl (by kernel_rfl) (by kernel_rfl) (by kernel_rfl) (fun _ _ _ h => h) (Or.inl ⟨by rfl, fun w hSw => ?hyam28⟩) (by assumption) ?ram28
  case hyam28 => (try dsimp only at hSw); go_simp; (try with_reducible rfl)
  (try simp only [Act.put, List.setIfInBounds_toArray, List.set_cons_zero, List.set_cons_succ])
  refine wpAnyH_take (i := 31) (oi := ({ dst := some 41, op := Op.load 141 (Operand.tmp 40), type := 141, pos := "help.go:113", after := #[{ on := 30, ground := Ground.data }, { on := 17, ground := Ground.guard }], guard := some (17, false) } : Oper)) (v := ?vam29) rfl (by kernel_rfl) (by kernel_rfl) (by kernel_rfl) (fun _ _ _ h => h) (Or.inl ⟨by rfl, fun w hSw => ?hyam29⟩) (by assumption) ?ram29
  case hyam29 => (try dsimp only at hSw); go_simp; (try with_reducible rfl)
  (try simp only [Act.put, List.setIfInBounds_toArray, List.set_cons_zero, List.set_cons_succ])
  refine wpAnyH_ready (rs := [23]) (by kernel_rfl) (by simp) ?_
  refine AllReadyH.cons (o := ({ dst := some 33, op := Op.call { callee := Callee.value (Operand.func 57), args := #[Operand.tmp 32], argTypes := #[71] }, type := 148, pos := "help.go:113", after := #[{ on := 22, ground := Ground.data }, { on := 17, ground := Ground.chain }, { on := 17, ground := Ground.guard }], guard := some (17, false) } : Oper)) rfl (fun Kq hKq => ?_) AllReadyH.nil
  go_simp
  (refine (HAL.out _ hHeld.1).mono ?_; rintro e w3 ⟨A9, rfl, hrow, hb⟩)
  refine hKq.out _ _ ?_ (fun hHeld => ?_)
  · exact SaF.new hHeld hb
  clear hKq Kq
  (try simp only [Act.put, List.setIfInBounds_toArray, List.set_cons_zero, List.set_cons_succ])
  obtain ⟨b9, hrow⟩ : ∃ b, Row w3 b 7 (.slice A9 nl nl) nl (flat .u8 D) ∧ b ≤ w3.heap.size := ⟨_, hrow, hb.size⟩
  refine wpAnyH_more (S' := fun w' => (Below w2.heap.size w2 w' ∧ w'.cell? ⟨B0, 0, none⟩ = some (Pw WB) ∧ w'.cell? ⟨B0, 1, none⟩ = some (Pw RB) ∧ w'.cell? ⟨WB, 0, none⟩ = some (Pw cB) ∧ w'.cell? ⟨WB, 1, none⟩ = some (Pw kB) ∧ w'.cell? ⟨WB, 4, none⟩ = some ts ∧ w'.cell? ⟨WB, 5, none⟩ = some (Pw nB) ∧ w'.cell? ⟨RB, 0, none⟩ = some (Pw rB) ∧ w'.cell? ⟨RB, 1, none⟩ = some (Pw rkB) ∧ w'.cell? ⟨RB, 4, none⟩ = some rts ∧ w'.cell? ⟨RB, 5, none⟩ = some (Pw rnB) ∧ w'.cell? ⟨rnB, 0, none⟩ = some (.slice nA nl nc) ∧ w'.cell? ⟨rkB, 0, none⟩ = some (.int .u64 (T : Int))) ∧ Row w' b9 7 (.slice A9 nl nl) nl (flat .u8 D)) (fun _ h => h.1) _ _ _ _ ?_
  have HB9 := Lib.hid hrow.2
  have hHeld : (fun w' => (Below w2.heap.size w2 w' ∧ w'.cell? ⟨B0, 0, none⟩ = some (Pw WB) ∧ w'.cell? ⟨B0, 1, none⟩ = some (Pw RB) ∧ w'.cell? ⟨WB, 0, none⟩ = some (Pw cB) ∧ w'.cell? ⟨WB, 1, none⟩ = some (Pw kB) ∧ w'.cell? ⟨WB, 4, none⟩ = some ts ∧ w'.cell? ⟨WB, 5, none⟩ = some (Pw nB) ∧ w'.cell? ⟨RB, 0, none⟩ = some (Pw rB) ∧ w'.cell? ⟨RB, 1, none⟩ = some (Pw rkB) ∧ w'.cell? ⟨RB, 4, none⟩ = some rts ∧ w'.cell? ⟨RB, 5, none⟩ = some (Pw rnB) ∧ w'.cell? ⟨rnB, 0, none⟩ = some (.slice nA nl nc) ∧ w'.cell? ⟨rkB, 0, none⟩ = some (.int .u64 (T : Int))) ∧ Row w' b9 7 (.slice A9 nl nl) nl (flat .u8 D)) w3 := ⟨hHeld, hrow.1⟩
  refine wpAnyH_ready (rs := [32]) (by kernel_rfl) (by simp) ?_
  refine AllReadyH.cons (o := ({ dst := some 42, op := Op.call { callee := Callee.value (Operand.func 56), args := #[Operand.tmp 33, Operand.tmp 41], argTypes := #[148, 141] }, type := 4, pos := "help.go:113", after := #[{ on := 23, ground := Ground.data }, { on := 31, ground := Ground.data }, { on := 23, ground := Ground.chain }, { on := 17, ground := Ground.guard }], guard := some (17, false) } : Oper)) rfl (fun Kq hKq => ?_) AllReadyH.nil
  go_simp
  (refine (HNS.out _ _ _ hHeld.1.1 () () hHeld.2).mono ?_; rintro e w3 ⟨rfl, hb⟩)
  refine hKq.out _ _ ?_ (fun hHeld => ?_)
  · exact ⟨SaF.new hHeld.1 hb, hHeld.2.keep (Turns.of_below (S := fun _ => False) hb) (fun _ _ e => e)⟩
  clear hKq Kq
  (try simp only [Act.put, List.setIfInBounds_toArray, List.set_cons_zero, List.set_cons_succ])
  refine wpAnyH_take (i := 33) (oi := ({ dst := some 43, op := Op.unOp UnOp.not 4 (Operand.tmp 42), type := 4, pos := "help.go:113", after := #[{ on := 32, ground := Ground.data }, { on := 17, ground := Ground.guard }], guard := some (17, false) } : Oper)) (v := ?vam30) rfl (by kernel_rfl) (by kernel_rfl) (by kernel_rfl) (fun _ _ _ h => h) (Or.inl ⟨by rfl, fun w hSw => ?hyam30⟩) (by assumption) ?ram30
  case hyam30 => (try dsimp only at hSw); go_simp; (try with_reducible rfl)
  (try simp only [Act.put, List.setIfInBounds_toArray, List.set_cons_zero, List.set_cons_succ])
  refine wpAnyH_take (i := 34) (oi := ({ dst := some 44, op := Op.pick (Operand.tmp 27) (Operand.const (Value.bool true)) (Operand.tmp 43), type := 4, pos := "help.go:113", after := #[{ on := 17, ground := Ground.data }, { on := 33, ground := Ground.data }], guard := none } : Oper)) (v := ?vam31) rfl (by kernel_rfl) (by kernel_rfl) (by kernel_rfl) (fun _ _ _ h => h) (Or.inl ⟨by rfl, fun w hSw => ?hyam31⟩) (by assumption) ?ram31
  case hyam31 => (try dsimp only at hSw); go_simp; (try with_reducible rfl)
  (try simp only [Act.put, List.setIfInBounds_toArray, List.set_cons_zero, List.set_cons_succ])
  refine wpAnyH_take (i := 35) (oi := ({ dst := some 45, op := Op.move (Operand.tmp 44), type := 4, pos := "help.go:113", after := #[{ on := 34, ground := Ground.data }, { on := 32, ground := Ground.chain }], guard := none } : Oper)) (v := ?vam32) rfl (by kernel_rfl) (by kernel_rfl) (by kernel_rfl) (fun _ _ _ h => h) (Or.inl ⟨by rfl, fun w hSw => ?hyam32⟩) (by assumption) ?ram32
  case hyam32 => (try dsimp only at hSw); go_simp; (try with_reducible rfl)
  (try simp only [Act.put, List.setIfInBounds_toArray, List.set_cons_zero, List.set_cons_succ])
  refine wpAnyH_take (i := 36) (oi := ({ dst := some 46, op := Op.fieldAddr 36 (Operand.tmp 1) 0, type := 0, pos := "help.go:113", after := #[{ on := 35, ground := Ground.guard }], guard := some (35, false) } : Oper)) (v := ?vam33) rfl (by kernel_rfl) (by kernel_rfl) (by kernel_rfl) (fun _ _ _ h => h) (Or.inl ⟨by rfl, fun w hSw => ?hyam33⟩) (by assumption) ?ram33
  case hyam33 => (try dsimp only at hSw); go_simp; (try with_reducible rfl)
  (try simp only [Act.put, List.setIfInBounds_toArray, List.set_cons_zero, List.set_cons_succ])
  refine wpAnyH_take (i := 37) (oi := ({ dst := some 47, op := Op.load 33 (Operand.tmp 46), type := 33, pos := "help.go:113", after := #[{ on := 36, ground := Ground.data }, { on := 35, ground := Ground.guard }], guard := some (35, false) } : Oper)) (v := ?vam34) rfl (by kernel_rfl) (by kernel_rfl) (by kernel_rfl) (fun _ _ _ h => h) (Or.inl ⟨by rfl, fun w hSw => ?hyam34⟩) (by assumption) ?ram34
  case hyam34 => (try dsimp only at hSw); go_simp; (try with_reducible rfl)
  (try simp only [Act.put, List.setIfInBounds_toArray, List.set_cons_zero, List.set_cons_succ])
  refine wpAnyH_take (i := 38) (oi := ({ dst := some 48, op := Op.nilCheck (Operand.tmp 47), type := 0, pos := "help.go:113", after := #[{ on := 37, ground := Ground.data }, { on := 35, ground := Ground.guard }], guard := some (35, false) } : Oper)) (v := ?vam35) rfl (by kernel_rfl) (by kernel_rfl) (by kernel_rfl) (fun _ _ _ h => h) (Or.inl ⟨by rfl, fun w hSw => ?hyam35⟩) (by assumption) ?ram35
  case hyam35 => (try dsimp only at hSw); go_simp; (try with_reducible rfl)
  (try simp only [Act.put, List.setIfInBounds_toArray, List.set_cons_zero, List.set_cons_succ])
  refine wpAnyH_take (i := 39) (oi := ({ dst := some 49, op := Op.fieldAddr 74 (Operand.tmp 48) 4, type := 0, pos := "help.go:113", after := #[{ on := 38, ground := Ground.data }, { on := 35, ground := Ground.guard }], guard := some (35, false) } : Oper)) (v := ?vam36) rfl (by kernel_rfl) (by kernel_rfl) (by kernel_rfl) (fun _ _ _ h => h) (Or.inl ⟨by rfl, fun w hSw => ?hyam36⟩) (by assumption) ?ram36
  case hyam36 => (try dsimp only at hSw); go_simp; (try with_reducible rfl)
  (try simp only [Act.put, List.setIfInBounds_toArray, List.set_cons_zero, List.set_cons_succ])
  refine wpAnyH_take (i := 40) (oi := ({ dst := some 50, op := Op.load 70 (Operand.tmp 49), type := 70, pos := "help.go:113", after := #[{ on := 39, ground := Ground.data }, { on := 35, ground := Ground.guard }], guard := some (35, false) } : Oper)) (v := ?vam37) rfl (by kernel_rfl) (by kernel_rfl) (by kernel_rfl) (fun _ _ _ h => h) (Or.inl ⟨by rfl, fun w hSw => ?hyam37⟩) (by assumption) ?ram37
  case hyam37 => (try dsimp only at hSw); go_simp; (try with_reducible rfl)
  (try simp only [Act.put, List.setIfInBounds_toArray, List.set_cons_zero, List.set_cons_succ])
  refine wpAnyH_take (i := 41) (oi := ({ dst := some 51, op := Op.fieldAddr 36 (Operand.tmp 1) 1, type := 0, pos := "help.go:113", after := #[{ on := 35, ground := Ground.guard }], guard := some (35, false) } : Oper)) (v := ?vam38) rfl (by kernel_rfl) (by kernel_rfl) (by kernel_rfl) (fun _ _ _ h => h) (Or.inl ⟨by rfl, fun w hSw => ?hyam38⟩) (by assumption) ?ram38
  case hyam38 => (try dsimp only at hSw); go_simp; (try with_reducible rfl)
  (try simp only [Act.put, List.setIfInBounds_toArray, List.set_cons_zero, List.set_cons_succ])
  refine wpAnyH_take (i := 42) (oi := ({ dst := some 52, op := Op.load 34 (Operand.tmp 51), type := 34, pos := "help.go:113", after := #[{ on := 41, ground := Ground.data }, { on := 35, ground := Ground.guard }], guard := some (35, false) } : Oper)) (v := ?vam39) rfl (by kernel_rfl) (by kernel_rfl) (by kernel_rfl) (fun _ _ _ h => h) (Or.inl ⟨by rfl, fun w hSw => ?hyam39⟩) (by assumption) ?ram39
  case hyam39 => (try dsimp only at hSw); go_simp; (try with_reducible rfl)
  (try simp only [Act.put, List.setIfInBounds_toArray, List.set_cons_zero, List.set_cons_succ])
  refine wpAnyH_take (i := 43) (oi := ({ dst := some 53, op := Op.nilCheck (Operand.tmp 52), type := 0, pos := "help.go:113", after := #[{ on := 42, ground := Ground.data }, { on := 35, ground := Ground.guard }], guard := some (35, false) } : Oper)) (v := ?vam40) rfl (by kernel_rfl) (by kernel_rfl) (by kernel_rfl) (fun _ _ _ h => h) (Or.inl ⟨by rfl, fun w hSw => ?hyam40⟩) (by assumption) ?ram40
  case hyam40 => (try dsimp only at hSw); go_simp; (try with_reducible rfl)
  (try simp only [Act.put, List.setIfInBounds_toArray, List.set_cons_zero, List.set_cons_succ])
  refine wpAnyH_take (i := 44) (oi := ({ dst := some 54, op := Op.fieldAddr 95 (Operand.tmp 53) 4, type := 0, pos := "help.go:113", after := #[{ on := 43, ground := Ground.data }, { on := 35, ground := Ground.guard }], guard := some (35, false) } : Oper)) (v := ?vam41) rfl (by kernel_rfl) (by kernel_rfl) (by kernel_rfl) (fun _ _ _ h => h) (Or.inl ⟨by rfl, fun w hSw => ?hyam41⟩) (by assumption) ?ram41
  case hyam41 => (try dsimp only at hSw); go_simp; (try with_reducible rfl)
  (try simp only [Act.put, List.setIfInBounds_toArray, List.set_cons_zero, List.set_cons_succ])
  refine wpAnyH_take (i := 45) (oi := ({ dst := some 55, op := Op.load 92 (Operand.tmp 54), type := 92, pos := "help.go:113", after := #[{ on := 44, ground := Ground.data }, { on := 35, ground := Ground.guard }], guard := some (35, false) } : Oper)) (v := ?vam42) rfl (by kernel_rfl) (by kernel_rfl) (by kernel_rfl) (fun _ _ _ h => h) (Or.inl ⟨by rfl, fun w hSw => ?hyam42⟩) (by assumption) ?ram42
  case hyam42 => (try dsimp only at hSw); go_simp; (try with_reducible rfl)
  (try simp only [Act.put, List.setIfInBounds_toArray, List.set_cons_zero, List.set_cons_succ])
  refine wpAnyH_ready (rs := [46]) (by kernel_rfl) (by simp) ?_
  refine AllReadyH.cons (o := ({ dst := some 56, op := Op.call { callee := Callee.value (Operand.func 58), args := #[Operand.tmp 50, Operand.tmp 55], argTypes := #[70, 92] }, type := 4, pos := "help.go:113", after := #[{ on := 40, ground := Ground.data }, { on := 45, ground := Ground.data }, { on := 35, ground := Ground.chain }, { on := 35, ground := Ground.guard }], guard := some (35, false) } : Oper)) rfl (fun Kq hKq => ?_) AllReadyH.nil
  go_simp
  (refine (HTS.out _ hHeld.1.1).mono ?_; rintro e w3 ⟨rfl, hb⟩)
  refine hKq.out _ _ ?_ (fun hHeld => ?_)
  · exact ⟨SaF.new hHeld.1 hb, hHeld.2.keep (Turns.of_below (S := fun _ => False) hb) (fun _ _ e => e)⟩
  clear hKq Kq
  (try simp only [Act.put, List.setIfInBounds_toArray, List.set_cons_zero, List.set_cons_succ])
  refine wpAnyH_take (i := 47) (oi := ({ dst := some 57, op := Op.unOp UnOp.not 4 (Operand.tmp 56), type := 4, pos := "help.go:113", after := #[{ on := 46, ground := Ground.data }, { on := 35, ground := Ground.guard }], guard := some (35, false) } : Oper)) (v := ?vam43) rfl (by kernel_rfl) (by kernel_rfl) (by kernel_rfl) (fun _ _ _ h => h) (Or.inl ⟨by rfl, fun w hSw => ?hyam43⟩) (by assumption) ?ram43
  case hyam43 => (try dsimp only at hSw); go_simp; (try with_reducible rfl)
  (try simp only [Act.put, List.setIfInBounds_toArray, List.set_cons_zero, List.set_cons_succ])
  refine wpAnyH_take (i := 48) (oi := ({ dst := some 58, op := Op.pick (Operand.tmp 45) (Operand.const (Value.bool true)) (Operand.tmp 57), type := 4, pos := "help.go:113", after := #[{ on := 35, ground := Ground.data }, { on := 47, ground := Ground.data }], guard := none } : Oper)) (v := ?vam44) rfl (by kernel_rfl) (by kernel_rfl) (by kernel_rfl) (fun _ _ _ h => h) (Or.inl ⟨by rfl, fun w hSw => ?hyam44⟩) (by assumption) ?ram44
  case hyam44 => (try dsimp only at hSw); go_simp; (try with_reducible rfl)
  (try simp only [Act.put, List.setIfInBounds_toArray, List.set_cons_zero, List.set_cons_succ])
  refine wpAnyH_take (i := 49) (oi := ({ dst := some 59, op := Op.move (Operand.tmp 58), type := 4, pos := "help.go:113", after := #[{ on := 48, ground := Ground.data }, { on := 46, ground := Ground.chain }], guard := none } : Oper)) (v := ?vam45) rfl (by kernel_rfl) (by kernel_rfl) (by kernel_rfl) (fun _ _ _ h => h) (Or.inl ⟨by rfl, fun w hSw => ?hyam45⟩) (by assumption) ?ram45
  case hyam45 => (try dsimp only at hSw); go_simp; (try with_reducible rfl)
  (try simp only [Act.put, List.setIfInBounds_toArray, List.set_cons_zero, List.set_cons_succ])
  refine wpAnyH_take (i := 50) (oi := ({ dst := some 60, op := Op.fieldAddr 36 (Operand.tmp 1) 0, type := 0, pos := "help.go:113", after := #[{ on := 49, ground := Ground.guard }], guard := some (49, false) } : Oper)) (v := ?vam46) rfl (by kernel_rfl) (by kernel_rfl) (by kernel_rfl) (fun _ _ _ h => h) (Or.inl ⟨by rfl, fun w hSw => ?hyam46⟩) (by assumption) ?ram46
  case hyam46 => (try dsimp only at hSw); go_simp; (try with_reducible rfl)
  (try simp only [Act.put, List.setIfInBounds_toArray, List.set_cons_zero, List.set_cons_succ])
  refine wpAnyH_take (i := 51) (oi := ({ dst := some 61, op := Op.load 33 (Operand.tmp 60), type := 33, pos := "help.go:113", after := #[{ on := 50, ground := Ground.data }, { on := 49, ground := Ground.guard }], guard := some (49, false) } : Oper)) (v := ?vam47) rfl (by kernel_rfl) (by kernel_rfl) (by kernel_rfl) (fun _ _ _ h => h) (Or.inl ⟨by rfl, fun w hSw => ?hyam47⟩) (by assumption) ?ram47
  case hyam47 => (try dsimp only at hSw); go_simp; (try with_reducible rfl)
  (try simp only [Act.put, List.setIfInBounds_toArray, List.set_cons_zero, List.set_cons_succ])
  refine wpAnyH_take (i := 52) (oi := ({ dst := some 62, op := Op.nilCheck (Operand.tmp 61), type := 0, pos := "help.go:113", after := #[{ on := 51, ground := Ground.data }, { on := 49, ground := Ground.guard }], guard := some (49, false) } : Oper)) (v := ?vam48) rfl (by kernel_rfl) (by kernel_rfl) (by kernel_rfl) (fun _ _ _ h => h) (Or.inl ⟨by rfl, fun w hSw => ?hyam48⟩) (by assumption) ?ram48
  case hyam48 => (try dsimp only at hSw); go_simp; (try with_reducible rfl)
  (try simp only [Act.put, List.setIfInBounds_toArray, List.set_cons_zero, List.set_cons_succ])
  refine wpAnyH_take (i := 53) (oi := ({ dst := some 63, op := Op.fieldAddr 74 (Operand.tmp 62) 7, type := 0, pos := "help.go:113", after := #[{ on := 52, ground := Ground.data }, { on := 49, ground := Ground.guard }], guard := some (49, false) } : Oper)) (v := ?vam49) rfl (by kernel_rfl) (by kernel_rfl) (by kernel_rfl) (fun _ _ _ h => h) (Or.inl ⟨by rfl, fun w hSw => ?hyam49⟩) (by assumption) ?ram49
  case hyam49 => (try dsimp only at hSw); go_simp; (try with_reducible rfl)
  (try simp only [Act.put, List.setIfInBounds_toArray, List.set_cons_zero, List.set_cons_succ])
  refine wpAnyH_take (i := 54) (oi := ({ dst := some 64, op := Op.load 72 (Operand.tmp 63), type := 72, pos := "help.go:113", after := #[{ on := 53, ground := Ground.data }, { on := 49, ground := Ground.guard }], guard := some (49, false) } : Oper)) (v := .agg Z64) rfl (by kernel_rfl) (by kernel_rfl) (by kernel_rfl) (fun _ _ _ h => h) (yieldsIf_load_mid (by rfl) 72 (Operand.tmp 63) rfl WB 7 (by rfl) Z64l _ (fun w hS => HTX.out w hS.1.1) under64 rfl info64) (by assumption) ?ram50
  skip
  (try simp only [Act.put, List.setIfInBounds_toArray, List.set_cons_zero, List.set_cons_succ])
  refine wpAnyH_take (i := 55) (oi := ({ dst := some 65, op := Op.fieldAddr 36 (Operand.tmp 1) 1, type := 0, pos := "help.go:113", after := #[{ on := 49, ground := Ground.guard }], guard := some (49, false) } : Oper)) (v := ?vam51) rfl (by kernel_rfl) (by kernel_rfl) (by kernel_rfl) (fun _ _ _ h => h) (Or.inl ⟨by rfl, fun w hSw => ?hyam51⟩) (by assumption) ?ram51
  case hyam51 => (try dsimp only at hSw); go_simp; (try with_reducible rfl)
  (try simp only [Act.put, List.setIfInBounds_toArray, List.set_cons_zero, List.set_cons_succ])
  refine wpAnyH_take (i := 56) (oi := ({ dst := some 66, op := Op.load 34 (Operand.tmp 65), type := 34, pos := "help.go:113", after := #[{ on := 55, ground := Ground.data }, { on := 49, ground := Ground.guard }], guard := some (49, false) } : Oper)) (v := ?vam52) rfl (by kernel_rfl) (by kernel_rfl) (by kernel_rfl) (fun _ _ _ h => h) (Or.inl ⟨by rfl, fun w hSw => ?hyam52⟩) (by assumption) ?ram52
  case hyam52 => (try dsimp only at hSw); go_simp; (try with_reducible rfl)
  (try simp only [Act.put, List.setIfInBounds_toArray, List.set_cons_zero, List.set_cons_succ])
  refine wpAnyH_take (i := 57) (oi := ({ dst := some 67, op := Op.nilCheck (Operand.tmp 66), type := 0, pos := "help.go:113", after := #[{ on := 56, ground := Ground.data }, { on := 49, ground := Ground.guard }], guard := some (49, false) } : Oper)) (v := ?vam53) rfl (by kernel_rfl) (by kernel_rfl) (by kernel_rfl) (fun _ _ _ h => h) (Or.inl ⟨by rfl, fun w hSw => ?hyam53⟩) (by assumption) ?ram53
  case hyam53 => (try dsimp only at hSw); go_simp; (try with_reducible rfl)
  (try simp only [Act.put, List.setIfInBounds_toArray, List.set_cons_zero, List.set_cons_succ])
  refine wpAnyH_take (i := 58) (oi := ({ dst := some 68, op := Op.fieldAddr 95 (Operand.tmp 67) 7, type := 0, pos := "help.go:113", after := #[{ on := 57, ground := Ground.data }, { on := 49, ground := Ground.guard }], guard := some (49, false) } : Oper)) (v := ?vam54) rfl (by kernel_rfl) (by kernel_rfl) (by kernel_rfl) (fun _ _ _ h => h) (Or.inl ⟨by rfl, fun w hSw => ?hyam54⟩) (by assumption) ?ram54
  case hyam54 => (try dsimp only at hSw); go_simp; (try with_reducible rfl)
  (try simp only [Act.put, List.setIfInBounds_toArray, List.set_cons_zero, List.set_cons_succ])
  refine wpAnyH_take (i := 59) (oi := ({ dst := some 69, op := Op.load 72 (Operand.tmp 68), type := 72, pos := "help.go:113", after := #[{ on := 58, ground := Ground.data }, { on := 49, ground := Ground.guard }], guard := some (49, false) } : Oper)) (v := .agg Z64) rfl (by kernel_rfl) (by kernel_rfl) (by kernel_rfl) (fun _ _ _ h => h) (yieldsIf_load_mid (by rfl) 72 (Operand.tmp 68) rfl RB 7 (by rfl) Z64l _ (fun w hS => HTY.out w hS.1.1) under64 rfl info64) (by assumption) ?ram55
  skip
  (try simp only [Act.put, List.setIfInBounds_toArray, List.set_cons_zero, List.set_cons_succ])
  refine wpAnyH_take (i := 60) (oi := ({ dst := some 70, op := Op.binOp BinOp.neq 72 (Operand.tmp 64) (Operand.tmp 69) 72, type := 4, pos := "help.go:113", after := #[{ on := 54, ground := Ground.data }, { on := 59, ground := Ground.data }, { on := 49, ground := Ground.guard }], guard := some (49, false) } : Oper)) (v := ?vam56) rfl (by kernel_rfl) (by kernel_rfl) (by kernel_rfl) (fun _ _ _ h => h) (Or.inl ⟨by rfl, fun w hSw => ?hyam56⟩) (by assumption) ?ram56
  case hyam56 => (try dsimp only at hSw); go_simp; (try with_reducible rfl)
  (try simp only [Act.put, List.setIfInBounds_toArray, List.set_cons_zero, List.set_cons_succ])
  refine wpAnyH_take (i := 61) (oi := ({ dst := some 71, op := Op.pick (Operand.tmp 59) (Operand.const (Value.bool true)) (Operand.tmp 70), type := 4, pos := "help.go:113", after := #[{ on := 49, ground := Ground.data }, { on := 60, ground := Ground.data }], guard := none } : Oper)) (v := ?vam57) rfl (by kernel_rfl) (by kernel_rfl) (by kernel_rfl) (fun _ _ _ h => h) (Or.inl ⟨by rfl, fun w hSw => ?hyam57⟩) (by assumption) ?ram57
  case hyam57 => (try dsimp only at hSw); go_simp; (try with_reducible rfl)
  (try simp only [Act.put, List.setIfInBounds_toArray, List.set_cons_zero, List.set_cons_succ])
  refine wpAnyH_take (i := 62) (oi := ({ dst := some 72, op := Op.move (Operand.tmp 71), type := 4, pos := "help.go:113", after := #[{ on := 61, ground := Ground.data }, { on := 49, ground := Ground.chain }], guard := none } : Oper)) (v := ?vam58) rfl (by kernel_rfl) (by kernel_rfl) (by kernel_rfl) (fun _ _ _ h => h) (Or.inl ⟨by rfl, fun w hSw => ?hyam58⟩) (by assumption) ?ram58
  case hyam58 => (try dsimp only at hSw); go_simp; (try with_reducible rfl)
  (try simp only [Act.put, List.setIfInBounds_toArray, List.set_cons_zero, List.set_cons_succ])
  refine wpAnyH_take (i := 63) (oi := ({ dst := some 73, op := Op.fieldAddr 36 (Operand.tmp 1) 0, type := 0, pos := "help.go:113", after := #[{ on := 62, ground := Ground.guard }], guard := some (62, false) } : Oper)) (v := ?vam59) rfl (by kernel_rfl) (by kernel_rfl) (by kernel_rfl) (fun _ _ _ h => h) (Or.inl ⟨by rfl, fun w hSw => ?hyam59⟩) (by assumption) ?ram59
  case hyam59 => (try dsimp only at hSw); go_simp; (try with_reducible rfl)
  (try simp only [Act.put, List.setIfInBounds_toArray, List.set_cons_zero, List.set_cons_succ])
  refine wpAnyH_take (i := 64) (oi := ({ dst := some 74, op := Op.load 33 (Operand.tmp 73), type := 33, pos := "help.go:113", after := #[{ on := 63, ground := Ground.data }, { on := 62, ground := Ground.guard }], guard := some (62, false) } : Oper)) (v := ?vam60) rfl (by kernel_rfl) (by kernel_rfl) (by kernel_rfl) (fun _ _ _ h => h) (Or.inl ⟨by rfl, fun w hSw => ?hyam60⟩) (by assumption) ?ram60
  case hyam60 => (try dsimp only at hSw); go_simp; (try with_reducible rfl)
  (try simp only [Act.put, List.setIfInBounds_toArray, List.set_cons_zero, List.set_cons_succ])
  refine wpAnyH_take (i := 65) (oi := ({ dst := some 75, op := Op.nilCheck (Operand.tmp 74), type := 0, pos := "help.go:113", after := #[{ on := 64, ground := Ground.data }, { on := 62, ground := Ground.guard }], guard := some (62, false) } : Oper)) (v := ?vam61) rfl (by kernel_rfl) (by kernel_rfl) (by kernel_rfl) (fun _ _ _ h => h) (Or.inl ⟨by rfl, fun w hSw => ?hyam61⟩) (by assumption) ?ram61
  case hyam61 => (try dsimp only at hSw); go_simp; (try with_reducible rfl)
  (try simp only [Act.put, List.setIfInBounds_toArray, List.set_cons_zero, List.set_cons_succ])
  refine wpAnyH_take (i := 66) (oi := ({ dst := some 76, op := Op.fieldAddr 74 (Operand.tmp 75) 1, type := 0, pos := "help.go:113", after := #[{ on := 65, ground := Ground.data }, { on := 62, ground := Ground.guard }], guard := some (62, false) } : Oper)) (v := ?vam62) rfl (by kernel_rfl) (by kernel_rfl) (by kernel_rfl) (fun _ _ _ h => h) (Or.inl ⟨by rfl, fun w hSw => ?hyam62⟩) (by assumption) ?ram62
  case hyam62 => (try dsimp only at hSw); go_simp; (try with_reducible rfl)
  (try simp only [Act.put, List.setIfInBounds_toArray, List.set_cons_zero, List.set_cons_succ])
  refine wpAnyH_take (i := 67) (oi := ({ dst := some 77, op := Op.load 67 (Operand.tmp 76), type := 67, pos := "help.go:113", after := #[{ on := 66, ground := Ground.data }, { on := 62, ground := Ground.guard }], guard := some (62, false) } : Oper)) (v := ?vam63) rfl (by kernel_rfl) (by kernel_rfl) (by kernel_rfl) (fun _ _ _ h => h) (Or.inl ⟨by rfl, fun w hSw => ?hyam63⟩) (by assumption) ?ram63
  case hyam63 => (try dsimp only at hSw); go_simp; (try with_reducible rfl)
  (try simp only [Act.put, List.setIfInBounds_toArray, List.set_cons_zero, List.set_cons_succ])
  refine wpAnyH_take (i := 69) (oi := ({ dst := some 79, op := Op.fieldAddr 36 (Operand.tmp 1) 1, type := 0, pos := "help.go:113", after := #[{ on := 62, ground := Ground.guard }], guard := some (62, false) } : Oper)) (v := ?vam64) rfl (by kernel_rfl) (by kernel_rfl) (by kernel_rfl) (fun _ _ _ h => h) (Or.inl ⟨by rfl, fun w hSw => ?hyam64⟩) (by assumption) ?ram64
  case hyam64 => (try dsimp only at hSw); go_simp; (try with_reducible rfl)
  (try simp only [Act.put, List.setIfInBounds_toArray, List.set_cons_zero, List.set_cons_succ])
  refine wpAnyH_take (i := 70) (oi := ({ dst := some 80, op := Op.load 34 (Operand.tmp 79), type := 34, pos := "help.go:113", after := #[{ on := 69, ground := Ground.data }, { on := 62, ground := Ground.guard }], guard := some (62, false) } : Oper)) (v := ?vam65) rfl (by kernel_rfl) (by kernel_rfl) (by kernel_rfl) (fun _ _ _ h => h) (Or.inl ⟨by rfl, fun w hSw => ?hyam65⟩) (by assumption) ?ram65
  case hyam65 => (try dsimp only at hSw); go_simp; (try with_reducible rfl)
  (try simp only [Act.put, List.setIfInBounds_toArray, List.set_cons_zero, List.set_cons_succ])
  refine wpAnyH_take (i := 71) (oi := ({ dst := some 81, op := Op.nilCheck (Operand.tmp 80), type := 0, pos := "help.go:113", after := #[{ on := 70, ground := Ground.data }, { on := 62, ground := Ground.guard }], guard := some (62, false) } : Oper)) (v := ?vam66) rfl (by kernel_rfl) (by kernel_rfl) (by kernel_rfl) (fun _ _ _ h => h) (Or.inl ⟨by rfl, fun w hSw => ?hyam66⟩) (by assumption) ?ram66
  case hyam66 => (try dsimp only at hSw); go_simp; (try with_reducible rfl)
  (try simp only [Act.put, List.setIfInBounds_toArray, List.set_cons_zero, List.set_cons_succ])
  refine wpAnyH_take (i := 72) (oi := ({ dst := some 82, op := Op.fieldAddr 95 (Operand.tmp 81) 1, type := 0, pos := "help.go:113", after := #[{ on := 71, ground := Ground.data }, { on := 62, ground := Ground.guard }], guard := some (62, false) } : Oper)) (v := ?vam67) rfl (by kernel_rfl) (by kernel_rfl) (by kernel_rfl) (fun _ _ _ h => h) (Or.inl ⟨by rfl, fun w hSw => ?hyam67⟩) (by assumption) ?ram67
  case hyam67 => (try dsimp only at hSw); go_simp; (try with_reducible rfl)
  (try simp only [Act.put, List.setIfInBounds_toArray, List.set_cons_zero, List.set_cons_succ])
  refine wpAnyH_take (i := 73) (oi := ({ dst := some 83, op := Op.load 89 (Operand.tmp 82), type := 89, pos := "help.go:113", after := #[{ on := 72, ground := Ground.data }, { on := 62, ground := Ground.guard }], guard := some (62, false) } : Oper)) (v := ?vam68) rfl (by kernel_rfl) (by kernel_rfl) (by kernel_rfl) (fun _ _ _ h => h) (Or.inl ⟨by rfl, fun w hSw => ?hyam68⟩) (by assumption) ?ram68
  case hyam68 => (try dsimp only at hSw); go_simp; (try with_reducible rfl)
  (try simp only [Act.put, List.setIfInBounds_toArray, List.set_cons_zero, List.set_cons_succ])
  refine wpAnyH_take (i := 74) (oi := ({ dst := some 84, op := Op.nilCheck (Operand.tmp 83), type := 0, pos := "help.go:113", after := #[{ on := 73, ground := Ground.data }, { on := 62, ground := Ground.guard }], guard := some (62, false) } : Oper)) (v := ?vam69) rfl (by kernel_rfl) (by kernel_rfl) (by kernel_rfl) (fun _ _ _ h => h) (Or.inl ⟨by rfl, fun w hSw => ?hyam69⟩) (by assumption) ?ram69
  case hyam69 => (try dsimp only at hSw); go_simp; (try with_reducible rfl)
  (try simp only [Act.put, List.setIfInBounds_toArray, List.set_cons_zero, List.set_cons_succ])
  refine wpAnyH_take (i := 75) (oi := ({ dst := some 85, op := Op.fieldAddr 145 (Operand.tmp 84) 0, type := 0, pos := "help.go:113", after := #[{ on := 74, ground := Ground.data }, { on := 62, ground := Ground.guard }], guard := some (62, false) } : Oper)) (v := ?vam70) rfl (by kernel_rfl) (by kernel_rfl) (by kernel_rfl) (fun _ _ _ h => h) (Or.inl ⟨by rfl, fun w hSw => ?hyam70⟩) (by assumption) ?ram70
  case hyam70 => (try dsimp only at hSw); go_simp; (try with_reducible rfl)
  (try simp only [Act.put, List.setIfInBounds_toArray, List.set_cons_zero, List.set_cons_succ])
  refine wpAnyH_take (i := 76) (oi := ({ dst := some 86, op := Op.load 22 (Operand.tmp 85), type := 22, pos := "help.go:113", after := #[{ on := 75, ground := Ground.data }, { on := 62, ground := Ground.guard }], guard := some (62, false) } : Oper)) (v := ?vam71) rfl (by kernel_rfl) (by kernel_rfl) (by kernel_rfl) (fun _ _ _ h => h) (Or.inl ⟨by rfl, fun w hSw => ?hyam71⟩) (by assumption) ?ram71
  case hyam71 => (try dsimp only at hSw); go_simp; (try with_reducible rfl)
  (try simp only [Act.put, List.setIfInBounds_toArray, List.set_cons_zero, List.set_cons_succ])
  refine wpAnyH_ready (rs := [68]) (by kernel_rfl) (by simp) ?_
  refine AllReadyH.cons (o := ({ dst := some 78, op := Op.call { callee := Callee.value (Operand.func 59), args := #[Operand.tmp 77], argTypes := #[67] }, type := 22, pos := "help.go:113", after := #[{ on := 67, ground := Ground.data }, { on := 62, ground := Ground.chain }, { on := 62, ground := Ground.guard }], guard := some (62, false) } : Oper)) rfl (fun Kq hKq => ?_) AllReadyH.nil
  go_simp
  (refine (HNW.out _ hHeld.1.1).mono ?_; rintro e w3 ⟨rfl, rfl⟩)
  refine hKq.out _ _ ?_ (fun hHeld => ?_)
  · exact hHeld
  clear hKq Kq
  (try simp only [Act.put, List.setIfInBounds_toArray, List.set_cons_zero, List.set_cons_succ])
  refine wpAnyH_take (i := 77) (oi := ({ dst := some 87, op := Op.binOp BinOp.neq 22 (Operand.tmp 78) (Operand.tmp 86) 22, type := 4, pos := "help.go:113", after := #[{ on := 68, ground := Ground.data }, { on := 76, ground := Ground.data }, { on := 62, ground := Ground.guard }], guard := some (62, false) } : Oper)) (v := ?vam72) rfl (by kernel_rfl) (by kernel_rfl) (by kernel_rfl) (fun _ _ _ h => h) (Or.inl ⟨by rfl, fun w hSw => ?hyam72⟩) (by assumption) ?ram72
  case hyam72 => (try dsimp only at hSw); go_simp; (try with_reducible rfl)
  (try simp only [Act.put, List.setIfInBounds_toArray, List.set_cons_zero, List.set_cons_succ])
  refine wpAnyH_take (i := 78) (oi := ({ dst := some 88, op := Op.pick (Operand.tmp 72) (Operand.const (Value.bool true)) (Operand.tmp 87), type := 4, pos := "help.go:113", after := #[{ on := 62, ground := Ground.data }, { on := 77, ground := Ground.data }], guard := none } : Oper)) (v := ?vam73) rfl (by kernel_rfl) (by kernel_rfl) (by kernel_rfl) (fun _ _ _ h => h) (Or.inl ⟨by rfl, fun w hSw => ?hyam73⟩) (by assumption) ?ram73
  case hyam73 => (try dsimp only at hSw); go_simp; (try with_reducible rfl)
  (try simp only [Act.put, List.setIfInBounds_toArray, List.set_cons_zero, List.set_cons_succ])
  refine wpAnyH_done (by kernel_rfl) ?_ _
  have HB3 := Lib.hid hHeld.1.1
  clear hHeld HSM HS2 HAL HNS HTS HNW HF HTX HTY hev
  have HAS := Lib.hid (fun (i : Nat) (hi : i < 128) (W : World) (q : Below w2.heap.size w2 W) => S4.asleep_yes (H2.out.new q).pr.pw.permits hi)
  have HGQ := Lib.hid (fun (i : Nat) (hi : i < 128) (now : Nat) (W : World) (q : Below w2.heap.size w2 W) => S4.pgoes_yes (H2.out.new q).pr.pw.permits hi now)
  have HRQ : Hid (∀ (i : Nat), i < 128 → ∀ (now : Nat) W, Below w2.heap.size w2 W → Calls Tryz.prog 61 #[Pw Y.pB, .int .i64 (i : Int), .int .u64 (now : Int)] W fun e w' => e = .returned (.bool (S4.goesB (X.pf i) now)) ∧ Below W.heap.size W w') := Lib.hid (fun i hi now W q => by
    have := S4.rgoes_yes (H2.out.new q).pr.rpermits hi now
    rw [← HE.out.1, S4.goes_both (H2.out.pok i) now] at this
    exact this)
  go_wp2_with fail
  go_loopg [3, 4] 128 (fun q s3 s4 wx => ∃ i : Nat, i ≤ 128 ∧ q = 128 - i ∧ s3 = .int .i64 (i : Int) ∧ Below w2.heap.size w2 wx)
  case atStart => exact ⟨0, by omega, rfl, rfl, HB3.out⟩
  case round =>
    obtain ⟨i, hi, rfl, rfl, hb⟩ := hrel
    have h3 := H2.out.new hb
    have e0 := (hb.block B0 (Array.getElem?_eq_some_iff.1 HQ0.out).1).trans HQ0.out
    have b0 := cell_row e0 0; have b1 := cell_row e0 1
    simp only [List.getElem?_toArray, List.getElem?_cons_zero, List.getElem?_cons_succ] at b0 b1
    by_cases hi8 : i < 128
    · have has := HAS.out i hi8
      have hg0 : ∀ W, Below w2.heap.size w2 W → Calls Tryz.prog 60 #[Pw X.pB, .int .i64 (i : Int), .int .u64 0] W fun e w' => e = .returned (.bool (S4.goesB (X.pf i) 0)) ∧ Below W.heap.size W w' := HGQ.out i hi8 0
      have hr0 : ∀ W, Below w2.heap.size w2 W → Calls Tryz.prog 61 #[Pw Y.pB, .int .i64 (i : Int), .int .u64 0] W fun e w' => e = .returned (.bool (S4.goesB (X.pf i) 0)) ∧ Below W.heap.size W w' := HRQ.out i hi8 0
      have hg1 : ∀ W, Below w2.heap.size w2 W → Calls Tryz.prog 60 #[Pw X.pB, .int .i64 (i : Int), .int .u64 18446744073709551615] W fun e w' => e = .returned (.bool (S4.goesB (X.pf i) 18446744073709551615)) ∧ Below W.heap.size W w' := HGQ.out i hi8 18446744073709551615
      have hr1 : ∀ W, Below w2.heap.size w2 W → Calls Tryz.prog 61 #[Pw Y.pB, .int .i64 (i : Int), .int .u64 18446744073709551615] W fun e w' => e = .returned (.bool (S4.goesB (X.pf i) 18446744073709551615)) ∧ Below W.heap.size W w' := HRQ.out i hi8 18446744073709551615
      generalize S4.goesB (X.pf i) 0 = g0 at *
      generalize S4.goesB (X.pf i) 18446744073709551615 = g1 at *
      have d1 : (i : Int) < 128 := by omega
      have k0 := h3.pr.rpermits.c0 i hi8; have k1 := h3.pr.rpermits.c1 i hi8; have k2 := h3.pr.rpermits.c2 i hi8; have k3 := h3.pr.rpermits.c3 i hi8
      rw [← HE.out.1] at k0 k1 k2 k3
      have r2 := h3.pr.r2
      rw [h3.rB] at r2
      have x2 := h3.pr.pw.c2
      rw [h3.wB] at x2
      generalize X.pf i = pk at *
      obtain ⟨pp, pa, po, pt⟩ := pk
      dsimp only at k0 k1 k2 k3 has
      obtain ⟨pB, hpB⟩ : ∃ x, x = X.pB := ⟨_, rfl⟩
      obtain ⟨rpB, hrpB⟩ : ∃ x, x = Y.pB := ⟨_, rfl⟩
      rw [← hpB] at has hg0 hg1 x2; rw [← hrpB] at hr0 hr1 r2 k0 k1 k2 k3
      have HASI := Lib.hid has; have HGO0 := Lib.hid hg0; have HGO1 := Lib.hid hg1; have HRG0 := Lib.hid hr0; have HRG1 := Lib.hid hr1
      have HBR := Lib.hid hb
      have HI := Lib.hid hi8
      clear has hg0 hg1 hr0 hr1 h3 hpB hrpB e0 hi8 hi
      go_upto_region 7 with (fail)
      have hnx := heap_alloc_new wr (.cells #[.bool pp, .bool pa, .bool po, .int .u64 (pt : Int)] 137)
      have hby := below1 wr (.cells #[.bool pp, .bool pa, .bool po, .int .u64 (pt : Int)] 137)
      have y0 := bcell hby b0; have y1 := bcell hby b1; have y2 := bcell hby x2; have y3 := bcell hby r2
      have y4 := cell_row hnx 1
      simp only [List.getElem?_toArray, List.getElem?_cons_zero, List.getElem?_cons_succ] at y4
      have HBY := Lib.hid (HBR.out.trans (hby.mono HBR.out.size))
      obtain ⟨Bx, hBx⟩ : ∃ x, x = wr.heap.size := ⟨_, rfl⟩
      rw [← hBx] at y4 ⊢
      clear hnx hby b0 b1 x2 r2 k0 k1 k2 k3 hb hBx
      generalize wr.alloc (.cells #[.bool pp, .bool pa, .bool po, .int .u64 (pt : Int)] 137) = w4 at *
      have HF7 : Hid (w4.drew.cell? ⟨B0, 0, none⟩ = some (Pw WB) ∧ w4.drew.cell? ⟨B0, 1, none⟩ = some (Pw RB) ∧ w4.drew.cell? ⟨WB, 2, none⟩ = some (Pw pB) ∧ w4.drew.cell? ⟨RB, 2, none⟩ = some (Pw rpB) ∧ w4.drew.cell? ⟨Bx, 1, none⟩ = some (.bool pa)) := Lib.hid ⟨y0, y1, y2, y3, y4⟩
      clear y0 y1 y2 y3 y4
      refine wp_region_held_drew (S := fun w' => Below w2.heap.size w2 w' ∧ w'.cell? ⟨B0, 0, none⟩ = some (Pw WB) ∧ w'.cell? ⟨B0, 1, none⟩ = some (Pw RB) ∧ w'.cell? ⟨WB, 2, none⟩ = some (Pw pB) ∧ w'.cell? ⟨RB, 2, none⟩ = some (Pw rpB) ∧ w'.cell? ⟨Bx, 1, none⟩ = some (.bool pa)) (by kernel_rfl) ?_ (fun hHeld => ?_)
      · exact ⟨HBY.out.drew, HF7.out⟩
      refine wpAnyH_take (i := 0) (oi := ({ dst := some 103, op := Op.fieldAddr 36 (Operand.tmp 1) 0, type := 0, pos := "help.go:118", after := #[], guard := none } : Oper)) (v := ?vbm1) rfl (by kernel_rfl) (by kernel_rfl) (by kernel_rfl) (fun _ _ _ h => h) (Or.inl ⟨by rfl, fun w hSw => ?hybm1⟩) (by assumption) ?rbm1
      case hybm1 => (try dsimp only at hSw); go_simp; (try with_reducible rfl)
      (try simp only [Act.put, List.setIfInBounds_toArray, List.set_cons_zero, List.set_cons_succ])
      refine wpAnyH_take (i := 1) (oi := ({ dst := some 104, op := Op.load 33 (Operand.tmp 103), type := 33, pos := "help.go:118", after := #[{ on := 0, ground := Ground.data }], guard := none } : Oper)) (v := ?vbm2) rfl (by kernel_rfl) (by kernel_rfl) (by kernel_rfl) (fun _ _ _ h => h) (Or.inl ⟨by rfl, fun w hSw => ?hybm2⟩) (by assumption) ?rbm2
      case hybm2 => (try dsimp only at hSw); go_simp; (try with_reducible rfl)
      (try simp only [Act.put, List.setIfInBounds_toArray, List.set_cons_zero, List.set_cons_succ])
      refine wpAnyH_take (i := 2) (oi := ({ dst := some 105, op := Op.nilCheck (Operand.tmp 104), type := 0, pos := "help.go:118", after := #[{ on := 1, ground := Ground.data }], guard := none } : Oper)) (v := ?vbm3) rfl (by kernel_rfl) (by kernel_rfl) (by kernel_rfl) (fun _ _ _ h => h) (Or.inl ⟨by rfl, fun w hSw => ?hybm3⟩) (by assumption) ?rbm3
      case hybm3 => (try dsimp only at hSw); go_simp; (try with_reducible rfl)
      (try simp only [Act.put, List.setIfInBounds_toArray, List.set_cons_zero, List.set_cons_succ])
      refine wpAnyH_take (i := 3) (oi := ({ dst := some 106, op := Op.fieldAddr 74 (Operand.tmp 105) 2, type := 0, pos := "help.go:118", after := #[{ on := 2, ground := Ground.data }], guard := none } : Oper)) (v := ?vbm4) rfl (by kernel_rfl) (by kernel_rfl) (by kernel_rfl) (fun _ _ _ h => h) (Or.inl ⟨by rfl, fun w hSw => ?hybm4⟩) (by assumption) ?rbm4
      case hybm4 => (try dsimp only at hSw); go_simp; (try with_reducible rfl)
      (try simp only [Act.put, List.setIfInBounds_toArray, List.set_cons_zero, List.set_cons_succ])
      refine wpAnyH_take (i := 4) (oi := ({ dst := some 107, op := Op.load 68 (Operand.tmp 106), type := 68, pos := "help.go:118", after := #[{ on := 3, ground := Ground.data }], guard := none } : Oper)) (v := ?vbm5) rfl (by kernel_rfl) (by kernel_rfl) (by kernel_rfl) (fun _ _ _ h => h) (Or.inl ⟨by rfl, fun w hSw => ?hybm5⟩) (by assumption) ?rbm5
      case hybm5 => (try dsimp only at hSw); go_simp; (try with_reducible rfl)
      (try simp only [Act.put, List.setIfInBounds_toArray, List.set_cons_zero, List.set_cons_succ])
      refine wpAnyH_take (i := 5) (oi := ({ dst := some 108, op := Op.move (Operand.tmp 3), type := 3, pos := "help.go:118", after := #[], guard := none } : Oper)) (v := ?vbm6) rfl (by kernel_rfl) (by kernel_rfl) (by kernel_rfl) (fun _ _ _ h => h) (Or.inl ⟨by rfl, fun w hSw => ?hybm6⟩) (by assumption) ?rbm6
      case hybm6 => (try dsimp only at hSw); go_simp; (try with_reducible rfl)
      (try simp only [Act.put, List.setIfInBounds_toArray, List.set_cons_zero, List.set_cons_succ])
      refine wpAnyH_take (i := 7) (oi := ({ dst := some 110, op := Op.fieldAddr 137 (Operand.tmp 4) 1, type := 0, pos := "help.go:118", after := #[], guard := none } : Oper)) (v := ?vbm7) rfl (by kernel_rfl) (by kernel_rfl) (by kernel_rfl) (fun _ _ _ h => h) (Or.inl ⟨by rfl, fun w hSw => ?hybm7⟩) (by assumption) ?rbm7
      case hybm7 => (try dsimp only at hSw); go_simp; (try with_reducible rfl)
      (try simp only [Act.put, List.setIfInBounds_toArray, List.set_cons_zero, List.set_cons_succ])
      refine wpAnyH_take (i := 8) (oi := ({ dst := some 111, op := Op.load 4 (Operand.tmp 110), type := 4, pos := "help.go:118", after := #[{ on := 7, ground := Ground.data }], guard := none } : Oper)) (v := ?vbm8) rfl (by kernel_rfl) (by kernel_rfl) (by kernel_rfl) (fun _ _ _ h => h) (Or.inl ⟨by rfl, fun w hSw => ?hybm8⟩) (by assumption) ?rbm8
      case hybm8 => (try dsimp only at hSw); go_simp; (try with_reducible rfl)
      (try simp only [Act.put, List.setIfInBounds_toArray, List.set_cons_zero, List.set_cons_succ])
      refine wpAnyH_ready (rs := [6]) (by kernel_rfl) (by simp) ?_
      refine AllReadyH.cons (o := ({ dst := some 109, op := Op.call { callee := Callee.value (Operand.func 21), args := #[Operand.tmp 107, Operand.tmp 108], argTypes := #[68, 3] }, type := 4, pos := "help.go:118", after := #[{ on := 4, ground := Ground.data }, { on := 5, ground := Ground.data }], guard := none } : Oper)) rfl (fun Kq hKq => ?_) AllReadyH.nil
      go_simp
      (refine (HASI.out _ hHeld.1).mono ?_; rintro e w3 ⟨rfl, rfl⟩)
      refine hKq.out _ _ ?_ (fun hHeld => ?_)
      · exact hHeld
      clear hKq Kq
      (try simp only [Act.put, List.setIfInBounds_toArray, List.set_cons_zero, List.set_cons_succ])
      refine wpAnyH_take (i := 9) (oi := ({ dst := some 112, op := Op.binOp BinOp.neq 4 (Operand.tmp 109) (Operand.tmp 111) 4, type := 4, pos := "help.go:118", after := #[{ on := 6, ground := Ground.data }, { on := 8, ground := Ground.data }], guard := none } : Oper)) (v := ?vbm9) rfl (by kernel_rfl) (by kernel_rfl) (by kernel_rfl) (fun _ _ _ h => h) (Or.inl ⟨by rfl, fun w hSw => ?hybm9⟩) (by assumption) ?rbm9
      case hybm9 => (try dsimp only at hSw); go_simp; (try with_reducible rfl)
      (try simp only [Act.put, List.setIfInBounds_toArray, List.set_cons_zero, List.set_cons_succ])
      refine wpAnyH_take (i := 10) (oi := ({ dst := some 113, op := Op.move (Operand.tmp 112), type := 4, pos := "help.go:118", after := #[{ on := 9, ground := Ground.data }, { on := 6, ground := Ground.chain }], guard := none } : Oper)) (v := ?vbm10) rfl (by kernel_rfl) (by kernel_rfl) (by kernel_rfl) (fun _ _ _ h => h) (Or.inl ⟨by rfl, fun w hSw => ?hybm10⟩) (by assumption) ?rbm10
      case hybm10 => (try dsimp only at hSw); go_simp; (try with_reducible rfl)
      (try simp only [Act.put, List.setIfInBounds_toArray, List.set_cons_zero, List.set_cons_succ])
      refine wpAnyH_take (i := 11) (oi := ({ dst := some 114, op := Op.fieldAddr 36 (Operand.tmp 1) 0, type := 0, pos := "help.go:118", after := #[{ on := 10, ground := Ground.guard }], guard := some (10, false) } : Oper)) (v := ?vbm11) rfl (by kernel_rfl) (by kernel_rfl) (by kernel_rfl) (fun _ _ _ h => h) (Or.inl ⟨by rfl, fun w hSw => ?hybm11⟩) (by assumption) ?rbm11
      case hybm11 => (try dsimp only at hSw); go_simp; (try with_reducible rfl)
      (try simp only [Act.put, List.setIfInBounds_toArray, List.set_cons_zero, List.set_cons_succ])
      refine wpAnyH_take (i := 12) (oi := ({ dst := some 115, op := Op.load 33 (Operand.tmp 114), type := 33, pos := "help.go:118", after := #[{ on := 11, ground := Ground.data }, { on := 10, ground := Ground.guard }], guard := some (10, false) } : Oper)) (v := ?vbm12) rfl (by kernel_rfl) (by kernel_rfl) (by kernel_rfl) (fun _ _ _ h => h) (Or.inl ⟨by rfl, fun w hSw => ?hybm12⟩) (by assumption) ?rbm12
      case hybm12 => (try dsimp only at hSw); go_simp; (try with_reducible rfl)
      (try simp only [Act.put, List.setIfInBounds_toArray, List.set_cons_zero, List.set_cons_succ])
      refine wpAnyH_take (i := 13) (oi := ({ dst := some 116, op := Op.nilCheck (Operand.tmp 115), type := 0, pos := "help.go:118", after := #[{ on := 12, ground := Ground.data }, { on := 10, ground := Ground.guard }], guard := some (10, false) } : Oper)) (v := ?vbm13) rfl (by kernel_rfl) (by kernel_rfl) (by kernel_rfl) (fun _ _ _ h => h) (Or.inl ⟨by rfl, fun w hSw => ?hybm13⟩) (by assumption) ?rbm13
      case hybm13 => (try dsimp only at hSw); go_simp; (try with_reducible rfl)
      (try simp only [Act.put, List.setIfInBounds_toArray, List.set_cons_zero, List.set_cons_succ])
      refine wpAnyH_take (i := 14) (oi := ({ dst := some 117, op := Op.fieldAddr 74 (Operand.tmp 116) 2, type := 0, pos := "help.go:118", after := #[{ on := 13, ground := Ground.data }, { on := 10, ground := Ground.guard }], guard := some (10, false) } : Oper)) (v := ?vbm14) rfl (by kernel_rfl) (by kernel_rfl) (by kernel_rfl) (fun _ _ _ h => h) (Or.inl ⟨by rfl, fun w hSw => ?hybm14⟩) (by assumption) ?rbm14
      case hybm14 => (try dsimp only at hSw); go_simp; (try with_reducible rfl)
      (try simp only [Act.put, List.setIfInBounds_toArray, List.set_cons_zero, List.set_cons_succ])
      refine wpAnyH_take (i := 15) (oi := ({ dst := some 118, op := Op.load 68 (Operand.tmp 117), type := 68, pos := "help.go:118", after := #[{ on := 14, ground := Ground.data }, { on := 10, ground := Ground.guard }], guard := some (10, false) } : Oper)) (v := ?vbm15) rfl (by kernel_rfl) (by kernel_rfl) (by kernel_rfl) (fun _ _ _ h => h) (Or.inl ⟨by rfl, fun w hSw => ?hybm15⟩) (by assumption) ?rbm15
      case hybm15 => (try dsimp only at hSw); go_simp; (try with_reducible rfl)
      (try simp only [Act.put, List.setIfInBounds_toArray, List.set_cons_zero, List.set_cons_succ])
      refine wpAnyH_take (i := 16) (oi := ({ dst := some 119, op := Op.move (Operand.tmp 3), type := 3, pos := "help.go:118", after := #[{ on := 10, ground := Ground.guard }], guard := some (10, false) } : Oper)) (v := ?vbm16) rfl (by kernel_rfl) (by kernel_rfl) (by kernel_rfl) (fun _ _ _ h => h) (Or.inl ⟨by rfl, fun w hSw => ?hybm16⟩) (by assumption) ?rbm16
      case hybm16 => (try dsimp only at hSw); go_simp; (try with_reducible rfl)
      (try simp only [Act.put, List.setIfInBounds_toArray, List.set_cons_zero, List.set_cons_succ])
      refine wpAnyH_take (i := 18) (oi := ({ dst := some 121, op := Op.fieldAddr 36 (Operand.tmp 1) 1, type := 0, pos := "help.go:118", after := #[{ on := 10, ground := Ground.guard }], guard := some (10, false) } : Oper)) (v := ?vbm17) rfl (by kernel_rfl) (by kernel_rfl) (by kernel_rfl) (fun _ _ _ h => h) (Or.inl ⟨by rfl, fun w hSw => ?hybm17⟩) (by assumption) ?rbm17
      case hybm17 => (try dsimp only at hSw); go_simp; (try with_reducible rfl)
      (try simp only [Act.put, List.setIfInBounds_toArray, List.set_cons_zero, List.set_cons_succ])
      refine wpAnyH_take (i := 19) (oi := ({ dst := some 122, op := Op.load 34 (Operand.tmp 121), type := 34, pos := "help.go:118", after := #[{ on := 18, ground := Ground.data }, { on := 10, ground := Ground.guard }], guard := some (10, false) } : Oper)) (v := ?vbm18) rfl (by kernel_rfl) (by kernel_rfl) (by kernel_rfl) (fun _ _ _ h => h) (Or.inl ⟨by rfl, fun w hSw => ?hybm18⟩) (by assumption) ?rbm18
      case hybm18 => (try dsimp only at hSw); go_simp; (try with_reducible rfl)
      (try simp only [Act.put, List.setIfInBounds_toArray, List.set_cons_zero, List.set_cons_succ])
      refine wpAnyH_take (i := 20) (oi := ({ dst := some 123, op := Op.nilCheck (Operand.tmp 122), type := 0, pos := "help.go:118", after := #[{ on := 19, ground := Ground.data }, { on := 10, ground := Ground.guard }], guard := some (10, false) } : Oper)) (v := ?vbm19) rfl (by kernel_rfl) (by kernel_rfl) (by kernel_rfl) (fun _ _ _ h => h) (Or.inl ⟨by rfl, fun w hSw => ?hybm19⟩) (by assumption) ?rbm19
      case hybm19 => (try dsimp only at hSw); go_simp; (try with_reducible rfl)
      (try simp only [Act.put, List.setIfInBounds_toArray, List.set_cons_zero, List.set_cons_succ])
      refine wpAnyH_take (i := 21) (oi := ({ dst := some 124, op := Op.fieldAddr 95 (Operand.tmp 123) 2, type := 0, pos := "help.go:118", after := #[{ on := 20, ground := Ground.data }, { on := 10, ground := Ground.guard }], guard := some (10, false) } : Oper)) (v := ?vbm20) rfl (by kernel_rfl) (by kernel_rfl) (by kernel_rfl) (fun _ _ _ h => h) (Or.inl ⟨by rfl, fun w hSw => ?hybm20⟩) (by assumption) ?rbm20
      case hybm20 => (try dsimp only at hSw); go_simp; (try with_reducible rfl)
      (try simp only [Act.put, List.setIfInBounds_toArray, List.set_cons_zero, List.set_cons_succ])
      refine wpAnyH_take (i := 22) (oi := ({ dst := some 125, op := Op.load 90 (Operand.tmp 124), type := 90, pos := "help.go:118", after := #[{ on := 21, ground := Ground.data }, { on := 10, ground := Ground.guard }], guard := some (10, false) } : Oper)) (v := ?vbm21) rfl (by kernel_rfl) (by kernel_rfl) (by kernel_rfl) (fun _ _ _ h => h) (Or.inl ⟨by rfl, fun w hSw => ?hybm21⟩) (by assumption) ?rbm21
      case hybm21 => (try dsimp only at hSw); go_simp; (try with_reducible rfl)
      (try simp only [Act.put, List.setIfInBounds_toArray, List.set_cons_zero, List.set_cons_succ])
      refine wpAnyH_take (i := 23) (oi := ({ dst := some 126, op := Op.move (Operand.tmp 3), type := 3, pos := "help.go:118", after := #[{ on := 10, ground := Ground.guard }], guard := some (10, false) } : Oper)) (v := ?vbm22) rfl (by kernel_rfl) (by kernel_rfl) (by kernel_rfl) (fun _ _ _ h => h) (Or.inl ⟨by rfl, fun w hSw => ?hybm22⟩) (by assumption) ?rbm22
      case hybm22 => (try dsimp only at hSw); go_simp; (try with_reducible rfl)
      (try simp only [Act.put, List.setIfInBounds_toArray, List.set_cons_zero, List.set_cons_succ])
      refine wpAnyH_ready (rs := [17]) (by kernel_rfl) (by simp) ?_
      refine AllReadyH.cons (o := ({ dst := some 120, op := Op.call { callee := Callee.value (Operand.func 60), args := #[Operand.tmp 118, Operand.tmp 119, Operand.const (Value.int IntKind.u64 0)], argTypes := #[68, 3, 22] }, type := 4, pos := "help.go:118", after := #[{ on := 15, ground := Ground.data }, { on := 16, ground := Ground.data }, { on := 10, ground := Ground.chain }, { on := 10, ground := Ground.guard }], guard := some (10, false) } : Oper)) rfl (fun Kq hKq => ?_) AllReadyH.nil
      go_simp
      (refine (HGO0.out _ hHeld.1).mono ?_; rintro e w3 ⟨rfl, hb⟩)
      refine hKq.out _ _ ?_ (fun hHeld => ?_)
      · exact SbF.new hHeld hb
      clear hKq Kq
      (try simp only [Act.put, List.setIfInBounds_toArray, List.set_cons_zero, List.set_cons_succ])
      refine wpAnyH_ready (rs := [24]) (by kernel_rfl) (by simp) ?_
      refine AllReadyH.cons (o := ({ dst := some 127, op := Op.call { callee := Callee.value (Operand.func 61), args := #[Operand.tmp 125, Operand.tmp 126, Operand.const (Value.int IntKind.u64 0)], argTypes := #[90, 3, 22] }, type := 4, pos := "help.go:118", after := #[{ on := 22, ground := Ground.data }, { on := 23, ground := Ground.data }, { on := 17, ground := Ground.chain }, { on := 10, ground := Ground.guard }], guard := some (10, false) } : Oper)) rfl (fun Kq hKq => ?_) AllReadyH.nil
      go_simp
      (refine (HRG0.out _ hHeld.1).mono ?_; rintro e w3 ⟨rfl, hb⟩)
      refine hKq.out _ _ ?_ (fun hHeld => ?_)
      · exact SbF.new hHeld hb
      clear hKq Kq
      (try simp only [Act.put, List.setIfInBounds_toArray, List.set_cons_zero, List.set_cons_succ])
      refine wpAnyH_take (i := 25) (oi := ({ dst := some 128, op := Op.binOp BinOp.neq 4 (Operand.tmp 120) (Operand.tmp 127) 4, type := 4, pos := "help.go:118", after := #[{ on := 17, ground := Ground.data }, { on := 24, ground := Ground.data }, { on := 10, ground := Ground.guard }], guard := some (10, false) } : Oper)) (v := ?vbm23) rfl (by kernel_rfl) (by kernel_rfl) (by kernel_rfl) (fun _ _ _ h => h) (Or.inl ⟨by rfl, fun w hSw => ?hybm23⟩) (by assumption) ?rbm23
      case hybm23 => (try dsimp only at hSw); go_simp; (try with_reducible rfl)
      (try simp only [Act.put, List.setIfInBounds_toArray, List.set_cons_zero, List.set_cons_succ])
      refine wpAnyH_take (i := 26) (oi := ({ dst := some 129, op := Op.pick (Operand.tmp 113) (Operand.const (Value.bool true)) (Operand.tmp 128), type := 4, pos := "help.go:118", after := #[{ on := 10, ground := Ground.data }, { on := 25, ground := Ground.data }], guard := none } : Oper)) (v := ?vbm24) rfl (by kernel_rfl) (by kernel_rfl) (by kernel_rfl) (fun _ _ _ h => h) (Or.inl ⟨by rfl, fun w hSw => ?hybm24⟩) (by assumption) ?rbm24
      case hybm24 => (try dsimp only at hSw); go_simp; (try with_reducible rfl)
      (try simp only [Act.put, List.setIfInBounds_toArray, List.set_cons_zero, List.set_cons_succ])
      refine wpAnyH_take (i := 27) (oi := ({ dst := some 130, op := Op.move (Operand.tmp 129), type := 4, pos := "help.go:118", after := #[{ on := 26, ground := Ground.data }, { on := 24, ground := Ground.chain }], guard := none } : Oper)) (v := ?vbm25) rfl (by kernel_rfl) (by kernel_rfl) (by kernel_rfl) (fun _ _ _ h => h) (Or.inl ⟨by rfl, fun w hSw => ?hybm25⟩) (by assumption) ?rbm25
      case hybm25 => (try dsimp only at hSw); go_simp; (try with_reducible rfl)
      (try simp only [Act.put, List.setIfInBounds_toArray, List.set_cons_zero, List.set_cons_succ])
      refine wpAnyH_take (i := 28) (oi := ({ dst := some 131, op := Op.fieldAddr 36 (Operand.tmp 1) 0, type := 0, pos := "help.go:118", after := #[{ on := 27, ground := Ground.guard }], guard := some (27, false) } : Oper)) (v := ?vbm26) rfl (by kernel_rfl) (by kernel_rfl) (by kernel_rfl) (fun _ _ _ h => h) (Or.inl ⟨by rfl, fun w hSw => ?hybm26⟩) (by assumption) ?rbm26
      case hybm26 => (try dsimp only at hSw); go_simp; (try with_reducible rfl)
      (try simp only [Act.put, List.setIfInBounds_toArray, List.set_cons_zero, List.set_cons_succ])
      refine wpAnyH_take (i := 29) (oi := ({ dst := some 132, op := Op.load 33 (Operand.tmp 131), type := 33, pos := "help.go:118", after := #[{ on := 28, ground := Ground.data }, { on := 27, ground := Ground.guard }], guard := some (27, false) } : Oper)) (v := ?vbm27) rfl (by kernel_rfl) (by kernel_rfl) (by kernel_rfl) (fun _ _ _ h => h) (Or.inl ⟨by rfl, fun w hSw => ?hybm27⟩) (by assumption) ?rbm27
      case hybm27 => (try dsimp only at hSw); go_simp; (try with_reducible rfl)
      (try simp only [Act.put, List.setIfInBounds_toArray, List.set_cons_zero, List.set_cons_succ])
      refine wpAnyH_take (i := 30) (oi := ({ dst := some 133, op := Op.nilCheck (Operand.tmp 132), type := 0, pos := "help.go:118", after := #[{ on := 29, ground := Ground.data }, { on := 27, ground := Ground.guard }], guard := some (27, false) } : Oper)) (v := ?vbm28) rfl (by kernel_rfl) (by kernel_rfl) (by kernel_rfl) (fun _ _ _ h => h) (Or.inl ⟨by rfl, fun w hSw => ?hybm28⟩) (by assumption) ?rbm28
      case hybm28 => (try dsimp only at hSw); go_simp; (try with_reducible rfl)
      (try simp only [Act.put, List.setIfInBounds_toArray, List.set_cons_zero, List.set_cons_succ])
      refine wpAnyH_take (i := 31) (oi := ({ dst := some 134, op := Op.fieldAddr 74 (Operand.tmp 133) 2, type := 0, pos := "help.go:118", after := #[{ on := 30, ground := Ground.data }, { on := 27, ground := Ground.guard }], guard := some (27, false) } : Oper)) (v := ?vbm29) rfl (by kernel_rfl) (by kernel_rfl) (by kernel_rfl) (fun _ _ _ h => h) (Or.inl ⟨by rfl, fun w hSw => ?hybm29⟩) (by assumption) ?rbm29
      case hybm29 => (try dsimp only at hSw); go_simp; (try with_reducible rfl)
      (try simp only [Act.put, List.setIfInBounds_toArray, List.set_cons_zero, List.set_cons_succ])
      refine wpAnyH_take (i := 32) (oi := ({ dst := some 135, op := Op.load 68 (Operand.tmp 134), type := 68, pos := "help.go:118", after := #[{ on := 31, ground := Ground.data }, { on := 27, ground := Ground.guard }], guard := some (27, false) } : Oper)) (v := ?vbm30) rfl (by kernel_rfl) (by kernel_rfl) (by kernel_rfl) (fun _ _ _ h => h) (Or.inl ⟨by rfl, fun w hSw => ?hybm30⟩) (by assumption) ?rbm30
      case hybm30 => (try dsimp only at hSw); go_simp; (try with_reducible rfl)
      (try simp only [Act.put, List.setIfInBounds_toArray, List.set_cons_zero, List.set_cons_succ])
      refine wpAnyH_take (i := 33) (oi := ({ dst := some 136, op := Op.move (Operand.tmp 3), type := 3, pos := "help.go:118", after := #[{ on := 27, ground := Ground.guard }], guard := some (27, false) } : Oper)) (v := ?vbm31) rfl (by kernel_rfl) (by kernel_rfl) (by kernel_rfl) (fun _ _ _ h => h) (Or.inl ⟨by rfl, fun w hSw => ?hybm31⟩) (by assumption) ?rbm31
      case hybm31 => (try dsimp only at hSw); go_simp; (try with_reducible rfl)
      (try simp only [Act.put, List.setIfInBounds_toArray, List.set_cons_zero, List.set_cons_succ])
      refine wpAnyH_take (i := 35) (oi := ({ dst := some 138, op := Op.fieldAddr 36 (Operand.tmp 1) 1, type := 0, pos := "help.go:118", after := #[{ on := 27, ground := Ground.guard }], guard := some (27, false) } : Oper)) (v := ?vbm32) rfl (by kernel_rfl) (by kernel_rfl) (by kernel_rfl) (fun _ _ _ h => h) (Or.inl ⟨by rfl, fun w hSw => ?hybm32⟩) (by assumption) ?rbm32
      case hybm32 => (try dsimp only at hSw); go_simp; (try with_reducible rfl)
      (try simp only [Act.put, List.setIfInBounds_toArray, List.set_cons_zero, List.set_cons_succ])
      refine wpAnyH_take (i := 36) (oi := ({ dst := some 139, op := Op.load 34 (Operand.tmp 138), type := 34, pos := "help.go:118", after := #[{ on := 35, ground := Ground.data }, { on := 27, ground := Ground.guard }], guard := some (27, false) } : Oper)) (v := ?vbm33) rfl (by kernel_rfl) (by kernel_rfl) (by kernel_rfl) (fun _ _ _ h => h) (Or.inl ⟨by rfl, fun w hSw => ?hybm33⟩) (by assumption) ?rbm33
      case hybm33 => (try dsimp only at hSw); go_simp; (try with_reducible rfl)
      (try simp only [Act.put, List.setIfInBounds_toArray, List.set_cons_zero, List.set_cons_succ])
      refine wpAnyH_take (i := 37) (oi := ({ dst := some 140, op := Op.nilCheck (Operand.tmp 139), type := 0, pos := "help.go:118", after := #[{ on := 36, ground := Ground.data }, { on := 27, ground := Ground.guard }], guard := some (27, false) } : Oper)) (v := ?vbm34) rfl (by kernel_rfl) (by kernel_rfl) (by kernel_rfl) (fun _ _ _ h => h) (Or.inl ⟨by rfl, fun w hSw => ?hybm34⟩) (by assumption) ?rbm34
      case hybm34 => (try dsimp only at hSw); go_simp; (try with_reducible rfl)
      (try simp only [Act.put, List.setIfInBounds_toArray, List.set_cons_zero, List.set_cons_succ])
      refine wpAnyH_take (i := 38) (oi := ({ dst := some 141, op := Op.fieldAddr 95 (Operand.tmp 140) 2, type := 0, pos := "help.go:118", after := #[{ on := 37, ground := Ground.data }, { on := 27, ground := Ground.guard }], guard := some (27, false) } : Oper)) (v := ?vbm35) rfl (by kernel_rfl) (by kernel_rfl) (by kernel_rfl) (fun _ _ _ h => h) (Or.inl ⟨by rfl, fun w hSw => ?hybm35⟩) (by assumption) ?rbm35
      case hybm35 => (try dsimp only at hSw); go_simp; (try with_reducible rfl)
      (try simp only [Act.put, List.setIfInBounds_toArray, List.set_cons_zero, List.set_cons_succ])
      refine wpAnyH_take (i := 39) (oi := ({ dst := some 142, op := Op.load 90 (Operand.tmp 141), type := 90, pos := "help.go:118", after := #[{ on := 38, ground := Ground.data }, { on := 27, ground := Ground.guard }], guard := some (27, false) } : Oper)) (v := ?vbm36) rfl (by kernel_rfl) (by kernel_rfl) (by kernel_rfl) (fun _ _ _ h => h) (Or.inl ⟨by rfl, fun w hSw => ?hybm36⟩) (by assumption) ?rbm36
      case hybm36 => (try dsimp only at hSw); go_simp; (try with_reducible rfl)
      (try simp only [Act.put, List.setIfInBounds_toArray, List.set_cons_zero, List.set_cons_succ])
      refine wpAnyH_take (i := 40) (oi := ({ dst := some 143, op := Op.move (Operand.tmp 3), type := 3, pos := "help.go:118", after := #[{ on := 27, ground := Ground.guard }], guard := some (27, false) } : Oper)) (v := ?vbm37) rfl (by kernel_rfl) (by kernel_rfl) (by kernel_rfl) (fun _ _ _ h => h) (Or.inl ⟨by rfl, fun w hSw => ?hybm37⟩) (by assumption) ?rbm37
      case hybm37 => (try dsimp only at hSw); go_simp; (try with_reducible rfl)
      (try simp only [Act.put, List.setIfInBounds_toArray, List.set_cons_zero, List.set_cons_succ])
      refine wpAnyH_ready (rs := [34]) (by kernel_rfl) (by simp) ?_
      refine AllReadyH.cons (o := ({ dst := some 137, op := Op.call { callee := Callee.value (Operand.func 60), args := #[Operand.tmp 135, Operand.tmp 136, Operand.const (Value.int IntKind.u64 18446744073709551615)], argTypes := #[68, 3, 22] }, type := 4, pos := "help.go:118", after := #[{ on := 32, ground := Ground.data }, { on := 33, ground := Ground.data }, { on := 27, ground := Ground.chain }, { on := 27, ground := Ground.guard }], guard := some (27, false) } : Oper)) rfl (fun Kq hKq => ?_) AllReadyH.nil
      go_simp
      (refine (HGO1.out _ hHeld.1).mono ?_; rintro e w3 ⟨rfl, hb⟩)
      refine hKq.out _ _ ?_ (fun hHeld => ?_)
      · exact SbF.new hHeld hb
      clear hKq Kq
      (try simp only [Act.put, List.setIfInBounds_toArray, List.set_cons_zero, List.set_cons_succ])
      refine wpAnyH_ready (rs := [41]) (by kernel_rfl) (by simp) ?_
      refine AllReadyH.cons (o := ({ dst := some 144, op := Op.call { callee := Callee.value (Operand.func 61), args := #[Operand.tmp 142, Operand.tmp 143, Operand.const (Value.int IntKind.u64 18446744073709551615)], argTypes := #[90, 3, 22] }, type := 4, pos := "help.go:118", after := #[{ on := 39, ground := Ground.data }, { on := 40, ground := Ground.data }, { on := 34, ground := Ground.chain }, { on := 27, ground := Ground.guard }], guard := some (27, false) } : Oper)) rfl (fun Kq hKq => ?_) AllReadyH.nil
      go_simp
      (refine (HRG1.out _ hHeld.1).mono ?_; rintro e w3 ⟨rfl, hb⟩)
      refine hKq.out _ _ ?_ (fun hHeld => ?_)
      · exact SbF.new hHeld hb
      clear hKq Kq
      (try simp only [Act.put, List.setIfInBounds_toArray, List.set_cons_zero, List.set_cons_succ])
      refine wpAnyH_take (i := 42) (oi := ({ dst := some 145, op := Op.binOp BinOp.neq 4 (Operand.tmp 137) (Operand.tmp 144) 4, type := 4, pos := "help.go:118", after := #[{ on := 34, ground := Ground.data }, { on := 41, ground := Ground.data }, { on := 27, ground := Ground.guard }], guard := some (27, false) } : Oper)) (v := ?vbm38) rfl (by kernel_rfl) (by kernel_rfl) (by kernel_rfl) (fun _ _ _ h => h) (Or.inl ⟨by rfl, fun w hSw => ?hybm38⟩) (by assumption) ?rbm38
      case hybm38 => (try dsimp only at hSw); go_simp; (try with_reducible rfl)
      (try simp only [Act.put, List.setIfInBounds_toArray, List.set_cons_zero, List.set_cons_succ])
      refine wpAnyH_take (i := 43) (oi := ({ dst := some 146, op := Op.pick (Operand.tmp 130) (Operand.const (Value.bool true)) (Operand.tmp 145), type := 4, pos := "help.go:118", after := #[{ on := 27, ground := Ground.data }, { on := 42, ground := Ground.data }], guard := none } : Oper)) (v := ?vbm39) rfl (by kernel_rfl) (by kernel_rfl) (by kernel_rfl) (fun _ _ _ h => h) (Or.inl ⟨by rfl, fun w hSw => ?hybm39⟩) (by assumption) ?rbm39
      case hybm39 => (try dsimp only at hSw); go_simp; (try with_reducible rfl)
      (try simp only [Act.put, List.setIfInBounds_toArray, List.set_cons_zero, List.set_cons_succ])
      refine wpAnyH_done (by kernel_rfl) ?_ _
      have HB9 := Lib.hid hHeld.1
      clear hHeld HASI HGO0 HGO1 HRG0 HRG1 HF7 HBY HBR
      go_wp2_with fail
      go_roundg (128 - (i + 1))
      case measure => have := HI.out; omega
      case rel => exact ⟨i + 1, by have := HI.out; omega, rfl, by go_num, HB9.out⟩
    · obtain rfl : i = 128 := by omega
      have HB4 := Lib.hid hb
      clear hb h3 e0 b0 b1 hi hi8
      go_wp2_with fail
      go_loopg [5, 6, 7, 8, 9] 64 (fun q s5 s6 s7 s8 s9 wx => ∃ i : Nat, i ≤ 64 ∧ q = 64 - i ∧ s5 = .int .i64 (i : Int) ∧ Below w2.heap.size w2 wx)
      case atStart => exact ⟨0, by omega, rfl, rfl, HB4.out⟩
      case round =>
        obtain ⟨i, hi, rfl, rfl, hb⟩ := hrel
        have h3 := H2.out.new hb
        have e0 := (hb.block B0 (Array.getElem?_eq_some_iff.1 HQ0.out).1).trans HQ0.out
        have b0 := cell_row e0 0; have b1 := cell_row e0 1
        simp only [List.getElem?_toArray, List.getElem?_cons_zero, List.getElem?_cons_succ] at b0 b1
        by_cases hi6 : i < 64
        · have hra : ∀ W, Below w2.heap.size w2 W → Calls Tryz.prog 62 #[Pw Y.lB, .int .i64 (i : Int)] W fun e w' => e = .returned (S5.lnk3 X.lk i) ∧ Below W.heap.size W w' := fun W q => by
            have := S5.rat_yes (H2.out.new q).pr.rlinks i hi6
            rwa [← HE.out.2] at this
          have hat := fun (W : World) (q : Below w2.heap.size w2 W) => S5.at_yes (H2.out.new q).pr.pw.links i hi6
          unfold S5.lnk3 at hra
          unfold S5.lnk at hat
          generalize (X.lk (i * 3) : Int) - 1 = v0 at *
          generalize (X.lk (i * 3 + 1) : Int) - 1 = v1 at *
          generalize (X.lk (i * 3 + 2) : Int) - 1 = v2 at *
          have r3 := h3.pr.r3
          rw [h3.rB] at r3
          obtain ⟨lB, hlB⟩ : ∃ x, x = X.lB := ⟨_, rfl⟩
          obtain ⟨rlB, hrlB⟩ : ∃ x, x = Y.lB := ⟨_, rfl⟩
          rw [← hrlB] at hra r3; rw [← hlB] at hat
          have d1 : (i : Int) < 64 := by omega
          have HRA := Lib.hid hra; have HAT := Lib.hid hat
          have HB5 := Lib.hid hb; have HI := Lib.hid hi6
          have HX3 : Hid (∀ W, Below w2.heap.size w2 W → W.cell? ⟨WB, 3, none⟩ = some (Pw lB) ∧ W.cell? ⟨B0, 0, none⟩ = some (Pw WB)) := Lib.hid (fun W q => by
            have g := H2.out.new q
            have x := g.pr.pw.c3
            rw [g.wB, ← hlB] at x
            have e := (q.block B0 (Array.getElem?_eq_some_iff.1 HQ0.out).1).trans HQ0.out
            exact ⟨x, cell_row e 0⟩)
          clear hra hat h3 e0 hb hi6 hi hlB hrlB
          go_upto_region 13 with (go_at_call 62; refine (HRA.out _ HB5.out).mono ?_; rintro e w5 ⟨rfl, hb5⟩)
          have HB6 := Lib.hid (HB5.out.trans (hb5.mono HB5.out.size))
          obtain ⟨x3, x0⟩ := HX3.out _ HB6.out
          clear hb5 b0 b1 r3
          go_upto_region 14 with (go_at_call 63; refine (HAT.out _ HB6.out).mono ?_; rintro e w6 ⟨rfl, hb6⟩)
          have hnx := heap_alloc_new w6 (.cells #[.int .i64 v0, .int .i64 v1, .int .i64 v2] 156)
          have hby := below1 w6 (.cells #[.int .i64 v0, .int .i64 v1, .int .i64 v2] 156)
          have HB7 := Lib.hid (HB6.out.trans ((hb6.mono HB6.out.size).trans (hby.mono (Nat.le_trans HB6.out.size hb6.size))))
          have y0 := cell_row hnx 0; have y1 := cell_row hnx 1; have y2 := cell_row hnx 2
          simp only [List.getElem?_toArray, List.getElem?_cons_zero, List.getElem?_cons_succ] at y0 y1 y2
          clear hnx hby hb6 x3 x0
          generalize w6.alloc (.cells #[.int .i64 v0, .int .i64 v1, .int .i64 v2] 156) = w7 at *
          generalize w6.heap.size = Bl at *
          go_wp2_with fail
          go_roundg (64 - (i + 1))
          case measure => have := HI.out; omega
          case rel => exact ⟨i + 1, by have := HI.out; omega, rfl, by go_num, HB7.out⟩
        · obtain rfl : i = 64 := by omega
          go_wp2_with fail
          go_ret
          exact ⟨rfl, HB1.out.trans (hb.mono HB1.out.size)⟩
end Go.Proofs.YtffoobepdofkkaaGreat.S12
namespace Go.Proofs.YtffoobepdofkkaaGreat.S13
open Go.Proofs.YtffoobepdofkkaaGreat Go.Proofs.YtffoobepdofkkaaGreat.S11 Go.Proofs.YtffoobepdofkkaaGreat.S12
open Go.RowKit

theorem layK : S10.Lay 65 45 1 8 (.pointer none) := ⟨Tryz.underlying65, S10.info_of (by kernel_rfl), rfl, by decide, by decide⟩
theorem begin_void (w : World) : Calls Tryz.prog 6 #[.agg #[.int .i64 0, .int .u64 0, .slice none 0 0, .slice none 0 0, .slice none 0 0, .slice none 0 0, .int .u64 0]] w fun e w' => ∃ M X Y, e = .returned (.agg #[Pw X.wB, Pw Y.wB]) ∧ Bg w w' w.heap.size X.wB Y.wB 1200 300 7 M M [] X Y :=
  begin_any (sp := 0) (mo := 0) (dc := 0) (sn := 0) (sc := 0) (gn := 0) (gc := 0) (qn := 0) (qc := 0) (tk := 0) (D := []) (SA := fun _ => 0) (SV := fun _ => 0) (G := fun _ => 0) (Q := fun _ => default)
    (by decide) (by decide) (by decide) (by decide) S3.Rd.nil (fun d hd => by cases hd) (by decide) (fun h => absurd h (by decide)) (fun i hi => absurd hi (by omega)) (fun h => absurd h (by decide)) (fun i hi => absurd hi (by omega)) (by decide) (fun h => absurd h (by decide)) (fun i hi => absurd hi (by omega)) (by decide) (by decide)
/-- A lock that is over: none, or one that no call made. -/
def Ovr (W : World) (u : Value) : Prop := u = .pointer none ∨ ∃ B, u = Pw B ∧ LkAt W B lk0
/-- The pair, and the list of them. -/
structure VS (w1 W : World) (p q s8 : Value) (n : Nat) (cs : List Value) : Prop where
  bl : Below w1.heap.size w1 W
  pr : W.heap[w1.heap.size]? = some (.cells #[p, q] 36 (0, 0))
  row : S10.Row W w1.heap.size 1 s8 n cs
  n0 : 0 < n
  n3 : n ≤ 3
  ov : ∀ u ∈ cs, Ovr W u
theorem VS.drew {w1 W : World} {p q s8 : Value} {n : Nat} {cs : List Value} (h : VS w1 W p q s8 n cs) : VS w1 W.drew p q s8 n cs :=
  ⟨h.bl.drew, h.pr, h.row.drew, h.n0, h.n3, h.ov⟩
abbrev lkO : Obj := .cells #[.nilFunc, .int .u64 0, .int .i64 0, .bool false] 64
theorem lkO_at (w : World) : LkAt (w.alloc lkO) w.heap.size lk0 := heap_alloc_new w lkO
theorem lk_below {w w' : World} {B : Nat} {K : Lk} (h : LkAt w B K) (b : Below w.heap.size w w') : LkAt w' B K :=
  (b.block B (Array.getElem?_eq_some_iff.1 h).1).trans h
theorem vs_start (w1 : World) (p q : Value) : VS w1 (((w1.alloc (.cells #[p, q] 36)).alloc lkO).alloc (.cells #[.pointer none, Pw (w1.heap.size + 1)] 45)) p q (.slice (some ⟨w1.heap.size + 1 + 1, 0, none⟩) 2 2) 2 [.pointer none, Pw (w1.heap.size + 1)] := by
  have b1 := below1 w1 (.cells #[p, q] 36)
  have h1 := heap_alloc_new w1 (.cells #[p, q] 36)
  have z1 : (w1.alloc (.cells #[p, q] 36)).heap.size = w1.heap.size + 1 := by simp
  generalize w1.alloc (.cells #[p, q] 36) = w2 at *
  have b2 := below1 w2 lkO
  have h2 := lkO_at w2
  have z2 : (w2.alloc lkO).heap.size = w2.heap.size + 1 := by simp
  generalize w2.alloc lkO = w3 at *
  have b3 := below1 w3 (.cells #[.pointer none, Pw (w1.heap.size + 1)] 45)
  have h3 := heap_alloc_new w3 (.cells #[.pointer none, Pw (w1.heap.size + 1)] 45)
  have z3 : (w3.alloc (.cells #[.pointer none, Pw (w1.heap.size + 1)] 45)).heap.size = w3.heap.size + 1 := by simp
  generalize w3.alloc (.cells #[.pointer none, Pw (w1.heap.size + 1)] 45) = w4 at *
  have e3 : w3.heap.size = w1.heap.size + 1 + 1 := by omega
  have hl := lk_below h2 b3
  rw [z1] at hl
  refine ⟨b1.trans ((b2.mono (by omega)).trans (b3.mono (by omega))), ?_, ?_, by decide, by decide, ?_⟩
  · rw [b3.block _ (by omega), b2.block _ (by omega)]; exact h1
  · refine ⟨_, 2, rfl, rfl, Nat.le_refl _, by decide, (fun e => by cases e), (fun ad e => ?_)⟩
    cases e
    rw [← e3]
    refine ⟨_, _, rfl, by omega, by omega, fun j u e => ?_, fun j hj => ?_⟩
    · rw [S10.cell_row h3, Nat.zero_add]; simpa using e
    · rw [S10.cell_row h3, S10.froz_row h3, Nat.zero_add]
      refine ⟨?_, rfl⟩
      have : j < 2 := by omega
      match j, this with
      | 0, _ => rfl
      | 1, _ => rfl
  · intro u hu
    simp only [List.mem_cons, List.not_mem_nil, or_false] at hu
    rcases hu with rfl | rfl
    · exact .inl rfl
    · exact .inr ⟨_, rfl, hl⟩
theorem vs_lk {w1 W : World} {p q s8 : Value} {b : Nat} (h : VS w1 W p q s8 2 [.pointer none, Pw b]) : LkAt W b lk0 := by
  rcases h.ov (Pw b) (by simp) with h | ⟨B, h, h2⟩
  · cases h
  · cases h; exact h2
/-- One more, behind it. -/
theorem vs_more {w1 W W' : World} {p q s8 s' : Value} {cs : List Value} (h : VS w1 W p q s8 2 cs) (hs : s8.ownBlock = some (w1.heap.size + 1 + 1)) (hl : LkAt W (w1.heap.size + 1) lk0) (hc : cs = [.pointer none, Pw (w1.heap.size + 1)])
    (b : Below W.heap.size W W') {V : World} {B : Nat} (hB : LkAt W' B lk0) (hBn : W.heap.size ≤ B) (hr : S10.Row V w1.heap.size 1 s' 3 (cs ++ [Pw B])) (ht : S10.Turns (fun k => s8.ownBlock = some k) W' V) : VS w1 V p q s' 3 (cs ++ [Pw B]) := by
  have hlt := (h.row.lt _ hs).2
  have g : ∀ k, k < W'.heap.size → k ≠ w1.heap.size + 1 + 1 → V.heap[k]? = W'.heap[k]? := fun k hk hn => ht.block k hk (fun e => hn (by rw [hs] at e; exact (Option.some.inj e).symm))
  have hsz := b.size
  refine ⟨h.bl.trans ((b.mono (by omega)).trans (ht.below (by omega) (fun k hk e => by rw [hs] at e; have := Option.some.inj e; omega))), ?_, hr, by decide, by decide, ?_⟩
  · rw [g _ (by omega) (by omega), b.block _ (by omega)]; exact h.pr
  · intro u hu
    subst hc
    have hb : LkAt V B lk0 := (g B (Array.getElem?_eq_some_iff.1 hB).1 (by omega)).trans hB
    have hb1 : LkAt V (w1.heap.size + 1) lk0 := ((g _ (by omega) (by omega)).trans (b.block _ (by omega))).trans hl
    simp only [List.mem_append, List.mem_cons, List.not_mem_nil, or_false] at hu
    rcases hu with (rfl | rfl) | rfl
    · exact .inl rfl
    · exact .inr ⟨_, rfl, hb1⟩
    · exact .inr ⟨_, rfl, hb⟩
/-- The pair stands beside what it stood beside. -/
theorem VS.bl2 {w1 W : World} {p q s8 : Value} {n : Nat} {cs : List Value} (h : VS w1 W p q s8 n cs) : Below (w1.alloc (.cells #[p, q] 36)).heap.size (w1.alloc (.cells #[p, q] 36)) W := by
  have z1 : (w1.alloc (.cells #[p, q] 36)).heap.size = w1.heap.size + 1 := by simp
  have h1 := heap_alloc_new w1 (.cells #[p, q] 36)
  have b1 := below1 w1 (.cells #[p, q] 36)
  have hl := (Array.getElem?_eq_some_iff.1 h.pr).1
  refine ⟨h.bl.os, h.bl.tape, h.bl.output, by rw [z1]; omega, fun k hk => ?_⟩
  by_cases e : k = w1.heap.size
  · rw [e, h.pr]; exact h1.symm
  · rw [h.bl.block k (by omega), b1.block k (by omega)]
/-- What stands where, in the list. -/
theorem VS.at {w1 W : World} {p q s8 : Value} {n : Nat} {cs : List Value} (h : VS w1 W p q s8 n cs) : ∃ g o cap, s8 = .slice (some ⟨g, o, none⟩) n cap := by
  obtain ⟨A, cap, rfl, h0, h1, h2, h3, h4⟩ := h.row
  cases A with
  | none => have := h3 rfl; have := h.n0; omega
  | some ad => obtain ⟨g, o, rfl, _⟩ := h4 _ rfl; exact ⟨g, o, cap, rfl⟩
theorem VS.el {w1 W : World} {p q : Value} {n g o cap : Nat} {cs : List Value} (h : VS w1 W p q (.slice (some ⟨g, o, none⟩) n cap) n cs) {i : Nat} (hi : i < n) : ∃ u, W.cell? ⟨g, o + i, none⟩ = some u ∧ Ovr W u := by
  obtain ⟨A, cap', e, h0, h1, h2, h3, h4⟩ := h.row
  cases e
  obtain ⟨g', o', e, _, _, hl, _⟩ := h4 _ rfl
  cases e
  have hlt : i < cs.length := by omega
  exact ⟨cs[i], hl i _ (List.getElem?_eq_getElem hlt), h.ov _ (List.getElem_mem hlt)⟩
theorem bg_back {w0 w1 w7 : World} {base WB RB : Nat} {M : Sd} {X : Wm} {Y : Rm} {E : List Part} (h : Bg w0 w1 base WB RB 1200 300 7 M M [] X Y) (hx : Pg w0 w7 base WB M (Y.parts ++ E) X) (hsz : w1.heap.size ≤ w7.heap.size) : Bg w0 w7 base WB RB 1200 300 7 M M E X Y :=
  { h with pr := hx.ps, rb := Nat.le_trans h.rb hsz, bl := hx.bl }
theorem set_at (R : List Part) (P L V Q : Part) : (((R ++ [P]) ++ [L]) ++ [V]).set (R ++ [P]).length Q = R ++ [P, Q, V] := by
  rw [List.set_append_left _ _ (by simp), List.set_append_right _ _ (Nat.le_refl _), Nat.sub_self]
  simp
/-- Where all is done but to look at both worlds. -/
def VEnd (w w1 w7 : World) (WB RB : Nat) (M : Sd) (X : Wm) (Y : Rm) (B a : Nat) : Prop :=
  LkAt w7 B (({ lk1 3 a with sp := 0 } : Lk).turn 0) ∧ w7.heap[w1.heap.size]? = some (.cells #[Pw WB, Pw RB] 36 (0, 0)) ∧ ∃ E, Bg w w7 w.heap.size WB RB 1200 300 7 M M E X Y
theorem vend {w w1 w7 : World} {WB RB : Nat} {M : Sd} {X : Wm} {Y : Rm} {B a VB : Nat} (h : Bg w w1 w.heap.size WB RB 1200 300 7 M M [] X Y)
    (h7 : Wl w w7 w.heap.size WB M (((Y.parts ++ [blockP w1.heap.size (.cells #[Pw WB, Pw RB] 36)]) ++ [lockP B (lk1 3 a)]) ++ [blockP VB (.cells Tryz.zeroCells74 74)]) (Y.parts ++ [blockP w1.heap.size (.cells #[Pw WB, Pw RB] 36)]).length B (({ lk1 3 a with sp := 0 } : Lk).turn 0) X) (hs : w1.heap.size ≤ B) : VEnd w w1 w7 WB RB M X Y B a := by
  refine ⟨h7.at, ?_, _, bg_back h (by have := h7.pg; rw [set_at] at this; exact this) ?_⟩
  · exact h7.void (i := Y.parts.length) (by rw [List.append_assoc, List.append_assoc, List.getElem?_append_right (Nat.le_refl _), Nat.sub_self]; rfl) (by simp)
  · have := (Array.getElem?_eq_some_iff.1 h7.at).1; omega
theorem vend_all {w w1 w7 : World} {WB RB : Nat} {M : Sd} {X : Wm} {Y : Rm} {B a : Nat} (h : VEnd w w1 w7 WB RB M X Y B a) : (Calls Tryz.prog 16 #[Pw B] w7 fun e w'' => e = .returned (.bool false) ∧ w7 = w'') ∧ w7.cell? ⟨w1.heap.size, 0, none⟩ = some (Pw WB) ∧ w7.cell? ⟨w1.heap.size, 1, none⟩ = some (Pw RB) ∧ (Calls Tryz.prog 15 #[.agg #[Pw WB, Pw RB]] w7 fun e w'' => e = .returned (.bool true) ∧ Below w.heap.size w w'') := by
  obtain ⟨h1, h2, E, h3⟩ := h
  have hln : (({ lk1 3 a with sp := 0 } : Lk).turn 0).ln = 2 := by unfold Lk.turn; rw [if_pos (by decide)]
  refine ⟨?_, S10.cell_row h2 0, S10.cell_row h2 1, ?_⟩
  · have := over_any h1 (by rw [hln]; decide)
    rw [hln] at this
    exact this
  · refine (pair_all h3 (by decide) (by decide)).mono ?_
    rintro e w8 ⟨rfl, hb⟩
    exact ⟨rfl, h3.bl.trans (hb.mono h3.bl.size)⟩
theorem newK_out {t : Int} (a : Nat) (h : ¬ (0 ≤ t ∧ t < 64)) : newK t a = lk0 := if_neg h
theorem ovr_all {W : World} {u : Value} (h : Ovr W u) (WB : Nat) : (Calls Tryz.prog 16 #[u] W fun e w' => e = .returned (.bool true) ∧ W = w') ∧ (Calls Tryz.prog 13 #[u, Pw WB] W fun e w' => e = .returned (.bool true) ∧ W = w') ∧ (Calls Tryz.prog 13 #[u, .pointer none] W fun e w' => e = .returned (.bool true) ∧ W = w') ∧ (Calls Tryz.prog 17 #[u] W fun e w' => e = .returned (.bool false) ∧ W = w') := by
  rcases h with rfl | ⟨B, rfl, h⟩
  · exact ⟨over_nil W, step_nil _ W, step_nil _ W, waits_nil W⟩
  · exact ⟨over_any h (by decide), step_over h rfl _ ⟨_, rfl⟩, step_over h rfl _ ⟨_, rfl⟩, waits_any h⟩
set_option maxRecDepth 100000 in
set_option maxHeartbeats 4000000 in
theorem law_void (t : Int) (a : Nat) (w : World) : Calls Tryz.prog 4 #[.int .i64 t, .int .u32 (a : Int)] w fun e w' => e = .returned (.bool true) ∧ Below w.heap.size w w' := by
  have HB := Lib.hid (begin_void w)
  go_enter Tryz.func4, Tryz.ntmps4
  go_upto_region 2 with (go_at_call 6; refine HB.out.mono ?_; rintro e w1 ⟨M, X, Y, rfl, hbg⟩)
  obtain ⟨WB, hWB⟩ : ∃ x, x = X.wB := ⟨_, rfl⟩
  obtain ⟨RB, hRB⟩ : ∃ x, x = Y.wB := ⟨_, rfl⟩
  rw [← hWB, ← hRB] at hbg ⊢
  have HBG := Lib.hid hbg
  clear hbg hWB hRB HB
  go_upto_region 5 with fail
  have hvs := vs_start w1 (Pw WB) (Pw RB)
  have hl1 := vs_lk hvs
  obtain ⟨w4, hw4⟩ : ∃ x, x = (((w1.alloc (.cells #[Pw WB, Pw RB] 36)).alloc lkO).alloc (.cells #[.pointer none, Pw (w1.heap.size + 1)] 45)) := ⟨_, rfl⟩
  rw [← hw4] at hvs hl1 ⊢
  obtain ⟨s0, hs0⟩ : ∃ x, x = Value.slice (some ⟨w1.heap.size + 1 + 1, 0, none⟩) 2 2 := ⟨_, rfl⟩
  rw [← hs0] at hvs ⊢
  have HOB : Hid (s0.ownBlock = some (w1.heap.size + 1 + 1)) := Lib.hid (by rw [hs0]; rfl)
  have HVS := Lib.hid hvs; have HL1 := Lib.hid hl1
  clear hw4 hvs hl1 hs0
  by_cases h0 : t < 0
  · have d0 : decide (t < 0) = true := decide_eq_true h0
    have hout : ¬ (0 ≤ t ∧ t < 64) := by omega
    clear h0
    go_upto_if 20 with fail
    go_cut [8] from 21 to 26 (fun s8 wx => ∃ n cs, VS w1 wx (Pw WB) (Pw RB) s8 n cs)
    case first =>
      have hk := newK_out a hout
      have HNL : Hid (∀ W, Calls Tryz.prog 7 #[.int .i64 t, .int .u32 (a : Int)] W fun e w' => e = .returned (Pw W.heap.size) ∧ Below W.heap.size W w' ∧ LkAt w' W.heap.size lk0) := Lib.hid (fun W => by
        have := new_lock t a W
        rw [hk] at this
        refine this.mono ?_
        rintro e w' ⟨rfl, rfl⟩
        exact ⟨rfl, below1 _ _, lkO_at W⟩)
      clear hk
      go_wp2_with (first
        | (go_at_call 7; refine (HNL.out _).mono ?_; rintro e w5 ⟨rfl, hb5, hl5⟩; (have HB5 := Lib.hid hb5); (have HL2 := Lib.hid hl5); (clear hb5 hl5))
        | (at_builtin; refine S10.wpList_append_row layK rfl _ _ rfl rfl ((HVS.out.row.new HB5.out).alloc _) (fun u hu => by simp at hu; rcases hu with rfl | rfl <;> rfl) (by have := HVS.out.bl.size; have := HB5.out.size; simp; omega) 1 rfl (S10.rd_one1 _ _ 45) rfl (fun u hu => by simp at hu; rw [hu]; rfl) (by omega) ?_; intro v2 w2 hr2 ht2 ho2; (have HR2 := Lib.hid hr2); (have HT2 := Lib.hid ht2); (clear hr2 ht2 ho2)))
      go_meet
      exact ⟨_, _, vs_more HVS.out HOB.out HL1.out rfl (HB5.out.trans ((below1 _ _).mono HB5.out.size)) (lk_below HL2.out (below1 _ _)) (Nat.le_refl _) HR2.out HT2.out⟩
    case rest =>
      obtain ⟨n, cs, hv⟩ := hcut
      obtain ⟨g, o, cap, rfl⟩ := hv.at
      have HV := Lib.hid hv
      clear hv
      go_wp2_with fail
      go_loopg [9] n (fun q s9 wx => ∃ i : Nat, i ≤ n ∧ q = n - i ∧ s9 = .int .i64 (i : Int) ∧ VS w1 wx (Pw WB) (Pw RB) (.slice (some ⟨g, o, none⟩) n cap) n cs)
      case atStart => exact ⟨0, by omega, rfl, rfl, HV.out⟩
      case round =>
        obtain ⟨i, hi, rfl, rfl, hv⟩ := hrel
        by_cases hin : i < n
        · obtain ⟨u, hu, hou⟩ := hv.drew.el hin
          obtain ⟨k1, k2, k3, k4⟩ := ovr_all hou WB
          have HOV := Lib.hid k1; have HS1 := Lib.hid k2; have HS2 := Lib.hid k3; have HWT := Lib.hid k4
          have HF : Hid ((fun w' => w'.cell? ⟨g, o + i, none⟩ = some u ∧ w'.cell? ⟨w1.heap.size, 0, none⟩ = some (Pw WB)) wr.drew) := Lib.hid ⟨hu, S10.cell_row hv.drew.pr 0⟩
          have HV2 := Lib.hid hv.drew
          have d1 : (i : Int) < (n : Int) := by omega
          have HI := Lib.hid (And.intro hin HV.out.n3)
          have e1 : wrap64 ((i : Int) + 1) = (i : Int) + 1 := by have := HI.out; unfold wrap64; omega
          clear hv k1 k2 k3 k4 hu hou hi
          go_upto_region 10 with (fail)
          refine wp_region_held_drew (S := fun w' => w'.cell? ⟨g, o + i, none⟩ = some u ∧ w'.cell? ⟨w1.heap.size, 0, none⟩ = some (Pw WB)) (by kernel_rfl) ?_ (fun hHeld => ?_)
          · exact HF.out
          refine wpAnyH_take (i := 0) (oi := ({ dst := some 33, op := Op.move (Operand.tmp 8), type := 65, pos := "law.go:83", after := #[], guard := none } : Oper)) (v := ?vkm1) rfl (by kernel_rfl) (by kernel_rfl) (by kernel_rfl) (fun _ _ _ h => h) (Or.inl ⟨by rfl, fun w hSw => ?hykm1⟩) (by assumption) ?rkm1
          case hykm1 => (try dsimp only at hSw); go_simp; (try with_reducible rfl)
          (try simp only [Act.put, List.setIfInBounds_toArray, List.set_cons_zero, List.set_cons_succ])
          refine wpAnyH_take (i := 1) (oi := ({ dst := some 34, op := Op.move (Operand.tmp 9), type := 3, pos := "law.go:83", after := #[], guard := none } : Oper)) (v := ?vkm2) rfl (by kernel_rfl) (by kernel_rfl) (by kernel_rfl) (fun _ _ _ h => h) (Or.inl ⟨by rfl, fun w hSw => ?hykm2⟩) (by assumption) ?rkm2
          case hykm2 => (try dsimp only at hSw); go_simp; (try with_reducible rfl)
          (try simp only [Act.put, List.setIfInBounds_toArray, List.set_cons_zero, List.set_cons_succ])
          refine wpAnyH_take (i := 2) (oi := ({ dst := some 35, op := Op.indexAddr 65 (Operand.tmp 33) (Operand.tmp 34), type := 0, pos := "law.go:83", after := #[{ on := 0, ground := Ground.data }, { on := 1, ground := Ground.data }], guard := none } : Oper)) (v := ?vkm3) rfl (by kernel_rfl) (by kernel_rfl) (by kernel_rfl) (fun _ _ _ h => h) (Or.inl ⟨by rfl, fun w hSw => ?hykm3⟩) (by assumption) ?rkm3
          case hykm3 => (try dsimp only at hSw); go_simp; (try with_reducible rfl)
          (try simp only [Act.put, List.setIfInBounds_toArray, List.set_cons_zero, List.set_cons_succ])
          refine wpAnyH_take (i := 3) (oi := ({ dst := some 36, op := Op.load 45 (Operand.tmp 35), type := 45, pos := "law.go:83", after := #[{ on := 2, ground := Ground.data }], guard := none } : Oper)) (v := ?vkm4) rfl (by kernel_rfl) (by kernel_rfl) (by kernel_rfl) (fun _ _ _ h => h) (Or.inl ⟨by rfl, fun w hSw => ?hykm4⟩) (by assumption) ?rkm4
          case hykm4 => (try dsimp only at hSw); go_simp; (try with_reducible rfl)
          (try simp only [Act.put, List.setIfInBounds_toArray, List.set_cons_zero, List.set_cons_succ])
          refine wpAnyH_ready (rs := [4]) (by kernel_rfl) (by simp) ?_
          refine AllReadyH.cons (o := ({ dst := some 37, op := Op.call { callee := Callee.value (Operand.func 16), args := #[Operand.tmp 36], argTypes := #[45] }, type := 4, pos := "law.go:83", after := #[{ on := 3, ground := Ground.data }], guard := none } : Oper)) rfl (fun Kq hKq => ?_) AllReadyH.nil
          go_simp
          (refine HOV.out.mono ?_; rintro e w8 ⟨rfl, rfl⟩)
          refine hKq.out _ _ ?_ (fun hHeld => ?_)
          · exact hHeld
          clear hKq Kq
          (try simp only [Act.put, List.setIfInBounds_toArray, List.set_cons_zero, List.set_cons_succ])
          refine wpAnyH_take (i := 5) (oi := ({ dst := some 38, op := Op.unOp UnOp.not 4 (Operand.tmp 37), type := 4, pos := "law.go:83", after := #[{ on := 4, ground := Ground.data }], guard := none } : Oper)) (v := ?vkm5) rfl (by kernel_rfl) (by kernel_rfl) (by kernel_rfl) (fun _ _ _ h => h) (Or.inl ⟨by rfl, fun w hSw => ?hykm5⟩) (by assumption) ?rkm5
          case hykm5 => (try dsimp only at hSw); go_simp; (try with_reducible rfl)
          (try simp only [Act.put, List.setIfInBounds_toArray, List.set_cons_zero, List.set_cons_succ])
          refine wpAnyH_take (i := 6) (oi := ({ dst := some 39, op := Op.move (Operand.tmp 38), type := 4, pos := "law.go:83", after := #[{ on := 5, ground := Ground.data }, { on := 4, ground := Ground.chain }], guard := none } : Oper)) (v := ?vkm6) rfl (by kernel_rfl) (by kernel_rfl) (by kernel_rfl) (fun _ _ _ h => h) (Or.inl ⟨by rfl, fun w hSw => ?hykm6⟩) (by assumption) ?rkm6
          case hykm6 => (try dsimp only at hSw); go_simp; (try with_reducible rfl)
          (try simp only [Act.put, List.setIfInBounds_toArray, List.set_cons_zero, List.set_cons_succ])
          refine wpAnyH_take (i := 7) (oi := ({ dst := some 40, op := Op.move (Operand.tmp 8), type := 65, pos := "law.go:83", after := #[{ on := 6, ground := Ground.guard }], guard := some (6, false) } : Oper)) (v := ?vkm7) rfl (by kernel_rfl) (by kernel_rfl) (by kernel_rfl) (fun _ _ _ h => h) (Or.inl ⟨by rfl, fun w hSw => ?hykm7⟩) (by assumption) ?rkm7
          case hykm7 => (try dsimp only at hSw); go_simp; (try with_reducible rfl)
          (try simp only [Act.put, List.setIfInBounds_toArray, List.set_cons_zero, List.set_cons_succ])
          refine wpAnyH_take (i := 8) (oi := ({ dst := some 41, op := Op.move (Operand.tmp 9), type := 3, pos := "law.go:83", after := #[{ on := 6, ground := Ground.guard }], guard := some (6, false) } : Oper)) (v := ?vkm8) rfl (by kernel_rfl) (by kernel_rfl) (by kernel_rfl) (fun _ _ _ h => h) (Or.inl ⟨by rfl, fun w hSw => ?hykm8⟩) (by assumption) ?rkm8
          case hykm8 => (try dsimp only at hSw); go_simp; (try with_reducible rfl)
          (try simp only [Act.put, List.setIfInBounds_toArray, List.set_cons_zero, List.set_cons_succ])
          refine wpAnyH_take (i := 9) (oi := ({ dst := some 42, op := Op.indexAddr 65 (Operand.tmp 40) (Operand.tmp 41), type := 0, pos := "law.go:83", after := #[{ on := 7, ground := Ground.data }, { on := 8, ground := Ground.data }, { on := 6, ground := Ground.guard }], guard := some (6, false) } : Oper)) (v := ?vkm9) rfl (by kernel_rfl) (by kernel_rfl) (by kernel_rfl) (fun _ _ _ h => h) (Or.inl ⟨by rfl, fun w hSw => ?hykm9⟩) (by assumption) ?rkm9
          case hykm9 => (try dsimp only at hSw); go_simp; (try with_reducible rfl)
          (try simp only [Act.put, List.setIfInBounds_toArray, List.set_cons_zero, List.set_cons_succ])
          refine wpAnyH_take (i := 10) (oi := ({ dst := some 43, op := Op.load 45 (Operand.tmp 42), type := 45, pos := "law.go:83", after := #[{ on := 9, ground := Ground.data }, { on := 6, ground := Ground.guard }], guard := some (6, false) } : Oper)) (v := ?vkm10) rfl (by kernel_rfl) (by kernel_rfl) (by kernel_rfl) (fun _ _ _ h => h) (Or.inl ⟨by rfl, fun w hSw => ?hykm10⟩) (by assumption) ?rkm10
          case hykm10 => (try dsimp only at hSw); go_simp; (try with_reducible rfl)
          (try simp only [Act.put, List.setIfInBounds_toArray, List.set_cons_zero, List.set_cons_succ])
          refine wpAnyH_take (i := 11) (oi := ({ dst := some 44, op := Op.fieldAddr 36 (Operand.tmp 5) 0, type := 0, pos := "law.go:83", after := #[{ on := 6, ground := Ground.guard }], guard := some (6, false) } : Oper)) (v := ?vkm11) rfl (by kernel_rfl) (by kernel_rfl) (by kernel_rfl) (fun _ _ _ h => h) (Or.inl ⟨by rfl, fun w hSw => ?hykm11⟩) (by assumption) ?rkm11
          case hykm11 => (try dsimp only at hSw); go_simp; (try with_reducible rfl)
          (try simp only [Act.put, List.setIfInBounds_toArray, List.set_cons_zero, List.set_cons_succ])
          refine wpAnyH_take (i := 12) (oi := ({ dst := some 45, op := Op.load 33 (Operand.tmp 44), type := 33, pos := "law.go:83", after := #[{ on := 11, ground := Ground.data }, { on := 6, ground := Ground.guard }], guard := some (6, false) } : Oper)) (v := ?vkm12) rfl (by kernel_rfl) (by kernel_rfl) (by kernel_rfl) (fun _ _ _ h => h) (Or.inl ⟨by rfl, fun w hSw => ?hykm12⟩) (by assumption) ?rkm12
          case hykm12 => (try dsimp only at hSw); go_simp; (try with_reducible rfl)
          (try simp only [Act.put, List.setIfInBounds_toArray, List.set_cons_zero, List.set_cons_succ])
          refine wpAnyH_ready (rs := [13]) (by kernel_rfl) (by simp) ?_
          refine AllReadyH.cons (o := ({ dst := some 46, op := Op.call { callee := Callee.value (Operand.func 13), args := #[Operand.tmp 43, Operand.tmp 45], argTypes := #[45, 33] }, type := 4, pos := "law.go:83", after := #[{ on := 10, ground := Ground.data }, { on := 12, ground := Ground.data }, { on := 6, ground := Ground.chain }, { on := 6, ground := Ground.guard }], guard := some (6, false) } : Oper)) rfl (fun Kq hKq => ?_) AllReadyH.nil
          go_simp
          (refine HS1.out.mono ?_; rintro e w8 ⟨rfl, rfl⟩)
          refine hKq.out _ _ ?_ (fun hHeld => ?_)
          · exact hHeld
          clear hKq Kq
          (try simp only [Act.put, List.setIfInBounds_toArray, List.set_cons_zero, List.set_cons_succ])
          refine wpAnyH_take (i := 14) (oi := ({ dst := some 47, op := Op.unOp UnOp.not 4 (Operand.tmp 46), type := 4, pos := "law.go:83", after := #[{ on := 13, ground := Ground.data }, { on := 6, ground := Ground.guard }], guard := some (6, false) } : Oper)) (v := ?vkm13) rfl (by kernel_rfl) (by kernel_rfl) (by kernel_rfl) (fun _ _ _ h => h) (Or.inl ⟨by rfl, fun w hSw => ?hykm13⟩) (by assumption) ?rkm13
          case hykm13 => (try dsimp only at hSw); go_simp; (try with_reducible rfl)
          (try simp only [Act.put, List.setIfInBounds_toArray, List.set_cons_zero, List.set_cons_succ])
          refine wpAnyH_take (i := 15) (oi := ({ dst := some 48, op := Op.pick (Operand.tmp 39) (Operand.const (Value.bool true)) (Operand.tmp 47), type := 4, pos := "law.go:83", after := #[{ on := 6, ground := Ground.data }, { on := 14, ground := Ground.data }], guard := none } : Oper)) (v := ?vkm14) rfl (by kernel_rfl) (by kernel_rfl) (by kernel_rfl) (fun _ _ _ h => h) (Or.inl ⟨by rfl, fun w hSw => ?hykm14⟩) (by assumption) ?rkm14
          case hykm14 => (try dsimp only at hSw); go_simp; (try with_reducible rfl)
          (try simp only [Act.put, List.setIfInBounds_toArray, List.set_cons_zero, List.set_cons_succ])
          refine wpAnyH_take (i := 16) (oi := ({ dst := some 49, op := Op.move (Operand.tmp 48), type := 4, pos := "law.go:83", after := #[{ on := 15, ground := Ground.data }, { on := 13, ground := Ground.chain }], guard := none } : Oper)) (v := ?vkm15) rfl (by kernel_rfl) (by kernel_rfl) (by kernel_rfl) (fun _ _ _ h => h) (Or.inl ⟨by rfl, fun w hSw => ?hykm15⟩) (by assumption) ?rkm15
          case hykm15 => (try dsimp only at hSw); go_simp; (try with_reducible rfl)
          (try simp only [Act.put, List.setIfInBounds_toArray, List.set_cons_zero, List.set_cons_succ])
          refine wpAnyH_take (i := 17) (oi := ({ dst := some 50, op := Op.move (Operand.tmp 8), type := 65, pos := "law.go:83", after := #[{ on := 16, ground := Ground.guard }], guard := some (16, false) } : Oper)) (v := ?vkm16) rfl (by kernel_rfl) (by kernel_rfl) (by kernel_rfl) (fun _ _ _ h => h) (Or.inl ⟨by rfl, fun w hSw => ?hykm16⟩) (by assumption) ?rkm16
          case hykm16 => (try dsimp only at hSw); go_simp; (try with_reducible rfl)
          (try simp only [Act.put, List.setIfInBounds_toArray, List.set_cons_zero, List.set_cons_succ])
          refine wpAnyH_take (i := 18) (oi := ({ dst := some 51, op := Op.move (Operand.tmp 9), type := 3, pos := "law.go:83", after := #[{ on := 16, ground := Ground.guard }], guard := some (16, false) } : Oper)) (v := ?vkm17) rfl (by kernel_rfl) (by kernel_rfl) (by kernel_rfl) (fun _ _ _ h => h) (Or.inl ⟨by rfl, fun w hSw => ?hykm17⟩) (by assumption) ?rkm17
          case hykm17 => (try dsimp only at hSw); go_simp; (try with_reducible rfl)
          (try simp only [Act.put, List.setIfInBounds_toArray, List.set_cons_zero, List.set_cons_succ])
          refine wpAnyH_take (i := 19) (oi := ({ dst := some 52, op := Op.indexAddr 65 (Operand.tmp 50) (Operand.tmp 51), type := 0, pos := "law.go:83", after := #[{ on := 17, ground := Ground.data }, { on := 18, ground := Ground.data }, { on := 16, ground := Ground.guard }], guard := some (16, false) } : Oper)) (v := ?vkm18) rfl (by kernel_rfl) (by kernel_rfl) (by kernel_rfl) (fun _ _ _ h => h) (Or.inl ⟨by rfl, fun w hSw => ?hykm18⟩) (by assumption) ?rkm18
          case hykm18 => (try dsimp only at hSw); go_simp; (try with_reducible rfl)
          (try simp only [Act.put, List.setIfInBounds_toArray, List.set_cons_zero, List.set_cons_succ])
          refine wpAnyH_take (i := 20) (oi := ({ dst := some 53, op := Op.load 45 (Operand.tmp 52), type := 45, pos := "law.go:83", after := #[{ on := 19, ground := Ground.data }, { on := 16, ground := Ground.guard }], guard := some (16, false) } : Oper)) (v := ?vkm19) rfl (by kernel_rfl) (by kernel_rfl) (by kernel_rfl) (fun _ _ _ h => h) (Or.inl ⟨by rfl, fun w hSw => ?hykm19⟩) (by assumption) ?rkm19
          case hykm19 => (try dsimp only at hSw); go_simp; (try with_reducible rfl)
          (try simp only [Act.put, List.setIfInBounds_toArray, List.set_cons_zero, List.set_cons_succ])
          refine wpAnyH_ready (rs := [21]) (by kernel_rfl) (by simp) ?_
          refine AllReadyH.cons (o := ({ dst := some 54, op := Op.call { callee := Callee.value (Operand.func 13), args := #[Operand.tmp 53, Operand.const (Value.pointer none)], argTypes := #[45, 33] }, type := 4, pos := "law.go:83", after := #[{ on := 20, ground := Ground.data }, { on := 16, ground := Ground.chain }, { on := 16, ground := Ground.guard }], guard := some (16, false) } : Oper)) rfl (fun Kq hKq => ?_) AllReadyH.nil
          go_simp
          (refine HS2.out.mono ?_; rintro e w8 ⟨rfl, rfl⟩)
          refine hKq.out _ _ ?_ (fun hHeld => ?_)
          · exact hHeld
          clear hKq Kq
          (try simp only [Act.put, List.setIfInBounds_toArray, List.set_cons_zero, List.set_cons_succ])
          refine wpAnyH_take (i := 22) (oi := ({ dst := some 55, op := Op.unOp UnOp.not 4 (Operand.tmp 54), type := 4, pos := "law.go:83", after := #[{ on := 21, ground := Ground.data }, { on := 16, ground := Ground.guard }], guard := some (16, false) } : Oper)) (v := ?vkm20) rfl (by kernel_rfl) (by kernel_rfl) (by kernel_rfl) (fun _ _ _ h => h) (Or.inl ⟨by rfl, fun w hSw => ?hykm20⟩) (by assumption) ?rkm20
          case hykm20 => (try dsimp only at hSw); go_simp; (try with_reducible rfl)
          (try simp only [Act.put, List.setIfInBounds_toArray, List.set_cons_zero, List.set_cons_succ])
          refine wpAnyH_take (i := 23) (oi := ({ dst := some 56, op := Op.pick (Operand.tmp 49) (Operand.const (Value.bool true)) (Operand.tmp 55), type := 4, pos := "law.go:83", after := #[{ on := 16, ground := Ground.data }, { on := 22, ground := Ground.data }], guard := none } : Oper)) (v := ?vkm21) rfl (by kernel_rfl) (by kernel_rfl) (by kernel_rfl) (fun _ _ _ h => h) (Or.inl ⟨by rfl, fun w hSw => ?hykm21⟩) (by assumption) ?rkm21
          case hykm21 => (try dsimp only at hSw); go_simp; (try with_reducible rfl)
          (try simp only [Act.put, List.setIfInBounds_toArray, List.set_cons_zero, List.set_cons_succ])
          refine wpAnyH_take (i := 24) (oi := ({ dst := some 57, op := Op.move (Operand.tmp 56), type := 4, pos := "law.go:83", after := #[{ on := 23, ground := Ground.data }, { on := 21, ground := Ground.chain }], guard := none } : Oper)) (v := ?vkm22) rfl (by kernel_rfl) (by kernel_rfl) (by kernel_rfl) (fun _ _ _ h => h) (Or.inl ⟨by rfl, fun w hSw => ?hykm22⟩) (by assumption) ?rkm22
          case hykm22 => (try dsimp only at hSw); go_simp; (try with_reducible rfl)
          (try simp only [Act.put, List.setIfInBounds_toArray, List.set_cons_zero, List.set_cons_succ])
          refine wpAnyH_take (i := 25) (oi := ({ dst := some 58, op := Op.move (Operand.tmp 8), type := 65, pos := "law.go:83", after := #[{ on := 24, ground := Ground.guard }], guard := some (24, false) } : Oper)) (v := ?vkm23) rfl (by kernel_rfl) (by kernel_rfl) (by kernel_rfl) (fun _ _ _ h => h) (Or.inl ⟨by rfl, fun w hSw => ?hykm23⟩) (by assumption) ?rkm23
          case hykm23 => (try dsimp only at hSw); go_simp; (try with_reducible rfl)
          (try simp only [Act.put, List.setIfInBounds_toArray, List.set_cons_zero, List.set_cons_succ])
          refine wpAnyH_take (i := 26) (oi := ({ dst := some 59, op := Op.move (Operand.tmp 9), type := 3, pos := "law.go:83", after := #[{ on := 24, ground := Ground.guard }], guard := some (24, false) } : Oper)) (v := ?vkm24) rfl (by kernel_rfl) (by kernel_rfl) (by kernel_rfl) (fun _ _ _ h => h) (Or.inl ⟨by rfl, fun w hSw => ?hykm24⟩) (by assumption) ?rkm24
          case hykm24 => (try dsimp only at hSw); go_simp; (try with_reducible rfl)
          (try simp only [Act.put, List.setIfInBounds_toArray, List.set_cons_zero, List.set_cons_succ])
          refine wpAnyH_take (i := 27) (oi := ({ dst := some 60, op := Op.indexAddr 65 (Operand.tmp 58) (Operand.tmp 59), type := 0, pos := "law.go:83", after := #[{ on := 25, ground := Ground.data }, { on := 26, ground := Ground.data }, { on := 24, ground := Ground.guard }], guard := some (24, false) } : Oper)) (v := ?vkm25) rfl (by kernel_rfl) (by kernel_rfl) (by kernel_rfl) (fun _ _ _ h => h) (Or.inl ⟨by rfl, fun w hSw => ?hykm25⟩) (by assumption) ?rkm25
          case hykm25 => (try dsimp only at hSw); go_simp; (try with_reducible rfl)
          (try simp only [Act.put, List.setIfInBounds_toArray, List.set_cons_zero, List.set_cons_succ])
          refine wpAnyH_take (i := 28) (oi := ({ dst := some 61, op := Op.load 45 (Operand.tmp 60), type := 45, pos := "law.go:83", after := #[{ on := 27, ground := Ground.data }, { on := 24, ground := Ground.guard }], guard := some (24, false) } : Oper)) (v := ?vkm26) rfl (by kernel_rfl) (by kernel_rfl) (by kernel_rfl) (fun _ _ _ h => h) (Or.inl ⟨by rfl, fun w hSw => ?hykm26⟩) (by assumption) ?rkm26
          case hykm26 => (try dsimp only at hSw); go_simp; (try with_reducible rfl)
          (try simp only [Act.put, List.setIfInBounds_toArray, List.set_cons_zero, List.set_cons_succ])
          refine wpAnyH_ready (rs := [29]) (by kernel_rfl) (by simp) ?_
          refine AllReadyH.cons (o := ({ dst := some 62, op := Op.call { callee := Callee.value (Operand.func 17), args := #[Operand.tmp 61], argTypes := #[45] }, type := 4, pos := "law.go:83", after := #[{ on := 28, ground := Ground.data }, { on := 24, ground := Ground.chain }, { on := 24, ground := Ground.guard }], guard := some (24, false) } : Oper)) rfl (fun Kq hKq => ?_) AllReadyH.nil
          go_simp
          (refine HWT.out.mono ?_; rintro e w8 ⟨rfl, rfl⟩)
          refine hKq.out _ _ ?_ (fun hHeld => ?_)
          · exact hHeld
          clear hKq Kq
          (try simp only [Act.put, List.setIfInBounds_toArray, List.set_cons_zero, List.set_cons_succ])
          refine wpAnyH_take (i := 30) (oi := ({ dst := some 63, op := Op.pick (Operand.tmp 57) (Operand.const (Value.bool true)) (Operand.tmp 62), type := 4, pos := "law.go:83", after := #[{ on := 24, ground := Ground.data }, { on := 29, ground := Ground.data }], guard := none } : Oper)) (v := ?vkm27) rfl (by kernel_rfl) (by kernel_rfl) (by kernel_rfl) (fun _ _ _ h => h) (Or.inl ⟨by rfl, fun w hSw => ?hykm27⟩) (by assumption) ?rkm27
          case hykm27 => (try dsimp only at hSw); go_simp; (try with_reducible rfl)
          (try simp only [Act.put, List.setIfInBounds_toArray, List.set_cons_zero, List.set_cons_succ])
          refine wpAnyH_done (by kernel_rfl) ?_ _
          go_wp2_with fail
          go_roundg (n - (i + 1))
          case measure => have := HI.out; omega
          case rel => exact ⟨i + 1, by have := HI.out; omega, rfl, by go_num, HV2.out⟩
        · obtain rfl : i = n := by omega
          have hpg1 : Pg w w1 w.heap.size WB M Y.parts X := ⟨by have := HBG.out.pr; unfold PairAt at this; rwa [List.append_nil] at this, HBG.out.wB, HBG.out.xm, HBG.out.bl⟩
          have hlk := Pg.lock ((Pg.add hpg1 (.cells #[Pw WB, Pw RB] 36)).new hv.bl2) (lk1 3 a)
          have hsz := hv.bl.size
          have HSZ := Lib.hid hsz
          have HLK := Lib.hid hlk
          have HNL3 : Hid (∀ W, Calls Tryz.prog 7 #[.int .i64 3, .int .u32 (a : Int)] W fun e w' => e = .returned (Pw W.heap.size) ∧ w' = W.alloc (.cells (lk1 3 a).cs 64)) := Lib.hid (fun W => new_lock 3 a W)
          clear hpg1 hlk hsz hv hin hi
          go_upto_region 13 with (go_at_call 7; refine (HNL3.out _).mono ?_; rintro e w5 ⟨rfl, rfl⟩)
          generalize wr.alloc (.cells (lk1 3 a).cs 64) = w5 at *
          have HSZB : Hid (w1.heap.size ≤ wr.heap.size) := Lib.hid HSZ.out
          generalize wr.heap.size = B at *
          have HSN : Hid (Calls Tryz.prog 13 #[Pw B, .pointer none] w5 fun e w' => e = .returned (.bool false) ∧ w5 = w') := Lib.hid (step_none HLK.out.at (by show 1 ≤ 6; decide))
          have HOV : Hid (Calls Tryz.prog 16 #[Pw B] w5 fun e w' => e = .returned (.bool false) ∧ w5 = w') := Lib.hid (over_any HLK.out.at (by show 1 ≤ 6; decide))
          have HV6 := Lib.hid (HLK.out.pushB (.cells Tryz.zeroCells74 74))
          have HSV0 : Hid (True → Calls Tryz.prog 13 #[Pw B, Pw w5.heap.size] (w5.alloc (.cells Tryz.zeroCells74 74)) fun e w' => e = .returned (.bool false) ∧ VEnd w w1 w' WB RB M X Y B a) := Lib.hid (fun _ => by
            have hst := step_v HV6.out (i := ((Y.parts ++ [blockP w1.heap.size (.cells #[Pw WB, Pw RB] 36)]) ++ [lockP B (lk1 3 a)]).length) (VB := w5.heap.size) (by rw [List.getElem?_append_right (Nat.le_refl _), Nat.sub_self]; rfl) (by simp) rfl
            refine hst.mono ?_
            rintro e w7 ⟨rfl, h7⟩
            exact ⟨rfl, vend HBG.out h7 HSZB.out⟩)
          have HVE : Hid (∀ w', VEnd w w1 w' WB RB M X Y B a → (Calls Tryz.prog 16 #[Pw B] w' fun e w'' => e = .returned (.bool false) ∧ w' = w'') ∧ w'.cell? ⟨w1.heap.size, 0, none⟩ = some (Pw WB) ∧ w'.cell? ⟨w1.heap.size, 1, none⟩ = some (Pw RB) ∧ (Calls Tryz.prog 15 #[.agg #[Pw WB, Pw RB]] w' fun e w'' => e = .returned (.bool true) ∧ Below w.heap.size w w'')) := Lib.hid (fun w' h => vend_all h)
          have HLV : Hid (∀ W, Calls Tryz.prog 5 #[] W fun e w' => e = .returned (.bool true) ∧ Below W.heap.size W w') := Lib.hid lives_any
          go_wp2_with (first
            | (go_at_call 5; refine (HLV.out _).mono ?_; rintro e w9 ⟨rfl, hb9⟩)
            | (go_at_call 15; refine HSA.out.mono ?_; rintro e w8 ⟨rfl, hb8⟩)
            | (go_at_call 16; refine HO2.out.mono ?_; rintro e w7' ⟨rfl, rfl⟩)
            | (go_at_call 13; refine HSV.out.mono ?_; rintro e w7 ⟨rfl, h7⟩; obtain ⟨q1, q2, q3, q4⟩ := HVE.out _ h7; have HO2 := Lib.hid q1; have HSA := Lib.hid q4; clear h7 q1 q4)
            | (go_at_call 16; refine HOV.out.mono ?_; rintro e w8 ⟨rfl, rfl⟩; have HSV := Lib.hid (HSV0.out trivial))
            | (go_at_call 13; refine HSN.out.mono ?_; rintro e w7 ⟨rfl, rfl⟩))
          go_ret
          exact ⟨rfl, hb8.trans (hb9.mono hb8.size)⟩
  · by_cases h1 : (64 : Int) ≤ t
    · have d0 : decide (t < 0) = false := decide_eq_false h0
      have d1 : decide ((64 : Int) ≤ t) = true := decide_eq_true h1
      have hout : ¬ (0 ≤ t ∧ t < 64) := by omega
      clear h0 h1
      go_upto_if 20 with fail
      go_cut [8] from 21 to 26 (fun s8 wx => ∃ n cs, VS w1 wx (Pw WB) (Pw RB) s8 n cs)
      case first =>
        have hk := newK_out a hout
        have HNL : Hid (∀ W, Calls Tryz.prog 7 #[.int .i64 t, .int .u32 (a : Int)] W fun e w' => e = .returned (Pw W.heap.size) ∧ Below W.heap.size W w' ∧ LkAt w' W.heap.size lk0) := Lib.hid (fun W => by
          have := new_lock t a W
          rw [hk] at this
          refine this.mono ?_
          rintro e w' ⟨rfl, rfl⟩
          exact ⟨rfl, below1 _ _, lkO_at W⟩)
        clear hk
        go_wp2_with (first
          | (go_at_call 7; refine (HNL.out _).mono ?_; rintro e w5 ⟨rfl, hb5, hl5⟩; (have HB5 := Lib.hid hb5); (have HL2 := Lib.hid hl5); (clear hb5 hl5))
          | (at_builtin; refine S10.wpList_append_row layK rfl _ _ rfl rfl ((HVS.out.row.new HB5.out).alloc _) (fun u hu => by simp at hu; rcases hu with rfl | rfl <;> rfl) (by have := HVS.out.bl.size; have := HB5.out.size; simp; omega) 1 rfl (S10.rd_one1 _ _ 45) rfl (fun u hu => by simp at hu; rw [hu]; rfl) (by omega) ?_; intro v2 w2 hr2 ht2 ho2; (have HR2 := Lib.hid hr2); (have HT2 := Lib.hid ht2); (clear hr2 ht2 ho2)))
        go_meet
        exact ⟨_, _, vs_more HVS.out HOB.out HL1.out rfl (HB5.out.trans ((below1 _ _).mono HB5.out.size)) (lk_below HL2.out (below1 _ _)) (Nat.le_refl _) HR2.out HT2.out⟩
      case rest =>
        obtain ⟨n, cs, hv⟩ := hcut
        obtain ⟨g, o, cap, rfl⟩ := hv.at
        have HV := Lib.hid hv
        clear hv
        go_wp2_with fail
        go_loopg [9] n (fun q s9 wx => ∃ i : Nat, i ≤ n ∧ q = n - i ∧ s9 = .int .i64 (i : Int) ∧ VS w1 wx (Pw WB) (Pw RB) (.slice (some ⟨g, o, none⟩) n cap) n cs)
        case atStart => exact ⟨0, by omega, rfl, rfl, HV.out⟩
        case round =>
          obtain ⟨i, hi, rfl, rfl, hv⟩ := hrel
          by_cases hin : i < n
          · obtain ⟨u, hu, hou⟩ := hv.drew.el hin
            obtain ⟨k1, k2, k3, k4⟩ := ovr_all hou WB
            have HOV := Lib.hid k1; have HS1 := Lib.hid k2; have HS2 := Lib.hid k3; have HWT := Lib.hid k4
            have HF : Hid ((fun w' => w'.cell? ⟨g, o + i, none⟩ = some u ∧ w'.cell? ⟨w1.heap.size, 0, none⟩ = some (Pw WB)) wr.drew) := Lib.hid ⟨hu, S10.cell_row hv.drew.pr 0⟩
            have HV2 := Lib.hid hv.drew
            have d1 : (i : Int) < (n : Int) := by omega
            have HI := Lib.hid (And.intro hin HV.out.n3)
            have e1 : wrap64 ((i : Int) + 1) = (i : Int) + 1 := by have := HI.out; unfold wrap64; omega
            clear hv k1 k2 k3 k4 hu hou hi
            go_upto_region 10 with (fail)
            refine wp_region_held_drew (S := fun w' => w'.cell? ⟨g, o + i, none⟩ = some u ∧ w'.cell? ⟨w1.heap.size, 0, none⟩ = some (Pw WB)) (by kernel_rfl) ?_ (fun hHeld => ?_)
            · exact HF.out
            refine wpAnyH_take (i := 0) (oi := ({ dst := some 33, op := Op.move (Operand.tmp 8), type := 65, pos := "law.go:83", after := #[], guard := none } : Oper)) (v := ?vlm1) rfl (by kernel_rfl) (by kernel_rfl) (by kernel_rfl) (fun _ _ _ h => h) (Or.inl ⟨by rfl, fun w hSw => ?hylm1⟩) (by assumption) ?rlm1
            case hylm1 => (try dsimp only at hSw); go_simp; (try with_reducible rfl)
            (try simp only [Act.put, List.setIfInBounds_toArray, List.set_cons_zero, List.set_cons_succ])
            refine wpAnyH_take (i := 1) (oi := ({ dst := some 34, op := Op.move (Operand.tmp 9), type := 3, pos := "law.go:83", after := #[], guard := none } : Oper)) (v := ?vlm2) rfl (by kernel_rfl) (by kernel_rfl) (by kernel_rfl) (fun _ _ _ h => h) (Or.inl ⟨by rfl, fun w hSw => ?hylm2⟩) (by assumption) ?rlm2
            case hylm2 => (try dsimp only at hSw); go_simp; (try with_reducible rfl)
            (try simp only [Act.put, List.setIfInBounds_toArray, List.set_cons_zero, List.set_cons_succ])
            refine wpAnyH_take (i := 2) (oi := ({ dst := some 35, op := Op.indexAddr 65 (Operand.tmp 33) (Operand.tmp 34), type := 0, pos := "law.go:83", after := #[{ on := 0, ground := Ground.data }, { on := 1, ground := Ground.data }], guard := none } : Oper)) (v := ?vlm3) rfl (by kernel_rfl) (by kernel_rfl) (by kernel_rfl) (fun _ _ _ h => h) (Or.inl ⟨by rfl, fun w hSw => ?hylm3⟩) (by assumption) ?rlm3
            case hylm3 => (try dsimp only at hSw); go_simp; (try with_reducible rfl)
            (try simp only [Act.put, List.setIfInBounds_toArray, List.set_cons_zero, List.set_cons_succ])
            refine wpAnyH_take (i := 3) (oi := ({ dst := some 36, op := Op.load 45 (Operand.tmp 35), type := 45, pos := "law.go:83", after := #[{ on := 2, ground := Ground.data }], guard := none } : Oper)) (v := ?vlm4) rfl (by kernel_rfl) (by kernel_rfl) (by kernel_rfl) (fun _ _ _ h => h) (Or.inl ⟨by rfl, fun w hSw => ?hylm4⟩) (by assumption) ?rlm4
            case hylm4 => (try dsimp only at hSw); go_simp; (try with_reducible rfl)
            (try simp only [Act.put, List.setIfInBounds_toArray, List.set_cons_zero, List.set_cons_succ])
            refine wpAnyH_ready (rs := [4]) (by kernel_rfl) (by simp) ?_
            refine AllReadyH.cons (o := ({ dst := some 37, op := Op.call { callee := Callee.value (Operand.func 16), args := #[Operand.tmp 36], argTypes := #[45] }, type := 4, pos := "law.go:83", after := #[{ on := 3, ground := Ground.data }], guard := none } : Oper)) rfl (fun Kq hKq => ?_) AllReadyH.nil
            go_simp
            (refine HOV.out.mono ?_; rintro e w8 ⟨rfl, rfl⟩)
            refine hKq.out _ _ ?_ (fun hHeld => ?_)
            · exact hHeld
            clear hKq Kq
            (try simp only [Act.put, List.setIfInBounds_toArray, List.set_cons_zero, List.set_cons_succ])
            refine wpAnyH_take (i := 5) (oi := ({ dst := some 38, op := Op.unOp UnOp.not 4 (Operand.tmp 37), type := 4, pos := "law.go:83", after := #[{ on := 4, ground := Ground.data }], guard := none } : Oper)) (v := ?vlm5) rfl (by kernel_rfl) (by kernel_rfl) (by kernel_rfl) (fun _ _ _ h => h) (Or.inl ⟨by rfl, fun w hSw => ?hylm5⟩) (by assumption) ?rlm5
            case hylm5 => (try dsimp only at hSw); go_simp; (try with_reducible rfl)
            (try simp only [Act.put, List.setIfInBounds_toArray, List.set_cons_zero, List.set_cons_succ])
            refine wpAnyH_take (i := 6) (oi := ({ dst := some 39, op := Op.move (Operand.tmp 38), type := 4, pos := "law.go:83", after := #[{ on := 5, ground := Ground.data }, { on := 4, ground := Ground.chain }], guard := none } : Oper)) (v := ?vlm6) rfl (by kernel_rfl) (by kernel_rfl) (by kernel_rfl) (fun _ _ _ h => h) (Or.inl ⟨by rfl, fun w hSw => ?hylm6⟩) (by assumption) ?rlm6
            case hylm6 => (try dsimp only at hSw); go_simp; (try with_reducible rfl)
            (try simp only [Act.put, List.setIfInBounds_toArray, List.set_cons_zero, List.set_cons_succ])
            refine wpAnyH_take (i := 7) (oi := ({ dst := some 40, op := Op.move (Operand.tmp 8), type := 65, pos := "law.go:83", after := #[{ on := 6, ground := Ground.guard }], guard := some (6, false) } : Oper)) (v := ?vlm7) rfl (by kernel_rfl) (by kernel_rfl) (by kernel_rfl) (fun _ _ _ h => h) (Or.inl ⟨by rfl, fun w hSw => ?hylm7⟩) (by assumption) ?rlm7
            case hylm7 => (try dsimp only at hSw); go_simp; (try with_reducible rfl)
            (try simp only [Act.put, List.setIfInBounds_toArray, List.set_cons_zero, List.set_cons_succ])
            refine wpAnyH_take (i := 8) (oi := ({ dst := some 41, op := Op.move (Operand.tmp 9), type := 3, pos := "law.go:83", after := #[{ on := 6, ground := Ground.guard }], guard := some (6, false) } : Oper)) (v := ?vlm8) rfl (by kernel_rfl) (by kernel_rfl) (by kernel_rfl) (fun _ _ _ h => h) (Or.inl ⟨by rfl, fun w hSw => ?hylm8⟩) (by assumption) ?rlm8
            case hylm8 => (try dsimp only at hSw); go_simp; (try with_reducible rfl)
            (try simp only [Act.put, List.setIfInBounds_toArray, List.set_cons_zero, List.set_cons_succ])
            refine wpAnyH_take (i := 9) (oi := ({ dst := some 42, op := Op.indexAddr 65 (Operand.tmp 40) (Operand.tmp 41), type := 0, pos := "law.go:83", after := #[{ on := 7, ground := Ground.data }, { on := 8, ground := Ground.data }, { on := 6, ground := Ground.guard }], guard := some (6, false) } : Oper)) (v := ?vlm9) rfl (by kernel_rfl) (by kernel_rfl) (by kernel_rfl) (fun _ _ _ h => h) (Or.inl ⟨by rfl, fun w hSw => ?hylm9⟩) (by assumption) ?rlm9
            case hylm9 => (try dsimp only at hSw); go_simp; (try with_reducible rfl)
            (try simp only [Act.put, List.setIfInBounds_toArray, List.set_cons_zero, List.set_cons_succ])
            refine wpAnyH_take (i := 10) (oi := ({ dst := some 43, op := Op.load 45 (Operand.tmp 42), type := 45, pos := "law.go:83", after := #[{ on := 9, ground := Ground.data }, { on := 6, ground := Ground.guard }], guard := some (6, false) } : Oper)) (v := ?vlm10) rfl (by kernel_rfl) (by kernel_rfl) (by kernel_rfl) (fun _ _ _ h => h) (Or.inl ⟨by rfl, fun w hSw => ?hylm10⟩) (by assumption) ?rlm10
            case hylm10 => (try dsimp only at hSw); go_simp; (try with_reducible rfl)
            (try simp only [Act.put, List.setIfInBounds_toArray, List.set_cons_zero, List.set_cons_succ])
            refine wpAnyH_take (i := 11) (oi := ({ dst := some 44, op := Op.fieldAddr 36 (Operand.tmp 5) 0, type := 0, pos := "law.go:83", after := #[{ on := 6, ground := Ground.guard }], guard := some (6, false) } : Oper)) (v := ?vlm11) rfl (by kernel_rfl) (by kernel_rfl) (by kernel_rfl) (fun _ _ _ h => h) (Or.inl ⟨by rfl, fun w hSw => ?hylm11⟩) (by assumption) ?rlm11
            case hylm11 => (try dsimp only at hSw); go_simp; (try with_reducible rfl)
            (try simp only [Act.put, List.setIfInBounds_toArray, List.set_cons_zero, List.set_cons_succ])
            refine wpAnyH_take (i := 12) (oi := ({ dst := some 45, op := Op.load 33 (Operand.tmp 44), type := 33, pos := "law.go:83", after := #[{ on := 11, ground := Ground.data }, { on := 6, ground := Ground.guard }], guard := some (6, false) } : Oper)) (v := ?vlm12) rfl (by kernel_rfl) (by kernel_rfl) (by kernel_rfl) (fun _ _ _ h => h) (Or.inl ⟨by rfl, fun w hSw => ?hylm12⟩) (by assumption) ?rlm12
            case hylm12 => (try dsimp only at hSw); go_simp; (try with_reducible rfl)
            (try simp only [Act.put, List.setIfInBounds_toArray, List.set_cons_zero, List.set_cons_succ])
            refine wpAnyH_ready (rs := [13]) (by kernel_rfl) (by simp) ?_
            refine AllReadyH.cons (o := ({ dst := some 46, op := Op.call { callee := Callee.value (Operand.func 13), args := #[Operand.tmp 43, Operand.tmp 45], argTypes := #[45, 33] }, type := 4, pos := "law.go:83", after := #[{ on := 10, ground := Ground.data }, { on := 12, ground := Ground.data }, { on := 6, ground := Ground.chain }, { on := 6, ground := Ground.guard }], guard := some (6, false) } : Oper)) rfl (fun Kq hKq => ?_) AllReadyH.nil
            go_simp
            (refine HS1.out.mono ?_; rintro e w8 ⟨rfl, rfl⟩)
            refine hKq.out _ _ ?_ (fun hHeld => ?_)
            · exact hHeld
            clear hKq Kq
            (try simp only [Act.put, List.setIfInBounds_toArray, List.set_cons_zero, List.set_cons_succ])
            refine wpAnyH_take (i := 14) (oi := ({ dst := some 47, op := Op.unOp UnOp.not 4 (Operand.tmp 46), type := 4, pos := "law.go:83", after := #[{ on := 13, ground := Ground.data }, { on := 6, ground := Ground.guard }], guard := some (6, false) } : Oper)) (v := ?vlm13) rfl (by kernel_rfl) (by kernel_rfl) (by kernel_rfl) (fun _ _ _ h => h) (Or.inl ⟨by rfl, fun w hSw => ?hylm13⟩) (by assumption) ?rlm13
            case hylm13 => (try dsimp only at hSw); go_simp; (try with_reducible rfl)
            (try simp only [Act.put, List.setIfInBounds_toArray, List.set_cons_zero, List.set_cons_succ])
            refine wpAnyH_take (i := 15) (oi := ({ dst := some 48, op := Op.pick (Operand.tmp 39) (Operand.const (Value.bool true)) (Operand.tmp 47), type := 4, pos := "law.go:83", after := #[{ on := 6, ground := Ground.data }, { on := 14, ground := Ground.data }], guard := none } : Oper)) (v := ?vlm14) rfl (by kernel_rfl) (by kernel_rfl) (by kernel_rfl) (fun _ _ _ h => h) (Or.inl ⟨by rfl, fun w hSw => ?hylm14⟩) (by assumption) ?rlm14
            case hylm14 => (try dsimp only at hSw); go_simp; (try with_reducible rfl)
            (try simp only [Act.put, List.setIfInBounds_toArray, List.set_cons_zero, List.set_cons_succ])
            refine wpAnyH_take (i := 16) (oi := ({ dst := some 49, op := Op.move (Operand.tmp 48), type := 4, pos := "law.go:83", after := #[{ on := 15, ground := Ground.data }, { on := 13, ground := Ground.chain }], guard := none } : Oper)) (v := ?vlm15) rfl (by kernel_rfl) (by kernel_rfl) (by kernel_rfl) (fun _ _ _ h => h) (Or.inl ⟨by rfl, fun w hSw => ?hylm15⟩) (by assumption) ?rlm15
            case hylm15 => (try dsimp only at hSw); go_simp; (try with_reducible rfl)
            (try simp only [Act.put, List.setIfInBounds_toArray, List.set_cons_zero, List.set_cons_succ])
            refine wpAnyH_take (i := 17) (oi := ({ dst := some 50, op := Op.move (Operand.tmp 8), type := 65, pos := "law.go:83", after := #[{ on := 16, ground := Ground.guard }], guard := some (16, false) } : Oper)) (v := ?vlm16) rfl (by kernel_rfl) (by kernel_rfl) (by kernel_rfl) (fun _ _ _ h => h) (Or.inl ⟨by rfl, fun w hSw => ?hylm16⟩) (by assumption) ?rlm16
            case hylm16 => (try dsimp only at hSw); go_simp; (try with_reducible rfl)
            (try simp only [Act.put, List.setIfInBounds_toArray, List.set_cons_zero, List.set_cons_succ])
            refine wpAnyH_take (i := 18) (oi := ({ dst := some 51, op := Op.move (Operand.tmp 9), type := 3, pos := "law.go:83", after := #[{ on := 16, ground := Ground.guard }], guard := some (16, false) } : Oper)) (v := ?vlm17) rfl (by kernel_rfl) (by kernel_rfl) (by kernel_rfl) (fun _ _ _ h => h) (Or.inl ⟨by rfl, fun w hSw => ?hylm17⟩) (by assumption) ?rlm17
            case hylm17 => (try dsimp only at hSw); go_simp; (try with_reducible rfl)
            (try simp only [Act.put, List.setIfInBounds_toArray, List.set_cons_zero, List.set_cons_succ])
            refine wpAnyH_take (i := 19) (oi := ({ dst := some 52, op := Op.indexAddr 65 (Operand.tmp 50) (Operand.tmp 51), type := 0, pos := "law.go:83", after := #[{ on := 17, ground := Ground.data }, { on := 18, ground := Ground.data }, { on := 16, ground := Ground.guard }], guard := some (16, false) } : Oper)) (v := ?vlm18) rfl (by kernel_rfl) (by kernel_rfl) (by kernel_rfl) (fun _ _ _ h => h) (Or.inl ⟨by rfl, fun w hSw => ?hylm18⟩) (by assumption) ?rlm18
            case hylm18 => (try dsimp only at hSw); go_simp; (try with_reducible rfl)
            (try simp only [Act.put, List.setIfInBounds_toArray, List.set_cons_zero, List.set_cons_succ])
            refine wpAnyH_take (i := 20) (oi := ({ dst := some 53, op := Op.load 45 (Operand.tmp 52), type := 45, pos := "law.go:83", after := #[{ on := 19, ground := Ground.data }, { on := 16, ground := Ground.guard }], guard := some (16, false) } : Oper)) (v := ?vlm19) rfl (by kernel_rfl) (by kernel_rfl) (by kernel_rfl) (fun _ _ _ h => h) (Or.inl ⟨by rfl, fun w hSw => ?hylm19⟩) (by assumption) ?rlm19
            case hylm19 => (try dsimp only at hSw); go_simp; (try with_reducible rfl)
            (try simp only [Act.put, List.setIfInBounds_toArray, List.set_cons_zero, List.set_cons_succ])
            refine wpAnyH_ready (rs := [21]) (by kernel_rfl) (by simp) ?_
            refine AllReadyH.cons (o := ({ dst := some 54, op := Op.call { callee := Callee.value (Operand.func 13), args := #[Operand.tmp 53, Operand.const (Value.pointer none)], argTypes := #[45, 33] }, type := 4, pos := "law.go:83", after := #[{ on := 20, ground := Ground.data }, { on := 16, ground := Ground.chain }, { on := 16, ground := Ground.guard }], guard := some (16, false) } : Oper)) rfl (fun Kq hKq => ?_) AllReadyH.nil
            go_simp
            (refine HS2.out.mono ?_; rintro e w8 ⟨rfl, rfl⟩)
            refine hKq.out _ _ ?_ (fun hHeld => ?_)
            · exact hHeld
            clear hKq Kq
            (try simp only [Act.put, List.setIfInBounds_toArray, List.set_cons_zero, List.set_cons_succ])
            refine wpAnyH_take (i := 22) (oi := ({ dst := some 55, op := Op.unOp UnOp.not 4 (Operand.tmp 54), type := 4, pos := "law.go:83", after := #[{ on := 21, ground := Ground.data }, { on := 16, ground := Ground.guard }], guard := some (16, false) } : Oper)) (v := ?vlm20) rfl (by kernel_rfl) (by kernel_rfl) (by kernel_rfl) (fun _ _ _ h => h) (Or.inl ⟨by rfl, fun w hSw => ?hylm20⟩) (by assumption) ?rlm20
            case hylm20 => (try dsimp only at hSw); go_simp; (try with_reducible rfl)
            (try simp only [Act.put, List.setIfInBounds_toArray, List.set_cons_zero, List.set_cons_succ])
            refine wpAnyH_take (i := 23) (oi := ({ dst := some 56, op := Op.pick (Operand.tmp 49) (Operand.const (Value.bool true)) (Operand.tmp 55), type := 4, pos := "law.go:83", after := #[{ on := 16, ground := Ground.data }, { on := 22, ground := Ground.data }], guard := none } : Oper)) (v := ?vlm21) rfl (by kernel_rfl) (by kernel_rfl) (by kernel_rfl) (fun _ _ _ h => h) (Or.inl ⟨by rfl, fun w hSw => ?hylm21⟩) (by assumption) ?rlm21
            case hylm21 => (try dsimp only at hSw); go_simp; (try with_reducible rfl)
            (try simp only [Act.put, List.setIfInBounds_toArray, List.set_cons_zero, List.set_cons_succ])
            refine wpAnyH_take (i := 24) (oi := ({ dst := some 57, op := Op.move (Operand.tmp 56), type := 4, pos := "law.go:83", after := #[{ on := 23, ground := Ground.data }, { on := 21, ground := Ground.chain }], guard := none } : Oper)) (v := ?vlm22) rfl (by kernel_rfl) (by kernel_rfl) (by kernel_rfl) (fun _ _ _ h => h) (Or.inl ⟨by rfl, fun w hSw => ?hylm22⟩) (by assumption) ?rlm22
            case hylm22 => (try dsimp only at hSw); go_simp; (try with_reducible rfl)
            (try simp only [Act.put, List.setIfInBounds_toArray, List.set_cons_zero, List.set_cons_succ])
            refine wpAnyH_take (i := 25) (oi := ({ dst := some 58, op := Op.move (Operand.tmp 8), type := 65, pos := "law.go:83", after := #[{ on := 24, ground := Ground.guard }], guard := some (24, false) } : Oper)) (v := ?vlm23) rfl (by kernel_rfl) (by kernel_rfl) (by kernel_rfl) (fun _ _ _ h => h) (Or.inl ⟨by rfl, fun w hSw => ?hylm23⟩) (by assumption) ?rlm23
            case hylm23 => (try dsimp only at hSw); go_simp; (try with_reducible rfl)
            (try simp only [Act.put, List.setIfInBounds_toArray, List.set_cons_zero, List.set_cons_succ])
            refine wpAnyH_take (i := 26) (oi := ({ dst := some 59, op := Op.move (Operand.tmp 9), type := 3, pos := "law.go:83", after := #[{ on := 24, ground := Ground.guard }], guard := some (24, false) } : Oper)) (v := ?vlm24) rfl (by kernel_rfl) (by kernel_rfl) (by kernel_rfl) (fun _ _ _ h => h) (Or.inl ⟨by rfl, fun w hSw => ?hylm24⟩) (by assumption) ?rlm24
            case hylm24 => (try dsimp only at hSw); go_simp; (try with_reducible rfl)
            (try simp only [Act.put, List.setIfInBounds_toArray, List.set_cons_zero, List.set_cons_succ])
            refine wpAnyH_take (i := 27) (oi := ({ dst := some 60, op := Op.indexAddr 65 (Operand.tmp 58) (Operand.tmp 59), type := 0, pos := "law.go:83", after := #[{ on := 25, ground := Ground.data }, { on := 26, ground := Ground.data }, { on := 24, ground := Ground.guard }], guard := some (24, false) } : Oper)) (v := ?vlm25) rfl (by kernel_rfl) (by kernel_rfl) (by kernel_rfl) (fun _ _ _ h => h) (Or.inl ⟨by rfl, fun w hSw => ?hylm25⟩) (by assumption) ?rlm25
            case hylm25 => (try dsimp only at hSw); go_simp; (try with_reducible rfl)
            (try simp only [Act.put, List.setIfInBounds_toArray, List.set_cons_zero, List.set_cons_succ])
            refine wpAnyH_take (i := 28) (oi := ({ dst := some 61, op := Op.load 45 (Operand.tmp 60), type := 45, pos := "law.go:83", after := #[{ on := 27, ground := Ground.data }, { on := 24, ground := Ground.guard }], guard := some (24, false) } : Oper)) (v := ?vlm26) rfl (by kernel_rfl) (by kernel_rfl) (by kernel_rfl) (fun _ _ _ h => h) (Or.inl ⟨by rfl, fun w hSw => ?hylm26⟩) (by assumption) ?rlm26
            case hylm26 => (try dsimp only at hSw); go_simp; (try with_reducible rfl)
            (try simp only [Act.put, List.setIfInBounds_toArray, List.set_cons_zero, List.set_cons_succ])
            refine wpAnyH_ready (rs := [29]) (by kernel_rfl) (by simp) ?_
            refine AllReadyH.cons (o := ({ dst := some 62, op := Op.call { callee := Callee.value (Operand.func 17), args := #[Operand.tmp 61], argTypes := #[45] }, type := 4, pos := "law.go:83", after := #[{ on := 28, ground := Ground.data }, { on := 24, ground := Ground.chain }, { on := 24, ground := Ground.guard }], guard := some (24, false) } : Oper)) rfl (fun Kq hKq => ?_) AllReadyH.nil
            go_simp
            (refine HWT.out.mono ?_; rintro e w8 ⟨rfl, rfl⟩)
            refine hKq.out _ _ ?_ (fun hHeld => ?_)
            · exact hHeld
            clear hKq Kq
            (try simp only [Act.put, List.setIfInBounds_toArray, List.set_cons_zero, List.set_cons_succ])
            refine wpAnyH_take (i := 30) (oi := ({ dst := some 63, op := Op.pick (Operand.tmp 57) (Operand.const (Value.bool true)) (Operand.tmp 62), type := 4, pos := "law.go:83", after := #[{ on := 24, ground := Ground.data }, { on := 29, ground := Ground.data }], guard := none } : Oper)) (v := ?vlm27) rfl (by kernel_rfl) (by kernel_rfl) (by kernel_rfl) (fun _ _ _ h => h) (Or.inl ⟨by rfl, fun w hSw => ?hylm27⟩) (by assumption) ?rlm27
            case hylm27 => (try dsimp only at hSw); go_simp; (try with_reducible rfl)
            (try simp only [Act.put, List.setIfInBounds_toArray, List.set_cons_zero, List.set_cons_succ])
            refine wpAnyH_done (by kernel_rfl) ?_ _
            go_wp2_with fail
            go_roundg (n - (i + 1))
            case measure => have := HI.out; omega
            case rel => exact ⟨i + 1, by have := HI.out; omega, rfl, by go_num, HV2.out⟩
          · obtain rfl : i = n := by omega
            have hpg1 : Pg w w1 w.heap.size WB M Y.parts X := ⟨by have := HBG.out.pr; unfold PairAt at this; rwa [List.append_nil] at this, HBG.out.wB, HBG.out.xm, HBG.out.bl⟩
            have hlk := Pg.lock ((Pg.add hpg1 (.cells #[Pw WB, Pw RB] 36)).new hv.bl2) (lk1 3 a)
            have hsz := hv.bl.size
            have HSZ := Lib.hid hsz
            have HLK := Lib.hid hlk
            have HNL3 : Hid (∀ W, Calls Tryz.prog 7 #[.int .i64 3, .int .u32 (a : Int)] W fun e w' => e = .returned (Pw W.heap.size) ∧ w' = W.alloc (.cells (lk1 3 a).cs 64)) := Lib.hid (fun W => new_lock 3 a W)
            clear hpg1 hlk hsz hv hin hi
            go_upto_region 13 with (go_at_call 7; refine (HNL3.out _).mono ?_; rintro e w5 ⟨rfl, rfl⟩)
            generalize wr.alloc (.cells (lk1 3 a).cs 64) = w5 at *
            have HSZB : Hid (w1.heap.size ≤ wr.heap.size) := Lib.hid HSZ.out
            generalize wr.heap.size = B at *
            have HSN : Hid (Calls Tryz.prog 13 #[Pw B, .pointer none] w5 fun e w' => e = .returned (.bool false) ∧ w5 = w') := Lib.hid (step_none HLK.out.at (by show 1 ≤ 6; decide))
            have HOV : Hid (Calls Tryz.prog 16 #[Pw B] w5 fun e w' => e = .returned (.bool false) ∧ w5 = w') := Lib.hid (over_any HLK.out.at (by show 1 ≤ 6; decide))
            have HV6 := Lib.hid (HLK.out.pushB (.cells Tryz.zeroCells74 74))
            have HSV0 : Hid (True → Calls Tryz.prog 13 #[Pw B, Pw w5.heap.size] (w5.alloc (.cells Tryz.zeroCells74 74)) fun e w' => e = .returned (.bool false) ∧ VEnd w w1 w' WB RB M X Y B a) := Lib.hid (fun _ => by
              have hst := step_v HV6.out (i := ((Y.parts ++ [blockP w1.heap.size (.cells #[Pw WB, Pw RB] 36)]) ++ [lockP B (lk1 3 a)]).length) (VB := w5.heap.size) (by rw [List.getElem?_append_right (Nat.le_refl _), Nat.sub_self]; rfl) (by simp) rfl
              refine hst.mono ?_
              rintro e w7 ⟨rfl, h7⟩
              exact ⟨rfl, vend HBG.out h7 HSZB.out⟩)
            have HVE : Hid (∀ w', VEnd w w1 w' WB RB M X Y B a → (Calls Tryz.prog 16 #[Pw B] w' fun e w'' => e = .returned (.bool false) ∧ w' = w'') ∧ w'.cell? ⟨w1.heap.size, 0, none⟩ = some (Pw WB) ∧ w'.cell? ⟨w1.heap.size, 1, none⟩ = some (Pw RB) ∧ (Calls Tryz.prog 15 #[.agg #[Pw WB, Pw RB]] w' fun e w'' => e = .returned (.bool true) ∧ Below w.heap.size w w'')) := Lib.hid (fun w' h => vend_all h)
            have HLV : Hid (∀ W, Calls Tryz.prog 5 #[] W fun e w' => e = .returned (.bool true) ∧ Below W.heap.size W w') := Lib.hid lives_any
            go_wp2_with (first
              | (go_at_call 5; refine (HLV.out _).mono ?_; rintro e w9 ⟨rfl, hb9⟩)
              | (go_at_call 15; refine HSA.out.mono ?_; rintro e w8 ⟨rfl, hb8⟩)
              | (go_at_call 16; refine HO2.out.mono ?_; rintro e w7' ⟨rfl, rfl⟩)
              | (go_at_call 13; refine HSV.out.mono ?_; rintro e w7 ⟨rfl, h7⟩; obtain ⟨q1, q2, q3, q4⟩ := HVE.out _ h7; have HO2 := Lib.hid q1; have HSA := Lib.hid q4; clear h7 q1 q4)
              | (go_at_call 16; refine HOV.out.mono ?_; rintro e w8 ⟨rfl, rfl⟩; have HSV := Lib.hid (HSV0.out trivial))
              | (go_at_call 13; refine HSN.out.mono ?_; rintro e w7 ⟨rfl, rfl⟩))
            go_ret
            exact ⟨rfl, hb8.trans (hb9.mono hb8.size)⟩
    · have d0 : decide (t < 0) = false := decide_eq_false h0
      have d1 : decide ((64 : Int) ≤ t) = false := decide_eq_false h1
      clear h0 h1
      go_upto_if 20 with fail
      go_cut [8] from 21 to 26 (fun s8 wx => ∃ n cs, VS w1 wx (Pw WB) (Pw RB) s8 n cs)
      case first =>
        go_wp2_with fail
        go_meet
        exact ⟨_, _, HVS.out⟩
      case rest =>
        obtain ⟨n, cs, hv⟩ := hcut
        obtain ⟨g, o, cap, rfl⟩ := hv.at
        have HV := Lib.hid hv
        clear hv
        go_wp2_with fail
        go_loopg [9] n (fun q s9 wx => ∃ i : Nat, i ≤ n ∧ q = n - i ∧ s9 = .int .i64 (i : Int) ∧ VS w1 wx (Pw WB) (Pw RB) (.slice (some ⟨g, o, none⟩) n cap) n cs)
        case atStart => exact ⟨0, by omega, rfl, rfl, HV.out⟩
        case round =>
          obtain ⟨i, hi, rfl, rfl, hv⟩ := hrel
          by_cases hin : i < n
          · obtain ⟨u, hu, hou⟩ := hv.drew.el hin
            obtain ⟨k1, k2, k3, k4⟩ := ovr_all hou WB
            have HOV := Lib.hid k1; have HS1 := Lib.hid k2; have HS2 := Lib.hid k3; have HWT := Lib.hid k4
            have HF : Hid ((fun w' => w'.cell? ⟨g, o + i, none⟩ = some u ∧ w'.cell? ⟨w1.heap.size, 0, none⟩ = some (Pw WB)) wr.drew) := Lib.hid ⟨hu, S10.cell_row hv.drew.pr 0⟩
            have HV2 := Lib.hid hv.drew
            have d1 : (i : Int) < (n : Int) := by omega
            have HI := Lib.hid (And.intro hin HV.out.n3)
            have e1 : wrap64 ((i : Int) + 1) = (i : Int) + 1 := by have := HI.out; unfold wrap64; omega
            clear hv k1 k2 k3 k4 hu hou hi
            go_upto_region 10 with (fail)
            refine wp_region_held_drew (S := fun w' => w'.cell? ⟨g, o + i, none⟩ = some u ∧ w'.cell? ⟨w1.heap.size, 0, none⟩ = some (Pw WB)) (by kernel_rfl) ?_ (fun hHeld => ?_)
            · exact HF.out
            refine wpAnyH_take (i := 0) (oi := ({ dst := some 33, op := Op.move (Operand.tmp 8), type := 65, pos := "law.go:83", after := #[], guard := none } : Oper)) (v := ?vmm1) rfl (by kernel_rfl) (by kernel_rfl) (by kernel_rfl) (fun _ _ _ h => h) (Or.inl ⟨by rfl, fun w hSw => ?hymm1⟩) (by assumption) ?rmm1
            case hymm1 => (try dsimp only at hSw); go_simp; (try with_reducible rfl)
            (try simp only [Act.put, List.setIfInBounds_toArray, List.set_cons_zero, List.set_cons_succ])
            refine wpAnyH_take (i := 1) (oi := ({ dst := some 34, op := Op.move (Operand.tmp 9), type := 3, pos := "law.go:83", after := #[], guard := none } : Oper)) (v := ?vmm2) rfl (by kernel_rfl) (by kernel_rfl) (by kernel_rfl) (fun _ _ _ h => h) (Or.inl ⟨by rfl, fun w hSw => ?hymm2⟩) (by assumption) ?rmm2
            case hymm2 => (try dsimp only at hSw); go_simp; (try with_reducible rfl)
            (try simp only [Act.put, List.setIfInBounds_toArray, List.set_cons_zero, List.set_cons_succ])
            refine wpAnyH_take (i := 2) (oi := ({ dst := some 35, op := Op.indexAddr 65 (Operand.tmp 33) (Operand.tmp 34), type := 0, pos := "law.go:83", after := #[{ on := 0, ground := Ground.data }, { on := 1, ground := Ground.data }], guard := none } : Oper)) (v := ?vmm3) rfl (by kernel_rfl) (by kernel_rfl) (by kernel_rfl) (fun _ _ _ h => h) (Or.inl ⟨by rfl, fun w hSw => ?hymm3⟩) (by assumption) ?rmm3
            case hymm3 => (try dsimp only at hSw); go_simp; (try with_reducible rfl)
            (try simp only [Act.put, List.setIfInBounds_toArray, List.set_cons_zero, List.set_cons_succ])
            refine wpAnyH_take (i := 3) (oi := ({ dst := some 36, op := Op.load 45 (Operand.tmp 35), type := 45, pos := "law.go:83", after := #[{ on := 2, ground := Ground.data }], guard := none } : Oper)) (v := ?vmm4) rfl (by kernel_rfl) (by kernel_rfl) (by kernel_rfl) (fun _ _ _ h => h) (Or.inl ⟨by rfl, fun w hSw => ?hymm4⟩) (by assumption) ?rmm4
            case hymm4 => (try dsimp only at hSw); go_simp; (try with_reducible rfl)
            (try simp only [Act.put, List.setIfInBounds_toArray, List.set_cons_zero, List.set_cons_succ])
            refine wpAnyH_ready (rs := [4]) (by kernel_rfl) (by simp) ?_
            refine AllReadyH.cons (o := ({ dst := some 37, op := Op.call { callee := Callee.value (Operand.func 16), args := #[Operand.tmp 36], argTypes := #[45] }, type := 4, pos := "law.go:83", after := #[{ on := 3, ground := Ground.data }], guard := none } : Oper)) rfl (fun Kq hKq => ?_) AllReadyH.nil
            go_simp
            (refine HOV.out.mono ?_; rintro e w8 ⟨rfl, rfl⟩)
            refine hKq.out _ _ ?_ (fun hHeld => ?_)
            · exact hHeld
            clear hKq Kq
            (try simp only [Act.put, List.setIfInBounds_toArray, List.set_cons_zero, List.set_cons_succ])
            refine wpAnyH_take (i := 5) (oi := ({ dst := some 38, op := Op.unOp UnOp.not 4 (Operand.tmp 37), type := 4, pos := "law.go:83", after := #[{ on := 4, ground := Ground.data }], guard := none } : Oper)) (v := ?vmm5) rfl (by kernel_rfl) (by kernel_rfl) (by kernel_rfl) (fun _ _ _ h => h) (Or.inl ⟨by rfl, fun w hSw => ?hymm5⟩) (by assumption) ?rmm5
            case hymm5 => (try dsimp only at hSw); go_simp; (try with_reducible rfl)
            (try simp only [Act.put, List.setIfInBounds_toArray, List.set_cons_zero, List.set_cons_succ])
            refine wpAnyH_take (i := 6) (oi := ({ dst := some 39, op := Op.move (Operand.tmp 38), type := 4, pos := "law.go:83", after := #[{ on := 5, ground := Ground.data }, { on := 4, ground := Ground.chain }], guard := none } : Oper)) (v := ?vmm6) rfl (by kernel_rfl) (by kernel_rfl) (by kernel_rfl) (fun _ _ _ h => h) (Or.inl ⟨by rfl, fun w hSw => ?hymm6⟩) (by assumption) ?rmm6
            case hymm6 => (try dsimp only at hSw); go_simp; (try with_reducible rfl)
            (try simp only [Act.put, List.setIfInBounds_toArray, List.set_cons_zero, List.set_cons_succ])
            refine wpAnyH_take (i := 7) (oi := ({ dst := some 40, op := Op.move (Operand.tmp 8), type := 65, pos := "law.go:83", after := #[{ on := 6, ground := Ground.guard }], guard := some (6, false) } : Oper)) (v := ?vmm7) rfl (by kernel_rfl) (by kernel_rfl) (by kernel_rfl) (fun _ _ _ h => h) (Or.inl ⟨by rfl, fun w hSw => ?hymm7⟩) (by assumption) ?rmm7
            case hymm7 => (try dsimp only at hSw); go_simp; (try with_reducible rfl)
            (try simp only [Act.put, List.setIfInBounds_toArray, List.set_cons_zero, List.set_cons_succ])
            refine wpAnyH_take (i := 8) (oi := ({ dst := some 41, op := Op.move (Operand.tmp 9), type := 3, pos := "law.go:83", after := #[{ on := 6, ground := Ground.guard }], guard := some (6, false) } : Oper)) (v := ?vmm8) rfl (by kernel_rfl) (by kernel_rfl) (by kernel_rfl) (fun _ _ _ h => h) (Or.inl ⟨by rfl, fun w hSw => ?hymm8⟩) (by assumption) ?rmm8
            case hymm8 => (try dsimp only at hSw); go_simp; (try with_reducible rfl)
            (try simp only [Act.put, List.setIfInBounds_toArray, List.set_cons_zero, List.set_cons_succ])
            refine wpAnyH_take (i := 9) (oi := ({ dst := some 42, op := Op.indexAddr 65 (Operand.tmp 40) (Operand.tmp 41), type := 0, pos := "law.go:83", after := #[{ on := 7, ground := Ground.data }, { on := 8, ground := Ground.data }, { on := 6, ground := Ground.guard }], guard := some (6, false) } : Oper)) (v := ?vmm9) rfl (by kernel_rfl) (by kernel_rfl) (by kernel_rfl) (fun _ _ _ h => h) (Or.inl ⟨by rfl, fun w hSw => ?hymm9⟩) (by assumption) ?rmm9
            case hymm9 => (try dsimp only at hSw); go_simp; (try with_reducible rfl)
            (try simp only [Act.put, List.setIfInBounds_toArray, List.set_cons_zero, List.set_cons_succ])
            refine wpAnyH_take (i := 10) (oi := ({ dst := some 43, op := Op.load 45 (Operand.tmp 42), type := 45, pos := "law.go:83", after := #[{ on := 9, ground := Ground.data }, { on := 6, ground := Ground.guard }], guard := some (6, false) } : Oper)) (v := ?vmm10) rfl (by kernel_rfl) (by kernel_rfl) (by kernel_rfl) (fun _ _ _ h => h) (Or.inl ⟨by rfl, fun w hSw => ?hymm10⟩) (by assumption) ?rmm10
            case hymm10 => (try dsimp only at hSw); go_simp; (try with_reducible rfl)
            (try simp only [Act.put, List.setIfInBounds_toArray, List.set_cons_zero, List.set_cons_succ])
            refine wpAnyH_take (i := 11) (oi := ({ dst := some 44, op := Op.fieldAddr 36 (Operand.tmp 5) 0, type := 0, pos := "law.go:83", after := #[{ on := 6, ground := Ground.guard }], guard := some (6, false) } : Oper)) (v := ?vmm11) rfl (by kernel_rfl) (by kernel_rfl) (by kernel_rfl) (fun _ _ _ h => h) (Or.inl ⟨by rfl, fun w hSw => ?hymm11⟩) (by assumption) ?rmm11
            case hymm11 => (try dsimp only at hSw); go_simp; (try with_reducible rfl)
            (try simp only [Act.put, List.setIfInBounds_toArray, List.set_cons_zero, List.set_cons_succ])
            refine wpAnyH_take (i := 12) (oi := ({ dst := some 45, op := Op.load 33 (Operand.tmp 44), type := 33, pos := "law.go:83", after := #[{ on := 11, ground := Ground.data }, { on := 6, ground := Ground.guard }], guard := some (6, false) } : Oper)) (v := ?vmm12) rfl (by kernel_rfl) (by kernel_rfl) (by kernel_rfl) (fun _ _ _ h => h) (Or.inl ⟨by rfl, fun w hSw => ?hymm12⟩) (by assumption) ?rmm12
            case hymm12 => (try dsimp only at hSw); go_simp; (try with_reducible rfl)
            (try simp only [Act.put, List.setIfInBounds_toArray, List.set_cons_zero, List.set_cons_succ])
            refine wpAnyH_ready (rs := [13]) (by kernel_rfl) (by simp) ?_
            refine AllReadyH.cons (o := ({ dst := some 46, op := Op.call { callee := Callee.value (Operand.func 13), args := #[Operand.tmp 43, Operand.tmp 45], argTypes := #[45, 33] }, type := 4, pos := "law.go:83", after := #[{ on := 10, ground := Ground.data }, { on := 12, ground := Ground.data }, { on := 6, ground := Ground.chain }, { on := 6, ground := Ground.guard }], guard := some (6, false) } : Oper)) rfl (fun Kq hKq => ?_) AllReadyH.nil
            go_simp
            (refine HS1.out.mono ?_; rintro e w8 ⟨rfl, rfl⟩)
            refine hKq.out _ _ ?_ (fun hHeld => ?_)
            · exact hHeld
            clear hKq Kq
            (try simp only [Act.put, List.setIfInBounds_toArray, List.set_cons_zero, List.set_cons_succ])
            refine wpAnyH_take (i := 14) (oi := ({ dst := some 47, op := Op.unOp UnOp.not 4 (Operand.tmp 46), type := 4, pos := "law.go:83", after := #[{ on := 13, ground := Ground.data }, { on := 6, ground := Ground.guard }], guard := some (6, false) } : Oper)) (v := ?vmm13) rfl (by kernel_rfl) (by kernel_rfl) (by kernel_rfl) (fun _ _ _ h => h) (Or.inl ⟨by rfl, fun w hSw => ?hymm13⟩) (by assumption) ?rmm13
            case hymm13 => (try dsimp only at hSw); go_simp; (try with_reducible rfl)
            (try simp only [Act.put, List.setIfInBounds_toArray, List.set_cons_zero, List.set_cons_succ])
            refine wpAnyH_take (i := 15) (oi := ({ dst := some 48, op := Op.pick (Operand.tmp 39) (Operand.const (Value.bool true)) (Operand.tmp 47), type := 4, pos := "law.go:83", after := #[{ on := 6, ground := Ground.data }, { on := 14, ground := Ground.data }], guard := none } : Oper)) (v := ?vmm14) rfl (by kernel_rfl) (by kernel_rfl) (by kernel_rfl) (fun _ _ _ h => h) (Or.inl ⟨by rfl, fun w hSw => ?hymm14⟩) (by assumption) ?rmm14
            case hymm14 => (try dsimp only at hSw); go_simp; (try with_reducible rfl)
            (try simp only [Act.put, List.setIfInBounds_toArray, List.set_cons_zero, List.set_cons_succ])
            refine wpAnyH_take (i := 16) (oi := ({ dst := some 49, op := Op.move (Operand.tmp 48), type := 4, pos := "law.go:83", after := #[{ on := 15, ground := Ground.data }, { on := 13, ground := Ground.chain }], guard := none } : Oper)) (v := ?vmm15) rfl (by kernel_rfl) (by kernel_rfl) (by kernel_rfl) (fun _ _ _ h => h) (Or.inl ⟨by rfl, fun w hSw => ?hymm15⟩) (by assumption) ?rmm15
            case hymm15 => (try dsimp only at hSw); go_simp; (try with_reducible rfl)
            (try simp only [Act.put, List.setIfInBounds_toArray, List.set_cons_zero, List.set_cons_succ])
            refine wpAnyH_take (i := 17) (oi := ({ dst := some 50, op := Op.move (Operand.tmp 8), type := 65, pos := "law.go:83", after := #[{ on := 16, ground := Ground.guard }], guard := some (16, false) } : Oper)) (v := ?vmm16) rfl (by kernel_rfl) (by kernel_rfl) (by kernel_rfl) (fun _ _ _ h => h) (Or.inl ⟨by rfl, fun w hSw => ?hymm16⟩) (by assumption) ?rmm16
            case hymm16 => (try dsimp only at hSw); go_simp; (try with_reducible rfl)
            (try simp only [Act.put, List.setIfInBounds_toArray, List.set_cons_zero, List.set_cons_succ])
            refine wpAnyH_take (i := 18) (oi := ({ dst := some 51, op := Op.move (Operand.tmp 9), type := 3, pos := "law.go:83", after := #[{ on := 16, ground := Ground.guard }], guard := some (16, false) } : Oper)) (v := ?vmm17) rfl (by kernel_rfl) (by kernel_rfl) (by kernel_rfl) (fun _ _ _ h => h) (Or.inl ⟨by rfl, fun w hSw => ?hymm17⟩) (by assumption) ?rmm17
            case hymm17 => (try dsimp only at hSw); go_simp; (try with_reducible rfl)
            (try simp only [Act.put, List.setIfInBounds_toArray, List.set_cons_zero, List.set_cons_succ])
            refine wpAnyH_take (i := 19) (oi := ({ dst := some 52, op := Op.indexAddr 65 (Operand.tmp 50) (Operand.tmp 51), type := 0, pos := "law.go:83", after := #[{ on := 17, ground := Ground.data }, { on := 18, ground := Ground.data }, { on := 16, ground := Ground.guard }], guard := some (16, false) } : Oper)) (v := ?vmm18) rfl (by kernel_rfl) (by kernel_rfl) (by kernel_rfl) (fun _ _ _ h => h) (Or.inl ⟨by rfl, fun w hSw => ?hymm18⟩) (by assumption) ?rmm18
            case hymm18 => (try dsimp only at hSw); go_simp; (try with_reducible rfl)
            (try simp only [Act.put, List.setIfInBounds_toArray, List.set_cons_zero, List.set_cons_succ])
            refine wpAnyH_take (i := 20) (oi := ({ dst := some 53, op := Op.load 45 (Operand.tmp 52), type := 45, pos := "law.go:83", after := #[{ on := 19, ground := Ground.data }, { on := 16, ground := Ground.guard }], guard := some (16, false) } : Oper)) (v := ?vmm19) rfl (by kernel_rfl) (by kernel_rfl) (by kernel_rfl) (fun _ _ _ h => h) (Or.inl ⟨by rfl, fun w hSw => ?hymm19⟩) (by assumption) ?rmm19
            case hymm19 => (try dsimp only at hSw); go_simp; (try with_reducible rfl)
            (try simp only [Act.put, List.setIfInBounds_toArray, List.set_cons_zero, List.set_cons_succ])
            refine wpAnyH_ready (rs := [21]) (by kernel_rfl) (by simp) ?_
            refine AllReadyH.cons (o := ({ dst := some 54, op := Op.call { callee := Callee.value (Operand.func 13), args := #[Operand.tmp 53, Operand.const (Value.pointer none)], argTypes := #[45, 33] }, type := 4, pos := "law.go:83", after := #[{ on := 20, ground := Ground.data }, { on := 16, ground := Ground.chain }, { on := 16, ground := Ground.guard }], guard := some (16, false) } : Oper)) rfl (fun Kq hKq => ?_) AllReadyH.nil
            go_simp
            (refine HS2.out.mono ?_; rintro e w8 ⟨rfl, rfl⟩)
            refine hKq.out _ _ ?_ (fun hHeld => ?_)
            · exact hHeld
            clear hKq Kq
            (try simp only [Act.put, List.setIfInBounds_toArray, List.set_cons_zero, List.set_cons_succ])
            refine wpAnyH_take (i := 22) (oi := ({ dst := some 55, op := Op.unOp UnOp.not 4 (Operand.tmp 54), type := 4, pos := "law.go:83", after := #[{ on := 21, ground := Ground.data }, { on := 16, ground := Ground.guard }], guard := some (16, false) } : Oper)) (v := ?vmm20) rfl (by kernel_rfl) (by kernel_rfl) (by kernel_rfl) (fun _ _ _ h => h) (Or.inl ⟨by rfl, fun w hSw => ?hymm20⟩) (by assumption) ?rmm20
            case hymm20 => (try dsimp only at hSw); go_simp; (try with_reducible rfl)
            (try simp only [Act.put, List.setIfInBounds_toArray, List.set_cons_zero, List.set_cons_succ])
            refine wpAnyH_take (i := 23) (oi := ({ dst := some 56, op := Op.pick (Operand.tmp 49) (Operand.const (Value.bool true)) (Operand.tmp 55), type := 4, pos := "law.go:83", after := #[{ on := 16, ground := Ground.data }, { on := 22, ground := Ground.data }], guard := none } : Oper)) (v := ?vmm21) rfl (by kernel_rfl) (by kernel_rfl) (by kernel_rfl) (fun _ _ _ h => h) (Or.inl ⟨by rfl, fun w hSw => ?hymm21⟩) (by assumption) ?rmm21
            case hymm21 => (try dsimp only at hSw); go_simp; (try with_reducible rfl)
            (try simp only [Act.put, List.setIfInBounds_toArray, List.set_cons_zero, List.set_cons_succ])
            refine wpAnyH_take (i := 24) (oi := ({ dst := some 57, op := Op.move (Operand.tmp 56), type := 4, pos := "law.go:83", after := #[{ on := 23, ground := Ground.data }, { on := 21, ground := Ground.chain }], guard := none } : Oper)) (v := ?vmm22) rfl (by kernel_rfl) (by kernel_rfl) (by kernel_rfl) (fun _ _ _ h => h) (Or.inl ⟨by rfl, fun w hSw => ?hymm22⟩) (by assumption) ?rmm22
            case hymm22 => (try dsimp only at hSw); go_simp; (try with_reducible rfl)
            (try simp only [Act.put, List.setIfInBounds_toArray, List.set_cons_zero, List.set_cons_succ])
            refine wpAnyH_take (i := 25) (oi := ({ dst := some 58, op := Op.move (Operand.tmp 8), type := 65, pos := "law.go:83", after := #[{ on := 24, ground := Ground.guard }], guard := some (24, false) } : Oper)) (v := ?vmm23) rfl (by kernel_rfl) (by kernel_rfl) (by kernel_rfl) (fun _ _ _ h => h) (Or.inl ⟨by rfl, fun w hSw => ?hymm23⟩) (by assumption) ?rmm23
            case hymm23 => (try dsimp only at hSw); go_simp; (try with_reducible rfl)
            (try simp only [Act.put, List.setIfInBounds_toArray, List.set_cons_zero, List.set_cons_succ])
            refine wpAnyH_take (i := 26) (oi := ({ dst := some 59, op := Op.move (Operand.tmp 9), type := 3, pos := "law.go:83", after := #[{ on := 24, ground := Ground.guard }], guard := some (24, false) } : Oper)) (v := ?vmm24) rfl (by kernel_rfl) (by kernel_rfl) (by kernel_rfl) (fun _ _ _ h => h) (Or.inl ⟨by rfl, fun w hSw => ?hymm24⟩) (by assumption) ?rmm24
            case hymm24 => (try dsimp only at hSw); go_simp; (try with_reducible rfl)
            (try simp only [Act.put, List.setIfInBounds_toArray, List.set_cons_zero, List.set_cons_succ])
            refine wpAnyH_take (i := 27) (oi := ({ dst := some 60, op := Op.indexAddr 65 (Operand.tmp 58) (Operand.tmp 59), type := 0, pos := "law.go:83", after := #[{ on := 25, ground := Ground.data }, { on := 26, ground := Ground.data }, { on := 24, ground := Ground.guard }], guard := some (24, false) } : Oper)) (v := ?vmm25) rfl (by kernel_rfl) (by kernel_rfl) (by kernel_rfl) (fun _ _ _ h => h) (Or.inl ⟨by rfl, fun w hSw => ?hymm25⟩) (by assumption) ?rmm25
            case hymm25 => (try dsimp only at hSw); go_simp; (try with_reducible rfl)
            (try simp only [Act.put, List.setIfInBounds_toArray, List.set_cons_zero, List.set_cons_succ])
            refine wpAnyH_take (i := 28) (oi := ({ dst := some 61, op := Op.load 45 (Operand.tmp 60), type := 45, pos := "law.go:83", after := #[{ on := 27, ground := Ground.data }, { on := 24, ground := Ground.guard }], guard := some (24, false) } : Oper)) (v := ?vmm26) rfl (by kernel_rfl) (by kernel_rfl) (by kernel_rfl) (fun _ _ _ h => h) (Or.inl ⟨by rfl, fun w hSw => ?hymm26⟩) (by assumption) ?rmm26
            case hymm26 => (try dsimp only at hSw); go_simp; (try with_reducible rfl)
            (try simp only [Act.put, List.setIfInBounds_toArray, List.set_cons_zero, List.set_cons_succ])
            refine wpAnyH_ready (rs := [29]) (by kernel_rfl) (by simp) ?_
            refine AllReadyH.cons (o := ({ dst := some 62, op := Op.call { callee := Callee.value (Operand.func 17), args := #[Operand.tmp 61], argTypes := #[45] }, type := 4, pos := "law.go:83", after := #[{ on := 28, ground := Ground.data }, { on := 24, ground := Ground.chain }, { on := 24, ground := Ground.guard }], guard := some (24, false) } : Oper)) rfl (fun Kq hKq => ?_) AllReadyH.nil
            go_simp
            (refine HWT.out.mono ?_; rintro e w8 ⟨rfl, rfl⟩)
            refine hKq.out _ _ ?_ (fun hHeld => ?_)
            · exact hHeld
            clear hKq Kq
            (try simp only [Act.put, List.setIfInBounds_toArray, List.set_cons_zero, List.set_cons_succ])
            refine wpAnyH_take (i := 30) (oi := ({ dst := some 63, op := Op.pick (Operand.tmp 57) (Operand.const (Value.bool true)) (Operand.tmp 62), type := 4, pos := "law.go:83", after := #[{ on := 24, ground := Ground.data }, { on := 29, ground := Ground.data }], guard := none } : Oper)) (v := ?vmm27) rfl (by kernel_rfl) (by kernel_rfl) (by kernel_rfl) (fun _ _ _ h => h) (Or.inl ⟨by rfl, fun w hSw => ?hymm27⟩) (by assumption) ?rmm27
            case hymm27 => (try dsimp only at hSw); go_simp; (try with_reducible rfl)
            (try simp only [Act.put, List.setIfInBounds_toArray, List.set_cons_zero, List.set_cons_succ])
            refine wpAnyH_done (by kernel_rfl) ?_ _
            go_wp2_with fail
            go_roundg (n - (i + 1))
            case measure => have := HI.out; omega
            case rel => exact ⟨i + 1, by have := HI.out; omega, rfl, by go_num, HV2.out⟩
          · obtain rfl : i = n := by omega
            have hpg1 : Pg w w1 w.heap.size WB M Y.parts X := ⟨by have := HBG.out.pr; unfold PairAt at this; rwa [List.append_nil] at this, HBG.out.wB, HBG.out.xm, HBG.out.bl⟩
            have hlk := Pg.lock ((Pg.add hpg1 (.cells #[Pw WB, Pw RB] 36)).new hv.bl2) (lk1 3 a)
            have hsz := hv.bl.size
            have HSZ := Lib.hid hsz
            have HLK := Lib.hid hlk
            have HNL3 : Hid (∀ W, Calls Tryz.prog 7 #[.int .i64 3, .int .u32 (a : Int)] W fun e w' => e = .returned (Pw W.heap.size) ∧ w' = W.alloc (.cells (lk1 3 a).cs 64)) := Lib.hid (fun W => new_lock 3 a W)
            clear hpg1 hlk hsz hv hin hi
            go_upto_region 13 with (go_at_call 7; refine (HNL3.out _).mono ?_; rintro e w5 ⟨rfl, rfl⟩)
            generalize wr.alloc (.cells (lk1 3 a).cs 64) = w5 at *
            have HSZB : Hid (w1.heap.size ≤ wr.heap.size) := Lib.hid HSZ.out
            generalize wr.heap.size = B at *
            have HSN : Hid (Calls Tryz.prog 13 #[Pw B, .pointer none] w5 fun e w' => e = .returned (.bool false) ∧ w5 = w') := Lib.hid (step_none HLK.out.at (by show 1 ≤ 6; decide))
            have HOV : Hid (Calls Tryz.prog 16 #[Pw B] w5 fun e w' => e = .returned (.bool false) ∧ w5 = w') := Lib.hid (over_any HLK.out.at (by show 1 ≤ 6; decide))
            have HV6 := Lib.hid (HLK.out.pushB (.cells Tryz.zeroCells74 74))
            have HSV0 : Hid (True → Calls Tryz.prog 13 #[Pw B, Pw w5.heap.size] (w5.alloc (.cells Tryz.zeroCells74 74)) fun e w' => e = .returned (.bool false) ∧ VEnd w w1 w' WB RB M X Y B a) := Lib.hid (fun _ => by
              have hst := step_v HV6.out (i := ((Y.parts ++ [blockP w1.heap.size (.cells #[Pw WB, Pw RB] 36)]) ++ [lockP B (lk1 3 a)]).length) (VB := w5.heap.size) (by rw [List.getElem?_append_right (Nat.le_refl _), Nat.sub_self]; rfl) (by simp) rfl
              refine hst.mono ?_
              rintro e w7 ⟨rfl, h7⟩
              exact ⟨rfl, vend HBG.out h7 HSZB.out⟩)
            have HVE : Hid (∀ w', VEnd w w1 w' WB RB M X Y B a → (Calls Tryz.prog 16 #[Pw B] w' fun e w'' => e = .returned (.bool false) ∧ w' = w'') ∧ w'.cell? ⟨w1.heap.size, 0, none⟩ = some (Pw WB) ∧ w'.cell? ⟨w1.heap.size, 1, none⟩ = some (Pw RB) ∧ (Calls Tryz.prog 15 #[.agg #[Pw WB, Pw RB]] w' fun e w'' => e = .returned (.bool true) ∧ Below w.heap.size w w'')) := Lib.hid (fun w' h => vend_all h)
            have HLV : Hid (∀ W, Calls Tryz.prog 5 #[] W fun e w' => e = .returned (.bool true) ∧ Below W.heap.size W w') := Lib.hid lives_any
            go_wp2_with (first
              | (go_at_call 5; refine (HLV.out _).mono ?_; rintro e w9 ⟨rfl, hb9⟩)
              | (go_at_call 15; refine HSA.out.mono ?_; rintro e w8 ⟨rfl, hb8⟩)
              | (go_at_call 16; refine HO2.out.mono ?_; rintro e w7' ⟨rfl, rfl⟩)
              | (go_at_call 13; refine HSV.out.mono ?_; rintro e w7 ⟨rfl, h7⟩; obtain ⟨q1, q2, q3, q4⟩ := HVE.out _ h7; have HO2 := Lib.hid q1; have HSA := Lib.hid q4; clear h7 q1 q4)
              | (go_at_call 16; refine HOV.out.mono ?_; rintro e w8 ⟨rfl, rfl⟩; have HSV := Lib.hid (HSV0.out trivial))
              | (go_at_call 13; refine HSN.out.mono ?_; rintro e w7 ⟨rfl, rfl⟩))
            go_ret
            exact ⟨rfl, hb8.trans (hb9.mono hb8.size)⟩
end Go.Proofs.YtffoobepdofkkaaGreat.S13
