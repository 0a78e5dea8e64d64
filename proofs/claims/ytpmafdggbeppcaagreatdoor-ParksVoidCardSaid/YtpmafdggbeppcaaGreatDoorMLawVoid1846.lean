/- Texts of this seat, one behind the other. -/
import Derived.Test.YtpmafdggbeppcaaGreatDoorMLawVoid184
import Derived.Test.YtpmafdggbeppcaaGreatDoorMLawVoid1840
import Derived.Test.YtpmafdggbeppcaaGreatDoorMLawVoid1842
import Derived.Test.YtpmafdggbeppcaaGreatDoorMLawVoid1845
import Derived.OrdersHeld
import Derived.Deep.MidRow
import Derived.Deep.RegionHeld3
import Derived.LoopTactic
import Derived.Deep.LoopGhost
set_option linter.unusedVariables false
set_option linter.unusedSimpArgs false
namespace Go.Proofs.YtpmafdggbeppcaaGreatDoor.S12
set_option maxRecDepth 100000
set_option maxHeartbeats 16000000
open Go.Proofs.YtpmafdggbeppcaaGreatDoor Go.Proofs.YtpmafdggbeppcaaGreatDoor.S11
open Go.RowKit
section
variable {P : Program} {ops : Array Oper} {Q : Exit → Act → World → Prop} {md : Region.Mode} {S S' : World → Prop}
theorem wpAnyH_more (h : ∀ w, S' w → S w) : ∀ (fuel : Nat) (listed : Array Bool) (a : Act) (w : World), wpAnyH P md ops Q S' fuel listed a w → wpAnyH P md ops Q S fuel listed a w
  | 0, _, _, _, hq => hq
  | fuel + 1, _, _, _, hq => ⟨hq.1, fun i hi => wpOp_mono (fun a' w' h' => ⟨h w' h'.1, wpAnyH_more h fuel _ a' w' h'.2⟩) (hq.2 i hi)⟩
end
theorem Bg.both02 {w0 w : World} {base WB RB N cn tn : Nat} {M : Sd} {E : List Part} {X : Wm} {Y : Rm} (h : Bg w0 w base WB RB N cn tn M M E X Y) : S2.Both w 0 X.cB Y.rB X.L X.n X.k X.a X.was X.is := by
  have heq : X.sd = Y.sd := by rw [h.xm, h.ym]
  have e_L : X.L = Y.L := congrArg Sd.L heq
  have e_n : X.n = Y.n := congrArg Sd.n heq
  have e_k : X.k = Y.k := congrArg Sd.k heq
  have e_a : X.a = Y.a := congrArg Sd.a heq
  have e_was : X.was = Y.was := congrArg Sd.was heq
  have e_is : X.is = Y.is := congrArg Sd.is heq
  have hr := h.pr.rcells
  rw [← e_L, ← e_n, ← e_k, ← e_a, ← e_was, ← e_is] at hr
  have ap : ∀ k, (cellsP X.cB X.cM X.L X.n X.k X.a X.was X.is).fp k → ¬ (rcellsP Y.rb Y.rB Y.rs Y.L Y.n Y.k Y.a Y.was Y.is).fp k := h.pr.apart 0 7 _ _ rfl rfl (by decide)
  refine ⟨Nat.zero_le _, Nat.zero_le _, Nat.zero_le _, fun e => ap X.cB (.inl rfl) (.inl e.symm), h.byt, X.cM, Y.rs, h.pr.pw.cells, ⟨hr.good, hr.row, S2.row_base hr.own (Nat.zero_le _), hr.ne⟩, fun m hm => ⟨Nat.zero_le _, fun e => ap m (.inr hm) (.inl e), fun e => ap m (.inr hm) (.inr e)⟩, fun e => ap X.cB (.inl rfl) (.inr e)⟩
theorem Bg.se {w0 w : World} {base WB RB N cn tn : Nat} {M : Sd} {E : List Part} {X : Wm} {Y : Rm} (h : Bg w0 w base WB RB N cn tn M M E X Y) : S10.Se w X.tb Y.tb X.tO Y.tO X.ts Y.ts X.tn M.m M.m (fun _ => False) :=
  ⟨h.st, h.rt, h.pr.apart 4 9 _ _ rfl rfl (by decide), fun _ e => e.elim⟩
def Z64l : List Value := List.replicate 64 (.int .u64 0)
def Z64 : Array Value := Z64l.toArray
theorem under64 : Tryz.prog.underlying 72 = some (.array 64 29) := by kernel_rfl
theorem info64 : (Tryz.prog.info? 72).map (·.size) = some Z64l.length := by kernel_rfl
theorem neq64 (w : World) : (binOp .neq 72 (.agg Z64) (.agg Z64)).run Tryz.prog w = .ok (.bool false) w := by kernel_rfl
theorem z64_get (j : Nat) (hj : j < 64) : Z64l[j]? = some (.int .u64 0) := by
  unfold Z64l
  rw [List.getElem?_replicate, if_pos hj]
theorem zx7 : ∀ j, j < 64 → Tryz.zeroCells74[7 + j]? = some (.int .u64 0) := by
  intro j hj
  have e : Tryz.zeroCells74 = (#[.pointer none, .pointer none, .pointer none, .pointer none, .pointer none, .pointer none, .int .i64 0] ++ Z64 : Array Value) := by kernel_rfl
  rw [e, Array.getElem?_append_right (by simp)]
  show Z64[7 + j - 7]? = _
  rw [Nat.add_sub_cancel_left]
  unfold Z64
  rw [List.getElem?_toArray]
  exact z64_get j hj
theorem zy7 : ∀ j, j < 64 → Tryz.zeroCells82[7 + j]? = some (.int .u64 0) := by
  intro j hj
  have e : Tryz.zeroCells82 = (#[.pointer none, .pointer none, .pointer none, .pointer none, .pointer none, .pointer none, .int .i64 0] ++ Z64 : Array Value) := by kernel_rfl
  rw [e, Array.getElem?_append_right (by simp)]
  show Z64[7 + j - 7]? = _
  rw [Nat.add_sub_cancel_left]
  unfold Z64
  rw [List.getElem?_toArray]
  exact z64_get j hj
theorem px7 (a b c d e f : Value) (sp : Int) (j : Nat) (hj : j < 64) : (pcells a b c d e f sp)[7 + j]? = some (.int .u64 0) := by
  simp [pcells, Array.getElem?_setIfInBounds, zsize, zx7 j hj, show ¬ 0 = 7 + j by omega, show ¬ 1 = 7 + j by omega, show ¬ 2 = 7 + j by omega, show ¬ 3 = 7 + j by omega, show ¬ 4 = 7 + j by omega, show ¬ 5 = 7 + j by omega, show ¬ 6 = 7 + j by omega]
theorem py7 (a b c d e f : Value) (sp : Int) (j : Nat) (hj : j < 64) : (wcells a b c d e f sp)[7 + j]? = some (.int .u64 0) := by
  simp [wcells, Array.getElem?_setIfInBounds, rsize, zy7 j hj, show ¬ 0 = 7 + j by omega, show ¬ 1 = 7 + j by omega, show ¬ 2 = 7 + j by omega, show ¬ 3 = 7 + j by omega, show ¬ 4 = 7 + j by omega, show ¬ 5 = 7 + j by omega, show ¬ 6 = 7 + j by omega]
theorem Bg.tokX {w0 w : World} {base WB RB N cn tn : Nat} {M RM : Sd} {E : List Part} {X : Wm} {Y : Rm} (h : Bg w0 w base WB RB N cn tn M RM E X Y) : w.rangeAt WB 7 Z64l := fun j v hj => by
  have hl : j < 64 := by
    have := (List.getElem?_eq_some_iff.1 hj).1
    unfold Z64l at this
    rwa [List.length_replicate] at this
  have hv : v = .int .u64 0 := by rw [z64_get j hl] at hj; injection hj with hj; exact hj.symm
  rw [hv, ← h.wB]
  exact (cell_row h.pr.pw.own (7 + j)).trans (px7 _ _ _ _ _ _ _ j hl)
theorem Bg.tokY {w0 w : World} {base WB RB N cn tn : Nat} {M RM : Sd} {E : List Part} {X : Wm} {Y : Rm} (h : Bg w0 w base WB RB N cn tn M RM E X Y) : w.rangeAt RB 7 Z64l := fun j v hj => by
  have hl : j < 64 := by
    have := (List.getElem?_eq_some_iff.1 hj).1
    unfold Z64l at this
    rwa [List.length_replicate] at this
  have hv : v = .int .u64 0 := by rw [z64_get j hl] at hj; injection hj with hj; exact hj.symm
  rw [hv, ← h.rB]
  exact (cell_row h.pr.rown (7 + j)).trans (py7 _ _ _ _ _ _ _ j hl)
def SaF (w2 : World) (B0 WB RB cB kB nB rB rkB rnB nl nc T : Nat) (ts rts : Value) (nA : Option Addr) (w' : World) : Prop := Below w2.heap.size w2 w' ∧ w'.cell? ⟨B0, 0, none⟩ = some (Pw WB) ∧ w'.cell? ⟨B0, 1, none⟩ = some (Pw RB) ∧ w'.cell? ⟨WB, 0, none⟩ = some (Pw cB) ∧ w'.cell? ⟨WB, 1, none⟩ = some (Pw kB) ∧ w'.cell? ⟨WB, 4, none⟩ = some ts ∧ w'.cell? ⟨WB, 5, none⟩ = some (Pw nB) ∧ w'.cell? ⟨RB, 0, none⟩ = some (Pw rB) ∧ w'.cell? ⟨RB, 1, none⟩ = some (Pw rkB) ∧ w'.cell? ⟨RB, 4, none⟩ = some rts ∧ w'.cell? ⟨RB, 5, none⟩ = some (Pw rnB) ∧ w'.cell? ⟨rnB, 0, none⟩ = some (.slice nA nl nc) ∧ w'.cell? ⟨rkB, 0, none⟩ = some (.int .u64 (T : Int))
theorem SaF.new {w2 w' w'' : World} {B0 WB RB cB kB nB rB rkB rnB nl nc T : Nat} {ts rts : Value} {nA : Option Addr} (h : SaF w2 B0 WB RB cB kB nB rB rkB rnB nl nc T ts rts nA w') (hb : Below w'.heap.size w' w'') : SaF w2 B0 WB RB cB kB nB rB rkB rnB nl nc T ts rts nA w'' := by
  obtain ⟨hb0, c0, c1, c2, c3, c4, c5, c6, c7, c8, c9, c10, c11⟩ := h
  exact ⟨hb0.trans (hb.mono hb0.size), bcell hb c0, bcell hb c1, bcell hb c2, bcell hb c3, bcell hb c4, bcell hb c5, bcell hb c6, bcell hb c7, bcell hb c8, bcell hb c9, bcell hb c10, bcell hb c11⟩
def SbF (w2 : World) (B0 WB RB pB rpB Bx : Nat) (xa : Bool) (w' : World) : Prop := Below w2.heap.size w2 w' ∧ w'.cell? ⟨B0, 0, none⟩ = some (Pw WB) ∧ w'.cell? ⟨B0, 1, none⟩ = some (Pw RB) ∧ w'.cell? ⟨WB, 2, none⟩ = some (Pw pB) ∧ w'.cell? ⟨RB, 2, none⟩ = some (Pw rpB) ∧ w'.cell? ⟨Bx, 1, none⟩ = some (.bool xa)
theorem SbF.new {w2 w' w'' : World} {B0 WB RB pB rpB Bx : Nat} {xa : Bool} (h : SbF w2 B0 WB RB pB rpB Bx xa w') (hb : Below w'.heap.size w' w'') : SbF w2 B0 WB RB pB rpB Bx xa w'' := by
  obtain ⟨hb0, c0, c1, c2, c3, c4⟩ := h
  exact ⟨hb0.trans (hb.mono hb0.size), bcell hb c0, bcell hb c1, bcell hb c2, bcell hb c3, bcell hb c4⟩
theorem pair_all {w0 w : World} {base WB RB N cn tn : Nat} {M : Sd} {E : List Part} {X : Wm} {Y : Rm} (h : Bg w0 w base WB RB N cn tn M M E X Y) (hc : cn ≤ 2100000) (hN : N ≤ 100000) :
    Calls Tryz.prog 17 #[.agg #[Pw WB, Pw RB]] w fun e w' => e = .returned (.bool true) ∧ Below w.heap.size w w' := by
  have hb1 : Below w.heap.size w (w.alloc (.cells #[Pw WB, Pw RB] 27)) := (Below.refl _ _).alloc (Nat.le_refl _) _
  have hq0 := heap_alloc_new w (.cells #[Pw WB, Pw RB] 27)
  have h2 := h.new hb1
  obtain ⟨B0, hB0⟩ : ∃ B0, B0 = w.heap.size := ⟨_, rfl⟩
  rw [← hB0] at hq0
  have HB1 := Lib.hid hb1
  have HB0 := Lib.hid hB0
  clear hb1 h hB0
  go_enter Tryz.func17, Tryz.ntmps17
  go_upto_region 1 with (fail)
  rw [← HB0.out]
  generalize w.alloc (.cells #[Pw WB, Pw RB] 27) = w2 at *
  have b0 := cell_row hq0 0; have b1 := cell_row hq0 1
  simp only [List.getElem?_toArray, List.getElem?_cons_zero, List.getElem?_cons_succ] at b0 b1
  obtain ⟨nA, nc, hns, _⟩ := h2.pr.rnotes.own.shape
  have heq : X.sd = Y.sd := by rw [h2.xm, h2.ym]
  have e_T : X.T = Y.T := congrArg Sd.T heq
  have e_nD : X.nD = Y.nD := congrArg Sd.nD heq
  have e_pf : X.pf = Y.pf := congrArg Sd.pf heq
  have e_lk : X.lk = Y.lk := congrArg Sd.lk heq
  have hsm := fun (W : World) (q : Below w2.heap.size w2 W) => pair_same (h2.new q) (by omega)
  have hs2 := fun (W : World) (q : Below w2.heap.size w2 W) => S2.same_any W 0 X.cB Y.rB X.L X.n X.k X.a X.was X.is (h2.new q).both02
  have hal := fun (W : World) (q : Below w2.heap.size w2 W) => S11.all_any (h2.new q).pr.pw.notes (by have := h2.nD; omega)
  have hnl : Y.nD.length ≤ 2100000 := by rw [← e_nD]; have := h2.nD; omega
  have hnw := fun (W : World) (q : Below w2.heap.size w2 W) => S3.now_any (h2.new q).pr.pw.clock
  have hts := fun (W : World) (q : Below w2.heap.size w2 W) => S10.same_sets (h2.new q).se h2.gd hN
  have hnr : ∀ W, Below w2.heap.size w2 W → Rd W W.heap.size nA (flat .i64 X.nD) := fun W q => by
    have hr := (h2.new q).pr.rnotes.own
    rw [hns] at hr
    rw [e_nD]
    exact hr.rd
  have f2 := h2.pr.pw.c0; have f3 := h2.pr.pw.c1; have f4 := h2.pr.pw.c4; have f5 := h2.pr.pw.c5
  have f6 := h2.pr.r0; have f7 := h2.pr.r1; have f8 := h2.pr.r4; have f9 := h2.pr.r5
  have f10 := h2.pr.rnotes.cell
  have f11 := cell_row h2.pr.rclock.row 0
  simp only [List.getElem?_toArray, List.getElem?_cons_zero, List.getElem?_cons_succ] at f11
  rw [hns, ← e_nD] at f10
  rw [← e_T] at f11
  rw [h2.wB] at f2 f3 f4 f5
  rw [h2.rB] at f6 f7 f8 f9
  have hns2 : ∀ W A9 b9, Below w2.heap.size w2 W → ∀ _ : Unit, ∀ _ : Unit, Row W b9 7 (.slice A9 X.nD.length X.nD.length) X.nD.length (flat .u8 X.nD) → Calls Tryz.prog 59 #[.slice A9 X.nD.length X.nD.length, .slice nA X.nD.length nc] W fun e w' => e = .returned (.bool true) ∧ Below W.heap.size W w' := fun W A9 b9 q _ _ hr =>
    S11.same_any _ nc hr.rd (hnr W q) (Nat.le_refl _) (Nat.le_refl _) (by have := h2.nD; omega) h2.nk
  have H2 := Lib.hid h2
  obtain ⟨D, hD⟩ : ∃ D, D = X.nD := ⟨_, rfl⟩
  rw [← hD] at f10 hns2 hal
  obtain ⟨nl, hnl2⟩ : ∃ x, x = D.length := ⟨_, rfl⟩
  have hal2 : ∀ W, Below w2.heap.size w2 W → Calls Tryz.prog 60 #[Pw X.nB] W fun e w' => ∃ A, e = .returned (.slice A nl nl) ∧ Row w' W.heap.size 7 (.slice A nl nl) nl (flat .u8 D) ∧ Below W.heap.size W w' := fun W q => by rw [hnl2]; exact hal W q
  rw [← hnl2] at f10 hns2
  have HTX := Lib.hid (fun (W : World) (q : Below w2.heap.size w2 W) => (h2.new q).tokX)
  have HTY := Lib.hid (fun (W : World) (q : Below w2.heap.size w2 W) => (h2.new q).tokY)
  have HSM := Lib.hid hsm; have HS2 := Lib.hid hs2; have HAL := Lib.hid hal2; have HNS := Lib.hid hns2; have HTS := Lib.hid hts; have HNW := Lib.hid hnw
  have HE := Lib.hid (And.intro e_pf e_lk)
  clear hsm hs2 hal hal2 hns2 hts hnw hnr hnl hnl2 hD e_T e_nD e_pf e_lk heq hc hN
  obtain ⟨kB, hkB⟩ : ∃ x, x = X.kB := ⟨_, rfl⟩
  obtain ⟨cB, hcB⟩ : ∃ x, x = X.cB := ⟨_, rfl⟩
  obtain ⟨nB, hnB⟩ : ∃ x, x = X.nB := ⟨_, rfl⟩
  obtain ⟨ts, hts⟩ : ∃ x, x = X.ts := ⟨_, rfl⟩
  obtain ⟨rts, hrts⟩ : ∃ x, x = Y.ts := ⟨_, rfl⟩
  obtain ⟨rB, hrB⟩ : ∃ x, x = Y.rB := ⟨_, rfl⟩
  obtain ⟨rkB, hrkB⟩ : ∃ x, x = Y.kB := ⟨_, rfl⟩
  obtain ⟨rnB, hrnB⟩ : ∃ x, x = Y.nB := ⟨_, rfl⟩
  obtain ⟨T, hT⟩ : ∃ x, x = X.T := ⟨_, rfl⟩
  rw [← hcB, ← hrB] at HS2; rw [← hnB] at HAL; rw [← hts, ← hrts] at HTS; rw [← hkB, ← hT] at HNW
  rw [← hcB] at f2; rw [← hkB] at f3; rw [← hts] at f4; rw [← hnB] at f5; rw [← hrB] at f6; rw [← hrkB] at f7 f11; rw [← hrts] at f8; rw [← hrnB] at f9 f10; rw [← hT] at f11
  have hev := fun W => neq64 W
  have HF : Hid (w2.drew.cell? ⟨B0, 0, none⟩ = some (Pw WB) ∧ w2.drew.cell? ⟨B0, 1, none⟩ = some (Pw RB) ∧ w2.drew.cell? ⟨WB, 0, none⟩ = some (Pw cB) ∧ w2.drew.cell? ⟨WB, 1, none⟩ = some (Pw kB) ∧ w2.drew.cell? ⟨WB, 4, none⟩ = some ts ∧ w2.drew.cell? ⟨WB, 5, none⟩ = some (Pw nB) ∧ w2.drew.cell? ⟨RB, 0, none⟩ = some (Pw rB) ∧ w2.drew.cell? ⟨RB, 1, none⟩ = some (Pw rkB) ∧ w2.drew.cell? ⟨RB, 4, none⟩ = some rts ∧ w2.drew.cell? ⟨RB, 5, none⟩ = some (Pw rnB) ∧ w2.drew.cell? ⟨rnB, 0, none⟩ = some (.slice nA nl nc) ∧ w2.drew.cell? ⟨rkB, 0, none⟩ = some (.int .u64 (T : Int))) := Lib.hid ⟨b0, b1, f2, f3, f4, f5, f6, f7, f8, f9, f10, f11⟩
  have HQ0 := Lib.hid hq0
  clear b0 b1 f2 f3 f4 f5 f6 f7 f8 f9 f10 f11 hkB hcB hnB hts hrts hrB hrkB hrnB hT hns h2 hq0
  (try simp only [List.append_eq, List.cons_append, List.nil_append])
  refine wp_region_held_drew (S := fun w' => Below w2.heap.size w2 w' ∧ w'.cell? ⟨B0, 0, none⟩ = some (Pw WB) ∧ w'.cell? ⟨B0, 1, none⟩ = some (Pw RB) ∧ w'.cell? ⟨WB, 0, none⟩ = some (Pw cB) ∧ w'.cell? ⟨WB, 1, none⟩ = some (Pw kB) ∧ w'.cell? ⟨WB, 4, none⟩ = some ts ∧ w'.cell? ⟨WB, 5, none⟩ = some (Pw nB) ∧ w'.cell? ⟨RB, 0, none⟩ = some (Pw rB) ∧ w'.cell? ⟨RB, 1, none⟩ = some (Pw rkB) ∧ w'.cell? ⟨RB, 4, none⟩ = some rts ∧ w'.cell? ⟨RB, 5, none⟩ = some (Pw rnB) ∧ w'.cell? ⟨rnB, 0, none⟩ = some (.slice nA nl nc) ∧ w'.cell? ⟨rkB, 0, none⟩ = some (.int .u64 (T : Int))) (by kernel_rfl) ?_ (fun hHeld => ?_)
  · exact ⟨(Below.refl _ _).drew, HF.out⟩
  refine tA 0 ⟨some 10, .load 27 (.tmp 1), 27, "help.go:113", #[], none⟩ ?vam1 ?ram1
  (try simp only [Act.put, tC, tD, tE])
  refine wpAnyH_ready (rs := [1]) (by kernel_rfl) (by simp) ?_
  refine AllReadyH.cons (o := ⟨some 11, .call ⟨.value (.func 57), #[.tmp 10], #[27]⟩, 4, "help.go:113", #[⟨0, .data⟩], none⟩) rfl (fun Kq hKq => ?_) AllReadyH.nil
  go_simp
  (refine (HSM.out _ hHeld.1).mono ?_; rintro e w3 ⟨rfl, hb⟩)
  refine hKq.out _ _ ?_ (fun hHeld => ?_)
  · exact SaF.new hHeld hb
  clear hKq Kq
  (try simp only [Act.put, tC, tD, tE])
  refine tA 2 ⟨some 12, .unOp .not 4 (.tmp 11), 4, "help.go:113", #[⟨1, .data⟩], none⟩ ?vam2 ?ram2
  (try simp only [Act.put, tC, tD, tE])
  refine tA 3 ⟨some 13, .move (.tmp 12), 4, "help.go:113", #[⟨2, .data⟩, ⟨1, .chain⟩], none⟩ ?vam3 ?ram3
  (try simp only [Act.put, tC, tD, tE])
  refine tA 4 ⟨some 14, .fieldAddr 27 (.tmp 1) 0, 0, "help.go:113", #[⟨3, .guard⟩], some (3, false)⟩ ?vam4 ?ram4
  (try simp only [Act.put, tC, tD, tE])
  refine tA 5 ⟨some 15, .load 24 (.tmp 14), 24, "help.go:113", #[⟨4, .data⟩, ⟨3, .guard⟩], some (3, false)⟩ ?vam5 ?ram5
  (try simp only [Act.put, tC, tD, tE])
  refine tA 6 ⟨some 16, .nilCheck (.tmp 15), 0, "help.go:113", #[⟨5, .data⟩, ⟨3, .guard⟩], some (3, false)⟩ ?vam6 ?ram6
  (try simp only [Act.put, tC, tD, tE])
  refine tA 7 ⟨some 17, .fieldAddr 74 (.tmp 16) 0, 0, "help.go:113", #[⟨6, .data⟩, ⟨3, .guard⟩], some (3, false)⟩ ?vam7 ?ram7
  (try simp only [Act.put, tC, tD, tE])
  refine tA 8 ⟨some 18, .load 66 (.tmp 17), 66, "help.go:113", #[⟨7, .data⟩, ⟨3, .guard⟩], some (3, false)⟩ ?vam8 ?ram8
  (try simp only [Act.put, tC, tD, tE])
  refine tA 9 ⟨some 19, .fieldAddr 27 (.tmp 1) 1, 0, "help.go:113", #[⟨3, .guard⟩], some (3, false)⟩ ?vam9 ?ram9
  (try simp only [Act.put, tC, tD, tE])
  refine tA 10 ⟨some 20, .load 25 (.tmp 19), 25, "help.go:113", #[⟨9, .data⟩, ⟨3, .guard⟩], some (3, false)⟩ ?vam10 ?ram10
  (try simp only [Act.put, tC, tD, tE])
  refine tA 11 ⟨some 21, .nilCheck (.tmp 20), 0, "help.go:113", #[⟨10, .data⟩, ⟨3, .guard⟩], some (3, false)⟩ ?vam11 ?ram11
  (try simp only [Act.put, tC, tD, tE])
  refine tA 12 ⟨some 22, .fieldAddr 82 (.tmp 21) 0, 0, "help.go:113", #[⟨11, .data⟩, ⟨3, .guard⟩], some (3, false)⟩ ?vam12 ?ram12
  (try simp only [Act.put, tC, tD, tE])
  refine tA 13 ⟨some 23, .load 75 (.tmp 22), 75, "help.go:113", #[⟨12, .data⟩, ⟨3, .guard⟩], some (3, false)⟩ ?vam13 ?ram13
  (try simp only [Act.put, tC, tD, tE])
  refine wpAnyH_ready (rs := [14]) (by kernel_rfl) (by simp) ?_
  refine AllReadyH.cons (o := ⟨some 24, .call ⟨.value (.func 58), #[.tmp 18, .tmp 23], #[66, 75]⟩, 4, "help.go:113", #[⟨8, .data⟩, ⟨13, .data⟩, ⟨3, .chain⟩, ⟨3, .guard⟩], some (3, false)⟩) rfl (fun Kq hKq => ?_) AllReadyH.nil
  go_simp
  (refine (HS2.out _ hHeld.1).mono ?_; rintro e w3 ⟨rfl, hb⟩)
  refine hKq.out _ _ ?_ (fun hHeld => ?_)
  · exact SaF.new hHeld hb
  clear hKq Kq
  (try simp only [Act.put, tC, tD, tE])
  refine tA 15 ⟨some 25, .unOp .not 4 (.tmp 24), 4, "help.go:113", #[⟨14, .data⟩, ⟨3, .guard⟩], some (3, false)⟩ ?vam14 ?ram14
  (try simp only [Act.put, tC, tD, tE])
  refine tA 16 ⟨some 26, .pick (.tmp 13) (.const (.bool true)) (.tmp 25), 4, "help.go:113", #[⟨3, .data⟩, ⟨15, .data⟩], none⟩ ?vam15 ?ram15
  (try simp only [Act.put, tC, tD, tE])
  refine tA 17 ⟨some 27, .move (.tmp 26), 4, "help.go:113", #[⟨16, .data⟩, ⟨14, .chain⟩], none⟩ ?vam16 ?ram16
  (try simp only [Act.put, tC, tD, tE])
  refine tA 18 ⟨some 28, .fieldAddr 27 (.tmp 1) 0, 0, "help.go:113", #[⟨17, .guard⟩], some (17, false)⟩ ?vam17 ?ram17
  (try simp only [Act.put, tC, tD, tE])
  refine tA 19 ⟨some 29, .load 24 (.tmp 28), 24, "help.go:113", #[⟨18, .data⟩, ⟨17, .guard⟩], some (17, false)⟩ ?vam18 ?ram18
  (try simp only [Act.put, tC, tD, tE])
  refine tA 20 ⟨some 30, .nilCheck (.tmp 29), 0, "help.go:113", #[⟨19, .data⟩, ⟨17, .guard⟩], some (17, false)⟩ ?vam19 ?ram19
  (try simp only [Act.put, tC, tD, tE])
  refine tA 21 ⟨some 31, .fieldAddr 74 (.tmp 30) 5, 0, "help.go:113", #[⟨20, .data⟩, ⟨17, .guard⟩], some (17, false)⟩ ?vam20 ?ram20
  (try simp only [Act.put, tC, tD, tE])
  refine tA 22 ⟨some 32, .load 71 (.tmp 31), 71, "help.go:113", #[⟨21, .data⟩, ⟨17, .guard⟩], some (17, false)⟩ ?vam21 ?ram21
  (try simp only [Act.put, tC, tD, tE])
  refine tA 24 ⟨some 34, .fieldAddr 27 (.tmp 1) 1, 0, "help.go:113", #[⟨17, .guard⟩], some (17, false)⟩ ?vam22 ?ram22
  (try simp only [Act.put, tC, tD, tE])
  refine tA 25 ⟨some 35, .load 25 (.tmp 34), 25, "help.go:113", #[⟨24, .data⟩, ⟨17, .guard⟩], some (17, false)⟩ ?vam23 ?ram23
  (try simp only [Act.put, tC, tD, tE])
  refine tA 26 ⟨some 36, .nilCheck (.tmp 35), 0, "help.go:113", #[⟨25, .data⟩, ⟨17, .guard⟩], some (17, false)⟩ ?vam24 ?ram24
  (try simp only [Act.put, tC, tD, tE])
  refine tA 27 ⟨some 37, .fieldAddr 82 (.tmp 36) 5, 0, "help.go:113", #[⟨26, .data⟩, ⟨17, .guard⟩], some (17, false)⟩ ?vam25 ?ram25
  (try simp only [Act.put, tC, tD, tE])
  refine tA 28 ⟨some 38, .load 80 (.tmp 37), 80, "help.go:113", #[⟨27, .data⟩, ⟨17, .guard⟩], some (17, false)⟩ ?vam26 ?ram26
  (try simp only [Act.put, tC, tD, tE])
  refine tA 29 ⟨some 39, .nilCheck (.tmp 38), 0, "help.go:113", #[⟨28, .data⟩, ⟨17, .guard⟩], some (17, false)⟩ ?vam27 ?ram27
  (try simp only [Act.put, tC, tD, tE])
  refine tA 30 ⟨some 40, .fieldAddr 158 (.tmp 39) 0, 0, "help.go:113", #[⟨29, .data⟩, ⟨17, .guard⟩], some (17, false)⟩ ?vam28 ?ram28
  (try simp only [Act.put, tC, tD, tE])
  refine tA 31 ⟨some 41, .load 156 (.tmp 40), 156, "help.go:113", #[⟨30, .data⟩, ⟨17, .guard⟩], some (17, false)⟩ ?vam29 ?ram29
  (try simp only [Act.put, tC, tD, tE])
  refine wpAnyH_ready (rs := [23]) (by kernel_rfl) (by simp) ?_
  refine AllReadyH.cons (o := ⟨some 33, .call ⟨.value (.func 60), #[.tmp 32], #[71]⟩, 154, "help.go:113", #[⟨22, .data⟩, ⟨17, .chain⟩, ⟨17, .guard⟩], some (17, false)⟩) rfl (fun Kq hKq => ?_) AllReadyH.nil
  go_simp
  (refine (HAL.out _ hHeld.1).mono ?_; rintro e w3 ⟨A9, rfl, hrow, hb⟩)
  refine hKq.out _ _ ?_ (fun hHeld => ?_)
  · exact SaF.new hHeld hb
  clear hKq Kq
  (try simp only [Act.put, tC, tD, tE])
  obtain ⟨b9, hrow⟩ : ∃ b, Row w3 b 7 (.slice A9 nl nl) nl (flat .u8 D) ∧ b ≤ w3.heap.size := ⟨_, hrow, hb.size⟩
  refine wpAnyH_more (S' := fun w' => (Below w2.heap.size w2 w' ∧ w'.cell? ⟨B0, 0, none⟩ = some (Pw WB) ∧ w'.cell? ⟨B0, 1, none⟩ = some (Pw RB) ∧ w'.cell? ⟨WB, 0, none⟩ = some (Pw cB) ∧ w'.cell? ⟨WB, 1, none⟩ = some (Pw kB) ∧ w'.cell? ⟨WB, 4, none⟩ = some ts ∧ w'.cell? ⟨WB, 5, none⟩ = some (Pw nB) ∧ w'.cell? ⟨RB, 0, none⟩ = some (Pw rB) ∧ w'.cell? ⟨RB, 1, none⟩ = some (Pw rkB) ∧ w'.cell? ⟨RB, 4, none⟩ = some rts ∧ w'.cell? ⟨RB, 5, none⟩ = some (Pw rnB) ∧ w'.cell? ⟨rnB, 0, none⟩ = some (.slice nA nl nc) ∧ w'.cell? ⟨rkB, 0, none⟩ = some (.int .u64 (T : Int))) ∧ Row w' b9 7 (.slice A9 nl nl) nl (flat .u8 D)) (fun _ h => h.1) _ _ _ _ ?_
  have HB9 := Lib.hid hrow.2
  have hHeld : (fun w' => (Below w2.heap.size w2 w' ∧ w'.cell? ⟨B0, 0, none⟩ = some (Pw WB) ∧ w'.cell? ⟨B0, 1, none⟩ = some (Pw RB) ∧ w'.cell? ⟨WB, 0, none⟩ = some (Pw cB) ∧ w'.cell? ⟨WB, 1, none⟩ = some (Pw kB) ∧ w'.cell? ⟨WB, 4, none⟩ = some ts ∧ w'.cell? ⟨WB, 5, none⟩ = some (Pw nB) ∧ w'.cell? ⟨RB, 0, none⟩ = some (Pw rB) ∧ w'.cell? ⟨RB, 1, none⟩ = some (Pw rkB) ∧ w'.cell? ⟨RB, 4, none⟩ = some rts ∧ w'.cell? ⟨RB, 5, none⟩ = some (Pw rnB) ∧ w'.cell? ⟨rnB, 0, none⟩ = some (.slice nA nl nc) ∧ w'.cell? ⟨rkB, 0, none⟩ = some (.int .u64 (T : Int))) ∧ Row w' b9 7 (.slice A9 nl nl) nl (flat .u8 D)) w3 := ⟨hHeld, hrow.1⟩
  refine wpAnyH_ready (rs := [32]) (by kernel_rfl) (by simp) ?_
  refine AllReadyH.cons (o := ⟨some 42, .call ⟨.value (.func 59), #[.tmp 33, .tmp 41], #[154, 156]⟩, 4, "help.go:113", #[⟨23, .data⟩, ⟨31, .data⟩, ⟨23, .chain⟩, ⟨17, .guard⟩], some (17, false)⟩) rfl (fun Kq hKq => ?_) AllReadyH.nil
  go_simp
  (refine (HNS.out _ _ _ hHeld.1.1 () () hHeld.2).mono ?_; rintro e w3 ⟨rfl, hb⟩)
  refine hKq.out _ _ ?_ (fun hHeld => ?_)
  · exact ⟨SaF.new hHeld.1 hb, hHeld.2.keep (Turns.of_below (S := fun _ => False) hb) (fun _ _ e => e)⟩
  clear hKq Kq
  (try simp only [Act.put, tC, tD, tE])
  refine tA 33 ⟨some 43, .unOp .not 4 (.tmp 42), 4, "help.go:113", #[⟨32, .data⟩, ⟨17, .guard⟩], some (17, false)⟩ ?vam30 ?ram30
  (try simp only [Act.put, tC, tD, tE])
  refine tA 34 ⟨some 44, .pick (.tmp 27) (.const (.bool true)) (.tmp 43), 4, "help.go:113", #[⟨17, .data⟩, ⟨33, .data⟩], none⟩ ?vam31 ?ram31
  (try simp only [Act.put, tC, tD, tE])
  refine tA 35 ⟨some 45, .move (.tmp 44), 4, "help.go:113", #[⟨34, .data⟩, ⟨32, .chain⟩], none⟩ ?vam32 ?ram32
  (try simp only [Act.put, tC, tD, tE])
  refine tA 36 ⟨some 46, .fieldAddr 27 (.tmp 1) 0, 0, "help.go:113", #[⟨35, .guard⟩], some (35, false)⟩ ?vam33 ?ram33
  (try simp only [Act.put, tC, tD, tE])
  refine tA 37 ⟨some 47, .load 24 (.tmp 46), 24, "help.go:113", #[⟨36, .data⟩, ⟨35, .guard⟩], some (35, false)⟩ ?vam34 ?ram34
  (try simp only [Act.put, tC, tD, tE])
  refine tA 38 ⟨some 48, .nilCheck (.tmp 47), 0, "help.go:113", #[⟨37, .data⟩, ⟨35, .guard⟩], some (35, false)⟩ ?vam35 ?ram35
  (try simp only [Act.put, tC, tD, tE])
  refine tA 39 ⟨some 49, .fieldAddr 74 (.tmp 48) 4, 0, "help.go:113", #[⟨38, .data⟩, ⟨35, .guard⟩], some (35, false)⟩ ?vam36 ?ram36
  (try simp only [Act.put, tC, tD, tE])
  refine tA 40 ⟨some 50, .load 70 (.tmp 49), 70, "help.go:113", #[⟨39, .data⟩, ⟨35, .guard⟩], some (35, false)⟩ ?vam37 ?ram37
  (try simp only [Act.put, tC, tD, tE])
  refine tA 41 ⟨some 51, .fieldAddr 27 (.tmp 1) 1, 0, "help.go:113", #[⟨35, .guard⟩], some (35, false)⟩ ?vam38 ?ram38
  (try simp only [Act.put, tC, tD, tE])
  refine tA 42 ⟨some 52, .load 25 (.tmp 51), 25, "help.go:113", #[⟨41, .data⟩, ⟨35, .guard⟩], some (35, false)⟩ ?vam39 ?ram39
  (try simp only [Act.put, tC, tD, tE])
  refine tA 43 ⟨some 53, .nilCheck (.tmp 52), 0, "help.go:113", #[⟨42, .data⟩, ⟨35, .guard⟩], some (35, false)⟩ ?vam40 ?ram40
  (try simp only [Act.put, tC, tD, tE])
  refine tA 44 ⟨some 54, .fieldAddr 82 (.tmp 53) 4, 0, "help.go:113", #[⟨43, .data⟩, ⟨35, .guard⟩], some (35, false)⟩ ?vam41 ?ram41
  (try simp only [Act.put, tC, tD, tE])
  refine tA 45 ⟨some 55, .load 79 (.tmp 54), 79, "help.go:113", #[⟨44, .data⟩, ⟨35, .guard⟩], some (35, false)⟩ ?vam42 ?ram42
  (try simp only [Act.put, tC, tD, tE])
  refine wpAnyH_ready (rs := [46]) (by kernel_rfl) (by simp) ?_
  refine AllReadyH.cons (o := ⟨some 56, .call ⟨.value (.func 16), #[.tmp 50, .tmp 55], #[70, 79]⟩, 4, "help.go:113", #[⟨40, .data⟩, ⟨45, .data⟩, ⟨35, .chain⟩, ⟨35, .guard⟩], some (35, false)⟩) rfl (fun Kq hKq => ?_) AllReadyH.nil
  go_simp
  (refine (HTS.out _ hHeld.1.1).mono ?_; rintro e w3 ⟨rfl, hb⟩)
  refine hKq.out _ _ ?_ (fun hHeld => ?_)
  · exact ⟨SaF.new hHeld.1 hb, hHeld.2.keep (Turns.of_below (S := fun _ => False) hb) (fun _ _ e => e)⟩
  clear hKq Kq
  (try simp only [Act.put, tC, tD, tE])
  refine tA 47 ⟨some 57, .unOp .not 4 (.tmp 56), 4, "help.go:113", #[⟨46, .data⟩, ⟨35, .guard⟩], some (35, false)⟩ ?vam43 ?ram43
  (try simp only [Act.put, tC, tD, tE])
  refine tA 48 ⟨some 58, .pick (.tmp 45) (.const (.bool true)) (.tmp 57), 4, "help.go:113", #[⟨35, .data⟩, ⟨47, .data⟩], none⟩ ?vam44 ?ram44
  (try simp only [Act.put, tC, tD, tE])
  refine tA 49 ⟨some 59, .move (.tmp 58), 4, "help.go:113", #[⟨48, .data⟩, ⟨46, .chain⟩], none⟩ ?vam45 ?ram45
  (try simp only [Act.put, tC, tD, tE])
  refine tA 50 ⟨some 60, .fieldAddr 27 (.tmp 1) 0, 0, "help.go:113", #[⟨49, .guard⟩], some (49, false)⟩ ?vam46 ?ram46
  (try simp only [Act.put, tC, tD, tE])
  refine tA 51 ⟨some 61, .load 24 (.tmp 60), 24, "help.go:113", #[⟨50, .data⟩, ⟨49, .guard⟩], some (49, false)⟩ ?vam47 ?ram47
  (try simp only [Act.put, tC, tD, tE])
  refine tA 52 ⟨some 62, .nilCheck (.tmp 61), 0, "help.go:113", #[⟨51, .data⟩, ⟨49, .guard⟩], some (49, false)⟩ ?vam48 ?ram48
  (try simp only [Act.put, tC, tD, tE])
  refine tA 53 ⟨some 63, .fieldAddr 74 (.tmp 62) 7, 0, "help.go:113", #[⟨52, .data⟩, ⟨49, .guard⟩], some (49, false)⟩ ?vam49 ?ram49
  (try simp only [Act.put, tC, tD, tE])
  refine wpAnyH_take (i := 54) (oi := ({ dst := some 64, op := Op.load 72 (Operand.tmp 63), type := 72, pos := "help.go:113", after := #[{ on := 53, ground := Ground.data }, { on := 49, ground := Ground.guard }], guard := some (49, false) } : Oper)) (v := .agg Z64) rfl (by kernel_rfl) (by kernel_rfl) (by kernel_rfl) (fun _ _ _ h => h) (yieldsIf_load_mid (by rfl) 72 (Operand.tmp 63) rfl WB 7 (by rfl) Z64l _ (fun w hS => HTX.out w hS.1.1) under64 rfl info64) (by assumption) ?ram50
  skip
  (try simp only [Act.put, tC, tD, tE])
  refine tA 55 ⟨some 65, .fieldAddr 27 (.tmp 1) 1, 0, "help.go:113", #[⟨49, .guard⟩], some (49, false)⟩ ?vam51 ?ram51
  (try simp only [Act.put, tC, tD, tE])
  refine tA 56 ⟨some 66, .load 25 (.tmp 65), 25, "help.go:113", #[⟨55, .data⟩, ⟨49, .guard⟩], some (49, false)⟩ ?vam52 ?ram52
  (try simp only [Act.put, tC, tD, tE])
  refine tA 57 ⟨some 67, .nilCheck (.tmp 66), 0, "help.go:113", #[⟨56, .data⟩, ⟨49, .guard⟩], some (49, false)⟩ ?vam53 ?ram53
  (try simp only [Act.put, tC, tD, tE])
  refine tA 58 ⟨some 68, .fieldAddr 82 (.tmp 67) 7, 0, "help.go:113", #[⟨57, .data⟩, ⟨49, .guard⟩], some (49, false)⟩ ?vam54 ?ram54
  (try simp only [Act.put, tC, tD, tE])
  refine wpAnyH_take (i := 59) (oi := ({ dst := some 69, op := Op.load 72 (Operand.tmp 68), type := 72, pos := "help.go:113", after := #[{ on := 58, ground := Ground.data }, { on := 49, ground := Ground.guard }], guard := some (49, false) } : Oper)) (v := .agg Z64) rfl (by kernel_rfl) (by kernel_rfl) (by kernel_rfl) (fun _ _ _ h => h) (yieldsIf_load_mid (by rfl) 72 (Operand.tmp 68) rfl RB 7 (by rfl) Z64l _ (fun w hS => HTY.out w hS.1.1) under64 rfl info64) (by assumption) ?ram55
  skip
  (try simp only [Act.put, tC, tD, tE])
  refine tA 60 ⟨some 70, .binOp .neq 72 (.tmp 64) (.tmp 69) 72, 4, "help.go:113", #[⟨54, .data⟩, ⟨59, .data⟩, ⟨49, .guard⟩], some (49, false)⟩ ?vam56 ?ram56
  (try simp only [Act.put, tC, tD, tE])
  refine tA 61 ⟨some 71, .pick (.tmp 59) (.const (.bool true)) (.tmp 70), 4, "help.go:113", #[⟨49, .data⟩, ⟨60, .data⟩], none⟩ ?vam57 ?ram57
  (try simp only [Act.put, tC, tD, tE])
  refine tA 62 ⟨some 72, .move (.tmp 71), 4, "help.go:113", #[⟨61, .data⟩, ⟨49, .chain⟩], none⟩ ?vam58 ?ram58
  (try simp only [Act.put, tC, tD, tE])
  refine tA 63 ⟨some 73, .fieldAddr 27 (.tmp 1) 0, 0, "help.go:113", #[⟨62, .guard⟩], some (62, false)⟩ ?vam59 ?ram59
  (try simp only [Act.put, tC, tD, tE])
  refine tA 64 ⟨some 74, .load 24 (.tmp 73), 24, "help.go:113", #[⟨63, .data⟩, ⟨62, .guard⟩], some (62, false)⟩ ?vam60 ?ram60
  (try simp only [Act.put, tC, tD, tE])
  refine tA 65 ⟨some 75, .nilCheck (.tmp 74), 0, "help.go:113", #[⟨64, .data⟩, ⟨62, .guard⟩], some (62, false)⟩ ?vam61 ?ram61
  (try simp only [Act.put, tC, tD, tE])
  refine tA 66 ⟨some 76, .fieldAddr 74 (.tmp 75) 1, 0, "help.go:113", #[⟨65, .data⟩, ⟨62, .guard⟩], some (62, false)⟩ ?vam62 ?ram62
  (try simp only [Act.put, tC, tD, tE])
  refine tA 67 ⟨some 77, .load 67 (.tmp 76), 67, "help.go:113", #[⟨66, .data⟩, ⟨62, .guard⟩], some (62, false)⟩ ?vam63 ?ram63
  (try simp only [Act.put, tC, tD, tE])
  refine tA 69 ⟨some 79, .fieldAddr 27 (.tmp 1) 1, 0, "help.go:113", #[⟨62, .guard⟩], some (62, false)⟩ ?vam64 ?ram64
  (try simp only [Act.put, tC, tD, tE])
  refine tA 70 ⟨some 80, .load 25 (.tmp 79), 25, "help.go:113", #[⟨69, .data⟩, ⟨62, .guard⟩], some (62, false)⟩ ?vam65 ?ram65
  (try simp only [Act.put, tC, tD, tE])
  refine tA 71 ⟨some 81, .nilCheck (.tmp 80), 0, "help.go:113", #[⟨70, .data⟩, ⟨62, .guard⟩], some (62, false)⟩ ?vam66 ?ram66
  (try simp only [Act.put, tC, tD, tE])
  refine tA 72 ⟨some 82, .fieldAddr 82 (.tmp 81) 1, 0, "help.go:113", #[⟨71, .data⟩, ⟨62, .guard⟩], some (62, false)⟩ ?vam67 ?ram67
  (try simp only [Act.put, tC, tD, tE])
  refine tA 73 ⟨some 83, .load 76 (.tmp 82), 76, "help.go:113", #[⟨72, .data⟩, ⟨62, .guard⟩], some (62, false)⟩ ?vam68 ?ram68
  (try simp only [Act.put, tC, tD, tE])
  refine tA 74 ⟨some 84, .nilCheck (.tmp 83), 0, "help.go:113", #[⟨73, .data⟩, ⟨62, .guard⟩], some (62, false)⟩ ?vam69 ?ram69
  (try simp only [Act.put, tC, tD, tE])
  refine tA 75 ⟨some 85, .fieldAddr 160 (.tmp 84) 0, 0, "help.go:113", #[⟨74, .data⟩, ⟨62, .guard⟩], some (62, false)⟩ ?vam70 ?ram70
  (try simp only [Act.put, tC, tD, tE])
  refine tA 76 ⟨some 86, .load 29 (.tmp 85), 29, "help.go:113", #[⟨75, .data⟩, ⟨62, .guard⟩], some (62, false)⟩ ?vam71 ?ram71
  (try simp only [Act.put, tC, tD, tE])
  refine wpAnyH_ready (rs := [68]) (by kernel_rfl) (by simp) ?_
  refine AllReadyH.cons (o := ⟨some 78, .call ⟨.value (.func 24), #[.tmp 77], #[67]⟩, 29, "help.go:113", #[⟨67, .data⟩, ⟨62, .chain⟩, ⟨62, .guard⟩], some (62, false)⟩) rfl (fun Kq hKq => ?_) AllReadyH.nil
  go_simp
  (refine (HNW.out _ hHeld.1.1).mono ?_; rintro e w3 ⟨rfl, rfl⟩)
  refine hKq.out _ _ ?_ (fun hHeld => ?_)
  · exact hHeld
  clear hKq Kq
  (try simp only [Act.put, tC, tD, tE])
  refine tA 77 ⟨some 87, .binOp .neq 29 (.tmp 78) (.tmp 86) 29, 4, "help.go:113", #[⟨68, .data⟩, ⟨76, .data⟩, ⟨62, .guard⟩], some (62, false)⟩ ?vam72 ?ram72
  (try simp only [Act.put, tC, tD, tE])
  refine tA 78 ⟨some 88, .pick (.tmp 72) (.const (.bool true)) (.tmp 87), 4, "help.go:113", #[⟨62, .data⟩, ⟨77, .data⟩], none⟩ ?vam73 ?ram73
  (try simp only [Act.put, tC, tD, tE])
  refine wpAnyH_done (by kernel_rfl) ?_ _
  have HB3 := Lib.hid hHeld.1.1
  clear hHeld HSM HS2 HAL HNS HTS HNW HF HTX HTY hev
  have HAS := Lib.hid (fun (i : Nat) (hi : i < 128) (W : World) (q : Below w2.heap.size w2 W) => S4.asleep_yes (H2.out.new q).pr.pw.permits hi)
  have HGQ := Lib.hid (fun (i : Nat) (hi : i < 128) (now : Nat) (W : World) (q : Below w2.heap.size w2 W) => S4.pgoes_yes (H2.out.new q).pr.pw.permits hi now)
  have HRQ : Hid (∀ (i : Nat), i < 128 → ∀ (now : Nat) W, Below w2.heap.size w2 W → Calls Tryz.prog 61 #[Pw Y.pB, .int .i64 (i : Int), .int .u64 (now : Int)] W fun e w' => e = .returned (.bool (S4.goesB (X.pf i) now)) ∧ Below W.heap.size W w') := Lib.hid (fun i hi now W q => by
    have := S4.rgoes_yes (H2.out.new q).pr.rpermits hi now
    rw [← HE.out.1, S4.goes_both (H2.out.pok i) now] at this
    exact this)
  go_wp2_with fail
  go_loopg [3, 4] 128 (fun q s3 s4 wx => ∃ i : Nat, i ≤ 128 ∧ q = 128 - i ∧ s3 = .int .i64 (i : Int) ∧ Below w2.heap.size w2 wx)
  case atStart => exact ⟨0, by omega, rfl, rfl, HB3.out⟩
  case round =>
    obtain ⟨i, hi, rfl, rfl, hb⟩ := hrel
    have h3 := H2.out.new hb
    have e0 := (hb.block B0 (Array.getElem?_eq_some_iff.1 HQ0.out).1).trans HQ0.out
    have b0 := cell_row e0 0; have b1 := cell_row e0 1
    simp only [List.getElem?_toArray, List.getElem?_cons_zero, List.getElem?_cons_succ] at b0 b1
    by_cases hi8 : i < 128
    · have has := HAS.out i hi8
      have hg0 : ∀ W, Below w2.heap.size w2 W → Calls Tryz.prog 21 #[Pw X.pB, .int .i64 (i : Int), .int .u64 0] W fun e w' => e = .returned (.bool (S4.goesB (X.pf i) 0)) ∧ Below W.heap.size W w' := HGQ.out i hi8 0
      have hr0 : ∀ W, Below w2.heap.size w2 W → Calls Tryz.prog 61 #[Pw Y.pB, .int .i64 (i : Int), .int .u64 0] W fun e w' => e = .returned (.bool (S4.goesB (X.pf i) 0)) ∧ Below W.heap.size W w' := HRQ.out i hi8 0
      have hg1 : ∀ W, Below w2.heap.size w2 W → Calls Tryz.prog 21 #[Pw X.pB, .int .i64 (i : Int), .int .u64 18446744073709551615] W fun e w' => e = .returned (.bool (S4.goesB (X.pf i) 18446744073709551615)) ∧ Below W.heap.size W w' := HGQ.out i hi8 18446744073709551615
      have hr1 : ∀ W, Below w2.heap.size w2 W → Calls Tryz.prog 61 #[Pw Y.pB, .int .i64 (i : Int), .int .u64 18446744073709551615] W fun e w' => e = .returned (.bool (S4.goesB (X.pf i) 18446744073709551615)) ∧ Below W.heap.size W w' := HRQ.out i hi8 18446744073709551615
      generalize S4.goesB (X.pf i) 0 = g0 at *
      generalize S4.goesB (X.pf i) 18446744073709551615 = g1 at *
      have d1 : (i : Int) < 128 := by omega
      have k0 := h3.pr.rpermits.c0 i hi8; have k1 := h3.pr.rpermits.c1 i hi8; have k2 := h3.pr.rpermits.c2 i hi8; have k3 := h3.pr.rpermits.c3 i hi8
      rw [← HE.out.1] at k0 k1 k2 k3
      have r2 := h3.pr.r2
      rw [h3.rB] at r2
      have x2 := h3.pr.pw.c2
      rw [h3.wB] at x2
      generalize X.pf i = pk at *
      obtain ⟨pp, pa, po, pt⟩ := pk
      dsimp only at k0 k1 k2 k3 has
      obtain ⟨pB, hpB⟩ : ∃ x, x = X.pB := ⟨_, rfl⟩
      obtain ⟨rpB, hrpB⟩ : ∃ x, x = Y.pB := ⟨_, rfl⟩
      rw [← hpB] at has hg0 hg1 x2; rw [← hrpB] at hr0 hr1 r2 k0 k1 k2 k3
      have HASI := Lib.hid has; have HGO0 := Lib.hid hg0; have HGO1 := Lib.hid hg1; have HRG0 := Lib.hid hr0; have HRG1 := Lib.hid hr1
      have HBR := Lib.hid hb
      have HI := Lib.hid hi8
      clear has hg0 hg1 hr0 hr1 h3 hpB hrpB e0 hi8 hi
      go_upto_region 7 with (fail)
      have hnx := heap_alloc_new wr (.cells #[.bool pp, .bool pa, .bool po, .int .u64 (pt : Int)] 162)
      have hby := below1 wr (.cells #[.bool pp, .bool pa, .bool po, .int .u64 (pt : Int)] 162)
      have y0 := bcell hby b0; have y1 := bcell hby b1; have y2 := bcell hby x2; have y3 := bcell hby r2
      have y4 := cell_row hnx 1
      simp only [List.getElem?_toArray, List.getElem?_cons_zero, List.getElem?_cons_succ] at y4
      have HBY := Lib.hid (HBR.out.trans (hby.mono HBR.out.size))
      obtain ⟨Bx, hBx⟩ : ∃ x, x = wr.heap.size := ⟨_, rfl⟩
      rw [← hBx] at y4 ⊢
      clear hnx hby b0 b1 x2 r2 k0 k1 k2 k3 hb hBx
      generalize wr.alloc (.cells #[.bool pp, .bool pa, .bool po, .int .u64 (pt : Int)] 162) = w4 at *
      have HF7 : Hid (w4.drew.cell? ⟨B0, 0, none⟩ = some (Pw WB) ∧ w4.drew.cell? ⟨B0, 1, none⟩ = some (Pw RB) ∧ w4.drew.cell? ⟨WB, 2, none⟩ = some (Pw pB) ∧ w4.drew.cell? ⟨RB, 2, none⟩ = some (Pw rpB) ∧ w4.drew.cell? ⟨Bx, 1, none⟩ = some (.bool pa)) := Lib.hid ⟨y0, y1, y2, y3, y4⟩
      clear y0 y1 y2 y3 y4
      refine wp_region_held_drew (S := fun w' => Below w2.heap.size w2 w' ∧ w'.cell? ⟨B0, 0, none⟩ = some (Pw WB) ∧ w'.cell? ⟨B0, 1, none⟩ = some (Pw RB) ∧ w'.cell? ⟨WB, 2, none⟩ = some (Pw pB) ∧ w'.cell? ⟨RB, 2, none⟩ = some (Pw rpB) ∧ w'.cell? ⟨Bx, 1, none⟩ = some (.bool pa)) (by kernel_rfl) ?_ (fun hHeld => ?_)
      · exact ⟨HBY.out.drew, HF7.out⟩
      refine tA 0 ⟨some 103, .fieldAddr 27 (.tmp 1) 0, 0, "help.go:118", #[], none⟩ ?vbm1 ?rbm1
      (try simp only [Act.put, tC, tD, tE])
      refine tA 1 ⟨some 104, .load 24 (.tmp 103), 24, "help.go:118", #[⟨0, .data⟩], none⟩ ?vbm2 ?rbm2
      (try simp only [Act.put, tC, tD, tE])
      refine tA 2 ⟨some 105, .nilCheck (.tmp 104), 0, "help.go:118", #[⟨1, .data⟩], none⟩ ?vbm3 ?rbm3
      (try simp only [Act.put, tC, tD, tE])
      refine tA 3 ⟨some 106, .fieldAddr 74 (.tmp 105) 2, 0, "help.go:118", #[⟨2, .data⟩], none⟩ ?vbm4 ?rbm4
      (try simp only [Act.put, tC, tD, tE])
      refine tA 4 ⟨some 107, .load 68 (.tmp 106), 68, "help.go:118", #[⟨3, .data⟩], none⟩ ?vbm5 ?rbm5
      (try simp only [Act.put, tC, tD, tE])
      refine tA 5 ⟨some 108, .move (.tmp 3), 3, "help.go:118", #[], none⟩ ?vbm6 ?rbm6
      (try simp only [Act.put, tC, tD, tE])
      refine tA 7 ⟨some 110, .fieldAddr 162 (.tmp 4) 1, 0, "help.go:118", #[], none⟩ ?vbm7 ?rbm7
      (try simp only [Act.put, tC, tD, tE])
      refine tA 8 ⟨some 111, .load 4 (.tmp 110), 4, "help.go:118", #[⟨7, .data⟩], none⟩ ?vbm8 ?rbm8
      (try simp only [Act.put, tC, tD, tE])
      refine wpAnyH_ready (rs := [6]) (by kernel_rfl) (by simp) ?_
      refine AllReadyH.cons (o := ⟨some 109, .call ⟨.value (.func 26), #[.tmp 107, .tmp 108], #[68, 3]⟩, 4, "help.go:118", #[⟨4, .data⟩, ⟨5, .data⟩], none⟩) rfl (fun Kq hKq => ?_) AllReadyH.nil
      go_simp
      (refine (HASI.out _ hHeld.1).mono ?_; rintro e w3 ⟨rfl, rfl⟩)
      refine hKq.out _ _ ?_ (fun hHeld => ?_)
      · exact hHeld
      clear hKq Kq
      (try simp only [Act.put, tC, tD, tE])
      refine tA 9 ⟨some 112, .binOp .neq 4 (.tmp 109) (.tmp 111) 4, 4, "help.go:118", #[⟨6, .data⟩, ⟨8, .data⟩], none⟩ ?vbm9 ?rbm9
      (try simp only [Act.put, tC, tD, tE])
      refine tA 10 ⟨some 113, .move (.tmp 112), 4, "help.go:118", #[⟨9, .data⟩, ⟨6, .chain⟩], none⟩ ?vbm10 ?rbm10
      (try simp only [Act.put, tC, tD, tE])
      refine tA 11 ⟨some 114, .fieldAddr 27 (.tmp 1) 0, 0, "help.go:118", #[⟨10, .guard⟩], some (10, false)⟩ ?vbm11 ?rbm11
      (try simp only [Act.put, tC, tD, tE])
      refine tA 12 ⟨some 115, .load 24 (.tmp 114), 24, "help.go:118", #[⟨11, .data⟩, ⟨10, .guard⟩], some (10, false)⟩ ?vbm12 ?rbm12
      (try simp only [Act.put, tC, tD, tE])
      refine tA 13 ⟨some 116, .nilCheck (.tmp 115), 0, "help.go:118", #[⟨12, .data⟩, ⟨10, .guard⟩], some (10, false)⟩ ?vbm13 ?rbm13
      (try simp only [Act.put, tC, tD, tE])
      refine tA 14 ⟨some 117, .fieldAddr 74 (.tmp 116) 2, 0, "help.go:118", #[⟨13, .data⟩, ⟨10, .guard⟩], some (10, false)⟩ ?vbm14 ?rbm14
      (try simp only [Act.put, tC, tD, tE])
      refine tA 15 ⟨some 118, .load 68 (.tmp 117), 68, "help.go:118", #[⟨14, .data⟩, ⟨10, .guard⟩], some (10, false)⟩ ?vbm15 ?rbm15
      (try simp only [Act.put, tC, tD, tE])
      refine tA 16 ⟨some 119, .move (.tmp 3), 3, "help.go:118", #[⟨10, .guard⟩], some (10, false)⟩ ?vbm16 ?rbm16
      (try simp only [Act.put, tC, tD, tE])
      refine tA 18 ⟨some 121, .fieldAddr 27 (.tmp 1) 1, 0, "help.go:118", #[⟨10, .guard⟩], some (10, false)⟩ ?vbm17 ?rbm17
      (try simp only [Act.put, tC, tD, tE])
      refine tA 19 ⟨some 122, .load 25 (.tmp 121), 25, "help.go:118", #[⟨18, .data⟩, ⟨10, .guard⟩], some (10, false)⟩ ?vbm18 ?rbm18
      (try simp only [Act.put, tC, tD, tE])
      refine tA 20 ⟨some 123, .nilCheck (.tmp 122), 0, "help.go:118", #[⟨19, .data⟩, ⟨10, .guard⟩], some (10, false)⟩ ?vbm19 ?rbm19
      (try simp only [Act.put, tC, tD, tE])
      refine tA 21 ⟨some 124, .fieldAddr 82 (.tmp 123) 2, 0, "help.go:118", #[⟨20, .data⟩, ⟨10, .guard⟩], some (10, false)⟩ ?vbm20 ?rbm20
      (try simp only [Act.put, tC, tD, tE])
      refine tA 22 ⟨some 125, .load 77 (.tmp 124), 77, "help.go:118", #[⟨21, .data⟩, ⟨10, .guard⟩], some (10, false)⟩ ?vbm21 ?rbm21
      (try simp only [Act.put, tC, tD, tE])
      refine tA 23 ⟨some 126, .move (.tmp 3), 3, "help.go:118", #[⟨10, .guard⟩], some (10, false)⟩ ?vbm22 ?rbm22
      (try simp only [Act.put, tC, tD, tE])
      refine wpAnyH_ready (rs := [17]) (by kernel_rfl) (by simp) ?_
      refine AllReadyH.cons (o := ⟨some 120, .call ⟨.value (.func 21), #[.tmp 118, .tmp 119, .const (.int .u64 0)], #[68, 3, 29]⟩, 4, "help.go:118", #[⟨15, .data⟩, ⟨16, .data⟩, ⟨10, .chain⟩, ⟨10, .guard⟩], some (10, false)⟩) rfl (fun Kq hKq => ?_) AllReadyH.nil
      go_simp
      (refine (HGO0.out _ hHeld.1).mono ?_; rintro e w3 ⟨rfl, hb⟩)
      refine hKq.out _ _ ?_ (fun hHeld => ?_)
      · exact SbF.new hHeld hb
      clear hKq Kq
      (try simp only [Act.put, tC, tD, tE])
      refine wpAnyH_ready (rs := [24]) (by kernel_rfl) (by simp) ?_
      refine AllReadyH.cons (o := ⟨some 127, .call ⟨.value (.func 61), #[.tmp 125, .tmp 126, .const (.int .u64 0)], #[77, 3, 29]⟩, 4, "help.go:118", #[⟨22, .data⟩, ⟨23, .data⟩, ⟨17, .chain⟩, ⟨10, .guard⟩], some (10, false)⟩) rfl (fun Kq hKq => ?_) AllReadyH.nil
      go_simp
      (refine (HRG0.out _ hHeld.1).mono ?_; rintro e w3 ⟨rfl, hb⟩)
      refine hKq.out _ _ ?_ (fun hHeld => ?_)
      · exact SbF.new hHeld hb
      clear hKq Kq
      (try simp only [Act.put, tC, tD, tE])
      refine tA 25 ⟨some 128, .binOp .neq 4 (.tmp 120) (.tmp 127) 4, 4, "help.go:118", #[⟨17, .data⟩, ⟨24, .data⟩, ⟨10, .guard⟩], some (10, false)⟩ ?vbm23 ?rbm23
      (try simp only [Act.put, tC, tD, tE])
      refine tA 26 ⟨some 129, .pick (.tmp 113) (.const (.bool true)) (.tmp 128), 4, "help.go:118", #[⟨10, .data⟩, ⟨25, .data⟩], none⟩ ?vbm24 ?rbm24
      (try simp only [Act.put, tC, tD, tE])
      refine tA 27 ⟨some 130, .move (.tmp 129), 4, "help.go:118", #[⟨26, .data⟩, ⟨24, .chain⟩], none⟩ ?vbm25 ?rbm25
      (try simp only [Act.put, tC, tD, tE])
      refine tA 28 ⟨some 131, .fieldAddr 27 (.tmp 1) 0, 0, "help.go:118", #[⟨27, .guard⟩], some (27, false)⟩ ?vbm26 ?rbm26
      (try simp only [Act.put, tC, tD, tE])
      refine tA 29 ⟨some 132, .load 24 (.tmp 131), 24, "help.go:118", #[⟨28, .data⟩, ⟨27, .guard⟩], some (27, false)⟩ ?vbm27 ?rbm27
      (try simp only [Act.put, tC, tD, tE])
      refine tA 30 ⟨some 133, .nilCheck (.tmp 132), 0, "help.go:118", #[⟨29, .data⟩, ⟨27, .guard⟩], some (27, false)⟩ ?vbm28 ?rbm28
      (try simp only [Act.put, tC, tD, tE])
      refine tA 31 ⟨some 134, .fieldAddr 74 (.tmp 133) 2, 0, "help.go:118", #[⟨30, .data⟩, ⟨27, .guard⟩], some (27, false)⟩ ?vbm29 ?rbm29
      (try simp only [Act.put, tC, tD, tE])
      refine tA 32 ⟨some 135, .load 68 (.tmp 134), 68, "help.go:118", #[⟨31, .data⟩, ⟨27, .guard⟩], some (27, false)⟩ ?vbm30 ?rbm30
      (try simp only [Act.put, tC, tD, tE])
      refine tA 33 ⟨some 136, .move (.tmp 3), 3, "help.go:118", #[⟨27, .guard⟩], some (27, false)⟩ ?vbm31 ?rbm31
      (try simp only [Act.put, tC, tD, tE])
      refine tA 35 ⟨some 138, .fieldAddr 27 (.tmp 1) 1, 0, "help.go:118", #[⟨27, .guard⟩], some (27, false)⟩ ?vbm32 ?rbm32
      (try simp only [Act.put, tC, tD, tE])
      refine tA 36 ⟨some 139, .load 25 (.tmp 138), 25, "help.go:118", #[⟨35, .data⟩, ⟨27, .guard⟩], some (27, false)⟩ ?vbm33 ?rbm33
      (try simp only [Act.put, tC, tD, tE])
      refine tA 37 ⟨some 140, .nilCheck (.tmp 139), 0, "help.go:118", #[⟨36, .data⟩, ⟨27, .guard⟩], some (27, false)⟩ ?vbm34 ?rbm34
      (try simp only [Act.put, tC, tD, tE])
      refine tA 38 ⟨some 141, .fieldAddr 82 (.tmp 140) 2, 0, "help.go:118", #[⟨37, .data⟩, ⟨27, .guard⟩], some (27, false)⟩ ?vbm35 ?rbm35
      (try simp only [Act.put, tC, tD, tE])
      refine tA 39 ⟨some 142, .load 77 (.tmp 141), 77, "help.go:118", #[⟨38, .data⟩, ⟨27, .guard⟩], some (27, false)⟩ ?vbm36 ?rbm36
      (try simp only [Act.put, tC, tD, tE])
      refine tA 40 ⟨some 143, .move (.tmp 3), 3, "help.go:118", #[⟨27, .guard⟩], some (27, false)⟩ ?vbm37 ?rbm37
      (try simp only [Act.put, tC, tD, tE])
      refine wpAnyH_ready (rs := [34]) (by kernel_rfl) (by simp) ?_
      refine AllReadyH.cons (o := ⟨some 137, .call ⟨.value (.func 21), #[.tmp 135, .tmp 136, .const (.int .u64 18446744073709551615)], #[68, 3, 29]⟩, 4, "help.go:118", #[⟨32, .data⟩, ⟨33, .data⟩, ⟨27, .chain⟩, ⟨27, .guard⟩], some (27, false)⟩) rfl (fun Kq hKq => ?_) AllReadyH.nil
      go_simp
      (refine (HGO1.out _ hHeld.1).mono ?_; rintro e w3 ⟨rfl, hb⟩)
      refine hKq.out _ _ ?_ (fun hHeld => ?_)
      · exact SbF.new hHeld hb
      clear hKq Kq
      (try simp only [Act.put, tC, tD, tE])
      refine wpAnyH_ready (rs := [41]) (by kernel_rfl) (by simp) ?_
      refine AllReadyH.cons (o := ⟨some 144, .call ⟨.value (.func 61), #[.tmp 142, .tmp 143, .const (.int .u64 18446744073709551615)], #[77, 3, 29]⟩, 4, "help.go:118", #[⟨39, .data⟩, ⟨40, .data⟩, ⟨34, .chain⟩, ⟨27, .guard⟩], some (27, false)⟩) rfl (fun Kq hKq => ?_) AllReadyH.nil
      go_simp
      (refine (HRG1.out _ hHeld.1).mono ?_; rintro e w3 ⟨rfl, hb⟩)
      refine hKq.out _ _ ?_ (fun hHeld => ?_)
      · exact SbF.new hHeld hb
      clear hKq Kq
      (try simp only [Act.put, tC, tD, tE])
      refine tA 42 ⟨some 145, .binOp .neq 4 (.tmp 137) (.tmp 144) 4, 4, "help.go:118", #[⟨34, .data⟩, ⟨41, .data⟩, ⟨27, .guard⟩], some (27, false)⟩ ?vbm38 ?rbm38
      (try simp only [Act.put, tC, tD, tE])
      refine tA 43 ⟨some 146, .pick (.tmp 130) (.const (.bool true)) (.tmp 145), 4, "help.go:118", #[⟨27, .data⟩, ⟨42, .data⟩], none⟩ ?vbm39 ?rbm39
      (try simp only [Act.put, tC, tD, tE])
      refine wpAnyH_done (by kernel_rfl) ?_ _
      have HB9 := Lib.hid hHeld.1
      clear hHeld HASI HGO0 HGO1 HRG0 HRG1 HF7 HBY HBR
      go_wp2_with fail
      go_roundg (128 - (i + 1))
      case measure => have := HI.out; omega
      case rel => exact ⟨i + 1, by have := HI.out; omega, rfl, by go_num, HB9.out⟩
    · obtain rfl : i = 128 := by omega
      have HB4 := Lib.hid hb
      clear hb h3 e0 b0 b1 hi hi8
      go_wp2_with fail
      go_loopg [5, 6, 7, 8, 9] 64 (fun q s5 s6 s7 s8 s9 wx => ∃ i : Nat, i ≤ 64 ∧ q = 64 - i ∧ s5 = .int .i64 (i : Int) ∧ Below w2.heap.size w2 wx)
      case atStart => exact ⟨0, by omega, rfl, rfl, HB4.out⟩
      case round =>
        obtain ⟨i, hi, rfl, rfl, hb⟩ := hrel
        have h3 := H2.out.new hb
        have e0 := (hb.block B0 (Array.getElem?_eq_some_iff.1 HQ0.out).1).trans HQ0.out
        have b0 := cell_row e0 0; have b1 := cell_row e0 1
        simp only [List.getElem?_toArray, List.getElem?_cons_zero, List.getElem?_cons_succ] at b0 b1
        by_cases hi6 : i < 64
        · have hra : ∀ W, Below w2.heap.size w2 W → Calls Tryz.prog 62 #[Pw Y.lB, .int .i64 (i : Int)] W fun e w' => e = .returned (S5.lnk3 X.lk i) ∧ Below W.heap.size W w' := fun W q => by
            have := S5.rat_yes (H2.out.new q).pr.rlinks i hi6
            rwa [← HE.out.2] at this
          have hat := fun (W : World) (q : Below w2.heap.size w2 W) => S5.at_yes (H2.out.new q).pr.pw.links i hi6
          unfold S5.lnk3 at hra
          unfold S5.lnk at hat
          generalize (X.lk (i * 3) : Int) - 1 = v0 at *
          generalize (X.lk (i * 3 + 1) : Int) - 1 = v1 at *
          generalize (X.lk (i * 3 + 2) : Int) - 1 = v2 at *
          have r3 := h3.pr.r3
          rw [h3.rB] at r3
          obtain ⟨lB, hlB⟩ : ∃ x, x = X.lB := ⟨_, rfl⟩
          obtain ⟨rlB, hrlB⟩ : ∃ x, x = Y.lB := ⟨_, rfl⟩
          rw [← hrlB] at hra r3; rw [← hlB] at hat
          have d1 : (i : Int) < 64 := by omega
          have HRA := Lib.hid hra; have HAT := Lib.hid hat
          have HB5 := Lib.hid hb; have HI := Lib.hid hi6
          have HX3 : Hid (∀ W, Below w2.heap.size w2 W → W.cell? ⟨WB, 3, none⟩ = some (Pw lB) ∧ W.cell? ⟨B0, 0, none⟩ = some (Pw WB)) := Lib.hid (fun W q => by
            have g := H2.out.new q
            have x := g.pr.pw.c3
            rw [g.wB, ← hlB] at x
            have e := (q.block B0 (Array.getElem?_eq_some_iff.1 HQ0.out).1).trans HQ0.out
            exact ⟨x, cell_row e 0⟩)
          clear hra hat h3 e0 hb hi6 hi hlB hrlB
          go_upto_region 13 with (go_at_call 62; refine (HRA.out _ HB5.out).mono ?_; rintro e w5 ⟨rfl, hb5⟩)
          have HB6 := Lib.hid (HB5.out.trans (hb5.mono HB5.out.size))
          obtain ⟨x3, x0⟩ := HX3.out _ HB6.out
          clear hb5 b0 b1 r3
          go_upto_region 14 with (go_at_call 63; refine (HAT.out _ HB6.out).mono ?_; rintro e w6 ⟨rfl, hb6⟩)
          have hnx := heap_alloc_new w6 (.cells #[.int .i64 v0, .int .i64 v1, .int .i64 v2] 169)
          have hby := below1 w6 (.cells #[.int .i64 v0, .int .i64 v1, .int .i64 v2] 169)
          have HB7 := Lib.hid (HB6.out.trans ((hb6.mono HB6.out.size).trans (hby.mono (Nat.le_trans HB6.out.size hb6.size))))
          have y0 := cell_row hnx 0; have y1 := cell_row hnx 1; have y2 := cell_row hnx 2
          simp only [List.getElem?_toArray, List.getElem?_cons_zero, List.getElem?_cons_succ] at y0 y1 y2
          clear hnx hby hb6 x3 x0
          generalize w6.alloc (.cells #[.int .i64 v0, .int .i64 v1, .int .i64 v2] 169) = w7 at *
          generalize w6.heap.size = Bl at *
          go_wp2_with fail
          go_roundg (64 - (i + 1))
          case measure => have := HI.out; omega
          case rel => exact ⟨i + 1, by have := HI.out; omega, rfl, by go_num, HB7.out⟩
        · obtain rfl : i = 64 := by omega
          go_wp2_with fail
          go_ret
          exact ⟨rfl, HB1.out.trans (hb.mono HB1.out.size)⟩
end Go.Proofs.YtpmafdggbeppcaaGreatDoor.S12
