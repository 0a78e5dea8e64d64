/- Texts of this seat, one behind the other. -/
import Derived.Test.YtpmafdggbeppcaaGreatDoorMLawVoid1816
import Derived.Test.YtpmafdggbeppcaaGreatDoorMLawVoid1840
import Derived.Test.YtpmafdggbeppcaaGreatDoorMLawVoid1841
import Derived.Test.YtpmafdggbeppcaaGreatDoorMLawVoid1842
set_option linter.unusedVariables false
set_option linter.unusedSimpArgs false
namespace Go.Proofs.YtpmafdggbeppcaaGreatDoor.S12
open Go.Proofs.YtpmafdggbeppcaaGreatDoor Go.Proofs.YtpmafdggbeppcaaGreatDoor.S11
open Go.RowKit
section
variable {w w' : World} {base : Nat} {l l' : List Part}
end
def rpermitsP (B : Nat) (f : Nat → S4.Pk) (n kd pk : Int) : Part where
  ok w := S4.RPkAt w B f n kd pk
  fp k := k = B
  lt w h k e := by rw [e]; exact h.lt
  kept S w w' h t hs := h.kept (T := S) t (hs B rfl)
theorem Parts.recast {w : World} {base i : Nat} {l : List Part} {p : Part} (h : Parts w base l) (hi : l[i]? = some p) (q : Part) (hq : q.ok w) (hf : ∀ k, q.fp k → p.fp k) : Parts w base (l.set i q) :=
  (h.turn hi q hq (Turns.refl _ _) (fun k e => .inl (hf k e))).1
structure Rm where
  rb : Nat
  rB : Nat
  rs : Value
  L : S2.LL
  n : Nat
  k : Nat
  a : Nat
  was : Nat
  is : Nat
  kb : Nat
  kB : Nat
  T : Nat
  most : Nat
  ks : Value
  D : List Nat
  tb : Nat
  tO : Nat → Option S10.Role
  ts : Value
  M : Int → List S10.Bk
  pB : Nat
  pf : Nat → S4.Pk
  pn : Nat
  pk : Int
  pp : Int
  lB : Nat
  lk : S5.Lk
  nb : Nat
  nB : Nat
  ns : Value
  nD : List Nt
  wB : Nat
  sp : Int
noncomputable def Rm.cs (Y : Rm) : Array Value := wcells (Pw Y.rB) (Pw Y.kB) (Pw Y.pB) (Pw Y.lB) Y.ts (Pw Y.nB) Y.sp
noncomputable def Rm.parts (Y : Rm) : List Part := [rcellsP Y.rb Y.rB Y.rs Y.L Y.n Y.k Y.a Y.was Y.is, rclockP Y.kb Y.kB Y.T Y.most Y.ks Y.D, rtablesP Y.tb Y.tO Y.ts Y.M, rpermitsP Y.pB Y.pf (Y.pn : Int) Y.pk Y.pp, linksP Y.lB Y.lk, notesP 158 .i64 Y.nb Y.nB Y.ns Y.nD, blockP Y.wB (.cells Y.cs 82)]
theorem rsize : Tryz.zeroCells82.size = 71 := by kernel_rfl
theorem rc0 (a b c d e f : Value) (sp : Int) : (wcells a b c d e f sp)[0]? = some a := by
  simp [wcells, Array.getElem?_setIfInBounds, rsize]
theorem rc1 (a b c d e f : Value) (sp : Int) : (wcells a b c d e f sp)[1]? = some b := by
  simp [wcells, Array.getElem?_setIfInBounds, rsize]
theorem rc2 (a b c d e f : Value) (sp : Int) : (wcells a b c d e f sp)[2]? = some c := by
  simp [wcells, Array.getElem?_setIfInBounds, rsize]
theorem rc3 (a b c d e f : Value) (sp : Int) : (wcells a b c d e f sp)[3]? = some d := by
  simp [wcells, Array.getElem?_setIfInBounds, rsize]
theorem rc4 (a b c d e f : Value) (sp : Int) : (wcells a b c d e f sp)[4]? = some e := by
  simp [wcells, Array.getElem?_setIfInBounds, rsize]
theorem rc5 (a b c d e f : Value) (sp : Int) : (wcells a b c d e f sp)[5]? = some f := by
  simp [wcells, Array.getElem?_setIfInBounds, rsize]
def PairAt (w : World) (base : Nat) (E : List Part) (X : Wm) (Y : Rm) : Prop := Parts w base (X.parts ++ (Y.parts ++ E))
section
variable {w w' : World} {base : Nat} {E : List Part} {X : Wm} {Y : Rm}
theorem PairAt.pw (h : PairAt w base E X Y) : PW w base X := Parts.left h
theorem PairAt.new (h : PairAt w base E X Y) (b : Below w.heap.size w w') : PairAt w' base E X Y := Parts.new h b
theorem PairAt.drew (h : PairAt w base E X Y) : PairAt w.drew base E X Y := Parts.drew h
theorem PairAt.size (h : PairAt w base E X Y) : base ≤ w.heap.size := Parts.size h
theorem PairAt.rcells (h : PairAt w base E X Y) : S2.RefAt w Y.rb Y.rB Y.rs Y.L Y.n Y.k Y.a Y.was Y.is := h.ok 7 _ rfl
theorem PairAt.rclock (h : PairAt w base E X Y) : S3.RefAt w Y.kb Y.kB Y.T Y.most Y.ks Y.D := h.ok 8 _ rfl
theorem PairAt.rtables (h : PairAt w base E X Y) : S10.Rt w Y.tb Y.tO Y.ts Y.M := h.ok 9 _ rfl
theorem PairAt.rpermits (h : PairAt w base E X Y) : S4.RPkAt w Y.pB Y.pf (Y.pn : Int) Y.pk Y.pp := h.ok 10 _ rfl
theorem PairAt.rlinks (h : PairAt w base E X Y) : S5.Has w Y.lB Y.lk := h.ok 11 _ rfl
theorem PairAt.rnotes (h : PairAt w base E X Y) : S11.LAt 158 .i64 w Y.nb Y.nB Y.ns Y.nD := h.ok 12 _ rfl
theorem PairAt.rown (h : PairAt w base E X Y) : w.heap[Y.wB]? = some (.cells Y.cs 82) := h.ok 13 _ rfl
theorem PairAt.r0 (h : PairAt w base E X Y) : w.cell? ⟨Y.wB, 0, none⟩ = some (Pw Y.rB) := (cell_row h.rown 0).trans (rc0 _ _ _ _ _ _ _)
theorem PairAt.r1 (h : PairAt w base E X Y) : w.cell? ⟨Y.wB, 1, none⟩ = some (Pw Y.kB) := (cell_row h.rown 1).trans (rc1 _ _ _ _ _ _ _)
theorem PairAt.r2 (h : PairAt w base E X Y) : w.cell? ⟨Y.wB, 2, none⟩ = some (Pw Y.pB) := (cell_row h.rown 2).trans (rc2 _ _ _ _ _ _ _)
theorem PairAt.r3 (h : PairAt w base E X Y) : w.cell? ⟨Y.wB, 3, none⟩ = some (Pw Y.lB) := (cell_row h.rown 3).trans (rc3 _ _ _ _ _ _ _)
theorem PairAt.r4 (h : PairAt w base E X Y) : w.cell? ⟨Y.wB, 4, none⟩ = some Y.ts := (cell_row h.rown 4).trans (rc4 _ _ _ _ _ _ _)
theorem PairAt.r5 (h : PairAt w base E X Y) : w.cell? ⟨Y.wB, 5, none⟩ = some (Pw Y.nB) := (cell_row h.rown 5).trans (rc5 _ _ _ _ _ _ _)
end
def Rm.sd (Y : Rm) : Sd := ⟨Y.L, Y.n, Y.k, Y.a, Y.was, Y.is, Y.T, Y.most, Y.D, Y.pf, Y.pn, Y.pk, Y.pp, Y.lk, Y.M, Y.nD, Y.sp⟩
structure Bg (w0 w : World) (base WB RB N cn tn : Nat) (M RM : Sd) (E : List Part) (X : Wm) (Y : Rm) : Prop where
  pr : PairAt w base E X Y
  wB : X.wB = WB
  rB : Y.wB = RB
  xn : X.n ≤ cn
  yn : Y.n ≤ cn
  pn : X.pn ≤ cn
  yp : Y.pn ≤ cn
  nD : X.nD.length ≤ cn
  pok : S4.PkOk X.pf
  byt : S2.Byt X.L
  nk : ∀ d ∈ X.nD, d.k < 256
  pkr : 0 ≤ X.pk ∧ X.pk < 256
  xm : X.sd = M
  ym : Y.sd = RM
  gd : S10.Good M.m N
  gr : S10.Good RM.m N
  tn : X.tn ≤ tn
  spk : 0 ≤ M.sp ∧ M.sp ≤ 16
  rb : Y.rb ≤ w.heap.size
  bl : Below base w0 w
def BgE (w0 w : World) (base WB RB N cn tn : Nat) (E : List Part) : Prop := ∃ M X Y, Bg w0 w base WB RB N cn tn M M E X Y
section
variable {w0 w w' : World} {base WB RB N cn tn : Nat} {M RM : Sd} {E : List Part} {X : Wm} {Y : Rm}
theorem Bg.new (h : Bg w0 w base WB RB N cn tn M RM E X Y) (b : Below w.heap.size w w') : Bg w0 w' base WB RB N cn tn M RM E X Y :=
  { h with pr := h.pr.new b, rb := Nat.le_trans h.rb b.size, bl := h.bl.trans (b.mono h.pr.size) }
theorem Bg.c (h : Bg w0 w base WB RB N cn tn M RM E X Y) : w.cell? ⟨WB, 0, none⟩ = some (Pw X.cB) ∧ w.cell? ⟨WB, 1, none⟩ = some (Pw X.kB) ∧ w.cell? ⟨WB, 4, none⟩ = some X.ts ∧ w.cell? ⟨RB, 0, none⟩ = some (Pw Y.rB) ∧ w.cell? ⟨RB, 1, none⟩ = some (Pw Y.kB) ∧ w.cell? ⟨RB, 4, none⟩ = some Y.ts := by
  have hp := h.pr
  rw [← h.wB, ← h.rB]
  exact ⟨hp.pw.c0, hp.pw.c1, hp.pw.c4, hp.r0, hp.r1, hp.r4⟩
theorem Bg.left (h : Bg w0 w base WB RB N cn tn M RM E X Y) {k a y : Nat} (l : S2.Left w w' X.cB X.cM (S2.putL X.L a (S2.bring a y)) (X.n + 1) k a (S2.look X.L a) (S2.bring a y)) :
    ∃ X', Bg w0 w' base WB RB N (cn + 1) tn (M.acc k a y) RM E X' Y ∧ X'.cB = X.cB ∧ X'.ts = X.ts := by
  obtain ⟨M', hp, hb⟩ := t_cells (i := 0) h.pr rfl l
  obtain ⟨_, _, _, t⟩ := l
  refine ⟨{ X with cM := M', L := S2.putL X.L a (S2.bring a y), n := X.n + 1, k := k, a := a, was := S2.look X.L a, is := S2.bring a y }, { h with pr := hp, xn := Nat.succ_le_succ h.xn, yn := Nat.le_succ_of_le h.yn, pn := Nat.le_succ_of_le h.pn, yp := Nat.le_succ_of_le h.yp, nD := Nat.le_succ_of_le h.nD, byt := h.byt.put a y, xm := ?_, gd := ?_, rb := Nat.le_trans h.rb t.size, bl := h.bl.trans hb }, rfl, rfl⟩
  · rw [← h.xm]; rfl
  · exact h.gd
theorem Bg.rleft (h : Bg w0 w base WB RB N cn tn M RM E X Y) {s' : Value} {k a y : Nat} (c : S2.RefAt w' Y.rb Y.rB s' (S2.putL Y.L a (S2.bring a y)) (Y.n + 1) k a (S2.look Y.L a) (S2.bring a y)) (ho : ∀ g, s'.ownBlock = some g → Y.rs.ownBlock = some g ∨ w.heap.size ≤ g) (t : S2.Turns (fun k => k = Y.rB ∨ Y.rs.ownBlock = some k) w w') :
    ∃ Y', Bg w0 w' base WB RB N (cn + 1) tn M (RM.acc k a y) E X Y' ∧ Y'.rB = Y.rB ∧ Y'.ts = Y.ts := by
  obtain ⟨hp, hb⟩ := t_rcells (i := 7) h.pr rfl c ho t
  refine ⟨{ Y with rs := s', L := S2.putL Y.L a (S2.bring a y), n := Y.n + 1, k := k, a := a, was := S2.look Y.L a, is := S2.bring a y }, { h with pr := hp, yn := Nat.succ_le_succ h.yn, xn := Nat.le_succ_of_le h.xn, pn := Nat.le_succ_of_le h.pn, yp := Nat.le_succ_of_le h.yp, nD := Nat.le_succ_of_le h.nD, ym := ?_, gr := ?_, rb := Nat.le_trans h.rb t.size, bl := h.bl.trans hb }, rfl, rfl⟩
  · rw [← h.ym]; rfl
  · exact h.gr
theorem Bg.store (h : Bg w0 w base WB RB N cn tn M RM E X Y) {a v : Nat} (ha : a < 4294967296) (hv : v < 18446744073709551616) (hc : cn ≤ 100000000) :
    Calls Tryz.prog 32 #[Pw X.cB, .int .u32 a, .int .u64 v] w fun e w' => e = .returned (.int .u64 (S2.look X.L a : Nat)) ∧ ∃ X', Bg w0 w' base WB RB N (cn + 1) tn (M.store a v) RM E X' Y := by
  refine (S2.store_any w X.cB X.cM X.L X.n X.k X.a X.was X.is a v h.pr.pw.cells ha hv (by have := h.xn; omega)).mono ?_
  rintro e w' ⟨rfl, hl⟩
  obtain ⟨X', h', _, _⟩ := h.left hl
  exact ⟨rfl, X', h'⟩
theorem Bg.rstore (h : Bg w0 w base WB RB N cn tn M RM E X Y) {a v : Nat} (ha : a < 4294967296) (hv : v < 18446744073709551616) (hc : cn ≤ 100000000) :
    Calls Tryz.prog 115 #[Pw Y.rB, .int .u32 a, .int .u64 v] w fun e w' => e = .returned (.int .u64 (S2.look Y.L a : Nat)) ∧ ∃ Y', Bg w0 w' base WB RB N (cn + 1) tn M (RM.store a v) E X Y' := by
  refine (S2.rstore_any w Y.rb Y.rB Y.rs Y.L Y.n Y.k Y.a Y.was Y.is a v h.pr.rcells h.rb ha (by have := h.yn; omega) hv).mono ?_
  rintro e w' ⟨rfl, s', hc', ho, t⟩
  obtain ⟨Y', h', _, _⟩ := h.rleft hc' (fun g hg => .inr (ho g hg)) (t.mono (fun k _ e => .inl e))
  exact ⟨rfl, Y', h'⟩
theorem Bg.tickd (h : Bg w0 w base WB RB N cn tn M RM E X Y) {n : Nat} (hc : S3.ClockAt w' X.kb X.kB (S3.sat X.T n) X.most X.ks X.D) (t : S3.Turns (fun k => k = X.kB) w w') : ∃ X', Bg w0 w' base WB RB N cn tn (M.tick n) RM E X' Y := by
  obtain ⟨hp, hb⟩ := t_clock (i := 1) h.pr rfl hc (fun g hg => .inl hg) (t.mono (fun k _ e => .inl e))
  refine ⟨{ X with T := S3.sat X.T n }, { h with pr := hp, xm := ?_, gd := ?_, rb := Nat.le_trans h.rb t.size, bl := h.bl.trans hb }⟩
  · rw [← h.xm]; rfl
  · exact h.gd
theorem Bg.tick (h : Bg w0 w base WB RB N cn tn M RM E X Y) {n : Nat} (hn : n ≤ 18446744073709551615) :
    Calls Tryz.prog 20 #[Pw X.kB, .int .u64 n] w fun e w' => e = .returned (.tuple #[]) ∧ ∃ X', Bg w0 w' base WB RB N cn tn (M.tick n) RM E X' Y := by
  refine (S3.tick_any h.pr.pw.clock n hn).mono ?_
  rintro e w' ⟨rfl, hc, t⟩
  exact ⟨rfl, h.tickd hc t⟩
theorem Bg.rtick (h : Bg w0 w base WB RB N cn tn M RM E X Y) {n : Nat} (hn : n ≤ 18446744073709551615) :
    Calls Tryz.prog 93 #[Pw Y.kB, .int .u64 n] w fun e w' => e = .returned (.tuple #[]) ∧ ∃ Y', Bg w0 w' base WB RB N cn tn M (RM.tick n) E X Y' := by
  refine (S3.rtick_any h.pr.rclock n hn).mono ?_
  rintro e w' ⟨rfl, hc, t⟩
  obtain ⟨hp, hb⟩ := t_rclock (i := 8) h.pr rfl hc (fun g hg => .inl hg) (t.mono (fun k _ e => .inl e))
  refine ⟨rfl, { Y with T := S3.sat Y.T n }, { h with pr := hp, ym := ?_, gr := ?_, rb := Nat.le_trans h.rb t.size, bl := h.bl.trans hb }⟩
  · rw [← h.ym]; rfl
  · exact h.gr
theorem Bg.mono (h : Bg w0 w base WB RB N cn tn M RM E X Y) {N' cn' tn' : Nat} (h1 : N ≤ N') (h2 : cn ≤ cn') (h3 : tn ≤ tn') : Bg w0 w base WB RB N' cn' tn' M RM E X Y :=
  { h with xn := Nat.le_trans h.xn h2, yn := Nat.le_trans h.yn h2, pn := Nat.le_trans h.pn h2, yp := Nat.le_trans h.yp h2, nD := Nat.le_trans h.nD h2, gd := h.gd.mono h1, gr := h.gr.mono h1, tn := Nat.le_trans h.tn h3 }
theorem Bg.tab (h : Bg w0 w base WB RB N cn tn M RM E X Y) {own' : Nat → Option S10.Role} {n' : Nat} {M' : Int → List S10.Bk} (hs : S10.St w' X.tb own' X.ts n' M') (t : S10.Turns (S10.Mine X.tO) w w') (f : S10.Fresh X.tO own' w) (g : S10.Good M' N) (hn : n' ≤ tn) :
    Bg w0 w' base WB RB N cn tn (M.tab M') RM E { X with tO := own', tn := n', tM := M' } Y := by
  obtain ⟨hp, hb⟩ := t_tables (i := 4) h.pr rfl hs t f
  refine { h with pr := hp, xm := ?_, gd := g, tn := hn, rb := Nat.le_trans h.rb t.size, bl := h.bl.trans hb }
  rw [← h.xm]; rfl
theorem Bg.rtab (h : Bg w0 w base WB RB N cn tn M RM E X Y) {own' : Nat → Option S10.Role} {M' : Int → List S10.Bk} (hs : S10.Rt w' Y.tb own' Y.ts M') (t : S10.Turns (S10.Mine Y.tO) w w') (f : S10.Fresh Y.tO own' w) (g : S10.Good M' N) :
    Bg w0 w' base WB RB N cn tn M (RM.tab M') E X { Y with tO := own', M := M' } := by
  obtain ⟨hp, hb⟩ := t_rtables (i := 9) h.pr rfl hs t f
  refine { h with pr := hp, ym := ?_, gr := g, rb := Nat.le_trans h.rb t.size, bl := h.bl.trans hb }
  rw [← h.ym]; rfl
theorem Bg.st (h : Bg w0 w base WB RB N cn tn M RM E X Y) : S10.St w X.tb X.tO X.ts X.tn M.m := by have := h.pr.pw.tables; rw [← h.xm]; exact this
theorem Bg.rt (h : Bg w0 w base WB RB N cn tn M RM E X Y) : S10.Rt w Y.tb Y.tO Y.ts RM.m := by have := h.pr.rtables; rw [← h.ym]; exact this
theorem Bg.push (h : Bg w0 w base WB RB N cn tn M RM E X Y) (q : Part) (b : Below w.heap.size w w') (hq : q.ok w') (hf : ∀ k, q.fp k → w.heap.size ≤ k) : Bg w0 w' base WB RB N cn tn M RM (E ++ [q]) X Y := by
  have hp := Parts.push h.pr q b hq hf
  rw [List.append_assoc, List.append_assoc] at hp
  exact { h with pr := hp, rb := Nat.le_trans h.rb b.size, bl := h.bl.trans (b.mono h.pr.size) }
theorem Bg.drop (h : Bg w0 w base WB RB N cn tn M RM E X Y) : Bg w0 w base WB RB N cn tn M RM [] X Y := by
  have hp := h.pr
  unfold PairAt at hp
  rw [← List.append_assoc] at hp
  have hp2 := Parts.left hp
  refine { h with pr := ?_ }
  unfold PairAt
  rw [List.append_nil]
  exact hp2
end
theorem bg_grow {E : List Part} {M : Sd} {N : Nat} (g : S10.Good M.m N) (hN : N ≤ 100000) {fr tg : Int} (hf : S10.InI fr) (ht : S10.InI tg) : ∃ (a : Bool) (M' : Sd), (a = false → M' = M) ∧ (a = true → 2 ≤ tg ∧ tg ≤ 8) ∧
    (∀ w0 w base WB RB cn tn X Y, Bg w0 w base WB RB N cn tn M M E X Y → Calls Tryz.prog 37 #[Y.ts, .int .i64 fr, .int .i64 tg, .int .u64 0] w fun e w' => e = .returned (.bool a) ∧ ∃ Y', Bg w0 w' base WB RB N cn tn M M' E X Y' ∧ Y'.ts = Y.ts) ∧
    (∀ w0 w base WB RB cn tn X Y, tn < 1000 → Bg w0 w base WB RB N cn tn M M' E X Y → Calls Tryz.prog 38 #[X.ts, .int .i64 fr, .int .i64 tg, .int .u64 0] w fun e w' => e = .returned (.bool a) ∧ ∃ X', Bg w0 w' base WB RB N cn (tn + 1) M' M' E X' Y ∧ X'.ts = X.ts) := by
  obtain ⟨a, M', hg, h1, h2, h3, h4⟩ := S10.grow_all2 g hN hf ht 0
  refine ⟨a, M.tab M', fun e => by rw [h1 e]; rfl, h2, fun w0 w base WB RB cn tn X Y h => ?_, fun w0 w base WB RB cn tn X Y htn h => ?_⟩
  · refine (h4 w _ _ _ h.rt).mono ?_
    rintro e w' ⟨rfl, own', hs, t, f⟩
    exact ⟨rfl, _, h.rtab hs t f hg, rfl⟩
  · refine (h3 w _ _ _ _ (by have := h.tn; omega) h.st).mono ?_
    rintro e w' ⟨rfl, own', hs, t, f⟩
    have h' := h.mono (Nat.le_refl N) (Nat.le_refl cn) (Nat.le_succ tn)
    exact ⟨rfl, _, h'.tab hs t f hg (by have := h.tn; omega), rfl⟩
theorem bg_put {E : List Part} {M : Sd} {N : Nat} (g : S10.Good M.m N) {b : Int} (hb : S10.InI b) (i : Int) {D : List S10.Ent} (hk : S10.Keys D) (hD : D.length ≤ 60) : ∃ (a : Bool) (M' : Sd),
    (∀ w0 w base WB RB cn tn X Y b0 A c, Bg w0 w base WB RB N cn tn M M E X Y → S10.Rd w b0 A (S10.flat D) → b0 ≤ w.heap.size → Calls Tryz.prog 41 #[X.ts, .agg #[.int .i64 b, .int .i64 i], .slice A D.length c] w fun e w' => e = .returned (.bool a) ∧ ∃ X', Bg w0 w' base WB RB (N + 60) cn tn M' M E X' Y ∧ X'.ts = X.ts) ∧
    (∀ w0 w base WB RB cn tn X Y b0 A c, Bg w0 w base WB RB (N + 60) cn tn M' M E X Y → S10.Rd w b0 A (S10.flat D) → b0 ≤ w.heap.size → Calls Tryz.prog 42 #[Y.ts, .agg #[.int .i64 b, .int .i64 i], .slice A D.length c] w fun e w' => e = .returned (.bool a) ∧ ∃ Y', Bg w0 w' base WB RB (N + 60) cn tn M' M' E X Y' ∧ Y'.ts = Y.ts) := by
  obtain ⟨a, M', hg, h3, h4⟩ := S10.put_all g hb i hk hD
  refine ⟨a, M.tab M', fun w0 w base WB RB cn tn X Y b0 A c h hr h0 => ?_, fun w0 w base WB RB cn tn X Y b0 A c h hr h0 => ?_⟩
  · refine (h3 w _ _ _ _ b0 A c h.st hr h0).mono ?_
    rintro e w' ⟨rfl, own', hs, t, f⟩
    exact ⟨rfl, _, (h.mono (Nat.le_add_right N 60) (Nat.le_refl _) (Nat.le_refl _)).tab hs t f hg h.tn, rfl⟩
  · refine (h4 w _ _ _ b0 A c h.rt hr h0).mono ?_
    rintro e w' ⟨rfl, own', hs, t, f⟩
    exact ⟨rfl, _, h.rtab hs t f hg, rfl⟩
theorem bg_putT {E : List Part} {M : Sd} {N : Nat} (g : S10.Good M.m N) {b : Int} (hb : S10.InI b) (i ta tf : Int) : ∃ (a : Bool) (M' : Sd),
    (∀ w0 w base WB RB cn tn X Y, Bg w0 w base WB RB N cn tn M M E X Y → Calls Tryz.prog 44 #[X.ts, .agg #[.int .i64 b, .int .i64 i], .agg #[.int .u64 ta, .int .u64 tf]] w fun e w' => e = .returned (.bool a) ∧ ∃ X', Bg w0 w' base WB RB N cn tn M' M E X' Y ∧ X'.ts = X.ts) ∧
    (∀ w0 w base WB RB cn tn X Y, Bg w0 w base WB RB N cn tn M' M E X Y → Calls Tryz.prog 45 #[Y.ts, .agg #[.int .i64 b, .int .i64 i], .agg #[.int .u64 ta, .int .u64 tf]] w fun e w' => e = .returned (.bool a) ∧ ∃ Y', Bg w0 w' base WB RB N cn tn M' M' E X Y' ∧ Y'.ts = Y.ts) := by
  obtain ⟨a, M', hg, h3, h4⟩ := S10.putT_all g hb i ta tf
  refine ⟨a, M.tab M', fun w0 w base WB RB cn tn X Y h => ?_, fun w0 w base WB RB cn tn X Y h => ?_⟩
  · refine (h3 w _ _ _ _ h.st).mono ?_
    rintro e w' ⟨rfl, hs, t⟩
    exact ⟨rfl, _, h.tab hs t (S10.Fresh.refl _ _) hg h.tn, rfl⟩
  · refine (h4 w _ _ _ h.rt).mono ?_
    rintro e w' ⟨rfl, hs, t⟩
    exact ⟨rfl, _, h.rtab hs t (S10.Fresh.refl _ _) hg, rfl⟩
end Go.Proofs.YtpmafdggbeppcaaGreatDoor.S12
namespace Go.Proofs.YtpmafdggbeppcaaGreatDoor.S12
set_option maxRecDepth 100000
set_option maxHeartbeats 16000000
open Go.Proofs.YtpmafdggbeppcaaGreatDoor Go.Proofs.YtpmafdggbeppcaaGreatDoor.S11
open Go.RowKit
section
variable {w0 w w' : World} {base WB RB N cn tn : Nat} {M RM : Sd} {E : List Part} {X : Wm} {Y : Rm}
theorem Bg.wstore (h : Bg w0 w base WB RB N cn tn M RM E X Y) {a v : Nat} (ha : a < 4294967296) (hv : v < 18446744073709551616) (hc : cn ≤ 100000000) :
    Calls Tryz.prog 88 #[Pw RB, .int .u32 a, .int .u64 v] w fun e w' => e = .returned (.int .u64 (S2.look Y.L a : Nat)) ∧ ∃ Y', Bg w0 w' base WB RB N (cn + 1) tn M (RM.store a v) E X Y' := by
  have HS := Lib.hid (h.rstore ha hv hc)
  obtain ⟨_, _, _, c3, _, _⟩ := h.c
  clear h ha hv hc
  generalize (S2.look Y.L a : Nat) = z at *
  go_enter Tryz.func88, Tryz.ntmps88
  go_wp2_with (go_at_call 115; refine HS.out.mono ?_; rintro e w1 ⟨rfl, hy⟩)
  go_ret
  exact ⟨rfl, hy⟩
theorem pair_storeS (h : Bg w0 w base WB RB N cn tn M M E X Y) {a v : Nat} (ha : a < 4294967296) (hv : v < 18446744073709551616) (hc : cn ≤ 99999999) :
    Calls Tryz.prog 39 #[.agg #[Pw WB, Pw RB], .agg #[.int .u32 a, .int .u64 v]] w fun e w' => e = .returned (.tuple #[]) ∧ ∃ X' Y', Bg w0 w' base WB RB N (cn + 2) tn (M.store a v) (M.store a v) E X' Y' := by
  have hb : Below w.heap.size w ((w.alloc (.cells #[Pw WB, Pw RB] 27)).alloc (.cells #[.int .u32 (a : Int), .int .u64 (v : Int)] 122)) := ((Below.refl _ _).alloc (Nat.le_refl _) _).alloc (by simp) _
  have h0 : ((w.alloc (.cells #[Pw WB, Pw RB] 27)).alloc (.cells #[.int .u32 (a : Int), .int .u64 (v : Int)] 122)).heap[w.heap.size]? = some (.cells #[Pw WB, Pw RB] 27 (0, 0)) := (((Below.refl _ (w.alloc (.cells #[Pw WB, Pw RB] 27))).alloc (Nat.le_refl _) _).block w.heap.size (by simp)).trans (heap_alloc_new _ _)
  have h1 : ((w.alloc (.cells #[Pw WB, Pw RB] 27)).alloc (.cells #[.int .u32 (a : Int), .int .u64 (v : Int)] 122)).heap[w.heap.size + 1]? = some (.cells #[.int .u32 (a : Int), .int .u64 (v : Int)] 122 (0, 0)) := by
    have := heap_alloc_new (w.alloc (.cells #[Pw WB, Pw RB] 27)) (.cells #[.int .u32 (a : Int), .int .u64 (v : Int)] 122)
    rwa [show (w.alloc (.cells #[Pw WB, Pw RB] 27)).heap.size = w.heap.size + 1 by simp] at this
  have hn := h.new hb
  have HLT : Hid (∀ k, Foot X k → k < w.heap.size) := Lib.hid (fun k hk => h.pr.pw.foot_lt hk)
  obtain ⟨B0, hB0⟩ : ∃ B0, B0 = w.heap.size := ⟨_, rfl⟩
  obtain ⟨B1, hB1⟩ : ∃ B1, B1 = w.heap.size + 1 := ⟨_, rfl⟩
  rw [← hB0] at h0
  rw [← hB1] at h1
  have hcx := hn.xn
  have c0 := cell_row h0 0; have c1 := cell_row h0 1; have d0 := cell_row h1 0; have d1 := cell_row h1 1
  simp only [List.getElem?_toArray, List.getElem?_cons_zero, List.getElem?_cons_succ] at c0 c1 d0 d1
  have hst := hn.store ha hv (by omega)
  obtain ⟨k0, _, _, _, _, _⟩ := hn.c
  have HST : Hid (∀ W, W = ((w.alloc (.cells #[Pw WB, Pw RB] 27)).alloc (.cells #[.int .u32 (a : Int), .int .u64 (v : Int)] 122)).drew → Calls Tryz.prog 32 #[Pw X.cB, .int .u32 a, .int .u64 v] W fun e w' => e = .returned (.int .u64 (S2.look X.L a : Nat)) ∧ ∃ X', Bg w0 w' base WB RB N (cn + 1) tn (M.store a v) M E X' Y ∧ w'.heap[B0]? = some (.cells #[Pw WB, Pw RB] 27 (0, 0)) ∧ w'.heap[B1]? = some (.cells #[.int .u32 (a : Int), .int .u64 (v : Int)] 122 (0, 0)) ∧ w'.cell? ⟨WB, 0, none⟩ = some (Pw X.cB)) := Lib.hid (fun W e => by
    subst e
    have hn2 := hn.new ((Below.refl _ _).drew)
    refine (S2.store_any _ X.cB X.cM X.L X.n X.k X.a X.was X.is a v hn2.pr.pw.cells ha hv (by omega)).mono ?_
    rintro e w' ⟨rfl, hl⟩
    obtain ⟨X', h', hcB, _⟩ := hn2.left hl
    obtain ⟨_, _, _, t⟩ := hl
    have nf : ∀ k, w.heap.size ≤ k → ¬ S2.Fp X.cB X.cM k := fun k hk hf => by
      have := HLT.out k ⟨0, _, rfl, hf⟩; omega
    exact ⟨rfl, X', h',
      (t.block B0 (Array.getElem?_eq_some_iff.1 h0).1 (nf _ (by omega))).trans h0, (t.block B1 (Array.getElem?_eq_some_iff.1 h1).1 (nf _ (by omega))).trans h1, by
        have := h'.c.1
        rw [hcB] at this; exact this⟩)
  have HHB : Hid (Below w.heap.size w w) := Lib.hid (Below.refl _ _)
  clear hst hn hb h0 h1 h HLT hcx
  go_enter Tryz.func39, Tryz.ntmps39
  go_upto_region 1 with (fail)
  rw [← hB0, show B0 + 1 = B1 by omega]
  have HQ := Lib.hid (And.intro ha (And.intro hv hc))
  clear hB0 hB1 HHB ha hv hc
  generalize (w.alloc (.cells #[Pw WB, Pw RB] 27)).alloc (.cells #[.int .u32 (a : Int), .int .u64 (v : Int)] 122) = w1 at *
  refine wp_region_held_drew (S := fun w' => w'.cell? ⟨B0, 0, none⟩ = some (Pw WB) ∧ w'.cell? ⟨B1, 0, none⟩ = some (.int .u32 (a : Int)) ∧ w'.cell? ⟨B1, 1, none⟩ = some (.int .u64 (v : Int)) ∧ w'.cell? ⟨WB, 0, none⟩ = some (Pw X.cB)) (by kernel_rfl) ?_ (fun hHeld => ?_)
  · exact ⟨c0, d0, d1, k0⟩
  refine tA 0 ⟨some 4, .fieldAddr 27 (.tmp 2) 0, 0, "help.go:86", #[], none⟩ ?vax1 ?rax1
  (try simp only [Act.put, tC, tD, tE])
  refine tA 1 ⟨some 5, .load 24 (.tmp 4), 24, "help.go:86", #[⟨0, .data⟩], none⟩ ?vax2 ?rax2
  (try simp only [Act.put, tC, tD, tE])
  refine tA 2 ⟨some 6, .nilCheck (.tmp 5), 0, "help.go:86", #[⟨1, .data⟩], none⟩ ?vax3 ?rax3
  (try simp only [Act.put, tC, tD, tE])
  refine tA 3 ⟨some 7, .fieldAddr 74 (.tmp 6) 0, 0, "help.go:86", #[⟨2, .data⟩], none⟩ ?vax4 ?rax4
  (try simp only [Act.put, tC, tD, tE])
  refine tA 4 ⟨some 8, .load 66 (.tmp 7), 66, "help.go:86", #[⟨3, .data⟩], none⟩ ?vax5 ?rax5
  (try simp only [Act.put, tC, tD, tE])
  refine tA 5 ⟨some 9, .fieldAddr 122 (.tmp 3) 0, 0, "help.go:86", #[], none⟩ ?vax6 ?rax6
  (try simp only [Act.put, tC, tD, tE])
  refine tA 6 ⟨some 10, .load 23 (.tmp 9), 23, "help.go:86", #[⟨5, .data⟩], none⟩ ?vax7 ?rax7
  (try simp only [Act.put, tC, tD, tE])
  refine tA 7 ⟨some 11, .fieldAddr 122 (.tmp 3) 1, 0, "help.go:86", #[], none⟩ ?vax8 ?rax8
  (try simp only [Act.put, tC, tD, tE])
  refine tA 8 ⟨some 12, .load 29 (.tmp 11), 29, "help.go:86", #[⟨7, .data⟩], none⟩ ?vax9 ?rax9
  (try simp only [Act.put, tC, tD, tE])
  refine wpAnyH_ready (rs := [9]) (by kernel_rfl) (by simp) ?_
  refine AllReadyH.cons (o := ⟨some 13, .call ⟨.value (.func 32), #[.tmp 8, .tmp 10, .tmp 12], #[66, 23, 29]⟩, 29, "help.go:86", #[⟨4, .data⟩, ⟨6, .data⟩, ⟨8, .data⟩], none⟩) rfl (fun Kq hKq => ?_) AllReadyH.nil
  go_simp
  (refine (HST.out _ rfl).mono ?_; rintro e w3 ⟨rfl, X3, h3, i0, i1, i2⟩)
  have j0 := cell_row i0 0; have j1 := cell_row i0 1; have l0 := cell_row i1 0; have l1 := cell_row i1 1
  simp only [List.getElem?_toArray, List.getElem?_cons_zero, List.getElem?_cons_succ] at j0 j1 l0 l1
  refine hKq.out _ _ ?_ (fun hHeld => ?_)
  · exact ⟨j0, l0, l1, i2⟩
  clear hKq Kq
  (try simp only [Act.put, tC, tD, tE])
  refine wpAnyH_done (by kernel_rfl) ?_ _
  have hws := h3.wstore HQ.out.1 HQ.out.2.1 (by have := HQ.out.2.2; omega)
  have HWS := Lib.hid hws
  clear hHeld h3 hws i0 i1 i2 c0 c1 d0 d1 k0
  go_wp2_with (go_at_call 88; refine HWS.out.mono ?_; rintro e w4 ⟨rfl, Y4, h4⟩)
  go_end0
  exact ⟨rfl, X3, Y4, h4⟩
theorem pair_store (h : Bg w0 w base WB RB N cn tn M M E X Y) {a v : Nat} (ha : a < 4294967296) (hv : v < 18446744073709551616) (hc : cn ≤ 99999999) :
    Calls Tryz.prog 39 #[.agg #[Pw WB, Pw RB], .agg #[.int .u32 a, .int .u64 v]] w fun e w' => e = .returned (.tuple #[]) ∧ BgE w0 w' base WB RB N (cn + 2) tn E := by
  refine (pair_storeS h ha hv hc).mono ?_
  rintro e w' ⟨rfl, X', Y', h'⟩
  exact ⟨rfl, _, X', Y', h'⟩
end
end Go.Proofs.YtpmafdggbeppcaaGreatDoor.S12
namespace Go.Proofs.YtpmafdggbeppcaaGreatDoor.S12
set_option maxRecDepth 100000
set_option maxHeartbeats 16000000
open Go.Proofs.YtpmafdggbeppcaaGreatDoor Go.Proofs.YtpmafdggbeppcaaGreatDoor.S11
open Go.RowKit
section
variable {w0 w w' : World} {base WB RB N cn tn : Nat} {M RM : Sd} {E : List Part} {X : Wm} {Y : Rm}
theorem pair_tickS (h : Bg w0 w base WB RB N cn tn M M E X Y) {n : Nat} (hn : n ≤ 18446744073709551615) :
    Calls Tryz.prog 46 #[.agg #[Pw WB, Pw RB], .int .u64 n] w fun e w' => e = .returned (.tuple #[]) ∧ ∃ X' Y', Bg w0 w' base WB RB N cn tn (M.tick n) (M.tick n) E X' Y' := by
  have hb : Below w.heap.size w (w.alloc (.cells #[Pw WB, Pw RB] 27)) := (Below.refl _ _).alloc (Nat.le_refl _) _
  have h0 := heap_alloc_new w (.cells #[Pw WB, Pw RB] 27)
  have HLT : Hid (∀ k, Foot X k → k < w.heap.size) := Lib.hid (fun k hk => h.pr.pw.foot_lt hk)
  obtain ⟨B0, hB0⟩ : ∃ B0, B0 = w.heap.size := ⟨_, rfl⟩
  rw [← hB0] at h0
  have h1 := h.new hb
  have c0 := cell_row h0 0; have c1 := cell_row h0 1
  simp only [List.getElem?_toArray, List.getElem?_cons_zero, List.getElem?_cons_succ] at c0 c1
  obtain ⟨_, k1, _, _, _, _⟩ := h1.c
  have HST : Hid (Calls Tryz.prog 20 #[Pw X.kB, .int .u64 n] (w.alloc (.cells #[Pw WB, Pw RB] 27)) fun e w' => e = .returned (.tuple #[]) ∧ ∃ X', Bg w0 w' base WB RB N cn tn (M.tick n) M E X' Y ∧ w'.heap[B0]? = some (.cells #[Pw WB, Pw RB] 27 (0, 0))) := Lib.hid (by
    refine (S3.tick_any h1.pr.pw.clock n hn).mono ?_
    rintro e w' ⟨rfl, hc, t⟩
    obtain ⟨X', h'⟩ := h1.tickd hc t
    exact ⟨rfl, X', h',
      (t.block B0 (Array.getElem?_eq_some_iff.1 h0).1 (fun e => by have := HLT.out X.kB ⟨1, _, rfl, .inl rfl⟩; omega)).trans h0⟩)
  have HB0 := Lib.hid hB0
  clear hb h0 h1 h HLT hB0
  go_enter Tryz.func46, Tryz.ntmps46
  go_upto_region 1 with (fail)
  rw [← HB0.out]
  clear HB0
  generalize w.alloc (.cells #[Pw WB, Pw RB] 27) = w1 at *
  go_upto_region 2 with (go_at_call 20; refine HST.out.mono ?_; rintro e w3 ⟨rfl, X3, h3, i0⟩)
  have j1 := cell_row i0 1
  simp only [List.getElem?_toArray, List.getElem?_cons_zero, List.getElem?_cons_succ] at j1
  obtain ⟨_, _, _, _, k5, _⟩ := h3.c
  have HRT := Lib.hid (h3.rtick hn)
  clear h3 i0 HST c0 c1 k1
  go_wp2_with (go_at_call 93; refine HRT.out.mono ?_; rintro e w4 ⟨rfl, Y4, h4⟩)
  go_end0
  exact ⟨rfl, X3, Y4, h4⟩
theorem pair_tick (h : Bg w0 w base WB RB N cn tn M M E X Y) {n : Nat} (hn : n ≤ 18446744073709551615) :
    Calls Tryz.prog 46 #[.agg #[Pw WB, Pw RB], .int .u64 n] w fun e w' => e = .returned (.tuple #[]) ∧ BgE w0 w' base WB RB N cn tn E := by
  refine (pair_tickS h hn).mono ?_
  rintro e w' ⟨rfl, X', Y', h'⟩
  exact ⟨rfl, _, X', Y', h'⟩
end
end Go.Proofs.YtpmafdggbeppcaaGreatDoor.S12
namespace Go.Proofs.YtpmafdggbeppcaaGreatDoor.S12
open Go.Proofs.YtpmafdggbeppcaaGreatDoor Go.Proofs.YtpmafdggbeppcaaGreatDoor.S11
open Go.RowKit
theorem rnew_lo (spin most : Int) (n c : Nat) (A : Option Addr) (h : spin < 0) (w : World) : Calls Tryz.prog 34 #[.agg #[.int .i64 spin, .int .u64 most, .slice A n c]] w fun e w' => e = .returned (.tuple #[.pointer none, .int .i64 1]) ∧ Below w.heap.size w w' := by
  have HB : Hid (Below w.heap.size w (w.alloc (.cells #[.int .i64 spin, .int .u64 most, .slice A n c] 115))) := Lib.hid ((Below.refl _ _).alloc (Nat.le_refl _) _)
  have h1 : decide (spin < 0) = true := by simpa using h
  clear h
  go_enter Tryz.func34, Tryz.ntmps34
  go_wp2_with fail
  go_ret2
  exact ⟨rfl, HB.out⟩
theorem rnew_hi (spin most : Int) (n c : Nat) (A : Option Addr) (h : 16 < spin) (w : World) : Calls Tryz.prog 34 #[.agg #[.int .i64 spin, .int .u64 most, .slice A n c]] w fun e w' => e = .returned (.tuple #[.pointer none, .int .i64 1]) ∧ Below w.heap.size w w' := by
  have HB : Hid (Below w.heap.size w (w.alloc (.cells #[.int .i64 spin, .int .u64 most, .slice A n c] 115))) := Lib.hid ((Below.refl _ _).alloc (Nat.le_refl _) _)
  have h1 : decide (spin < 0) = false := by simp; omega
  have h2 : decide (16 < spin) = true := by simpa using h
  clear h
  go_enter Tryz.func34, Tryz.ntmps34
  go_wp2_with fail
  go_ret2
  exact ⟨rfl, HB.out⟩
theorem rnew_big (spin most : Int) (n c : Nat) (A : Option Addr) (h : 0 ≤ spin ∧ spin ≤ 16) (hn : 65536 < n) (w : World) : Calls Tryz.prog 34 #[.agg #[.int .i64 spin, .int .u64 most, .slice A n c]] w fun e w' => e = .returned (.tuple #[.pointer none, .int .i64 1]) ∧ Below w.heap.size w w' := by
  have HB : Hid (Below w.heap.size w (w.alloc (.cells #[.int .i64 spin, .int .u64 most, .slice A n c] 115))) := Lib.hid ((Below.refl _ _).alloc (Nat.le_refl _) _)
  have h1 : decide (spin < 0) = false := by simp; omega
  have h2 : decide (16 < spin) = false := by simp; omega
  have h3 : decide ((65536 : Int) < (n : Int)) = true := by simp; omega
  clear h hn
  go_enter Tryz.func34, Tryz.ntmps34
  go_wp2_with fail
  go_ret2
  exact ⟨rfl, HB.out⟩
theorem rnew_no (spin most : Int) (n c : Nat) (A : Option Addr) (h : okC spin n = false) (w : World) : Calls Tryz.prog 34 #[.agg #[.int .i64 spin, .int .u64 most, .slice A n c]] w fun e w' => e = .returned (.tuple #[.pointer none, .int .i64 1]) ∧ Below w.heap.size w w' := by
  by_cases h1 : spin < 0
  · exact rnew_lo spin most n c A h1 w
  · by_cases h2 : 16 < spin
    · exact rnew_hi spin most n c A h2 w
    · refine rnew_big spin most n c A ⟨by omega, by omega⟩ ?_ w
      simp [okC] at h
      have := h (by omega) (by omega)
      omega
structure RAt0 (Y : Rm) (spin : Int) (most : Nat) (D : List Nat) : Prop where
  L : Y.L = L02
  n : Y.n = 0
  k : Y.k = 0
  a : Y.a = 0
  was : Y.was = 0
  is : Y.is = 0
  T : Y.T = 0
  most : Y.most = most
  D : Y.D = D
  M : Y.M = S10.M0 0
  pf : Y.pf = fun _ => S4.pk0
  pn : Y.pn = 0
  pk : Y.pk = 0
  pp : Y.pp = 0
  lk : Y.lk = S5.S0
  nD : Y.nD = []
  sp : Y.sp = spin
theorem r177 : Tryz.zeroCells208 = S5.Z192 := by kernel_rfl
theorem LAt.at_first {T : Nat} {K : IntKind} {w : World} {p : Nat} (h : w.heap[p]? = some (.cells #[.slice none 0 0] T (0, 0))) : S11.LAt T K w p p (.slice none 0 0) [] :=
  ⟨h, row_nil _ _ _, by intro e; simp [Value.ownBlock] at e, Nat.le_refl _⟩
theorem rworld_y {w w' : World} {spin : Int} {most : Nat} {D : List Nat} {Bw : Nat} (h : RWorld w w' spin most D Bw) : ∃ Y : Rm, Y.wB = Bw ∧ Parts w' w.heap.size Y.parts ∧ RAt0 Y spin most (D.take 65536) ∧ Y.rb ≤ w'.heap.size := by
  obtain ⟨q, Bc, Bk, Bp, Bl, Bt, Bn, bc, bk, bt, sc, sk, own, hp⟩ := h
  have h2 := Parts.right hp
  have hc : S2.RefAt w' bc Bc sc L02 0 0 0 0 0 := h2.ok 0 _ rfl
  have hl : bc ≤ w'.heap.size := by
    obtain ⟨p, cap, e, hg⟩ := S2.row_slice hc.own
    obtain ⟨g, rfl⟩ := hg (by decide)
    have := hc.own.lt g (by rw [e]; rfl)
    omega
  have e3 : w'.heap[Bp]? = some (.cells Tryz.zeroCells165 165) := h2.ok 3 _ rfl
  rw [S4.rzero140] at e3
  have h3 := Parts.recast (i := 3) h2 rfl (rpermitsP Bp (fun _ => S4.pk0) ((0 : Nat) : Int) 0 0) (S4.rpk_row e3) (fun k e => e)
  have e4 : w'.heap[Bl]? = some (.cells Tryz.zeroCells208 208) := h2.ok 4 _ rfl
  rw [r177] at e4
  have h4 := Parts.recast (i := 4) h3 rfl (linksP Bl S5.S0) (S5.has_row e4) (fun k e => e)
  have e5 : w'.heap[Bn]? = some (.cells #[.slice none 0 0] 158) := h2.ok 5 _ rfl
  have h5 := Parts.recast (i := 5) h4 rfl (notesP 158 .i64 Bn Bn (.slice none 0 0) []) (LAt.at_first e5) (fun k e => by
    rcases e with e | e
    · exact e
    · simp [Value.ownBlock] at e)
  exact ⟨{ rb := bc, rB := Bc, rs := sc, L := L02, n := 0, k := 0, a := 0, was := 0, is := 0, kb := bk, kB := Bk, T := 0, most := most, ks := sk, D := D.take 65536, tb := bt, tO := own, ts := Pw Bt, M := S10.M0 0, pB := Bp, pf := fun _ => S4.pk0, pn := 0, pk := 0, pp := 0, lB := Bl, lk := S5.S0, nb := Bn, nB := Bn, ns := .slice none 0 0, nD := [], wB := Bw, sp := spin }, rfl, h5, ⟨rfl, rfl, rfl, rfl, rfl, rfl, rfl, rfl, rfl, rfl, rfl, rfl, rfl, rfl, rfl, rfl, rfl⟩, hl⟩
def RNewE (w w' : World) (spin : Int) (most : Nat) (D : List Nat) (v : Value) (er : Int) : Prop :=
  (okC spin D.length = true ∧ er = 0 ∧ ∃ Y : Rm, v = Pw Y.wB ∧ Parts w' w.heap.size Y.parts ∧ RAt0 Y spin most D ∧ Y.rb ≤ w'.heap.size) ∨ (okC spin D.length = false ∧ v = .pointer none ∧ er = 1)
theorem rnew_any {w : World} (spin : Int) (most c : Nat) {A : Option Addr} {D : List Nat} {b2 : Nat} (hn : D.length ≤ c) (hc : c ≤ 9223372036854775807) (hm : most ≤ 18446744073709551615) (hr : S3.Rd w b2 A D) (hb2 : b2 ≤ w.heap.size) (hD : ∀ d ∈ D, d ≤ 18446744073709551615) :
    Calls Tryz.prog 34 #[.agg #[.int .i64 spin, .int .u64 (most : Int), .slice A D.length c]] w fun e w' => ∃ v er, e = .returned (.tuple #[.pointer v, .int .i64 er]) ∧ RNewE w w' spin most D (.pointer v) er ∧ Below w.heap.size w w' := by
  cases hok : okC spin D.length
  · refine (rnew_no spin most D.length c A hok w).mono ?_
    rintro e w' ⟨rfl, hb⟩
    exact ⟨_, _, rfl, .inr ⟨hok, rfl, rfl⟩, hb⟩
  · have hb : 0 ≤ spin ∧ spin ≤ 16 ∧ D.length ≤ 65536 := by simp [okC] at hok; omega
    refine (rworld_any spin most D.length c A (D := D) ⟨hb.1, hb.2.1⟩ hb.2.2 (fun W q => S3.rnew_any c most hn hc hm (hr.below q hb2) (Nat.le_trans hb2 q.size) hD)).mono ?_
    rintro e w' ⟨Bw, rfl, hw, hbl⟩
    obtain ⟨Y, h1, h2, h3, h4⟩ := rworld_y hw
    rw [List.take_of_length_le hb.2.2] at h3
    exact ⟨_, _, rfl, .inl ⟨hok, rfl, Y, by rw [h1], h2, h3, h4⟩, hbl⟩
def WNewE (w w' : World) (spin : Int) (most : Nat) (D : List Nat) (v : Value) (er : Int) : Prop :=
  (okC spin D.length = true ∧ er = 0 ∧ ∃ X : Wm, v = Pw X.wB ∧ PW w' w.heap.size X ∧ At0 X spin most D) ∨ (okC spin D.length = false ∧ v = .pointer none ∧ er = 1)
theorem wnew_any {w : World} (spin : Int) (most c : Nat) {A : Option Addr} {D : List Nat} {b2 : Nat} (hn : D.length ≤ c) (hc : c ≤ 9223372036854775807) (hm : most ≤ 18446744073709551615) (hr : S3.Rd w b2 A D) (hb2 : b2 ≤ w.heap.size) (hD : ∀ d ∈ D, d ≤ 18446744073709551615) :
    Calls Tryz.prog 36 #[.agg #[.int .i64 spin, .int .u64 (most : Int), .slice A D.length c]] w fun e w' => ∃ v er, e = .returned (.tuple #[.pointer v, .int .i64 er]) ∧ WNewE w w' spin most D (.pointer v) er ∧ Below w.heap.size w w' := by
  cases hok : okC spin D.length
  · refine (new_no spin most D.length c A hok w).mono ?_
    rintro e w' ⟨rfl, hb⟩
    exact ⟨_, _, rfl, .inr ⟨hok, rfl, rfl⟩, hb⟩
  · have hb : 0 ≤ spin ∧ spin ≤ 16 ∧ D.length ≤ 65536 := by simp [okC] at hok; omega
    refine (new_yes spin most D.length c A (D := D) hok (fun W q => by
      have := S3.new_any c most hn hc hm (hr.below q hb2) (Nat.le_trans hb2 q.size) hD
      rw [List.take_of_length_le hb.2.2] at this
      exact this)).mono ?_
    rintro e w' ⟨X, rfl, hp, h0, hbl⟩
    exact ⟨_, _, rfl, .inl ⟨hok, rfl, X, rfl, hp, h0⟩, hbl⟩
theorem byt02 : S2.Byt L02 := by
  have e : L02 = [(0, 2)] := by kernel_rfl
  rw [e]
  intro p hp _
  simp at hp
  subst hp
  decide
def sd0 (spin : Int) (most : Nat) (D : List Nat) : Sd := ⟨L02, 0, 0, 0, 0, 0, 0, most, D, fun _ => S4.pk0, 0, 0, 0, S5.S0, S10.M0 0, [], spin⟩
theorem At0.sd {X : Wm} {spin : Int} {most : Nat} {D : List Nat} (h : At0 X spin most D) : X.sd = sd0 spin most D := by
  unfold Wm.sd sd0
  rw [h.L, h.n, h.k, h.a, h.was, h.is, h.T, h.most, h.D, h.pf, h.pn, h.pk, h.pp, h.lk, h.tM, h.nD, h.sp]
theorem RAt0.sd {Y : Rm} {spin : Int} {most : Nat} {D : List Nat} (h : RAt0 Y spin most D) : Y.sd = sd0 spin most D := by
  unfold Rm.sd sd0
  rw [h.L, h.n, h.k, h.a, h.was, h.is, h.T, h.most, h.D, h.pf, h.pn, h.pk, h.pp, h.lk, h.M, h.nD, h.sp]
theorem bg_first {w0 w1 w2 : World} {base : Nat} {X : Wm} {Y : Rm} {spin : Int} {most : Nat} {D : List Nat} (hY : Parts w1 base Y.parts) (hr : RAt0 Y spin most D) (hb : Y.rb ≤ w1.heap.size) (hX : PW w2 w1.heap.size X) (hx : At0 X spin most D) (b : Below w1.heap.size w1 w2) (hbl : Below base w0 w2) (hsp : 0 ≤ spin ∧ spin ≤ 16) :
    Bg w0 w2 base X.wB Y.wB 0 0 1 (sd0 spin most D) (sd0 spin most D) [] X Y := by
  have hj := hY.join b hX (Nat.le_refl _)
  refine { pr := ?_, wB := rfl, rB := rfl, xn := by rw [hx.n]; omega, yn := by rw [hr.n]; omega, pn := by rw [hx.pn]; omega, yp := by rw [hr.pn]; omega, nD := by rw [hx.nD]; simp, pok := by rw [hx.pf]; exact S4.pkok0, byt := by rw [hx.L]; exact byt02, spk := hsp, pkr := (by rw [hx.pk]; decide), nk := (by rw [hx.nD]; intro d hd; cases hd), xm := hx.sd, ym := hr.sd, gd := S10.good_first 0, gr := S10.good_first 0, tn := by rw [hx.tn]; omega, rb := Nat.le_trans hb b.size, bl := hbl }
  unfold PairAt
  rw [List.append_nil]
  exact hj
end Go.Proofs.YtpmafdggbeppcaaGreatDoor.S12
