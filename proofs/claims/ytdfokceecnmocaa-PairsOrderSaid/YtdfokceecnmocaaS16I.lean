/- What stands beside a Pair; an Apart from New to its end; the chapter's example. -/
import Derived.Test.YtdfokceecnmocaaS16H
set_option linter.unusedVariables false
set_option linter.unusedSimpArgs false
namespace Go.Proofs.Ytdfokceecnmocaa.S16
open Go.Proofs.Ytdfokceecnmocaa Go.Proofs.Ytdfokceecnmocaa.S11 Go.Proofs.Ytdfokceecnmocaa.S12 Go.Proofs.Ytdfokceecnmocaa.S13 Go.Proofs.Ytdfokceecnmocaa.S14 Go.Proofs.Ytdfokceecnmocaa.S15
open Go.RowKit

/-- What stood beside stands beside still. -/
def Ext (R R' : List Part) : Prop := ∀ (k : Nat) (p : Part), R[k]? = some p → R'[k]? = some p
theorem Ext.refl (R : List Part) : Ext R R := fun _ _ h => h
theorem Ext.trans {R S T : List Part} (h : Ext R S) (g : Ext S T) : Ext R T := fun k p e => g k p (h k p e)
theorem Ext.app {R S : List Part} (h : Ext R S) (s : List Part) : Ext R (S ++ s) := fun k p e => by
  have h1 := h k p e
  rw [List.getElem?_append_left (List.getElem?_eq_some_iff.1 h1).1]; exact h1
theorem Ext.set {R S : List Part} (h : Ext R S) {i : Nat} (hi : R.length ≤ i) (q : Part) : Ext R (S.set i q) := fun k p e => by
  have hk := (List.getElem?_eq_some_iff.1 e).1
  exact (List.getElem?_set_ne (by omega)).trans (h k p e)
theorem ext_last (R : List Part) (p : Part) : (R ++ [p])[R.length]? = some p := by rw [List.getElem?_append_right (Nat.le_refl _), Nat.sub_self]; rfl
section
variable {w0 w w' : World} {base WB : Nat} {M : Sd} {r R : List Part} {j u v B : Nat} {l : Rows} {X : Wm} {P : Pr} {Q : Ap}
theorem pg_at (h : Pg w0 w base WB M R X) {k B : Nat} {ob : Obj} (e : R[k]? = some (blockP B ob)) : w.heap[B]? = some ob := h.ps.ok _ (blockP B ob) (h.part e)
/-- A step that leaves it not over; it stays as it may be. -/
theorem pstep_ok (h : PairAt w0 w base WB M r j u v P B X) (ok : PrOk P) (ms : 0 ≤ M.sp ∧ M.sp ≤ 16) (hn : M.n ≤ 1000000000) (hp : M.pn ≤ 1000000000) (h0 : P.ln ≠ 0) {M' : Sd} {P' : Pr} (e : pit (M, P) = (M', P')) (h1 : P'.ln ≠ 0) (hE : Ext R r) (hj : R.length ≤ j) (hu : R.length ≤ u) (hv : R.length ≤ v) :
    Calls Try.prog 18 #[Pw B, Pw WB] w fun e w' => e = .returned (.bool false) ∧ PrOk P' ∧ ∃ r' X', Ext R r' ∧ PairAt w0 w' base WB M' r' j u v P' B X' := by
  have hok := ok.step (M := M) ms h.look h.lk
  rw [show prE M P = P' from congrArg Prod.snd e] at hok
  refine (pstep_to h ok ms hn hp h0 e h1).mono ?_
  rintro e w' ⟨rfl, q1, q2, X', h'⟩
  exact ⟨rfl, hok, _, X', (hE.set hu _).set hv _, h'⟩
theorem PairAt.ext (h : PairAt w0 w base WB M r j u v P B X) (hE : Ext R r) (hj : R.length ≤ j) : ∃ R', Ext R R' ∧ Pg w0 w base WB M R' X := by
  obtain ⟨q, hq⟩ := h.pg
  exact ⟨_, hE.set hj q, hq⟩
theorem ApAt.ext (h : ApAt w0 w base WB M r j u v Q B X) (hE : Ext R r) (hj : R.length ≤ j) : ∃ R', Ext R R' ∧ Pg w0 w base WB M R' X := by
  obtain ⟨q, hq⟩ := h.pg
  exact ⟨_, hE.set hj q, hq⟩
/-- An Apart that was made: how it runs. -/
def Runs (w0 : World) (base WB : Nat) (R : List Part) (n : Nat) (w1 : World) (B : Nat) (P : Sd → Prop) : Prop :=
  ∀ W, Below w1.heap.size w1 W → Calls Try.prog 9 #[Pw WB, .iface 65 (Pw B), .int .i64 9] W fun e w' => e = .returned (.int .i64 (n : Int)) ∧ ∃ R' M' X', Ext R R' ∧ Pg w0 w' base WB M' R' X' ∧ P M'
theorem apart_one (h : Pg w0 w base WB M R X) {pb pi : Int} {a : Nat} (hz : S10.lockZ pb pi = (a : Int)) (ha : a < 1024) (h1 : S2.look M.L a = 1) (ms : 0 ≤ M.sp ∧ M.sp ≤ 16) (hn : M.n ≤ 900000000) (hp : M.pn ≤ 900000000) :
    Calls Try.prog 22 #[.agg #[.int .i64 pb, .int .i64 pi], .agg #[.int .i64 pb, .int .i64 pi]] w fun e w' => ∃ B, e = .returned (Pw B) ∧ Runs w0 base WB R 1 w' B (fun M' => S2.look M'.L a = 0) ∧ ∃ R', Ext R R' ∧ Pg w0 w' base WB M R' X := by
  refine (new_apart_one h hz hz ⟨rfl, rfl⟩).mono ?_
  rintro e w' ⟨B, q1, q2, rfl, hap⟩
  refine ⟨B, rfl, fun W hW => ?_, hap.ext ((((Ext.refl R).app _).set (by omega) q1).set (by omega) q2) (Nat.le_refl _)⟩
  obtain ⟨g1, g2, g3⟩ := ap_one (b := a) ha h1
  refine (run_a (hap.new hW) (ok_ap (by omega) (by omega)) ms 1 9 (by omega) (by omega) (by omega) hn hp g1 g2).mono ?_
  rintro e w' ⟨rfl, q3, q4, X', h'⟩
  obtain ⟨R', hE, hpg⟩ := h'.ext ((((((Ext.refl R).app _).set (by omega) q1).set (by omega) q2).set (by omega) q3).set (by omega) q4) (Nat.le_refl _)
  exact ⟨rfl, R', _, X', hE, hpg, g3⟩
theorem apart_two (h : Pg w0 w base WB M R X) {pb pi qb qi : Int} {a b : Nat} (hz1 : S10.lockZ pb pi = (a : Int)) (hz2 : S10.lockZ qb qi = (b : Int)) (he : ¬ (pb = qb ∧ pi = qi)) (ha : a < 1024) (hb : b < 1024) (hab : a ≠ b) (h1 : S2.look M.L a = 1) (h2 : S2.look M.L b = 1) (ms : 0 ≤ M.sp ∧ M.sp ≤ 16) (hn : M.n ≤ 900000000) (hp : M.pn ≤ 900000000) :
    Calls Try.prog 22 #[.agg #[.int .i64 pb, .int .i64 pi], .agg #[.int .i64 qb, .int .i64 qi]] w fun e w' => ∃ B, e = .returned (Pw B) ∧ Runs w0 base WB R 2 w' B (fun M' => S2.look M'.L a = 0 ∧ S2.look M'.L b = 0) ∧ ∃ R', Ext R R' ∧ Pg w0 w' base WB M R' X := by
  refine (new_apart_two h hz1 hz2 he).mono ?_
  rintro e w' ⟨B, q1, q2, rfl, hap⟩
  refine ⟨B, rfl, fun W hW => ?_, hap.ext ((((Ext.refl R).app _).set (by omega) q1).set (by omega) q2) (Nat.le_refl _)⟩
  obtain ⟨g1, g2, g3, g4⟩ := ap_two ha hb hab h1 h2
  refine (run_a (hap.new hW) (ok_ap (by omega) (by omega)) ms 2 9 (by omega) (by omega) (by omega) hn hp g1 g2).mono ?_
  rintro e w' ⟨rfl, q3, q4, X', h'⟩
  obtain ⟨R', hE, hpg⟩ := h'.ext ((((((Ext.refl R).app _).set (by omega) q1).set (by omega) q2).set (by omega) q3).set (by omega) q4) (Nat.le_refl _)
  exact ⟨rfl, R', _, X', hE, hpg, g3, g4⟩
end
theorem pitn_1 (p : Sd × Pr) : pitn p 1 = pit p := rfl
theorem pitn_s (p : Sd × Pr) (n : Nat) : pitn p (n + 1) = pit (pitn p n) := rfl
theorem pitn_add (p : Sd × Pr) (m : Nat) : ∀ n, pitn p (m + n) = pitn (pitn p m) n
  | 0 => rfl
  | n + 1 => by
    rw [← Nat.add_assoc, pitn_s, pitn_add p m n, ← pitn_s]
theorem eqlPl (b i : Int) (w : World) : (binOp .eql 39 (.agg #[.int .i64 b, .int .i64 i]) (.agg #[.int .i64 b, .int .i64 i])).run Try.prog w = .ok (.bool true) w := by
  simp [go_sem, Try.underlying39]
set_option maxRecDepth 100000 in
set_option maxHeartbeats 8000000 in
theorem lives16 (w : World) : Calls Try.prog 23 #[] w fun e w' => e = .returned (.bool true) ∧ Below w.heap.size w w' := by
  have HW : Hid (Calls Try.prog 5 #[.int .u8 0] w fun e w' => ∃ X, e = .returned (Pw X.wB) ∧ PW w' w.heap.size X ∧ At0 X 0 5 [] ∧ Below w.heap.size w w') := Lib.hid (world_any 0 (by omega) w)
  have HNP : Hid (∀ W, Calls Try.prog 17 #[.int .i64 0, .int .u32 1152, .int .u32 1152] W fun e w' => ∃ v, e = .returned v ∧ NewPr W w' 0 1152 1152 v) := Lib.hid (fun W => new_pair (t := 0) (a := 1152) (b := 1152) (by omega) W)
  obtain ⟨bkt, hbk⟩ : ∃ bkt, bkt = bktN 1152 2 := ⟨_, rfl⟩
  obtain ⟨a, hal⟩ : ∃ a, a = lokN 1152 2 := ⟨_, rfl⟩
  have hain := lok_in 1152 2
  rw [← hal] at hain
  have HPL : Hid (∀ W, Calls Try.prog 7 #[.int .u32 1152, .int .u64 2] W fun e w' => e = .returned (.agg #[.int .i64 2, .int .i64 (bkt : Int)]) ∧ Below W.heap.size W w') := Lib.hid (fun W => by
    have h := place_any 1152 2 (by omega) (by omega) W
    unfold placeV at h
    rw [← hbk] at h
    exact h)
  have hz : S10.lockZ 2 (bkt : Int) = (a : Int) := by
    have h := lok_lock 1152 2
    rw [← hbk, ← hal] at h
    exact h
  have hl1 : loK 1152 1152 2 = 1152 := by unfold loK; split <;> rfl
  have hl2 : hiK 1152 1152 2 = 1152 := by unfold hiK; split <;> rfl
  have l0 : S2.look (sdN 0 5).L 0 = 2 := look02 0
  have la : S2.look (sdN 0 5).L a = 0 := by
    show S2.look L02 a = 0
    rw [look02, if_neg (by omega)]
  obtain ⟨M1, M2, P1, P2, e1, e2, z1, z2, _, _, b2, _, hone⟩ := pr_alone (M := sdN 0 5) (t := 0) (a := 1152) (b := 1152) (x := 2) (m1 := a) (m2 := a) l0 (by rw [hl1]; exact hal) (by rw [hl2]; exact hal) la la
  obtain ⟨g1, g2, g3, g4, g5, g6⟩ := hone rfl
  have f1 : pitn (sdN 0 5, pr0 0 1152 1152) 1 = (M1, P1) := e1
  have f2 : pitn (sdN 0 5, pr0 0 1152 1152) 2 = (M2, P2) := by rw [pitn_s, f1, e2]
  have f3 : pitn (sdN 0 5, pr0 0 1152 1152) 3 = pitn (M2, P2) 1 := by rw [pitn_s, f2]; rfl
  have hpos : ∀ i, i < 3 → (pitn (sdN 0 5, pr0 0 1152 1152) i).2.ln ≠ 0 := fun i hi => by
    rcases (show i = 0 ∨ i = 1 ∨ i = 2 by omega) with rfl | rfl | rfl
    · show 1 ≠ 0; omega
    · rw [f1]; show P1.ln ≠ 0; rw [z1]; omega
    · rw [f2]; show P2.ln ≠ 0; rw [z2]; omega
  have hend : (pitn (sdN 0 5, pr0 0 1152 1152) 3).2.ln = 0 := by rw [f3]; exact g2
  have hrun := fun (W : World) (r : List Part) (j u v B base WB : Nat) (X : Wm) (h : PairAt w W base WB (sdN 0 5) r j u v (pr0 0 1152 1152) B X) => run_p h (ok_pr (by omega) (by omega) (by omega)) ⟨by show (0 : Int) ≤ 0; omega, by show (0 : Int) ≤ 16; omega⟩ 3 9 (by omega) (by omega) (by omega) (by show 0 ≤ _; omega) (by show 0 ≤ _; omega) hpos hend
  rw [f3] at hrun
  obtain ⟨M3, hM3⟩ : ∃ M3, M3 = (pitn (M2, P2) 1).1 := ⟨_, rfl⟩
  obtain ⟨P3, hP3⟩ : ∃ P3, P3 = (pitn (M2, P2) 1).2 := ⟨_, rfl⟩
  rw [← hM3, ← hP3] at hrun
  rw [← hP3] at g2 g3 g4 g5
  rw [← hM3] at g6
  have HRUN := Lib.hid hrun; have HG := Lib.hid (And.intro g2 (And.intro g3 (And.intro g4 g5))); have HTK := Lib.hid g6
  have HBK := Lib.hid hbk; have HAI := Lib.hid hain; have HZ := Lib.hid hz
  have heq := eqlPl 2 (bkt : Int)
  clear hbk hal hain hz hl1 hl2 l0 la e1 e2 z1 z2 b2 hone g1 g2 g3 g4 g5 g6 f1 f2 f3 hpos hend hrun hM3 hP3
  go_enter Try.func23, Try.ntmps23
  go_upto_region 4 with (go_at_call 5; refine HW.out.mono ?_; rintro e w1 ⟨X, rfl, hp, h0, hb⟩)
  have hpg := pg_of hp hb
  rw [at0_sd h0] at hpg
  obtain ⟨WB, hWB⟩ : ∃ x, x = X.wB := ⟨_, rfl⟩
  rw [← hWB] at hpg ⊢
  have HPG := Lib.hid hpg
  clear hpg hp h0 hb hWB HW
  go_upto_region 5 with (go_at_call 17; refine (HNP.out _).mono ?_; rintro e w2 ⟨v, rfl, hnp⟩)
  obtain ⟨B, rfl, X2, hpa⟩ := Pg.pair HPG.out hnp
  have HR := Lib.hid (HRUN.out _ _ _ _ _ _ _ _ _ hpa)
  clear hnp hpa HPG HNP HRUN
  go_upto_region 6 with (go_at_call 9; refine HR.out.mono ?_; rintro e w3 ⟨rfl, q1, q2, X3, h3⟩)
  have hg := h3.got HG.out.1
  rw [HG.out.2.1, HG.out.2.2.1, HG.out.2.2.2, show ((bitsN 2 : Nat) : Int) = 2 from rfl, ← HBK.out] at hg
  obtain ⟨R3, _, hpg3⟩ := h3.ext (R := []) (fun k p e => by simp at e) (Nat.zero_le _)
  have HGO := Lib.hid hg; have H3 := Lib.hid hpg3
  clear hg h3 hpg3 HR
  go_upto_region 7 with (go_at_call 21; refine HGO.out.mono ?_; rintro e w4 ⟨rfl, hb4⟩; have HB4 := Lib.hid hb4; clear hb4)
  have h5 := Pg.add (Pg.add (H3.out.new HB4.out) (.cells #[.int .i64 2, .int .i64 (bkt : Int)] 39)) (.cells #[.int .i64 2, .int .i64 (bkt : Int)] 39)
  obtain ⟨N4, hN4⟩ : ∃ N4, N4 = w4.heap.size := ⟨_, rfl⟩
  obtain ⟨N5, hN5⟩ : ∃ N5, N5 = (w4.alloc (.cells #[.int .i64 2, .int .i64 (bkt : Int)] 39)).heap.size := ⟨_, rfl⟩
  have hN5' : N5 = N4 + 1 := by rw [hN5, alloc_size, hN4]
  rw [← hN4, ← hN5] at h5
  rw [← hN4]
  (try rw [← hN5'])
  have H5 := Lib.hid h5
  have e4 : Ext (R3 ++ [blockP N4 (.cells #[.int .i64 2, .int .i64 (bkt : Int)] 39)] ++ [blockP N5 (.cells #[.int .i64 2, .int .i64 (bkt : Int)] 39)]) (R3 ++ [blockP N4 (.cells #[.int .i64 2, .int .i64 (bkt : Int)] 39)] ++ [blockP N5 (.cells #[.int .i64 2, .int .i64 (bkt : Int)] 39)]) := Ext.refl _
  have k4 : (R3 ++ [blockP N4 (.cells #[.int .i64 2, .int .i64 (bkt : Int)] 39)] ++ [blockP N5 (.cells #[.int .i64 2, .int .i64 (bkt : Int)] 39)])[R3.length]? = some (blockP N4 (.cells #[.int .i64 2, .int .i64 (bkt : Int)] 39)) := (Ext.refl _).app _ _ _ (ext_last R3 _)
  have k5 : (R3 ++ [blockP N4 (.cells #[.int .i64 2, .int .i64 (bkt : Int)] 39)] ++ [blockP N5 (.cells #[.int .i64 2, .int .i64 (bkt : Int)] 39)])[(R3 ++ [blockP N4 (.cells #[.int .i64 2, .int .i64 (bkt : Int)] 39)]).length]? = some (blockP N5 (.cells #[.int .i64 2, .int .i64 (bkt : Int)] 39)) := ext_last _ _
  have HK := Lib.hid (And.intro k4 k5)
  clear h5 hN4 hN5 hN5' H3 HB4 HGO e4 k4 k5
  generalize (w4.alloc (.cells #[.int .i64 2, .int .i64 (bkt : Int)] 39)).alloc (.cells #[.int .i64 2, .int .i64 (bkt : Int)] 39) = w5 at *
  have HAP := Lib.hid (apart_one H5.out HZ.out (by have := HAI.out; omega) HTK.out.at_a (by rw [HTK.out.sp]; exact ⟨by show (0 : Int) ≤ 0; omega, by show (0 : Int) ≤ 16; omega⟩) (Nat.le_trans HTK.out.n (by show 0 + 9 ≤ _; omega)) (Nat.le_trans HTK.out.pn (by show 0 + 9 ≤ _; omega)))
  have c0 : w5.cell? ⟨N4, 0, none⟩ = some (.int .i64 2) := cell_row (pg_at H5.out HK.out.1) 0
  have c1 : w5.cell? ⟨N4, 1, none⟩ = some (.int .i64 (bkt : Int)) := cell_row (pg_at H5.out HK.out.1) 1
  have c2 : w5.cell? ⟨N5, 0, none⟩ = some (.int .i64 2) := cell_row (pg_at H5.out HK.out.2) 0
  have c3 : w5.cell? ⟨N5, 1, none⟩ = some (.int .i64 (bkt : Int)) := cell_row (pg_at H5.out HK.out.2) 1
  go_upto_region 8 with (first
    | (go_at_call 22; refine HAP.out.mono ?_; rintro e w6 ⟨B2, rfl, hrn, _⟩; have HRN := Lib.hid hrn; clear hrn)
    | (go_at_call 9; refine (HRN.out _ (Below.refl _ _)).mono ?_; rintro e w7 ⟨rfl, R7, M7, X7, hE7, hpg7, hl7⟩; have HE7 := Lib.hid hE7; have H7 := Lib.hid hpg7; clear hE7 hpg7 hl7))
  have HC := Lib.hid (And.intro (show w7.cell? ⟨N4, 0, none⟩ = some (.int .i64 2) from cell_row (pg_at H7.out (HE7.out _ _ HK.out.1)) 0) (And.intro (show w7.cell? ⟨N4, 1, none⟩ = some (.int .i64 (bkt : Int)) from cell_row (pg_at H7.out (HE7.out _ _ HK.out.1)) 1) (And.intro (show w7.cell? ⟨N5, 0, none⟩ = some (.int .i64 2) from cell_row (pg_at H7.out (HE7.out _ _ HK.out.2)) 0) (show w7.cell? ⟨N5, 1, none⟩ = some (.int .i64 (bkt : Int)) from cell_row (pg_at H7.out (HE7.out _ _ HK.out.2)) 1))))
  clear c0 c1 c2 c3 HAP HRN H5
  refine wp_region_held_drew (S := fun w' => w'.cell? ⟨N4, 0, none⟩ = some (.int .i64 2) ∧ w'.cell? ⟨N4, 1, none⟩ = some (.int .i64 (bkt : Int)) ∧ w'.cell? ⟨N5, 0, none⟩ = some (.int .i64 2) ∧ w'.cell? ⟨N5, 1, none⟩ = some (.int .i64 (bkt : Int))) (by kernel_rfl) ?_ (fun hHeld => ?_)
  · exact ⟨bcell (Below.refl _ _).drew HC.out.1, bcell (Below.refl _ _).drew HC.out.2.1, bcell (Below.refl _ _).drew HC.out.2.2.1, bcell (Below.refl _ _).drew HC.out.2.2.2⟩
  refine wpAnyH_take (i := 0) (oi := ({ dst := some 26, op := Op.move (Operand.tmp 3), type := 3, pos := "outright.go:25", after := #[], guard := none } : Oper)) (v := ?vlvm1) rfl (by kernel_rfl) (by kernel_rfl) (by kernel_rfl) (fun _ _ _ h => h) (Or.inl ⟨by rfl, fun w hSw => ?hylvm1⟩) (by assumption) ?rlvm1
  case hylvm1 => (try dsimp only at hSw); go_simp; (try with_reducible rfl)
  (try simp only [Act.put, List.setIfInBounds_toArray, List.set_cons_zero, List.set_cons_succ])
  refine wpAnyH_take (i := 1) (oi := ({ dst := some 27, op := Op.binOp BinOp.eql 3 (Operand.tmp 26) (Operand.const (Value.int IntKind.i64 3)) 3, type := 4, pos := "outright.go:25", after := #[{ on := 0, ground := Ground.data }], guard := none } : Oper)) (v := ?vlvm2) rfl (by kernel_rfl) (by kernel_rfl) (by kernel_rfl) (fun _ _ _ h => h) (Or.inl ⟨by rfl, fun w hSw => ?hylvm2⟩) (by assumption) ?rlvm2
  case hylvm2 => (try dsimp only at hSw); go_simp; (try with_reducible rfl)
  (try simp only [Act.put, List.setIfInBounds_toArray, List.set_cons_zero, List.set_cons_succ])
  refine wpAnyH_take (i := 2) (oi := ({ dst := some 28, op := Op.move (Operand.tmp 27), type := 4, pos := "outright.go:25", after := #[{ on := 1, ground := Ground.data }], guard := none } : Oper)) (v := ?vlvm3) rfl (by kernel_rfl) (by kernel_rfl) (by kernel_rfl) (fun _ _ _ h => h) (Or.inl ⟨by rfl, fun w hSw => ?hylvm3⟩) (by assumption) ?rlvm3
  case hylvm3 => (try dsimp only at hSw); go_simp; (try with_reducible rfl)
  (try simp only [Act.put, List.setIfInBounds_toArray, List.set_cons_zero, List.set_cons_succ])
  refine wpAnyH_take (i := 3) (oi := ({ dst := some 29, op := Op.move (Operand.tmp 6), type := 3, pos := "outright.go:25", after := #[{ on := 2, ground := Ground.guard }], guard := some (2, true) } : Oper)) (v := ?vlvm4) rfl (by kernel_rfl) (by kernel_rfl) (by kernel_rfl) (fun _ _ _ h => h) (Or.inl ⟨by rfl, fun w hSw => ?hylvm4⟩) (by assumption) ?rlvm4
  case hylvm4 => (try dsimp only at hSw); go_simp; (try with_reducible rfl)
  (try simp only [Act.put, List.setIfInBounds_toArray, List.set_cons_zero, List.set_cons_succ])
  refine wpAnyH_take (i := 4) (oi := ({ dst := some 30, op := Op.binOp BinOp.eql 3 (Operand.tmp 29) (Operand.const (Value.int IntKind.i64 1)) 3, type := 4, pos := "outright.go:25", after := #[{ on := 3, ground := Ground.data }, { on := 2, ground := Ground.guard }], guard := some (2, true) } : Oper)) (v := ?vlvm5) rfl (by kernel_rfl) (by kernel_rfl) (by kernel_rfl) (fun _ _ _ h => h) (Or.inl ⟨by rfl, fun w hSw => ?hylvm5⟩) (by assumption) ?rlvm5
  case hylvm5 => (try dsimp only at hSw); go_simp; (try with_reducible rfl)
  (try simp only [Act.put, List.setIfInBounds_toArray, List.set_cons_zero, List.set_cons_succ])
  refine wpAnyH_take (i := 5) (oi := ({ dst := some 31, op := Op.pick (Operand.tmp 28) (Operand.tmp 30) (Operand.const (Value.bool false)), type := 4, pos := "outright.go:25", after := #[{ on := 2, ground := Ground.data }, { on := 4, ground := Ground.data }], guard := none } : Oper)) (v := ?vlvm6) rfl (by kernel_rfl) (by kernel_rfl) (by kernel_rfl) (fun _ _ _ h => h) (Or.inl ⟨by rfl, fun w hSw => ?hylvm6⟩) (by assumption) ?rlvm6
  case hylvm6 => (try dsimp only at hSw); go_simp; (try with_reducible rfl)
  (try simp only [Act.put, List.setIfInBounds_toArray, List.set_cons_zero, List.set_cons_succ])
  refine wpAnyH_take (i := 6) (oi := ({ dst := some 32, op := Op.move (Operand.tmp 31), type := 4, pos := "outright.go:25", after := #[{ on := 5, ground := Ground.data }, { on := 2, ground := Ground.chain }], guard := none } : Oper)) (v := ?vlvm7) rfl (by kernel_rfl) (by kernel_rfl) (by kernel_rfl) (fun _ _ _ h => h) (Or.inl ⟨by rfl, fun w hSw => ?hylvm7⟩) (by assumption) ?rlvm7
  case hylvm7 => (try dsimp only at hSw); go_simp; (try with_reducible rfl)
  (try simp only [Act.put, List.setIfInBounds_toArray, List.set_cons_zero, List.set_cons_succ])
  refine wpAnyH_take (i := 7) (oi := ({ dst := some 33, op := Op.load 39 (Operand.tmp 4), type := 39, pos := "outright.go:25", after := #[{ on := 6, ground := Ground.guard }], guard := some (6, true) } : Oper)) (v := ?vlvm8) rfl (by kernel_rfl) (by kernel_rfl) (by kernel_rfl) (fun _ _ _ h => h) (Or.inl ⟨by rfl, fun w hSw => ?hylvm8⟩) (by assumption) ?rlvm8
  case hylvm8 => (try dsimp only at hSw); go_simp; (try with_reducible rfl)
  (try simp only [Act.put, List.setIfInBounds_toArray, List.set_cons_zero, List.set_cons_succ])
  refine wpAnyH_take (i := 8) (oi := ({ dst := some 34, op := Op.load 39 (Operand.tmp 5), type := 39, pos := "outright.go:25", after := #[{ on := 6, ground := Ground.guard }], guard := some (6, true) } : Oper)) (v := ?vlvm9) rfl (by kernel_rfl) (by kernel_rfl) (by kernel_rfl) (fun _ _ _ h => h) (Or.inl ⟨by rfl, fun w hSw => ?hylvm9⟩) (by assumption) ?rlvm9
  case hylvm9 => (try dsimp only at hSw); go_simp; (try with_reducible rfl)
  (try simp only [Act.put, List.setIfInBounds_toArray, List.set_cons_zero, List.set_cons_succ])
  refine wpAnyH_take (i := 9) (oi := ({ dst := some 35, op := Op.binOp BinOp.eql 39 (Operand.tmp 33) (Operand.tmp 34) 39, type := 4, pos := "outright.go:25", after := #[{ on := 7, ground := Ground.data }, { on := 8, ground := Ground.data }, { on := 6, ground := Ground.guard }], guard := some (6, true) } : Oper)) (v := ?vlvm10) rfl (by kernel_rfl) (by kernel_rfl) (by kernel_rfl) (fun _ _ _ h => h) (Or.inl ⟨by rfl, fun w hSw => ?hylvm10⟩) (by assumption) ?rlvm10
  case hylvm10 => (try dsimp only at hSw); go_simp; (try with_reducible rfl)
  (try simp only [Act.put, List.setIfInBounds_toArray, List.set_cons_zero, List.set_cons_succ])
  refine wpAnyH_take (i := 10) (oi := ({ dst := some 36, op := Op.pick (Operand.tmp 32) (Operand.tmp 35) (Operand.const (Value.bool false)), type := 4, pos := "outright.go:25", after := #[{ on := 6, ground := Ground.data }, { on := 9, ground := Ground.data }], guard := none } : Oper)) (v := ?vlvm11) rfl (by kernel_rfl) (by kernel_rfl) (by kernel_rfl) (fun _ _ _ h => h) (Or.inl ⟨by rfl, fun w hSw => ?hylvm11⟩) (by assumption) ?rlvm11
  case hylvm11 => (try dsimp only at hSw); go_simp; (try with_reducible rfl)
  (try simp only [Act.put, List.setIfInBounds_toArray, List.set_cons_zero, List.set_cons_succ])
  refine wpAnyH_take (i := 11) (oi := ({ dst := some 37, op := Op.move (Operand.tmp 36), type := 4, pos := "outright.go:25", after := #[{ on := 10, ground := Ground.data }, { on := 6, ground := Ground.chain }], guard := none } : Oper)) (v := ?vlvm12) rfl (by kernel_rfl) (by kernel_rfl) (by kernel_rfl) (fun _ _ _ h => h) (Or.inl ⟨by rfl, fun w hSw => ?hylvm12⟩) (by assumption) ?rlvm12
  case hylvm12 => (try dsimp only at hSw); go_simp; (try with_reducible rfl)
  (try simp only [Act.put, List.setIfInBounds_toArray, List.set_cons_zero, List.set_cons_succ])
  refine wpAnyH_take (i := 12) (oi := ({ dst := some 38, op := Op.load 39 (Operand.tmp 4), type := 39, pos := "outright.go:25", after := #[{ on := 11, ground := Ground.guard }], guard := some (11, true) } : Oper)) (v := ?vlvm13) rfl (by kernel_rfl) (by kernel_rfl) (by kernel_rfl) (fun _ _ _ h => h) (Or.inl ⟨by rfl, fun w hSw => ?hylvm13⟩) (by assumption) ?rlvm13
  case hylvm13 => (try dsimp only at hSw); go_simp; (try with_reducible rfl)
  (try simp only [Act.put, List.setIfInBounds_toArray, List.set_cons_zero, List.set_cons_succ])
  refine wpAnyH_ready (rs := [13]) (by kernel_rfl) (by simp) ?_
  refine AllReadyH.cons (o := ({ dst := some 39, op := Op.call { callee := Callee.value (Operand.func 7), args := #[Operand.const (Value.int IntKind.u32 1152), Operand.const (Value.int IntKind.u64 2)], argTypes := #[37, 25] }, type := 39, pos := "outright.go:25", after := #[{ on := 11, ground := Ground.chain }, { on := 11, ground := Ground.guard }], guard := some (11, true) } : Oper)) rfl (fun Kq hKq => ?_) AllReadyH.nil
  go_simp
  (refine (HPL.out _).mono ?_; rintro e w9 ⟨rfl, hb9⟩; have HB9 := Lib.hid hb9; clear hb9)
  refine hKq.out _ _ ?_ (fun hHeld => ?_)
  · exact ⟨bcell HB9.out hHeld.1, bcell HB9.out hHeld.2.1, bcell HB9.out hHeld.2.2.1, bcell HB9.out hHeld.2.2.2⟩
  clear hKq Kq
  (try simp only [Act.put, List.setIfInBounds_toArray, List.set_cons_zero, List.set_cons_succ])
  refine wpAnyH_take (i := 14) (oi := ({ dst := some 40, op := Op.binOp BinOp.eql 39 (Operand.tmp 38) (Operand.tmp 39) 39, type := 4, pos := "outright.go:25", after := #[{ on := 12, ground := Ground.data }, { on := 13, ground := Ground.data }, { on := 11, ground := Ground.guard }], guard := some (11, true) } : Oper)) (v := ?vlvm14) rfl (by kernel_rfl) (by kernel_rfl) (by kernel_rfl) (fun _ _ _ h => h) (Or.inl ⟨by rfl, fun w hSw => ?hylvm14⟩) (by assumption) ?rlvm14
  case hylvm14 => (try dsimp only at hSw); go_simp; (try with_reducible rfl)
  (try simp only [Act.put, List.setIfInBounds_toArray, List.set_cons_zero, List.set_cons_succ])
  refine wpAnyH_take (i := 15) (oi := ({ dst := some 41, op := Op.pick (Operand.tmp 37) (Operand.tmp 40) (Operand.const (Value.bool false)), type := 4, pos := "outright.go:25", after := #[{ on := 11, ground := Ground.data }, { on := 14, ground := Ground.data }], guard := none } : Oper)) (v := ?vlvm15) rfl (by kernel_rfl) (by kernel_rfl) (by kernel_rfl) (fun _ _ _ h => h) (Or.inl ⟨by rfl, fun w hSw => ?hylvm15⟩) (by assumption) ?rlvm15
  case hylvm15 => (try dsimp only at hSw); go_simp; (try with_reducible rfl)
  (try simp only [Act.put, List.setIfInBounds_toArray, List.set_cons_zero, List.set_cons_succ])
  refine wpAnyH_take (i := 16) (oi := ({ dst := some 0, op := Op.assign (Operand.tmp 41), type := 4, pos := "outright.go:25", after := #[{ on := 15, ground := Ground.data }, { on := 13, ground := Ground.chain }, { on := 0, ground := Ground.phase }, { on := 1, ground := Ground.phase }, { on := 2, ground := Ground.phase }, { on := 3, ground := Ground.phase }, { on := 4, ground := Ground.phase }, { on := 5, ground := Ground.phase }, { on := 6, ground := Ground.phase }, { on := 7, ground := Ground.phase }, { on := 8, ground := Ground.phase }, { on := 9, ground := Ground.phase }, { on := 10, ground := Ground.phase }, { on := 11, ground := Ground.phase }, { on := 12, ground := Ground.phase }, { on := 13, ground := Ground.phase }, { on := 14, ground := Ground.phase }, { on := 15, ground := Ground.phase }], guard := none } : Oper)) (v := ?vlvm16) rfl (by kernel_rfl) (by kernel_rfl) (by kernel_rfl) (fun _ _ _ h => h) (Or.inl ⟨by rfl, fun w hSw => ?hylvm16⟩) (by assumption) ?rlvm16
  case hylvm16 => (try dsimp only at hSw); go_simp; (try with_reducible rfl)
  (try simp only [Act.put, List.setIfInBounds_toArray, List.set_cons_zero, List.set_cons_succ])
  refine wpAnyH_done (by kernel_rfl) ?_ _
  go_wp2_with fail
  go_ret
  exact ⟨rfl, H7.out.bl.trans ((Below.refl _ _).drew.trans HB9.out |>.mono H7.out.size)⟩
end Go.Proofs.Ytdfokceecnmocaa.S16
