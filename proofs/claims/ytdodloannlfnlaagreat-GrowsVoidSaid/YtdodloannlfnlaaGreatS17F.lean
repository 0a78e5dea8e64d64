/- Tables without entries: what growing makes of them; a table, and a timer, that are looked at; the table is replaced. -/
import Derived.Test.YtdodloannlfnlaaGreatS17E
set_option linter.unusedVariables false
set_option linter.unusedSimpArgs false
namespace Go.Proofs.YtdodloannlfnlaaGreat.S17
open Go.Proofs.YtdodloannlfnlaaGreat Go.Proofs.YtdodloannlfnlaaGreat.S11 Go.Proofs.YtdodloannlfnlaaGreat.S12 Go.Proofs.YtdodloannlfnlaaGreat.S13 Go.Proofs.YtdodloannlfnlaaGreat.S14 Go.Proofs.YtdodloannlfnlaaGreat.S15
open Go.RowKit

/-- A table whose queues are empty. -/
def emp (now : Int) (n : Nat) : List S10.Bk := S10.fresh now (List.replicate n [])
theorem emp_len (now : Int) (n : Nat) : (emp now n).length = n := by unfold emp; rw [S10.fresh_len, List.length_replicate]
theorem emp_at (now : Int) {n i : Nat} (h : i < n) : (emp now n)[i]! = ⟨now, now, []⟩ := by
  unfold emp
  rw [S10.fresh_at _ _ (by rw [List.length_replicate]; exact h), getElem!_pos _ i (by rw [List.length_replicate]; exact h), List.getElem_replicate]
theorem emp_flat (now : Int) (n : Nat) : ((emp now n).map S10.Bk.q).flatten = [] := by
  unfold emp S10.fresh
  rw [List.map_map, List.map_replicate]
  simp
theorem reh_nil (h : Nat → Nat) : ∀ n, S10.reh h n [] = List.replicate n []
  | 0 => rfl
  | n + 1 => by
    rw [List.replicate_succ', ← reh_nil h n]
    unfold S10.reh
    rw [List.range_succ, List.map_append]
    rfl
/-- What growing makes of it. -/
def gro (m : Int → List S10.Bk) (fr tg : Nat) (now : Nat) : Int → List S10.Bk :=
  S10.upd (S10.upd m (fr : Int) (S10.hollow (m (fr : Int)))) (tg : Int) (emp (now : Int) (2 ^ tg))
theorem gro_tg (m : Int → List S10.Bk) (fr tg now : Nat) : gro m fr tg now (tg : Int) = emp (now : Int) (2 ^ tg) := S10.upd_same _ _ _
theorem gro_up (m : Int → List S10.Bk) {fr tg now : Nat} (h : fr < tg) {b : Int} (hb : (tg : Int) < b) : gro m fr tg now b = m b := by
  unfold gro
  rw [S10.upd_ne _ _ (by omega), S10.upd_ne _ _ (by omega)]
/-- The tables grow. -/
def gw (M : Sd) (fr tg : Nat) : Sd := { M with m := gro M.m fr tg M.T }
theorem ini {b : Nat} (h : b ≤ 8) : S10.InI (b : Int) := ⟨by omega, by omega⟩
section
variable {w0 w w' : World} {base WB : Nat} {M : Sd} {r : List Part} {j B m U : Nat} {t : Nat} {b : Int} {s : Value} {L : List Value} {X : Wm}
theorem Pg.grow (h : Pg w0 w base WB M r X) {fr tg : Nat} {τ : Int} (h1 : 2 ≤ fr) (h2 : fr < tg) (h3 : tg ≤ 8) (hm : M.m (fr : Int) = emp τ (2 ^ fr)) (h0 : M.m (tg : Int) = []) (hn : M.n ≤ 900000) (hn2 : X.tn ≤ M.n) :
    Calls Tryz.prog 14 #[X.ts, .int .i64 (fr : Int), .int .i64 (tg : Int), .int .u64 (M.T : Nat)] w fun e w' => e = .returned (.bool true) ∧ ∃ X', Pg w0 w' base WB (gw M fr tg) r X' := by
  have hS : 2 ^ fr ≤ 256 := Nat.pow_le_pow_right (by decide : 0 < 2) (show fr ≤ 8 by omega)
  have hS0 : 0 < 2 ^ fr := Nat.pow_pos (by decide)
  have e1 : X.tM = M.m := congrArg Sd.m h.xm
  have e2 : X.n = M.n := congrArg Sd.n h.xm
  obtain ⟨hh, hk, _⟩ := S10.kits
  have ht := h.pw.tables
  rw [e1] at ht
  have hlen : (M.m (fr : Int)).length = 2 ^ fr := by rw [hm, emp_len]
  have hfl : ((M.m (fr : Int)).map S10.Bk.q).flatten = [] := by rw [hm, emp_flat]
  have hg := S10.grow_yes (fr := (fr : Int)) (tg := (tg : Int)) ht (ini (by omega)) (ini h3) ((M.T : Nat) : Int) (by intro e; rw [e] at hlen; simp at hlen; omega) (by omega) (by omega) h0 (hk tg (by omega) h3) (by omega) (by rw [hfl]; intro e he; cases he) (by rw [hfl]; exact Nat.zero_le _) (by omega)
  have hgr : S10.grown M.m (hh tg) (2 ^ tg) (fr : Int) (tg : Int) ((M.T : Nat) : Int) = gro M.m fr tg M.T := by
    unfold S10.grown gro emp
    rw [hfl, reh_nil]
  rw [hgr] at hg
  refine hg.mono ?_
  rintro e w' ⟨rfl, own', hst, htn, hfr⟩
  have hi : (X.parts ++ r)[4]? = some (tablesP X.tb X.tO X.ts X.tn M.m) := by rw [← e1]; rfl
  obtain ⟨hp, hb⟩ := t_tables (i := 4) h.ps hi hst htn hfr
  refine ⟨rfl, { X with tO := own', tn := X.tn + 1, tM := gro M.m fr tg M.T }, hp, h.wB, ?_, h.bl.trans hb, by show X.tn + 1 ≤ X.n + 1; omega⟩
  rw [← h.xm]; rfl
theorem Pg.store2 (h : Pg w0 w base WB M r X) {a v : Nat} (ha : a < 4294967296) (hv : v < 18446744073709551616) (hn : M.n ≤ 1000000000) :
    Calls Tryz.prog 54 #[Pw X.cB, .int .u32 a, .int .u64 v] w fun e w' => e = .returned (.int .u64 (S2.look M.L a : Nat)) ∧ ∃ X', Pg w0 w' base WB (M.acc 2 a v) r X' ∧ X'.tn ≤ M.n + 1 := by
  have e : X.L = M.L := congrArg Sd.L h.xm
  have e2 : X.n = M.n := congrArg Sd.n h.xm
  rw [← e]
  refine (S2.store_any w X.cB X.cM X.L X.n X.k X.a X.was X.is a v h.pw.cells ha hv (by omega)).mono ?_
  rintro e w' ⟨rfl, hl⟩
  obtain ⟨M', hp, hb⟩ := t_cells (i := 0) h.ps rfl hl
  refine ⟨rfl, { X with cM := M', L := S2.putL X.L a (S2.bring a v), n := X.n + 1, k := 2, a := a, was := S2.look X.L a, is := S2.bring a v }, ⟨hp, h.wB, ?_, h.bl.trans hb, Nat.le_succ_of_le h.tnb⟩, by show X.tn ≤ M.n + 1; have := h.tnb; omega⟩
  rw [← h.xm]; rfl
theorem Pg.has (h : Pg w0 w base WB M r X) {b : Nat} (hb : b ≤ 8) : Calls Tryz.prog 50 #[X.ts, .int .i64 (b : Int)] w fun e w' => e = .returned (.bool (decide (0 < (M.m (b : Int)).length))) ∧ w = w' := by
  obtain ⟨F, hr⟩ := h.pw.tables.rs
  rw [show X.tM = M.m from congrArg Sd.m h.xm] at hr
  obtain ⟨A, c, V, h1, -⟩ := hr.rd (b : Int)
  exact S10.has_any hr.sv (ini hb) h1
theorem Pg.timer (h : Pg w0 w base WB M r X) {b i : Nat} {τ : Nat} (hb : b ≤ 8) (hm : M.m (b : Int) = emp (τ : Int) (2 ^ b)) (hi : i < 2 ^ b) : Calls Tryz.prog 73 #[X.ts, .agg #[.int .i64 (b : Int), .int .i64 (i : Int)]] w fun e w' => e = .returned (.agg #[.int .u64 (τ : Int), .int .u64 (τ : Int)]) ∧ Below w.heap.size w w' := by
  obtain ⟨F, hr⟩ := h.pw.tables.rs
  rw [show X.tM = M.m from congrArg Sd.m h.xm] at hr
  have := S10.timer_yes hr (ini hb) (i := i) (by rw [hm, emp_len]; exact hi)
  rwa [hm, emp_at _ hi] at this
set_option maxRecDepth 100000 in
set_option maxHeartbeats 4000000 in
/-- The table is replaced. -/
theorem repl_step {fr tg : Nat} (h : Jw w0 w base WB M r j B (t : Int) (tg : Int) s L X) (hn : M.n ≤ 800000) {τ : Int} (h1 : 2 ≤ fr) (h2 : fr < tg) (h3 : tg ≤ 8) (hm : M.m (fr : Int) = emp τ (2 ^ fr)) (h0 : M.m (tg : Int) = []) :
    Calls Tryz.prog 195 #[.agg #[.int .i64 (fr : Int)], Pw B, Pw WB] w fun e w' => e = .returned (.bool true) ∧ ∃ p0 X', Jw w0 w' base WB (gw (M.acc 2 0 tg) fr tg) (r ++ [p0]) j B (t : Int) (tg : Int) s L X' := by
  have g1 := h.push (.cells #[.int .i64 (fr : Int)] 311)
  have g2 := g1.new (Below.refl _ _).drew
  have hst := Pg.store2 g2.pg (a := 0) (v := tg) (by omega) (by omega) (by omega)
  have hc0 := g2.pg.c.1
  have c1 := g2.c1
  have w1 : IntKind.u64.wrap (tg : Int) = (tg : Int) := by rw [IntKind.wrap_u64]; omega
  have HST := Lib.hid hst
  have hget : ∀ W M' Q X', Jw w0 W base WB M' (r ++ [blockP Q (.cells #[.int .i64 (fr : Int)] 311)]) j B (t : Int) (tg : Int) s L X' → W.cell? ⟨Q, 0, none⟩ = some (.int .i64 (fr : Int)) := fun W M' Q X' hw => by
    have e : ((r ++ [blockP Q (.cells #[.int .i64 (fr : Int)] 311)]).set j (joinP B (t : Int) (tg : Int) s L))[r.length]? = some (blockP Q (.cells #[.int .i64 (fr : Int)] 311)) := by
      rw [List.getElem?_set_ne (by have := h.hj; omega), List.getElem?_append_right (Nat.le_refl _), Nat.sub_self]; rfl
    exact cell_row (hw.pg.ps.ok _ _ (hw.pg.part e)) 0
  have HG := Lib.hid hget
  have HJ := Lib.hid g2.hj
  have hgrow : ∀ W X', X'.tn ≤ M.n + 1 → Pg w0 W base WB (M.acc 2 0 tg) ((r ++ [blockP w.heap.size (.cells #[.int .i64 (fr : Int)] 311)]).set j (joinP B (t : Int) (tg : Int) s L)) X' → Calls Tryz.prog 14 #[X'.ts, .int .i64 (fr : Int), .int .i64 (tg : Int), .int .u64 (M.T : Nat)] W fun e w' => e = .returned (.bool true) ∧ ∃ X', Pg w0 w' base WB (gw (M.acc 2 0 tg) fr tg) ((r ++ [blockP w.heap.size (.cells #[.int .i64 (fr : Int)] 311)]).set j (joinP B (t : Int) (tg : Int) s L)) X' := fun W X' ht hp => Pg.grow (M := M.acc 2 0 tg) hp h1 h2 h3 hm h0 (by show M.n + 1 ≤ _; omega) ht
  have hnow : ∀ W X', Pg w0 W base WB (M.acc 2 0 tg) ((r ++ [blockP w.heap.size (.cells #[.int .i64 (fr : Int)] 311)]).set j (joinP B (t : Int) (tg : Int) s L)) X' → Calls Tryz.prog 28 #[Pw X'.kB] W fun e w' => e = .returned (.int .u64 (M.T : Nat)) ∧ W = w' := fun W X' hp => Pg.now (M := M.acc 2 0 tg) hp
  have HGR := Lib.hid hgrow; have HNOW := Lib.hid hnow
  clear h g1 g2 hst hget hgrow hnow hn hm h0
  obtain ⟨wa, hwa⟩ : ∃ wa, wa = w.alloc (.cells #[.int .i64 (fr : Int)] 311) := ⟨_, rfl⟩
  obtain ⟨Q, hQ⟩ : ∃ Q, Q = w.heap.size := ⟨_, rfl⟩
  rw [← hwa] at hc0 c1 HST
  rw [← hQ] at HST HJ HGR HNOW
  have HW1 := Lib.hid hwa; have HQ := Lib.hid hQ
  clear hwa hQ
  go_enter Tryz.func195, Tryz.ntmps195
  go_upto_region 1 with fail
  rw [← HW1.out, ← HQ.out]
  go_region_law (go_simp; go_at_call 54; refine HST.out.mono ?_; rintro e w2 ⟨rfl, X', hp, htn⟩; have H2 := Lib.hid (Jw.mk hp HJ.out); have HTN := Lib.hid htn; clear hp htn)
  all_goals
    have g3 := H2.out.new (Below.refl _ _).drew
    have k0 := HG.out _ _ _ _ g3
    have k1 := g3.c1
    have k4 := Pg.c1 g3.pg
    have k5 := Pg.c4 g3.pg
    have HN2 := Lib.hid (HNOW.out _ _ g3.pg); have HG2 := Lib.hid (HGR.out _ _ HTN.out g3.pg)
    clear g3
    go_upto_region 2 with fail
    go_region_law (first
      | (go_simp; go_at_call 28; refine HN2.out.mono ?_; rintro e w3 ⟨rfl, rfl⟩)
      | (go_simp; go_at_call 14; refine HG2.out.mono ?_; rintro e w4 ⟨rfl, X2, hp2⟩; have H4 := Lib.hid (Jw.mk hp2 HJ.out); clear hp2))
    all_goals
      go_wp2_with fail
      go_ret
      exact ⟨rfl, _, X2, H4.out⟩
end
end Go.Proofs.YtdodloannlfnlaaGreat.S17
