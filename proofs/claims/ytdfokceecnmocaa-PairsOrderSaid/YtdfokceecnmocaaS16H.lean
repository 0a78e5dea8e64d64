/- A Pair, and an Apart, that run alone. -/
import Derived.Test.YtdfokceecnmocaaS16G
import Derived.LoopTactic
import Derived.Deep.LoopGhost
set_option linter.unusedVariables false
set_option linter.unusedSimpArgs false
namespace Go.Proofs.Ytdfokceecnmocaa.S16
open Go.Proofs.Ytdfokceecnmocaa Go.Proofs.Ytdfokceecnmocaa.S11 Go.Proofs.Ytdfokceecnmocaa.S12 Go.Proofs.Ytdfokceecnmocaa.S13 Go.Proofs.Ytdfokceecnmocaa.S14 Go.Proofs.Ytdfokceecnmocaa.S15
open Go.RowKit

theorem m_pstep (a : Addr) (w : World) : (method 338 56 (.pointer (some a)) "Step").run Try.prog w = .ok (18, .pointer (some a)) w := by kernel_rfl
theorem m_astep (a : Addr) (w : World) : (method 338 65 (.pointer (some a)) "Step").run Try.prog w = .ok (128, .pointer (some a)) w := by kernel_rfl
theorem prM_n (M : Sd) (P : Pr) : (prM M P).n ≤ M.n + 1 ∧ (prM M P).pn ≤ M.pn + 1 ∧ (prM M P).sp = M.sp := by
  unfold prM
  split
  · exact ⟨Nat.le_refl _, Nat.le_succ _, rfl⟩
  · exact stepM_n M P.K1
  · exact ⟨Nat.le_refl _, Nat.le_succ _, rfl⟩
  · exact stepM_n M P.K2
  · have := fstepM_n M P.F; exact ⟨this.1, this.2, fstepM_sp M P.F⟩
  · exact ⟨Nat.le_succ _, Nat.le_succ _, rfl⟩
theorem apM_n (M : Sd) (Q : Ap) : (apM M Q).n ≤ M.n + 1 ∧ (apM M Q).pn ≤ M.pn + 1 ∧ (apM M Q).sp = M.sp := by
  unfold apM
  split
  · have := fstepM_n M Q.F1; exact ⟨this.1, this.2, fstepM_sp M Q.F1⟩
  · have := fstepM_n M Q.F2; exact ⟨this.1, this.2, fstepM_sp M Q.F2⟩
  · exact ⟨Nat.le_succ _, Nat.le_succ _, rfl⟩
/-- Steps, one behind the other. -/
def pit (p : Sd × Pr) : Sd × Pr := (prM p.1 p.2, prE p.1 p.2)
def pitn (p : Sd × Pr) : Nat → Sd × Pr
  | 0 => p
  | n + 1 => pit (pitn p n)
def ait (p : Sd × Ap) : Sd × Ap := (apM p.1 p.2, apE p.1 p.2)
def aitn (p : Sd × Ap) : Nat → Sd × Ap
  | 0 => p
  | n + 1 => ait (aitn p n)
theorem pitn_n (p : Sd × Pr) : ∀ n, (pitn p n).1.n ≤ p.1.n + n ∧ (pitn p n).1.pn ≤ p.1.pn + n ∧ (pitn p n).1.sp = p.1.sp
  | 0 => ⟨Nat.le_refl _, Nat.le_refl _, rfl⟩
  | n + 1 => by
    have h := pitn_n p n
    have g := prM_n (pitn p n).1 (pitn p n).2
    exact ⟨by show (prM _ _).n ≤ _; omega, by show (prM _ _).pn ≤ _; omega, g.2.2.trans h.2.2⟩
theorem aitn_n (p : Sd × Ap) : ∀ n, (aitn p n).1.n ≤ p.1.n + n ∧ (aitn p n).1.pn ≤ p.1.pn + n ∧ (aitn p n).1.sp = p.1.sp
  | 0 => ⟨Nat.le_refl _, Nat.le_refl _, rfl⟩
  | n + 1 => by
    have h := aitn_n p n
    have g := apM_n (aitn p n).1 (aitn p n).2
    exact ⟨by show (apM _ _).n ≤ _; omega, by show (apM _ _).pn ≤ _; omega, g.2.2.trans h.2.2⟩
theorem set4 {r : List Part} {u v : Nat} {a b c d : Part} (h : u ≠ v) : (((r.set u a).set v b).set u c).set v d = (r.set u c).set v d := by
  rw [List.set_comm b c (Ne.symm h), List.set_set, List.set_set]
section
variable {w0 w w' : World} {base WB : Nat} {M : Sd} {r : List Part} {j u v B : Nat} {X : Wm} {P : Pr}
set_option maxRecDepth 100000 in
set_option maxHeartbeats 4000000 in
/-- One that runs alone. -/
theorem run_p (h : PairAt w0 w base WB M r j u v P B X) (ok : PrOk P) (ms : 0 ≤ M.sp ∧ M.sp ≤ 16) (n most : Nat) (hn0 : 0 < n) (hnm : n ≤ most) (hm : most ≤ 100) (hMn : M.n ≤ 900000000) (hMp : M.pn ≤ 900000000)
    (hpos : ∀ i, i < n → (pitn (M, P) i).2.ln ≠ 0) (hend : (pitn (M, P) n).2.ln = 0) :
    Calls Try.prog 9 #[Pw WB, .iface 56 (Pw B), .int .i64 (most : Int)] w fun e w' => e = .returned (.int .i64 (n : Int)) ∧ ∃ q1 q2 X', PairAt w0 w' base WB (pitn (M, P) n).1 ((r.set u q1).set v q2) j u v (pitn (M, P) n).2 B X' := by
  have hm1 := m_pstep ⟨B, 0, none⟩
  have huv := h.uv
  have H := Lib.hid (And.intro h ok); have HP := Lib.hid (And.intro hpos hend); have HB := Lib.hid (And.intro hn0 (And.intro hnm (And.intro hm (And.intro hMn (And.intro hMp ms))))); have HUV := Lib.hid huv
  clear h ok hpos hend hn0 hnm hm hMn hMp ms huv
  go_enter Try.func9, Try.ntmps9
  go_wp2_with fail
  go_loopg [7] n (fun q s7 wx => ∃ i : Nat, i < n ∧ q = n - i ∧ s7 = .int .i64 ((i + 1 : Nat) : Int) ∧ PrOk (pitn (M, P) i).2 ∧ ∃ q1 q2 X', PairAt w0 wx base WB (pitn (M, P) i).1 ((r.set u q1).set v q2) j u v (pitn (M, P) i).2 B X')
  case atStart =>
    obtain ⟨q1, hq1⟩ := same_at H.out.1.hu
    obtain ⟨q2, hq2⟩ := same_at H.out.1.hv
    refine ⟨0, HB.out.1, by omega, rfl, H.out.2, q1, q2, X, ?_⟩
    rw [hq1, hq2]; exact H.out.1
  case round =>
    obtain ⟨i, hi, rfl, rfl, hok, q1, q2, X2, hw⟩ := hrel
    have hb := pitn_n (M, P) i
    have hsp : 0 ≤ (pitn (M, P) i).1.sp ∧ (pitn (M, P) i).1.sp ≤ 16 := by rw [hb.2.2]; exact HB.out.2.2.2.2.2
    have hst := pstep_any hw hok hsp (by have := HB.out; have h1 : (M, P).1.n = M.n := rfl; omega) (by have := HB.out; have h1 : (M, P).1.pn = M.pn := rfl; omega) (HP.out.1 i hi)
    have hok2 := hok.step hsp hw.look hw.lk
    have hle : ((i + 1 : Nat) : Int) ≤ (most : Int) := by have := HB.out; omega
    have d1 : decide (((i + 1 : Nat) : Int) ≤ (most : Int)) = true := decide_eq_true hle
    have hfin : ∀ W, PStep w0 W base WB (pitn (M, P) i).1 ((r.set u q1).set v q2) j u v (pitn (M, P) i).2 B → ∃ q1 q2 X', PairAt w0 W base WB (pitn (M, P) (i + 1)).1 ((r.set u q1).set v q2) j u v (pitn (M, P) (i + 1)).2 B X' := fun W ⟨q3, q4, X3, h3⟩ => by
      rw [set4 HUV.out] at h3
      exact ⟨q3, q4, X3, h3⟩
    have HF := Lib.hid hfin
    have HOK2 := Lib.hid hok2; have HI := Lib.hid hi
    by_cases he : i + 1 = n
    · have e0 : (prE (pitn (M, P) i).1 (pitn (M, P) i).2).ln = 0 := by
        have := HP.out.2
        rw [← he] at this
        exact this
      rw [decide_eq_true e0] at hst
      have HST2 := Lib.hid hst; have HE := Lib.hid he
      clear hst hw hok hok2 hb e0 he hi hsp hfin
      go_wp2_with (go_at_call 18; refine HST2.out.mono ?_; rintro e w6 ⟨rfl, hs⟩)
      go_ret
      refine ⟨by rw [← HE.out]; simp, ?_⟩
      have := HF.out _ hs
      rw [HE.out] at this
      exact this
    · have e0 : ¬ (prE (pitn (M, P) i).1 (pitn (M, P) i).2).ln = 0 := HP.out.1 (i + 1) (by have := HI.out; omega)
      rw [decide_eq_false e0] at hst
      have HST2 := Lib.hid hst; have HE := Lib.hid he
      have hm9 : i + 1 ≤ 100 := by have := HB.out; omega
      clear hst hw hok hok2 hb e0 he hi hsp hfin
      go_wp2_with (go_at_call 18; refine HST2.out.mono ?_; rintro e w6 ⟨rfl, hs⟩)
      go_roundg (n - (i + 1))
      case measure => have := HI.out; omega
      case rel => exact ⟨i + 1, by have := HI.out; have := HE.out; omega, rfl, by go_num, HOK2.out, HF.out _ hs⟩
end
section
variable {w0 w w' : World} {base WB : Nat} {M : Sd} {r : List Part} {j u v B : Nat} {X : Wm} {P : Ap}
set_option maxRecDepth 100000 in
set_option maxHeartbeats 4000000 in
/-- One that runs alone. -/
theorem run_a (h : ApAt w0 w base WB M r j u v P B X) (ok : ApOk P) (ms : 0 ≤ M.sp ∧ M.sp ≤ 16) (n most : Nat) (hn0 : 0 < n) (hnm : n ≤ most) (hm : most ≤ 100) (hMn : M.n ≤ 900000000) (hMp : M.pn ≤ 900000000)
    (hpos : ∀ i, i < n → (aitn (M, P) i).2.ln ≠ 0) (hend : (aitn (M, P) n).2.ln = 0) :
    Calls Try.prog 9 #[Pw WB, .iface 65 (Pw B), .int .i64 (most : Int)] w fun e w' => e = .returned (.int .i64 (n : Int)) ∧ ∃ q1 q2 X', ApAt w0 w' base WB (aitn (M, P) n).1 ((r.set u q1).set v q2) j u v (aitn (M, P) n).2 B X' := by
  have hm1 := m_astep ⟨B, 0, none⟩
  have huv := h.uv
  have H := Lib.hid (And.intro h ok); have HP := Lib.hid (And.intro hpos hend); have HB := Lib.hid (And.intro hn0 (And.intro hnm (And.intro hm (And.intro hMn (And.intro hMp ms))))); have HUV := Lib.hid huv
  clear h ok hpos hend hn0 hnm hm hMn hMp ms huv
  go_enter Try.func9, Try.ntmps9
  go_wp2_with fail
  go_loopg [7] n (fun q s7 wx => ∃ i : Nat, i < n ∧ q = n - i ∧ s7 = .int .i64 ((i + 1 : Nat) : Int) ∧ ApOk (aitn (M, P) i).2 ∧ ∃ q1 q2 X', ApAt w0 wx base WB (aitn (M, P) i).1 ((r.set u q1).set v q2) j u v (aitn (M, P) i).2 B X')
  case atStart =>
    obtain ⟨q1, hq1⟩ := same_at H.out.1.hu
    obtain ⟨q2, hq2⟩ := same_at H.out.1.hv
    refine ⟨0, HB.out.1, by omega, rfl, H.out.2, q1, q2, X, ?_⟩
    rw [hq1, hq2]; exact H.out.1
  case round =>
    obtain ⟨i, hi, rfl, rfl, hok, q1, q2, X2, hw⟩ := hrel
    have hb := aitn_n (M, P) i
    have hsp : 0 ≤ (aitn (M, P) i).1.sp ∧ (aitn (M, P) i).1.sp ≤ 16 := by rw [hb.2.2]; exact HB.out.2.2.2.2.2
    have hst := astep_any hw hok (by have := HB.out; have h1 : (M, P).1.n = M.n := rfl; omega) (by have := HB.out; have h1 : (M, P).1.pn = M.pn := rfl; omega) (HP.out.1 i hi)
    have hok2 := hok.step hw.look hw.lk
    have hle : ((i + 1 : Nat) : Int) ≤ (most : Int) := by have := HB.out; omega
    have d1 : decide (((i + 1 : Nat) : Int) ≤ (most : Int)) = true := decide_eq_true hle
    have hfin : ∀ W, AStep w0 W base WB (aitn (M, P) i).1 ((r.set u q1).set v q2) j u v (aitn (M, P) i).2 B → ∃ q1 q2 X', ApAt w0 W base WB (aitn (M, P) (i + 1)).1 ((r.set u q1).set v q2) j u v (aitn (M, P) (i + 1)).2 B X' := fun W ⟨q3, q4, X3, h3⟩ => by
      rw [set4 HUV.out] at h3
      exact ⟨q3, q4, X3, h3⟩
    have HF := Lib.hid hfin
    have HOK2 := Lib.hid hok2; have HI := Lib.hid hi
    by_cases he : i + 1 = n
    · have e0 : (apE (aitn (M, P) i).1 (aitn (M, P) i).2).ln = 0 := by
        have := HP.out.2
        rw [← he] at this
        exact this
      rw [decide_eq_true e0] at hst
      have HST2 := Lib.hid hst; have HE := Lib.hid he
      clear hst hw hok hok2 hb e0 he hi hsp hfin
      go_wp2_with (go_at_call 128; refine HST2.out.mono ?_; rintro e w6 ⟨rfl, hs⟩)
      go_ret
      refine ⟨by rw [← HE.out]; simp, ?_⟩
      have := HF.out _ hs
      rw [HE.out] at this
      exact this
    · have e0 : ¬ (apE (aitn (M, P) i).1 (aitn (M, P) i).2).ln = 0 := HP.out.1 (i + 1) (by have := HI.out; omega)
      rw [decide_eq_false e0] at hst
      have HST2 := Lib.hid hst; have HE := Lib.hid he
      have hm9 : i + 1 ≤ 100 := by have := HB.out; omega
      clear hst hw hok hok2 hb e0 he hi hsp hfin
      go_wp2_with (go_at_call 128; refine HST2.out.mono ?_; rintro e w6 ⟨rfl, hs⟩)
      go_roundg (n - (i + 1))
      case measure => have := HI.out; omega
      case rel => exact ⟨i + 1, by have := HI.out; have := HE.out; omega, rfl, by go_num, HOK2.out, HF.out _ hs⟩
end
section
variable {w0 w w' : World} {base WB : Nat} {M : Sd} {r : List Part} {j u v B : Nat} {l : Rows} {X : Wm} {P : Pr} {Q : Ap}
/-- A step that leaves it not over. -/
theorem pstep_to (h : PairAt w0 w base WB M r j u v P B X) (ok : PrOk P) (ms : 0 ≤ M.sp ∧ M.sp ≤ 16) (hn : M.n ≤ 1000000000) (hp : M.pn ≤ 1000000000) (h0 : P.ln ≠ 0) {M' : Sd} {P' : Pr} (e : pit (M, P) = (M', P')) (h1 : P'.ln ≠ 0) :
    Calls Try.prog 18 #[Pw B, Pw WB] w fun e w' => e = .returned (.bool false) ∧ ∃ q1 q2 X', PairAt w0 w' base WB M' ((r.set u q1).set v q2) j u v P' B X' := by
  have e1 : prM M P = M' := congrArg Prod.fst e
  have e2 : prE M P = P' := congrArg Prod.snd e
  refine (pstep_any h ok ms hn hp h0).mono ?_
  rintro e w' ⟨rfl, q1, q2, X', h'⟩
  rw [e2, decide_eq_false h1]
  rw [e1, e2] at h'
  exact ⟨rfl, q1, q2, X', h'⟩
/-- The world, and what stands beside. -/
theorem PairAt.pg (h : PairAt w0 w base WB M r j u v P B X) : ∃ q, Pg w0 w base WB M (r.set j q) X := by
  obtain ⟨l, hw, _⟩ := h.at'
  exact ⟨_, hw.pg⟩
theorem ApAt.pg (h : ApAt w0 w base WB M r j u v Q B X) : ∃ q, Pg w0 w base WB M (r.set j q) X := by
  obtain ⟨l, hw, _⟩ := h.at'
  exact ⟨_, hw.pg⟩
/-- What was got, of a Pair that is over. -/
theorem PairAt.got (h : PairAt w0 w base WB M r j u v P B X) (h0 : P.ln = 0) : Calls Try.prog 21 #[Pw B] w fun e w' => e = .returned (.tuple #[plV (bitsN P.tw : Int) (bktN P.a P.tw : Int), plV (bitsN P.tw : Int) (bktN P.b P.tw : Int)]) ∧ Below w.heap.size w w' := by
  obtain ⟨l, hw, hs⟩ := h.at'
  obtain ⟨ln, t, a, b, tw, K1, K2, F⟩ := P
  have e : ln = 0 := h0
  subst e
  obtain ⟨A, c, hl⟩ := hs
  exact got_yes 0 hw hl
end
set_option maxRecDepth 100000 in
theorem last_any (w : World) (B : Nat) (M : Option Nat) (L : S2.LL) (n k0 a0 was is : Nat) (h : S2.CellsAt w B M L n k0 a0 was is) :
    Calls Try.prog 19 #[.pointer (some ⟨B, 0, none⟩)] w fun e w' => e = .returned (.agg #[.int .u8 k0, .int .u32 a0, .int .u64 was, .int .u64 is]) ∧ Below w.heap.size w w' := by
  have d2 : w.cell? ⟨B, 2, none⟩ = some (.int .u8 k0) := S2.cell_row h.row 2
  have d3 : w.cell? ⟨B, 3, none⟩ = some (.int .u32 a0) := S2.cell_row h.row 3
  have d4 : w.cell? ⟨B, 4, none⟩ = some (.int .u64 was) := S2.cell_row h.row 4
  have d5 : w.cell? ⟨B, 5, none⟩ = some (.int .u64 is) := S2.cell_row h.row 5
  have hlt := h.lt B (.inl rfl)
  clear h
  go_enter Try.func19, Try.ntmps19
  go_wp2
  refine bodyPost_ret (v := .agg #[.int .u8 k0, .int .u32 a0, .int .u64 was, .int .u64 is]) (by simp [results, Try.results19, go_sem]) rfl ⟨rfl, ?_⟩
  exact (Below.refl _ _).alloc (Nat.le_refl _) _
theorem pg_last_acc {w0 w : World} {base WB : Nat} {M : Sd} {r : List Part} {X : Wm} (h : Pg w0 w base WB M r X) : Calls Try.prog 19 #[Pw X.cB] w fun e w' => e = .returned (.agg #[.int .u8 (M.k : Int), .int .u32 (M.a : Int), .int .u64 (M.was : Int), .int .u64 (M.is : Int)]) ∧ Below w.heap.size w w' := by
  have := last_any w X.cB X.cM X.L X.n X.k X.a X.was X.is h.pw.cells
  rw [show X.k = M.k from congrArg Sd.k h.xm, show X.a = M.a from congrArg Sd.a h.xm, show X.was = M.was from congrArg Sd.was h.xm, show X.is = M.is from congrArg Sd.is h.xm] at this
  exact this
/-- A Free, of a word that somebody has, for which nobody waits. -/
theorem free1 {M : Sd} {a : Nat} (ha : a < 1024) (h1 : S2.look M.L a = 1) : fstepM M (fr0 a) = M.acc 5 a 0 ∧ (fstepK M (fr0 a)).ln = 0 := ⟨(fr1 ha h1).2, (fr1 ha h1).1⟩
/-- How a world stands behind a Pair that got two locks alone. -/
structure Took2 (M M' : Sd) (a b : Nat) : Prop where
  at_a : S2.look M'.L a = 1
  at_b : S2.look M'.L b = 1
  n : M'.n ≤ M.n + 9
  pn : M'.pn ≤ M.pn + 9
  sp : M'.sp = M.sp
theorem pr_start {M : Sd} {t a b x m1 m2 : Nat} (hx : S2.look M.L 0 = x) (h1 : m1 = lokN (loK a b x) x) (h2 : m2 = lokN (hiK a b x) x) : pit (M, pr0 t a b) = (M.acc 1 0 x, ⟨2, t, a, b, x, lk1 t m1, lk1 t m2, fr0 0⟩) := by
  show (M.acc 1 0 (S2.look M.L 0), (⟨2, t, a, b, S2.look M.L 0, lk1 t (lokN (loK a b (S2.look M.L 0)) (S2.look M.L 0)), lk1 t (lokN (hiK a b (S2.look M.L 0)) (S2.look M.L 0)), fr0 0⟩ : Pr)) = _
  rw [hx, ← h1, ← h2]
/-- A Pair alone: its first two steps, and what follows. -/
theorem pr_alone {M : Sd} {t a b x m1 m2 : Nat} (hx : S2.look M.L 0 = x) (h1 : m1 = lokN (loK a b x) x) (h2 : m2 = lokN (hiK a b x) x) (f1 : S2.look M.L m1 = 0) (f2 : S2.look M.L m2 = 0) :
    ∃ (M1 M2 : Sd) (P1 P2 : Pr), pit (M, pr0 t a b) = (M1, P1) ∧ pit (M1, P1) = (M2, P2) ∧ P1.ln = 2 ∧ P2.ln = 3 ∧ M2.a = m1 ∧ (M1.n ≤ M.n + 2 ∧ M1.pn ≤ M.pn + 2 ∧ M1.sp = M.sp) ∧ (M2.n ≤ M.n + 2 ∧ M2.pn ≤ M.pn + 2 ∧ M2.sp = M.sp) ∧
      (bktN a x ≠ bktN b x → m1 ≠ m2 → (∀ i, i < 2 → (pitn (M2, P2) i).2.ln ≠ 0) ∧ (pitn (M2, P2) 2).2.ln = 0 ∧ (pitn (M2, P2) 2).2.tw = x ∧ (pitn (M2, P2) 2).2.a = a ∧ (pitn (M2, P2) 2).2.b = b ∧ Took2 M (pitn (M2, P2) 2).1 m1 m2) ∧
      (bktN a x = bktN b x → (∀ i, i < 1 → (pitn (M2, P2) i).2.ln ≠ 0) ∧ (pitn (M2, P2) 1).2.ln = 0 ∧ (pitn (M2, P2) 1).2.tw = x ∧ (pitn (M2, P2) 1).2.a = a ∧ (pitn (M2, P2) 1).2.b = b ∧ Took2 M (pitn (M2, P2) 1).1 m1 m1) := by
  have i1 := lok_in (loK a b x) x
  have i2 := lok_in (hiK a b x) x
  rw [← h1] at i1
  rw [← h2] at i2
  obtain ⟨M1, hM1⟩ : ∃ M1, M1 = M.acc 1 0 x := ⟨_, rfl⟩
  have l1 : ∀ b, S2.look M1.L b = S2.look M.L b := by rw [hM1, ← hx]; exact acc_load (by omega)
  obtain ⟨s1, s2⟩ := lock1 (M := M1) (t := t) (a := m1) (by omega) (by rw [l1]; exact f1)
  obtain ⟨M2, hM2⟩ : ∃ M2, M2 = M1.acc 3 m1 1 := ⟨_, rfl⟩
  have e1 := pr_start (t := t) (m1 := m1) (m2 := m2) hx h1 h2
  rw [← hM1] at e1
  have e2 : pit (M1, ⟨2, t, a, b, x, lk1 t m1, lk1 t m2, fr0 0⟩) = (M2, ⟨3, t, a, b, x, stepK M1 (lk1 t m1), lk1 t m2, fr0 0⟩) := by
    show (stepM M1 (lk1 t m1), (⟨if (stepK M1 (lk1 t m1)).ln = 0 then 3 else 2, t, a, b, x, stepK M1 (lk1 t m1), lk1 t m2, fr0 0⟩ : Pr)) = _
    rw [s1, if_pos s2, hM2]
  have l2a : S2.look M2.L m1 = 1 := by rw [hM2]; exact acc_same (by omega)
  have l2 : ∀ b, b ≠ m1 → S2.look M2.L b = S2.look M.L b := fun b hb => by rw [hM2, acc_other hb]; exact l1 b
  obtain ⟨M3, hM3⟩ : ∃ M3, M3 = M2.acc 1 0 (S2.look M2.L 0) := ⟨_, rfl⟩
  have l3 : ∀ b, S2.look M3.L b = S2.look M2.L b := by rw [hM3]; exact acc_load (by omega)
  have e3 : pit (M2, ⟨3, t, a, b, x, stepK M1 (lk1 t m1), lk1 t m2, fr0 0⟩) = (M3, ⟨if bktN a x = bktN b x then 0 else 4, t, a, b, x, stepK M1 (lk1 t m1), lk1 t m2, fr0 0⟩) := by
    show (M2.acc 1 0 (S2.look M2.L 0), (if S2.look M2.L 0 = x then (⟨if bktN a x = bktN b x then 0 else 4, t, a, b, x, stepK M1 (lk1 t m1), lk1 t m2, fr0 0⟩ : Pr) else _)) = _
    rw [if_pos (by rw [l2 0 (by omega)]; exact hx), hM3]
  refine ⟨M1, M2, _, _, e1, e2, rfl, rfl, by rw [hM2]; rfl, ⟨by rw [hM1]; show M.n + 1 ≤ _; omega, by rw [hM1]; show M.pn ≤ _; omega, by rw [hM1]; rfl⟩, ⟨by rw [hM2, hM1]; show M.n + 1 + 1 ≤ _; omega, by rw [hM2, hM1]; show M.pn ≤ _; omega, by rw [hM2, hM1]; rfl⟩, fun hne hm => ?_, fun he => ?_⟩
  · rw [if_neg hne] at e3
    have hn1 : pitn (M2, (⟨3, t, a, b, x, stepK M1 (lk1 t m1), lk1 t m2, fr0 0⟩ : Pr)) 1 = _ := e3
    obtain ⟨s3, s4⟩ := lock1 (M := M3) (t := t) (a := m2) (by omega) (by rw [l3, l2 _ (Ne.symm hm)]; exact f2)
    obtain ⟨M4, hM4⟩ : ∃ M4, M4 = M3.acc 3 m2 1 := ⟨_, rfl⟩
    have e4 : pit (M3, ⟨4, t, a, b, x, stepK M1 (lk1 t m1), lk1 t m2, fr0 0⟩) = (M4, ⟨0, t, a, b, x, stepK M1 (lk1 t m1), stepK M3 (lk1 t m2), fr0 0⟩) := by
      show (stepM M3 (lk1 t m2), (⟨if (stepK M3 (lk1 t m2)).ln = 0 then 0 else 4, t, a, b, x, stepK M1 (lk1 t m1), stepK M3 (lk1 t m2), fr0 0⟩ : Pr)) = _
      rw [s3, if_pos s4, hM4]
    have hn2 : pitn (M2, (⟨3, t, a, b, x, stepK M1 (lk1 t m1), lk1 t m2, fr0 0⟩ : Pr)) 2 = (M4, ⟨0, t, a, b, x, stepK M1 (lk1 t m1), stepK M3 (lk1 t m2), fr0 0⟩) := by
      show pit (pitn _ 1) = _
      rw [hn1, e4]
    refine ⟨fun i hi => ?_, by rw [hn2], by rw [hn2], by rw [hn2], by rw [hn2], ?_⟩
    · rcases (show i = 0 ∨ i = 1 by omega) with rfl | rfl
      · show 3 ≠ 0; omega
      · rw [hn1]; show 4 ≠ 0; omega
    · rw [hn2]
      have l4 : S2.look M4.L m2 = 1 := by rw [hM4]; exact acc_same (by omega)
      have l4a : S2.look M4.L m1 = 1 := by rw [hM4, acc_other hm, l3]; exact l2a
      refine ⟨l4a, l4, ?_, ?_, ?_⟩
      · show M4.n ≤ _; rw [hM4, hM3, hM2, hM1]; show M.n + 1 + 1 + 1 + 1 ≤ _; omega
      · show M4.pn ≤ _; rw [hM4, hM3, hM2, hM1]; show M.pn ≤ _; omega
      · show M4.sp = _; rw [hM4, hM3, hM2, hM1]; rfl
  · rw [if_pos he] at e3
    have hn1 : pitn (M2, (⟨3, t, a, b, x, stepK M1 (lk1 t m1), lk1 t m2, fr0 0⟩ : Pr)) 1 = _ := e3
    refine ⟨fun i hi => ?_, by rw [hn1], by rw [hn1], by rw [hn1], by rw [hn1], ?_⟩
    · obtain rfl : i = 0 := by omega
      show 3 ≠ 0; omega
    · rw [hn1]
      have l4a : S2.look M3.L m1 = 1 := by rw [l3]; exact l2a
      refine ⟨l4a, l4a, ?_, ?_, ?_⟩
      · show M3.n ≤ _; rw [hM3, hM2, hM1]; show M.n + 1 + 1 + 1 ≤ _; omega
      · show M3.pn ≤ _; rw [hM3, hM2, hM1]; show M.pn ≤ _; omega
      · show M3.sp = _; rw [hM3, hM2, hM1]; rfl
theorem ait_one (M : Sd) (two : Bool) (F1 F2 : Fr) : ait (M, ⟨1, two, F1, F2⟩) = (fstepM M F1, ⟨if (fstepK M F1).ln = 0 then (if two = true then 2 else 0) else 1, two, fstepK M F1, F2⟩) := rfl
theorem ait_two (M : Sd) (two : Bool) (F1 F2 : Fr) : ait (M, ⟨2, two, F1, F2⟩) = (fstepM M F2, ⟨if (fstepK M F2).ln = 0 then 0 else 2, two, F1, fstepK M F2⟩) := rfl
theorem aitn_0 (p : Sd × Ap) : aitn p 0 = p := rfl
theorem aitn_1 (p : Sd × Ap) : aitn p 1 = ait p := rfl
theorem aitn_2 (p : Sd × Ap) : aitn p 2 = ait (aitn p 1) := rfl
/-- An Apart alone, of two locks. -/
theorem ap_two {M : Sd} {a b : Nat} (ha : a < 1024) (hb : b < 1024) (hab : a ≠ b) (h1 : S2.look M.L a = 1) (h2 : S2.look M.L b = 1) :
    (∀ i, i < 2 → (aitn (M, ap0 true a b) i).2.ln ≠ 0) ∧ (aitn (M, ap0 true a b) 2).2.ln = 0 ∧ S2.look (aitn (M, ap0 true a b) 2).1.L a = 0 ∧ S2.look (aitn (M, ap0 true a b) 2).1.L b = 0 := by
  obtain ⟨s1, s2⟩ := free1 ha h1
  have l2 : S2.look (M.acc 5 a 0).L b = 1 := by rw [acc_other (Ne.symm hab)]; exact h2
  obtain ⟨s3, s4⟩ := free1 (M := M.acc 5 a 0) hb l2
  unfold ap0
  generalize fr0 a = F1 at *
  generalize fr0 b = F2 at *
  have e1 : aitn (M, ⟨1, true, F1, F2⟩) 1 = (M.acc 5 a 0, ⟨2, true, fstepK M F1, F2⟩) := by
    rw [aitn_1, ait_one, s1, if_pos s2, if_pos rfl]
  have e2 : aitn (M, ⟨1, true, F1, F2⟩) 2 = ((M.acc 5 a 0).acc 5 b 0, ⟨0, true, fstepK M F1, fstepK (M.acc 5 a 0) F2⟩) := by
    rw [aitn_2, e1, ait_two, s3, if_pos s4]
  rw [e2]
  refine ⟨fun i hi => ?_, rfl, ?_, ?_⟩
  · rcases (show i = 0 ∨ i = 1 by omega) with rfl | rfl
    · rw [aitn_0]; exact Nat.one_ne_zero
    · rw [e1]; exact Nat.succ_ne_zero 1
  · show S2.look ((M.acc 5 a 0).acc 5 b 0).L a = 0; rw [acc_other hab]; exact acc_same ha
  · show S2.look ((M.acc 5 a 0).acc 5 b 0).L b = 0; exact acc_same hb
theorem ap_one {M : Sd} {a b : Nat} (ha : a < 1024) (h1 : S2.look M.L a = 1) :
    (∀ i, i < 1 → (aitn (M, ap0 false a b) i).2.ln ≠ 0) ∧ (aitn (M, ap0 false a b) 1).2.ln = 0 ∧ S2.look (aitn (M, ap0 false a b) 1).1.L a = 0 := by
  obtain ⟨s1, s2⟩ := free1 ha h1
  unfold ap0
  generalize fr0 a = F1 at *
  generalize fr0 b = F2 at *
  have e1 : aitn (M, ⟨1, false, F1, F2⟩) 1 = (M.acc 5 a 0, ⟨0, false, fstepK M F1, F2⟩) := by
    rw [aitn_1, ait_one, s1, if_pos s2, if_neg Bool.false_ne_true]
  rw [e1]
  refine ⟨fun i hi => ?_, rfl, ?_⟩
  · obtain rfl : i = 0 := by omega
    rw [aitn_0]; exact Nat.one_ne_zero
  · exact acc_same ha
end Go.Proofs.Ytdfokceecnmocaa.S16
