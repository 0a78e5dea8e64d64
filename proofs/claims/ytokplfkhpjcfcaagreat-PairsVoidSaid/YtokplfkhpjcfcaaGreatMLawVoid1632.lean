/- Texts of this seat, one behind the other. -/
import Derived.Test.YtokplfkhpjcfcaaGreatMLawVoid1631
import Derived.LoopTactic
import Derived.Deep.LoopGhost
set_option linter.unusedVariables false
set_option linter.unusedSimpArgs false
set_option linter.unusedVariables false
set_option linter.unusedSimpArgs false
namespace Go.Proofs.YtokplfkhpjcfcaaGreat.S16
set_option maxRecDepth 100000
set_option maxHeartbeats 16000000
open Go.Proofs.YtokplfkhpjcfcaaGreat Go.Proofs.YtokplfkhpjcfcaaGreat.S11 Go.Proofs.YtokplfkhpjcfcaaGreat.S12 Go.Proofs.YtokplfkhpjcfcaaGreat.S13 Go.Proofs.YtokplfkhpjcfcaaGreat.S14 Go.Proofs.YtokplfkhpjcfcaaGreat.S15
open Go.RowKit
theorem m_pstep (a : Addr) (w : World) : (method 468 80 (.pointer (some a)) "Step").run Tryz.prog w = .ok (26, .pointer (some a)) w := by kernel_rfl
theorem m_astep (a : Addr) (w : World) : (method 468 79 (.pointer (some a)) "Step").run Tryz.prog w = .ok (29, .pointer (some a)) w := by kernel_rfl
theorem prM_n (M : Sd) (P : Pr) : (prM M P).n ≤ M.n + 1 ∧ (prM M P).pn ≤ M.pn + 1 ∧ (prM M P).sp = M.sp := by
  unfold prM
  split
  · exact ⟨Nat.le_refl _, Nat.le_succ _, rfl⟩
  · exact stepM_n M P.K1
  · exact ⟨Nat.le_refl _, Nat.le_succ _, rfl⟩
  · exact stepM_n M P.K2
  · have := fstepM_n M P.F; exact ⟨this.1, this.2, fstepM_sp M P.F⟩
  · exact ⟨Nat.le_succ _, Nat.le_succ _, rfl⟩
theorem apM_n (M : Sd) (Q : Ap) : (apM M Q).n ≤ M.n + 1 ∧ (apM M Q).pn ≤ M.pn + 1 ∧ (apM M Q).sp = M.sp := by
  unfold apM
  split
  · have := fstepM_n M Q.F1; exact ⟨this.1, this.2, fstepM_sp M Q.F1⟩
  · have := fstepM_n M Q.F2; exact ⟨this.1, this.2, fstepM_sp M Q.F2⟩
  · exact ⟨Nat.le_succ _, Nat.le_succ _, rfl⟩
def pit (p : Sd × Pr) : Sd × Pr := (prM p.1 p.2, prE p.1 p.2)
def pitn (p : Sd × Pr) : Nat → Sd × Pr
  | 0 => p
  | n + 1 => pit (pitn p n)
def ait (p : Sd × Ap) : Sd × Ap := (apM p.1 p.2, apE p.1 p.2)
def aitn (p : Sd × Ap) : Nat → Sd × Ap
  | 0 => p
  | n + 1 => ait (aitn p n)
theorem pitn_n (p : Sd × Pr) : ∀ n, (pitn p n).1.n ≤ p.1.n + n ∧ (pitn p n).1.pn ≤ p.1.pn + n ∧ (pitn p n).1.sp = p.1.sp
  | 0 => ⟨Nat.le_refl _, Nat.le_refl _, rfl⟩
  | n + 1 => by
    have h := pitn_n p n
    have g := prM_n (pitn p n).1 (pitn p n).2
    exact ⟨by show (prM _ _).n ≤ _; omega, by show (prM _ _).pn ≤ _; omega, g.2.2.trans h.2.2⟩
theorem aitn_n (p : Sd × Ap) : ∀ n, (aitn p n).1.n ≤ p.1.n + n ∧ (aitn p n).1.pn ≤ p.1.pn + n ∧ (aitn p n).1.sp = p.1.sp
  | 0 => ⟨Nat.le_refl _, Nat.le_refl _, rfl⟩
  | n + 1 => by
    have h := aitn_n p n
    have g := apM_n (aitn p n).1 (aitn p n).2
    exact ⟨by show (apM _ _).n ≤ _; omega, by show (apM _ _).pn ≤ _; omega, g.2.2.trans h.2.2⟩
theorem set4 {r : List Part} {u v : Nat} {a b c d : Part} (h : u ≠ v) : (((r.set u a).set v b).set u c).set v d = (r.set u c).set v d := by
  rw [List.set_comm b c (Ne.symm h), List.set_set, List.set_set]
section
variable {w0 w w' : World} {base WB : Nat} {M : Sd} {r : List Part} {j u v B : Nat} {X : Wm} {P : Pr}
theorem run_p (h : PairAt w0 w base WB M r j u v P B X) (ok : PrOk P) (ms : 0 ≤ M.sp ∧ M.sp ≤ 16) (n most : Nat) (hn0 : 0 < n) (hnm : n ≤ most) (hm : most ≤ 100) (hMn : M.n ≤ 900000000) (hMp : M.pn ≤ 900000000)
    (hpos : ∀ i, i < n → (pitn (M, P) i).2.ln ≠ 0) (hend : (pitn (M, P) n).2.ln = 0) :
    Calls Tryz.prog 63 #[Pw WB, .iface 80 (Pw B), .int .i64 (most : Int)] w fun e w' => e = .returned (.int .i64 (n : Int)) ∧ ∃ q1 q2 X', PairAt w0 w' base WB (pitn (M, P) n).1 ((r.set u q1).set v q2) j u v (pitn (M, P) n).2 B X' := by
  have hm1 := m_pstep ⟨B, 0, none⟩
  have huv := h.uv
  have H := Lib.hid (And.intro h ok); have HP := Lib.hid (And.intro hpos hend); have HB := Lib.hid (And.intro hn0 (And.intro hnm (And.intro hm (And.intro hMn (And.intro hMp ms))))); have HUV := Lib.hid huv
  clear h ok hpos hend hn0 hnm hm hMn hMp ms huv
  go_enter Tryz.func63, Tryz.ntmps63
  go_wp2_with fail
  go_loopg [7] n (fun q s7 wx => ∃ i : Nat, i < n ∧ q = n - i ∧ s7 = .int .i64 ((i + 1 : Nat) : Int) ∧ PrOk (pitn (M, P) i).2 ∧ ∃ q1 q2 X', PairAt w0 wx base WB (pitn (M, P) i).1 ((r.set u q1).set v q2) j u v (pitn (M, P) i).2 B X')
  case atStart =>
    obtain ⟨q1, hq1⟩ := same_at H.out.1.hu
    obtain ⟨q2, hq2⟩ := same_at H.out.1.hv
    refine ⟨0, HB.out.1, by omega, rfl, H.out.2, q1, q2, X, ?_⟩
    rw [hq1, hq2]; exact H.out.1
  case round =>
    obtain ⟨i, hi, rfl, rfl, hok, q1, q2, X2, hw⟩ := hrel
    have hb := pitn_n (M, P) i
    have hsp : 0 ≤ (pitn (M, P) i).1.sp ∧ (pitn (M, P) i).1.sp ≤ 16 := by rw [hb.2.2]; exact HB.out.2.2.2.2.2
    have hst := pstep_any hw hok hsp (by have := HB.out; have h1 : (M, P).1.n = M.n := rfl; omega) (by have := HB.out; have h1 : (M, P).1.pn = M.pn := rfl; omega) (HP.out.1 i hi)
    have hok2 := hok.step hsp hw.look hw.lk
    have hle : ((i + 1 : Nat) : Int) ≤ (most : Int) := by have := HB.out; omega
    have d1 : decide (((i + 1 : Nat) : Int) ≤ (most : Int)) = true := decide_eq_true hle
    have hfin : ∀ W, PStep w0 W base WB (pitn (M, P) i).1 ((r.set u q1).set v q2) j u v (pitn (M, P) i).2 B → ∃ q1 q2 X', PairAt w0 W base WB (pitn (M, P) (i + 1)).1 ((r.set u q1).set v q2) j u v (pitn (M, P) (i + 1)).2 B X' := fun W ⟨q3, q4, X3, h3⟩ => by
      rw [set4 HUV.out] at h3
      exact ⟨q3, q4, X3, h3⟩
    have HF := Lib.hid hfin
    have HOK2 := Lib.hid hok2; have HI := Lib.hid hi
    by_cases he : i + 1 = n
    · have e0 : (prE (pitn (M, P) i).1 (pitn (M, P) i).2).ln = 0 := by
        have := HP.out.2
        rw [← he] at this
        exact this
      rw [decide_eq_true e0] at hst
      have HST2 := Lib.hid hst; have HE := Lib.hid he
      clear hst hw hok hok2 hb e0 he hi hsp hfin
      go_wp2_with (go_at_call 26; refine HST2.out.mono ?_; rintro e w6 ⟨rfl, hs⟩)
      go_ret
      refine ⟨by rw [← HE.out]; simp, ?_⟩
      have := HF.out _ hs
      rw [HE.out] at this
      exact this
    · have e0 : ¬ (prE (pitn (M, P) i).1 (pitn (M, P) i).2).ln = 0 := HP.out.1 (i + 1) (by have := HI.out; omega)
      rw [decide_eq_false e0] at hst
      have HST2 := Lib.hid hst; have HE := Lib.hid he
      have hm9 : i + 1 ≤ 100 := by have := HB.out; omega
      clear hst hw hok hok2 hb e0 he hi hsp hfin
      go_wp2_with (go_at_call 26; refine HST2.out.mono ?_; rintro e w6 ⟨rfl, hs⟩)
      go_roundg (n - (i + 1))
      case measure => have := HI.out; omega
      case rel => exact ⟨i + 1, by have := HI.out; have := HE.out; omega, rfl, by go_num, HOK2.out, HF.out _ hs⟩
end
section
variable {w0 w w' : World} {base WB : Nat} {M : Sd} {r : List Part} {j u v B : Nat} {X : Wm} {P : Ap}
theorem run_a (h : ApAt w0 w base WB M r j u v P B X) (ok : ApOk P) (ms : 0 ≤ M.sp ∧ M.sp ≤ 16) (n most : Nat) (hn0 : 0 < n) (hnm : n ≤ most) (hm : most ≤ 100) (hMn : M.n ≤ 900000000) (hMp : M.pn ≤ 900000000)
    (hpos : ∀ i, i < n → (aitn (M, P) i).2.ln ≠ 0) (hend : (aitn (M, P) n).2.ln = 0) :
    Calls Tryz.prog 63 #[Pw WB, .iface 79 (Pw B), .int .i64 (most : Int)] w fun e w' => e = .returned (.int .i64 (n : Int)) ∧ ∃ q1 q2 X', ApAt w0 w' base WB (aitn (M, P) n).1 ((r.set u q1).set v q2) j u v (aitn (M, P) n).2 B X' := by
  have hm1 := m_astep ⟨B, 0, none⟩
  have huv := h.uv
  have H := Lib.hid (And.intro h ok); have HP := Lib.hid (And.intro hpos hend); have HB := Lib.hid (And.intro hn0 (And.intro hnm (And.intro hm (And.intro hMn (And.intro hMp ms))))); have HUV := Lib.hid huv
  clear h ok hpos hend hn0 hnm hm hMn hMp ms huv
  go_enter Tryz.func63, Tryz.ntmps63
  go_wp2_with fail
  go_loopg [7] n (fun q s7 wx => ∃ i : Nat, i < n ∧ q = n - i ∧ s7 = .int .i64 ((i + 1 : Nat) : Int) ∧ ApOk (aitn (M, P) i).2 ∧ ∃ q1 q2 X', ApAt w0 wx base WB (aitn (M, P) i).1 ((r.set u q1).set v q2) j u v (aitn (M, P) i).2 B X')
  case atStart =>
    obtain ⟨q1, hq1⟩ := same_at H.out.1.hu
    obtain ⟨q2, hq2⟩ := same_at H.out.1.hv
    refine ⟨0, HB.out.1, by omega, rfl, H.out.2, q1, q2, X, ?_⟩
    rw [hq1, hq2]; exact H.out.1
  case round =>
    obtain ⟨i, hi, rfl, rfl, hok, q1, q2, X2, hw⟩ := hrel
    have hb := aitn_n (M, P) i
    have hsp : 0 ≤ (aitn (M, P) i).1.sp ∧ (aitn (M, P) i).1.sp ≤ 16 := by rw [hb.2.2]; exact HB.out.2.2.2.2.2
    have hst := astep_any hw hok (by have := HB.out; have h1 : (M, P).1.n = M.n := rfl; omega) (by have := HB.out; have h1 : (M, P).1.pn = M.pn := rfl; omega) (HP.out.1 i hi)
    have hok2 := hok.step hw.look hw.lk
    have hle : ((i + 1 : Nat) : Int) ≤ (most : Int) := by have := HB.out; omega
    have d1 : decide (((i + 1 : Nat) : Int) ≤ (most : Int)) = true := decide_eq_true hle
    have hfin : ∀ W, AStep w0 W base WB (aitn (M, P) i).1 ((r.set u q1).set v q2) j u v (aitn (M, P) i).2 B → ∃ q1 q2 X', ApAt w0 W base WB (aitn (M, P) (i + 1)).1 ((r.set u q1).set v q2) j u v (aitn (M, P) (i + 1)).2 B X' := fun W ⟨q3, q4, X3, h3⟩ => by
      rw [set4 HUV.out] at h3
      exact ⟨q3, q4, X3, h3⟩
    have HF := Lib.hid hfin
    have HOK2 := Lib.hid hok2; have HI := Lib.hid hi
    by_cases he : i + 1 = n
    · have e0 : (apE (aitn (M, P) i).1 (aitn (M, P) i).2).ln = 0 := by
        have := HP.out.2
        rw [← he] at this
        exact this
      rw [decide_eq_true e0] at hst
      have HST2 := Lib.hid hst; have HE := Lib.hid he
      clear hst hw hok hok2 hb e0 he hi hsp hfin
      go_wp2_with (go_at_call 29; refine HST2.out.mono ?_; rintro e w6 ⟨rfl, hs⟩)
      go_ret
      refine ⟨by rw [← HE.out]; simp, ?_⟩
      have := HF.out _ hs
      rw [HE.out] at this
      exact this
    · have e0 : ¬ (apE (aitn (M, P) i).1 (aitn (M, P) i).2).ln = 0 := HP.out.1 (i + 1) (by have := HI.out; omega)
      rw [decide_eq_false e0] at hst
      have HST2 := Lib.hid hst; have HE := Lib.hid he
      have hm9 : i + 1 ≤ 100 := by have := HB.out; omega
      clear hst hw hok hok2 hb e0 he hi hsp hfin
      go_wp2_with (go_at_call 29; refine HST2.out.mono ?_; rintro e w6 ⟨rfl, hs⟩)
      go_roundg (n - (i + 1))
      case measure => have := HI.out; omega
      case rel => exact ⟨i + 1, by have := HI.out; have := HE.out; omega, rfl, by go_num, HOK2.out, HF.out _ hs⟩
end
section
variable {w0 w w' : World} {base WB : Nat} {M : Sd} {r : List Part} {j u v B : Nat} {l : Rows} {X : Wm} {P : Pr} {Q : Ap}
theorem PairAt.pg (h : PairAt w0 w base WB M r j u v P B X) : ∃ q, Pg w0 w base WB M (r.set j q) X := by
  obtain ⟨l, hw, _⟩ := h.at'
  exact ⟨_, hw.pg⟩
theorem ApAt.pg (h : ApAt w0 w base WB M r j u v Q B X) : ∃ q, Pg w0 w base WB M (r.set j q) X := by
  obtain ⟨l, hw, _⟩ := h.at'
  exact ⟨_, hw.pg⟩
theorem PairAt.got (h : PairAt w0 w base WB M r j u v P B X) (h0 : P.ln = 0) : Calls Tryz.prog 24 #[Pw B] w fun e w' => e = .returned (.tuple #[plV (bitsN P.tw : Int) (bktN P.a P.tw : Int), plV (bitsN P.tw : Int) (bktN P.b P.tw : Int)]) ∧ Below w.heap.size w w' := by
  obtain ⟨l, hw, hs⟩ := h.at'
  obtain ⟨ln, t, a, b, tw, K1, K2, F⟩ := P
  have e : ln = 0 := h0
  subst e
  obtain ⟨A, c, hl⟩ := hs
  exact got_yes 0 hw hl
end
theorem free1 {M : Sd} {a : Nat} (ha : a < 1024) (h1 : S2.look M.L a = 1) : fstepM M (fr0 a) = M.acc 5 a 0 ∧ (fstepK M (fr0 a)).ln = 0 := ⟨(fr1 ha h1).2, (fr1 ha h1).1⟩
structure Took2 (M M' : Sd) (a b : Nat) : Prop where
  at_a : S2.look M'.L a = 1
  at_b : S2.look M'.L b = 1
  n : M'.n ≤ M.n + 9
  pn : M'.pn ≤ M.pn + 9
  sp : M'.sp = M.sp
theorem pr_start {M : Sd} {t a b x m1 m2 : Nat} (hx : S2.look M.L 0 = x) (h1 : m1 = lokN (loK a b x) x) (h2 : m2 = lokN (hiK a b x) x) : pit (M, pr0 t a b) = (M.acc 1 0 x, ⟨2, t, a, b, x, lk1 t m1, lk1 t m2, fr0 0⟩) := by
  show (M.acc 1 0 (S2.look M.L 0), (⟨2, t, a, b, S2.look M.L 0, lk1 t (lokN (loK a b (S2.look M.L 0)) (S2.look M.L 0)), lk1 t (lokN (hiK a b (S2.look M.L 0)) (S2.look M.L 0)), fr0 0⟩ : Pr)) = _
  rw [hx, ← h1, ← h2]
theorem pr_alone {M : Sd} {t a b x m1 m2 : Nat} (hx : S2.look M.L 0 = x) (h1 : m1 = lokN (loK a b x) x) (h2 : m2 = lokN (hiK a b x) x) (f1 : S2.look M.L m1 = 0) (f2 : S2.look M.L m2 = 0) :
    ∃ (M1 M2 : Sd) (P1 P2 : Pr), pit (M, pr0 t a b) = (M1, P1) ∧ pit (M1, P1) = (M2, P2) ∧ P1.ln = 2 ∧ P2.ln = 3 ∧ M2.a = m1 ∧ (M1.n ≤ M.n + 2 ∧ M1.pn ≤ M.pn + 2 ∧ M1.sp = M.sp) ∧ (M2.n ≤ M.n + 2 ∧ M2.pn ≤ M.pn + 2 ∧ M2.sp = M.sp) ∧
      (bktN a x ≠ bktN b x → m1 ≠ m2 → (∀ i, i < 2 → (pitn (M2, P2) i).2.ln ≠ 0) ∧ (pitn (M2, P2) 2).2.ln = 0 ∧ (pitn (M2, P2) 2).2.tw = x ∧ (pitn (M2, P2) 2).2.a = a ∧ (pitn (M2, P2) 2).2.b = b ∧ Took2 M (pitn (M2, P2) 2).1 m1 m2) ∧
      (bktN a x = bktN b x → (∀ i, i < 1 → (pitn (M2, P2) i).2.ln ≠ 0) ∧ (pitn (M2, P2) 1).2.ln = 0 ∧ (pitn (M2, P2) 1).2.tw = x ∧ (pitn (M2, P2) 1).2.a = a ∧ (pitn (M2, P2) 1).2.b = b ∧ Took2 M (pitn (M2, P2) 1).1 m1 m1) := by
  have i1 := lok_in (loK a b x) x
  have i2 := lok_in (hiK a b x) x
  rw [← h1] at i1
  rw [← h2] at i2
  obtain ⟨M1, hM1⟩ : ∃ M1, M1 = M.acc 1 0 x := ⟨_, rfl⟩
  have l1 : ∀ b, S2.look M1.L b = S2.look M.L b := by rw [hM1, ← hx]; exact acc_load (by omega)
  obtain ⟨s1, s2⟩ := lock1 (M := M1) (t := t) (a := m1) (by omega) (by rw [l1]; exact f1)
  obtain ⟨M2, hM2⟩ : ∃ M2, M2 = M1.acc 3 m1 1 := ⟨_, rfl⟩
  have e1 := pr_start (t := t) (m1 := m1) (m2 := m2) hx h1 h2
  rw [← hM1] at e1
  have e2 : pit (M1, ⟨2, t, a, b, x, lk1 t m1, lk1 t m2, fr0 0⟩) = (M2, ⟨3, t, a, b, x, stepK M1 (lk1 t m1), lk1 t m2, fr0 0⟩) := by
    show (stepM M1 (lk1 t m1), (⟨if (stepK M1 (lk1 t m1)).ln = 0 then 3 else 2, t, a, b, x, stepK M1 (lk1 t m1), lk1 t m2, fr0 0⟩ : Pr)) = _
    rw [s1, if_pos s2, hM2]
  have l2a : S2.look M2.L m1 = 1 := by rw [hM2]; exact acc_same (by omega)
  have l2 : ∀ b, b ≠ m1 → S2.look M2.L b = S2.look M.L b := fun b hb => by rw [hM2, acc_other hb]; exact l1 b
  obtain ⟨M3, hM3⟩ : ∃ M3, M3 = M2.acc 1 0 (S2.look M2.L 0) := ⟨_, rfl⟩
  have l3 : ∀ b, S2.look M3.L b = S2.look M2.L b := by rw [hM3]; exact acc_load (by omega)
  have e3 : pit (M2, ⟨3, t, a, b, x, stepK M1 (lk1 t m1), lk1 t m2, fr0 0⟩) = (M3, ⟨if bktN a x = bktN b x then 0 else 4, t, a, b, x, stepK M1 (lk1 t m1), lk1 t m2, fr0 0⟩) := by
    show (M2.acc 1 0 (S2.look M2.L 0), (if S2.look M2.L 0 = x then (⟨if bktN a x = bktN b x then 0 else 4, t, a, b, x, stepK M1 (lk1 t m1), lk1 t m2, fr0 0⟩ : Pr) else _)) = _
    rw [if_pos (by rw [l2 0 (by omega)]; exact hx), hM3]
  refine ⟨M1, M2, _, _, e1, e2, rfl, rfl, by rw [hM2]; rfl, ⟨by rw [hM1]; show M.n + 1 ≤ _; omega, by rw [hM1]; show M.pn ≤ _; omega, by rw [hM1]; rfl⟩, ⟨by rw [hM2, hM1]; show M.n + 1 + 1 ≤ _; omega, by rw [hM2, hM1]; show M.pn ≤ _; omega, by rw [hM2, hM1]; rfl⟩, fun hne hm => ?_, fun he => ?_⟩
  · rw [if_neg hne] at e3
    have hn1 : pitn (M2, (⟨3, t, a, b, x, stepK M1 (lk1 t m1), lk1 t m2, fr0 0⟩ : Pr)) 1 = _ := e3
    obtain ⟨s3, s4⟩ := lock1 (M := M3) (t := t) (a := m2) (by omega) (by rw [l3, l2 _ (Ne.symm hm)]; exact f2)
    obtain ⟨M4, hM4⟩ : ∃ M4, M4 = M3.acc 3 m2 1 := ⟨_, rfl⟩
    have e4 : pit (M3, ⟨4, t, a, b, x, stepK M1 (lk1 t m1), lk1 t m2, fr0 0⟩) = (M4, ⟨0, t, a, b, x, stepK M1 (lk1 t m1), stepK M3 (lk1 t m2), fr0 0⟩) := by
      show (stepM M3 (lk1 t m2), (⟨if (stepK M3 (lk1 t m2)).ln = 0 then 0 else 4, t, a, b, x, stepK M1 (lk1 t m1), stepK M3 (lk1 t m2), fr0 0⟩ : Pr)) = _
      rw [s3, if_pos s4, hM4]
    have hn2 : pitn (M2, (⟨3, t, a, b, x, stepK M1 (lk1 t m1), lk1 t m2, fr0 0⟩ : Pr)) 2 = (M4, ⟨0, t, a, b, x, stepK M1 (lk1 t m1), stepK M3 (lk1 t m2), fr0 0⟩) := by
      show pit (pitn _ 1) = _
      rw [hn1, e4]
    refine ⟨fun i hi => ?_, by rw [hn2], by rw [hn2], by rw [hn2], by rw [hn2], ?_⟩
    · rcases (show i = 0 ∨ i = 1 by omega) with rfl | rfl
      · show 3 ≠ 0; omega
      · rw [hn1]; show 4 ≠ 0; omega
    · rw [hn2]
      have l4 : S2.look M4.L m2 = 1 := by rw [hM4]; exact acc_same (by omega)
      have l4a : S2.look M4.L m1 = 1 := by rw [hM4, acc_other hm, l3]; exact l2a
      refine ⟨l4a, l4, ?_, ?_, ?_⟩
      · show M4.n ≤ _; rw [hM4, hM3, hM2, hM1]; show M.n + 1 + 1 + 1 + 1 ≤ _; omega
      · show M4.pn ≤ _; rw [hM4, hM3, hM2, hM1]; show M.pn ≤ _; omega
      · show M4.sp = _; rw [hM4, hM3, hM2, hM1]; rfl
  · rw [if_pos he] at e3
    have hn1 : pitn (M2, (⟨3, t, a, b, x, stepK M1 (lk1 t m1), lk1 t m2, fr0 0⟩ : Pr)) 1 = _ := e3
    refine ⟨fun i hi => ?_, by rw [hn1], by rw [hn1], by rw [hn1], by rw [hn1], ?_⟩
    · obtain rfl : i = 0 := by omega
      show 3 ≠ 0; omega
    · rw [hn1]
      have l4a : S2.look M3.L m1 = 1 := by rw [l3]; exact l2a
      refine ⟨l4a, l4a, ?_, ?_, ?_⟩
      · show M3.n ≤ _; rw [hM3, hM2, hM1]; show M.n + 1 + 1 + 1 ≤ _; omega
      · show M3.pn ≤ _; rw [hM3, hM2, hM1]; show M.pn ≤ _; omega
      · show M3.sp = _; rw [hM3, hM2, hM1]; rfl
theorem ait_one (M : Sd) (two : Bool) (F1 F2 : Fr) : ait (M, ⟨1, two, F1, F2⟩) = (fstepM M F1, ⟨if (fstepK M F1).ln = 0 then (if two = true then 2 else 0) else 1, two, fstepK M F1, F2⟩) := rfl
theorem aitn_0 (p : Sd × Ap) : aitn p 0 = p := rfl
theorem aitn_1 (p : Sd × Ap) : aitn p 1 = ait p := rfl
theorem ap_one {M : Sd} {a b : Nat} (ha : a < 1024) (h1 : S2.look M.L a = 1) :
    (∀ i, i < 1 → (aitn (M, ap0 false a b) i).2.ln ≠ 0) ∧ (aitn (M, ap0 false a b) 1).2.ln = 0 ∧ S2.look (aitn (M, ap0 false a b) 1).1.L a = 0 := by
  obtain ⟨s1, s2⟩ := free1 ha h1
  unfold ap0
  generalize fr0 a = F1 at *
  generalize fr0 b = F2 at *
  have e1 : aitn (M, ⟨1, false, F1, F2⟩) 1 = (M.acc 5 a 0, ⟨0, false, fstepK M F1, F2⟩) := by
    rw [aitn_1, ait_one, s1, if_pos s2, if_neg Bool.false_ne_true]
  rw [e1]
  refine ⟨fun i hi => ?_, rfl, ?_⟩
  · obtain rfl : i = 0 := by omega
    rw [aitn_0]; exact Nat.one_ne_zero
  · exact acc_same ha
end Go.Proofs.YtokplfkhpjcfcaaGreat.S16
set_option linter.unusedVariables false
set_option linter.unusedSimpArgs false
namespace Go.Proofs.YtokplfkhpjcfcaaGreat.S16
set_option maxRecDepth 100000
set_option maxHeartbeats 16000000
open Go.Proofs.YtokplfkhpjcfcaaGreat Go.Proofs.YtokplfkhpjcfcaaGreat.S11 Go.Proofs.YtokplfkhpjcfcaaGreat.S12 Go.Proofs.YtokplfkhpjcfcaaGreat.S13 Go.Proofs.YtokplfkhpjcfcaaGreat.S14 Go.Proofs.YtokplfkhpjcfcaaGreat.S15
open Go.RowKit
def Ext (R R' : List Part) : Prop := ∀ (k : Nat) (p : Part), R[k]? = some p → R'[k]? = some p
theorem Ext.refl (R : List Part) : Ext R R := fun _ _ h => h
theorem Ext.trans {R S T : List Part} (h : Ext R S) (g : Ext S T) : Ext R T := fun k p e => g k p (h k p e)
theorem Ext.app {R S : List Part} (h : Ext R S) (s : List Part) : Ext R (S ++ s) := fun k p e => by
  have h1 := h k p e
  rw [List.getElem?_append_left (List.getElem?_eq_some_iff.1 h1).1]; exact h1
theorem Ext.set {R S : List Part} (h : Ext R S) {i : Nat} (hi : R.length ≤ i) (q : Part) : Ext R (S.set i q) := fun k p e => by
  have hk := (List.getElem?_eq_some_iff.1 e).1
  exact (List.getElem?_set_ne (by omega)).trans (h k p e)
theorem ext_last (R : List Part) (p : Part) : (R ++ [p])[R.length]? = some p := by rw [List.getElem?_append_right (Nat.le_refl _), Nat.sub_self]; rfl
section
variable {w0 w w' : World} {base WB : Nat} {M : Sd} {r R : List Part} {j u v B : Nat} {l : Rows} {X : Wm} {P : Pr} {Q : Ap}
theorem pg_at (h : Pg w0 w base WB M R X) {k B : Nat} {ob : Obj} (e : R[k]? = some (blockP B ob)) : w.heap[B]? = some ob := h.ps.ok _ (blockP B ob) (h.part e)
theorem PairAt.ext (h : PairAt w0 w base WB M r j u v P B X) (hE : Ext R r) (hj : R.length ≤ j) : ∃ R', Ext R R' ∧ Pg w0 w base WB M R' X := by
  obtain ⟨q, hq⟩ := h.pg
  exact ⟨_, hE.set hj q, hq⟩
theorem ApAt.ext (h : ApAt w0 w base WB M r j u v Q B X) (hE : Ext R r) (hj : R.length ≤ j) : ∃ R', Ext R R' ∧ Pg w0 w base WB M R' X := by
  obtain ⟨q, hq⟩ := h.pg
  exact ⟨_, hE.set hj q, hq⟩
def Runs (w0 : World) (base WB : Nat) (R : List Part) (n : Nat) (w1 : World) (B : Nat) (P : Sd → Prop) : Prop :=
  ∀ W, Below w1.heap.size w1 W → Calls Tryz.prog 63 #[Pw WB, .iface 79 (Pw B), .int .i64 9] W fun e w' => e = .returned (.int .i64 (n : Int)) ∧ ∃ R' M' X', Ext R R' ∧ Pg w0 w' base WB M' R' X' ∧ P M'
theorem apart_one (h : Pg w0 w base WB M R X) {pb pi : Int} {a : Nat} (hz : S10.lockZ pb pi = (a : Int)) (ha : a < 1024) (h1 : S2.look M.L a = 1) (ms : 0 ≤ M.sp ∧ M.sp ≤ 16) (hn : M.n ≤ 900000000) (hp : M.pn ≤ 900000000) :
    Calls Tryz.prog 27 #[.agg #[.int .i64 pb, .int .i64 pi], .agg #[.int .i64 pb, .int .i64 pi]] w fun e w' => ∃ B, e = .returned (Pw B) ∧ Runs w0 base WB R 1 w' B (fun M' => S2.look M'.L a = 0) ∧ ∃ R', Ext R R' ∧ Pg w0 w' base WB M R' X := by
  refine (new_apart_one h hz hz ⟨rfl, rfl⟩).mono ?_
  rintro e w' ⟨B, q1, q2, rfl, hap⟩
  refine ⟨B, rfl, fun W hW => ?_, hap.ext ((((Ext.refl R).app _).set (by omega) q1).set (by omega) q2) (Nat.le_refl _)⟩
  obtain ⟨g1, g2, g3⟩ := ap_one (b := a) ha h1
  refine (run_a (hap.new hW) (ok_ap (by omega) (by omega)) ms 1 9 (by omega) (by omega) (by omega) hn hp g1 g2).mono ?_
  rintro e w' ⟨rfl, q3, q4, X', h'⟩
  obtain ⟨R', hE, hpg⟩ := h'.ext ((((((Ext.refl R).app _).set (by omega) q1).set (by omega) q2).set (by omega) q3).set (by omega) q4) (Nat.le_refl _)
  exact ⟨rfl, R', _, X', hE, hpg, g3⟩
end
theorem pitn_s (p : Sd × Pr) (n : Nat) : pitn p (n + 1) = pit (pitn p n) := rfl
theorem eqlPl (b i : Int) (w : World) : (binOp .eql 27 (.agg #[.int .i64 b, .int .i64 i]) (.agg #[.int .i64 b, .int .i64 i])).run Tryz.prog w = .ok (.bool true) w := by
  simp [go_sem, Tryz.underlying27]
theorem lives16 (w : World) : Calls Tryz.prog 30 #[] w fun e w' => e = .returned (.bool true) ∧ Below w.heap.size w w' := by
  have HW : Hid (Calls Tryz.prog 62 #[.int .u8 0] w fun e w' => ∃ X, e = .returned (Pw X.wB) ∧ PW w' w.heap.size X ∧ At0 X 0 5 [] ∧ Below w.heap.size w w') := Lib.hid (world_any 0 (by omega) w)
  have HNP : Hid (∀ W, Calls Tryz.prog 23 #[.int .i64 0, .int .u32 1152, .int .u32 1152] W fun e w' => ∃ v, e = .returned v ∧ NewPr W w' 0 1152 1152 v) := Lib.hid (fun W => new_pair (t := 0) (a := 1152) (b := 1152) (by omega) W)
  obtain ⟨bkt, hbk⟩ : ∃ bkt, bkt = bktN 1152 2 := ⟨_, rfl⟩
  obtain ⟨a, hal⟩ : ∃ a, a = lokN 1152 2 := ⟨_, rfl⟩
  have hain := lok_in 1152 2
  rw [← hal] at hain
  have HPL : Hid (∀ W, Calls Tryz.prog 8 #[.int .u32 1152, .int .u64 2] W fun e w' => e = .returned (.agg #[.int .i64 2, .int .i64 (bkt : Int)]) ∧ Below W.heap.size W w') := Lib.hid (fun W => by
    have h := place_any 1152 2 (by omega) (by omega) W
    unfold placeV at h
    rw [← hbk] at h
    exact h)
  have hz : S10.lockZ 2 (bkt : Int) = (a : Int) := by
    have h := lok_lock 1152 2
    rw [← hbk, ← hal] at h
    exact h
  have hl1 : loK 1152 1152 2 = 1152 := by unfold loK; split <;> rfl
  have hl2 : hiK 1152 1152 2 = 1152 := by unfold hiK; split <;> rfl
  have l0 : S2.look (sdN 0 5).L 0 = 2 := look02 0
  have la : S2.look (sdN 0 5).L a = 0 := by
    show S2.look L02 a = 0
    rw [look02, if_neg (by omega)]
  obtain ⟨M1, M2, P1, P2, e1, e2, z1, z2, _, _, b2, _, hone⟩ := pr_alone (M := sdN 0 5) (t := 0) (a := 1152) (b := 1152) (x := 2) (m1 := a) (m2 := a) l0 (by rw [hl1]; exact hal) (by rw [hl2]; exact hal) la la
  obtain ⟨g1, g2, g3, g4, g5, g6⟩ := hone rfl
  have f1 : pitn (sdN 0 5, pr0 0 1152 1152) 1 = (M1, P1) := e1
  have f2 : pitn (sdN 0 5, pr0 0 1152 1152) 2 = (M2, P2) := by rw [pitn_s, f1, e2]
  have f3 : pitn (sdN 0 5, pr0 0 1152 1152) 3 = pitn (M2, P2) 1 := by rw [pitn_s, f2]; rfl
  have hpos : ∀ i, i < 3 → (pitn (sdN 0 5, pr0 0 1152 1152) i).2.ln ≠ 0 := fun i hi => by
    rcases (show i = 0 ∨ i = 1 ∨ i = 2 by omega) with rfl | rfl | rfl
    · show 1 ≠ 0; omega
    · rw [f1]; show P1.ln ≠ 0; rw [z1]; omega
    · rw [f2]; show P2.ln ≠ 0; rw [z2]; omega
  have hend : (pitn (sdN 0 5, pr0 0 1152 1152) 3).2.ln = 0 := by rw [f3]; exact g2
  have hrun := fun (W : World) (r : List Part) (j u v B base WB : Nat) (X : Wm) (h : PairAt w W base WB (sdN 0 5) r j u v (pr0 0 1152 1152) B X) => run_p h (ok_pr (by omega) (by omega) (by omega)) ⟨by show (0 : Int) ≤ 0; omega, by show (0 : Int) ≤ 16; omega⟩ 3 9 (by omega) (by omega) (by omega) (by show 0 ≤ _; omega) (by show 0 ≤ _; omega) hpos hend
  rw [f3] at hrun
  obtain ⟨M3, hM3⟩ : ∃ M3, M3 = (pitn (M2, P2) 1).1 := ⟨_, rfl⟩
  obtain ⟨P3, hP3⟩ : ∃ P3, P3 = (pitn (M2, P2) 1).2 := ⟨_, rfl⟩
  rw [← hM3, ← hP3] at hrun
  rw [← hP3] at g2 g3 g4 g5
  rw [← hM3] at g6
  have HRUN := Lib.hid hrun; have HG := Lib.hid (And.intro g2 (And.intro g3 (And.intro g4 g5))); have HTK := Lib.hid g6
  have HBK := Lib.hid hbk; have HAI := Lib.hid hain; have HZ := Lib.hid hz
  have heq := eqlPl 2 (bkt : Int)
  clear hbk hal hain hz hl1 hl2 l0 la e1 e2 z1 z2 b2 hone g1 g2 g3 g4 g5 g6 f1 f2 f3 hpos hend hrun hM3 hP3
  go_enter Tryz.func30, Tryz.ntmps30
  go_upto_region 4 with (go_at_call 62; refine HW.out.mono ?_; rintro e w1 ⟨X, rfl, hp, h0, hb⟩)
  have hpg := pg_of hp hb
  rw [at0_sd h0] at hpg
  obtain ⟨WB, hWB⟩ : ∃ x, x = X.wB := ⟨_, rfl⟩
  rw [← hWB] at hpg ⊢
  have HPG := Lib.hid hpg
  clear hpg hp h0 hb hWB HW
  go_upto_region 5 with (go_at_call 23; refine (HNP.out _).mono ?_; rintro e w2 ⟨v, rfl, hnp⟩)
  obtain ⟨B, rfl, X2, hpa⟩ := Pg.pair HPG.out hnp
  have HR := Lib.hid (HRUN.out _ _ _ _ _ _ _ _ _ hpa)
  clear hnp hpa HPG HNP HRUN
  go_upto_region 6 with (go_at_call 63; refine HR.out.mono ?_; rintro e w3 ⟨rfl, q1, q2, X3, h3⟩)
  have hg := h3.got HG.out.1
  rw [HG.out.2.1, HG.out.2.2.1, HG.out.2.2.2, show ((bitsN 2 : Nat) : Int) = 2 from rfl, ← HBK.out] at hg
  obtain ⟨R3, _, hpg3⟩ := h3.ext (R := []) (fun k p e => by simp at e) (Nat.zero_le _)
  have HGO := Lib.hid hg; have H3 := Lib.hid hpg3
  clear hg h3 hpg3 HR
  go_upto_region 7 with (go_at_call 24; refine HGO.out.mono ?_; rintro e w4 ⟨rfl, hb4⟩; have HB4 := Lib.hid hb4; clear hb4)
  have h5 := Pg.add (Pg.add (H3.out.new HB4.out) (.cells #[.int .i64 2, .int .i64 (bkt : Int)] 27)) (.cells #[.int .i64 2, .int .i64 (bkt : Int)] 27)
  obtain ⟨N4, hN4⟩ : ∃ N4, N4 = w4.heap.size := ⟨_, rfl⟩
  obtain ⟨N5, hN5⟩ : ∃ N5, N5 = (w4.alloc (.cells #[.int .i64 2, .int .i64 (bkt : Int)] 27)).heap.size := ⟨_, rfl⟩
  have hN5' : N5 = N4 + 1 := by rw [hN5, alloc_size, hN4]
  rw [← hN4, ← hN5] at h5
  rw [← hN4]
  (try rw [← hN5'])
  have H5 := Lib.hid h5
  have e4 : Ext (R3 ++ [blockP N4 (.cells #[.int .i64 2, .int .i64 (bkt : Int)] 27)] ++ [blockP N5 (.cells #[.int .i64 2, .int .i64 (bkt : Int)] 27)]) (R3 ++ [blockP N4 (.cells #[.int .i64 2, .int .i64 (bkt : Int)] 27)] ++ [blockP N5 (.cells #[.int .i64 2, .int .i64 (bkt : Int)] 27)]) := Ext.refl _
  have k4 : (R3 ++ [blockP N4 (.cells #[.int .i64 2, .int .i64 (bkt : Int)] 27)] ++ [blockP N5 (.cells #[.int .i64 2, .int .i64 (bkt : Int)] 27)])[R3.length]? = some (blockP N4 (.cells #[.int .i64 2, .int .i64 (bkt : Int)] 27)) := (Ext.refl _).app _ _ _ (ext_last R3 _)
  have k5 : (R3 ++ [blockP N4 (.cells #[.int .i64 2, .int .i64 (bkt : Int)] 27)] ++ [blockP N5 (.cells #[.int .i64 2, .int .i64 (bkt : Int)] 27)])[(R3 ++ [blockP N4 (.cells #[.int .i64 2, .int .i64 (bkt : Int)] 27)]).length]? = some (blockP N5 (.cells #[.int .i64 2, .int .i64 (bkt : Int)] 27)) := ext_last _ _
  have HK := Lib.hid (And.intro k4 k5)
  clear h5 hN4 hN5 hN5' H3 HB4 HGO e4 k4 k5
  generalize (w4.alloc (.cells #[.int .i64 2, .int .i64 (bkt : Int)] 27)).alloc (.cells #[.int .i64 2, .int .i64 (bkt : Int)] 27) = w5 at *
  have HAP := Lib.hid (apart_one H5.out HZ.out (by have := HAI.out; omega) HTK.out.at_a (by rw [HTK.out.sp]; exact ⟨by show (0 : Int) ≤ 0; omega, by show (0 : Int) ≤ 16; omega⟩) (Nat.le_trans HTK.out.n (by show 0 + 9 ≤ _; omega)) (Nat.le_trans HTK.out.pn (by show 0 + 9 ≤ _; omega)))
  have c0 : w5.cell? ⟨N4, 0, none⟩ = some (.int .i64 2) := cell_row (pg_at H5.out HK.out.1) 0
  have c1 : w5.cell? ⟨N4, 1, none⟩ = some (.int .i64 (bkt : Int)) := cell_row (pg_at H5.out HK.out.1) 1
  have c2 : w5.cell? ⟨N5, 0, none⟩ = some (.int .i64 2) := cell_row (pg_at H5.out HK.out.2) 0
  have c3 : w5.cell? ⟨N5, 1, none⟩ = some (.int .i64 (bkt : Int)) := cell_row (pg_at H5.out HK.out.2) 1
  go_upto_region 8 with (first
    | (go_at_call 27; refine HAP.out.mono ?_; rintro e w6 ⟨B2, rfl, hrn, _⟩; have HRN := Lib.hid hrn; clear hrn)
    | (go_at_call 63; refine (HRN.out _ (Below.refl _ _)).mono ?_; rintro e w7 ⟨rfl, R7, M7, X7, hE7, hpg7, hl7⟩; have HE7 := Lib.hid hE7; have H7 := Lib.hid hpg7; clear hE7 hpg7 hl7))
  have HC := Lib.hid (And.intro (show w7.cell? ⟨N4, 0, none⟩ = some (.int .i64 2) from cell_row (pg_at H7.out (HE7.out _ _ HK.out.1)) 0) (And.intro (show w7.cell? ⟨N4, 1, none⟩ = some (.int .i64 (bkt : Int)) from cell_row (pg_at H7.out (HE7.out _ _ HK.out.1)) 1) (And.intro (show w7.cell? ⟨N5, 0, none⟩ = some (.int .i64 2) from cell_row (pg_at H7.out (HE7.out _ _ HK.out.2)) 0) (show w7.cell? ⟨N5, 1, none⟩ = some (.int .i64 (bkt : Int)) from cell_row (pg_at H7.out (HE7.out _ _ HK.out.2)) 1))))
  clear c0 c1 c2 c3 HAP HRN H5
  refine wp_region_held_drew (S := fun w' => w'.cell? ⟨N4, 0, none⟩ = some (.int .i64 2) ∧ w'.cell? ⟨N4, 1, none⟩ = some (.int .i64 (bkt : Int)) ∧ w'.cell? ⟨N5, 0, none⟩ = some (.int .i64 2) ∧ w'.cell? ⟨N5, 1, none⟩ = some (.int .i64 (bkt : Int))) (by kernel_rfl) ?_ (fun hHeld => ?_)
  · exact ⟨bcell (Below.refl _ _).drew HC.out.1, bcell (Below.refl _ _).drew HC.out.2.1, bcell (Below.refl _ _).drew HC.out.2.2.1, bcell (Below.refl _ _).drew HC.out.2.2.2⟩
  refine tA 0 ⟨some 26, .move (.tmp 3), 3, "outright.go:25", #[], none⟩ ?vlvm1 ?rlvm1
  (try simp only [Act.put, tC, tD, tE])
  refine tA 1 ⟨some 27, .binOp .eql 3 (.tmp 26) (.const (.int .i64 3)) 3, 4, "outright.go:25", #[⟨0, .data⟩], none⟩ ?vlvm2 ?rlvm2
  (try simp only [Act.put, tC, tD, tE])
  refine tA 2 ⟨some 28, .move (.tmp 27), 4, "outright.go:25", #[⟨1, .data⟩], none⟩ ?vlvm3 ?rlvm3
  (try simp only [Act.put, tC, tD, tE])
  refine tA 3 ⟨some 29, .move (.tmp 6), 3, "outright.go:25", #[⟨2, .guard⟩], some (2, true)⟩ ?vlvm4 ?rlvm4
  (try simp only [Act.put, tC, tD, tE])
  refine tA 4 ⟨some 30, .binOp .eql 3 (.tmp 29) (.const (.int .i64 1)) 3, 4, "outright.go:25", #[⟨3, .data⟩, ⟨2, .guard⟩], some (2, true)⟩ ?vlvm5 ?rlvm5
  (try simp only [Act.put, tC, tD, tE])
  refine tA 5 ⟨some 31, .pick (.tmp 28) (.tmp 30) (.const (.bool false)), 4, "outright.go:25", #[⟨2, .data⟩, ⟨4, .data⟩], none⟩ ?vlvm6 ?rlvm6
  (try simp only [Act.put, tC, tD, tE])
  refine tA 6 ⟨some 32, .move (.tmp 31), 4, "outright.go:25", #[⟨5, .data⟩, ⟨2, .chain⟩], none⟩ ?vlvm7 ?rlvm7
  (try simp only [Act.put, tC, tD, tE])
  refine tA 7 ⟨some 33, .load 27 (.tmp 4), 27, "outright.go:25", #[⟨6, .guard⟩], some (6, true)⟩ ?vlvm8 ?rlvm8
  (try simp only [Act.put, tC, tD, tE])
  refine tA 8 ⟨some 34, .load 27 (.tmp 5), 27, "outright.go:25", #[⟨6, .guard⟩], some (6, true)⟩ ?vlvm9 ?rlvm9
  (try simp only [Act.put, tC, tD, tE])
  refine tA 9 ⟨some 35, .binOp .eql 27 (.tmp 33) (.tmp 34) 27, 4, "outright.go:25", #[⟨7, .data⟩, ⟨8, .data⟩, ⟨6, .guard⟩], some (6, true)⟩ ?vlvm10 ?rlvm10
  (try simp only [Act.put, tC, tD, tE])
  refine tA 10 ⟨some 36, .pick (.tmp 32) (.tmp 35) (.const (.bool false)), 4, "outright.go:25", #[⟨6, .data⟩, ⟨9, .data⟩], none⟩ ?vlvm11 ?rlvm11
  (try simp only [Act.put, tC, tD, tE])
  refine tA 11 ⟨some 37, .move (.tmp 36), 4, "outright.go:25", #[⟨10, .data⟩, ⟨6, .chain⟩], none⟩ ?vlvm12 ?rlvm12
  (try simp only [Act.put, tC, tD, tE])
  refine tA 12 ⟨some 38, .load 27 (.tmp 4), 27, "outright.go:25", #[⟨11, .guard⟩], some (11, true)⟩ ?vlvm13 ?rlvm13
  (try simp only [Act.put, tC, tD, tE])
  refine wpAnyH_ready (rs := [13]) (by kernel_rfl) (by simp) ?_
  refine AllReadyH.cons (o := ⟨some 39, .call ⟨.value (.func 8), #[.const (.int .u32 1152), .const (.int .u64 2)], #[24, 22]⟩, 27, "outright.go:25", #[⟨11, .chain⟩, ⟨11, .guard⟩], some (11, true)⟩) rfl (fun Kq hKq => ?_) AllReadyH.nil
  go_simp
  (refine (HPL.out _).mono ?_; rintro e w9 ⟨rfl, hb9⟩; have HB9 := Lib.hid hb9; clear hb9)
  refine hKq.out _ _ ?_ (fun hHeld => ?_)
  · exact ⟨bcell HB9.out hHeld.1, bcell HB9.out hHeld.2.1, bcell HB9.out hHeld.2.2.1, bcell HB9.out hHeld.2.2.2⟩
  clear hKq Kq
  (try simp only [Act.put, tC, tD, tE])
  refine tA 14 ⟨some 40, .binOp .eql 27 (.tmp 38) (.tmp 39) 27, 4, "outright.go:25", #[⟨12, .data⟩, ⟨13, .data⟩, ⟨11, .guard⟩], some (11, true)⟩ ?vlvm14 ?rlvm14
  (try simp only [Act.put, tC, tD, tE])
  refine tA 15 ⟨some 41, .pick (.tmp 37) (.tmp 40) (.const (.bool false)), 4, "outright.go:25", #[⟨11, .data⟩, ⟨14, .data⟩], none⟩ ?vlvm15 ?rlvm15
  (try simp only [Act.put, tC, tD, tE])
  refine tA 16 ⟨some 0, .assign (.tmp 41), 4, "outright.go:25", #[⟨15, .data⟩, ⟨13, .chain⟩, ⟨0, .phase⟩, ⟨1, .phase⟩, ⟨2, .phase⟩, ⟨3, .phase⟩, ⟨4, .phase⟩, ⟨5, .phase⟩, ⟨6, .phase⟩, ⟨7, .phase⟩, ⟨8, .phase⟩, ⟨9, .phase⟩, ⟨10, .phase⟩, ⟨11, .phase⟩, ⟨12, .phase⟩, ⟨13, .phase⟩, ⟨14, .phase⟩, ⟨15, .phase⟩], none⟩ ?vlvm16 ?rlvm16
  (try simp only [Act.put, tC, tD, tE])
  refine wpAnyH_done (by kernel_rfl) ?_ _
  go_wp2_with fail
  go_ret
  exact ⟨rfl, H7.out.bl.trans ((Below.refl _ _).drew.trans HB9.out |>.mono H7.out.size)⟩
end Go.Proofs.YtokplfkhpjcfcaaGreat.S16
set_option linter.unusedVariables false
set_option linter.unusedSimpArgs false
namespace Go.Proofs.YtokplfkhpjcfcaaGreat.S16
set_option maxRecDepth 100000
set_option maxHeartbeats 16000000
open Go.Proofs.YtokplfkhpjcfcaaGreat Go.Proofs.YtokplfkhpjcfcaaGreat.S11 Go.Proofs.YtokplfkhpjcfcaaGreat.S12 Go.Proofs.YtokplfkhpjcfcaaGreat.S13 Go.Proofs.YtokplfkhpjcfcaaGreat.S14 Go.Proofs.YtokplfkhpjcfcaaGreat.S15
open Go.RowKit
theorem aover_cell {w : World} {B n c : Nat} {P : Option Addr} (y0 : w.cell? ⟨B, 0, none⟩ = some (.slice P n c)) : Calls Tryz.prog 28 #[Pw B] w fun e w' => e = .returned (.bool (decide (n = 0))) ∧ w = w' := by
  have d1 : ((n : Int) == 0) = decide (n = 0) := by by_cases e : n = 0 <;> simp [e]
  have d2 : decide ((n : Int) = 0) = decide (n = 0) := by by_cases e : n = 0 <;> simp [e]
  generalize decide (n = 0) = d at *
  go_enter Tryz.func28, Tryz.ntmps28
  go_wp2_with fail
  go_ret
  exact ⟨by simp [d1, d2], rfl⟩
theorem aover_nil (w : World) : Calls Tryz.prog 28 #[.pointer none] w fun e w' => e = .returned (.bool true) ∧ w = w' := by
  go_enter Tryz.func28, Tryz.ntmps28
  go_wp2_with fail
  go_ret
  exact ⟨rfl, rfl⟩
theorem pstep_nilp (u : Value) (w : World) : Calls Tryz.prog 26 #[.pointer none, u] w fun e w' => e = .returned (.bool true) ∧ w = w' := by
  have HO := Lib.hid (fun W => over_nil W)
  go_enter Tryz.func26, Tryz.ntmps26
  go_upto_region 3 with (go_at_call 25; refine (HO.out _).mono ?_; rintro e w2 ⟨rfl, rfl⟩)
  go_wp2_with (go_at_call 25; refine (HO.out _).mono ?_; rintro e w2 ⟨rfl, rfl⟩)
  go_ret
  exact ⟨rfl, rfl⟩
theorem pstep_void {w : World} {B c : Nat} {P : Option Addr} (y0 : w.cell? ⟨B, 6, none⟩ = some (.slice P 0 c)) (u : Value) : Calls Tryz.prog 26 #[Pw B, u] w fun e w' => e = .returned (.bool true) ∧ w = w' := by
  have ho := over_cell y0
  rw [decide_eq_true rfl] at ho
  have HO := Lib.hid ho
  clear y0 ho
  go_enter Tryz.func26, Tryz.ntmps26
  go_upto_region 3 with (go_at_call 25; refine HO.out.mono ?_; rintro e w2 ⟨rfl, rfl⟩)
  go_wp2_with (go_at_call 25; refine HO.out.mono ?_; rintro e w2 ⟨rfl, rfl⟩)
  go_ret
  exact ⟨rfl, rfl⟩
theorem pstep_still {w : World} {B n c : Nat} {P : Option Addr} (y0 : w.cell? ⟨B, 6, none⟩ = some (.slice P (n + 1) c)) : Calls Tryz.prog 26 #[Pw B, .pointer none] w fun e w' => e = .returned (.bool false) ∧ w = w' := by
  have ho := over_cell y0
  rw [decide_eq_false (Nat.succ_ne_zero n)] at ho
  have HO := Lib.hid ho
  clear y0 ho
  go_enter Tryz.func26, Tryz.ntmps26
  go_upto_region 3 with (go_at_call 25; refine HO.out.mono ?_; rintro e w2 ⟨rfl, rfl⟩)
  go_wp2_with (go_at_call 25; refine HO.out.mono ?_; rintro e w2 ⟨rfl, rfl⟩)
  go_ret
  exact ⟨rfl, rfl⟩
theorem astep_nilp (u : Value) (w : World) : Calls Tryz.prog 29 #[.pointer none, u] w fun e w' => e = .returned (.bool true) ∧ w = w' := by
  have HO := Lib.hid (fun W => aover_nil W)
  go_enter Tryz.func29, Tryz.ntmps29
  go_upto_region 3 with (go_at_call 28; refine (HO.out _).mono ?_; rintro e w2 ⟨rfl, rfl⟩)
  go_wp2_with (go_at_call 28; refine (HO.out _).mono ?_; rintro e w2 ⟨rfl, rfl⟩)
  go_ret
  exact ⟨rfl, rfl⟩
theorem astep_void {w : World} {B c : Nat} {P : Option Addr} (y0 : w.cell? ⟨B, 0, none⟩ = some (.slice P 0 c)) (u : Value) : Calls Tryz.prog 29 #[Pw B, u] w fun e w' => e = .returned (.bool true) ∧ w = w' := by
  have ho := aover_cell y0
  rw [decide_eq_true rfl] at ho
  have HO := Lib.hid ho
  clear y0 ho
  go_enter Tryz.func29, Tryz.ntmps29
  go_upto_region 3 with (go_at_call 28; refine HO.out.mono ?_; rintro e w2 ⟨rfl, rfl⟩)
  go_wp2_with (go_at_call 28; refine HO.out.mono ?_; rintro e w2 ⟨rfl, rfl⟩)
  go_ret
  exact ⟨rfl, rfl⟩
theorem astep_still {w : World} {B n c : Nat} {P : Option Addr} (y0 : w.cell? ⟨B, 0, none⟩ = some (.slice P (n + 1) c)) : Calls Tryz.prog 29 #[Pw B, .pointer none] w fun e w' => e = .returned (.bool false) ∧ w = w' := by
  have ho := aover_cell y0
  rw [decide_eq_false (Nat.succ_ne_zero n)] at ho
  have HO := Lib.hid ho
  clear y0 ho
  go_enter Tryz.func29, Tryz.ntmps29
  go_upto_region 3 with (go_at_call 28; refine HO.out.mono ?_; rintro e w2 ⟨rfl, rfl⟩)
  go_wp2_with (go_at_call 28; refine HO.out.mono ?_; rintro e w2 ⟨rfl, rfl⟩)
  go_ret
  exact ⟨rfl, rfl⟩
theorem got_nilp (w : World) : Calls Tryz.prog 24 #[.pointer none] w fun e w' => e = .returned (.tuple #[plV 0 0, plV 0 0]) ∧ Below w.heap.size w w' := by
  go_enter Tryz.func24, Tryz.ntmps24
  go_wp2_with fail
  refine bodyPost_ret (v := .tuple #[plV 0 0, plV 0 0]) (by simp [results, Tryz.results24, go_sem]) rfl ⟨rfl, ?_⟩
  exact (below1 w _).alloc (by rw [alloc_size]; omega) _
theorem new_none {t : Int} (ht : t < 0 ∨ 64 ≤ t) (a b : Nat) (w : World) : Calls Tryz.prog 23 #[.int .i64 t, .int .u32 (a : Int), .int .u32 (b : Int)] w fun e w' => e = .returned (Pw w.heap.size) ∧ w' = w.alloc (.cells (pairC a b 0 0 0 0 (.slice none 0 0)) 76) := by
  rcases (show ¬ 0 ≤ t ∨ (0 ≤ t ∧ ¬ t < 64) by omega) with h | ⟨h, h2⟩
  · have d1 : decide (0 ≤ t) = false := decide_eq_false h
    clear h ht
    go_enter Tryz.func23, Tryz.ntmps23
    go_wp2_with fail
    go_ret
    exact ⟨rfl, rfl⟩
  · have d1 : decide (0 ≤ t) = true := decide_eq_true h
    have d2 : decide (t < 64) = false := decide_eq_false h2
    clear h h2 ht
    go_enter Tryz.func23, Tryz.ntmps23
    go_wp2_with fail
    go_ret
    exact ⟨rfl, rfl⟩
theorem leave_bel {a : Nat} {pb pi : Int} (hz : S10.lockZ pb pi = (a : Int)) (w : World) : Calls Tryz.prog 67 #[.agg #[.int .i64 pb, .int .i64 pi]] w fun e w' => ∃ V, e = .returned (leaveF V) ∧ Below w.heap.size w w' := by
  have hlk : ∀ W, Calls Tryz.prog 10 #[.agg #[.int .i64 pb, .int .i64 pi]] W fun e w' => e = .returned (.int .u32 (a : Int)) ∧ Below W.heap.size W w' := fun W => by
    have := lockOf_any pb pi W
    rwa [hz] at this
  have hb1 : Below w.heap.size w (w.alloc (.cells #[.int .i64 pb, .int .i64 pi] 27)) := below1 _ _
  have HLK := Lib.hid hlk; have HNL := Lib.hid (fun W => new_free a W); have HB1 := Lib.hid hb1
  clear hz hlk hb1
  have c0 : (w.alloc (.cells #[.int .i64 pb, .int .i64 pi] 27)).cell? ⟨w.heap.size, 0, none⟩ = some (.int .i64 pb) := cell_row (heap_alloc_new w _) 0
  have c1 : (w.alloc (.cells #[.int .i64 pb, .int .i64 pi] 27)).cell? ⟨w.heap.size, 1, none⟩ = some (.int .i64 pi) := cell_row (heap_alloc_new w _) 1
  obtain ⟨Q, hQ⟩ : ∃ Q, Q = w.heap.size := ⟨_, rfl⟩
  rw [← hQ] at c0 c1
  have HQ := Lib.hid hQ
  clear hQ
  go_enter Tryz.func67, Tryz.ntmps67
  go_upto_region 1 with (fail)
  rw [← HQ.out]
  generalize w.alloc (.cells #[.int .i64 pb, .int .i64 pi] 27) = w1 at *
  go_upto_region 2 with (first
    | (go_at_call 10; refine (HLK.out _).mono ?_; rintro e w2 ⟨rfl, hb2⟩; have H2 := Lib.hid (HB1.out.trans (hb2.mono HB1.out.size)); clear hb2)
    | (go_at_call 121; refine (HNL.out _).mono ?_; rintro e w3 ⟨rfl, rfl⟩))
  go_wp2_with fail
  go_ret
  refine ⟨_, rfl, ?_⟩
  exact (H2.out.alloc H2.out.size _).alloc (by rw [alloc_size]; have := H2.out.size; omega) _
theorem apart_bel {pb pi qi : Int} {a b : Nat} (hz1 : S10.lockZ pb pi = (a : Int)) (hz2 : S10.lockZ pb qi = (b : Int)) (he : ¬ qi = pi) (w : World) :
    Calls Tryz.prog 27 #[.agg #[.int .i64 pb, .int .i64 pi], .agg #[.int .i64 pb, .int .i64 qi]] w fun e w' => ∃ B P c, e = .returned (Pw B) ∧ Below w.heap.size w w' ∧ w'.cell? ⟨B, 0, none⟩ = some (.slice P (1 + 1) c) := by
  have hq0 : (w.alloc (.cells #[.int .i64 pb, .int .i64 pi] 27)).heap[w.heap.size]? = some (.cells #[.int .i64 pb, .int .i64 pi] 27 (0, 0)) := heap_alloc_new _ _
  have hq1 : ((w.alloc (.cells #[.int .i64 pb, .int .i64 pi] 27)).alloc (.cells #[.int .i64 pb, .int .i64 qi] 27)).heap[(w.alloc (.cells #[.int .i64 pb, .int .i64 pi] 27)).heap.size]? = some (.cells #[.int .i64 pb, .int .i64 qi] 27 (0, 0)) := heap_alloc_new _ _
  have hb2 : Below w.heap.size w ((w.alloc (.cells #[.int .i64 pb, .int .i64 pi] 27)).alloc (.cells #[.int .i64 pb, .int .i64 qi] 27)) := (below1 w _).alloc (by rw [alloc_size]; omega) _
  have hq0' : ((w.alloc (.cells #[.int .i64 pb, .int .i64 pi] 27)).alloc (.cells #[.int .i64 pb, .int .i64 qi] 27)).heap[w.heap.size]? = some (.cells #[.int .i64 pb, .int .i64 pi] 27 (0, 0)) := (alloc_lt (by rw [alloc_size]; omega)).trans hq0
  obtain ⟨PB, hPB⟩ : ∃ PB, PB = w.heap.size := ⟨_, rfl⟩
  obtain ⟨QB, hQB⟩ : ∃ QB, QB = (w.alloc (.cells #[.int .i64 pb, .int .i64 pi] 27)).heap.size := ⟨_, rfl⟩
  have hQ2 : QB = PB + 1 := by rw [hQB, alloc_size, hPB]
  rw [← hPB] at hq0'
  rw [← hQB] at hq1
  have HP := Lib.hid (And.intro hq0' hq1); have HB2 := Lib.hid hb2; have HZ1 := Lib.hid (fun W => leave_bel hz1 W); have HZ2 := Lib.hid (fun W => leave_bel hz2 W); have HPB := Lib.hid hPB; have HQB := Lib.hid hQ2
  clear hq0 hq1 hb2 hq0' hPB hQB hQ2 hz1 hz2
  go_enter Tryz.func27, Tryz.ntmps27
  go_upto_region 1 with (fail)
  rw [← HPB.out, ← HQB.out]
  generalize (w.alloc (.cells #[.int .i64 pb, .int .i64 pi] 27)).alloc (.cells #[.int .i64 pb, .int .i64 qi] 27) = w2 at *
  have c0 : w2.cell? ⟨PB, 0, none⟩ = some (.int .i64 pb) := cell_row HP.out.1 0
  have c1 : w2.cell? ⟨PB, 1, none⟩ = some (.int .i64 pi) := cell_row HP.out.1 1
  go_upto_region 2 with (go_at_call 67; refine (HZ1.out _).mono ?_; rintro e w3 ⟨V, rfl, hb3⟩; have HB3 := Lib.hid hb3; clear hb3)
  clear c0 c1
  have hl4 : (w3.alloc (.cells #[leaveF V] 167)).heap[w3.heap.size]? = some (.cells #[leaveF V] 167 (0, 0)) := heap_alloc_new _ _
  have hl5 : ((w3.alloc (.cells #[leaveF V] 167)).alloc (.cells #[.slice (some ⟨w3.heap.size, 0, none⟩) 1 1] 78)).heap[w3.heap.size]? = some (.cells #[leaveF V] 167 (0, 0)) := (alloc_lt (by rw [alloc_size]; omega)).trans hl4
  have hx5 : ((w3.alloc (.cells #[leaveF V] 167)).alloc (.cells #[.slice (some ⟨w3.heap.size, 0, none⟩) 1 1] 78)).heap[(w3.alloc (.cells #[leaveF V] 167)).heap.size]? = some (.cells #[.slice (some ⟨w3.heap.size, 0, none⟩) 1 1] 78 (0, 0)) := heap_alloc_new _ _
  have hb5 : Below w3.heap.size w3 ((w3.alloc (.cells #[leaveF V] 167)).alloc (.cells #[.slice (some ⟨w3.heap.size, 0, none⟩) 1 1] 78)) := (below1 w3 _).alloc (by rw [alloc_size]; omega) _
  have hbw := HB2.out.trans ((HB3.out.trans (hb5.mono HB3.out.size)).mono HB2.out.size)
  have hp5 := (hb5.block PB (Nat.lt_of_lt_of_le (heap_lt HP.out.1) HB3.out.size)).trans ((HB3.out.block PB (heap_lt HP.out.1)).trans HP.out.1)
  have hq5 := (hb5.block QB (Nat.lt_of_lt_of_le (heap_lt HP.out.2) HB3.out.size)).trans ((HB3.out.block QB (heap_lt HP.out.2)).trans HP.out.2)
  obtain ⟨LB, hLB⟩ : ∃ LB, LB = w3.heap.size := ⟨_, rfl⟩
  obtain ⟨B, hB⟩ : ∃ B, B = (w3.alloc (.cells #[leaveF V] 167)).heap.size := ⟨_, rfl⟩
  have hB2 : B = LB + 1 := by rw [hB, alloc_size, hLB]
  have hBw : w.heap.size ≤ B := by have h1 := HB2.out.size; have h2 := HB3.out.size; rw [hB2, hLB]; omega
  rw [← hB, ← hLB] at hx5
  rw [← hLB] at hl5 hbw hp5 hq5
  rw [← hLB]
  (try rw [← hB2])
  have H5 := Lib.hid (And.intro hl5 (And.intro hx5 (And.intro hp5 (And.intro hq5 (And.intro hbw hBw)))))
  clear hl4 hl5 hx5 hb5 hbw hp5 hq5 hB hB2 hLB hBw HB3 HP HZ1 HPB HQB HB2
  generalize (w3.alloc (.cells #[leaveF V] 167)).alloc (.cells #[.slice (some ⟨LB, 0, none⟩) 1 1] 78) = w5 at *
  have a0 : w5.cell? ⟨PB, 0, none⟩ = some (.int .i64 pb) := cell_row H5.out.2.2.1 0
  have a1 : w5.cell? ⟨PB, 1, none⟩ = some (.int .i64 pi) := cell_row H5.out.2.2.1 1
  have b0 : w5.cell? ⟨QB, 0, none⟩ = some (.int .i64 pb) := cell_row H5.out.2.2.2.1 0
  have b1 : w5.cell? ⟨QB, 1, none⟩ = some (.int .i64 qi) := cell_row H5.out.2.2.2.1 1
  go_upto_region 3 with (fail)
  clear a0 a1
  have y5 : w5.cell? ⟨B, 0, none⟩ = some (.slice (some ⟨LB, 0, none⟩) 1 1) := cell_row H5.out.2.1 0
  go_region_law (first
    | (refine wp_append_task (LB0 := LB) (LB1 := w6.heap.size) z0 z1 rfl _ _ rfl rfl rfl ?_; intro cc row hc1 hc2 hr0 hr1; have y8 : ((w6.alloc (.cells #[leaveF V2] 167)).alloc (.cells row 167)).cell? ⟨B, 0, none⟩ = some (.slice (some ⟨LB, 0, none⟩) 1 1) := cell_row ((alloc_lt (Nat.lt_trans (heap_lt x6) (by rw [alloc_size]; omega))).trans ((alloc_lt (heap_lt x6)).trans x6)) 0; have f8 : ((w6.alloc (.cells #[leaveF V2] 167)).alloc (.cells row 167)).frozen? ⟨B, 0, none⟩ = false := froz_row ((alloc_lt (Nat.lt_trans (heap_lt x6) (by rw [alloc_size]; omega))).trans ((alloc_lt (heap_lt x6)).trans x6)) 0; have HX6 := Lib.hid x6; clear hc1 hc2 hr0 hr1 x6)
    | (go_simp; go_at_call 67; refine (HZ2.out _).mono ?_; rintro e w6 ⟨V2, rfl, hb6⟩; (have x6 : w6.heap[B]? = some (.cells #[(.slice (some ⟨LB, 0, none⟩) 1 1)] 78 (0, 0)) := (hb6.block B (heap_lt H5.out.2.1)).trans H5.out.2.1); (have l6 : w6.heap[LB]? = some (.cells #[leaveF V] 167 (0, 0)) := (hb6.block LB (heap_lt H5.out.1)).trans H5.out.1); (have y6 : w6.cell? ⟨B, 0, none⟩ = some (.slice (some ⟨LB, 0, none⟩) 1 1) := cell_row x6 0); (have y7 : (w6.alloc (.cells #[leaveF V2] 167)).cell? ⟨B, 0, none⟩ = some (.slice (some ⟨LB, 0, none⟩) 1 1) := cell_row ((alloc_lt (heap_lt x6)).trans x6) 0); (have z0 : (w6.alloc (.cells #[leaveF V2] 167)).cell? ⟨LB, 0, none⟩ = some (leaveF V) := cell_row ((alloc_lt (heap_lt l6)).trans l6) 0); (have z1 : (w6.alloc (.cells #[leaveF V2] 167)).cell? ⟨w6.heap.size, 0, none⟩ = some (leaveF V2) := cell_row (heap_alloc_new w6 _) 0); have HB6 := Lib.hid hb6; clear hb6 l6))
  all_goals
    (have hx8 := (alloc_lt (w := (w6.alloc (.cells #[leaveF V2] 167))) (ob := .cells row 167) (Nat.lt_trans (heap_lt HX6.out) (by rw [alloc_size]; omega))).trans ((alloc_lt (ob := .cells #[leaveF V2] 167) (heap_lt HX6.out)).trans HX6.out))
    (have hx9 := set_blk hx8 0 (.slice (some ⟨w6.heap.size + 1, 0, none⟩) 2 cc) _ rfl)
    (have hb6 := H5.out.2.2.2.2.1.trans (((Below.refl _ _).drew.trans HB6.out).mono H5.out.2.2.2.2.1.size))
    (have hb9 := ((hb6.alloc hb6.size (.cells #[leaveF V2] 167)).alloc (by rw [alloc_size]; have := hb6.size; omega) (.cells row 167)).setCell (p := ⟨B, 0, none⟩) H5.out.2.2.2.2.2 (.slice (some ⟨w6.heap.size + 1, 0, none⟩) 2 cc))
    go_wp2_with fail
    go_ret
    exact ⟨B, _, _, rfl, hb9.drew, cell_row hx9 0⟩
end Go.Proofs.YtokplfkhpjcfcaaGreat.S16
