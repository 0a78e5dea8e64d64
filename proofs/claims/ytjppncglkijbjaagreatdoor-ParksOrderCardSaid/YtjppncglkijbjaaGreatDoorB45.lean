/- Texts of this seat, one behind the other. -/
import Derived.Test.YtjppncglkijbjaaGreatDoorB44
import Derived.LoopTactic
import Derived.Deep.LoopGhost
set_option linter.unusedVariables false
set_option linter.unusedSimpArgs false
set_option linter.unusedVariables false
set_option linter.unusedSimpArgs false
namespace Go.Proofs.YtjppncglkijbjaaGreatDoor.S18
open Go.Proofs.YtjppncglkijbjaaGreatDoor Go.Proofs.YtjppncglkijbjaaGreatDoor.S11 Go.Proofs.YtjppncglkijbjaaGreatDoor.S12 Go.Proofs.YtjppncglkijbjaaGreatDoor.S13 Go.Proofs.YtjppncglkijbjaaGreatDoor.S14 Go.Proofs.YtjppncglkijbjaaGreatDoor.S15 Go.Proofs.YtjppncglkijbjaaGreatDoor.S16
open Go.RowKit

theorem m_pstep (a : Addr) (w : World) : (method 538 32 (.pointer (some a)) "Step").run Tryz.prog w = .ok (30, .pointer (some a)) w := by kernel_rfl
section
variable {w0 w w' : World} {base WB : Nat} {M : Sd} {r : List Part} {j e u B : Nat} {l l' : Rows} {X : Wm} {P : Pa}
theorem pa_step {P : Pa} (h : PaW w0 w base WB M r j e u P B X) (ok : PaOk P) (okE : PaOk (paE M P)) (ms : 0 ≤ M.sp ∧ M.sp ≤ 16) (hn : M.n ≤ 800000000) (hp : M.pn ≤ 800000000) (hlk : ∀ a, S2.look M.L a < 18446744073709551616) (ap : P.ln = 5 ∨ P.ln = 10 → AtPl w0 base M P.pb P.pi) :
    Calls Tryz.prog 30 #[Pw B, Pw WB] w fun e' w' => e' = .returned (.bool (decide ((paE M P).ln = 0))) ∧ PaS w0 w' base WB M r j e u P B := by
  obtain ⟨ln, D, pb, pi, E, F, ky, o⟩ := P
  have hln : ln ≤ 13 := ok.ln
  have hl7 : ln ≠ 7 := ok.l7
  rcases (show ln = 0 ∨ ln = 1 ∨ ln = 2 ∨ ln = 3 ∨ ln = 4 ∨ ln = 5 ∨ ln = 6 ∨ ln = 8 ∨ ln = 9 ∨ ln = 10 ∨ ln = 11 ∨ ln = 12 ∨ ln = 13 by omega) with rfl | rfl | rfl | rfl | rfl | rfl | rfl | rfl | rfl | rfl | rfl | rfl | rfl
  · exact pl_0 h ok okE ms hn hp
  · exact pl_1 h ok okE ms hn hp
  · exact pl_2 h ok okE ms hn hp hlk
  · exact pl_3 h ok okE ms hn hp
  · exact pl_4 h ok okE ms hn hp
  · exact pl_5 h ok okE ms hn hp (ap (.inl rfl))
  · exact pl_6 h ok okE ms hn hp
  · exact pl_8 h ok okE ms hn hp
  · exact pl_9 h ok okE ms hn hp
  · exact pl_10 h ok okE ms hn hp (ap (.inr rfl))
  · exact pl_11 h ok okE ms hn hp
  · exact pl_12 h ok okE ms hn hp
  · exact pl_13 h ok okE ms hn hp
theorem PaR.step (h : PaR w0 w base WB M r j e u P B) (g : Room w0 base M P) :
    Calls Tryz.prog 30 #[Pw B, Pw WB] w fun e' w' => e' = .returned (.bool (decide ((paE M P).ln = 0))) ∧ PaR w0 w' base WB (paM M P) r j e u (paE M P) B := by
  obtain ⟨ok, q1, q2, X, h⟩ := h
  have okE := ok.step g.ms h.look h.lk
  refine (pa_step h ok okE g.ms g.n g.p h.look g.ap).mono ?_
  rintro e' w' ⟨rfl, a1, a2, X', h'⟩
  refine ⟨rfl, okE, a1, a2, X', ?_⟩
  rw [List.set_comm _ _ h.eu.symm, List.set_set, List.set_set] at h'
  exact h'
theorem pg_asleep (h : Pg w0 w base WB M r X) {i : Nat} (hi : i < 128) : Calls Tryz.prog 41 #[Pw X.pB, .int .i64 (i : Int)] w fun e w' => e = .returned (.bool (M.pf i).a) ∧ w = w' := by
  have := S4.asleep_yes h.pw.permits hi
  rwa [show X.pf = M.pf from congrArg Sd.pf h.xm] at this
theorem PaR.pB (h : PaR w0 w base WB M r j e u P B) {i : Nat} (hi : i < 128) : ∃ pB, w.cell? ⟨WB, 2, none⟩ = some (Pw pB) ∧ Calls Tryz.prog 41 #[Pw pB, .int .i64 (i : Int)] w fun e w' => e = .returned (.bool (M.pf i).a) ∧ w = w' := by
  obtain ⟨ok, q1, q2, X, h⟩ := h
  obtain ⟨l, hw, _⟩ := h.at'
  exact ⟨X.pB, hw.pg.c.2.1, pg_asleep hw.pg hi⟩
set_option maxRecDepth 100000 in
set_option maxHeartbeats 4000000 in
theorem asleep_ {t n : Nat} (h : PaR w0 w base WB M r j e u P B) (ht : t < 64) (hn : n ≤ 150) (hl : ∀ i, i < n → (pitn (M, P) i).2.ln ≠ 0 ∧ (pitn (M, P) i).2.ln ≠ 8) (hr : ∀ i, i ≤ n → Room w0 base (pitn (M, P) i).1 (pitn (M, P) i).2) (he : (pitn (M, P) n).2.ln = 8) (hs : (pitn (M, P) (n + 1)).2.ln = 8) (ha : ((pitn (M, P) (n + 1)).1.pf (2 * t)).a = true) :
    Calls Tryz.prog 11 #[Pw WB, Pw B, .int .i64 (t : Int)] w fun e' w' => e' = .returned (.bool true) ∧ PaR w0 w' base WB (pitn (M, P) (n + 1)).1 r j e u (pitn (M, P) (n + 1)).2 B := by
  have H := Lib.hid h; have HL := Lib.hid hl; have HR := Lib.hid hr; have HE := Lib.hid (And.intro he (And.intro hs (And.intro ha (And.intro ht hn))))
  have em : wrap64 (2 * (t : Int)) = ((2 * t : Nat) : Int) := by unfold wrap64; omega
  have em2 : IntKind.i64.wrap (2 * (t : Int)) = ((2 * t : Nat) : Int) := by rw [IntKind.wrap_i64]; omega
  clear h hl hr he hs ha ht hn
  go_enter Tryz.func11, Tryz.ntmps11
  go_wp2_with fail
  go_loopg [7] (n + 1) (fun q s7 wx => ∃ i : Nat, i ≤ n ∧ q = n + 1 - i ∧ s7 = .int .i64 (i : Int) ∧ PaR w0 wx base WB (pitn (M, P) i).1 r j e u (pitn (M, P) i).2 B)
  case atStart => exact ⟨0, Nat.zero_le _, by omega, rfl, H.out⟩
  case round =>
    obtain ⟨i, hi, rfl, rfl, hp⟩ := hrel
    have d1 : decide ((i : Int) < 200) = true := decide_eq_true (by have := HE.out; omega)
    have hpk := hp.parked
    have hst := hp.step (HR.out i hi)
    have HI := Lib.hid hi
    by_cases he : i = n
    · rw [decide_eq_true (show (pitn (M, P) i).2.ln = 8 by rw [he]; exact HE.out.1)] at hpk
      have e2 : (paE (pitn (M, P) i).1 (pitn (M, P) i).2).ln = 8 := by rw [he]; exact HE.out.2.1
      rw [decide_eq_false (show ¬ (paE (pitn (M, P) i).1 (pitn (M, P) i).2).ln = 0 by rw [e2]; omega)] at hst
      have HPK := Lib.hid hpk; have HST := Lib.hid hst; have HN := Lib.hid he
      clear hpk hst hp hi he e2
      go_upto_region 6 with (go_at_call 37; refine HPK.out.mono ?_; rintro e' w6 ⟨rfl, rfl⟩)
      clear HPK
      go_wp2_with (first
        | (go_at_call 30; refine HST.out.mono ?_; rintro e' w7 ⟨rfl, hs⟩; obtain ⟨pB, c2, has⟩ := hs.pB (i := 2 * t) (by have := HE.out.2.2.2.1; omega); rw [show ((paM (pitn (M, P) i).1 (pitn (M, P) i).2).pf (2 * t)).a = true from by rw [HN.out]; exact HE.out.2.2.1] at has; have hpk2 := hs.parked; rw [decide_eq_true (show (paE (pitn (M, P) i).1 (pitn (M, P) i).2).ln = 8 from by rw [HN.out]; exact HE.out.2.1)] at hpk2; have HS := Lib.hid hs; have HPK2 := Lib.hid hpk2; have HAS := Lib.hid has; clear hs hpk2 has)
        | (go_at_call 37; refine HPK2.out.mono ?_; rintro e' w8 ⟨rfl, rfl⟩)
        | (go_at_call 41; refine HAS.out.mono ?_; rintro e' w9 ⟨rfl, rfl⟩))
      go_ret
      have hf := HS.out
      rw [HN.out] at hf
      exact ⟨rfl, hf⟩
    · have hlt : i < n := by omega
      obtain ⟨g0, g8⟩ := HL.out i hlt
      rw [decide_eq_false g8] at hpk
      have e2 : ¬ (paE (pitn (M, P) i).1 (pitn (M, P) i).2).ln = 0 := by
        show ¬ (pitn (M, P) (i + 1)).2.ln = 0
        by_cases hh : i + 1 = n
        · rw [hh, HE.out.1]; omega
        · exact (HL.out (i + 1) (by omega)).1
      rw [decide_eq_false e2] at hst
      have HPK := Lib.hid hpk; have HST := Lib.hid hst; have HN := Lib.hid hlt
      have hm9 : i + 1 ≤ 151 := by have := HE.out.2.2.2.2; omega
      clear hpk hst hp hi he e2 g0 g8 hlt
      go_wp2_with (first
        | (go_at_call 37; refine HPK.out.mono ?_; rintro e' w6 ⟨rfl, rfl⟩)
        | (go_at_call 30; refine HST.out.mono ?_; rintro e' w7 ⟨rfl, hs⟩))
      go_roundg (n + 1 - (i + 1))
      case measure => have := HI.out; omega
      case rel => exact ⟨i + 1, HN.out, by omega, by go_num, hs⟩
set_option maxRecDepth 100000 in
set_option maxHeartbeats 4000000 in
theorem run_p {n most : Nat} (h : PaR w0 w base WB M r j e u P B) (hn0 : 0 < n) (hnm : n ≤ most) (hm : most ≤ 100) (hr : ∀ i, i < n → Room w0 base (pitn (M, P) i).1 (pitn (M, P) i).2) (hpos : ∀ i, i < n → (pitn (M, P) i).2.ln ≠ 0) (hend : (pitn (M, P) n).2.ln = 0) :
    Calls Tryz.prog 15 #[Pw WB, .iface 32 (Pw B), .int .i64 (most : Int)] w fun e' w' => e' = .returned (.int .i64 (n : Int)) ∧ PaR w0 w' base WB (pitn (M, P) n).1 r j e u (pitn (M, P) n).2 B := by
  have hm1 := m_pstep ⟨B, 0, none⟩
  have H := Lib.hid h; have HP := Lib.hid (And.intro hpos hend); have HB := Lib.hid (And.intro hn0 (And.intro hnm hm)); have HR := Lib.hid hr
  clear h hpos hend hn0 hnm hm hr
  go_enter Tryz.func15, Tryz.ntmps15
  go_wp2_with fail
  go_loopg [7] n (fun q s7 wx => ∃ i : Nat, i < n ∧ q = n - i ∧ s7 = .int .i64 ((i + 1 : Nat) : Int) ∧ PaR w0 wx base WB (pitn (M, P) i).1 r j e u (pitn (M, P) i).2 B)
  case atStart => exact ⟨0, HB.out.1, by omega, rfl, H.out⟩
  case round =>
    obtain ⟨i, hi, rfl, rfl, hp⟩ := hrel
    have hst := hp.step (HR.out i hi)
    have hle : ((i + 1 : Nat) : Int) ≤ (most : Int) := by have := HB.out; omega
    have d1 : decide (((i + 1 : Nat) : Int) ≤ (most : Int)) = true := decide_eq_true hle
    have HI := Lib.hid hi
    by_cases he : i + 1 = n
    · have e0 : (paE (pitn (M, P) i).1 (pitn (M, P) i).2).ln = 0 := by
        have := HP.out.2
        rw [← he] at this
        exact this
      rw [decide_eq_true e0] at hst
      have HST2 := Lib.hid hst; have HE := Lib.hid he
      clear hst hp e0 he hi
      go_wp2_with (go_at_call 30; refine HST2.out.mono ?_; rintro e' w6 ⟨rfl, hs⟩)
      go_ret
      refine ⟨by rw [← HE.out]; simp, ?_⟩
      have := hs
      rw [← HE.out]
      exact this
    · have e0 : ¬ (paE (pitn (M, P) i).1 (pitn (M, P) i).2).ln = 0 := HP.out.1 (i + 1) (by omega)
      rw [decide_eq_false e0] at hst
      have HST2 := Lib.hid hst; have HE := Lib.hid he
      have hm9 : i + 1 ≤ 100 := by have := HB.out; omega
      clear hst hp e0 he hi
      go_wp2_with (go_at_call 30; refine HST2.out.mono ?_; rintro e' w6 ⟨rfl, hs⟩)
      go_roundg (n - (i + 1))
      case measure => have := HI.out; omega
      case rel => exact ⟨i + 1, by have := HI.out; have := HE.out; omega, rfl, by go_num, hs⟩
end
end Go.Proofs.YtjppncglkijbjaaGreatDoor.S18
set_option linter.unusedVariables false
set_option linter.unusedSimpArgs false
namespace Go.Proofs.YtjppncglkijbjaaGreatDoor.S18
open Go.Proofs.YtjppncglkijbjaaGreatDoor Go.Proofs.YtjppncglkijbjaaGreatDoor.S11 Go.Proofs.YtjppncglkijbjaaGreatDoor.S12 Go.Proofs.YtjppncglkijbjaaGreatDoor.S13 Go.Proofs.YtjppncglkijbjaaGreatDoor.S14 Go.Proofs.YtjppncglkijbjaaGreatDoor.S15 Go.Proofs.YtjppncglkijbjaaGreatDoor.S16
open Go.RowKit

theorem bring1024 {v : Nat} (h : v < 256) : S2.bring 1024 v = v := by
  have e : S2.byteB 1024 = true := by decide
  unfold S2.bring
  rw [e]
  show v % 256 = v
  omega
section
variable {M : Sd} {D : Pd} {a pi : Nat} {Q : List S10.Ent} {c : Ck} {st : Nat}
def mL (M : Sd) (a st : Nat) : Sd := (mE M a 2).acc 1 1024 st
theorem mL_look (h : Pl M D.k a pi Q) (hs : S2.look M.L 1024 = st) (hst : st < 256) (b : Nat) : S2.look (mL M a st).L b = if b = a then 1 else S2.look M.L b := by
  have ha := h.ain
  by_cases hb : b = 1024
  · subst hb
    rw [if_neg (by omega), hs]
    show S2.look (S2.putL (mE M a 2).L 1024 (S2.bring 1024 st)) 1024 = st
    rw [S2.look_put_same, bring1024 hst]
  · unfold mL
    rw [acc_other hb, mE_look h.x ha]
theorem ck_in (h : Pl M D.k a pi Q) (ht : D.t < 64) (hk : D.k < 4294967296) (hh : D.hk = some c) (hca : c.a = 1024) (hs : S2.look M.L 1024 = st) :
    (∀ i, i < 4 → (pitn (M, pa0 D) i).2.ln = 1 ∨ (pitn (M, pa0 D) i).2.ln = 2) ∧ ∃ E3, pitn (M, pa0 D) 4 = ((mL M a st, if c.holds st then (⟨4, D, 2, pi, E3, fr0 0, 0, 0⟩ : Pa) else ⟨3, D, 2, pi, E3, fr0 a, 0, 0⟩) : Sd × Pa) := by
  have ha := h.ain
  obtain ⟨g1, E3, g2⟩ := prun_in (D := D) h.x hk h.ae h.a0
  rw [bits2, ← h.pe, hh] at g2
  have g2' : pitn (M, pa0 D) 3 = (mE M a 2, (⟨2, D, 2, pi, E3, fr0 0, 0, 0⟩ : Pa)) := g2
  have hl : S2.look (mE M a 2).L 1024 = st := by rw [mE_look h.x ha, if_neg (by omega)]; exact hs
  refine ⟨fun i hi => ?_, E3, ?_⟩
  · rcases (show i < 3 ∨ i = 3 by omega) with h3 | rfl
    · exact .inl (g1 i h3)
    · rw [g2']; exact .inr rfl
  · show pit (pitn (M, pa0 D) 3) = _
    rw [g2']
    show (lookM (mE M a 2) D.hk, lookE (mE M a 2) (⟨2, D, 2, pi, E3, fr0 0, 0, 0⟩ : Pa) D.hk) = _
    rw [hh]
    show ((mE M a 2).acc 1 c.a (S2.look (mE M a 2).L c.a), (if c.holds (S2.look (mE M a 2).L c.a) then (⟨4, D, 2, pi, E3, fr0 0, 0, 0⟩ : Pa) else ⟨3, D, 2, pi, E3, fr0 (plA 2 pi), 0, 0⟩)) = _
    rw [hca, hl, h.pl]
    rfl
theorem ck_no (h : Pl M D.k a pi Q) (ht : D.t < 64) (hk : D.k < 4294967296) (hh : D.hk = some c) (hca : c.a = 1024) (hs : S2.look M.L 1024 = st) (hst : st < 256) (hno : c.holds st = false) :
    (∀ i, i < 5 → (pitn (M, pa0 D) i).2.ln = 1 ∨ (pitn (M, pa0 D) i).2.ln = 2 ∨ (pitn (M, pa0 D) i).2.ln = 3) ∧ ∃ P', pitn (M, pa0 D) 5 = ((mL M a st).acc 5 a 0, P') ∧ P'.ln = 0 ∧ P'.o = 1 := by
  obtain ⟨g1, E3, g2⟩ := ck_in h ht hk hh hca hs
  rw [hno, if_neg (by decide)] at g2
  have ha := h.ain
  refine ⟨fun i hi => ?_, ⟨0, D, 2, pi, E3, fr0 a, 0, 1⟩, ?_, rfl, rfl⟩
  · rcases (show i < 4 ∨ i = 4 by omega) with h4 | rfl
    · have := g1 i h4; omega
    · rw [g2]; exact .inr (.inr rfl)
  · show pit (pitn (M, pa0 D) 4) = _
    rw [g2]
    exact prun_free (M := mL M a st) (P := ⟨3, D, 2, pi, E3, fr0 a, 0, 0⟩) (.inl ⟨rfl, rfl⟩) rfl ha (by rw [mL_look h hs hst, if_pos rfl])
theorem ck_no_pl (h : Pl M D.k a pi Q) (hs : S2.look M.L 1024 = st) (hst : st < 256) : Pl ((mL M a st).acc 5 a 0) D.k a pi Q ∧ S2.look ((mL M a st).acc 5 a 0).L 1024 = st := by
  have ha := h.ain
  refine ⟨⟨by rw [acc_other (by omega), mL_look h hs hst, if_neg (by omega)]; exact h.x, h.ae, acc_same (by omega), h.pe, h.len, h.q, h.sp⟩, ?_⟩
  rw [acc_other (by omega), mL_look h hs hst, if_neg (by omega)]; exact hs
def ckM (M : Sd) (D : Pd) (a pi st : Nat) : Sd := (queM ((mL M a st).acc 2 (64 + D.t) D.k) D ((2 : Nat) : Int) pi).acc 5 a 0
theorem ck_yes (h : Pl M D.k a pi Q) (ht : D.t < 64) (hk : D.k < 4294967296) (hh : D.hk = some c) (hca : c.a = 1024) (hs : S2.look M.L 1024 = st) (hst : st < 256) (hy : c.holds st = true) :
    (∀ i, i < 7 → (pitn (M, pa0 D) i).2.ln ≠ 0 ∧ (pitn (M, pa0 D) i).2.ln ≠ 8) ∧
    (∀ i, i < 7 → ((pitn (M, pa0 D) i).2.ln = 5 ∨ (pitn (M, pa0 D) i).2.ln = 10) → (pitn (M, pa0 D) i).2.pb = 2 ∧ (pitn (M, pa0 D) i).2.pi = pi ∧ (pitn (M, pa0 D) i).1.m = M.m ∧ (pitn (M, pa0 D) i).1.nD = M.nD) ∧
    ∃ E7 F7, pitn (M, pa0 D) 7 = ((ckM M D a pi st, (⟨8, D, 2, pi, E7, F7, 0, 0⟩ : Pa)) : Sd × Pa) := by
  have ha := h.ain
  obtain ⟨g1, E3, g2⟩ := ck_in h ht hk hh hca hs
  rw [hy, if_pos rfl] at g2
  obtain ⟨f1, f2, f3, F6, f4⟩ := prun_4 (M := mL M a st) (D := D) (pb := 2) (pi := pi) (ky := 0) (E := E3) (F := fr0 0) ht h.pl ha (by rw [mL_look h hs hst, if_pos rfl])
  have ad : ∀ n, pitn (M, pa0 D) (4 + n) = pitn (mL M a st, ⟨4, D, 2, pi, E3, fr0 0, 0, 0⟩) n := fun n => by rw [pitn_add, g2]
  have a4 : (pitn (M, pa0 D) 4).2.ln = 4 := by rw [g2]
  have a5 : (pitn (M, pa0 D) 5).2 = ⟨5, D, 2, pi, E3, fr0 0, 0, 0⟩ := by rw [show 5 = 4 + 1 from rfl, ad]; exact f1
  have a5m : (pitn (M, pa0 D) 5).1 = (mL M a st).acc 2 (64 + D.t) D.k := by rw [show 5 = 4 + 1 from rfl, ad]; exact f2
  have a6 : (pitn (M, pa0 D) 6).2.ln = 6 := by rw [show 6 = 4 + 2 from rfl, ad]; exact f3
  refine ⟨fun i hi => ?_, fun i hi hl => ?_, E3, F6, by rw [show 7 = 4 + 3 from rfl, ad]; exact f4⟩
  · rcases (show i < 4 ∨ i = 4 ∨ i = 5 ∨ i = 6 by omega) with h3 | rfl | rfl | rfl
    · have := g1 i h3; omega
    · rw [a4]; omega
    · rw [a5]; exact ⟨by show 5 ≠ 0; omega, by show 5 ≠ 8; omega⟩
    · rw [a6]; omega
  · rcases (show i < 4 ∨ i = 4 ∨ i = 5 ∨ i = 6 by omega) with h3 | rfl | rfl | rfl
    · have := g1 i h3; omega
    · rw [a4] at hl; omega
    · rw [a5, a5m]; exact ⟨rfl, rfl, rfl, rfl⟩
    · rw [a6] at hl; omega
theorem ckM_look (h : Pl M D.k a pi Q) (ht : D.t < 64) (hs : S2.look M.L 1024 = st) (hst : st < 256) (b : Nat) : S2.look (ckM M D a pi st).L b = if b = 64 + D.t then D.k else S2.look M.L b := by
  have ha := h.ain
  by_cases e : b = a
  · subst e
    rw [if_neg (by omega), h.a0]
    exact acc_same (by omega)
  · have e1 : S2.look (ckM M D a pi st).L b = S2.look ((mL M a st).acc 2 (64 + D.t) D.k).L b := acc_other e
    rw [e1]
    by_cases e2 : b = 64 + D.t
    · subst e2; rw [if_pos rfl]; exact acc_same (by omega)
    · rw [if_neg e2, acc_other e2, mL_look h hs hst, if_neg e]
theorem ckM_pl (h : Pl M D.k a pi Q) (ht : D.t < 64) (hs : S2.look M.L 1024 = st) (hst : st < 256) : Pl (ckM M D a pi st) D.k a pi (Q ++ [entD D]) := by
  have ha := h.ain
  have hp := h.pil
  have e : (ckM M D a pi st).m 2 = (M.m 2).set pi { (M.m 2)[pi]! with q := qAt M 2 pi ++ [entD D] } := by
    have e1 : (ckM M D a pi st).m = S10.upd M.m ((2 : Nat) : Int) ((M.m ((2 : Nat) : Int)).set pi { (M.m ((2 : Nat) : Int))[pi]! with q := qAt M ((2 : Nat) : Int) pi ++ [entD D] }) := rfl
    rw [e1]
    exact S10.upd_same M.m ((2 : Nat) : Int) _
  refine ⟨by rw [ckM_look h ht hs hst, if_neg (by omega)]; exact h.x, h.ae, by rw [ckM_look h ht hs hst, if_neg (by omega)]; exact h.a0, h.pe, by rw [e, List.length_set]; exact h.len, ?_, h.sp⟩
  show ((ckM M D a pi st).m 2)[pi]!.q = _
  rw [e, ← h.q, getElem!_pos _ pi (by rw [List.length_set, h.len]; exact hp), List.getElem_set_self]
theorem ckM_rest : (ckM M D a pi st).T = M.T ∧ (ckM M D a pi st).pf = S4.updP M.pf (2 * D.t) S4.pk0 ∧ (ckM M D a pi st).nD.length ≤ M.nD.length + 1 := by
  refine ⟨rfl, rfl, ?_⟩
  show (addD M.nD _).length ≤ _
  unfold addD
  split <;> (try split) <;> simp <;> omega
theorem pkM_rest : (pkM M D a pi).T = M.T ∧ (pkM M D a pi).pf = S4.updP M.pf (2 * D.t) S4.pk0 ∧ (pkM M D a pi).nD.length ≤ M.nD.length + 1 := by
  refine ⟨rfl, rfl, ?_⟩
  show (addD M.nD _).length ≤ _
  unfold addD
  split <;> (try split) <;> simp <;> omega
theorem ltM_lookc (h : Pl M D.k a pi Q) (ht : D.t < 64) (hkw : S2.look M.L (64 + D.t) = D.k) (hh : D.hk = some c) (hca : c.a = 1024) (hb8 : S2.look M.L 1024 < 256) (b : Nat) (hb : b ≠ 1024) : S2.look (ltM M D a pi).L b = S2.look M.L b := by
  have ha := h.ain
  rw [ltM_eq]
  by_cases e : b = a
  · subst e; rw [h.a0]; exact acc_same (by omega)
  · rw [acc_other e]
    have e2 : S2.look (clrL (m7 M D a pi) D (g7 M D a pi)).L b = S2.look (m7 M D a pi).L b := by
      unfold clrL
      rw [hh]
      show S2.look (if g7 M D a pi = true ∧ ¬ c.clr = 0 then (m7 M D a pi).acc 6 c.a (S2.look (m7 M D a pi).L c.a &&& S2.cpl c.clr) else m7 M D a pi).L b = _
      split
      · exact acc_other (by rw [hca]; exact hb)
      · rfl
    rw [e2, m7_look h ht hkw, if_neg e]
theorem ltM_1024 (h : Pl M D.k a pi Q) (ht : D.t < 64) (hkw : S2.look M.L (64 + D.t) = D.k) (hh : D.hk = some c) (hca : c.a = 1024) (hs : S2.look M.L 1024 = st) (hst : st < 256) :
    S2.look (ltM M D a pi).L 1024 = if g7 M D a pi = true ∧ ¬ c.clr = 0 then (st &&& S2.cpl c.clr) else st := by
  have ha := h.ain
  have l7 : S2.look (m7 M D a pi).L 1024 = st := by rw [m7_look h ht hkw, if_neg (by omega)]; exact hs
  rw [ltM_eq, acc_other (by omega)]
  unfold clrL
  rw [hh]
  show S2.look (if g7 M D a pi = true ∧ ¬ c.clr = 0 then (m7 M D a pi).acc 6 c.a (S2.look (m7 M D a pi).L c.a &&& S2.cpl c.clr) else m7 M D a pi).L 1024 = _
  rw [hca, l7]
  split
  · show S2.look (S2.putL (m7 M D a pi).L 1024 (S2.bring 1024 (st &&& S2.cpl c.clr))) 1024 = _
    rw [S2.look_put_same, bring1024 (Nat.lt_of_le_of_lt Nat.and_le_left hst)]
  · exact l7
end
section
variable {w0 w w' : World} {base WB : Nat} {M : Sd} {r : List Part} {j e u B : Nat} {X : Wm} {P : Pa}
theorem pg_drop (h : Pg w0 w base WB M r X) : Pg w0 w base WB M [] X :=
  ⟨Parts.left (l' := r) (by rw [List.append_nil]; exact h.ps), h.wB, h.xm, h.bl⟩
theorem PaR.world (h : PaR w0 w base WB M r j e u P B) : ∃ X, Pg w0 w base WB M [] X := by
  obtain ⟨ok, q1, q2, X, h⟩ := h
  obtain ⟨l, hw, _⟩ := h.at'
  exact ⟨X, pg_drop hw.pg⟩
theorem PaR.op {f : Nat} {args : Wm → Array Value} {v : Wm → Ending → Prop} {M' : Sd} (h : PaR w0 w base WB M r j e u P B) (hop : ∀ r X, Pg w0 w base WB M r X → Calls Tryz.prog f (args X) w fun e w' => v X e ∧ ∃ X', Pg w0 w' base WB M' r X') :
    ∃ X r', Pg w0 w base WB M r' X ∧ Calls Tryz.prog f (args X) w fun e' w' => v X e' ∧ PaR w0 w' base WB M' r j e u P B := by
  obtain ⟨ok, q1, q2, X, h⟩ := h
  obtain ⟨l, hw, hs⟩ := h.at'
  refine ⟨X, _, hw.pg, (hop _ X hw.pg).mono ?_⟩
  rintro e' w' ⟨hv, X', hp⟩
  exact ⟨hv, ok, q1, q2, X', h.mkW rfl (hw.pgq hp) hs⟩
theorem Pg.tick_ (h : Pg w0 w base WB M r X) (n : Nat) (hn : n ≤ 18446744073709551615) :
    Calls Tryz.prog 14 #[Pw X.kB, .int .u64 n] w fun e w' => e = .returned (.tuple #[]) ∧ ∃ X', Pg w0 w' base WB (M.tick n) r X' := by
  refine (S3.tick_any h.pw.clock n hn).mono ?_
  rintro e w' ⟨rfl, hc, ht⟩
  obtain ⟨hp, hb⟩ := t_clock (i := 1) h.ps rfl hc (fun g e => .inl e) (ht.mono (fun k _ e => .inl e))
  refine ⟨rfl, { X with T := S3.sat X.T n }, hp, h.wB, ?_, h.bl.trans hb⟩
  rw [← h.xm]; rfl
end
end Go.Proofs.YtjppncglkijbjaaGreatDoor.S18
set_option linter.unusedVariables false
set_option linter.unusedSimpArgs false
namespace Go.Proofs.YtjppncglkijbjaaGreatDoor.S18
open Go.Proofs.YtjppncglkijbjaaGreatDoor Go.Proofs.YtjppncglkijbjaaGreatDoor.S11 Go.Proofs.YtjppncglkijbjaaGreatDoor.S12 Go.Proofs.YtjppncglkijbjaaGreatDoor.S13 Go.Proofs.YtjppncglkijbjaaGreatDoor.S14 Go.Proofs.YtjppncglkijbjaaGreatDoor.S15 Go.Proofs.YtjppncglkijbjaaGreatDoor.S16
open Go.RowKit

theorem lay34 : S10.Lay 27 3 1 8 (.int .i64 0) := ⟨Tryz.underlying27, S10.info_of (by kernel_rfl), rfl, by decide, by decide⟩
def iV (x : S10.Ent) : Value := .int .i64 x.t
section
variable {w0 w w' : World} {base WB : Nat} {M : Sd} {r : List Part} {X : Wm} {key a pi : Nat} {Q : List S10.Ent}
set_option maxRecDepth 100000 in
set_option maxHeartbeats 4000000 in
theorem queue_of (h : Pg w0 w base WB M r X) (pl : Pl M key a pi Q) (hkey : key < 4294967296) (hQ : ∀ i, i < Q.length → Q[i]!.k = (key : Int)) (hlen : Q.length ≤ 100) :
    Calls Tryz.prog 13 #[Pw WB, .int .u32 (key : Int)] w fun e w' => ∃ A c, e = .returned (.slice A Q.length c) ∧ S10.Row w' w.heap.size 1 (.slice A Q.length c) Q.length (Q.map iV) ∧ Below w.heap.size w w' := by
  have hkc : ∀ W, Below w.heap.size w W → W.cell? ⟨WB, 4, none⟩ = some X.ts ∧ W.cell? ⟨WB, 0, none⟩ = some (Pw X.cB) := fun W b => ⟨(h.new b).k4, (h.new b).c.1⟩
  have hpk : ∀ W, Below w.heap.size w W → Calls Tryz.prog 42 #[Pw X.cB, .int .u32 0] W fun e w' => e = .returned (.int .u64 2) ∧ W = w' := fun W b => by
    have := pg_peek (h.new b) (a := 0) (by omega)
    rw [pl.x] at this
    exact this
  have HPL : Hid (∀ W, Calls Tryz.prog 32 #[.int .u32 (key : Int), .int .u64 2] W fun e w' => e = .returned (.agg #[.int .i64 2, .int .i64 (pi : Int)]) ∧ Below W.heap.size W w') := Lib.hid (fun W => by
    have := place_any key 2 hkey (by omega) W
    unfold placeV at this
    rw [bits2, ← pl.pe] at this
    exact this)
  have hqu : ∀ W, Below w.heap.size w W → Calls Tryz.prog 38 #[X.ts, .agg #[.int .i64 2, .int .i64 (pi : Int)]] W fun e w' => ∃ A', e = .returned (.slice A' Q.length Q.length) ∧ S10.Rd w' w'.heap.size A' (S10.flat Q) ∧ Below W.heap.size W w' := fun W hW => by
    have := (h.new hW).queue (b := 2) inI2 (i := pi) (by rw [show M.m 2 = M.m ((2 : Nat) : Int) from rfl, show (M.m ((2 : Nat) : Int)).length = 4 from pl.len]; exact pl.pil) (by rw [pl.q]; omega)
    rw [pl.q] at this
    refine this.mono ?_
    rintro e w' ⟨A', rfl, hr, hb⟩
    exact ⟨A', rfl, hr.rd, hb⟩
  obtain ⟨ts, hts⟩ : ∃ ts, ts = X.ts := ⟨_, rfl⟩
  obtain ⟨cb, hcb⟩ : ∃ cb, cb = X.cB := ⟨_, rfl⟩
  rw [← hts, ← hcb] at hkc
  rw [← hcb] at hpk
  rw [← hts] at hqu
  have HKC := Lib.hid hkc; have HPK := Lib.hid hpk; have HQU := Lib.hid hqu; have HQ := Lib.hid hQ
  obtain ⟨n, hn⟩ : ∃ n, n = Q.length := ⟨_, rfl⟩
  rw [← hn] at HQU hlen HQ ⊢
  have HN := Lib.hid hn
  clear h pl hkey hkc hpk hqu hts hcb hn hQ
  go_enter Tryz.func13, Tryz.ntmps13
  go_upto_region 1 with fail
  refine wp_region_held_drew (S := fun w' => w'.cell? ⟨WB, 4, none⟩ = some ts ∧ w'.cell? ⟨WB, 0, none⟩ = some (Pw cb)) (by kernel_rfl) ?_ (fun hHeld => ?_)
  · exact (HKC.out _ (Below.refl _ _).drew)
  refine wpAnyH_take (i := 0) (oi := ({ dst := some 8, op := Op.move (Operand.tmp 0), type := 24, pos := "outright.go:42", after := #[], guard := none } : Oper)) (v := ?vqom1) rfl (by kernel_rfl) (by kernel_rfl) (by kernel_rfl) (fun _ _ _ h => h) (Or.inl ⟨by rfl, fun w hSw => ?hyqom1⟩) (by assumption) ?rqom1
  case hyqom1 => (try dsimp only at hSw); go_simp; (try with_reducible rfl)
  (try simp only [Act.put, List.setIfInBounds_toArray, List.set_cons_zero, List.set_cons_succ])
  refine wpAnyH_take (i := 1) (oi := ({ dst := some 9, op := Op.nilCheck (Operand.tmp 8), type := 0, pos := "outright.go:42", after := #[{ on := 0, ground := Ground.data }], guard := none } : Oper)) (v := ?vqom2) rfl (by kernel_rfl) (by kernel_rfl) (by kernel_rfl) (fun _ _ _ h => h) (Or.inl ⟨by rfl, fun w hSw => ?hyqom2⟩) (by assumption) ?rqom2
  case hyqom2 => (try dsimp only at hSw); go_simp; (try with_reducible rfl)
  (try simp only [Act.put, List.setIfInBounds_toArray, List.set_cons_zero, List.set_cons_succ])
  refine wpAnyH_take (i := 2) (oi := ({ dst := some 10, op := Op.fieldAddr 47 (Operand.tmp 9) 4, type := 0, pos := "outright.go:42", after := #[{ on := 1, ground := Ground.data }], guard := none } : Oper)) (v := ?vqom3) rfl (by kernel_rfl) (by kernel_rfl) (by kernel_rfl) (fun _ _ _ h => h) (Or.inl ⟨by rfl, fun w hSw => ?hyqom3⟩) (by assumption) ?rqom3
  case hyqom3 => (try dsimp only at hSw); go_simp; (try with_reducible rfl)
  (try simp only [Act.put, List.setIfInBounds_toArray, List.set_cons_zero, List.set_cons_succ])
  refine wpAnyH_take (i := 3) (oi := ({ dst := some 11, op := Op.load 43 (Operand.tmp 10), type := 43, pos := "outright.go:42", after := #[{ on := 2, ground := Ground.data }], guard := none } : Oper)) (v := ?vqom4) rfl (by kernel_rfl) (by kernel_rfl) (by kernel_rfl) (fun _ _ _ h => h) (Or.inl ⟨by rfl, fun w hSw => ?hyqom4⟩) (by assumption) ?rqom4
  case hyqom4 => (try dsimp only at hSw); go_simp; (try with_reducible rfl)
  (try simp only [Act.put, List.setIfInBounds_toArray, List.set_cons_zero, List.set_cons_succ])
  refine wpAnyH_take (i := 4) (oi := ({ dst := some 12, op := Op.move (Operand.tmp 1), type := 35, pos := "outright.go:42", after := #[], guard := none } : Oper)) (v := ?vqom5) rfl (by kernel_rfl) (by kernel_rfl) (by kernel_rfl) (fun _ _ _ h => h) (Or.inl ⟨by rfl, fun w hSw => ?hyqom5⟩) (by assumption) ?rqom5
  case hyqom5 => (try dsimp only at hSw); go_simp; (try with_reducible rfl)
  (try simp only [Act.put, List.setIfInBounds_toArray, List.set_cons_zero, List.set_cons_succ])
  refine wpAnyH_take (i := 5) (oi := ({ dst := some 13, op := Op.move (Operand.tmp 0), type := 24, pos := "outright.go:42", after := #[], guard := none } : Oper)) (v := ?vqom6) rfl (by kernel_rfl) (by kernel_rfl) (by kernel_rfl) (fun _ _ _ h => h) (Or.inl ⟨by rfl, fun w hSw => ?hyqom6⟩) (by assumption) ?rqom6
  case hyqom6 => (try dsimp only at hSw); go_simp; (try with_reducible rfl)
  (try simp only [Act.put, List.setIfInBounds_toArray, List.set_cons_zero, List.set_cons_succ])
  refine wpAnyH_take (i := 6) (oi := ({ dst := some 14, op := Op.nilCheck (Operand.tmp 13), type := 0, pos := "outright.go:42", after := #[{ on := 5, ground := Ground.data }], guard := none } : Oper)) (v := ?vqom7) rfl (by kernel_rfl) (by kernel_rfl) (by kernel_rfl) (fun _ _ _ h => h) (Or.inl ⟨by rfl, fun w hSw => ?hyqom7⟩) (by assumption) ?rqom7
  case hyqom7 => (try dsimp only at hSw); go_simp; (try with_reducible rfl)
  (try simp only [Act.put, List.setIfInBounds_toArray, List.set_cons_zero, List.set_cons_succ])
  refine wpAnyH_take (i := 7) (oi := ({ dst := some 15, op := Op.fieldAddr 47 (Operand.tmp 14) 0, type := 0, pos := "outright.go:42", after := #[{ on := 6, ground := Ground.data }], guard := none } : Oper)) (v := ?vqom8) rfl (by kernel_rfl) (by kernel_rfl) (by kernel_rfl) (fun _ _ _ h => h) (Or.inl ⟨by rfl, fun w hSw => ?hyqom8⟩) (by assumption) ?rqom8
  case hyqom8 => (try dsimp only at hSw); go_simp; (try with_reducible rfl)
  (try simp only [Act.put, List.setIfInBounds_toArray, List.set_cons_zero, List.set_cons_succ])
  refine wpAnyH_take (i := 8) (oi := ({ dst := some 16, op := Op.load 39 (Operand.tmp 15), type := 39, pos := "outright.go:42", after := #[{ on := 7, ground := Ground.data }], guard := none } : Oper)) (v := ?vqom9) rfl (by kernel_rfl) (by kernel_rfl) (by kernel_rfl) (fun _ _ _ h => h) (Or.inl ⟨by rfl, fun w hSw => ?hyqom9⟩) (by assumption) ?rqom9
  case hyqom9 => (try dsimp only at hSw); go_simp; (try with_reducible rfl)
  (try simp only [Act.put, List.setIfInBounds_toArray, List.set_cons_zero, List.set_cons_succ])
  refine wpAnyH_ready (rs := [9]) (by kernel_rfl) (by simp) ?_
  refine AllReadyH.cons (o := ({ dst := some 17, op := Op.call { callee := Callee.value (Operand.func 42), args := #[Operand.tmp 16, Operand.const (Value.int IntKind.u32 0)], argTypes := #[39, 35] }, type := 23, pos := "outright.go:42", after := #[{ on := 8, ground := Ground.data }], guard := none } : Oper)) rfl (fun Kq hKq => ?_) AllReadyH.nil
  go_simp
  (refine (HPK.out _ (Below.refl _ _).drew).mono ?_; rintro e' w1 ⟨rfl, rfl⟩)
  refine hKq.out _ _ ?_ (fun hHeld => ?_)
  · exact hHeld
  clear hKq Kq
  (try simp only [Act.put, List.setIfInBounds_toArray, List.set_cons_zero, List.set_cons_succ])
  refine wpAnyH_ready (rs := [10]) (by kernel_rfl) (by simp) ?_
  refine AllReadyH.cons (o := ({ dst := some 18, op := Op.call { callee := Callee.value (Operand.func 32), args := #[Operand.tmp 12, Operand.tmp 17], argTypes := #[35, 23] }, type := 97, pos := "outright.go:42", after := #[{ on := 4, ground := Ground.data }, { on := 9, ground := Ground.data }, { on := 9, ground := Ground.chain }], guard := none } : Oper)) rfl (fun Kq hKq => ?_) AllReadyH.nil
  go_simp
  (refine (HPL.out _).mono ?_; rintro e' w2 ⟨rfl, hb2⟩; have HB2 := Lib.hid ((Below.refl _ _).drew.trans hb2); clear hb2)
  refine hKq.out _ _ ?_ (fun hHeld => ?_)
  · exact (HKC.out _ HB2.out)
  clear hKq Kq
  (try simp only [Act.put, List.setIfInBounds_toArray, List.set_cons_zero, List.set_cons_succ])
  refine wpAnyH_ready (rs := [11]) (by kernel_rfl) (by simp) ?_
  refine AllReadyH.cons (o := ({ dst := some 19, op := Op.call { callee := Callee.value (Operand.func 38), args := #[Operand.tmp 11, Operand.tmp 18], argTypes := #[43, 97] }, type := 109, pos := "outright.go:42", after := #[{ on := 3, ground := Ground.data }, { on := 10, ground := Ground.data }, { on := 10, ground := Ground.chain }], guard := none } : Oper)) rfl (fun Kq hKq => ?_) AllReadyH.nil
  go_simp
  (refine (HQU.out _ HB2.out).mono ?_; rintro e' w3 ⟨A3, rfl, hr3, hb3⟩; have HB3 := Lib.hid (HB2.out.trans (hb3.mono HB2.out.size)); have HR3 := Lib.hid hr3; clear hr3 hb3)
  refine hKq.out _ _ ?_ (fun hHeld => ?_)
  · exact (HKC.out _ HB3.out)
  clear hKq Kq
  (try simp only [Act.put, List.setIfInBounds_toArray, List.set_cons_zero, List.set_cons_succ])
  refine wpAnyH_take (i := 12) (oi := ({ dst := some 5, op := Op.assign (Operand.tmp 19), type := 109, pos := "outright.go:42", after := #[{ on := 11, ground := Ground.data }, { on := 11, ground := Ground.chain }, { on := 0, ground := Ground.phase }, { on := 1, ground := Ground.phase }, { on := 2, ground := Ground.phase }, { on := 3, ground := Ground.phase }, { on := 4, ground := Ground.phase }, { on := 5, ground := Ground.phase }, { on := 6, ground := Ground.phase }, { on := 7, ground := Ground.phase }, { on := 8, ground := Ground.phase }, { on := 9, ground := Ground.phase }, { on := 10, ground := Ground.phase }, { on := 11, ground := Ground.phase }], guard := none } : Oper)) (v := ?vqom10) rfl (by kernel_rfl) (by kernel_rfl) (by kernel_rfl) (fun _ _ _ h => h) (Or.inl ⟨by rfl, fun w hSw => ?hyqom10⟩) (by assumption) ?rqom10
  case hyqom10 => (try dsimp only at hSw); go_simp; (try with_reducible rfl)
  (try simp only [Act.put, List.setIfInBounds_toArray, List.set_cons_zero, List.set_cons_succ])
  refine wpAnyH_done (by kernel_rfl) ?_ _
  clear hHeld HKC HPK HQU HPL
  go_wp2_with fail
  go_loopg [6, 7] n (fun q s6 s7 wx => ∃ k : Nat, k ≤ n ∧ q = n - k ∧ s7 = .int .i64 (k : Int) ∧ Below w.heap.size w wx ∧ Below w3.heap.size w3 wx ∧ S10.Row wx w3.heap.size 1 s6 k ((Q.take k).map iV))
  case atStart => exact ⟨0, by omega, rfl, rfl, HB3.out, Below.refl _ _, S10.row_nil _ _ _⟩
  case round =>
    obtain ⟨k, hk, rfl, rfl, hb, hb3, hrow⟩ := hrel
    have HB := Lib.hid hb; have HROW := Lib.hid hrow; have HBQ := Lib.hid hb3
    clear hb hrow hb3
    by_cases hkn : k < n
    · obtain ⟨lb', lo, rfl, hlb, c0, c1, c2⟩ := (HR3.out.below HBQ.out (Nat.le_refl _)).ent (i := k) (by have := HN.out; omega)
      rw [HQ.out k hkn] at c1
      have hsn : (Q.take (k + 1)).map iV = (Q.take k).map iV ++ [.int .i64 Q[k]!.t] := by
        have hk2 : k < Q.length := by have := HN.out; omega
        rw [List.take_add_one, List.getElem?_eq_getElem hk2, getElem!_pos Q k hk2, List.map_append]; rfl
      generalize hd : Q[k]!.t = d at *
      have HSN := Lib.hid hsn
      clear hd hsn c2
      go_wp2_with (at_builtin; refine S10.wpList_append_row lay34 rfl _ _ rfl rfl (HROW.out.alloc _) (fun u hu => by obtain ⟨x, _, rfl⟩ := List.mem_map.1 hu; rfl) (by have := HBQ.out.size; simp; omega) 1 rfl (S10.rd_one1 wr (.int .i64 d) 3) rfl (fun u hu => by rw [List.mem_singleton] at hu; rw [hu]; rfl) (by omega) ?_; intro v' w4 hr4 ht4 _; (rw [← HSN.out] at hr4); (have HR4 := Lib.hid hr4); (have HT4 := Lib.hid ht4); (clear hr4 ht4))
      go_roundg (n - (k + 1))
      case measure => omega
      case rel =>
        refine ⟨k + 1, by omega, rfl, by go_num, ?_, ?_, HR4.out⟩
        · have hb2 : Below w.heap.size wr w4 := ((S10.Turns.refl _ wr).alloc _ |>.trans HT4.out (fun k _ e => e)).below (by have := HB.out.size; omega) (fun k hk e => by have := (HROW.out.lt k e).1; have := HB3.out.size; omega)
          exact HB.out.trans hb2
        · have hb2 : Below w3.heap.size wr w4 := ((S10.Turns.refl _ wr).alloc _ |>.trans HT4.out (fun k _ e => e)).below (by have := HBQ.out.size; omega) (fun k hk e => by have := (HROW.out.lt k e).1; omega)
          exact HBQ.out.trans hb2
    · obtain rfl : k = n := by omega
      go_wp2_with fail
      go_ret
      obtain ⟨A, cap, rfl, h1, _⟩ := HROW.out.shape
      refine ⟨A, cap, rfl, ?_, HB.out⟩
      have := HROW.out
      rw [HN.out, List.take_length] at this
      rw [HN.out]
      exact this.base HB3.out.size
set_option maxRecDepth 100000 in
set_option maxHeartbeats 4000000 in
theorem samel_ {A B : Option Addr} {c d b1 b2 : Nat} {L : List Value} (h1 : S10.Rd w b1 A L) (h2 : S10.Rd w b2 B L) (hL : ∀ i, i < L.length → ∃ z : Int, L[i]? = some (.int .i64 z)) (hlen : L.length ≤ 1000) (hb1 : b1 ≤ w.heap.size) (hb2 : b2 ≤ w.heap.size) :
    Calls Tryz.prog 12 #[.slice A L.length c, .slice B L.length d] w fun e w' => e = .returned (.bool true) ∧ Below w.heap.size w w' := by
  have H1 := Lib.hid h1; have H2 := Lib.hid h2; have HL := Lib.hid hL
  obtain ⟨n, hn⟩ : ∃ n, n = L.length := ⟨_, rfl⟩
  rw [← hn] at hlen ⊢
  have HN := Lib.hid hn
  clear h1 h2 hL hn
  go_enter Tryz.func12, Tryz.ntmps12
  go_wp2_with fail
  go_loopg [5] (n + 1) (fun q s5 wx => ∃ k : Nat, k ≤ n ∧ q = n + 1 - k ∧ s5 = .int .i64 (k : Int) ∧ Below w.heap.size w wx)
  case atStart => exact ⟨0, by omega, rfl, rfl, Below.refl _ _⟩
  case round =>
    obtain ⟨k, hk, rfl, rfl, hb⟩ := hrel
    have HB := Lib.hid hb
    by_cases hkn : k < n
    · have HE := Lib.hid hkn
      obtain ⟨z, hz⟩ := HL.out k (by have := HN.out; omega)
      obtain ⟨g1, o1, rfl, _, l1⟩ := (H1.out.below HB.out hb1) (by have := HN.out; omega)
      obtain ⟨g2, o2, rfl, _, l2⟩ := (H2.out.below HB.out hb2) (by have := HN.out; omega)
      have k1 := l1 k _ hz
      have k2 := l2 k _ hz
      have HKK := Lib.hid (And.intro k1 k2)
      clear hz l1 l2 k1 k2 hb
      go_upto_region 6 with fail
      refine wp_region_held_drew (S := fun w' => w'.cell? ⟨g1, o1 + k, none⟩ = some (.int .i64 z) ∧ w'.cell? ⟨g2, o2 + k, none⟩ = some (.int .i64 z)) (by kernel_rfl) ?_ (fun hHeld => ?_)
      · exact HKK.out
      refine wpAnyH_take (i := 0) (oi := ({ dst := some 17, op := Op.move (Operand.tmp 0), type := 27, pos := "outright.go:171", after := #[], guard := none } : Oper)) (v := ?vsmm1) rfl (by kernel_rfl) (by kernel_rfl) (by kernel_rfl) (fun _ _ _ h => h) (Or.inl ⟨by rfl, fun w hSw => ?hysmm1⟩) (by assumption) ?rsmm1
      case hysmm1 => (try dsimp only at hSw); go_simp; (try with_reducible rfl)
      (try simp only [Act.put, List.setIfInBounds_toArray, List.set_cons_zero, List.set_cons_succ])
      refine wpAnyH_take (i := 1) (oi := ({ dst := some 18, op := Op.move (Operand.tmp 5), type := 3, pos := "outright.go:171", after := #[], guard := none } : Oper)) (v := ?vsmm2) rfl (by kernel_rfl) (by kernel_rfl) (by kernel_rfl) (fun _ _ _ h => h) (Or.inl ⟨by rfl, fun w hSw => ?hysmm2⟩) (by assumption) ?rsmm2
      case hysmm2 => (try dsimp only at hSw); go_simp; (try with_reducible rfl)
      (try simp only [Act.put, List.setIfInBounds_toArray, List.set_cons_zero, List.set_cons_succ])
      refine wpAnyH_take (i := 2) (oi := ({ dst := some 19, op := Op.indexAddr 27 (Operand.tmp 17) (Operand.tmp 18), type := 0, pos := "outright.go:171", after := #[{ on := 0, ground := Ground.data }, { on := 1, ground := Ground.data }], guard := none } : Oper)) (v := ?vsmm3) rfl (by kernel_rfl) (by kernel_rfl) (by kernel_rfl) (fun _ _ _ h => h) (Or.inl ⟨by rfl, fun w hSw => ?hysmm3⟩) (by assumption) ?rsmm3
      case hysmm3 => (try dsimp only at hSw); go_simp; (try with_reducible rfl)
      (try simp only [Act.put, List.setIfInBounds_toArray, List.set_cons_zero, List.set_cons_succ])
      refine wpAnyH_take (i := 3) (oi := ({ dst := some 20, op := Op.load 3 (Operand.tmp 19), type := 3, pos := "outright.go:171", after := #[{ on := 2, ground := Ground.data }], guard := none } : Oper)) (v := ?vsmm4) rfl (by kernel_rfl) (by kernel_rfl) (by kernel_rfl) (fun _ _ _ h => h) (Or.inl ⟨by rfl, fun w hSw => ?hysmm4⟩) (by assumption) ?rsmm4
      case hysmm4 => (try dsimp only at hSw); go_simp; (try with_reducible rfl)
      (try simp only [Act.put, List.setIfInBounds_toArray, List.set_cons_zero, List.set_cons_succ])
      refine wpAnyH_take (i := 4) (oi := ({ dst := some 21, op := Op.move (Operand.tmp 1), type := 27, pos := "outright.go:171", after := #[], guard := none } : Oper)) (v := ?vsmm5) rfl (by kernel_rfl) (by kernel_rfl) (by kernel_rfl) (fun _ _ _ h => h) (Or.inl ⟨by rfl, fun w hSw => ?hysmm5⟩) (by assumption) ?rsmm5
      case hysmm5 => (try dsimp only at hSw); go_simp; (try with_reducible rfl)
      (try simp only [Act.put, List.setIfInBounds_toArray, List.set_cons_zero, List.set_cons_succ])
      refine wpAnyH_take (i := 5) (oi := ({ dst := some 22, op := Op.move (Operand.tmp 5), type := 3, pos := "outright.go:171", after := #[], guard := none } : Oper)) (v := ?vsmm6) rfl (by kernel_rfl) (by kernel_rfl) (by kernel_rfl) (fun _ _ _ h => h) (Or.inl ⟨by rfl, fun w hSw => ?hysmm6⟩) (by assumption) ?rsmm6
      case hysmm6 => (try dsimp only at hSw); go_simp; (try with_reducible rfl)
      (try simp only [Act.put, List.setIfInBounds_toArray, List.set_cons_zero, List.set_cons_succ])
      refine wpAnyH_take (i := 6) (oi := ({ dst := some 23, op := Op.indexAddr 27 (Operand.tmp 21) (Operand.tmp 22), type := 0, pos := "outright.go:171", after := #[{ on := 4, ground := Ground.data }, { on := 5, ground := Ground.data }], guard := none } : Oper)) (v := ?vsmm7) rfl (by kernel_rfl) (by kernel_rfl) (by kernel_rfl) (fun _ _ _ h => h) (Or.inl ⟨by rfl, fun w hSw => ?hysmm7⟩) (by assumption) ?rsmm7
      case hysmm7 => (try dsimp only at hSw); go_simp; (try with_reducible rfl)
      (try simp only [Act.put, List.setIfInBounds_toArray, List.set_cons_zero, List.set_cons_succ])
      refine wpAnyH_take (i := 7) (oi := ({ dst := some 24, op := Op.load 3 (Operand.tmp 23), type := 3, pos := "outright.go:171", after := #[{ on := 6, ground := Ground.data }], guard := none } : Oper)) (v := ?vsmm8) rfl (by kernel_rfl) (by kernel_rfl) (by kernel_rfl) (fun _ _ _ h => h) (Or.inl ⟨by rfl, fun w hSw => ?hysmm8⟩) (by assumption) ?rsmm8
      case hysmm8 => (try dsimp only at hSw); go_simp; (try with_reducible rfl)
      (try simp only [Act.put, List.setIfInBounds_toArray, List.set_cons_zero, List.set_cons_succ])
      refine wpAnyH_take (i := 8) (oi := ({ dst := some 25, op := Op.binOp BinOp.neq 3 (Operand.tmp 20) (Operand.tmp 24) 3, type := 4, pos := "outright.go:171", after := #[{ on := 3, ground := Ground.data }, { on := 7, ground := Ground.data }], guard := none } : Oper)) (v := ?vsmm9) rfl (by kernel_rfl) (by kernel_rfl) (by kernel_rfl) (fun _ _ _ h => h) (Or.inl ⟨by rfl, fun w hSw => ?hysmm9⟩) (by assumption) ?rsmm9
      case hysmm9 => (try dsimp only at hSw); go_simp; (try with_reducible rfl)
      (try simp only [Act.put, List.setIfInBounds_toArray, List.set_cons_zero, List.set_cons_succ])
      refine wpAnyH_done (by kernel_rfl) ?_ _
      go_wp2_with fail
      go_roundg (n + 1 - (k + 1))
      case measure => have := HE.out; omega
      case rel => exact ⟨k + 1, HE.out, by omega, by go_num, HB.out.drew⟩
    · obtain rfl : k = n := by omega
      clear hb
      go_wp2_with fail
      go_ret
      exact ⟨rfl, HB.out⟩
end
end Go.Proofs.YtjppncglkijbjaaGreatDoor.S18
