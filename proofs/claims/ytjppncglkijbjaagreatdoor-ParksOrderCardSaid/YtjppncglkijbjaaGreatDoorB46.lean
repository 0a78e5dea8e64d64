/- Texts of this seat, one behind the other. -/
import Derived.Test.YtjppncglkijbjaaGreatDoorB45
set_option linter.unusedVariables false
set_option linter.unusedSimpArgs false
set_option linter.unusedVariables false
set_option linter.unusedSimpArgs false
namespace Go.Proofs.YtjppncglkijbjaaGreatDoor.S18
open Go.Proofs.YtjppncglkijbjaaGreatDoor Go.Proofs.YtjppncglkijbjaaGreatDoor.S11 Go.Proofs.YtjppncglkijbjaaGreatDoor.S12 Go.Proofs.YtjppncglkijbjaaGreatDoor.S13 Go.Proofs.YtjppncglkijbjaaGreatDoor.S14 Go.Proofs.YtjppncglkijbjaaGreatDoor.S15 Go.Proofs.YtjppncglkijbjaaGreatDoor.S16
open Go.RowKit

structure Wd (M : Sd) (a pi : Nat) (Q : List S10.Ent) (st k : Nat) : Prop where
  pl : Pl M 1024 a pi Q
  s : S2.look M.L 1024 = st
  T : M.T = 0
  n : M.n ≤ k
  p : M.pn ≤ k
  nD : M.nD.length ≤ k
  p8 : (M.pf 8).p = false
def D9 : Pd := ⟨9, 1024, 0, false, 0, none⟩
def D4 (c : Ck) : Pd := ⟨4, 1024, 0, true, 3, some c⟩
theorem roomy {w0 : World} {base : Nat} {M : Sd} {P : Pa} {n i pi : Nat} {a : Nat} {Q : List S10.Ent} (hT : Tab w0) (hb : 0 < base) (pl : Pl M 1024 a pi Q) (hn : M.n ≤ 100000) (hp : M.pn ≤ 100000) (hd : M.nD.length ≤ 1000) (hq : Q.length ≤ 100) (hi : i ≤ n) (hn2 : n ≤ 1000)
    (g2 : (pitn (M, P) i).2.ln = 5 ∨ (pitn (M, P) i).2.ln = 10 → (pitn (M, P) i).2.pb = 2 ∧ (pitn (M, P) i).2.pi = pi ∧ (pitn (M, P) i).1.m = M.m ∧ (pitn (M, P) i).1.nD = M.nD) : Room w0 base (pitn (M, P) i).1 (pitn (M, P) i).2 := by
  refine room_of (n := n) (c := 0) (pi := 0) hT hb pl.sp (by omega) (by omega) hi (fun hl => ?_)
  obtain ⟨e1, e2, e3, e4⟩ := g2 hl
  refine ⟨e1, by rw [e2, e3, pl.len]; exact pl.pil, ?_, by rw [e4]; omega⟩
  rw [e2]
  unfold qAt
  rw [e3]
  have := pl.q
  unfold qAt at this
  rw [this]; omega
section
variable {w0 w w' : World} {base WB : Nat} {M : Sd} {r : List Part} {j e u B : Nat} {X : Wm} {a pi st k : Nat} {Q : List S10.Ent}
abbrev r3 : List Part := [noP, noP, rowsP []]
theorem wq3 (h : Pg w0 w base WB M [] X) : Wq w0 w base WB M r3 2 [] X := ⟨room3 h, by show 2 < 3; omega⟩
theorem new_9 (h : Pg w0 w base WB M [] X) : Calls Tryz.prog 10 #[.int .i64 9, .int .u32 1024, .int .u64 0, .agg #[.bool false, .int .u64 0], .nilIface] w fun e' w' => ∃ B, e' = .returned (Pw B) ∧ PaR w0 w' base WB M r3 2 0 1 (pa0 D9) B :=
  new_r (D := D9) (wq3 h) (.inr ⟨rfl, rfl⟩) (by omega) (by omega) (by show 0 < 3; omega) (by show 1 < 3; omega) (by omega) (by show 9 < 64; omega) (by show 1024 < 4294967296; omega) (fun c hc => by cases hc)
theorem new_4 (h : Wq w0 w base WB M r 2 [] X) (h3 : 2 < r.length) {c : Ck} (hc : c.a < 4294967296 ∧ c.all < 18446744073709551616 ∧ c.any < 18446744073709551616 ∧ c.clr < 18446744073709551616) : Calls Tryz.prog 10 #[.int .i64 4, .int .u32 1024, .int .u64 0, .agg #[.bool true, .int .u64 3], .iface 419 (.agg c.cs)] w fun e' w' => ∃ B, e' = .returned (Pw B) ∧ PaR w0 w' base WB M r 2 0 1 (pa0 (D4 c)) B :=
  new_r (D := D4 c) h (.inl rfl) (by omega) (by omega) (by omega) (by omega) (by omega) (by show 4 < 64; omega) (by show 1024 < 4294967296; omega) (fun c' hc' => by injection hc' with hc'; rw [← hc']; exact hc)
def intsP (s : Value) (n : Nat) (cs : List Value) : Part where
  ok w := S10.Row w 0 1 s n cs
  fp k := s.ownBlock = some k
  lt w h k e := (h.lt k e).2
  kept S w w' h t hs := h.keep (S := S) ⟨t.os, t.tape, t.output, t.size, t.block⟩ hs
abbrev r4 (s : Value) (n : Nat) (cs : List Value) : List Part := [noP, noP, rowsP [], intsP s n cs]
theorem wq4 {s : Value} {n : Nat} {cs : List Value} (h : Pg w0 w base WB M [] X) (b : Below w.heap.size w w') (hr : S10.Row w' w.heap.size 1 s n cs) : Wq w0 w' base WB M (r4 s n cs) 2 [] X :=
  ⟨Pg.push1 (room3 h) (intsP s n cs) b (hr.base (Nat.zero_le _)) (fun k e => (hr.lt k e).1), by show 2 < 4; omega⟩
theorem PaR.slice {s : Value} {n : Nat} {cs : List Value} {P : Pa} (h : PaR w0 w base WB M (r4 s n cs) 2 0 1 P B) : S10.Row w 0 1 s n cs := by
  obtain ⟨ok, q1, q2, X, h⟩ := h
  obtain ⟨l, hw, _⟩ := h.at'
  exact hw.pg.ps.ok _ (intsP s n cs) (hw.pg.part (j := 3) rfl)
theorem sleep_9 (hT : Tab w0) (hb : 0 < base) (wd : Wd M a pi [] st k) (hk : k ≤ 500) (h : PaR w0 w base WB M r3 2 0 1 (pa0 D9) B) :
    Calls Tryz.prog 11 #[Pw WB, Pw B, .int .i64 9] w fun e' w' => e' = .returned (.bool true) ∧ ∃ M' X', Pg w0 w' base WB M' [] X' ∧ Wd M' a pi [entD D9] st (k + 10) := by
  have ht : D9.t < 64 := by show 9 < 64; omega
  obtain ⟨g1, g2, E6, F6, g6⟩ := pk_run (D := D9) wd.pl ht (by show 1024 < 4294967296; omega) rfl
  have hr := @pkM_rest M D9 a pi
  have hp0 : ((pkM M D9 a pi).pf 18).p = false := by rw [hr.2.1]; rfl
  have hg : slpG (pkM M D9 a pi) D9 = 0 := by
    show (if ((pkM M D9 a pi).pf 18).p then 1 else 0) = 0
    rw [hp0]; rfl
  have e7 : pitn (M, pa0 D9) 7 = ((pkM M D9 a pi).park 18, (⟨8, D9, 2, pi, E6, F6, 0, 0⟩ : Pa)) := by
    show pit (pitn (M, pa0 D9) 6) = _
    rw [g6]
    show ((pkM M D9 a pi).park 18, (if slpG (pkM M D9 a pi) D9 = 0 then (⟨8, D9, 2, pi, E6, F6, 0, 0⟩ : Pa) else if slpG (pkM M D9 a pi) D9 = 2 then ⟨9, D9, 2, pi, ow0 D9.t, F6, 0, 0⟩ else ⟨0, D9, 2, pi, E6, F6, 0, 2⟩)) = _
    rw [if_pos hg]
  have hpf : ((pkM M D9 a pi).park 18).pf = S4.updP (pkM M D9 a pi).pf 18 (S4.parkK ((pkM M D9 a pi).pf 18)) := rfl
  have b6 := pitn_n (M, pa0 D9) 7
  rw [e7] at b6
  refine (asleep_ (t := 9) (n := 6) h (by omega) (by omega) (fun i hi => by have := g1 i hi; omega) (fun i hi => ?_) (by rw [g6]) (by rw [e7]) ?_).mono ?_
  · by_cases h6 : i < 6
    · exact roomy (n := 6) hT hb wd.pl (by have := wd.n; omega) (by have := wd.p; omega) (by have := wd.nD; omega) (by show 0 ≤ 100; omega) hi (by omega) (g2 i h6)
    · obtain rfl : i = 6 := by omega
      exact roomy (n := 6) hT hb wd.pl (by have := wd.n; omega) (by have := wd.p; omega) (by have := wd.nD; omega) (by show 0 ≤ 100; omega) hi (by omega) (fun hl => by rw [g6] at hl; exact absurd hl (by show ¬ (8 = 5 ∨ 8 = 10); omega))
  · rw [e7, hpf]
    show (S4.updP (pkM M D9 a pi).pf 18 (S4.parkK ((pkM M D9 a pi).pf 18)) 18).a = true
    unfold S4.updP S4.parkK
    rw [if_pos rfl, hp0, if_neg (by decide)]
  · rintro e' w' ⟨rfl, h'⟩
    rw [e7] at h'
    obtain ⟨X', hx⟩ := h'.world
    have hpl := pkM_pl (D := D9) wd.pl ht
    have hlk := pkM_look (D := D9) wd.pl ht 1024
    rw [if_neg (by show ¬ 1024 = 64 + 9; omega), wd.s] at hlk
    refine ⟨rfl, (pkM M D9 a pi).park 18, X', hx, ⟨hpl.call _ _ _, hlk, hr.1.trans wd.T, ?_, ?_, ?_, ?_⟩⟩
    · have h1 : ((pkM M D9 a pi).park 18).n ≤ M.n + 7 := b6.1
      have := wd.n; omega
    · have h1 : ((pkM M D9 a pi).park 18).pn ≤ M.pn + 7 := b6.2.1
      have := wd.p; omega
    · have h1 : ((pkM M D9 a pi).park 18).nD.length ≤ M.nD.length + 1 := hr.2.2
      have := wd.nD; omega
    · rw [hpf, hr.2.1]
      exact wd.p8
theorem run_no {c : Ck} (hT : Tab w0) (hb : 0 < base) (wd : Wd M a pi Q st k) (hk : k ≤ 500) (hQ : Q.length ≤ 90) (hst : st < 256) (hca : c.a = 1024) (hno : c.holds st = false) (h : PaR w0 w base WB M r 2 0 1 (pa0 (D4 c)) B) :
    Calls Tryz.prog 15 #[Pw WB, .iface 32 (Pw B), .int .i64 20] w fun e' w' => e' = .returned (.int .i64 5) ∧ ∃ M' P', PaR w0 w' base WB M' r 2 0 1 P' B ∧ P'.o = 1 ∧ Wd M' a pi Q st (k + 10) := by
  have ht : (D4 c).t < 64 := by show 4 < 64; omega
  obtain ⟨g1, P', g2, g3, g4⟩ := ck_no (D := D4 c) wd.pl ht (by show 1024 < 4294967296; omega) rfl hca wd.s hst hno
  have b5 := pitn_n (M, pa0 (D4 c)) 5
  rw [g2] at b5
  refine (run_p (n := 5) (most := 20) h (by omega) (by omega) (by omega) (fun i hi => ?_) (fun i hi => by have := g1 i hi; omega) (by rw [g2]; exact g3)).mono ?_
  · exact roomy (n := 5) hT hb wd.pl (by have := wd.n; omega) (by have := wd.p; omega) (by have := wd.nD; omega) (by omega) (by omega) (by omega) (fun hl => by have := g1 i hi; omega)
  · rintro e' w' ⟨rfl, h'⟩
    rw [g2] at h'
    obtain ⟨p1, p2⟩ := ck_no_pl (D := D4 c) wd.pl wd.s hst
    refine ⟨rfl, (mL M a st).acc 5 a 0, P', h', g4, ⟨p1, p2, wd.T, ?_, ?_, ?_, wd.p8⟩⟩
    · have h1 : ((mL M a st).acc 5 a 0).n ≤ M.n + 5 := b5.1
      have := wd.n; omega
    · have h1 : ((mL M a st).acc 5 a 0).pn ≤ M.pn + 5 := b5.2.1
      have := wd.p; omega
    · have := wd.nD
      show M.nD.length ≤ _; omega
def m8 (M : Sd) (c : Ck) (a pi st : Nat) : Sd := (ckM M (D4 c) a pi st).until 8 3
theorem sleep_4 {c : Ck} (hT : Tab w0) (hb : 0 < base) (wd : Wd M a pi Q st k) (hk : k ≤ 500) (hQ : Q.length ≤ 90) (hst : st < 256) (hca : c.a = 1024) (hy : c.holds st = true) (h : PaR w0 w base WB M r 2 0 1 (pa0 (D4 c)) B) :
    Calls Tryz.prog 11 #[Pw WB, Pw B, .int .i64 4] w fun e' w' => e' = .returned (.bool true) ∧ ∃ E7 F7, PaR w0 w' base WB (m8 M c a pi st) r 2 0 1 ⟨8, D4 c, 2, pi, E7, F7, 0, 0⟩ B ∧ Wd (m8 M c a pi st) a pi (Q ++ [entD (D4 c)]) st (k + 10) ∧ S2.look (m8 M c a pi st).L 68 = 1024 := by
  have ht : (D4 c).t < 64 := by show 4 < 64; omega
  obtain ⟨g1, g2, E7, F7, g7⟩ := ck_yes (D := D4 c) wd.pl ht (by show 1024 < 4294967296; omega) rfl hca wd.s hst hy
  have hr := @ckM_rest M (D4 c) a pi st
  have hp0 : ((ckM M (D4 c) a pi st).pf 8).p = false := by rw [hr.2.1]; rfl
  have hT0 : (ckM M (D4 c) a pi st).T = 0 := hr.1.trans wd.T
  have hu : S4.untilO ((ckM M (D4 c) a pi st).pf 8) 3 (ckM M (D4 c) a pi st).T = 0 := by
    unfold S4.untilO
    rw [hp0, if_neg (by decide), hT0, if_neg (by omega)]
  have hg : slpG (ckM M (D4 c) a pi st) (D4 c) = 0 := hu
  have e8 : pitn (M, pa0 (D4 c)) 8 = (m8 M c a pi st, (⟨8, D4 c, 2, pi, E7, F7, 0, 0⟩ : Pa)) := by
    show pit (pitn (M, pa0 (D4 c)) 7) = _
    rw [g7]
    show (m8 M c a pi st, (if slpG (ckM M (D4 c) a pi st) (D4 c) = 0 then (⟨8, D4 c, 2, pi, E7, F7, 0, 0⟩ : Pa) else if slpG (ckM M (D4 c) a pi st) (D4 c) = 2 then ⟨9, D4 c, 2, pi, ow0 (D4 c).t, F7, 0, 0⟩ else ⟨0, D4 c, 2, pi, E7, F7, 0, 2⟩)) = _
    rw [if_pos hg]
  have hpf : (m8 M c a pi st).pf = S4.updP (ckM M (D4 c) a pi st).pf 8 (S4.untilK ((ckM M (D4 c) a pi st).pf 8) 3 (ckM M (D4 c) a pi st).T) := rfl
  have b8 := pitn_n (M, pa0 (D4 c)) 8
  rw [e8] at b8
  refine (asleep_ (t := 4) (n := 7) h (by omega) (by omega) g1 (fun i hi => ?_) (by rw [g7]) (by rw [e8]) ?_).mono ?_
  · by_cases h6 : i < 7
    · exact roomy (n := 7) hT hb wd.pl (by have := wd.n; omega) (by have := wd.p; omega) (by have := wd.nD; omega) (by omega) hi (by omega) (g2 i h6)
    · obtain rfl : i = 7 := by omega
      exact roomy (n := 7) hT hb wd.pl (by have := wd.n; omega) (by have := wd.p; omega) (by have := wd.nD; omega) (by omega) hi (by omega) (fun hl => by rw [g7] at hl; exact absurd hl (by show ¬ (8 = 5 ∨ 8 = 10); omega))
  · rw [e8, hpf]
    show (S4.updP (ckM M (D4 c) a pi st).pf 8 (S4.untilK ((ckM M (D4 c) a pi st).pf 8) 3 (ckM M (D4 c) a pi st).T) 8).a = true
    unfold S4.updP S4.untilK
    rw [if_pos rfl, hp0, if_neg (by decide), hT0, if_neg (by omega)]
  · rintro e' w' ⟨rfl, h'⟩
    rw [e8] at h'
    have hpl := ckM_pl (D := D4 c) wd.pl ht wd.s hst
    have hlk := ckM_look (D := D4 c) wd.pl ht wd.s hst 1024
    rw [if_neg (by show ¬ 1024 = 64 + 4; omega), wd.s] at hlk
    have hl68 := ckM_look (D := D4 c) wd.pl ht wd.s hst 68
    rw [if_pos (by show 68 = 64 + 4; omega)] at hl68
    refine ⟨rfl, E7, F7, h', ⟨hpl.call _ _ _, hlk, hT0, ?_, ?_, ?_, ?_⟩, hl68⟩
    · have h1 : (m8 M c a pi st).n ≤ M.n + 8 := b8.1
      have := wd.n; omega
    · have h1 : (m8 M c a pi st).pn ≤ M.pn + 8 := b8.2.1
      have := wd.p; omega
    · have h1 : (m8 M c a pi st).nD.length ≤ M.nD.length + 1 := hr.2.2
      have := wd.nD; omega
    · rw [hpf]
      show (S4.updP (ckM M (D4 c) a pi st).pf 8 (S4.untilK ((ckM M (D4 c) a pi st).pf 8) 3 (ckM M (D4 c) a pi st).T) 8).p = false
      unfold S4.updP S4.untilK
      rw [if_pos rfl, hp0, if_neg (by decide), hT0, if_neg (by omega)]
theorem run_late {c : Ck} {E : En} {F : Fr} (hT : Tab w0) (hb : 0 < base) (wd : Wd M a pi (Q ++ [entD (D4 c)]) st k) (hk : k ≤ 500) (hQ : Q.length ≤ 90) (hst : st < 256) (hca : c.a = 1024) (hkw : S2.look M.L 68 = 1024) (h : PaR w0 w base WB (M.tick 3) r 2 0 1 ⟨8, D4 c, 2, pi, E, F, 0, 0⟩ B) :
    Calls Tryz.prog 15 #[Pw WB, .iface 32 (Pw B), .int .i64 40] w fun e' w' => ∃ n : Nat, 0 < n ∧ n ≤ 9 ∧ e' = .returned (.int .i64 (n : Int)) ∧ ∃ P', PaR w0 w' base WB (ltM (M.tick 3) (D4 c) a pi) r 2 0 1 P' B ∧ P'.o = 3 := by
  have ht : (D4 c).t < 64 := by show 4 < 64; omega
  have hT3 : (M.tick 3).T = 3 := by show S3.sat M.T 3 = 3; rw [wd.T]; rfl
  have pl3 : Pl (M.tick 3) 1024 a pi (Q ++ [entD (D4 c)]) := ⟨wd.pl.x, wd.pl.ae, wd.pl.a0, wd.pl.pe, wd.pl.len, wd.pl.q, wd.pl.sp⟩
  have ha := wd.pl.ain
  obtain ⟨n, P', n1, n2, g1, g2, g3, g4, g5⟩ := late_run (M := M.tick 3) (D := D4 c) (E := E) (F := F) pl3 ht (by show 1024 < 4294967296; omega) rfl (by rw [hT3]; show 3 ≤ 3; omega) wd.p8 hkw (fun c' hc' => by injection hc' with hc'; rw [← hc', hca]; have := lok_in 1024 2; rw [← wd.pl.ae] at this; omega)
  refine (run_p (n := n) (most := 40) h (by omega) (by omega) (by omega) (fun i hi => ?_) g4 (by rw [g1]; exact g2)).mono ?_
  · refine roomy (M := M.tick 3) (n := 9) hT hb pl3 (by have := wd.n; show M.n ≤ 100000; omega) (by have := wd.p; show M.pn ≤ 100000; omega) (by have := wd.nD; show M.nD.length ≤ 1000; omega) (by rw [List.length_append]; show Q.length + 1 ≤ 100; omega) (by omega) (by omega) (g5 i hi)
  · rintro e' w' ⟨rfl, h'⟩
    rw [g1] at h'
    exact ⟨n, by omega, n2, rfl, P', h', g3⟩
end
end Go.Proofs.YtjppncglkijbjaaGreatDoor.S18
set_option linter.unusedVariables false
set_option linter.unusedSimpArgs false
namespace Go.Proofs.YtjppncglkijbjaaGreatDoor.S18
open Go.Proofs.YtjppncglkijbjaaGreatDoor Go.Proofs.YtjppncglkijbjaaGreatDoor.S11 Go.Proofs.YtjppncglkijbjaaGreatDoor.S12 Go.Proofs.YtjppncglkijbjaaGreatDoor.S13 Go.Proofs.YtjppncglkijbjaaGreatDoor.S14 Go.Proofs.YtjppncglkijbjaaGreatDoor.S15 Go.Proofs.YtjppncglkijbjaaGreatDoor.S16
open Go.RowKit

theorem eqEnt (w : World) : (binOp .eql 112 (.agg #[.int .i64 3, .int .u32 1152, .int .u64 7]) (.agg #[.int .i64 3, .int .u32 1152, .int .u64 7])).run Tryz.prog w = .ok (.bool true) w := by kernel_rfl
def D0 : Pd := ⟨3, 1152, 7, false, 0, none⟩
section
variable {w0 w w' : World} {base WB : Nat} {M : Sd} {r : List Part} {j e u B : Nat} {X : Wm} {P : Pa}
theorem PaR.pg (h : PaR w0 w base WB M r j e u P B) : ∃ r' X, Pg w0 w base WB M r' X := by
  obtain ⟨ok, q1, q2, X, h⟩ := h
  obtain ⟨l, hw, _⟩ := h.at'
  exact ⟨_, X, hw.pg⟩
end
theorem ex_room {w0 : World} {base : Nat} (hT : Tab w0) (hb : 0 < base) {pi : Nat} (hpi : pi = bktN 1152 2) {i : Nat} (hi : i < 6) (g2 : ∀ i, i < 6 → ((pitn (sdN 0 5, pa0 D0) i).2.ln = 5 ∨ (pitn (sdN 0 5, pa0 D0) i).2.ln = 10) → (pitn (sdN 0 5, pa0 D0) i).2.pb = 2 ∧ (pitn (sdN 0 5, pa0 D0) i).2.pi = pi ∧ (pitn (sdN 0 5, pa0 D0) i).1.m = (sdN 0 5).m ∧ (pitn (sdN 0 5, pa0 D0) i).1.nD = (sdN 0 5).nD) : Room w0 base (pitn (sdN 0 5, pa0 D0) i).1 (pitn (sdN 0 5, pa0 D0) i).2 := by
  have h4 : pi < 4 := by have := bkt_lt 1152 2; rw [bits2, ← hpi] at this; omega
  refine room_of (n := 6) (c := 0) (pi := 0) hT hb rfl (by show 0 + 6 ≤ 800000000; omega) (by show 0 + 6 ≤ 800000000; omega) (by omega) (fun hl => ?_)
  obtain ⟨e1, e2, e3, e4⟩ := g2 i hi hl
  refine ⟨e1, by rw [e2, e3, sd_l]; exact h4, ?_, by rw [e4]; show 0 ≤ 90000; omega⟩
  rw [e2]
  unfold qAt
  rw [e3]
  have := sd_q pi h4
  unfold qAt at this
  rw [this]
  show 0 ≤ 900; omega
set_option maxRecDepth 100000 in
set_option maxHeartbeats 4000000 in
theorem lives18 (w : World) (hT : Tab w) (hb0 : 0 < w.heap.size) : Calls Tryz.prog 9 #[] w fun e w' => e = .returned (.bool true) ∧ Below w.heap.size w w' := by
  obtain ⟨a, ha⟩ : ∃ a, a = lokN 1152 2 := ⟨_, rfl⟩
  obtain ⟨pi, hpi⟩ : ∃ pi, pi = bktN 1152 2 := ⟨_, rfl⟩
  have hpl : Pl (sdN 0 5) D0.k a pi [] := sdN_pl ha hpi
  obtain ⟨g1, g2, E6, F6, g6⟩ := pk_run hpl (by show 3 < 64; omega) (by show 1152 < 4294967296; omega) rfl
  have hroom : ∀ i, i < 6 → Room w w.heap.size (pitn (sdN 0 5, pa0 D0) i).1 (pitn (sdN 0 5, pa0 D0) i).2 := fun i hi => ex_room hT hb0 hpi hi g2
  have hq6 := pkM_m hpl
  have HW := Lib.hid (fun W => world_any 0 (by omega) W)
  have HPL : Hid (∀ W, Calls Tryz.prog 32 #[.int .u32 1152, .int .u64 2] W fun e w' => e = .returned (.agg #[.int .i64 2, .int .i64 (pi : Int)]) ∧ Below W.heap.size W w') := Lib.hid (fun W => by
    have := place_any 1152 2 (by omega) (by omega) W
    unfold placeV at this
    rw [bits2, ← hpi] at this
    exact this)
  have HG := Lib.hid (And.intro g1 (And.intro g6 (And.intro hroom (And.intro hq6 hpl.pil))))
  have e1 := eqEnt
  clear hT hb0 ha hpi hpl g1 g2 g6 hroom hq6
  go_enter Tryz.func9, Tryz.ntmps9
  go_upto_region 2 with (go_at_call 8; refine (HW.out _).mono ?_; rintro e w1 ⟨X, rfl, hp, h0, hb1⟩; have HX := Lib.hid (And.intro hp (And.intro h0 hb1)); clear hp h0 hb1)
  have hpg := pg_of HX.out.1 HX.out.2.2
  rw [at0_sd HX.out.2.1] at hpg
  have hwq : Wq w w1 w.heap.size X.wB (sdN 0 5) [noP, noP, rowsP []] 2 [] X := ⟨room3 hpg, by show 2 < 3; omega⟩
  obtain ⟨WB, hWB⟩ : ∃ WB, WB = X.wB := ⟨_, rfl⟩
  rw [← hWB] at hwq
  rw [← hWB]
  have hnew : Calls Tryz.prog 10 #[.int .i64 3, .int .u32 1152, .int .u64 7, .agg #[.bool false, .int .u64 0], .iface 108 (.agg #[])] w1 fun e' w' => ∃ B, e' = .returned (Pw B) ∧ PaR w w' w.heap.size WB (sdN 0 5) [noP, noP, rowsP []] 2 0 1 (pa0 D0) B :=
    new_r (D := D0) hwq (.inl rfl) (by omega) (by omega) (by show 0 < 3; omega) (by show 1 < 3; omega) (by omega) (by show 3 < 64; omega) (by show 1152 < 4294967296; omega) (fun c hc => by cases hc)
  have HN := Lib.hid hnew
  clear hnew hwq hpg hWB HX HW
  go_upto_region 5 with (go_at_call 10; refine HN.out.mono ?_; rintro e w2 ⟨B, rfl, h2⟩; have H2 := Lib.hid h2; clear h2)
  clear HN
  go_upto_region 6 with fail
  go_loopg [3] 7 (fun q s3 wx => ∃ i : Nat, i ≤ 6 ∧ q = 7 - i ∧ s3 = .int .i64 (i : Int) ∧ PaR w wx w.heap.size WB (pitn (sdN 0 5, pa0 D0) i).1 [noP, noP, rowsP []] 2 0 1 (pitn (sdN 0 5, pa0 D0) i).2 B)
  case atStart => exact ⟨0, by omega, by omega, rfl, H2.out⟩
  case round =>
    obtain ⟨i, hi, rfl, rfl, hp⟩ := hrel
    have HI := Lib.hid hi
    by_cases he : i = 6
    · subst he
      have d1 : decide (((6 : Nat) : Int) < 6) = false := by decide
      obtain ⟨r3, X3, hpg⟩ := hp.pg
      have hpk := hp.parked
      rw [decide_eq_true (show (pitn (sdN 0 5, pa0 D0) 6).2.ln = 8 by rw [HG.out.2.1])] at hpk
      have hk4 : ∀ W, Below wr.heap.size wr W → W.cell? ⟨WB, 4, none⟩ = some X3.ts := fun W hW => (hpg.new hW).k4
      have hfin : ∀ W, Below wr.heap.size wr W → Below w.heap.size w W := fun W hW => hpg.bl.trans (hW.mono hpg.bl.size)
      have hqu : ∀ W, Below wr.heap.size wr W → Calls Tryz.prog 38 #[X3.ts, .agg #[.int .i64 2, .int .i64 (pi : Int)]] W fun e w' => ∃ A', e = .returned (.slice A' 1 1) ∧ S10.RowE w' W.heap.size (.slice A' 1 1) [entD D0] ∧ Below W.heap.size W w' := fun W hW => by
        have hm := HG.out.2.2.2.1
        have hM : (pitn (sdN 0 5, pa0 D0) 6).1 = pkM (sdN 0 5) D0 a pi := by rw [HG.out.2.1]
        have := (hpg.new hW).queue (b := 2) inI2 (i := pi) (by rw [hM, hm.1]; exact HG.out.2.2.2.2) (by rw [hM, hm.2]; show 1 ≤ 1000000; omega)
        rw [hM, hm.2] at this
        exact this
      have hpk2 : ∀ W, Below wr.heap.size wr W → Calls Tryz.prog 37 #[Pw B] W fun e w' => e = .returned (.bool true) ∧ W = w' := fun W hW => by
        have := (hp.new hW).parked
        rwa [decide_eq_true (show (pitn (sdN 0 5, pa0 D0) 6).2.ln = 8 by rw [HG.out.2.1])] at this
      obtain ⟨ts, hts⟩ : ∃ ts, ts = X3.ts := ⟨_, rfl⟩
      rw [← hts] at hk4 hqu
      have HK4 := Lib.hid hk4; have HFIN := Lib.hid hfin; have HQU := Lib.hid hqu; have HPK2 := Lib.hid hpk2
      clear hp hpg hpk hk4 hfin hqu hpk2 hts HG H2
      go_upto_region 10 with fail
      refine wp_region_held_drew (S := fun w' => w'.cell? ⟨WB, 4, none⟩ = some ts) (by kernel_rfl) ?_ (fun hHeld => ?_)
      · exact (HK4.out _ (Below.refl _ _).drew)
      refine wpAnyH_take (i := 0) (oi := ({ dst := some 23, op := Op.move (Operand.tmp 1), type := 24, pos := "outright.go:27", after := #[], guard := none } : Oper)) (v := ?vlvm1) rfl (by kernel_rfl) (by kernel_rfl) (by kernel_rfl) (fun _ _ _ h => h) (Or.inl ⟨by rfl, fun w hSw => ?hylvm1⟩) (by assumption) ?rlvm1
      case hylvm1 => (try dsimp only at hSw); go_simp; (try with_reducible rfl)
      (try simp only [Act.put, List.setIfInBounds_toArray, List.set_cons_zero, List.set_cons_succ])
      refine wpAnyH_take (i := 1) (oi := ({ dst := some 24, op := Op.nilCheck (Operand.tmp 23), type := 0, pos := "outright.go:27", after := #[{ on := 0, ground := Ground.data }], guard := none } : Oper)) (v := ?vlvm2) rfl (by kernel_rfl) (by kernel_rfl) (by kernel_rfl) (fun _ _ _ h => h) (Or.inl ⟨by rfl, fun w hSw => ?hylvm2⟩) (by assumption) ?rlvm2
      case hylvm2 => (try dsimp only at hSw); go_simp; (try with_reducible rfl)
      (try simp only [Act.put, List.setIfInBounds_toArray, List.set_cons_zero, List.set_cons_succ])
      refine wpAnyH_take (i := 2) (oi := ({ dst := some 25, op := Op.fieldAddr 47 (Operand.tmp 24) 4, type := 0, pos := "outright.go:27", after := #[{ on := 1, ground := Ground.data }], guard := none } : Oper)) (v := ?vlvm3) rfl (by kernel_rfl) (by kernel_rfl) (by kernel_rfl) (fun _ _ _ h => h) (Or.inl ⟨by rfl, fun w hSw => ?hylvm3⟩) (by assumption) ?rlvm3
      case hylvm3 => (try dsimp only at hSw); go_simp; (try with_reducible rfl)
      (try simp only [Act.put, List.setIfInBounds_toArray, List.set_cons_zero, List.set_cons_succ])
      refine wpAnyH_take (i := 3) (oi := ({ dst := some 26, op := Op.load 43 (Operand.tmp 25), type := 43, pos := "outright.go:27", after := #[{ on := 2, ground := Ground.data }], guard := none } : Oper)) (v := ?vlvm4) rfl (by kernel_rfl) (by kernel_rfl) (by kernel_rfl) (fun _ _ _ h => h) (Or.inl ⟨by rfl, fun w hSw => ?hylvm4⟩) (by assumption) ?rlvm4
      case hylvm4 => (try dsimp only at hSw); go_simp; (try with_reducible rfl)
      (try simp only [Act.put, List.setIfInBounds_toArray, List.set_cons_zero, List.set_cons_succ])
      refine wpAnyH_ready (rs := [4]) (by kernel_rfl) (by simp) ?_
      refine AllReadyH.cons (o := ({ dst := some 27, op := Op.call { callee := Callee.value (Operand.func 32), args := #[Operand.const (Value.int IntKind.u32 1152), Operand.const (Value.int IntKind.u64 2)], argTypes := #[35, 23] }, type := 97, pos := "outright.go:27", after := #[], guard := none } : Oper)) rfl (fun Kq hKq => ?_) AllReadyH.nil
      go_simp
      (refine (HPL.out _).mono ?_; rintro e' w2 ⟨rfl, hb2⟩; have HB2 := Lib.hid ((Below.refl _ _).drew.trans hb2); clear hb2)
      refine hKq.out _ _ ?_ (fun hHeld => ?_)
      · exact (HK4.out _ HB2.out)
      clear hKq Kq
      (try simp only [Act.put, List.setIfInBounds_toArray, List.set_cons_zero, List.set_cons_succ])
      refine wpAnyH_ready (rs := [5]) (by kernel_rfl) (by simp) ?_
      refine AllReadyH.cons (o := ({ dst := some 28, op := Op.call { callee := Callee.value (Operand.func 38), args := #[Operand.tmp 26, Operand.tmp 27], argTypes := #[43, 97] }, type := 109, pos := "outright.go:27", after := #[{ on := 3, ground := Ground.data }, { on := 4, ground := Ground.data }, { on := 4, ground := Ground.chain }], guard := none } : Oper)) rfl (fun Kq hKq => ?_) AllReadyH.nil
      go_simp
      (refine (HQU.out _ HB2.out).mono ?_; rintro e' w3 ⟨A3, rfl, hr3, hb3⟩; have HB3 := Lib.hid (HB2.out.trans (hb3.mono HB2.out.size)); have HR3 := Lib.hid hr3; clear hr3 hb3)
      refine hKq.out _ _ ?_ (fun hHeld => ?_)
      · exact (HK4.out _ HB3.out)
      clear hKq Kq
      (try simp only [Act.put, List.setIfInBounds_toArray, List.set_cons_zero, List.set_cons_succ])
      refine wpAnyH_take (i := 6) (oi := ({ dst := some 4, op := Op.assign (Operand.tmp 28), type := 109, pos := "outright.go:27", after := #[{ on := 5, ground := Ground.data }, { on := 5, ground := Ground.chain }, { on := 0, ground := Ground.phase }, { on := 1, ground := Ground.phase }, { on := 2, ground := Ground.phase }, { on := 3, ground := Ground.phase }, { on := 4, ground := Ground.phase }, { on := 5, ground := Ground.phase }], guard := none } : Oper)) (v := ?vlvm5) rfl (by kernel_rfl) (by kernel_rfl) (by kernel_rfl) (fun _ _ _ h => h) (Or.inl ⟨by rfl, fun w hSw => ?hylvm5⟩) (by assumption) ?rlvm5
      case hylvm5 => (try dsimp only at hSw); go_simp; (try with_reducible rfl)
      (try simp only [Act.put, List.setIfInBounds_toArray, List.set_cons_zero, List.set_cons_succ])
      refine wpAnyH_done (by kernel_rfl) ?_ _
      obtain ⟨gB, oo, rfl, _, k0, k1, k2⟩ := HR3.out.rd.ent (i := 0) (by show 0 < 1; omega)
      have k0' : w3.cell? ⟨gB, oo, none⟩ = some (.int .i64 3) := k0
      have k1' : w3.cell? ⟨gB, oo + 1, none⟩ = some (.int .u32 1152) := k1
      have k2' : w3.cell? ⟨gB, oo + 2, none⟩ = some (.int .u64 7) := k2
      have HPK3 := Lib.hid (HPK2.out _ HB3.out)
      clear k0 k1 k2 hHeld HPK2 HQU HPL
      go_wp2_with (go_at_call 37; refine HPK3.out.mono ?_; rintro e' w4 ⟨rfl, rfl⟩)
      go_ret
      exact ⟨rfl, HFIN.out _ HB3.out⟩
    · have hlt : i < 6 := by omega
      have d1 : decide ((i : Int) < 6) = true := decide_eq_true (by omega)
      have gl := HG.out.1 i hlt
      have g8 : ¬ (pitn (sdN 0 5, pa0 D0) i).2.ln = 8 := by omega
      have hpk := hp.parked
      have hst := hp.step1 (HG.out.2.2.1 i hlt) gl
      rw [decide_eq_false g8] at hpk
      have e2 : ¬ (paE (pitn (sdN 0 5, pa0 D0) i).1 (pitn (sdN 0 5, pa0 D0) i).2).ln = 0 := by
        show ¬ (pitn (sdN 0 5, pa0 D0) (i + 1)).2.ln = 0
        by_cases hh : i + 1 = 6
        · rw [hh, HG.out.2.1]; show ¬ 8 = 0; omega
        · have := HG.out.1 (i + 1) (by omega); omega
      rw [decide_eq_false e2] at hst
      have HPK := Lib.hid hpk; have HST := Lib.hid hst; have HN := Lib.hid hlt
      have hm9 : i + 1 ≤ 6 := hlt
      clear hpk hst hp hi he e2 gl g8
      go_wp2_with (first
        | (go_at_call 37; refine HPK.out.mono ?_; rintro e' w6 ⟨rfl, rfl⟩)
        | (go_at_call 30; refine HST.out.mono ?_; rintro e' w7 ⟨rfl, hs⟩))
      go_roundg (7 - (i + 1))
      case measure => have := HI.out; omega
      case rel => exact ⟨i + 1, HN.out, by omega, by go_num, hs⟩
end Go.Proofs.YtjppncglkijbjaaGreatDoor.S18
