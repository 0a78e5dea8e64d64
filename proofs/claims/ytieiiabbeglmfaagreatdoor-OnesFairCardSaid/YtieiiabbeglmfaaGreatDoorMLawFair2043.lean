/- Texts of this seat, one behind the other. -/
import Derived.Test.YtieiiabbeglmfaaGreatDoorMLawFair2030
import Derived.Test.YtieiiabbeglmfaaGreatDoorMLawFair2042
set_option linter.unusedVariables false
set_option linter.unusedSimpArgs false
set_option linter.unusedVariables false
set_option linter.unusedSimpArgs false
set_option linter.unusedVariables false
set_option linter.unusedSimpArgs false
namespace Go.Proofs.YtieiiabbeglmfaaGreatDoor.S18
open Go.Proofs.YtieiiabbeglmfaaGreatDoor Go.Proofs.YtieiiabbeglmfaaGreatDoor.S11 Go.Proofs.YtieiiabbeglmfaaGreatDoor.S12 Go.Proofs.YtieiiabbeglmfaaGreatDoor.S13 Go.Proofs.YtieiiabbeglmfaaGreatDoor.S14 Go.Proofs.YtieiiabbeglmfaaGreatDoor.S15 Go.Proofs.YtieiiabbeglmfaaGreatDoor.S16
open Go.RowKit
def pit (p : Sd × Pa) : Sd × Pa := (paM p.1 p.2, paE p.1 p.2)
def pitn (p : Sd × Pa) : Nat → Sd × Pa
  | 0 => p
  | n + 1 => pit (pitn p n)
theorem pitn_add (p : Sd × Pa) (m : Nat) : ∀ n, pitn p (m + n) = pitn (pitn p m) n
  | 0 => rfl
  | n + 1 => by
    show pit (pitn p (m + n)) = pit (pitn (pitn p m) n)
    rw [pitn_add p m n]
theorem paM_n (M : Sd) (P : Pa) : (paM M P).n ≤ M.n + 1 ∧ (paM M P).pn ≤ M.pn + 1 ∧ (paM M P).sp = M.sp := by
  unfold paM
  split
  · exact enM_n M P.E
  · unfold lookM; split <;> simp [Sd.acc]
  · exact ⟨(fstepM_n M P.F).1, (fstepM_n M P.F).2, fstepM_sp M P.F⟩
  · simp [Sd.acc]
  · simp [queM, Sd.note, Sd.putq, Sd.tab, Sd.prep, Sd.call]
  · exact ⟨(fstepM_n M P.F).1, (fstepM_n M P.F).2, fstepM_sp M P.F⟩
  · split <;> simp [Sd.until, Sd.park, Sd.call]
  · exact enM_n M P.E
  · split
    · simp [Sd.late, Sd.call]
    · unfold goneM; split <;> simp [Sd.note, Sd.putq, Sd.tab, Sd.late, Sd.call]
  · exact ⟨(fstepM_n M P.F).1, (fstepM_n M P.F).2, fstepM_sp M P.F⟩
  · unfold clrM; split <;> simp [Sd.acc]
  · exact ⟨(fstepM_n M P.F).1, (fstepM_n M P.F).2, fstepM_sp M P.F⟩
  · simp
theorem pitn_n (p : Sd × Pa) : ∀ n, (pitn p n).1.n ≤ p.1.n + n ∧ (pitn p n).1.pn ≤ p.1.pn + n ∧ (pitn p n).1.sp = p.1.sp
  | 0 => ⟨Nat.le_refl _, Nat.le_refl _, rfl⟩
  | n + 1 => by
    have h := pitn_n p n
    have g := paM_n (pitn p n).1 (pitn p n).2
    exact ⟨by show (paM _ _).n ≤ _; omega, by show (paM _ _).pn ≤ _; omega, g.2.2.trans h.2.2⟩
theorem pit_way {M : Sd} {P : Pa} (hl : P.ln = 1 ∨ P.ln = 9) (h : (enE M P.E).ln ≠ 0) : pit (M, P) = (enM M P.E, { P with E := enE M P.E }) := by
  obtain ⟨ln, D, pb, pi, E, F, ky, o⟩ := P
  have hl' : ln = 1 ∨ ln = 9 := hl
  rcases hl' with rfl | rfl
  · show (enM M E, if (enE M E).ln = 0 then _ else _) = _
    rw [if_neg h]
  · show (enM M E, if (enE M E).ln = 0 then _ else _) = _
    rw [if_neg h]
theorem pitn_way {M : Sd} {P : Pa} (hl : P.ln = 1 ∨ P.ln = 9) : ∀ n, (∀ i, i ≤ n → i ≠ 0 → (eitn (M, P.E) i).2.ln ≠ 0) → pitn (M, P) n = ((eitn (M, P.E) n).1, { P with E := (eitn (M, P.E) n).2 })
  | 0, _ => rfl
  | n + 1, h => by
    have h1 := pitn_way hl n (fun i hi => h i (by omega))
    show pit (pitn (M, P) n) = _
    rw [h1]
    exact pit_way (P := { P with E := (eitn (M, P.E) n).2 }) hl (h (n + 1) (Nat.le_refl _) (by omega))
def mE (M : Sd) (a x : Nat) : Sd := ((M.acc 1 0 x).acc 3 a 1).acc 1 0 x
section
variable {M : Sd} {t key x a : Nat}
theorem en3x (hx : S2.look M.L 0 = x) (ha : a = lokN (key % 4294967296) x) (h0 : S2.look M.L a = 0) : (eitn (M, en0 t key) 3).1 = mE M a x := by
  have ha2 := lok_in (key % 4294967296) x
  rw [← ha] at ha2
  have e1 : eit (M, en0 t key) = (M.acc 1 0 x, ⟨false, 3, t, key, x, lk1 t a, fr0 0⟩) := by
    show (M.acc 1 0 (S2.look M.L 0), (⟨false, 3, t, key, S2.look M.L 0, lk1 t (lokN (key % 4294967296) (S2.look M.L 0)), fr0 0⟩ : En)) = _
    rw [hx, ← ha]
  have l1 : ∀ b, S2.look (M.acc 1 0 x).L b = S2.look M.L b := by rw [← hx]; exact acc_load (by omega)
  obtain ⟨s1, s2⟩ := lock1 (M := M.acc 1 0 x) (t := t) (a := a) (by omega) (by rw [l1]; exact h0)
  have e2 : eit (M.acc 1 0 x, ⟨false, 3, t, key, x, lk1 t a, fr0 0⟩) = ((M.acc 1 0 x).acc 3 a 1, ⟨false, 4, t, key, x, stepK (M.acc 1 0 x) (lk1 t a), fr0 0⟩) := by
    show (stepM (M.acc 1 0 x) (lk1 t a), (⟨false, if (stepK (M.acc 1 0 x) (lk1 t a)).ln = 0 then 4 else 3, t, key, x, stepK (M.acc 1 0 x) (lk1 t a), fr0 0⟩ : En)) = _
    rw [s1, if_pos s2]
  have l2 : S2.look ((M.acc 1 0 x).acc 3 a 1).L 0 = x := by rw [acc_other (by omega), l1]; exact hx
  show (eit (eit (eit (M, en0 t key)))).1 = _
  rw [e1, e2]
  show ((M.acc 1 0 x).acc 3 a 1).acc 1 0 (S2.look ((M.acc 1 0 x).acc 3 a 1).L 0) = _
  rw [l2]; rfl
theorem mE_look (hx : S2.look M.L 0 = x) (ha : 256 ≤ a ∧ a < 1024) (b : Nat) : S2.look (mE M a x).L b = if b = a then 1 else S2.look M.L b := by
  have l1 : ∀ b, S2.look (M.acc 1 0 x).L b = S2.look M.L b := by rw [← hx]; exact acc_load (by omega)
  have l2 : S2.look ((M.acc 1 0 x).acc 3 a 1).L 0 = x := by rw [acc_other (by omega), l1]; exact hx
  have l3 : ∀ b, S2.look (mE M a x).L b = S2.look ((M.acc 1 0 x).acc 3 a 1).L b := fun b => by
    have := acc_load (M := (M.acc 1 0 x).acc 3 a 1) (k := 1) (a := 0) (by omega) b
    rwa [l2] at this
  rw [l3]
  split
  · rename_i e; subst e; exact acc_same (by omega)
  · rename_i e; rw [acc_other e]; exact l1 b
end
section
variable {M : Sd} {D : Pd} {pb pi ky x a : Nat} {E : En} {F : Fr}
theorem prun_in (hx : S2.look M.L 0 = x) (hk : D.k < 4294967296) (ha : a = lokN D.k x) (h0 : S2.look M.L a = 0) :
    (∀ i, i < 3 → (pitn (M, pa0 D) i).2.ln = 1) ∧ ∃ E3, pitn (M, pa0 D) 3 = (mE M a x, ⟨if D.hk.isSome then 2 else 4, D, bitsN x, bktN D.k x, E3, fr0 0, 0, 0⟩) := by
  have ek : D.k % 4294967296 = D.k := Nat.mod_eq_of_lt hk
  obtain ⟨g1, g2, g3, g4, g5, g6⟩ := en3 (t := D.t) (key := D.k) hx (by rw [ek]; exact ha) h0
  have gx := en3x (t := D.t) (key := D.k) hx (by rw [ek]; exact ha) h0
  have hw := fun n (hn : n ≤ 2) => pitn_way (M := M) (P := pa0 D) (.inl rfl) n (fun i hi _ => g1 i (by omega))
  refine ⟨fun i hi => by rw [hw i (by omega)]; rfl, (eitn (M, en0 D.t D.k) 3).2, ?_⟩
  have h2 := hw 2 (Nat.le_refl _)
  show pit (pitn (M, pa0 D) 2) = _
  rw [h2]
  have e3 : enE (eitn (M, en0 D.t D.k) 2).1 (eitn (M, en0 D.t D.k) 2).2 = (eitn (M, en0 D.t D.k) 3).2 := rfl
  have m3 : enM (eitn (M, en0 D.t D.k) 2).1 (eitn (M, en0 D.t D.k) 2).2 = (eitn (M, en0 D.t D.k) 3).1 := rfl
  show (enM (eitn (M, en0 D.t D.k) 2).1 (eitn (M, en0 D.t D.k) 2).2, if (enE (eitn (M, en0 D.t D.k) 2).1 (eitn (M, en0 D.t D.k) 2).2).ln = 0 then (⟨if D.hk.isSome then 2 else 4, D, bitsN (enE (eitn (M, en0 D.t D.k) 2).1 (eitn (M, en0 D.t D.k) 2).2).tw, bktN (enE (eitn (M, en0 D.t D.k) 2).1 (eitn (M, en0 D.t D.k) 2).2).kw (enE (eitn (M, en0 D.t D.k) 2).1 (eitn (M, en0 D.t D.k) 2).2).tw, enE (eitn (M, en0 D.t D.k) 2).1 (eitn (M, en0 D.t D.k) 2).2, fr0 0, 0, 0⟩ : Pa) else _) = _
  rw [m3, e3, if_pos g2, g3, g4, gx]
theorem prun_4 (h0 : D.t < 64) (ha : plA pb pi = a) (ha2 : 256 ≤ a ∧ a < 1024) (h1 : S2.look M.L a = 1) :
    (pitn (M, ⟨4, D, pb, pi, E, F, ky, 0⟩) 1).2 = ⟨5, D, pb, pi, E, F, ky, 0⟩ ∧ (pitn (M, ⟨4, D, pb, pi, E, F, ky, 0⟩) 1).1 = M.acc 2 (64 + D.t) D.k ∧ (pitn (M, ⟨4, D, pb, pi, E, F, ky, 0⟩) 2).2.ln = 6 ∧ ∃ F3, pitn (M, ⟨4, D, pb, pi, E, F, ky, 0⟩) 3 = ((queM (M.acc 2 (64 + D.t) D.k) D (pb : Int) pi).acc 5 a 0, ⟨8, D, pb, pi, E, F3, ky, 0⟩) := by
  have e2 : pitn (M, ⟨4, D, pb, pi, E, F, ky, 0⟩) 2 = (queM (M.acc 2 (64 + D.t) D.k) D (pb : Int) pi, ⟨6, D, pb, pi, E, fr0 a, ky, 0⟩) := by
    have e1 : pitn (M, ⟨4, D, pb, pi, E, F, ky, 0⟩) 1 = (M.acc 2 (64 + D.t) D.k, ⟨5, D, pb, pi, E, F, ky, 0⟩) := rfl
    show pit (pitn (M, ⟨4, D, pb, pi, E, F, ky, 0⟩) 1) = _
    rw [e1]
    show (queM (M.acc 2 (64 + D.t) D.k) D (pb : Int) pi, (⟨6, D, pb, pi, E, fr0 (plA pb pi), ky, 0⟩ : Pa)) = _
    rw [ha]
  refine ⟨rfl, rfl, by rw [e2], fr0 a, ?_⟩
  have l1 : S2.look (queM (M.acc 2 (64 + D.t) D.k) D (pb : Int) pi).L a = 1 := by
    show S2.look (M.acc 2 (64 + D.t) D.k).L a = 1
    rw [acc_other (by omega)]; exact h1
  obtain ⟨f1, f2⟩ := fr1 (M := queM (M.acc 2 (64 + D.t) D.k) D (pb : Int) pi) (a := a) (by omega) l1
  show pit (pitn (M, ⟨4, D, pb, pi, E, F, ky, 0⟩) 2) = _
  rw [e2]
  show (fstepM (queM (M.acc 2 (64 + D.t) D.k) D (pb : Int) pi) (fr0 a), if (fstepK (queM (M.acc 2 (64 + D.t) D.k) D (pb : Int) pi) (fr0 a)).ln = 0 then (⟨8, D, pb, pi, E, fr0 a, ky, 0⟩ : Pa) else _) = _
  have f1' : (fstepK (queM (M.acc 2 (64 + D.t) D.k) D (pb : Int) pi) (fr0 a)).ln = 0 := f1
  have f2' : fstepM (queM (M.acc 2 (64 + D.t) D.k) D (pb : Int) pi) (fr0 a) = (queM (M.acc 2 (64 + D.t) D.k) D (pb : Int) pi).acc 5 a 0 := f2
  rw [if_pos f1', f2']
end
def PaR (w0 w : World) (base WB : Nat) (M : Sd) (r : List Part) (j e u : Nat) (P : Pa) (B : Nat) : Prop := PaOk P ∧ ∃ q1 q2 X, PaW w0 w base WB M ((r.set e q1).set u q2) j e u P B X
structure Room (w0 : World) (base : Nat) (M : Sd) (P : Pa) : Prop where
  ms : 0 ≤ M.sp ∧ M.sp ≤ 16
  n : M.n ≤ 800000000
  p : M.pn ≤ 800000000
  ap : P.ln = 5 ∨ P.ln = 10 → AtPl w0 base M P.pb P.pi
section
variable {w0 w w' : World} {base WB : Nat} {M : Sd} {r : List Part} {j e u B : Nat} {l l' : Rows} {X : Wm} {P : Pa}
theorem PaW.look (h : PaW w0 w base WB M r j e u P B X) (a : Nat) : S2.look M.L a < 18446744073709551616 := by
  obtain ⟨l, hw, _⟩ := h.at'
  have := S2.look_lt hw.pg.pw.cells.good a
  rwa [show X.L = M.L from congrArg Sd.L hw.pg.xm] at this
theorem PaW.lk (h : PaW w0 w base WB M r j e u P B X) (k : Nat) : M.lk k ≤ 64 := by
  obtain ⟨l, hw, _⟩ := h.at'
  exact pg_le hw.pg k
theorem PaR.new (h : PaR w0 w base WB M r j e u P B) (b : Below w.heap.size w w') : PaR w0 w' base WB M r j e u P B := by
  obtain ⟨ok, q1, q2, X, h⟩ := h
  exact ⟨ok, q1, q2, X, h.new b⟩
theorem PaR.parked (h : PaR w0 w base WB M r j e u P B) : Calls Tryz.prog 45 #[Pw B] w fun e w' => e = .returned (.bool (decide (P.ln = 8))) ∧ w = w' := by
  obtain ⟨ok, q1, q2, X, h⟩ := h
  exact h.parked ok.ln ok.l7
theorem PaR.over (h : PaR w0 w base WB M r j e u P B) : Calls Tryz.prog 81 #[Pw B] w fun e w' => e = .returned (.bool (decide (P.ln = 0))) ∧ w = w' := by
  obtain ⟨ok, q1, q2, X, h⟩ := h
  exact h.over ok.ln ok.l7
end
end Go.Proofs.YtieiiabbeglmfaaGreatDoor.S18
set_option linter.unusedVariables false
set_option linter.unusedSimpArgs false
namespace Go.Proofs.YtieiiabbeglmfaaGreatDoor.S18
open Go.Proofs.YtieiiabbeglmfaaGreatDoor Go.Proofs.YtieiiabbeglmfaaGreatDoor.S11 Go.Proofs.YtieiiabbeglmfaaGreatDoor.S12 Go.Proofs.YtieiiabbeglmfaaGreatDoor.S13 Go.Proofs.YtieiiabbeglmfaaGreatDoor.S14 Go.Proofs.YtieiiabbeglmfaaGreatDoor.S15 Go.Proofs.YtieiiabbeglmfaaGreatDoor.S16
open Go.RowKit
structure Pl (M : Sd) (k a pi : Nat) (Q : List S10.Ent) : Prop where
  x : S2.look M.L 0 = 2
  ae : a = lokN k 2
  a0 : S2.look M.L a = 0
  pe : pi = bktN k 2
  len : (M.m 2).length = 4
  q : qAt M 2 pi = Q
  sp : M.sp = 0
theorem bits2 : bitsN 2 = 2 := by decide
theorem Pl.pl {M : Sd} {k a pi : Nat} {Q : List S10.Ent} (h : Pl M k a pi Q) : plA 2 pi = a := by
  have := plA_lok k 2
  rw [bits2, ← h.pe, ← h.ae] at this
  exact this
theorem Pl.ain {M : Sd} {k a pi : Nat} {Q : List S10.Ent} (h : Pl M k a pi Q) : 256 ≤ a ∧ a < 1024 := by
  have := lok_in k 2
  rw [← h.ae] at this
  omega
theorem Pl.pil {M : Sd} {k a pi : Nat} {Q : List S10.Ent} (h : Pl M k a pi Q) : pi < 4 := by
  have := bkt_lt k 2
  rw [bits2] at this
  rw [h.pe]; omega
theorem inI2 : S10.InI ((2 : Nat) : Int) := by unfold S10.InI; omega
def pkM (M : Sd) (D : Pd) (a pi : Nat) : Sd := (queM ((mE M a 2).acc 2 (64 + D.t) D.k) D ((2 : Nat) : Int) pi).acc 5 a 0
section
variable {M : Sd} {D : Pd} {a pi : Nat} {Q : List S10.Ent}
theorem pkM_look (h : Pl M D.k a pi Q) (ht : D.t < 64) (b : Nat) : S2.look (pkM M D a pi).L b = if b = 64 + D.t then D.k else S2.look M.L b := by
  have ha := h.ain
  by_cases e : b = a
  · subst e
    rw [if_neg (by omega), h.a0]
    exact acc_same (by omega)
  · have e1 : S2.look (pkM M D a pi).L b = S2.look ((mE M a 2).acc 2 (64 + D.t) D.k).L b := acc_other e
    rw [e1]
    by_cases e2 : b = 64 + D.t
    · subst e2; rw [if_pos rfl]; exact acc_same (by omega)
    · rw [if_neg e2, acc_other e2, mE_look h.x ha, if_neg e]
theorem pkM_m (h : Pl M D.k a pi Q) : ((pkM M D a pi).m 2).length = 4 ∧ qAt (pkM M D a pi) 2 pi = Q ++ [entD D] := by
  have hp := h.pil
  have e : (pkM M D a pi).m 2 = (M.m 2).set pi { (M.m 2)[pi]! with q := qAt M 2 pi ++ [entD D] } := by
    have e1 : (pkM M D a pi).m = S10.upd M.m ((2 : Nat) : Int) ((M.m ((2 : Nat) : Int)).set pi { (M.m ((2 : Nat) : Int))[pi]! with q := qAt M ((2 : Nat) : Int) pi ++ [entD D] }) := rfl
    rw [e1]
    exact S10.upd_same M.m ((2 : Nat) : Int) _
  refine ⟨by rw [e, List.length_set]; exact h.len, ?_⟩
  show ((pkM M D a pi).m 2)[pi]!.q = _
  rw [e, ← h.q, getElem!_pos _ pi (by rw [List.length_set, h.len]; exact hp), List.getElem_set_self]
theorem pk_run (h : Pl M D.k a pi Q) (ht : D.t < 64) (hk : D.k < 4294967296) (hh : D.hk = none) :
    (∀ i, i < 6 → (pitn (M, pa0 D) i).2.ln = 1 ∨ (pitn (M, pa0 D) i).2.ln = 4 ∨ (pitn (M, pa0 D) i).2.ln = 5 ∨ (pitn (M, pa0 D) i).2.ln = 6) ∧
    (∀ i, i < 6 → ((pitn (M, pa0 D) i).2.ln = 5 ∨ (pitn (M, pa0 D) i).2.ln = 10) → (pitn (M, pa0 D) i).2.pb = 2 ∧ (pitn (M, pa0 D) i).2.pi = pi ∧ (pitn (M, pa0 D) i).1.m = M.m ∧ (pitn (M, pa0 D) i).1.nD = M.nD) ∧
    ∃ E6 F6, pitn (M, pa0 D) 6 = (pkM M D a pi, ⟨8, D, 2, pi, E6, F6, 0, 0⟩) := by
  have ha := h.ain
  obtain ⟨g1, E3, g2⟩ := prun_in (D := D) h.x hk h.ae h.a0
  rw [bits2, ← h.pe, hh] at g2
  have g2' : pitn (M, pa0 D) 3 = (mE M a 2, ⟨4, D, 2, pi, E3, fr0 0, 0, 0⟩) := g2
  obtain ⟨f1, f2, f3, F6, f4⟩ := prun_4 (M := mE M a 2) (D := D) (pb := 2) (pi := pi) (ky := 0) (E := E3) (F := fr0 0) ht h.pl ha (by rw [mE_look h.x ha, if_pos rfl])
  have ad : ∀ n, pitn (M, pa0 D) (3 + n) = pitn (mE M a 2, ⟨4, D, 2, pi, E3, fr0 0, 0, 0⟩) n := fun n => by rw [pitn_add, g2']
  have a3 : (pitn (M, pa0 D) 3).2.ln = 4 := by rw [g2']
  have a4 : (pitn (M, pa0 D) 4).2 = ⟨5, D, 2, pi, E3, fr0 0, 0, 0⟩ := by rw [show 4 = 3 + 1 from rfl, ad]; exact f1
  have a4m : (pitn (M, pa0 D) 4).1 = (mE M a 2).acc 2 (64 + D.t) D.k := by rw [show 4 = 3 + 1 from rfl, ad]; exact f2
  have a5 : (pitn (M, pa0 D) 5).2.ln = 6 := by rw [show 5 = 3 + 2 from rfl, ad]; exact f3
  refine ⟨fun i hi => ?_, fun i hi hl => ?_, E3, F6, by rw [show 6 = 3 + 3 from rfl, ad]; exact f4⟩
  · rcases (show i < 3 ∨ i = 3 ∨ i = 4 ∨ i = 5 by omega) with h3 | rfl | rfl | rfl
    · rw [g1 i h3]; omega
    · rw [a3]; omega
    · rw [a4]; exact .inr (.inr (.inl rfl))
    · rw [a5]; omega
  · rcases (show i < 3 ∨ i = 3 ∨ i = 4 ∨ i = 5 by omega) with h3 | rfl | rfl | rfl
    · rw [g1 i h3] at hl; omega
    · rw [a3] at hl; omega
    · rw [a4, a4m]; exact ⟨rfl, rfl, rfl, rfl⟩
    · rw [a5] at hl; omega
end
theorem sd_m : (sdN 0 5).m 2 = S10.fresh 0 (List.replicate 4 []) := by
  have e1 : (sdN 0 5).m = S10.M0 0 := rfl
  rw [e1]; unfold S10.M0
  exact S10.upd_same _ _ _
theorem sd_x : S2.look (sdN 0 5).L 0 = 2 := by show S2.look L02 0 = 2; rw [look02, if_pos rfl]
theorem sd_a (k : Nat) : S2.look (sdN 0 5).L (lokN k 2) = 0 := by
  have hl := lok_in k 2
  show S2.look L02 _ = 0; rw [look02, if_neg (by omega)]
theorem sd_q (i : Nat) (hp : i < 4) : qAt (sdN 0 5) 2 i = [] := by
  unfold qAt
  rw [sd_m, S10.fresh_at _ _ (by simpa using hp)]
  show (List.replicate 4 ([] : List S10.Ent))[i]! = []
  rw [getElem!_pos _ _ (by simpa using hp), List.getElem_replicate]
theorem sd_l : ((sdN 0 5).m 2).length = 4 := by
  rw [sd_m]; unfold S10.fresh
  rw [List.length_map, List.length_replicate]
theorem room_of {w0 : World} {base : Nat} {M : Sd} {P : Pa} {n c : Nat} {pi : Nat} (hT : Tab w0) (hb : 0 < base) (hsp : M.sp = 0) (hn : M.n + n ≤ 800000000) (hp : M.pn + n ≤ 800000000) {i : Nat} (hi : i ≤ n)
    (hl : (pitn (M, P) i).2.ln = 5 ∨ (pitn (M, P) i).2.ln = 10 → (pitn (M, P) i).2.pb = 2 ∧ (pitn (M, P) i).2.pi < ((pitn (M, P) i).1.m 2).length ∧ (qAt (pitn (M, P) i).1 2 (pitn (M, P) i).2.pi).length ≤ 900 ∧ (pitn (M, P) i).1.nD.length ≤ 90000) : Room w0 base (pitn (M, P) i).1 (pitn (M, P) i).2 := by
  have b := pitn_n (M, P) i
  have b1 : (pitn (M, P) i).1.n ≤ M.n + i := b.1
  have b2 : (pitn (M, P) i).1.pn ≤ M.pn + i := b.2.1
  have b3 : (pitn (M, P) i).1.sp = M.sp := b.2.2
  refine ⟨by rw [b3, hsp]; omega, by omega, by omega, fun h5 => ?_⟩
  obtain ⟨e1, e2, e3, e4⟩ := hl h5
  rw [e1]
  exact ⟨hT, hb, inI2, e2, e3, e4⟩
section
variable {w0 w w' : World} {base WB : Nat} {M : Sd} {r : List Part} {j e u B : Nat} {X : Wm} {D : Pd} {a pi : Nat} {Q : List S10.Ent}
theorem new_r {v : Value} (h : Wq w0 w base WB M r j [] X) (hv : HkOf v D.hk) (hje : j ≠ e) (hju : j ≠ u) (he : e < r.length) (hu : u < r.length) (heu : e ≠ u) (ht : D.t < 64) (hk : D.k < 4294967296) (hc : ∀ c, D.hk = some c → c.a < 4294967296 ∧ c.all < 18446744073709551616 ∧ c.any < 18446744073709551616 ∧ c.clr < 18446744073709551616) :
    Calls Tryz.prog 11 #[.int .i64 (D.t : Int), .int .u32 (D.k : Int), .int .u64 (D.z : Int), .agg #[.bool D.on, .int .u64 (D.at' : Int)], v] w fun e' w' => ∃ B, e' = .returned (Pw B) ∧ PaR w0 w' base WB M r j e u (pa0 D) B := by
  refine (new_park h hv hje hju he hu heu ht hk).mono ?_
  rintro e' w' ⟨B, rfl, q, h'⟩
  obtain ⟨q2, e2⟩ := same_at' h'.hu
  exact ⟨B, rfl, ok_pa ht hk hc, q, q2, X, by rw [e2]; exact h'⟩
end
end Go.Proofs.YtieiiabbeglmfaaGreatDoor.S18
set_option linter.unusedVariables false
set_option linter.unusedSimpArgs false
namespace Go.Proofs.YtieiiabbeglmfaaGreatDoor.S18
open Go.Proofs.YtieiiabbeglmfaaGreatDoor Go.Proofs.YtieiiabbeglmfaaGreatDoor.S11 Go.Proofs.YtieiiabbeglmfaaGreatDoor.S12 Go.Proofs.YtieiiabbeglmfaaGreatDoor.S13 Go.Proofs.YtieiiabbeglmfaaGreatDoor.S14 Go.Proofs.YtieiiabbeglmfaaGreatDoor.S15 Go.Proofs.YtieiiabbeglmfaaGreatDoor.S16
open Go.RowKit
section
variable {M : Sd} {D : Pd} {a pb pi ky x : Nat} {Q : List S10.Ent} {E : En} {F : Fr}
theorem Pl.call (h : Pl M D.k a pi Q) (k p : Int) (f : Nat → S4.Pk) : Pl (M.call k p f) D.k a pi Q := ⟨h.x, h.ae, h.a0, h.pe, h.len, h.q, h.sp⟩
end
end Go.Proofs.YtieiiabbeglmfaaGreatDoor.S18
set_option linter.unusedVariables false
set_option linter.unusedSimpArgs false
namespace Go.Proofs.YtieiiabbeglmfaaGreatDoor.S18
open Go.Proofs.YtieiiabbeglmfaaGreatDoor Go.Proofs.YtieiiabbeglmfaaGreatDoor.S11 Go.Proofs.YtieiiabbeglmfaaGreatDoor.S12 Go.Proofs.YtieiiabbeglmfaaGreatDoor.S13 Go.Proofs.YtieiiabbeglmfaaGreatDoor.S14 Go.Proofs.YtieiiabbeglmfaaGreatDoor.S15 Go.Proofs.YtieiiabbeglmfaaGreatDoor.S16
open Go.RowKit
section
variable {M : Sd} {D : Pd} {a pi : Nat} {Q : List S10.Ent} {E : En} {F : Fr}
end
end Go.Proofs.YtieiiabbeglmfaaGreatDoor.S18
set_option linter.unusedVariables false
set_option linter.unusedSimpArgs false
set_option linter.unusedVariables false
set_option linter.unusedSimpArgs false
namespace Go.Proofs.YtieiiabbeglmfaaGreatDoor.S18
set_option maxRecDepth 100000
set_option maxHeartbeats 16000000
open Go.Proofs.YtieiiabbeglmfaaGreatDoor Go.Proofs.YtieiiabbeglmfaaGreatDoor.S11 Go.Proofs.YtieiiabbeglmfaaGreatDoor.S12 Go.Proofs.YtieiiabbeglmfaaGreatDoor.S13 Go.Proofs.YtieiiabbeglmfaaGreatDoor.S14 Go.Proofs.YtieiiabbeglmfaaGreatDoor.S15 Go.Proofs.YtieiiabbeglmfaaGreatDoor.S16
open Go.RowKit
section
variable {w0 w w' : World} {base WB : Nat} {M : Sd} {r : List Part} {j e u B : Nat} {l l' : Rows} {X : Wm} {P : Pa}
theorem pa_step {P : Pa} (h : PaW w0 w base WB M r j e u P B X) (ok : PaOk P) (okE : PaOk (paE M P)) (ms : 0 ≤ M.sp ∧ M.sp ≤ 16) (hn : M.n ≤ 800000000) (hp : M.pn ≤ 800000000) (hlk : ∀ a, S2.look M.L a < 18446744073709551616) (ap : P.ln = 5 ∨ P.ln = 10 → AtPl w0 base M P.pb P.pi) :
    Calls Tryz.prog 31 #[Pw B, Pw WB] w fun e' w' => e' = .returned (.bool (decide ((paE M P).ln = 0))) ∧ PaS w0 w' base WB M r j e u P B := by
  obtain ⟨ln, D, pb, pi, E, F, ky, o⟩ := P
  have hln : ln ≤ 13 := ok.ln
  have hl7 : ln ≠ 7 := ok.l7
  rcases (show ln = 0 ∨ ln = 1 ∨ ln = 2 ∨ ln = 3 ∨ ln = 4 ∨ ln = 5 ∨ ln = 6 ∨ ln = 8 ∨ ln = 9 ∨ ln = 10 ∨ ln = 11 ∨ ln = 12 ∨ ln = 13 by omega) with rfl | rfl | rfl | rfl | rfl | rfl | rfl | rfl | rfl | rfl | rfl | rfl | rfl
  · exact pl_0 h ok okE ms hn hp
  · exact pl_1 h ok okE ms hn hp
  · exact pl_2 h ok okE ms hn hp hlk
  · exact pl_3 h ok okE ms hn hp
  · exact pl_4 h ok okE ms hn hp
  · exact pl_5 h ok okE ms hn hp (ap (.inl rfl))
  · exact pl_6 h ok okE ms hn hp
  · exact pl_8 h ok okE ms hn hp
  · exact pl_9 h ok okE ms hn hp
  · exact pl_10 h ok okE ms hn hp (ap (.inr rfl))
  · exact pl_11 h ok okE ms hn hp
  · exact pl_12 h ok okE ms hn hp
  · exact pl_13 h ok okE ms hn hp
theorem PaR.step (h : PaR w0 w base WB M r j e u P B) (g : Room w0 base M P) :
    Calls Tryz.prog 31 #[Pw B, Pw WB] w fun e' w' => e' = .returned (.bool (decide ((paE M P).ln = 0))) ∧ PaR w0 w' base WB (paM M P) r j e u (paE M P) B := by
  obtain ⟨ok, q1, q2, X, h⟩ := h
  have okE := ok.step g.ms h.look h.lk
  refine (pa_step h ok okE g.ms g.n g.p h.look g.ap).mono ?_
  rintro e' w' ⟨rfl, a1, a2, X', h'⟩
  refine ⟨rfl, okE, a1, a2, X', ?_⟩
  rw [List.set_comm _ _ h.eu.symm, List.set_set, List.set_set] at h'
  exact h'
theorem pg_asleep (h : Pg w0 w base WB M r X) {i : Nat} (hi : i < 128) : Calls Tryz.prog 49 #[Pw X.pB, .int .i64 (i : Int)] w fun e w' => e = .returned (.bool (M.pf i).a) ∧ w = w' := by
  have := S4.asleep_yes h.pw.permits hi
  rwa [show X.pf = M.pf from congrArg Sd.pf h.xm] at this
theorem PaR.pB (h : PaR w0 w base WB M r j e u P B) {i : Nat} (hi : i < 128) : ∃ pB, w.cell? ⟨WB, 2, none⟩ = some (Pw pB) ∧ Calls Tryz.prog 49 #[Pw pB, .int .i64 (i : Int)] w fun e w' => e = .returned (.bool (M.pf i).a) ∧ w = w' := by
  obtain ⟨ok, q1, q2, X, h⟩ := h
  obtain ⟨l, hw, _⟩ := h.at'
  exact ⟨X.pB, hw.pg.c.2.1, pg_asleep hw.pg hi⟩
theorem asleep_ {t n : Nat} (h : PaR w0 w base WB M r j e u P B) (ht : t < 64) (hn : n ≤ 150) (hl : ∀ i, i < n → (pitn (M, P) i).2.ln ≠ 0 ∧ (pitn (M, P) i).2.ln ≠ 8) (hr : ∀ i, i ≤ n → Room w0 base (pitn (M, P) i).1 (pitn (M, P) i).2) (he : (pitn (M, P) n).2.ln = 8) (hs : (pitn (M, P) (n + 1)).2.ln = 8) (ha : ((pitn (M, P) (n + 1)).1.pf (2 * t)).a = true) :
    Calls Tryz.prog 12 #[Pw WB, Pw B, .int .i64 (t : Int)] w fun e' w' => e' = .returned (.bool true) ∧ PaR w0 w' base WB (pitn (M, P) (n + 1)).1 r j e u (pitn (M, P) (n + 1)).2 B := by
  have H := Lib.hid h; have HL := Lib.hid hl; have HR := Lib.hid hr; have HE := Lib.hid (And.intro he (And.intro hs (And.intro ha (And.intro ht hn))))
  have em : wrap64 (2 * (t : Int)) = ((2 * t : Nat) : Int) := by unfold wrap64; omega
  have em2 : IntKind.i64.wrap (2 * (t : Int)) = ((2 * t : Nat) : Int) := by rw [IntKind.wrap_i64]; omega
  clear h hl hr he hs ha ht hn
  go_enter Tryz.func12, Tryz.ntmps12
  go_wp2_with fail
  go_loopg [7] (n + 1) (fun q s7 wx => ∃ i : Nat, i ≤ n ∧ q = n + 1 - i ∧ s7 = .int .i64 (i : Int) ∧ PaR w0 wx base WB (pitn (M, P) i).1 r j e u (pitn (M, P) i).2 B)
  case atStart => exact ⟨0, Nat.zero_le _, by omega, rfl, H.out⟩
  case round =>
    obtain ⟨i, hi, rfl, rfl, hp⟩ := hrel
    have d1 : decide ((i : Int) < 200) = true := decide_eq_true (by have := HE.out; omega)
    have hpk := hp.parked
    have hst := hp.step (HR.out i hi)
    have HI := Lib.hid hi
    by_cases he : i = n
    · rw [decide_eq_true (show (pitn (M, P) i).2.ln = 8 by rw [he]; exact HE.out.1)] at hpk
      have e2 : (paE (pitn (M, P) i).1 (pitn (M, P) i).2).ln = 8 := by rw [he]; exact HE.out.2.1
      rw [decide_eq_false (show ¬ (paE (pitn (M, P) i).1 (pitn (M, P) i).2).ln = 0 by rw [e2]; omega)] at hst
      have HPK := Lib.hid hpk; have HST := Lib.hid hst; have HN := Lib.hid he
      clear hpk hst hp hi he e2
      go_upto_region 6 with (go_at_call 45; refine HPK.out.mono ?_; rintro e' w6 ⟨rfl, rfl⟩)
      clear HPK
      go_wp2_with (first
        | (go_at_call 31; refine HST.out.mono ?_; rintro e' w7 ⟨rfl, hs⟩; obtain ⟨pB, c2, has⟩ := hs.pB (i := 2 * t) (by have := HE.out.2.2.2.1; omega); rw [show ((paM (pitn (M, P) i).1 (pitn (M, P) i).2).pf (2 * t)).a = true from by rw [HN.out]; exact HE.out.2.2.1] at has; have hpk2 := hs.parked; rw [decide_eq_true (show (paE (pitn (M, P) i).1 (pitn (M, P) i).2).ln = 8 from by rw [HN.out]; exact HE.out.2.1)] at hpk2; have HS := Lib.hid hs; have HPK2 := Lib.hid hpk2; have HAS := Lib.hid has; clear hs hpk2 has)
        | (go_at_call 45; refine HPK2.out.mono ?_; rintro e' w8 ⟨rfl, rfl⟩)
        | (go_at_call 49; refine HAS.out.mono ?_; rintro e' w9 ⟨rfl, rfl⟩))
      go_ret
      have hf := HS.out
      rw [HN.out] at hf
      exact ⟨rfl, hf⟩
    · have hlt : i < n := by omega
      obtain ⟨g0, g8⟩ := HL.out i hlt
      rw [decide_eq_false g8] at hpk
      have e2 : ¬ (paE (pitn (M, P) i).1 (pitn (M, P) i).2).ln = 0 := by
        show ¬ (pitn (M, P) (i + 1)).2.ln = 0
        by_cases hh : i + 1 = n
        · rw [hh, HE.out.1]; omega
        · exact (HL.out (i + 1) (by omega)).1
      rw [decide_eq_false e2] at hst
      have HPK := Lib.hid hpk; have HST := Lib.hid hst; have HN := Lib.hid hlt
      have hm9 : i + 1 ≤ 151 := by have := HE.out.2.2.2.2; omega
      clear hpk hst hp hi he e2 g0 g8 hlt
      go_wp2_with (first
        | (go_at_call 45; refine HPK.out.mono ?_; rintro e' w6 ⟨rfl, rfl⟩)
        | (go_at_call 31; refine HST.out.mono ?_; rintro e' w7 ⟨rfl, hs⟩))
      go_roundg (n + 1 - (i + 1))
      case measure => have := HI.out; omega
      case rel => exact ⟨i + 1, HN.out, by omega, by go_num, hs⟩
end
end Go.Proofs.YtieiiabbeglmfaaGreatDoor.S18
set_option linter.unusedVariables false
set_option linter.unusedSimpArgs false
namespace Go.Proofs.YtieiiabbeglmfaaGreatDoor.S18
set_option maxRecDepth 100000
set_option maxHeartbeats 16000000
open Go.Proofs.YtieiiabbeglmfaaGreatDoor Go.Proofs.YtieiiabbeglmfaaGreatDoor.S11 Go.Proofs.YtieiiabbeglmfaaGreatDoor.S12 Go.Proofs.YtieiiabbeglmfaaGreatDoor.S13 Go.Proofs.YtieiiabbeglmfaaGreatDoor.S14 Go.Proofs.YtieiiabbeglmfaaGreatDoor.S15 Go.Proofs.YtieiiabbeglmfaaGreatDoor.S16
open Go.RowKit
section
variable {M : Sd} {D : Pd} {a pi : Nat} {Q : List S10.Ent} {c : Ck} {st : Nat}
theorem pkM_rest : (pkM M D a pi).T = M.T ∧ (pkM M D a pi).pf = S4.updP M.pf (2 * D.t) S4.pk0 ∧ (pkM M D a pi).nD.length ≤ M.nD.length + 1 := by
  refine ⟨rfl, rfl, ?_⟩
  show (addD M.nD _).length ≤ _
  unfold addD
  split <;> (try split) <;> simp <;> omega
end
section
variable {w0 w w' : World} {base WB : Nat} {M : Sd} {r : List Part} {j e u B : Nat} {X : Wm} {P : Pa}
theorem Pg.tick_ (h : Pg w0 w base WB M r X) (n : Nat) (hn : n ≤ 18446744073709551615) :
    Calls Tryz.prog 15 #[Pw X.kB, .int .u64 n] w fun e w' => e = .returned (.tuple #[]) ∧ ∃ X', Pg w0 w' base WB (M.tick n) r X' := by
  refine (S3.tick_any h.pw.clock n hn).mono ?_
  rintro e w' ⟨rfl, hc, ht⟩
  obtain ⟨hp, hb⟩ := t_clock (i := 1) h.ps rfl hc (fun g e => .inl e) (ht.mono (fun k _ e => .inl e))
  refine ⟨rfl, { X with T := S3.sat X.T n }, hp, h.wB, ?_, h.bl.trans hb⟩
  rw [← h.xm]; rfl
end
end Go.Proofs.YtieiiabbeglmfaaGreatDoor.S18
set_option linter.unusedVariables false
set_option linter.unusedSimpArgs false
namespace Go.Proofs.YtieiiabbeglmfaaGreatDoor.S18
set_option maxRecDepth 100000
set_option maxHeartbeats 16000000
open Go.Proofs.YtieiiabbeglmfaaGreatDoor Go.Proofs.YtieiiabbeglmfaaGreatDoor.S11 Go.Proofs.YtieiiabbeglmfaaGreatDoor.S12 Go.Proofs.YtieiiabbeglmfaaGreatDoor.S13 Go.Proofs.YtieiiabbeglmfaaGreatDoor.S14 Go.Proofs.YtieiiabbeglmfaaGreatDoor.S15 Go.Proofs.YtieiiabbeglmfaaGreatDoor.S16
open Go.RowKit
section
variable {w0 w w' : World} {base WB : Nat} {M : Sd} {r : List Part} {X : Wm} {key a pi : Nat} {Q : List S10.Ent}
end
end Go.Proofs.YtieiiabbeglmfaaGreatDoor.S18
set_option linter.unusedVariables false
set_option linter.unusedSimpArgs false
set_option linter.unusedVariables false
set_option linter.unusedSimpArgs false
namespace Go.Proofs.YtieiiabbeglmfaaGreatDoor.S18
open Go.Proofs.YtieiiabbeglmfaaGreatDoor Go.Proofs.YtieiiabbeglmfaaGreatDoor.S11 Go.Proofs.YtieiiabbeglmfaaGreatDoor.S12 Go.Proofs.YtieiiabbeglmfaaGreatDoor.S13 Go.Proofs.YtieiiabbeglmfaaGreatDoor.S14 Go.Proofs.YtieiiabbeglmfaaGreatDoor.S15 Go.Proofs.YtieiiabbeglmfaaGreatDoor.S16
open Go.RowKit
structure Wd (M : Sd) (a pi : Nat) (Q : List S10.Ent) (st k : Nat) : Prop where
  pl : Pl M 1024 a pi Q
  s : S2.look M.L 1024 = st
  T : M.T = 0
  n : M.n ≤ k
  p : M.pn ≤ k
  nD : M.nD.length ≤ k
  p8 : (M.pf 8).p = false
section
variable {w0 w w' : World} {base WB : Nat} {M : Sd} {r : List Part} {j e u B : Nat} {X : Wm} {a pi st k : Nat} {Q : List S10.Ent}
abbrev r3 : List Part := [noP, noP, rowsP []]
def intsP (s : Value) (n : Nat) (cs : List Value) : Part where
  ok w := S10.Row w 0 1 s n cs
  fp k := s.ownBlock = some k
  lt w h k e := (h.lt k e).2
  kept S w w' h t hs := h.keep (S := S) ⟨t.os, t.tape, t.output, t.size, t.block⟩ hs
abbrev r4 (s : Value) (n : Nat) (cs : List Value) : List Part := [noP, noP, rowsP [], intsP s n cs]
theorem PaR.slice {s : Value} {n : Nat} {cs : List Value} {P : Pa} (h : PaR w0 w base WB M (r4 s n cs) 2 0 1 P B) : S10.Row w 0 1 s n cs := by
  obtain ⟨ok, q1, q2, X, h⟩ := h
  obtain ⟨l, hw, _⟩ := h.at'
  exact hw.pg.ps.ok _ (intsP s n cs) (hw.pg.part (j := 3) rfl)
end
end Go.Proofs.YtieiiabbeglmfaaGreatDoor.S18
set_option linter.unusedVariables false
set_option linter.unusedSimpArgs false
namespace Go.Proofs.YtieiiabbeglmfaaGreatDoor.S18
open Go.Proofs.YtieiiabbeglmfaaGreatDoor Go.Proofs.YtieiiabbeglmfaaGreatDoor.S11 Go.Proofs.YtieiiabbeglmfaaGreatDoor.S12 Go.Proofs.YtieiiabbeglmfaaGreatDoor.S13 Go.Proofs.YtieiiabbeglmfaaGreatDoor.S14 Go.Proofs.YtieiiabbeglmfaaGreatDoor.S15 Go.Proofs.YtieiiabbeglmfaaGreatDoor.S16
open Go.RowKit
def D0 : Pd := ⟨3, 1152, 7, false, 0, none⟩
section
variable {w0 w w' : World} {base WB : Nat} {M : Sd} {r : List Part} {j e u B : Nat} {X : Wm} {P : Pa}
theorem PaR.pg (h : PaR w0 w base WB M r j e u P B) : ∃ r' X, Pg w0 w base WB M r' X := by
  obtain ⟨ok, q1, q2, X, h⟩ := h
  obtain ⟨l, hw, _⟩ := h.at'
  exact ⟨_, X, hw.pg⟩
end
end Go.Proofs.YtieiiabbeglmfaaGreatDoor.S18
set_option linter.unusedVariables false
set_option linter.unusedSimpArgs false
namespace Go.Proofs.YtieiiabbeglmfaaGreatDoor.S19
set_option maxRecDepth 100000
set_option maxHeartbeats 16000000
open Go.Proofs.YtieiiabbeglmfaaGreatDoor Go.ChangeShapes Go.WideShapes Go.ChangeAt Go.RowKit Go.Deep
section
variable {H : Type} {enc : TypeId × Value → H} {W : World}
theorem okWide_array {n : Nat} {e t : TypeId} {r : Reach} {b0 : Nat} {v : Value} (ht : Tryz.prog.underlying t = some (.array n e)) (h : Value.okWide Tryz.prog W r b0 t v) : ∃ cs, v = .agg cs ∧ cs.size = Tryz.prog.cellsOf t := by
  simp only [Value.okWide, ht] at h
  obtain ⟨cs, h1, h2, _⟩ := h
  exact ⟨cs, h1, h2⟩
theorem elem_at {n : Nat} {t e : TypeId} {k : IntKind} {M fuel : Nat} {cs : List Value} {x : DataW H × List MemPlace} (ht : Tryz.prog.underlying t = some (.array n e)) (he : Tryz.prog.underlying e = some (.int k)) (h0 : k.min = 0) (h1 : k.max = (M : Int)) (hc : Tryz.prog.cellsOf e = 1) (hl : Tryz.prog.cellsOf t = n)
    (h : DataW.trod enc Tryz.prog W 0 (fun _ => true) true fuel t cs = some x) (j : Nat) (hj : j < n) : ∃ a : Nat, cs[j]? = some (.int k a) ∧ a ≤ M := by
  obtain ⟨xs, m, _, _, hlen, hxl, hf⟩ := DataW.trod_array ht h
  have hx := hf j hj
  rw [hc, Nat.mul_one] at hx
  have hjc : j < cs.length := by rw [hlen, hl]; exact hj
  have hd : (cs.drop j).take 1 = [cs[j]] := by rw [List.drop_eq_getElem_cons hjc]; rfl
  rw [hd, List.getElem?_eq_getElem (by rw [hxl]; exact hj)] at hx
  obtain ⟨a, e1, _, wa⟩ := DataW.trod_int he hx
  simp at e1
  simp [Lit.wf, h0, h1] at wa
  obtain ⟨n, rfl⟩ := Int.eq_ofNat_of_zero_le wa.1
  exact ⟨n, by rw [List.getElem?_eq_getElem hjc, e1], by omega⟩
end
theorem open_three {H : Type} {enc : TypeId × Value → H} {W : World} {v : Value} {d : DataW H} {p : List MemPlace} {r : Reach} {b0 : Nat} (hv : Value.okWide Tryz.prog W r b0 92 v) (h : DataW.Trod enc Tryz.prog W 0 (fun _ => true) true 92 v d p) :
    ∃ a b c : Nat, v = .agg #[.int .u64 (a : Int), .int .u64 (b : Int), .int .u64 (c : Int)] ∧ a < 18446744073709551616 ∧ b < 18446744073709551616 ∧ c < 18446744073709551616 := by
  obtain ⟨cs, rfl, hsz⟩ := okWide_array Tryz.underlying92 hv
  obtain ⟨fuel, hf⟩ := h
  have h4 : Tryz.prog.cellsOf 92 = 3 := by kernel_rfl
  have h1 : Tryz.prog.cellsOf 23 = 1 := by kernel_rfl
  rw [h4] at hsz
  have el := fun j hj => elem_at (M := 18446744073709551615) Tryz.underlying92 Tryz.underlying23 rfl rfl h1 h4 hf j hj
  obtain ⟨a0, c0, b0⟩ := el 0 (by omega)
  obtain ⟨a1, c1, b1⟩ := el 1 (by omega)
  obtain ⟨a2, c2, b2⟩ := el 2 (by omega)
  refine ⟨a0, a1, a2, ?_, by omega, by omega, by omega⟩
  obtain ⟨l⟩ := cs
  match l, hsz with
  | [x0, x1, x2], _ =>
    simp [Value.cells] at c0 c1 c2
    rw [c0, c1, c2]
end Go.Proofs.YtieiiabbeglmfaaGreatDoor.S19
set_option linter.unusedVariables false
set_option linter.unusedSimpArgs false
namespace Go.Proofs.YtieiiabbeglmfaaGreatDoor.S3
open Go.Proofs.YtieiiabbeglmfaaGreatDoor
open Go.RowKit
theorem Row.tail {w : World} {base : Nat} {s : Value} {d : Nat} {D : List Nat} (h : Row w base s (d :: D)) :
    ∃ g o cap, s = .slice (some ⟨g, o, none⟩) (D.length + 1) cap ∧ w.cell? ⟨g, o, none⟩ = some (uv d) ∧ D.length + 1 ≤ cap ∧ cap ≤ maxLen ∧
      Row w base (.slice (some ⟨g, if cap = 1 then o else o + 1, none⟩) D.length (cap - 1)) D := by
  obtain ⟨A, cap, rfl, h1, h2, h3, h4⟩ := h
  simp only [List.length_cons] at h1 ⊢
  cases A with
  | none => have := h3 rfl; omega
  | some ad =>
    obtain ⟨g, o, rfl, hb, hlt, hl, hc⟩ := h4 ad rfl
    refine ⟨g, o, cap, rfl, ?_, h1, h2, _, _, rfl, by omega, by omega, (fun e => by cases e), fun ad e => ?_⟩
    · have := hl 0 (by simp)
      simpa using this
    · cases e
      refine ⟨g, _, rfl, hb, hlt, ?_, ?_⟩
      · intro i hi
        rw [if_neg (by omega)]
        have := hl (i + 1) (by simp; omega)
        rw [show o + (i + 1) = o + 1 + i by omega] at this
        simpa using this
      · intro j hj
        rw [if_neg (by omega), show o + 1 + j = o + (j + 1) by omega]
        exact hc (j + 1) (by omega)
end Go.Proofs.YtieiiabbeglmfaaGreatDoor.S3
set_option linter.unusedVariables false
set_option linter.unusedSimpArgs false
namespace Go.Proofs.YtieiiabbeglmfaaGreatDoor.S3
open Go.Proofs.YtieiiabbeglmfaaGreatDoor
open Go.RowKit
def brt (d most : Nat) : Nat := d % (most + 1)
theorem brought_any (d most : Nat) (hd : d ≤ 18446744073709551615) (hm : most ≤ 18446744073709551615) (w : World) : Calls Tryz.prog 250 #[.int .u64 d, .int .u64 most] w fun e w' => e = .returned (.int .u64 (brt d most : Nat)) ∧ w = w' := by
  unfold brt
  by_cases h : most = 18446744073709551615
  · have e : d % (most + 1) = d := Nat.mod_eq_of_lt (by omega)
    rw [e]
    have t : ((most : Int) == 18446744073709551615) = true := by rw [beq_iff_eq]; omega
    clear e h
    go_enter Tryz.func250, Tryz.ntmps250
    go_wp2
    go_ret
    exact ⟨rfl, rfl⟩
  · have t : ((most : Int) == 18446744073709551615) = false := by rw [beq_eq_false_iff_ne]; omega
    have t2 : ((most : Int) + 1 == 0) = false := by rw [beq_eq_false_iff_ne]; omega
    have b : (most : Int) + 1 ≤ 18446744073709551615 := by omega
    clear h
    go_enter Tryz.func250, Tryz.ntmps250
    go_wp2
    go_ret
    exact ⟨rfl, rfl⟩
end Go.Proofs.YtieiiabbeglmfaaGreatDoor.S3
set_option linter.unusedVariables false
set_option linter.unusedSimpArgs false
namespace Go.Proofs.YtieiiabbeglmfaaGreatDoor.S3
open Go.Proofs.YtieiiabbeglmfaaGreatDoor
open Go.RowKit
section
variable {w w' : World} {base B T most : Nat} {s : Value} {D : List Nat}
theorem draw_none (h : ClockAt w base B T most s []) : Calls Tryz.prog 229 #[Pt B] w fun e w' => e = .returned (.int .u64 0) ∧ w = w' := by
  have c0 : w.cell? ⟨B, 2, none⟩ = some s := cell_row h.row 2
  obtain ⟨A, cap, rfl, _⟩ := h.own
  simp only [List.length_nil] at c0
  clear h
  go_enter Tryz.func229, Tryz.ntmps229
  go_wp2
  go_ret
  exact ⟨rfl, rfl⟩
def Drawn (w w' : World) (base B T most : Nat) (s : Value) (D : List Nat) : Prop := ∃ s', ClockAt w' base B T most s' D ∧ s'.ownBlock = s.ownBlock ∧ Turns (fun k => k = B) w w'
theorem draw_some {d : Nat} (h : ClockAt w base B T most s (d :: D)) : Calls Tryz.prog 229 #[Pt B] w fun e w' => e = .returned (.int .u64 (brt d most : Nat)) ∧ Drawn w w' base B T most s D := by
  have c2 : w.cell? ⟨B, 2, none⟩ = some s := cell_row h.row 2
  have c1 : w.cell? ⟨B, 1, none⟩ = some (.int .u64 most) := cell_row h.row 1
  have f2 : w.frozen? ⟨B, 2, none⟩ = false := froz_row h.row 2
  obtain ⟨g, o, cap, rfl, cg, hc1, hc2, ht⟩ := h.own.tail
  unfold uv at cg
  have hq := fun W => brought_any d most (h.nums.all d (by simp)) h.nums.m W
  have hlen := h.nums.len
  simp only [List.length_cons] at hlen
  unfold maxLen at hc2
  have H := Lib.hid h; have HQ := Lib.hid hq; have HT := Lib.hid ht
  clear h hq ht
  generalize brt d most = x at *
  have hfin : ∀ o', Row w base (.slice (some ⟨g, o', none⟩) D.length (cap - 1)) D → Drawn w (w.setCell ⟨B, 2, none⟩ (.slice (some ⟨g, o', none⟩) D.length (cap - 1))) base B T most (.slice (some ⟨g, o, none⟩) (D.length + 1) cap) D := fun o' hr => by
    have t : Turns (fun k => k = B) w (w.setCell ⟨B, 2, none⟩ (.slice (some ⟨g, o', none⟩) D.length (cap - 1))) := (Turns.refl _ w).setCell _ _ rfl
    have hne : g ≠ B := fun e => H.out.ne (by rw [← e]; rfl)
    refine ⟨_, ⟨⟨H.out.nums.t, H.out.nums.m, by omega, fun x hx => H.out.nums.all x (by simp [hx])⟩, row_set H.out.row 2 _, hr.keep t ?_, ?_⟩, rfl, t⟩
    · intro g' hg e
      have : g = g' := by simpa [Value.ownBlock] using hg
      exact hne (this.trans e)
    · intro e
      exact hne (by simpa [Value.ownBlock] using e)
  have HF := Lib.hid hfin
  clear hfin
  by_cases hcap : cap = 1
  · subst hcap
    rw [if_pos rfl] at HT
    obtain rfl : D = [] := List.eq_nil_of_length_eq_zero (by omega)
    go_enter Tryz.func229, Tryz.ntmps229
    go_wp2_with (first
      | (go_at_call 250; refine (HQ.out _).mono ?_; rintro e w' ⟨rfl, rfl⟩))
    go_ret
    exact ⟨rfl, HF.out _ HT.out⟩
  · rw [if_neg hcap] at HT
    go_enter Tryz.func229, Tryz.ntmps229
    go_wp2_with (first
      | (go_at_call 250; refine (HQ.out _).mono ?_; rintro e w' ⟨rfl, rfl⟩))
    go_ret
    exact ⟨rfl, HF.out _ HT.out⟩
end
end Go.Proofs.YtieiiabbeglmfaaGreatDoor.S3
set_option linter.unusedVariables false
set_option linter.unusedSimpArgs false
namespace Go.Proofs.YtieiiabbeglmfaaGreatDoor.S10
open Go.Proofs.YtieiiabbeglmfaaGreatDoor
open Go.RowKit
section
variable {w : World} {s : Value} {F : Int → Value} {M : Int → List Bk} {b : Int}
theorem pair_set {w : World} {X : Nat} {x y : Value} {T : TypeId} (h : w.heap[X]? = some (.cells #[x, y] T (0, 0))) (u v : Value) :
    ((w.setCell ⟨X, 0, none⟩ u).setCell ⟨X, 1, none⟩ v).heap[X]? = some (.cells #[u, v] T (0, 0)) := by
  have h1 := row_set h 0 u
  have h2 := row_set h1 1 v
  rw [h2]; rfl
theorem turns2 (w : World) (X : Nat) (u v : Value) : Turns (fun k => k = X) w ((w.setCell ⟨X, 0, none⟩ u).setCell ⟨X, 1, none⟩ v) :=
  ((Turns.refl (fun k => k = X) w).setCell ⟨X, 0, none⟩ u rfl).setCell ⟨X, 1, none⟩ v rfl
theorem pair_facts {W w1 : World} {T : TypeId} {x y : Value} (hb : Below (W.alloc (.cells #[x, y] T)).heap.size (W.alloc (.cells #[x, y] T)) w1) : w1.heap[W.heap.size]? = some (.cells #[x, y] T (0, 0)) :=
  (hb.block _ (by simp)).trans (heap_alloc_new W _)
theorem timer_yes (h : Rs w s F M) (hb : InI b) {i : Nat} (hi : i < (M b).length) :
    Calls Tryz.prog 35 #[s, .agg #[.int .i64 b, .int .i64 (i : Int)]] w fun e w' => e = .returned (.agg #[.int .u64 (M b)[i]!.a, .int .u64 (M b)[i]!.f]) ∧ Below w.heap.size w w' := by
  obtain ⟨g, o, c, A', c', h1, k0, k1, k2, hg, h7, h8, h9⟩ := h.bk hi
  have HT := Lib.hid (fun W hW => at_yes (h.sv.below (w' := W) hW) hb h1 hi)
  clear h h1 k2 h7 h8 h9 hi
  generalize (M b)[i]!.a = ta at *
  generalize (M b)[i]!.f = tf at *
  have HK0 := Lib.hid (fun W (hb : Below w.heap.size w W) => (hb.cell (p := ⟨g, o + i * 3, none⟩) hg).trans k0)
  have HK1 := Lib.hid (fun W (hb : Below w.heap.size w W) => (hb.cell (p := ⟨g, o + i * 3 + 1, none⟩) hg).trans k1)
  clear k0 k1
  go_enter Tryz.func35, Tryz.ntmps35
  go_wp2_with fail
  have hbb : Below w.heap.size w ((w.alloc (.cells #[.int .i64 b, .int .i64 (i : Int)] 97)).alloc (.cells #[.int .u64 0, .int .u64 0] 100)) := (below1 w _).alloc (by simp) _
  refine (HT.out _ hbb).mono ?_
  rintro e w1 ⟨rfl, hb1⟩
  have hx := pair_facts hb1
  rw [show (w.alloc (.cells #[Value.int .i64 b, .int .i64 (i : Int)] 97)).heap.size = w.heap.size + 1 by simp] at hx
  have hbw := hbb.trans (hb1.mono hbb.size)
  have k0 := HK0.out w1 hbw
  have k1 := HK1.out w1 hbw
  have HB := Lib.hid hbw
  clear hb1 hbb hbw
  obtain ⟨X, hX⟩ : ∃ X, X = w.heap.size + 1 := ⟨_, rfl⟩
  have HX := Lib.hid hX
  rw [← hX] at hx ⊢
  have x0 : w1.cell? ⟨X, 0, none⟩ = some (.int .u64 0) := cell_row hx 0
  have x1 : w1.cell? ⟨X, 1, none⟩ = some (.int .u64 0) := cell_row hx 1
  have f0 : w1.frozen? ⟨X, 0, none⟩ = false := froz_row hx 0
  have f1 : w1.frozen? ⟨X, 1, none⟩ = false := froz_row hx 1
  have hp := pair_set hx (.int .u64 ta) (.int .u64 tf)
  have S0 := Lib.hid (show _ = some (Value.int .u64 ta) from cell_row hp 0); have S1 := Lib.hid (show _ = some (Value.int .u64 tf) from cell_row hp 1)
  clear hx hX hp
  go_upto_region 4 with (fail)
  go_region
  go_wp2_with fail
  refine bodyPost_ret (v := .agg #[.int .u64 ta, .int .u64 tf]) (by simp [results, Tryz.results35, go_sem, S0.out, S1.out]) rfl ⟨rfl, ?_⟩
  first | exact HB.out.trans ((turns2 w1 X _ _).below HB.out.size (fun k hk e => by have := HX.out; omega)) | exact (HB.out.trans ((turns2 w1 X _ _).below HB.out.size (fun k hk e => by have := HX.out; omega))).drew
end
end Go.Proofs.YtieiiabbeglmfaaGreatDoor.S10
set_option linter.unusedVariables false
set_option linter.unusedSimpArgs false
namespace Go.Proofs.YtieiiabbeglmfaaGreatDoor.S10
open Go.Proofs.YtieiiabbeglmfaaGreatDoor
open Go.RowKit
section
variable {w : World} {base : Nat} {own : Nat → Option Role} {s : Value} {n : Nat} {M : Int → List Bk} {sb mb : Nat} {F : Int → Value} {V : Int → Nat → Value}
theorem StF.putT (h : StF w base own s n M sb mb F V) {b : Int} {i g o c : Nat} (hi : i < (M b).length) (hF : F b = .slice (some ⟨g, o, none⟩) (M b).length c) (ta tf : Int) :
    StF ((w.setCell ⟨g, o + i * 3, none⟩ (.int .u64 ta)).setCell ⟨g, o + i * 3 + 1, none⟩ (.int .u64 tf)) base own s n (upd M b ((M b).set i { (M b)[i]! with a := ta, f := tf })) sb mb F V := by
  have hog : own g = some (.tab b) := h.ot b g (by rw [hF]; rfl)
  have tset : Turns (fun k => k = g) w ((w.setCell ⟨g, o + i * 3, none⟩ (.int .u64 ta)).setCell ⟨g, o + i * 3 + 1, none⟩ (.int .u64 tf)) := ((Turns.refl (fun k => k = g) w).setCell ⟨g, o + i * 3, none⟩ _ rfl).setCell ⟨g, o + i * 3 + 1, none⟩ _ rfl
  have hlen : ∀ b', (upd M b ((M b).set i { (M b)[i]! with a := ta, f := tf }) b').length = (M b').length := fun b' => by
    by_cases e : b' = b
    · subst e; rw [upd_same, List.length_set]
    · rw [upd_ne _ _ e]
  refine ⟨fun x r e => ?_, h.hs, (tset.block sb (h.fp sb _ h.os).2 (h.ne h.os hog (by simp))).trans h.hc, h.os, h.hm.keep tset (h.ne h.om hog (by simp)), h.om, fun b' => ?_, h.ot, fun b' j hj => ?_, fun b' j x hj e => ?_⟩
  · have := h.fp x r e
    have := tset.size
    omega
  · rw [hlen]
    by_cases e : b' = b
    · subst e
      rw [upd_same]
      have := h.ht b'
      rw [hF] at this ⊢
      have h2 := (this.setAt (i := i * 3) (by omega) (.int .u64 ta)).setAt (i := i * 3 + 1) (by omega) (.int .u64 tf)
      rw [bflat_a _ _ hi, bflat_f _ _ (by rw [List.length_set]; exact hi), get_set hi, if_pos rfl, List.set_set] at h2
      rw [Nat.add_assoc]
      exact h2
    · rw [upd_ne _ _ e]
      exact (h.ht b').keep tset (fun x ex => h.ne (h.ot b' x ex) hog (by simp; exact e))
  · rw [hlen] at hj
    have : (upd M b ((M b).set i { (M b)[i]! with a := ta, f := tf }) b')[j]!.q = (M b')[j]!.q := by
      by_cases e : b' = b
      · subst e
        rw [upd_same, get_set hi]
        by_cases e2 : j = i
        · subst e2; rw [if_pos rfl]
        · rw [if_neg e2]
      · rw [upd_ne _ _ e]
    rw [this]
    exact (h.hq b' j hj).keep tset (fun x ex => h.ne (h.oq b' j x hj ex) hog (by simp))
  · rw [hlen] at hj
    exact h.oq b' j x hj e
end
end Go.Proofs.YtieiiabbeglmfaaGreatDoor.S10
