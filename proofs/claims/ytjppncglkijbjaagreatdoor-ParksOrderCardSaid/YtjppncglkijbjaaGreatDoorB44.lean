/- Texts of this seat, one behind the other. -/
import Derived.Test.YtjppncglkijbjaaGreatDoorB31
import Derived.Test.YtjppncglkijbjaaGreatDoorB43
set_option linter.unusedVariables false
set_option linter.unusedSimpArgs false
set_option linter.unusedVariables false
set_option linter.unusedSimpArgs false
namespace Go.Proofs.YtjppncglkijbjaaGreatDoor.S18
open Go.Proofs.YtjppncglkijbjaaGreatDoor Go.Proofs.YtjppncglkijbjaaGreatDoor.S11 Go.Proofs.YtjppncglkijbjaaGreatDoor.S12 Go.Proofs.YtjppncglkijbjaaGreatDoor.S13 Go.Proofs.YtjppncglkijbjaaGreatDoor.S14 Go.Proofs.YtjppncglkijbjaaGreatDoor.S15 Go.Proofs.YtjppncglkijbjaaGreatDoor.S16
open Go.RowKit

def pit (p : Sd × Pa) : Sd × Pa := (paM p.1 p.2, paE p.1 p.2)
def pitn (p : Sd × Pa) : Nat → Sd × Pa
  | 0 => p
  | n + 1 => pit (pitn p n)
theorem pitn_add (p : Sd × Pa) (m : Nat) : ∀ n, pitn p (m + n) = pitn (pitn p m) n
  | 0 => rfl
  | n + 1 => by
    show pit (pitn p (m + n)) = pit (pitn (pitn p m) n)
    rw [pitn_add p m n]
theorem paM_n (M : Sd) (P : Pa) : (paM M P).n ≤ M.n + 1 ∧ (paM M P).pn ≤ M.pn + 1 ∧ (paM M P).sp = M.sp := by
  unfold paM
  split
  · exact enM_n M P.E
  · unfold lookM; split <;> simp [Sd.acc]
  · exact ⟨(fstepM_n M P.F).1, (fstepM_n M P.F).2, fstepM_sp M P.F⟩
  · simp [Sd.acc]
  · simp [queM, Sd.note, Sd.putq, Sd.tab, Sd.prep, Sd.call]
  · exact ⟨(fstepM_n M P.F).1, (fstepM_n M P.F).2, fstepM_sp M P.F⟩
  · split <;> simp [Sd.until, Sd.park, Sd.call]
  · exact enM_n M P.E
  · split
    · simp [Sd.late, Sd.call]
    · unfold goneM; split <;> simp [Sd.note, Sd.putq, Sd.tab, Sd.late, Sd.call]
  · exact ⟨(fstepM_n M P.F).1, (fstepM_n M P.F).2, fstepM_sp M P.F⟩
  · unfold clrM; split <;> simp [Sd.acc]
  · exact ⟨(fstepM_n M P.F).1, (fstepM_n M P.F).2, fstepM_sp M P.F⟩
  · simp
theorem pitn_n (p : Sd × Pa) : ∀ n, (pitn p n).1.n ≤ p.1.n + n ∧ (pitn p n).1.pn ≤ p.1.pn + n ∧ (pitn p n).1.sp = p.1.sp
  | 0 => ⟨Nat.le_refl _, Nat.le_refl _, rfl⟩
  | n + 1 => by
    have h := pitn_n p n
    have g := paM_n (pitn p n).1 (pitn p n).2
    exact ⟨by show (paM _ _).n ≤ _; omega, by show (paM _ _).pn ≤ _; omega, g.2.2.trans h.2.2⟩
theorem pit_way {M : Sd} {P : Pa} (hl : P.ln = 1 ∨ P.ln = 9) (h : (enE M P.E).ln ≠ 0) : pit (M, P) = (enM M P.E, { P with E := enE M P.E }) := by
  obtain ⟨ln, D, pb, pi, E, F, ky, o⟩ := P
  have hl' : ln = 1 ∨ ln = 9 := hl
  rcases hl' with rfl | rfl
  · show (enM M E, if (enE M E).ln = 0 then _ else _) = _
    rw [if_neg h]
  · show (enM M E, if (enE M E).ln = 0 then _ else _) = _
    rw [if_neg h]
theorem pitn_way {M : Sd} {P : Pa} (hl : P.ln = 1 ∨ P.ln = 9) : ∀ n, (∀ i, i ≤ n → i ≠ 0 → (eitn (M, P.E) i).2.ln ≠ 0) → pitn (M, P) n = ((eitn (M, P.E) n).1, { P with E := (eitn (M, P.E) n).2 })
  | 0, _ => rfl
  | n + 1, h => by
    have h1 := pitn_way hl n (fun i hi => h i (by omega))
    show pit (pitn (M, P) n) = _
    rw [h1]
    exact pit_way (P := { P with E := (eitn (M, P.E) n).2 }) hl (h (n + 1) (Nat.le_refl _) (by omega))
def mE (M : Sd) (a x : Nat) : Sd := ((M.acc 1 0 x).acc 3 a 1).acc 1 0 x
def mO (M : Sd) (a x t k : Nat) : Sd := ((((M.acc 1 (64 + t) k).acc 1 0 x).acc 3 a 1).acc 1 0 x).acc 1 (64 + t) k
section
variable {M : Sd} {t key x a : Nat}
theorem en3x (hx : S2.look M.L 0 = x) (ha : a = lokN (key % 4294967296) x) (h0 : S2.look M.L a = 0) : (eitn (M, en0 t key) 3).1 = mE M a x := by
  have ha2 := lok_in (key % 4294967296) x
  rw [← ha] at ha2
  have e1 : eit (M, en0 t key) = (M.acc 1 0 x, ⟨false, 3, t, key, x, lk1 t a, fr0 0⟩) := by
    show (M.acc 1 0 (S2.look M.L 0), (⟨false, 3, t, key, S2.look M.L 0, lk1 t (lokN (key % 4294967296) (S2.look M.L 0)), fr0 0⟩ : En)) = _
    rw [hx, ← ha]
  have l1 : ∀ b, S2.look (M.acc 1 0 x).L b = S2.look M.L b := by rw [← hx]; exact acc_load (by omega)
  obtain ⟨s1, s2⟩ := lock1 (M := M.acc 1 0 x) (t := t) (a := a) (by omega) (by rw [l1]; exact h0)
  have e2 : eit (M.acc 1 0 x, ⟨false, 3, t, key, x, lk1 t a, fr0 0⟩) = ((M.acc 1 0 x).acc 3 a 1, ⟨false, 4, t, key, x, stepK (M.acc 1 0 x) (lk1 t a), fr0 0⟩) := by
    show (stepM (M.acc 1 0 x) (lk1 t a), (⟨false, if (stepK (M.acc 1 0 x) (lk1 t a)).ln = 0 then 4 else 3, t, key, x, stepK (M.acc 1 0 x) (lk1 t a), fr0 0⟩ : En)) = _
    rw [s1, if_pos s2]
  have l2 : S2.look ((M.acc 1 0 x).acc 3 a 1).L 0 = x := by rw [acc_other (by omega), l1]; exact hx
  show (eit (eit (eit (M, en0 t key)))).1 = _
  rw [e1, e2]
  show ((M.acc 1 0 x).acc 3 a 1).acc 1 0 (S2.look ((M.acc 1 0 x).acc 3 a 1).L 0) = _
  rw [l2]; rfl
theorem ow5x (ht : t < 64) (hkl : key < 4294967296) (hk : S2.look M.L (64 + t) = key) (hx : S2.look M.L 0 = x) (ha : a = lokN (key % 4294967296) x) (h0 : S2.look M.L a = 0) : (eitn (M, ow0 t) 5).1 = mO M a x t key := by
  have ha2 := lok_in (key % 4294967296) x
  rw [← ha] at ha2
  obtain ⟨M0, hM0⟩ : ∃ M0, M0 = M.acc 1 (64 + t) key := ⟨_, rfl⟩
  have l0 : ∀ b, S2.look M0.L b = S2.look M.L b := by rw [hM0, ← hk]; exact acc_load (by omega)
  have e0 : eit (M, ow0 t) = (M0, ⟨true, 2, t, key, 0, lk0, fr0 0⟩) := by
    show (M.acc 1 (64 + t) (S2.look M.L (64 + t)), (⟨true, 2, t, S2.look M.L (64 + t) % 4294967296, 0, lk0, fr0 0⟩ : En)) = _
    rw [hk, Nat.mod_eq_of_lt hkl, hM0]
  obtain ⟨M1, hM1⟩ : ∃ M1, M1 = M0.acc 1 0 x := ⟨_, rfl⟩
  have hx0 : S2.look M0.L 0 = x := by rw [l0]; exact hx
  have e1 : eit (M0, ⟨true, 2, t, key, 0, lk0, fr0 0⟩) = (M1, ⟨true, 3, t, key, x, lk1 t a, fr0 0⟩) := by
    show (M0.acc 1 0 (S2.look M0.L 0), (⟨true, 3, t, key, S2.look M0.L 0, lk1 t (lokN (key % 4294967296) (S2.look M0.L 0)), fr0 0⟩ : En)) = _
    rw [hx0, ← ha, hM1]
  have l1 : ∀ b, S2.look M1.L b = S2.look M.L b := fun b => by rw [hM1, ← hx0, acc_load (by omega)]; exact l0 b
  obtain ⟨s1, s2⟩ := lock1 (M := M1) (t := t) (a := a) (by omega) (by rw [l1]; exact h0)
  obtain ⟨M2, hM2⟩ : ∃ M2, M2 = M1.acc 3 a 1 := ⟨_, rfl⟩
  have e2 : eit (M1, ⟨true, 3, t, key, x, lk1 t a, fr0 0⟩) = (M2, ⟨true, 4, t, key, x, stepK M1 (lk1 t a), fr0 0⟩) := by
    show (stepM M1 (lk1 t a), (⟨true, if (stepK M1 (lk1 t a)).ln = 0 then 4 else 3, t, key, x, stepK M1 (lk1 t a), fr0 0⟩ : En)) = _
    rw [s1, if_pos s2, hM2]
  have l2 : ∀ b, b ≠ a → S2.look M2.L b = S2.look M.L b := fun b hb => by rw [hM2, acc_other hb]; exact l1 b
  have h20 : S2.look M2.L 0 = x := (l2 0 (by omega)).trans hx
  obtain ⟨M3, hM3⟩ : ∃ M3, M3 = M2.acc 1 0 x := ⟨_, rfl⟩
  have l3 : ∀ b, S2.look M3.L b = S2.look M2.L b := by rw [hM3, ← h20]; exact acc_load (by omega)
  have e3 : eit (M2, ⟨true, 4, t, key, x, stepK M1 (lk1 t a), fr0 0⟩) = (M3, ⟨true, 5, t, key, x, stepK M1 (lk1 t a), fr0 0⟩) := by
    show (M2.acc 1 0 (S2.look M2.L 0), (if S2.look M2.L 0 = x then (⟨true, 5, t, key, x, stepK M1 (lk1 t a), fr0 0⟩ : En) else _)) = _
    rw [if_pos h20, h20, hM3]
  have hk3 : S2.look M3.L (64 + t) = key := by rw [l3, l2 _ (by omega)]; exact hk
  show (eit (eit (eit (eit (eit (M, ow0 t)))))).1 = _
  rw [e0, e1, e2, e3]
  show M3.acc 1 (64 + t) (S2.look M3.L (64 + t)) = _
  rw [hk3, hM3, hM2, hM1, hM0]; rfl
theorem mE_look (hx : S2.look M.L 0 = x) (ha : 256 ≤ a ∧ a < 1024) (b : Nat) : S2.look (mE M a x).L b = if b = a then 1 else S2.look M.L b := by
  have l1 : ∀ b, S2.look (M.acc 1 0 x).L b = S2.look M.L b := by rw [← hx]; exact acc_load (by omega)
  have l2 : S2.look ((M.acc 1 0 x).acc 3 a 1).L 0 = x := by rw [acc_other (by omega), l1]; exact hx
  have l3 : ∀ b, S2.look (mE M a x).L b = S2.look ((M.acc 1 0 x).acc 3 a 1).L b := fun b => by
    have := acc_load (M := (M.acc 1 0 x).acc 3 a 1) (k := 1) (a := 0) (by omega) b
    rwa [l2] at this
  rw [l3]
  split
  · rename_i e; subst e; exact acc_same (by omega)
  · rename_i e; rw [acc_other e]; exact l1 b
theorem mO_look (ht : t < 64) (hk : S2.look M.L (64 + t) = key) (hx : S2.look M.L 0 = x) (ha : 256 ≤ a ∧ a < 1024) (b : Nat) : S2.look (mO M a x t key).L b = if b = a then 1 else S2.look M.L b := by
  have l0 : ∀ b, S2.look (M.acc 1 (64 + t) key).L b = S2.look M.L b := by rw [← hk]; exact acc_load (by omega)
  have g := mE_look (M := M.acc 1 (64 + t) key) (x := x) (a := a) ((l0 0).trans hx) ha
  have l1 : S2.look (mE (M.acc 1 (64 + t) key) a x).L (64 + t) = key := by rw [g, if_neg (by omega), l0]; exact hk
  have l2 := acc_load (M := mE (M.acc 1 (64 + t) key) a x) (k := 1) (a := 64 + t) (by omega) b
  rw [l1] at l2
  show S2.look ((mE (M.acc 1 (64 + t) key) a x).acc 1 (64 + t) key).L b = _
  rw [l2, g]
  split
  · rfl
  · exact l0 b
end
section
variable {M : Sd} {D : Pd} {pb pi ky x a : Nat} {E : En} {F : Fr}
theorem prun_in (hx : S2.look M.L 0 = x) (hk : D.k < 4294967296) (ha : a = lokN D.k x) (h0 : S2.look M.L a = 0) :
    (∀ i, i < 3 → (pitn (M, pa0 D) i).2.ln = 1) ∧ ∃ E3, pitn (M, pa0 D) 3 = (mE M a x, ⟨if D.hk.isSome then 2 else 4, D, bitsN x, bktN D.k x, E3, fr0 0, 0, 0⟩) := by
  have ek : D.k % 4294967296 = D.k := Nat.mod_eq_of_lt hk
  obtain ⟨g1, g2, g3, g4, g5, g6⟩ := en3 (t := D.t) (key := D.k) hx (by rw [ek]; exact ha) h0
  have gx := en3x (t := D.t) (key := D.k) hx (by rw [ek]; exact ha) h0
  have hw := fun n (hn : n ≤ 2) => pitn_way (M := M) (P := pa0 D) (.inl rfl) n (fun i hi _ => g1 i (by omega))
  refine ⟨fun i hi => by rw [hw i (by omega)]; rfl, (eitn (M, en0 D.t D.k) 3).2, ?_⟩
  have h2 := hw 2 (Nat.le_refl _)
  show pit (pitn (M, pa0 D) 2) = _
  rw [h2]
  have e3 : enE (eitn (M, en0 D.t D.k) 2).1 (eitn (M, en0 D.t D.k) 2).2 = (eitn (M, en0 D.t D.k) 3).2 := rfl
  have m3 : enM (eitn (M, en0 D.t D.k) 2).1 (eitn (M, en0 D.t D.k) 2).2 = (eitn (M, en0 D.t D.k) 3).1 := rfl
  show (enM (eitn (M, en0 D.t D.k) 2).1 (eitn (M, en0 D.t D.k) 2).2, if (enE (eitn (M, en0 D.t D.k) 2).1 (eitn (M, en0 D.t D.k) 2).2).ln = 0 then (⟨if D.hk.isSome then 2 else 4, D, bitsN (enE (eitn (M, en0 D.t D.k) 2).1 (eitn (M, en0 D.t D.k) 2).2).tw, bktN (enE (eitn (M, en0 D.t D.k) 2).1 (eitn (M, en0 D.t D.k) 2).2).kw (enE (eitn (M, en0 D.t D.k) 2).1 (eitn (M, en0 D.t D.k) 2).2).tw, enE (eitn (M, en0 D.t D.k) 2).1 (eitn (M, en0 D.t D.k) 2).2, fr0 0, 0, 0⟩ : Pa) else _) = _
  rw [m3, e3, if_pos g2, g3, g4, gx]
theorem prun_4 (h0 : D.t < 64) (ha : plA pb pi = a) (ha2 : 256 ≤ a ∧ a < 1024) (h1 : S2.look M.L a = 1) :
    (pitn (M, ⟨4, D, pb, pi, E, F, ky, 0⟩) 1).2 = ⟨5, D, pb, pi, E, F, ky, 0⟩ ∧ (pitn (M, ⟨4, D, pb, pi, E, F, ky, 0⟩) 1).1 = M.acc 2 (64 + D.t) D.k ∧ (pitn (M, ⟨4, D, pb, pi, E, F, ky, 0⟩) 2).2.ln = 6 ∧ ∃ F3, pitn (M, ⟨4, D, pb, pi, E, F, ky, 0⟩) 3 = ((queM (M.acc 2 (64 + D.t) D.k) D (pb : Int) pi).acc 5 a 0, ⟨8, D, pb, pi, E, F3, ky, 0⟩) := by
  have e2 : pitn (M, ⟨4, D, pb, pi, E, F, ky, 0⟩) 2 = (queM (M.acc 2 (64 + D.t) D.k) D (pb : Int) pi, ⟨6, D, pb, pi, E, fr0 a, ky, 0⟩) := by
    have e1 : pitn (M, ⟨4, D, pb, pi, E, F, ky, 0⟩) 1 = (M.acc 2 (64 + D.t) D.k, ⟨5, D, pb, pi, E, F, ky, 0⟩) := rfl
    show pit (pitn (M, ⟨4, D, pb, pi, E, F, ky, 0⟩) 1) = _
    rw [e1]
    show (queM (M.acc 2 (64 + D.t) D.k) D (pb : Int) pi, (⟨6, D, pb, pi, E, fr0 (plA pb pi), ky, 0⟩ : Pa)) = _
    rw [ha]
  refine ⟨rfl, rfl, by rw [e2], fr0 a, ?_⟩
  have l1 : S2.look (queM (M.acc 2 (64 + D.t) D.k) D (pb : Int) pi).L a = 1 := by
    show S2.look (M.acc 2 (64 + D.t) D.k).L a = 1
    rw [acc_other (by omega)]; exact h1
  obtain ⟨f1, f2⟩ := fr1 (M := queM (M.acc 2 (64 + D.t) D.k) D (pb : Int) pi) (a := a) (by omega) l1
  show pit (pitn (M, ⟨4, D, pb, pi, E, F, ky, 0⟩) 2) = _
  rw [e2]
  show (fstepM (queM (M.acc 2 (64 + D.t) D.k) D (pb : Int) pi) (fr0 a), if (fstepK (queM (M.acc 2 (64 + D.t) D.k) D (pb : Int) pi) (fr0 a)).ln = 0 then (⟨8, D, pb, pi, E, fr0 a, ky, 0⟩ : Pa) else _) = _
  have f1' : (fstepK (queM (M.acc 2 (64 + D.t) D.k) D (pb : Int) pi) (fr0 a)).ln = 0 := f1
  have f2' : fstepM (queM (M.acc 2 (64 + D.t) D.k) D (pb : Int) pi) (fr0 a) = (queM (M.acc 2 (64 + D.t) D.k) D (pb : Int) pi).acc 5 a 0 := f2
  rw [if_pos f1', f2']
theorem prun_free {n : Nat} {P : Pa} (hl : (P.ln = 3 ∧ n = 1) ∨ (P.ln = 13 ∧ n = 3)) (hF : P.F = fr0 a) (ha2 : 256 ≤ a ∧ a < 1024) (h1 : S2.look M.L a = 1) : pit (M, P) = (M.acc 5 a 0, { P with ln := 0, o := n }) := by
  obtain ⟨ln, D, pb, pi, E, F, ky, o⟩ := P
  obtain rfl : F = fr0 a := hF
  obtain ⟨f1, f2⟩ := fr1 (M := M) (a := a) (by omega) h1
  have f1' : (fstepK M (fr0 a)).ln = 0 := f1
  have f2' : fstepM M (fr0 a) = M.acc 5 a 0 := f2
  have hl' : (ln = 3 ∧ n = 1) ∨ (ln = 13 ∧ n = 3) := hl
  rcases hl' with ⟨rfl, rfl⟩ | ⟨rfl, rfl⟩
  · show (fstepM M (fr0 a), if (fstepK M (fr0 a)).ln = 0 then _ else _) = _
    rw [if_pos f1', f2']
  · show (fstepM M (fr0 a), if (fstepK M (fr0 a)).ln = 0 then _ else _) = _
    rw [if_pos f1', f2']
end
def PaR (w0 w : World) (base WB : Nat) (M : Sd) (r : List Part) (j e u : Nat) (P : Pa) (B : Nat) : Prop := PaOk P ∧ ∃ q1 q2 X, PaW w0 w base WB M ((r.set e q1).set u q2) j e u P B X
structure Room (w0 : World) (base : Nat) (M : Sd) (P : Pa) : Prop where
  ms : 0 ≤ M.sp ∧ M.sp ≤ 16
  n : M.n ≤ 800000000
  p : M.pn ≤ 800000000
  ap : P.ln = 5 ∨ P.ln = 10 → AtPl w0 base M P.pb P.pi
section
variable {w0 w w' : World} {base WB : Nat} {M : Sd} {r : List Part} {j e u B : Nat} {l l' : Rows} {X : Wm} {P : Pa}
theorem PaW.look (h : PaW w0 w base WB M r j e u P B X) (a : Nat) : S2.look M.L a < 18446744073709551616 := by
  obtain ⟨l, hw, _⟩ := h.at'
  have := S2.look_lt hw.pg.pw.cells.good a
  rwa [show X.L = M.L from congrArg Sd.L hw.pg.xm] at this
theorem PaW.lk (h : PaW w0 w base WB M r j e u P B X) (k : Nat) : M.lk k ≤ 64 := by
  obtain ⟨l, hw, _⟩ := h.at'
  exact pg_le hw.pg k
theorem PaR.new (h : PaR w0 w base WB M r j e u P B) (b : Below w.heap.size w w') : PaR w0 w' base WB M r j e u P B := by
  obtain ⟨ok, q1, q2, X, h⟩ := h
  exact ⟨ok, q1, q2, X, h.new b⟩
theorem PaR.step1 (h : PaR w0 w base WB M r j e u P B) (g : Room w0 base M P) (hl : P.ln = 1 ∨ P.ln = 4 ∨ P.ln = 5 ∨ P.ln = 6) :
    Calls Tryz.prog 30 #[Pw B, Pw WB] w fun e' w' => e' = .returned (.bool (decide ((paE M P).ln = 0))) ∧ PaR w0 w' base WB (paM M P) r j e u (paE M P) B := by
  obtain ⟨ok, q1, q2, X, h⟩ := h
  have okE := ok.step g.ms h.look h.lk
  refine (pa_step1 h ok okE g.ms g.n g.p hl g.ap).mono ?_
  rintro e' w' ⟨rfl, a1, a2, X', h'⟩
  refine ⟨rfl, okE, a1, a2, X', ?_⟩
  rw [List.set_comm _ _ h.eu.symm, List.set_set, List.set_set] at h'
  exact h'
theorem PaR.parked (h : PaR w0 w base WB M r j e u P B) : Calls Tryz.prog 37 #[Pw B] w fun e w' => e = .returned (.bool (decide (P.ln = 8))) ∧ w = w' := by
  obtain ⟨ok, q1, q2, X, h⟩ := h
  exact h.parked ok.ln ok.l7
theorem PaR.over (h : PaR w0 w base WB M r j e u P B) : Calls Tryz.prog 73 #[Pw B] w fun e w' => e = .returned (.bool (decide (P.ln = 0))) ∧ w = w' := by
  obtain ⟨ok, q1, q2, X, h⟩ := h
  exact h.over ok.ln ok.l7
theorem PaR.got (h : PaR w0 w base WB M r j e u P B) (h2 : P.o ≠ 2) (v : Value) : Calls Tryz.prog 16 #[Pw B, v] w fun e w' => e = .returned (.tuple #[.int .u8 (P.o : Int), .int .u64 0]) ∧ w = w' := by
  obtain ⟨ok, q1, q2, X, h⟩ := h
  exact h.got ok.ln ok.l7 ok.o h2 v
end
end Go.Proofs.YtjppncglkijbjaaGreatDoor.S18
set_option linter.unusedVariables false
set_option linter.unusedSimpArgs false
namespace Go.Proofs.YtjppncglkijbjaaGreatDoor.S18
open Go.Proofs.YtjppncglkijbjaaGreatDoor Go.Proofs.YtjppncglkijbjaaGreatDoor.S11 Go.Proofs.YtjppncglkijbjaaGreatDoor.S12 Go.Proofs.YtjppncglkijbjaaGreatDoor.S13 Go.Proofs.YtjppncglkijbjaaGreatDoor.S14 Go.Proofs.YtjppncglkijbjaaGreatDoor.S15 Go.Proofs.YtjppncglkijbjaaGreatDoor.S16
open Go.RowKit

structure Pl (M : Sd) (k a pi : Nat) (Q : List S10.Ent) : Prop where
  x : S2.look M.L 0 = 2
  ae : a = lokN k 2
  a0 : S2.look M.L a = 0
  pe : pi = bktN k 2
  len : (M.m 2).length = 4
  q : qAt M 2 pi = Q
  sp : M.sp = 0
theorem bits2 : bitsN 2 = 2 := by decide
theorem Pl.pl {M : Sd} {k a pi : Nat} {Q : List S10.Ent} (h : Pl M k a pi Q) : plA 2 pi = a := by
  have := plA_lok k 2
  rw [bits2, ← h.pe, ← h.ae] at this
  exact this
theorem Pl.ain {M : Sd} {k a pi : Nat} {Q : List S10.Ent} (h : Pl M k a pi Q) : 256 ≤ a ∧ a < 1024 := by
  have := lok_in k 2
  rw [← h.ae] at this
  omega
theorem Pl.pil {M : Sd} {k a pi : Nat} {Q : List S10.Ent} (h : Pl M k a pi Q) : pi < 4 := by
  have := bkt_lt k 2
  rw [bits2] at this
  rw [h.pe]; omega
theorem inI2 : S10.InI ((2 : Nat) : Int) := by unfold S10.InI; omega
def pkM (M : Sd) (D : Pd) (a pi : Nat) : Sd := (queM ((mE M a 2).acc 2 (64 + D.t) D.k) D ((2 : Nat) : Int) pi).acc 5 a 0
section
variable {M : Sd} {D : Pd} {a pi : Nat} {Q : List S10.Ent}
theorem pkM_look (h : Pl M D.k a pi Q) (ht : D.t < 64) (b : Nat) : S2.look (pkM M D a pi).L b = if b = 64 + D.t then D.k else S2.look M.L b := by
  have ha := h.ain
  by_cases e : b = a
  · subst e
    rw [if_neg (by omega), h.a0]
    exact acc_same (by omega)
  · have e1 : S2.look (pkM M D a pi).L b = S2.look ((mE M a 2).acc 2 (64 + D.t) D.k).L b := acc_other e
    rw [e1]
    by_cases e2 : b = 64 + D.t
    · subst e2; rw [if_pos rfl]; exact acc_same (by omega)
    · rw [if_neg e2, acc_other e2, mE_look h.x ha, if_neg e]
theorem pkM_m (h : Pl M D.k a pi Q) : ((pkM M D a pi).m 2).length = 4 ∧ qAt (pkM M D a pi) 2 pi = Q ++ [entD D] := by
  have hp := h.pil
  have e : (pkM M D a pi).m 2 = (M.m 2).set pi { (M.m 2)[pi]! with q := qAt M 2 pi ++ [entD D] } := by
    have e1 : (pkM M D a pi).m = S10.upd M.m ((2 : Nat) : Int) ((M.m ((2 : Nat) : Int)).set pi { (M.m ((2 : Nat) : Int))[pi]! with q := qAt M ((2 : Nat) : Int) pi ++ [entD D] }) := rfl
    rw [e1]
    exact S10.upd_same M.m ((2 : Nat) : Int) _
  refine ⟨by rw [e, List.length_set]; exact h.len, ?_⟩
  show ((pkM M D a pi).m 2)[pi]!.q = _
  rw [e, ← h.q, getElem!_pos _ pi (by rw [List.length_set, h.len]; exact hp), List.getElem_set_self]
theorem pkM_pl (h : Pl M D.k a pi Q) (ht : D.t < 64) : Pl (pkM M D a pi) D.k a pi (Q ++ [entD D]) := by
  have ha := h.ain
  exact ⟨by rw [pkM_look h ht, if_neg (by omega)]; exact h.x, h.ae, by rw [pkM_look h ht, if_neg (by omega)]; exact h.a0, h.pe, (pkM_m h).1, (pkM_m h).2, h.sp⟩
theorem pk_run (h : Pl M D.k a pi Q) (ht : D.t < 64) (hk : D.k < 4294967296) (hh : D.hk = none) :
    (∀ i, i < 6 → (pitn (M, pa0 D) i).2.ln = 1 ∨ (pitn (M, pa0 D) i).2.ln = 4 ∨ (pitn (M, pa0 D) i).2.ln = 5 ∨ (pitn (M, pa0 D) i).2.ln = 6) ∧
    (∀ i, i < 6 → ((pitn (M, pa0 D) i).2.ln = 5 ∨ (pitn (M, pa0 D) i).2.ln = 10) → (pitn (M, pa0 D) i).2.pb = 2 ∧ (pitn (M, pa0 D) i).2.pi = pi ∧ (pitn (M, pa0 D) i).1.m = M.m ∧ (pitn (M, pa0 D) i).1.nD = M.nD) ∧
    ∃ E6 F6, pitn (M, pa0 D) 6 = (pkM M D a pi, ⟨8, D, 2, pi, E6, F6, 0, 0⟩) := by
  have ha := h.ain
  obtain ⟨g1, E3, g2⟩ := prun_in (D := D) h.x hk h.ae h.a0
  rw [bits2, ← h.pe, hh] at g2
  have g2' : pitn (M, pa0 D) 3 = (mE M a 2, ⟨4, D, 2, pi, E3, fr0 0, 0, 0⟩) := g2
  obtain ⟨f1, f2, f3, F6, f4⟩ := prun_4 (M := mE M a 2) (D := D) (pb := 2) (pi := pi) (ky := 0) (E := E3) (F := fr0 0) ht h.pl ha (by rw [mE_look h.x ha, if_pos rfl])
  have ad : ∀ n, pitn (M, pa0 D) (3 + n) = pitn (mE M a 2, ⟨4, D, 2, pi, E3, fr0 0, 0, 0⟩) n := fun n => by rw [pitn_add, g2']
  have a3 : (pitn (M, pa0 D) 3).2.ln = 4 := by rw [g2']
  have a4 : (pitn (M, pa0 D) 4).2 = ⟨5, D, 2, pi, E3, fr0 0, 0, 0⟩ := by rw [show 4 = 3 + 1 from rfl, ad]; exact f1
  have a4m : (pitn (M, pa0 D) 4).1 = (mE M a 2).acc 2 (64 + D.t) D.k := by rw [show 4 = 3 + 1 from rfl, ad]; exact f2
  have a5 : (pitn (M, pa0 D) 5).2.ln = 6 := by rw [show 5 = 3 + 2 from rfl, ad]; exact f3
  refine ⟨fun i hi => ?_, fun i hi hl => ?_, E3, F6, by rw [show 6 = 3 + 3 from rfl, ad]; exact f4⟩
  · rcases (show i < 3 ∨ i = 3 ∨ i = 4 ∨ i = 5 by omega) with h3 | rfl | rfl | rfl
    · rw [g1 i h3]; omega
    · rw [a3]; omega
    · rw [a4]; exact .inr (.inr (.inl rfl))
    · rw [a5]; omega
  · rcases (show i < 3 ∨ i = 3 ∨ i = 4 ∨ i = 5 by omega) with h3 | rfl | rfl | rfl
    · rw [g1 i h3] at hl; omega
    · rw [a3] at hl; omega
    · rw [a4, a4m]; exact ⟨rfl, rfl, rfl, rfl⟩
    · rw [a5] at hl; omega
end
theorem sd_m : (sdN 0 5).m 2 = S10.fresh 0 (List.replicate 4 []) := by
  have e1 : (sdN 0 5).m = S10.M0 0 := rfl
  rw [e1]; unfold S10.M0
  exact S10.upd_same _ _ _
theorem sd_x : S2.look (sdN 0 5).L 0 = 2 := by show S2.look L02 0 = 2; rw [look02, if_pos rfl]
theorem sd_a (k : Nat) : S2.look (sdN 0 5).L (lokN k 2) = 0 := by
  have hl := lok_in k 2
  show S2.look L02 _ = 0; rw [look02, if_neg (by omega)]
theorem sd_q (i : Nat) (hp : i < 4) : qAt (sdN 0 5) 2 i = [] := by
  unfold qAt
  rw [sd_m, S10.fresh_at _ _ (by simpa using hp)]
  show (List.replicate 4 ([] : List S10.Ent))[i]! = []
  rw [getElem!_pos _ _ (by simpa using hp), List.getElem_replicate]
theorem sd_l : ((sdN 0 5).m 2).length = 4 := by
  rw [sd_m]; unfold S10.fresh
  rw [List.length_map, List.length_replicate]
theorem sdN_pl {k a pi : Nat} (ha : a = lokN k 2) (hp : pi = bktN k 2) : Pl (sdN 0 5) k a pi [] := by
  have h1 := bkt_lt k 2
  rw [bits2, ← hp] at h1
  have h2 : pi < 4 := by omega
  exact ⟨sd_x, ha, by rw [ha]; exact sd_a k, hp, sd_l, sd_q pi h2, rfl⟩
theorem room_of {w0 : World} {base : Nat} {M : Sd} {P : Pa} {n c : Nat} {pi : Nat} (hT : Tab w0) (hb : 0 < base) (hsp : M.sp = 0) (hn : M.n + n ≤ 800000000) (hp : M.pn + n ≤ 800000000) {i : Nat} (hi : i ≤ n)
    (hl : (pitn (M, P) i).2.ln = 5 ∨ (pitn (M, P) i).2.ln = 10 → (pitn (M, P) i).2.pb = 2 ∧ (pitn (M, P) i).2.pi < ((pitn (M, P) i).1.m 2).length ∧ (qAt (pitn (M, P) i).1 2 (pitn (M, P) i).2.pi).length ≤ 900 ∧ (pitn (M, P) i).1.nD.length ≤ 90000) : Room w0 base (pitn (M, P) i).1 (pitn (M, P) i).2 := by
  have b := pitn_n (M, P) i
  have b1 : (pitn (M, P) i).1.n ≤ M.n + i := b.1
  have b2 : (pitn (M, P) i).1.pn ≤ M.pn + i := b.2.1
  have b3 : (pitn (M, P) i).1.sp = M.sp := b.2.2
  refine ⟨by rw [b3, hsp]; omega, by omega, by omega, fun h5 => ?_⟩
  obtain ⟨e1, e2, e3, e4⟩ := hl h5
  rw [e1]
  exact ⟨hT, hb, inI2, e2, e3, e4⟩
section
variable {w0 w w' : World} {base WB : Nat} {M : Sd} {r : List Part} {j e u B : Nat} {X : Wm} {D : Pd} {a pi : Nat} {Q : List S10.Ent}
theorem noRows_ok (w : World) : (rowsP []).ok w := ⟨fun x hx => (by cases hx), (by simp)⟩
theorem room3 (h : Pg w0 w base WB M [] X) : Pg w0 w base WB M [noP, noP, rowsP []] X := by
  have g1 := Pg.push1 h noP (Below.refl _ _) trivial (fun k e => e.elim)
  have g2 := Pg.push1 g1 noP (Below.refl _ _) trivial (fun k e => e.elim)
  exact Pg.push1 g2 (rowsP []) (Below.refl _ _) (noRows_ok w) (fun k e => by obtain ⟨ob, he⟩ := e; exact absurd he (by simp))
theorem new_r {v : Value} (h : Wq w0 w base WB M r j [] X) (hv : HkOf v D.hk) (hje : j ≠ e) (hju : j ≠ u) (he : e < r.length) (hu : u < r.length) (heu : e ≠ u) (ht : D.t < 64) (hk : D.k < 4294967296) (hc : ∀ c, D.hk = some c → c.a < 4294967296 ∧ c.all < 18446744073709551616 ∧ c.any < 18446744073709551616 ∧ c.clr < 18446744073709551616) :
    Calls Tryz.prog 10 #[.int .i64 (D.t : Int), .int .u32 (D.k : Int), .int .u64 (D.z : Int), .agg #[.bool D.on, .int .u64 (D.at' : Int)], v] w fun e' w' => ∃ B, e' = .returned (Pw B) ∧ PaR w0 w' base WB M r j e u (pa0 D) B := by
  refine (new_park h hv hje hju he hu heu ht hk).mono ?_
  rintro e' w' ⟨B, rfl, q, h'⟩
  obtain ⟨q2, e2⟩ := same_at' h'.hu
  exact ⟨B, rfl, ok_pa ht hk hc, q, q2, X, by rw [e2]; exact h'⟩
end
end Go.Proofs.YtjppncglkijbjaaGreatDoor.S18
set_option linter.unusedVariables false
set_option linter.unusedSimpArgs false
namespace Go.Proofs.YtjppncglkijbjaaGreatDoor.S18
open Go.Proofs.YtjppncglkijbjaaGreatDoor Go.Proofs.YtjppncglkijbjaaGreatDoor.S11 Go.Proofs.YtjppncglkijbjaaGreatDoor.S12 Go.Proofs.YtjppncglkijbjaaGreatDoor.S13 Go.Proofs.YtjppncglkijbjaaGreatDoor.S14 Go.Proofs.YtjppncglkijbjaaGreatDoor.S15 Go.Proofs.YtjppncglkijbjaaGreatDoor.S16
open Go.RowKit

section
variable {M : Sd} {D : Pd} {a pb pi ky x : Nat} {Q : List S10.Ent} {E : En} {F : Fr}
set_option maxRecDepth 100000 in
set_option maxHeartbeats 4000000 in
theorem prun_own (ht : D.t < 64) (hk : D.k < 4294967296) (hkw : S2.look M.L (64 + D.t) = D.k) (hx : S2.look M.L 0 = x) (ha : a = lokN D.k x) (h0 : S2.look M.L a = 0) :
    (∀ i, i < 5 → (pitn (M, ⟨9, D, pb, pi, ow0 D.t, F, ky, 0⟩) i).2.ln = 9) ∧ ∃ E5, pitn (M, ⟨9, D, pb, pi, ow0 D.t, F, ky, 0⟩) 5 = ((mO M a x D.t D.k, (⟨10, D, bitsN x, bktN D.k x, E5, F, D.k, 0⟩ : Pa)) : Sd × Pa) := by
  have ek : D.k % 4294967296 = D.k := Nat.mod_eq_of_lt hk
  obtain ⟨g1, g2, g3, g4, g5, g6⟩ := ow5 (t := D.t) (key := D.k) ht hk hkw hx (by rw [ek]; exact ha) h0
  have gx := ow5x (t := D.t) (key := D.k) ht hk hkw hx (by rw [ek]; exact ha) h0
  have hw := fun n (hn : n ≤ 4) => pitn_way (M := M) (P := ⟨9, D, pb, pi, ow0 D.t, F, ky, 0⟩) (.inr rfl) n (fun i hi _ => g1 i (by omega))
  refine ⟨fun i hi => by rw [hw i (by omega)], (eitn (M, ow0 D.t) 5).2, ?_⟩
  have h2 := hw 4 (Nat.le_refl _)
  show pit (pitn (M, ⟨9, D, pb, pi, ow0 D.t, F, ky, 0⟩) 4) = _
  rw [h2]
  have e3 : enE (eitn (M, ow0 D.t) 4).1 (eitn (M, ow0 D.t) 4).2 = (eitn (M, ow0 D.t) 5).2 := rfl
  have m3 : enM (eitn (M, ow0 D.t) 4).1 (eitn (M, ow0 D.t) 4).2 = (eitn (M, ow0 D.t) 5).1 := rfl
  show (enM (eitn (M, ow0 D.t) 4).1 (eitn (M, ow0 D.t) 4).2, if (enE (eitn (M, ow0 D.t) 4).1 (eitn (M, ow0 D.t) 4).2).ln = 0 then (⟨10, D, bitsN (enE (eitn (M, ow0 D.t) 4).1 (eitn (M, ow0 D.t) 4).2).tw, bktN (enE (eitn (M, ow0 D.t) 4).1 (eitn (M, ow0 D.t) 4).2).kw (enE (eitn (M, ow0 D.t) 4).1 (eitn (M, ow0 D.t) 4).2).tw, enE (eitn (M, ow0 D.t) 4).1 (eitn (M, ow0 D.t) 4).2, F, (enE (eitn (M, ow0 D.t) 4).1 (eitn (M, ow0 D.t) 4).2).kw, 0⟩ : Pa) else _) = _
  rw [m3, e3, if_pos g2, g3, g4, gx]
theorem Pl.call (h : Pl M D.k a pi Q) (k p : Int) (f : Nat → S4.Pk) : Pl (M.call k p f) D.k a pi Q := ⟨h.x, h.ae, h.a0, h.pe, h.len, h.q, h.sp⟩
def leftQ (t : Nat) (Q : List S10.Ent) : List S10.Ent := S10.cutL Q (S10.idx (S10.byThread (t : Int)) Q)
def clrL (M : Sd) (D : Pd) (ls : Bool) : Sd :=
  match D.hk with
  | some c => if ls = true ∧ ¬ c.clr = 0 then M.acc 6 c.a (S2.look M.L c.a &&& S2.cpl c.clr) else M
  | none => M
theorem gone_L (M : Sd) (t : Nat) (pb : Int) (pi ky : Nat) : (goneM M t pb pi ky).L = M.L ∧ (goneM M t pb pi ky).pf = M.pf ∧ (goneM M t pb pi ky).T = M.T ∧ (goneM M t pb pi ky).sp = M.sp ∧ (goneM M t pb pi ky).nD.length ≤ M.nD.length + 1 := by
  unfold goneM
  split
  · refine ⟨rfl, rfl, rfl, rfl, ?_⟩
    show (addD M.nD _).length ≤ _
    unfold addD
    split <;> (try split) <;> simp <;> omega
  · exact ⟨rfl, rfl, rfl, rfl, by omega⟩
theorem cut_no {Q : List S10.Ent} {p : S10.Ent → Bool} (h : S10.cutB Q (S10.idx p Q) = false) : S10.cutL Q (S10.idx p Q) = Q := by
  unfold S10.cutL
  unfold S10.cutB at h
  by_cases h0 : 0 ≤ S10.idx p Q
  · exfalso
    rw [decide_eq_true h0, Bool.true_and] at h
    have hl : ¬ S10.idx p Q < Q.length := of_decide_eq_false h
    unfold S10.idx at h0 hl
    cases hf : Q.findIdx? p with
    | none => rw [hf] at h0; exact absurd h0 (by decide)
    | some i =>
      rw [hf] at hl
      have := (List.findIdx?_eq_some_iff_getElem.1 hf).1
      exact hl (by show (i : Int) < _; omega)
  · rw [if_neg h0]
theorem gone_m (h : Pl M D.k a pi Q) (t ky : Nat) : ((goneM M t ((2 : Nat) : Int) pi ky).m 2).length = 4 ∧ qAt (goneM M t ((2 : Nat) : Int) pi ky) 2 pi = leftQ t Q := by
  have hq : qAt M ((2 : Nat) : Int) pi = Q := h.q
  have hp := h.pil
  unfold goneM
  rw [hq]
  split
  · have e1 : ((M.putq ((2 : Nat) : Int) pi (leftQ t Q)).note ⟨((M.n + M.pn : Nat) : Int), (t : Int), 5, (ky : Int), -1, 0, 0⟩).m = S10.upd M.m ((2 : Nat) : Int) ((M.m ((2 : Nat) : Int)).set pi { (M.m ((2 : Nat) : Int))[pi]! with q := leftQ t Q }) := rfl
    have e : ((M.putq ((2 : Nat) : Int) pi (leftQ t Q)).note ⟨((M.n + M.pn : Nat) : Int), (t : Int), 5, (ky : Int), -1, 0, 0⟩).m 2 = (M.m 2).set pi { (M.m 2)[pi]! with q := leftQ t Q } := by
      rw [e1]
      exact S10.upd_same M.m ((2 : Nat) : Int) _
    refine ⟨?_, ?_⟩
    · show (((M.putq ((2 : Nat) : Int) pi (leftQ t Q)).note ⟨((M.n + M.pn : Nat) : Int), (t : Int), 5, (ky : Int), -1, 0, 0⟩).m 2).length = 4
      rw [e, List.length_set]; exact h.len
    · show (((M.putq ((2 : Nat) : Int) pi (leftQ t Q)).note ⟨((M.n + M.pn : Nat) : Int), (t : Int), 5, (ky : Int), -1, 0, 0⟩).m 2)[pi]!.q = leftQ t Q
      rw [e, getElem!_pos _ pi (by rw [List.length_set, h.len]; exact hp), List.getElem_set_self]
  · rename_i hc
    refine ⟨h.len, ?_⟩
    have hc' : S10.cutB Q (S10.idx (S10.byThread (t : Int)) Q) = false := by simpa using hc
    unfold leftQ
    rw [cut_no hc']
    exact h.q
def ltM (M : Sd) (D : Pd) (a pi : Nat) : Sd :=
  (clrL (goneM ((mO (M.until (2 * D.t) D.at') a 2 D.t D.k).late (2 * D.t)) D.t ((2 : Nat) : Int) pi D.k) D (goneB ((mO (M.until (2 * D.t) D.at') a 2 D.t D.k).late (2 * D.t)) D.t ((2 : Nat) : Int) pi D.k)).acc 5 a 0
theorem late_in (h : Pl M D.k a pi Q) (ht : D.t < 64) (hk : D.k < 4294967296) (hon : D.on = true) (hat : D.at' ≤ M.T) (hp : (M.pf (2 * D.t)).p = false) (hkw : S2.look M.L (64 + D.t) = D.k) :
    (∀ i, i < 6 → (pitn (M, ⟨8, D, 2, pi, E, F, 0, 0⟩) i).2.ln = 8 ∨ (pitn (M, ⟨8, D, 2, pi, E, F, 0, 0⟩) i).2.ln = 9) ∧ ∃ E6, pitn (M, ⟨8, D, 2, pi, E, F, 0, 0⟩) 6 = ((mO (M.until (2 * D.t) D.at') a 2 D.t D.k, (⟨10, D, 2, pi, E6, F, D.k, 0⟩ : Pa)) : Sd × Pa) := by
  have hg : slpG M D = 2 := by
    unfold slpG S4.untilO
    rw [if_pos hon, hp, if_neg (by decide), if_pos hat]
  have e1 : pitn (M, ⟨8, D, 2, pi, E, F, 0, 0⟩) 1 = (M.until (2 * D.t) D.at', ⟨9, D, 2, pi, ow0 D.t, F, 0, 0⟩) := by
    show ((if D.on then M.until (2 * D.t) D.at' else M.park (2 * D.t)), (if slpG M D = 0 then (⟨8, D, 2, pi, E, F, 0, 0⟩ : Pa) else if slpG M D = 2 then ⟨9, D, 2, pi, ow0 D.t, F, 0, 0⟩ else ⟨0, D, 2, pi, E, F, 0, 2⟩)) = _
    rw [if_pos hon, hg, if_neg (by omega), if_pos rfl]
  have h1 : Pl (M.until (2 * D.t) D.at') D.k a pi Q := h.call _ _ _
  obtain ⟨g1, E5, g2⟩ := prun_own (M := M.until (2 * D.t) D.at') (D := D) (pb := 2) (pi := pi) (ky := 0) (F := F) (x := 2) (a := a) ht hk hkw h1.x h1.ae h1.a0
  rw [bits2, ← h.pe] at g2
  have ad : ∀ n, pitn (M, ⟨8, D, 2, pi, E, F, 0, 0⟩) (1 + n) = pitn (M.until (2 * D.t) D.at', ⟨9, D, 2, pi, ow0 D.t, F, 0, 0⟩) n := fun n => by rw [pitn_add, e1]
  refine ⟨fun i hi => ?_, E5, by rw [show 6 = 1 + 5 from rfl, ad]; exact g2⟩
  rcases Nat.eq_zero_or_pos i with rfl | h0
  · exact .inl rfl
  · obtain ⟨n, rfl⟩ : ∃ n, i = 1 + n := ⟨i - 1, by omega⟩
    rw [ad]
    exact .inr (g1 n (by omega))
end
end Go.Proofs.YtjppncglkijbjaaGreatDoor.S18
set_option linter.unusedVariables false
set_option linter.unusedSimpArgs false
namespace Go.Proofs.YtjppncglkijbjaaGreatDoor.S18
open Go.Proofs.YtjppncglkijbjaaGreatDoor Go.Proofs.YtjppncglkijbjaaGreatDoor.S11 Go.Proofs.YtjppncglkijbjaaGreatDoor.S12 Go.Proofs.YtjppncglkijbjaaGreatDoor.S13 Go.Proofs.YtjppncglkijbjaaGreatDoor.S14 Go.Proofs.YtjppncglkijbjaaGreatDoor.S15 Go.Proofs.YtjppncglkijbjaaGreatDoor.S16
open Go.RowKit

section
variable {M : Sd} {D : Pd} {a pi : Nat} {Q : List S10.Ent} {E : En} {F : Fr}
def m6 (M : Sd) (D : Pd) (a : Nat) : Sd := mO (M.until (2 * D.t) D.at') a 2 D.t D.k
theorem m6_p (hp : (M.pf (2 * D.t)).p = false) : ((m6 M D a).pf (2 * D.t)).p = false := by
  show (S4.updP M.pf (2 * D.t) (S4.untilK (M.pf (2 * D.t)) D.at' M.T) (2 * D.t)).p = false
  unfold S4.updP S4.untilK
  rw [if_pos rfl, hp, if_neg (by decide)]
  split <;> rfl
theorem m6_look (h : Pl M D.k a pi Q) (ht : D.t < 64) (hkw : S2.look M.L (64 + D.t) = D.k) (b : Nat) : S2.look (m6 M D a).L b = if b = a then 1 else S2.look M.L b :=
  mO_look (M := M.until (2 * D.t) D.at') ht hkw (h.call _ _ _).x h.ain b
def m7 (M : Sd) (D : Pd) (a pi : Nat) : Sd := goneM ((m6 M D a).late (2 * D.t)) D.t ((2 : Nat) : Int) pi D.k
def g7 (M : Sd) (D : Pd) (a pi : Nat) : Bool := goneB ((m6 M D a).late (2 * D.t)) D.t ((2 : Nat) : Int) pi D.k
theorem m7_look (h : Pl M D.k a pi Q) (ht : D.t < 64) (hkw : S2.look M.L (64 + D.t) = D.k) (b : Nat) : S2.look (m7 M D a pi).L b = if b = a then 1 else S2.look M.L b := by
  unfold m7
  rw [(gone_L _ _ _ _ _).1]
  exact m6_look h ht hkw b
theorem ltM_eq : ltM M D a pi = (clrL (m7 M D a pi) D (g7 M D a pi)).acc 5 a 0 := rfl
theorem late_7 (hp : (M.pf (2 * D.t)).p = false) {E6 : En} : pit (m6 M D a, (⟨10, D, 2, pi, E6, F, D.k, 0⟩ : Pa)) = ((m7 M D a pi, lateE (⟨10, D, 2, pi, E6, F, D.k, 0⟩ : Pa) (g7 M D a pi) D.hk) : Sd × Pa) := by
  have h1 := m6_p (M := M) (D := D) (a := a) hp
  show ((if ((m6 M D a).pf (2 * D.t)).p then (m6 M D a).late (2 * D.t) else goneM ((m6 M D a).late (2 * D.t)) D.t ((2 : Nat) : Int) pi D.k), (if ((m6 M D a).pf (2 * D.t)).p then (⟨11, D, 2, pi, E6, fr0 (plA 2 pi), D.k, 0⟩ : Pa) else lateE (⟨10, D, 2, pi, E6, F, D.k, 0⟩ : Pa) (goneB ((m6 M D a).late (2 * D.t)) D.t ((2 : Nat) : Int) pi D.k) D.hk)) = _
  rw [h1, if_neg (by decide), if_neg (by decide)]
  rfl
theorem late_out (h : Pl M D.k a pi Q) (ht : D.t < 64) (hp : (M.pf (2 * D.t)).p = false) (hkw : S2.look M.L (64 + D.t) = D.k) (hca : ∀ c, D.hk = some c → c.a ≠ a) {E6 : En} :
    ∃ n P', 2 ≤ n ∧ n ≤ 3 ∧ pitn (m6 M D a, (⟨10, D, 2, pi, E6, F, D.k, 0⟩ : Pa)) n = (ltM M D a pi, P') ∧ P'.ln = 0 ∧ P'.o = 3 ∧ (∀ i, i < n → i ≠ 0 → (pitn (m6 M D a, (⟨10, D, 2, pi, E6, F, D.k, 0⟩ : Pa)) i).2.ln = 12 ∨ (pitn (m6 M D a, (⟨10, D, 2, pi, E6, F, D.k, 0⟩ : Pa)) i).2.ln = 13) := by
  have ha := h.ain
  have e1 : pitn (m6 M D a, (⟨10, D, 2, pi, E6, F, D.k, 0⟩ : Pa)) 1 = ((m7 M D a pi, lateE (⟨10, D, 2, pi, E6, F, D.k, 0⟩ : Pa) (g7 M D a pi) D.hk) : Sd × Pa) := late_7 hp
  have l7 := m7_look h ht hkw a
  rw [if_pos rfl] at l7
  have hq : ∀ q, q = D.hk → (q = none ∨ ∃ c, q = some c ∧ ¬ (g7 M D a pi = true ∧ ¬ c.clr = 0)) → lateE (⟨10, D, 2, pi, E6, F, D.k, 0⟩ : Pa) (g7 M D a pi) q = ⟨13, D, 2, pi, E6, fr0 a, D.k, 0⟩ := fun q _ hh => by
    rcases hh with rfl | ⟨c, rfl, hc⟩
    · show (⟨13, D, 2, pi, E6, fr0 (plA 2 pi), D.k, 0⟩ : Pa) = _
      rw [h.pl]
    · show (if g7 M D a pi = true ∧ ¬ c.clr = 0 then (⟨12, D, 2, pi, E6, F, D.k, 0⟩ : Pa) else ⟨13, D, 2, pi, E6, fr0 (plA 2 pi), D.k, 0⟩) = _
      rw [if_neg hc, h.pl]
  by_cases hcl : D.hk = none ∨ ∃ c, D.hk = some c ∧ ¬ (g7 M D a pi = true ∧ ¬ c.clr = 0)
  · rw [hq _ rfl hcl] at e1
    have e0 : clrL (m7 M D a pi) D (g7 M D a pi) = m7 M D a pi := by
      unfold clrL
      rcases hcl with h0 | ⟨c, h0, hc⟩
      · rw [h0]
      · rw [h0]; exact if_neg hc
    refine ⟨2, ⟨0, D, 2, pi, E6, fr0 a, D.k, 3⟩, by omega, by omega, ?_, rfl, rfl, fun i hi h0 => ?_⟩
    · show pit (pitn (m6 M D a, (⟨10, D, 2, pi, E6, F, D.k, 0⟩ : Pa)) 1) = _
      rw [e1, ltM_eq, e0]
      exact prun_free (M := m7 M D a pi) (P := ⟨13, D, 2, pi, E6, fr0 a, D.k, 0⟩) (.inr ⟨rfl, rfl⟩) rfl ha l7
    · obtain rfl : i = 1 := by omega
      rw [e1]; exact .inr rfl
  · obtain ⟨c, hc⟩ : ∃ c, D.hk = some c := by
      cases hh : D.hk with
      | none => exact absurd (.inl hh) hcl
      | some c => exact ⟨c, rfl⟩
    have hc2 : g7 M D a pi = true ∧ ¬ c.clr = 0 := Decidable.byContradiction fun hn => hcl (.inr ⟨c, hc, hn⟩)
    have e2 : lateE (⟨10, D, 2, pi, E6, F, D.k, 0⟩ : Pa) (g7 M D a pi) D.hk = ⟨12, D, 2, pi, E6, F, D.k, 0⟩ := by
      rw [hc]
      show (if g7 M D a pi = true ∧ ¬ c.clr = 0 then (⟨12, D, 2, pi, E6, F, D.k, 0⟩ : Pa) else _) = _
      rw [if_pos hc2]
    rw [e2] at e1
    have e3 : pitn (m6 M D a, (⟨10, D, 2, pi, E6, F, D.k, 0⟩ : Pa)) 2 = (clrL (m7 M D a pi) D (g7 M D a pi), (⟨13, D, 2, pi, E6, fr0 a, D.k, 0⟩ : Pa)) := by
      show pit (pitn (m6 M D a, (⟨10, D, 2, pi, E6, F, D.k, 0⟩ : Pa)) 1) = _
      rw [e1]
      show (clrM (m7 M D a pi) D.hk, (⟨13, D, 2, pi, E6, fr0 (plA 2 pi), D.k, 0⟩ : Pa)) = _
      rw [h.pl]
      unfold clrL
      rw [hc]
      show ((m7 M D a pi).acc 6 c.a (S2.look (m7 M D a pi).L c.a &&& S2.cpl c.clr), _) = ((if g7 M D a pi = true ∧ ¬ c.clr = 0 then (m7 M D a pi).acc 6 c.a (S2.look (m7 M D a pi).L c.a &&& S2.cpl c.clr) else m7 M D a pi), _)
      rw [if_pos hc2]
    have l8 : S2.look (clrL (m7 M D a pi) D (g7 M D a pi)).L a = 1 := by
      unfold clrL
      rw [hc]
      show S2.look (if g7 M D a pi = true ∧ ¬ c.clr = 0 then (m7 M D a pi).acc 6 c.a (S2.look (m7 M D a pi).L c.a &&& S2.cpl c.clr) else m7 M D a pi).L a = 1
      rw [if_pos hc2, acc_other (fun e => hca c hc e.symm)]
      exact l7
    refine ⟨3, ⟨0, D, 2, pi, E6, fr0 a, D.k, 3⟩, by omega, by omega, ?_, rfl, rfl, fun i hi h0 => ?_⟩
    · show pit (pitn (m6 M D a, (⟨10, D, 2, pi, E6, F, D.k, 0⟩ : Pa)) 2) = _
      rw [e3, ltM_eq]
      exact prun_free (M := clrL (m7 M D a pi) D (g7 M D a pi)) (P := ⟨13, D, 2, pi, E6, fr0 a, D.k, 0⟩) (.inr ⟨rfl, rfl⟩) rfl ha l8
    · rcases (show i = 1 ∨ i = 2 by omega) with rfl | rfl
      · rw [e1]; exact .inl rfl
      · rw [e3]; exact .inr rfl
theorem late_run (h : Pl M D.k a pi Q) (ht : D.t < 64) (hk : D.k < 4294967296) (hon : D.on = true) (hat : D.at' ≤ M.T) (hp : (M.pf (2 * D.t)).p = false) (hkw : S2.look M.L (64 + D.t) = D.k) (hca : ∀ c, D.hk = some c → c.a ≠ a) :
    ∃ n P', 8 ≤ n ∧ n ≤ 9 ∧ pitn (M, (⟨8, D, 2, pi, E, F, 0, 0⟩ : Pa)) n = (ltM M D a pi, P') ∧ P'.ln = 0 ∧ P'.o = 3 ∧ (∀ i, i < n → (pitn (M, (⟨8, D, 2, pi, E, F, 0, 0⟩ : Pa)) i).2.ln ≠ 0) ∧
      (∀ i, i < n → (pitn (M, (⟨8, D, 2, pi, E, F, 0, 0⟩ : Pa)) i).2.ln = 5 ∨ (pitn (M, (⟨8, D, 2, pi, E, F, 0, 0⟩ : Pa)) i).2.ln = 10 → (pitn (M, (⟨8, D, 2, pi, E, F, 0, 0⟩ : Pa)) i).2.pb = 2 ∧ (pitn (M, (⟨8, D, 2, pi, E, F, 0, 0⟩ : Pa)) i).2.pi = pi ∧ (pitn (M, (⟨8, D, 2, pi, E, F, 0, 0⟩ : Pa)) i).1.m = M.m ∧ (pitn (M, (⟨8, D, 2, pi, E, F, 0, 0⟩ : Pa)) i).1.nD = M.nD) := by
  obtain ⟨g1, E6, g2⟩ := late_in (E := E) (F := F) h ht hk hon hat hp hkw
  have g2' : pitn (M, (⟨8, D, 2, pi, E, F, 0, 0⟩ : Pa)) 6 = ((m6 M D a, (⟨10, D, 2, pi, E6, F, D.k, 0⟩ : Pa)) : Sd × Pa) := g2
  obtain ⟨n, P', n1, n2, e1, e2, e3, e4⟩ := late_out (F := F) h ht hp hkw hca (E6 := E6)
  have ad : ∀ m, pitn (M, (⟨8, D, 2, pi, E, F, 0, 0⟩ : Pa)) (6 + m) = pitn (m6 M D a, (⟨10, D, 2, pi, E6, F, D.k, 0⟩ : Pa)) m := fun m => by rw [pitn_add, g2']
  refine ⟨6 + n, P', by omega, by omega, (ad n).trans e1, e2, e3, fun i hi => ?_, fun i hi hl => ?_⟩
  · by_cases h6 : i < 6
    · have := g1 i h6; omega
    · obtain ⟨m, rfl⟩ : ∃ m, i = 6 + m := ⟨i - 6, by omega⟩
      rw [ad]
      by_cases hm : m = 0
      · subst hm; show 10 ≠ 0; omega
      · have := e4 m (by omega) hm; omega
  · by_cases h6 : i < 6
    · have := g1 i h6; omega
    · obtain ⟨m, rfl⟩ : ∃ m, i = 6 + m := ⟨i - 6, by omega⟩
      rw [ad] at hl ⊢
      by_cases hm : m = 0
      · subst hm; exact ⟨rfl, rfl, rfl, rfl⟩
      · have := e4 m (by omega) hm; omega
theorem ltM_m (h : Pl M D.k a pi Q) : ((ltM M D a pi).m 2).length = 4 ∧ qAt (ltM M D a pi) 2 pi = leftQ D.t Q := by
  have h6 : Pl ((m6 M D a).late (2 * D.t)) D.k a pi Q ∨ True := .inr trivial
  have e : (ltM M D a pi).m = (m7 M D a pi).m := by
    rw [ltM_eq]
    show (clrL (m7 M D a pi) D (g7 M D a pi)).m = _
    unfold clrL
    split
    · split <;> rfl
    · rfl
  have hq : ((m6 M D a).late (2 * D.t)).m = M.m := rfl
  have hg : ∀ {N : Sd}, N.m = M.m → ((goneM N D.t ((2 : Nat) : Int) pi D.k).m 2).length = 4 ∧ qAt (goneM N D.t ((2 : Nat) : Int) pi D.k) 2 pi = leftQ D.t Q := fun {N} hN => by
    have hN2 : Pl { N with L := M.L, sp := M.sp } D.k a pi Q := ⟨h.x, h.ae, h.a0, h.pe, by show (N.m 2).length = 4; rw [hN]; exact h.len, by show (N.m 2)[pi]!.q = Q; rw [hN]; exact h.q, h.sp⟩
    have := gone_m hN2 D.t D.k
    have em : (goneM { N with L := M.L, sp := M.sp } D.t ((2 : Nat) : Int) pi D.k).m = (goneM N D.t ((2 : Nat) : Int) pi D.k).m := by
      by_cases hc : S10.cutB (qAt N ((2 : Nat) : Int) pi) (S10.idx (S10.byThread (D.t : Int)) (qAt N ((2 : Nat) : Int) pi)) = true
      · have a1 := congrArg Sd.m (show goneM { N with L := M.L, sp := M.sp } D.t ((2 : Nat) : Int) pi D.k = _ from if_pos hc)
        have a2 := congrArg Sd.m (show goneM N D.t ((2 : Nat) : Int) pi D.k = _ from if_pos hc)
        exact a1.trans (Eq.trans rfl a2.symm)
      · have a1 := congrArg Sd.m (show goneM { N with L := M.L, sp := M.sp } D.t ((2 : Nat) : Int) pi D.k = _ from if_neg hc)
        have a2 := congrArg Sd.m (show goneM N D.t ((2 : Nat) : Int) pi D.k = _ from if_neg hc)
        exact a1.trans (Eq.trans rfl a2.symm)
    unfold qAt at this ⊢
    rw [em] at this
    exact this
  unfold qAt
  rw [e]
  exact hg hq
theorem ltM_rest : (ltM M D a pi).T = M.T ∧ (ltM M D a pi).sp = M.sp ∧ (ltM M D a pi).pf = S4.updP M.pf (2 * D.t) (S4.untilK (M.pf (2 * D.t)) D.at' M.T) ∧ (ltM M D a pi).nD.length ≤ M.nD.length + 1 := by
  have g := gone_L ((m6 M D a).late (2 * D.t)) D.t ((2 : Nat) : Int) pi D.k
  have e : (ltM M D a pi).T = (m7 M D a pi).T ∧ (ltM M D a pi).sp = (m7 M D a pi).sp ∧ (ltM M D a pi).pf = (m7 M D a pi).pf ∧ (ltM M D a pi).nD = (m7 M D a pi).nD := by
    rw [ltM_eq]
    show (clrL (m7 M D a pi) D (g7 M D a pi)).T = _ ∧ (clrL (m7 M D a pi) D (g7 M D a pi)).sp = _ ∧ (clrL (m7 M D a pi) D (g7 M D a pi)).pf = _ ∧ (clrL (m7 M D a pi) D (g7 M D a pi)).nD = _
    unfold clrL
    split
    · split <;> exact ⟨rfl, rfl, rfl, rfl⟩
    · exact ⟨rfl, rfl, rfl, rfl⟩
  rw [e.1, e.2.1, e.2.2.1, e.2.2.2]
  exact ⟨g.2.2.1, g.2.2.2.1, g.2.1, g.2.2.2.2⟩
end
end Go.Proofs.YtjppncglkijbjaaGreatDoor.S18
