/- An Enter in three steps, an Own in five, a Free in one: by themselves. -/
import Derived.Test.YthafnphpcdbnlaaGreatS15K
set_option linter.unusedVariables false
set_option linter.unusedSimpArgs false
namespace Go.Proofs.YthafnphpcdbnlaaGreat.S15
open Go.Proofs.YthafnphpcdbnlaaGreat Go.Proofs.YthafnphpcdbnlaaGreat.S11 Go.Proofs.YthafnphpcdbnlaaGreat.S12 Go.Proofs.YthafnphpcdbnlaaGreat.S13 Go.Proofs.YthafnphpcdbnlaaGreat.S14
open Go.RowKit

theorem bring_low {a : Nat} (h : a < 1024) (v : Nat) : S2.bring a v = v := by
  have e1 : S2.oneB 1024 a = false := by unfold S2.oneB; rw [decide_eq_false (by omega)]; rfl
  have e2 : S2.oneB 1120 a = false := by unfold S2.oneB; rw [decide_eq_false (by omega)]; rfl
  unfold S2.bring S2.byteB
  rw [e1, e2]; rfl
theorem acc_same {M : Sd} {k a y : Nat} (h : a < 1024) : S2.look (M.acc k a y).L a = y := by
  show S2.look (S2.putL M.L a (S2.bring a y)) a = y
  rw [S2.look_put_same, bring_low h]
theorem acc_other {M : Sd} {k a y b : Nat} (h : b ≠ a) : S2.look (M.acc k a y).L b = S2.look M.L b := S2.look_put_other _ h _
theorem acc_load {M : Sd} {k a : Nat} (h : a < 1024) (b : Nat) : S2.look (M.acc k a (S2.look M.L a)).L b = S2.look M.L b := by
  by_cases e : b = a
  · subst e; exact acc_same h
  · exact acc_other e
/-- How a world stands behind one that got the lock at a, alone. -/
structure Took (M M' : Sd) (a : Nat) : Prop where
  at_a : S2.look M'.L a = 1
  other : ∀ b, b ≠ a → S2.look M'.L b = S2.look M.L b
  n : M'.n ≤ M.n + 9
  pn : M'.pn ≤ M.pn + 9
  sp : M'.sp = M.sp
/-- The lock's first line, at a word that is free. -/
theorem lock1 {M : Sd} {t a : Nat} (ha : a < 1024) (h0 : S2.look M.L a = 0) : stepM M (lk1 t a) = M.acc 3 a 1 ∧ (stepK M (lk1 t a)).ln = 0 := by
  constructor
  · show M.acc 3 a (S2.casV (S2.look M.L a) 0 1) = _
    rw [h0]; rfl
  · show (Lk.cas _ (S2.look M.L a) 0 _).ln = 0
    unfold Lk.cas
    rw [if_pos h0]
section
variable {M : Sd} {t key x a : Nat}
theorem en3 (hx : S2.look M.L 0 = x) (ha : a = lokN (key % 4294967296) x) (h0 : S2.look M.L a = 0) :
    (∀ i, i < 3 → (eitn (M, en0 t key) i).2.ln ≠ 0) ∧ (eitn (M, en0 t key) 3).2.ln = 0 ∧ (eitn (M, en0 t key) 3).2.kw = key ∧ (eitn (M, en0 t key) 3).2.tw = x ∧ (eitn (M, en0 t key) 3).2.ow = false ∧ Took M (eitn (M, en0 t key) 3).1 a := by
  have ha2 := lok_in (key % 4294967296) x
  rw [← ha] at ha2
  have e1 : eit (M, en0 t key) = (M.acc 1 0 x, ⟨false, 3, t, key, x, lk1 t a, fr0 0⟩) := by
    show (M.acc 1 0 (S2.look M.L 0), (⟨false, 3, t, key, S2.look M.L 0, lk1 t (lokN (key % 4294967296) (S2.look M.L 0)), fr0 0⟩ : En)) = _
    rw [hx, ← ha]
  obtain ⟨M1, hM1⟩ : ∃ M1, M1 = M.acc 1 0 x := ⟨_, rfl⟩
  have l1 : ∀ b, S2.look M1.L b = S2.look M.L b := by rw [hM1, ← hx]; exact acc_load (by omega)
  obtain ⟨s1, s2⟩ := lock1 (M := M1) (t := t) (a := a) (by omega) (by rw [l1]; exact h0)
  rw [← hM1] at e1
  have e2 : eit (M1, ⟨false, 3, t, key, x, lk1 t a, fr0 0⟩) = (M1.acc 3 a 1, ⟨false, 4, t, key, x, stepK M1 (lk1 t a), fr0 0⟩) := by
    show (stepM M1 (lk1 t a), (⟨false, if (stepK M1 (lk1 t a)).ln = 0 then 4 else 3, t, key, x, stepK M1 (lk1 t a), fr0 0⟩ : En)) = _
    rw [s1, if_pos s2]
  obtain ⟨M2, hM2⟩ : ∃ M2, M2 = M1.acc 3 a 1 := ⟨_, rfl⟩
  rw [← hM2] at e2
  have l2a : S2.look M2.L a = 1 := by rw [hM2]; exact acc_same (by omega)
  have l2 : ∀ b, b ≠ a → S2.look M2.L b = S2.look M.L b := fun b hb => by rw [hM2, acc_other hb]; exact l1 b
  have e3 : eit (M2, ⟨false, 4, t, key, x, stepK M1 (lk1 t a), fr0 0⟩) = (M2.acc 1 0 (S2.look M2.L 0), ⟨false, 0, t, key, x, stepK M1 (lk1 t a), fr0 0⟩) := by
    show (M2.acc 1 0 (S2.look M2.L 0), (if S2.look M2.L 0 = x then (⟨false, 0, t, key, x, stepK M1 (lk1 t a), fr0 0⟩ : En) else _)) = _
    rw [if_pos (by rw [l2 0 (by omega)]; exact hx)]
  have f1 : eitn (M, en0 t key) 1 = (M1, ⟨false, 3, t, key, x, lk1 t a, fr0 0⟩) := e1
  have f2 : eitn (M, en0 t key) 2 = (M2, ⟨false, 4, t, key, x, stepK M1 (lk1 t a), fr0 0⟩) := by show eit (eitn (M, en0 t key) 1) = _; rw [f1, e2]
  have f3 : eitn (M, en0 t key) 3 = (M2.acc 1 0 (S2.look M2.L 0), ⟨false, 0, t, key, x, stepK M1 (lk1 t a), fr0 0⟩) := by show eit (eitn (M, en0 t key) 2) = _; rw [f2, e3]
  have hb := eitn_n (M, en0 t key) 3
  refine ⟨fun i hi => ?_, by rw [f3], by rw [f3], by rw [f3], by rw [f3], ?_⟩
  · rcases (show i = 0 ∨ i = 1 ∨ i = 2 by omega) with rfl | rfl | rfl
    · show 2 ≠ 0; omega
    · rw [f1]; show 3 ≠ 0; omega
    · rw [f2]; show 4 ≠ 0; omega
  · refine ⟨?_, fun b hb => ?_, by have h1 : (M, en0 t key).1.n = M.n := rfl; omega, by have h1 : (M, en0 t key).1.pn = M.pn := rfl; omega, hb.2.2.1⟩
    · rw [f3]; show S2.look (M2.acc 1 0 (S2.look M2.L 0)).L a = 1; rw [acc_load (by omega)]; exact l2a
    · rw [f3]; show S2.look (M2.acc 1 0 (S2.look M2.L 0)).L b = _; rw [acc_load (by omega)]; exact l2 b hb
theorem ow5 (ht : t < 64) (hkl : key < 4294967296) (hk : S2.look M.L (64 + t) = key) (hx : S2.look M.L 0 = x) (ha : a = lokN (key % 4294967296) x) (h0 : S2.look M.L a = 0) :
    (∀ i, i < 5 → (eitn (M, ow0 t) i).2.ln ≠ 0) ∧ (eitn (M, ow0 t) 5).2.ln = 0 ∧ (eitn (M, ow0 t) 5).2.kw = key ∧ (eitn (M, ow0 t) 5).2.tw = x ∧ (eitn (M, ow0 t) 5).2.ow = true ∧ Took M (eitn (M, ow0 t) 5).1 a := by
  have ha2 := lok_in (key % 4294967296) x
  rw [← ha] at ha2
  obtain ⟨M0, hM0⟩ : ∃ M0, M0 = M.acc 1 (64 + t) key := ⟨_, rfl⟩
  have l0 : ∀ b, S2.look M0.L b = S2.look M.L b := by rw [hM0, ← hk]; exact acc_load (by omega)
  have e0 : eit (M, ow0 t) = (M0, ⟨true, 2, t, key, 0, lk0, fr0 0⟩) := by
    show (M.acc 1 (64 + t) (S2.look M.L (64 + t)), (⟨true, 2, t, S2.look M.L (64 + t) % 4294967296, 0, lk0, fr0 0⟩ : En)) = _
    rw [hk, Nat.mod_eq_of_lt hkl, hM0]
  obtain ⟨M1, hM1⟩ : ∃ M1, M1 = M0.acc 1 0 x := ⟨_, rfl⟩
  have hx0 : S2.look M0.L 0 = x := by rw [l0]; exact hx
  have e1 : eit (M0, ⟨true, 2, t, key, 0, lk0, fr0 0⟩) = (M1, ⟨true, 3, t, key, x, lk1 t a, fr0 0⟩) := by
    show (M0.acc 1 0 (S2.look M0.L 0), (⟨true, 3, t, key, S2.look M0.L 0, lk1 t (lokN (key % 4294967296) (S2.look M0.L 0)), fr0 0⟩ : En)) = _
    rw [hx0, ← ha, hM1]
  have l1 : ∀ b, S2.look M1.L b = S2.look M.L b := fun b => by rw [hM1, ← hx0, acc_load (by omega)]; exact l0 b
  obtain ⟨s1, s2⟩ := lock1 (M := M1) (t := t) (a := a) (by omega) (by rw [l1]; exact h0)
  obtain ⟨M2, hM2⟩ : ∃ M2, M2 = M1.acc 3 a 1 := ⟨_, rfl⟩
  have e2 : eit (M1, ⟨true, 3, t, key, x, lk1 t a, fr0 0⟩) = (M2, ⟨true, 4, t, key, x, stepK M1 (lk1 t a), fr0 0⟩) := by
    show (stepM M1 (lk1 t a), (⟨true, if (stepK M1 (lk1 t a)).ln = 0 then 4 else 3, t, key, x, stepK M1 (lk1 t a), fr0 0⟩ : En)) = _
    rw [s1, if_pos s2, hM2]
  have l2a : S2.look M2.L a = 1 := by rw [hM2]; exact acc_same (by omega)
  have l2 : ∀ b, b ≠ a → S2.look M2.L b = S2.look M.L b := fun b hb => by rw [hM2, acc_other hb]; exact l1 b
  obtain ⟨M3, hM3⟩ : ∃ M3, M3 = M2.acc 1 0 (S2.look M2.L 0) := ⟨_, rfl⟩
  have l3 : ∀ b, S2.look M3.L b = S2.look M2.L b := by rw [hM3]; exact acc_load (by omega)
  have e3 : eit (M2, ⟨true, 4, t, key, x, stepK M1 (lk1 t a), fr0 0⟩) = (M3, ⟨true, 5, t, key, x, stepK M1 (lk1 t a), fr0 0⟩) := by
    show (M2.acc 1 0 (S2.look M2.L 0), (if S2.look M2.L 0 = x then (⟨true, 5, t, key, x, stepK M1 (lk1 t a), fr0 0⟩ : En) else _)) = _
    rw [if_pos (by rw [l2 0 (by omega)]; exact hx), hM3]
  have hk3 : S2.look M3.L (64 + t) = key := by rw [l3, l2 _ (by omega)]; exact hk
  obtain ⟨M4, hM4⟩ : ∃ M4, M4 = M3.acc 1 (64 + t) (S2.look M3.L (64 + t)) := ⟨_, rfl⟩
  have l4 : ∀ b, S2.look M4.L b = S2.look M3.L b := by rw [hM4]; exact acc_load (by omega)
  have e4 : eit (M3, ⟨true, 5, t, key, x, stepK M1 (lk1 t a), fr0 0⟩) = (M4, ⟨true, 0, t, key, x, stepK M1 (lk1 t a), fr0 0⟩) := by
    show (M3.acc 1 (64 + t) (S2.look M3.L (64 + t)), (if S2.look M3.L (64 + t) % 4294967296 = key then (⟨true, 0, t, key, x, stepK M1 (lk1 t a), fr0 0⟩ : En) else _)) = _
    rw [if_pos (by rw [hk3]; exact Nat.mod_eq_of_lt hkl), hM4]
  have f1 : eitn (M, ow0 t) 1 = (M0, ⟨true, 2, t, key, 0, lk0, fr0 0⟩) := e0
  have f2 : eitn (M, ow0 t) 2 = (M1, ⟨true, 3, t, key, x, lk1 t a, fr0 0⟩) := by show eit (eitn (M, ow0 t) 1) = _; rw [f1, e1]
  have f3 : eitn (M, ow0 t) 3 = (M2, ⟨true, 4, t, key, x, stepK M1 (lk1 t a), fr0 0⟩) := by show eit (eitn (M, ow0 t) 2) = _; rw [f2, e2]
  have f4 : eitn (M, ow0 t) 4 = (M3, ⟨true, 5, t, key, x, stepK M1 (lk1 t a), fr0 0⟩) := by show eit (eitn (M, ow0 t) 3) = _; rw [f3, e3]
  have f5 : eitn (M, ow0 t) 5 = (M4, ⟨true, 0, t, key, x, stepK M1 (lk1 t a), fr0 0⟩) := by show eit (eitn (M, ow0 t) 4) = _; rw [f4, e4]
  have hb := eitn_n (M, ow0 t) 5
  refine ⟨fun i hi => ?_, by rw [f5], by rw [f5], by rw [f5], by rw [f5], ?_⟩
  · rcases (show i = 0 ∨ i = 1 ∨ i = 2 ∨ i = 3 ∨ i = 4 by omega) with rfl | rfl | rfl | rfl | rfl
    · show 1 ≠ 0; omega
    · rw [f1]; show 2 ≠ 0; omega
    · rw [f2]; show 3 ≠ 0; omega
    · rw [f3]; show 4 ≠ 0; omega
    · rw [f4]; show 5 ≠ 0; omega
  · refine ⟨?_, fun b hb => ?_, by have h1 : (M, ow0 t).1.n = M.n := rfl; omega, by have h1 : (M, ow0 t).1.pn = M.pn := rfl; omega, hb.2.2.1⟩
    · rw [f5]; show S2.look M4.L a = 1; rw [l4, l3]; exact l2a
    · rw [f5]; show S2.look M4.L b = _; rw [l4, l3]; exact l2 b hb
/-- A Free of a word that somebody has, for which nobody waits. -/
theorem fr1 (ha : a < 1024) (h1 : S2.look M.L a = 1) : (fitn (M, fr0 a) 1).2.ln = 0 ∧ (fitn (M, fr0 a) 1).1 = M.acc 5 a 0 := by
  constructor
  · show (if idle (S2.look M.L a) = true then 0 else 2) = 0
    rw [h1, if_pos (by decide)]
  · show M.acc 5 a ((S2.look M.L a + 18446744073709551615) % 18446744073709551616) = _
    rw [h1]
end
theorem ok_en {t key : Nat} (ht : t < 64) (hk : key < 18446744073709551616) : EnOk (en0 t key) :=
  ⟨by show 2 ≤ 6; omega, fun _ => ⟨by show 2 ≠ 1; omega, by show 2 ≠ 5; omega⟩, ht, hk, by show 0 < _; omega, by show 0 ≤ 6; omega, by show 0 < 64; omega, by show 0 < _; omega, by show 0 < _; omega, ⟨by show (0 : Int) ≤ 0; omega, by show (0 : Int) ≤ 16; omega⟩, fok_new (by omega)⟩
theorem ok_ow {t : Nat} (ht : t < 64) : EnOk (ow0 t) :=
  ⟨by show 1 ≤ 6; omega, (fun e => by cases e), ht, by show 0 < _; omega, by show 0 < _; omega, by show 0 ≤ 6; omega, by show 0 < 64; omega, by show 0 < _; omega, by show 0 < _; omega, ⟨by show (0 : Int) ≤ 0; omega, by show (0 : Int) ≤ 16; omega⟩, fok_new (by omega)⟩
section
variable {w0 w w' : World} {base WB : Nat} {M : Sd} {r : List Part} {t key x a : Nat} {Z : Wb} {X : Wm}
/-- A lock that was got alone: the Enter, or the Own, beside the world. -/
def Alone (w0 w' : World) (base WB : Nat) (M : Sd) (r : List Part) (o : Bool) (t key x a : Nat) (B : Nat) : Prop :=
  ∃ (M' : Sd) (E : En) (q : Part) (Z' : Wb) (X' : Wm), Z'.B = B ∧ Took M M' a ∧ E.ln = 0 ∧ E.kw = key ∧ E.tw = x ∧ E.ow = o ∧ Ew w0 w' base WB M' ((r ++ [noP, noP]).set (r.length + 1) q) r.length (r.length + 1) E Z' X'
theorem enter_alone (h : Wy w0 w base WB M (r ++ [noP, noP]) r.length false t key 0 Z X) (hi : Z.i = 0) (hs : Z.st = false) (ht : t < 64) (hk : key < 4294967296) (ms : 0 ≤ M.sp ∧ M.sp ≤ 16) (hn : M.n ≤ 900000000) (hp : M.pn ≤ 900000000)
    (hx : S2.look M.L 0 = x) (ha : a = lokN key x) (h0 : S2.look M.L a = 0) :
    Calls Tryz.prog 15 #[Pw WB, .iface 31 (Pw Z.B), .int .i64 9] w fun e w' => e = .returned (.int .i64 3) ∧ Alone w0 w' base WB M r false t key x a Z.B := by
  have hew := h.begins hi hs (E := en0 t key) rfl rfl rfl rfl rfl
  have ek : key % 4294967296 = key := Nat.mod_eq_of_lt hk
  obtain ⟨g1, g2, g3, g4, g5, g6⟩ := en3 (t := t) hx (by rw [ek]; exact ha) h0
  refine (run_e hew (ok_en ht (by omega)) ms 3 9 (by omega) (by omega) (by omega) hn hp g1 g2).mono ?_
  rintro e w' ⟨rfl, q, Z', X', e1, h'⟩
  exact ⟨rfl, _, _, q, Z', X', e1, g6, g2, g3, g4, g5, h'⟩
theorem own_alone (h : Wy w0 w base WB M (r ++ [noP, noP]) r.length true t 0 0 Z X) (hi : Z.i = 0) (hs : Z.st = false) (ht : t < 64) (hk : key < 4294967296) (ms : 0 ≤ M.sp ∧ M.sp ≤ 16) (hn : M.n ≤ 900000000) (hp : M.pn ≤ 900000000)
    (hkw : S2.look M.L (64 + t) = key) (hx : S2.look M.L 0 = x) (ha : a = lokN key x) (h0 : S2.look M.L a = 0) :
    Calls Tryz.prog 15 #[Pw WB, .iface 32 (Pw Z.B), .int .i64 9] w fun e w' => e = .returned (.int .i64 5) ∧ Alone w0 w' base WB M r true t key x a Z.B := by
  have hew := h.begins hi hs (E := ow0 t) rfl rfl rfl rfl rfl
  have ek : key % 4294967296 = key := Nat.mod_eq_of_lt hk
  obtain ⟨g1, g2, g3, g4, g5, g6⟩ := ow5 ht hk hkw hx (by rw [ek]; exact ha) h0
  refine (run_o hew (ok_ow ht) ms 5 9 (by omega) (by omega) (by omega) hn hp g1 g2).mono ?_
  rintro e w' ⟨rfl, q, Z', X', e1, h'⟩
  exact ⟨rfl, _, _, q, Z', X', e1, g6, g2, g3, g4, g5, h'⟩
theorem at_zero {E : En} (h : E.ln = 0) : E.at = nPart E.ow := by
  unfold En.at nPart
  rw [h]
  cases E.ow <;> rfl
/-- The world alone, with whatever else stands beside it. -/
theorem Ew.alone {E : En} {j u : Nat} (h : Ew w0 w base WB M r j u E Z X) : Pg w0 w base WB M (r.set j (wayP E.ow E.t E.kw E.tw Z)) X := h.wy.pg
end
end Go.Proofs.YthafnphpcdbnlaaGreat.S15
