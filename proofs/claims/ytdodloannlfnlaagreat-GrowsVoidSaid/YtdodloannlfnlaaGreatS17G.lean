/- What a world says while a Join runs alone. -/
import Derived.Test.YtdodloannlfnlaaGreatS17F
set_option linter.unusedVariables false
set_option linter.unusedSimpArgs false
namespace Go.Proofs.YtdodloannlfnlaaGreat.S17
open Go.Proofs.YtdodloannlfnlaaGreat Go.Proofs.YtdodloannlfnlaaGreat.S11 Go.Proofs.YtdodloannlfnlaaGreat.S12 Go.Proofs.YtdodloannlfnlaaGreat.S13 Go.Proofs.YtdodloannlfnlaaGreat.S14 Go.Proofs.YtdodloannlfnlaaGreat.S15
open Go.RowKit

theorem bring_low {a : Nat} (h : a < 1024) (v : Nat) : S2.bring a v = v := by
  have e1 : S2.oneB 1024 a = false := by unfold S2.oneB; rw [decide_eq_false (by omega)]; rfl
  have e2 : S2.oneB 1120 a = false := by unfold S2.oneB; rw [decide_eq_false (by omega)]; rfl
  unfold S2.bring S2.byteB
  rw [e1, e2]; rfl
theorem acc_same {M : Sd} {k a y : Nat} (h : a < 1024) : S2.look (M.acc k a y).L a = y := by
  show S2.look (S2.putL M.L a (S2.bring a y)) a = y
  rw [S2.look_put_same, bring_low h]
theorem acc_other {M : Sd} {k a y b : Nat} (h : b ≠ a) : S2.look (M.acc k a y).L b = S2.look M.L b := S2.look_put_other _ h _
theorem acc_load {M : Sd} {k a : Nat} (h : a < 1024) (b : Nat) : S2.look (M.acc k a (S2.look M.L a)).L b = S2.look M.L b := by
  by_cases e : b = a
  · subst e; exact acc_same h
  · exact acc_other e
/-- The lock's first line, at a word that is free. -/
theorem lock1 {M : Sd} {t a : Nat} (ha : a < 1024) (h0 : S2.look M.L a = 0) : stepM M (lk1 t a) = M.acc 3 a 1 ∧ (stepK M (lk1 t a)).ln = 0 := by
  constructor
  · show M.acc 3 a (S2.casV (S2.look M.L a) 0 1) = _
    rw [h0]; rfl
  · show (Lk.cas _ (S2.look M.L a) 0 _).ln = 0
    unfold Lk.cas
    rw [if_pos h0]
theorem free1 {M : Sd} {a : Nat} (ha : a < 1024) (h1 : S2.look M.L a = 1) : fstepM M (fr0 a) = M.acc 5 a 0 ∧ (fstepK M (fr0 a)).ln = 0 := by
  constructor
  · show M.acc 5 a ((S2.look M.L a + 18446744073709551615) % 18446744073709551616) = _
    rw [h1]
  · show (if idle (S2.look M.L a) = true then 0 else 2) = 0
    rw [h1, if_pos (by decide)]
def MA (M : Sd) : Sd := M.acc 5 1 ((S2.look M.L 1 + 1) % 18446744073709551616)
def MB (M : Sd) (k : Nat) : Sd := (MA M).acc 1 0 k
/-- So many locks are taken; so many are given back. -/
def MC (M : Sd) (S : Nat) : Nat → Sd
  | 0 => M
  | i + 1 => (MC M S i).acc 3 (256 + (S + i)) 1
def MF (M : Sd) (S : Nat) : Nat → Sd
  | 0 => M
  | i + 1 => (MF M S i).acc 5 (256 + (S + i)) 0
/-- All but the cells is as it was. -/
structure Kp (M M' : Sd) (c : Nat) : Prop where
  n : M'.n ≤ M.n + c
  pn : M'.pn = M.pn
  sp : M'.sp = M.sp
  m : M'.m = M.m
  T : M'.T = M.T
theorem Kp.acc {M M' : Sd} {c k a y : Nat} (h : Kp M M' c) : Kp M (M'.acc k a y) (c + 1) := ⟨by show M'.n + 1 ≤ _; have := h.n; omega, h.pn, h.sp, h.m, h.T⟩
theorem Kp.refl (M : Sd) : Kp M M 0 := ⟨Nat.le_refl _, rfl, rfl, rfl, rfl⟩
theorem Kp.trans {M M' M2 : Sd} {c d : Nat} (h : Kp M M' c) (g : Kp M' M2 d) : Kp M M2 (c + d) := ⟨by have := h.n; have := g.n; omega, g.pn.trans h.pn, g.sp.trans h.sp, g.m.trans h.m, g.T.trans h.T⟩
theorem mc_kp (M : Sd) (S : Nat) : ∀ i, Kp M (MC M S i) i
  | 0 => Kp.refl M
  | i + 1 => (mc_kp M S i).acc
theorem mf_kp (M : Sd) (S : Nat) : ∀ i, Kp M (MF M S i) i
  | 0 => Kp.refl M
  | i + 1 => (mf_kp M S i).acc
theorem mc_at (M : Sd) {S : Nat} (hS : S ≤ 256) : ∀ i, i ≤ S → ∀ a, S2.look (MC M S i).L a = if 256 + S ≤ a ∧ a < 256 + (S + i) then 1 else S2.look M.L a
  | 0, _, a => by rw [if_neg (by omega)]; rfl
  | i + 1, hi, a => by
    show S2.look ((MC M S i).acc 3 (256 + (S + i)) 1).L a = _
    by_cases e : a = 256 + (S + i)
    · subst e
      rw [acc_same (by omega), if_pos (by omega)]
    · rw [acc_other e, mc_at M hS i (by omega) a]
      by_cases g : 256 + S ≤ a ∧ a < 256 + (S + i)
      · rw [if_pos g, if_pos (by omega)]
      · rw [if_neg g, if_neg (by omega)]
theorem mf_at (M : Sd) {S : Nat} (hS : S ≤ 256) : ∀ i, i ≤ S → ∀ a, S2.look (MF M S i).L a = if 256 + S ≤ a ∧ a < 256 + (S + i) then 0 else S2.look M.L a
  | 0, _, a => by rw [if_neg (by omega)]; rfl
  | i + 1, hi, a => by
    show S2.look ((MF M S i).acc 5 (256 + (S + i)) 0).L a = _
    by_cases e : a = 256 + (S + i)
    · subst e
      rw [acc_same (by omega), if_pos (by omega)]
    · rw [acc_other e, mf_at M hS i (by omega) a]
      by_cases g : 256 + S ≤ a ∧ a < 256 + (S + i)
      · rw [if_pos g, if_pos (by omega)]
      · rw [if_neg g, if_neg (by omega)]
/-- A world in which nobody has a lock, with one table that counts, without entries. -/
structure Inv (M : Sd) (k : Nat) : Prop where
  tab : S2.look M.L 0 = k
  k1 : 2 ≤ k
  k2 : k ≤ 8
  zero : ∀ a, 256 ≤ a → a < 1024 → S2.look M.L a = 0
  now : ∃ τ : Int, M.m (k : Int) = emp τ (2 ^ k)
  up : ∀ b : Int, (k : Int) < b → M.m b = []
  ms : 0 ≤ M.sp ∧ M.sp ≤ 16
/-- Behind a Join that ran alone: u are the bits for all who joined. -/
structure After (M M' : Sd) (k u : Nat) : Prop where
  inv : Inv M' (if u ≤ k then k else u)
  th : S2.look M'.L 1 = (S2.look M.L 1 + 1) % 18446744073709551616
  T : M'.T = M.T
  timers : ¬ u ≤ k → M'.m (u : Int) = emp (M.T : Int) (2 ^ u)
  n : M'.n ≤ M.n + 1000
  pn : M'.pn = M.pn
theorem pow_in {k : Nat} (h1 : 2 ≤ k) (h2 : k ≤ 8) : 4 ≤ 2 ^ k ∧ 2 ^ k ≤ 256 := ⟨Nat.pow_le_pow_right (by decide : 0 < 2) h1, Nat.pow_le_pow_right (by decide : 0 < 2) h2⟩
section
variable {M : Sd} {k u : Nat}
theorem ma_at (a : Nat) (h : a ≠ 1) : S2.look (MA M).L a = S2.look M.L a := acc_other h
theorem ma_one : S2.look (MA M).L 1 = (S2.look M.L 1 + 1) % 18446744073709551616 := acc_same (by omega)
theorem mb_at (hk : S2.look M.L 0 = k) (a : Nat) : S2.look (MB M k).L a = S2.look (MA M).L a := by
  have e : S2.look (MA M).L 0 = k := (ma_at 0 (by omega)).trans hk
  unfold MB
  rw [← e]
  exact acc_load (by omega) a
theorem mb_kp : Kp M (MB M k) 2 := (Kp.refl M).acc.acc
/-- The table was great enough. -/
theorem after_over (h : Inv M k) (hu : u ≤ k) : After M (MB M k) k u := by
  have g : Kp M (MB M k) 2 := mb_kp
  have hl : ∀ a, a ≠ 1 → S2.look (MB M k).L a = S2.look M.L a := fun a ha => (mb_at h.tab a).trans (ma_at a ha)
  refine ⟨?_, (mb_at h.tab 1).trans ma_one, g.T, fun hn => absurd hu hn, by have := g.n; omega, g.pn⟩
  rw [if_pos hu]
  exact ⟨(hl 0 (by omega)).trans h.tab, h.k1, h.k2, fun a h1 h2 => (hl a (by omega)).trans (h.zero a h1 h2), by rw [g.m]; exact h.now, by rw [g.m]; exact h.up, by rw [g.sp]; exact h.ms⟩
/-- All locks are had; it is asked again; the table is replaced. -/
def MD (M : Sd) (k : Nat) : Sd := (MC (MB M k) (2 ^ k) (2 ^ k)).acc 1 0 k
def ME (M : Sd) (k u : Nat) : Sd := gw ((MD M k).acc 2 0 u) k u
def MZ (M : Sd) (k u : Nat) : Sd := MF (ME M k u) (2 ^ k) (2 ^ k)
theorem mc_lk (h : Inv M k) {i : Nat} (hi : i ≤ 2 ^ k) (a : Nat) (h1 : a ≠ 1) : S2.look (MC (MB M k) (2 ^ k) i).L a = if 256 + 2 ^ k ≤ a ∧ a < 256 + (2 ^ k + i) then 1 else S2.look M.L a := by
  have hS := pow_in h.k1 h.k2
  rw [mc_at _ hS.2 i hi, mb_at h.tab, ma_at a h1]
theorem mc_0 (h : Inv M k) {i : Nat} (hi : i ≤ 2 ^ k) : S2.look (MC (MB M k) (2 ^ k) i).L 0 = k := by
  rw [mc_lk h hi 0 (by omega), if_neg (by omega)]; exact h.tab
theorem md_at (h : Inv M k) (a : Nat) : S2.look (MD M k).L a = S2.look (MC (MB M k) (2 ^ k) (2 ^ k)).L a := by
  have e := mc_0 h (Nat.le_refl (2 ^ k))
  obtain ⟨W, hW⟩ : ∃ W, W = MC (MB M k) (2 ^ k) (2 ^ k) := ⟨_, rfl⟩
  unfold MD
  rw [← hW] at e ⊢
  rw [← e]
  exact acc_load (by omega) a
theorem me_at (h : Inv M k) (a : Nat) (ha : a ≠ 0) : S2.look (ME M k u).L a = S2.look (MC (MB M k) (2 ^ k) (2 ^ k)).L a := by
  show S2.look ((MD M k).acc 2 0 u).L a = _
  rw [acc_other ha, md_at h]
theorem me_0 : S2.look (ME M k u).L 0 = u := acc_same (M := MD M k) (k := 2) (by omega)
theorem md_kp : Kp M (MD M k) (2 ^ k + 3) := by
  have := (mb_kp (M := M) (k := k)).trans (mc_kp (MB M k) (2 ^ k) (2 ^ k))
  have := this.acc (k := 1) (a := 0) (y := k)
  exact ⟨by have := this.n; show (MD M k).n ≤ _; unfold MD; omega, this.pn, this.sp, this.m, this.T⟩
theorem mf_lk (h : Inv M k) {i m : Nat} (hi : i ≤ m) (hm : m < 2 ^ k) : S2.look (MF (ME M k u) (2 ^ k) i).L (256 + (2 ^ k + m)) = 1 := by
  have hS := pow_in h.k1 h.k2
  rw [mf_at _ hS.2 i (by omega), if_neg (by omega), me_at h _ (by omega), mc_lk h (Nat.le_refl _) _ (by omega), if_pos (by omega)]
theorem after_grown (h : Inv M k) (hu : ¬ u ≤ k) (hu8 : u ≤ 8) : After M (MZ M k u) k u := by
  have hS := pow_in h.k1 h.k2
  have g := md_kp (M := M) (k := k)
  have gf := mf_kp (ME M k u) (2 ^ k) (2 ^ k)
  have hz : ∀ a, a ≠ 0 → a ≠ 1 → (256 + 2 ^ k ≤ a ∧ a < 256 + (2 ^ k + 2 ^ k) → S2.look (MZ M k u).L a = 0) ∧ (¬ (256 + 2 ^ k ≤ a ∧ a < 256 + (2 ^ k + 2 ^ k)) → S2.look (MZ M k u).L a = S2.look M.L a) := fun a h0 h1 => by
    have e := mf_at (ME M k u) hS.2 (2 ^ k) (Nat.le_refl _) a
    refine ⟨fun hc => ?_, fun hc => ?_⟩
    · rw [if_pos hc] at e; exact e
    · rw [if_neg hc, me_at h a h0, mc_lk h (Nat.le_refl _) a h1, if_neg hc] at e; exact e
  have e0 : S2.look (MZ M k u).L 0 = u := by
    have e := mf_at (ME M k u) hS.2 (2 ^ k) (Nat.le_refl _) 0
    rw [if_neg (by omega), me_0] at e; exact e
  have e1 : S2.look (MZ M k u).L 1 = (S2.look M.L 1 + 1) % 18446744073709551616 := by
    have e := mf_at (ME M k u) hS.2 (2 ^ k) (Nat.le_refl _) 1
    rw [if_neg (by omega), me_at h 1 (by omega), mc_at _ hS.2 _ (Nat.le_refl _), if_neg (by omega), mb_at h.tab, ma_one] at e; exact e
  have hm : (MZ M k u).m = gro M.m k u M.T := by
    show (MF (ME M k u) (2 ^ k) (2 ^ k)).m = _
    rw [gf.m]
    show gro (MD M k).m k u (MD M k).T = _
    rw [g.m, g.T]
  refine ⟨?_, e1, ?_, fun _ => ?_, ?_, ?_⟩
  · rw [if_neg hu]
    refine ⟨e0, by have := h.k1; omega, hu8, fun a h1 h2 => ?_, ⟨(M.T : Int), ?_⟩, fun b hb => ?_, ?_⟩
    · by_cases hc : 256 + 2 ^ k ≤ a ∧ a < 256 + (2 ^ k + 2 ^ k)
      · exact (hz a (by omega) (by omega)).1 hc
      · rw [(hz a (by omega) (by omega)).2 hc]; exact h.zero a h1 h2
    · rw [hm]; exact gro_tg _ _ _ _
    · rw [hm, gro_up _ (by omega) hb]; exact h.up b (by omega)
    · have e : (MZ M k u).sp = M.sp := gf.sp.trans g.sp
      rw [e]; exact h.ms
  · exact gf.T.trans g.T
  · rw [hm]; exact gro_tg _ _ _ _
  · have h1 := gf.n
    have h2 : (ME M k u).n = (MD M k).n + 1 := rfl
    have h3 := g.n
    show (MF (ME M k u) (2 ^ k) (2 ^ k)).n ≤ _
    omega
  · exact gf.pn.trans g.pn
end
end Go.Proofs.YtdodloannlfnlaaGreat.S17
