/- Who has which lock: pure. -/
import Derived.Test.YthafnphpcdbnlaaGreatS15M
set_option linter.unusedVariables false
set_option linter.unusedSimpArgs false
namespace Go.Proofs.YthafnphpcdbnlaaGreat.S15
open Go.Proofs.YthafnphpcdbnlaaGreat Go.Proofs.YthafnphpcdbnlaaGreat.S11 Go.Proofs.YthafnphpcdbnlaaGreat.S12 Go.Proofs.YthafnphpcdbnlaaGreat.S13 Go.Proofs.YthafnphpcdbnlaaGreat.S14
open Go.RowKit

theorem bit0 (u : Nat) : S1.bitB u 0 = decide (u % 2 = 1) := by unfold S1.bitB; rw [Nat.pow_zero, Nat.div_one]
theorem put_par (l q : Bool) (h : Int) : S1.putU l q h % 2 = if l = true then 1 else 0 := by
  unfold S1.putU S1.putN
  cases l <;> cases q <;> simp <;> split <;> omega
theorem cas_same (x : Nat) (u v : Nat) (h : x = u) : S2.casV x u v = v := by unfold S2.casV; rw [if_pos h]
theorem cas_else (x : Nat) (u v : Nat) (h : x ≠ u) : S2.casV x u v = x := by unfold S2.casV; rw [if_neg h]
/-- A lock under way that may be: what it says of line 2. -/
def LOk (K : Lk) : Prop := K.ln ≤ 6 ∧ (K.ln = 2 → K.st % 2 = 0)
theorem turn_ok (K : Lk) (x : Nat) : LOk (K.turn x) ∧ (K.turn x).ln ≠ 0 := by
  unfold Lk.turn LOk
  by_cases h : x % 2 = 1
  · rw [if_neg (by rw [bit0, decide_eq_true h]; simp)]
    split
    · split <;> simp
    · simp
  · rw [if_pos (by rw [bit0, decide_eq_false h])]
    refine ⟨⟨by show 2 ≤ 6; omega, fun _ => by show x % 2 = 0; omega⟩, by show 2 ≠ 0; omega⟩
theorem acc_par {M : Sd} {k a y : Nat} (h : a < 1024) : S2.look (M.acc k a y).L a = y := acc_same h
/-- What a step of a lock does to words. -/
theorem lock_step {M : Sd} {K : Lk} (h : LOk K) (h0 : K.ln ≠ 0) (ha : K.a < 1024) :
    (∀ b, b ≠ K.a → S2.look (stepM M K).L b = S2.look M.L b) ∧ LOk (stepK M K) ∧
    (((stepK M K).ln ≠ 0 ∧ S2.look (stepM M K).L K.a % 2 = S2.look M.L K.a % 2) ∨ ((stepK M K).ln = 0 ∧ S2.look M.L K.a % 2 = 0 ∧ S2.look (stepM M K).L K.a % 2 = 1)) := by
  obtain ⟨ln, t, a, st, sp⟩ := K
  obtain ⟨h6, h2⟩ := h
  have h0' : ln ≠ 0 := h0
  have h6' : ln ≤ 6 := h6
  have ha' : a < 1024 := ha
  rcases (show ln = 1 ∨ ln = 2 ∨ ln = 3 ∨ ln = 4 ∨ ln = 5 ∨ ln = 6 by omega) with rfl | rfl | rfl | rfl | rfl | rfl
  · by_cases hx : S2.look M.L a = 0
    · have e1 : stepM M ⟨1, t, a, st, sp⟩ = M.acc 3 a (S2.casV (S2.look M.L a) 0 1) := rfl
      have e2 : stepK M ⟨1, t, a, st, sp⟩ = ⟨0, t, a, st, M.sp⟩ := if_pos hx
      rw [e1, e2, cas_same _ _ _ hx]
      exact ⟨fun b hb => acc_other hb, ⟨by show 0 ≤ 6; omega, fun e => by cases e⟩, .inr ⟨rfl, by rw [hx], by show S2.look (M.acc 3 a 1).L a % 2 = 1; rw [acc_same ha']⟩⟩
    · have e1 : stepM M ⟨1, t, a, st, sp⟩ = M.acc 3 a (S2.casV (S2.look M.L a) 0 1) := rfl
      have e2 : stepK M ⟨1, t, a, st, sp⟩ = (⟨1, t, a, st, M.sp⟩ : Lk).turn (S2.look M.L a) := if_neg hx
      rw [e1, e2, cas_else _ _ _ hx]
      exact ⟨fun b hb => acc_other hb, (turn_ok _ _).1, .inl ⟨(turn_ok _ _).2, by show S2.look (M.acc 3 a (S2.look M.L a)).L a % 2 = _; rw [acc_same ha']⟩⟩
  · have hst : st % 2 = 0 := h2 rfl
    by_cases hx : S2.look M.L a = st
    · have e1 : stepM M ⟨2, t, a, st, sp⟩ = M.acc 3 a (S2.casV (S2.look M.L a) st (S1.putU true (S1.bitB st 1) (S1.headN st))) := rfl
      have e2 : stepK M ⟨2, t, a, st, sp⟩ = ⟨0, t, a, st, sp⟩ := if_pos hx
      rw [e1, e2, cas_same _ _ _ hx]
      exact ⟨fun b hb => acc_other hb, ⟨by show 0 ≤ 6; omega, fun e => by cases e⟩, .inr ⟨rfl, by rw [hx]; exact hst, by show S2.look (M.acc 3 a _).L a % 2 = 1; rw [acc_same ha', put_par]; rfl⟩⟩
    · have e1 : stepM M ⟨2, t, a, st, sp⟩ = M.acc 3 a (S2.casV (S2.look M.L a) st (S1.putU true (S1.bitB st 1) (S1.headN st))) := rfl
      have e2 : stepK M ⟨2, t, a, st, sp⟩ = (⟨2, t, a, st, sp⟩ : Lk).turn (S2.look M.L a) := if_neg hx
      rw [e1, e2, cas_else _ _ _ hx]
      exact ⟨fun b hb => acc_other hb, (turn_ok _ _).1, .inl ⟨(turn_ok _ _).2, by show S2.look (M.acc 3 a (S2.look M.L a)).L a % 2 = _; rw [acc_same ha']⟩⟩
  · have e1 : stepM M ⟨3, t, a, st, sp⟩ = M.acc 1 a (S2.look M.L a) := rfl
    have e2 : stepK M ⟨3, t, a, st, sp⟩ = (⟨3, t, a, st, sp⟩ : Lk).turn (S2.look M.L a) := rfl
    rw [e1, e2]
    exact ⟨fun b hb => acc_other hb, (turn_ok _ _).1, .inl ⟨(turn_ok _ _).2, by show S2.look (M.acc 1 a (S2.look M.L a)).L a % 2 = _; rw [acc_same ha']⟩⟩
  · exact ⟨fun b hb => rfl, ⟨by show 5 ≤ 6; omega, fun e => by cases e⟩, .inl ⟨by show 5 ≠ 0; omega, rfl⟩⟩
  · by_cases hx : S2.look M.L a = st
    · have e1 : stepM M ⟨5, t, a, st, sp⟩ = M.acc 3 a (S2.casV (S2.look M.L a) st (S1.putU (S1.bitB st 0) (S1.bitB st 1) t)) := rfl
      have e2 : stepK M ⟨5, t, a, st, sp⟩ = ⟨6, t, a, st, sp⟩ := if_pos hx
      rw [e1, e2, cas_same _ _ _ hx]
      refine ⟨fun b hb => acc_other hb, ⟨by show 6 ≤ 6; omega, fun e => by cases e⟩, .inl ⟨by show 6 ≠ 0; omega, ?_⟩⟩
      show S2.look (M.acc 3 a _).L a % 2 = S2.look M.L a % 2
      rw [acc_same ha', put_par, hx, bit0]
      by_cases g : st % 2 = 1
      · rw [decide_eq_true g, if_pos rfl, g]
      · rw [decide_eq_false g, if_neg (by simp)]; omega
    · have e1 : stepM M ⟨5, t, a, st, sp⟩ = M.acc 3 a (S2.casV (S2.look M.L a) st (S1.putU (S1.bitB st 0) (S1.bitB st 1) t)) := rfl
      have e2 : stepK M ⟨5, t, a, st, sp⟩ = (⟨5, t, a, st, sp⟩ : Lk).turn (S2.look M.L a) := if_neg hx
      rw [e1, e2, cas_else _ _ _ hx]
      exact ⟨fun b hb => acc_other hb, (turn_ok _ _).1, .inl ⟨(turn_ok _ _).2, by show S2.look (M.acc 3 a (S2.look M.L a)).L a % 2 = _; rw [acc_same ha']⟩⟩
  · refine ⟨fun b hb => rfl, ?_, .inl ⟨?_, rfl⟩⟩
    · show LOk (if (M.pf (2 * t + 1)).p then _ else _)
      split
      · exact ⟨by show 3 ≤ 6; omega, fun e => by cases e⟩
      · exact ⟨by show 6 ≤ 6; omega, fun e => by cases e⟩
    · show (if (M.pf (2 * t + 1)).p then (_ : Lk) else _).ln ≠ 0
      split
      · show 3 ≠ 0; omega
      · show 6 ≠ 0; omega
/-- A Free under way that may be. -/
def FO (F : Fr) : Prop := F.ln ≤ 7 ∧ (F.ln = 5 → F.w % 2 = 0)
theorem seek_ok (F : Fr) (S : S5.Lk) : FO (F.seek S) ∧ (F.seek S).ln ≠ 1 ∧ (F.seek S).a = F.a := by
  unfold Fr.seek seekL FO
  by_cases h : (S5.seekO S (hdO F.w)).2 = 0
  · rw [if_pos h]; exact ⟨⟨by show 0 ≤ 7; omega, fun e => by cases e⟩, by show 0 ≠ 1; omega, rfl⟩
  · rw [if_neg h]
    by_cases g : F.w % 2 = 1
    · rw [if_pos (by rw [bit0, decide_eq_true g])]
      exact ⟨⟨by show 4 ≤ 7; omega, fun e => by cases e⟩, by show 4 ≠ 1; omega, rfl⟩
    · rw [if_neg (by rw [bit0, decide_eq_false g]; simp)]
      split
      · exact ⟨⟨by show 5 ≤ 7; omega, fun _ => by show F.w % 2 = 0; omega⟩, by show 5 ≠ 1; omega, rfl⟩
      · exact ⟨⟨by show 6 ≤ 7; omega, fun e => by cases e⟩, by show 6 ≠ 1; omega, rfl⟩
theorem look_ok (F : Fr) : FO F.look ∧ F.look.ln ≠ 1 ∧ F.look.a = F.a := by
  unfold Fr.look FO
  refine ⟨⟨?_, ?_⟩, ?_, rfl⟩
  · show (if idle F.w = true then 0 else 3) ≤ 7; split <;> omega
  · show (if idle F.w = true then 0 else 3) = 5 → _; split <;> omega
  · show (if idle F.w = true then 0 else 3) ≠ 1; split <;> omega
theorem and_par (x : Nat) : (x &&& 18446744073709551613) % 2 = x % 2 := by
  rw [← Nat.and_one_is_mod, Nat.and_assoc, show 18446744073709551613 &&& 1 = 1 from by decide, Nat.and_one_is_mod]
theorem wq_par (u : Nat) (b : Bool) : wq u b % 2 = u % 2 := by
  unfold wq
  rw [put_par, bit0]
  by_cases g : u % 2 = 1
  · rw [decide_eq_true g, if_pos rfl, g]
  · rw [decide_eq_false g, if_neg (by simp)]; omega
/-- What a step of a Free does to words. -/
theorem free_step {M : Sd} {F : Fr} (h : FO F) (h0 : F.ln ≠ 0) (ha : F.a < 1024) (h1 : F.ln = 1 → S2.look M.L F.a % 2 = 1) (hl : S2.look M.L F.a < 18446744073709551616) :
    (∀ b, b ≠ F.a → S2.look (fstepM M F).L b = S2.look M.L b) ∧ FO (fstepK M F) ∧ (fstepK M F).ln ≠ 1 ∧ (fstepK M F).a = F.a ∧ (F.ln ≠ 1 → S2.look (fstepM M F).L F.a % 2 = S2.look M.L F.a % 2) := by
  obtain ⟨ln, a, l, q, hd, w, t⟩ := F
  obtain ⟨h7, h5⟩ := h
  have h0' : ln ≠ 0 := h0
  have h7' : ln ≤ 7 := h7
  have ha' : a < 1024 := ha
  rcases (show ln = 1 ∨ ln = 2 ∨ ln = 3 ∨ ln = 4 ∨ ln = 5 ∨ ln = 6 ∨ ln = 7 by omega) with rfl | rfl | rfl | rfl | rfl | rfl | rfl
  · refine ⟨fun b hb => acc_other hb, ?_, ?_, rfl, fun e => absurd rfl e⟩
    · refine ⟨?_, ?_⟩
      · show (if idle (S2.look M.L a) = true then 0 else 2) ≤ 7; split <;> omega
      · show (if idle (S2.look M.L a) = true then 0 else 2) = 5 → _; split <;> omega
    · show (if idle (S2.look M.L a) = true then 0 else 2) ≠ 1; split <;> omega
  · have e2 : fstepK M ⟨2, a, l, q, hd, w, t⟩ = ((⟨2, a, l, q, hd, w, t⟩ : Fr).says (S2.look M.L a)).look := rfl
    have hk := look_ok ((⟨2, a, l, q, hd, w, t⟩ : Fr).says (S2.look M.L a))
    rw [e2]
    exact ⟨fun b hb => acc_other (k := 1) hb, hk.1, hk.2.1, hk.2.2, fun _ => by show S2.look (M.acc 1 a (S2.look M.L a)).L a % 2 = _; rw [acc_same ha']⟩
  · by_cases hx : S2.look M.L a = w
    · have e1 : fstepM M ⟨3, a, l, q, hd, w, t⟩ = (M.acc 3 a (S2.casV (S2.look M.L a) w (wq w true))).link (seekL M.lk (wq w true)).1 := if_pos hx
      have e2 : fstepK M ⟨3, a, l, q, hd, w, t⟩ = (⟨3, a, l, true, hd, wq w true, t⟩ : Fr).seek M.lk := if_pos hx
      have hk := seek_ok (⟨3, a, l, true, hd, wq w true, t⟩ : Fr) M.lk
      rw [e1, e2, cas_same _ _ _ hx]
      refine ⟨fun b hb => acc_other (k := 3) hb, hk.1, hk.2.1, hk.2.2, fun _ => ?_⟩
      show S2.look (M.acc 3 a (wq w true)).L a % 2 = S2.look M.L a % 2
      rw [acc_same ha', wq_par, hx]
    · have e1 : fstepM M ⟨3, a, l, q, hd, w, t⟩ = M.acc 3 a (S2.casV (S2.look M.L a) w (wq w true)) := if_neg hx
      have e2 : fstepK M ⟨3, a, l, q, hd, w, t⟩ = ((⟨3, a, l, q, hd, w, t⟩ : Fr).says (S2.look M.L a)).look := if_neg hx
      have hk := look_ok ((⟨3, a, l, q, hd, w, t⟩ : Fr).says (S2.look M.L a))
      rw [e1, e2, cas_else _ _ _ hx]
      exact ⟨fun b hb => acc_other (k := 3) hb, hk.1, hk.2.1, hk.2.2, fun _ => by show S2.look (M.acc 3 a (S2.look M.L a)).L a % 2 = _; rw [acc_same ha']⟩
  · by_cases hx : S2.look M.L a = w
    · have e1 : fstepM M ⟨4, a, l, q, hd, w, t⟩ = M.acc 3 a (S2.casV (S2.look M.L a) w (wq w false)) := if_pos hx
      have e2 : fstepK M ⟨4, a, l, q, hd, w, t⟩ = ⟨0, a, l, false, hd, w, t⟩ := if_pos hx
      rw [e1, e2, cas_same _ _ _ hx]
      refine ⟨fun b hb => acc_other hb, ⟨by show 0 ≤ 7; omega, fun e => by cases e⟩, by show 0 ≠ 1; omega, rfl, fun _ => ?_⟩
      show S2.look (M.acc 3 a (wq w false)).L a % 2 = S2.look M.L a % 2
      rw [acc_same ha', wq_par, hx]
    · have e1 : fstepM M ⟨4, a, l, q, hd, w, t⟩ = (M.acc 3 a (S2.casV (S2.look M.L a) w (wq w false))).link (seekL M.lk (S2.look M.L a)).1 := if_neg hx
      have e2 : fstepK M ⟨4, a, l, q, hd, w, t⟩ = ((⟨4, a, l, q, hd, w, t⟩ : Fr).says (S2.look M.L a)).seek M.lk := if_neg hx
      have hk := seek_ok ((⟨4, a, l, q, hd, w, t⟩ : Fr).says (S2.look M.L a)) M.lk
      rw [e1, e2, cas_else _ _ _ hx]
      exact ⟨fun b hb => acc_other (k := 3) hb, hk.1, hk.2.1, hk.2.2, fun _ => by show S2.look (M.acc 3 a (S2.look M.L a)).L a % 2 = _; rw [acc_same ha']⟩
  · have hw : w % 2 = 0 := h5 rfl
    by_cases hx : S2.look M.L a = w
    · have e1 : fstepM M ⟨5, a, l, q, hd, w, t⟩ = M.acc 3 a (S2.casV (S2.look M.L a) w 0) := if_pos hx
      have e2 : fstepK M ⟨5, a, l, q, hd, w, t⟩ = ⟨7, a, false, false, -1, w, t⟩ := if_pos hx
      rw [e1, e2, cas_same _ _ _ hx]
      refine ⟨fun b hb => acc_other hb, ⟨by show 7 ≤ 7; omega, fun e => by cases e⟩, by show 7 ≠ 1; omega, rfl, fun _ => ?_⟩
      show S2.look (M.acc 3 a 0).L a % 2 = S2.look M.L a % 2
      rw [acc_same ha', hx, hw]
    · have e1 : fstepM M ⟨5, a, l, q, hd, w, t⟩ = (M.acc 3 a (S2.casV (S2.look M.L a) w 0)).link (seekL M.lk (S2.look M.L a)).1 := if_neg hx
      have e2 : fstepK M ⟨5, a, l, q, hd, w, t⟩ = ((⟨5, a, l, q, hd, w, t⟩ : Fr).says (S2.look M.L a)).seek M.lk := if_neg hx
      have hk := seek_ok ((⟨5, a, l, q, hd, w, t⟩ : Fr).says (S2.look M.L a)) M.lk
      rw [e1, e2, cas_else _ _ _ hx]
      exact ⟨fun b hb => acc_other (k := 3) hb, hk.1, hk.2.1, hk.2.2, fun _ => by show S2.look (M.acc 3 a (S2.look M.L a)).L a % 2 = _; rw [acc_same ha']⟩
  · have e1 : fstepM M ⟨6, a, l, q, hd, w, t⟩ = M.acc 6 a (S2.look M.L a &&& 18446744073709551613) := rfl
    have e2 : fstepK M ⟨6, a, l, q, hd, w, t⟩ = ⟨7, a, l, q, hd, w, t⟩ := rfl
    rw [e1, e2]
    refine ⟨fun b hb => acc_other hb, ⟨by show 7 ≤ 7; omega, fun e => by cases e⟩, by show 7 ≠ 1; omega, rfl, fun _ => ?_⟩
    show S2.look (M.acc 6 a _).L a % 2 = S2.look M.L a % 2
    rw [acc_same ha', and_par]
  · exact ⟨fun b hb => rfl, ⟨by show 0 ≤ 7; omega, fun e => by cases e⟩, by show 0 ≠ 1; omega, rfl, fun _ => rfl⟩
end Go.Proofs.YthafnphpcdbnlaaGreat.S15
