/- Who is through has the bucket that counts: pure. -/
import Derived.Test.YthafnphpcdbnlaaGreatS15P
set_option linter.unusedVariables false
set_option linter.unusedSimpArgs false
namespace Go.Proofs.YthafnphpcdbnlaaGreat.S15
open Go.Proofs.YthafnphpcdbnlaaGreat Go.Proofs.YthafnphpcdbnlaaGreat.S11 Go.Proofs.YthafnphpcdbnlaaGreat.S12 Go.Proofs.YthafnphpcdbnlaaGreat.S13 Go.Proofs.YthafnphpcdbnlaaGreat.S14
open Go.RowKit

/-- A runner: nothing is under way (0), a way (1), or a Free (2). -/
structure Rn where
  k : Nat
  E : En
  F : Fr
/-- It has a lock. -/
def Rn.holds (r : Rn) : Prop := (r.k = 1 ∧ (r.E.ln = 4 ∨ r.E.ln = 5 ∨ r.E.ln = 0 ∨ (r.E.ln = 6 ∧ r.E.F.ln = 1))) ∨ (r.k = 2 ∧ r.F.ln = 1)
def Rn.adr (r : Rn) : Nat := if r.k = 2 then r.F.a else r.E.a
structure ROk (i : Nat) (r : Rn) : Prop where
  k : r.k ≤ 2
  ln : r.k = 1 → r.E.ln ≤ 6
  t : r.k = 1 → r.E.t = i
  ky : r.k = 1 → r.E.kw < 65536
  en : r.k = 1 → r.E.ow = false → r.E.ln ≠ 1 ∧ r.E.ln ≠ 5
  k3 : r.k = 1 → r.E.ln = 3 → r.E.K.a = r.E.a ∧ r.E.K.ln ≠ 0 ∧ LOk r.E.K
  k6 : r.k = 1 → r.E.ln = 6 → r.E.F.a = r.E.a ∧ r.E.F.ln ≠ 0 ∧ FO r.E.F
  f : r.k = 2 → (260 ≤ r.F.a ∧ r.F.a < 768) ∧ r.F.ln ≠ 0 ∧ FO r.F
structure Inv (M : Sd) (R : Nat → Rn) : Prop where
  ok : ∀ i, i < 4 → ROk i (R i)
  od : ∀ i, i < 4 → (R i).holds → S2.look M.L (R i).adr % 2 = 1
  ne : ∀ i j, i < 4 → j < 4 → i ≠ j → (R i).holds → (R j).holds → (R i).adr ≠ (R j).adr
  tb : ∀ i, i < 4 → (R i).k = 1 → ((R i).E.ln = 5 ∨ (R i).E.ln = 0) → S2.look M.L 0 = (R i).E.tw
  ky : ∀ i, i < 4 → (R i).k = 1 → (R i).E.ow = true → (R i).E.ln = 0 → S2.look M.L (64 + i) = (R i).E.kw
  kl : ∀ i, i < 4 → S2.look M.L (64 + i) < 65536
def updR (R : Nat → Rn) (i : Nat) (r : Rn) : Nat → Rn := fun j => if j = i then r else R j
theorem updR_same (R : Nat → Rn) (i : Nat) (r : Rn) : updR R i r i = r := if_pos rfl
theorem updR_else {R : Nat → Rn} {i j : Nat} {r : Rn} (h : j ≠ i) : updR R i r j = R j := if_neg h
/-- One of them goes on. -/
theorem Inv.turn {M M' : Sd} {R : Nat → Rn} (h : Inv M R) {i : Nat} {r : Rn} (A : Nat) (hi : i < 4) (hok : ROk i r) (hT : S2.look M'.L 0 = S2.look M.L 0)
    (hK : ∀ j, j < 4 → j ≠ i → S2.look M'.L (64 + j) = S2.look M.L (64 + j)) (hKi : S2.look M'.L (64 + i) < 65536)
    (hp : ∀ a, a ≠ A → 260 ≤ a → S2.look M'.L a % 2 = S2.look M.L a % 2)
    (hc : (S2.look M'.L A % 2 = S2.look M.L A % 2 ∧ (r.holds → (R i).holds ∧ r.adr = (R i).adr)) ∨ (S2.look M.L A % 2 = 0 ∧ S2.look M'.L A % 2 = 1 ∧ r.adr = A) ∨ ((R i).holds ∧ (R i).adr = A ∧ ¬ r.holds))
    (htb : r.k = 1 → (r.E.ln = 5 ∨ r.E.ln = 0) → S2.look M'.L 0 = r.E.tw) (hky : r.k = 1 → r.E.ow = true → r.E.ln = 0 → S2.look M'.L (64 + i) = r.E.kw) : Inv M' (updR R i r) := by
  have hlow : ∀ j, j < 4 → (R j).holds → 260 ≤ (R j).adr := fun j hj hh => by
    unfold Rn.adr
    rcases hh with ⟨hk, _⟩ | ⟨hk, _⟩
    · rw [if_neg (by omega)]; exact (R j).E.a_in.1
    · rw [if_pos hk]; exact ((h.ok j hj).f hk).1.1
  have hsame : ∀ j, j < 4 → j ≠ i → (R j).holds → S2.look M'.L (R j).adr % 2 = 1 := fun j hj hji hh => by
    have ho := h.od j hj hh
    by_cases e : (R j).adr = A
    · rcases hc with ⟨h1, _⟩ | ⟨h1, _, _⟩ | ⟨h1, h2, _⟩
      · rw [e, h1, ← e]; exact ho
      · rw [e] at ho; omega
      · exact absurd (h2.trans e.symm) (h.ne i j hi hj (Ne.symm hji) h1 hh)
    · rw [hp _ e (hlow j hj hh)]; exact ho
  have hne : ∀ j, j < 4 → j ≠ i → r.holds → (R j).holds → r.adr ≠ (R j).adr := fun j hj hji hr hh => by
    rcases hc with ⟨_, h2⟩ | ⟨h1, _, h3⟩ | ⟨_, _, h3⟩
    · obtain ⟨g1, g2⟩ := h2 hr
      rw [g2]; exact h.ne i j hi hj (Ne.symm hji) g1 hh
    · intro e
      have ho := h.od j hj hh
      rw [← e, h3] at ho
      omega
    · exact absurd hr h3
  refine ⟨fun j hj => ?_, fun j hj hh => ?_, fun a b ha hb hab h1 h2 => ?_, fun j hj hk hl => ?_, fun j hj hk ho hl => ?_, fun j hj => ?_⟩
  · by_cases e : j = i
    · subst e; rw [updR_same]; exact hok
    · rw [updR_else e]; exact h.ok j hj
  · by_cases e : j = i
    · subst e
      rw [updR_same] at hh ⊢
      rcases hc with ⟨h1, h2⟩ | ⟨_, h2, h3⟩ | ⟨_, _, h3⟩
      · obtain ⟨g1, g2⟩ := h2 hh
        have ho := h.od j hj g1
        rw [g2]
        by_cases e : (R j).adr = A
        · rw [e, h1, ← e]; exact ho
        · rw [hp _ e (hlow j hj g1)]; exact ho
      · rw [h3]; exact h2
      · exact absurd hh h3
    · rw [updR_else e] at hh ⊢; exact hsame j hj e hh
  · by_cases ea : a = i
    · subst ea
      rw [updR_same] at h1 ⊢
      rw [updR_else (Ne.symm hab)] at h2 ⊢
      exact hne b hb (Ne.symm hab) h1 h2
    · by_cases eb : b = i
      · subst eb
        rw [updR_same] at h2 ⊢
        rw [updR_else hab] at h1 ⊢
        exact Ne.symm (hne a ha hab h2 h1)
      · rw [updR_else ea] at h1 ⊢
        rw [updR_else eb] at h2 ⊢
        exact h.ne a b ha hb hab h1 h2
  · by_cases e : j = i
    · subst e; rw [updR_same] at hk hl ⊢; exact htb hk hl
    · rw [updR_else e] at hk hl ⊢; rw [hT]; exact h.tb j hj hk hl
  · by_cases e : j = i
    · subst e; rw [updR_same] at hk ho hl ⊢; exact hky hk ho hl
    · rw [updR_else e] at hk ho hl ⊢; rw [hK j hj e]; exact h.ky j hj hk ho hl
  · by_cases e : j = i
    · subst e; exact hKi
    · rw [hK j hj e]; exact h.kl j hj
theorem stepK_a (M : Sd) (K : Lk) : (stepK M K).a = K.a := by
  obtain ⟨ln, t, a, st, sp⟩ := K
  have ht : ∀ (K : Lk) x, (K.turn x).a = K.a := fun K x => by unfold Lk.turn; split <;> (try split) <;> (try split) <;> rfl
  have hc : ∀ (K K' : Lk) x u, K'.a = K.a → (K.cas x u K').a = K.a := fun K K' x u e => by unfold Lk.cas; split; exact e; exact ht K x
  unfold stepK
  split <;> first | rfl | exact hc _ _ _ _ rfl | exact ht _ _ | (split <;> rfl)
theorem load_same {M : Sd} {k a : Nat} (h : a < 1024) (b : Nat) : S2.look (M.acc k a (S2.look M.L a)).L b = S2.look M.L b := acc_load h b
/-- A way that goes on. -/
theorem Inv.way {M : Sd} {R : Nat → Rn} (h : Inv M R) {i : Nat} {E : En} {F : Fr} (hi : i < 4) (hr : R i = ⟨1, E, F⟩) (h0 : E.ln ≠ 0) (hl : ∀ a, S2.look M.L a < 18446744073709551616) : Inv (enM M E) (updR R i ⟨1, enE M E, F⟩) := by
  have ok := h.ok i hi
  have hod := h.od i hi
  have htb := h.tb i hi
  have hkl := h.kl i hi
  rw [hr] at ok hod htb
  obtain ⟨o, ln, t, kw, tw, K, Fe⟩ := E
  have hln : ln ≤ 6 := ok.ln rfl
  have ht : t = i := ok.t rfl
  have hkw : kw < 65536 := ok.ky rfl
  have hen : o = false → ln ≠ 1 ∧ ln ≠ 5 := ok.en rfl
  have h0' : ln ≠ 0 := h0
  have hain := lok_in (kw % 4294967296) tw
  subst ht
  rcases (show ln = 1 ∨ ln = 2 ∨ ln = 3 ∨ ln = 4 ∨ ln = 5 ∨ ln = 6 by omega) with rfl | rfl | rfl | rfl | rfl | rfl
  · have ho : o = true := by cases o; exact absurd rfl (hen rfl).1; rfl
    subst ho
    refine h.turn 0 hi ⟨by show 1 ≤ 2; omega, fun _ => by show 2 ≤ 6; omega, fun _ => rfl, fun _ => by show S2.look M.L (64 + t) % 4294967296 < 65536; omega, fun _ e => (by cases e), fun _ e => (by cases e), fun _ e => (by cases e), fun e => (by cases e)⟩ (load_same (k := 1) (a := 64 + t) (by omega) _) (fun j hj _ => load_same (k := 1) (a := 64 + t) (by omega) _) (by show S2.look (M.acc 1 (64 + t) (S2.look M.L (64 + t))).L (64 + t) < _; rw [load_same (k := 1) (a := 64 + t) (by omega)]; exact hkl) (fun a _ _ => by show S2.look (M.acc 1 (64 + t) (S2.look M.L (64 + t))).L a % 2 = _; rw [load_same (k := 1) (a := 64 + t) (by omega)]) (.inl ⟨by show S2.look (M.acc 1 (64 + t) (S2.look M.L (64 + t))).L 0 % 2 = _; rw [load_same (k := 1) (a := 64 + t) (by omega)], fun hh => ?_⟩) (fun _ hl => ?_) (fun _ _ e => (by cases e))
    · rcases hh with ⟨_, e⟩ | ⟨e, _⟩
      · exact absurd e (by show ¬ (2 = 4 ∨ 2 = 5 ∨ 2 = 0 ∨ (2 = 6 ∧ _)); omega)
      · cases e
    · exact absurd hl (by show ¬ (2 = 5 ∨ 2 = 0); omega)
  · refine h.turn 0 hi ⟨by show 1 ≤ 2; omega, fun _ => by show 3 ≤ 6; omega, fun _ => rfl, fun _ => hkw, fun _ e => ⟨by show 3 ≠ 1; omega, by show 3 ≠ 5; omega⟩, fun _ _ => ⟨rfl, by show 1 ≠ 0; omega, by show 1 ≤ 6; omega, fun e => (by cases e)⟩, fun _ e => (by cases e), fun e => (by cases e)⟩ (load_same (k := 1) (a := 0) (by omega) _) (fun j hj _ => load_same (k := 1) (a := 0) (by omega) _) (by show S2.look (M.acc 1 0 (S2.look M.L 0)).L (64 + t) < _; rw [load_same (k := 1) (a := 0) (by omega)]; exact hkl) (fun a _ _ => by show S2.look (M.acc 1 0 (S2.look M.L 0)).L a % 2 = _; rw [load_same (k := 1) (a := 0) (by omega)]) (.inl ⟨by show S2.look (M.acc 1 0 (S2.look M.L 0)).L 0 % 2 = _; rw [load_same (k := 1) (a := 0) (by omega)], fun hh => ?_⟩) (fun _ hl => ?_) (fun _ _ e => (by cases e))
    · rcases hh with ⟨_, e⟩ | ⟨e, _⟩
      · exact absurd e (by show ¬ (3 = 4 ∨ 3 = 5 ∨ 3 = 0 ∨ (3 = 6 ∧ _)); omega)
      · cases e
    · exact absurd hl (by show ¬ (3 = 5 ∨ 3 = 0); omega)
  · obtain ⟨hka, hk0, hkok⟩ := ok.k3 rfl rfl
    have hka' : K.a = lokN (kw % 4294967296) tw := hka
    have hkok' : LOk K := hkok
    have hk0' : K.ln ≠ 0 := hk0
    obtain ⟨g1, g2, g3⟩ := lock_step (M := M) (K := K) hkok' hk0' (by omega)
    have ka2 := stepK_a M K
    rcases g3 with ⟨g3, g4⟩ | ⟨g3, g4, g5⟩
    · have e : enE M ⟨o, 3, t, kw, tw, K, Fe⟩ = ⟨o, 3, t, kw, tw, stepK M K, Fe⟩ := by show (⟨o, if (stepK M K).ln = 0 then 4 else 3, t, kw, tw, stepK M K, Fe⟩ : En) = _; rw [if_neg g3]
      rw [e]
      refine h.turn K.a hi ⟨by show 1 ≤ 2; omega, fun _ => by show 3 ≤ 6; omega, fun _ => rfl, fun _ => hkw, fun _ e => ⟨by show 3 ≠ 1; omega, by show 3 ≠ 5; omega⟩, fun _ _ => ⟨ka2.trans hka, g3, g2⟩, fun _ e => (by cases e), fun e => (by cases e)⟩ (g1 0 (by omega)) (fun j hj _ => g1 _ (by omega)) (by show S2.look (stepM M K).L (64 + t) < _; rw [g1 _ (by omega)]; exact hkl) (fun a ha _ => by show S2.look (stepM M K).L a % 2 = _; rw [g1 a ha]) (.inl ⟨g4, fun hh => ?_⟩) (fun _ hl => ?_) (fun _ _ e => (by cases e))
      · rcases hh with ⟨_, e⟩ | ⟨e, _⟩
        · exact absurd e (by show ¬ (3 = 4 ∨ 3 = 5 ∨ 3 = 0 ∨ (3 = 6 ∧ _)); omega)
        · cases e
      · exact absurd hl (by show ¬ (3 = 5 ∨ 3 = 0); omega)
    · have e : enE M ⟨o, 3, t, kw, tw, K, Fe⟩ = ⟨o, 4, t, kw, tw, stepK M K, Fe⟩ := by show (⟨o, if (stepK M K).ln = 0 then 4 else 3, t, kw, tw, stepK M K, Fe⟩ : En) = _; rw [if_pos g3]
      rw [e]
      refine h.turn K.a hi ⟨by show 1 ≤ 2; omega, fun _ => by show 4 ≤ 6; omega, fun _ => rfl, fun _ => hkw, fun _ e => ⟨by show 4 ≠ 1; omega, by show 4 ≠ 5; omega⟩, fun _ e => (by cases e), fun _ e => (by cases e), fun e => (by cases e)⟩ (g1 0 (by omega)) (fun j hj _ => g1 _ (by omega)) (by show S2.look (stepM M K).L (64 + t) < _; rw [g1 _ (by omega)]; exact hkl) (fun a ha _ => by show S2.look (stepM M K).L a % 2 = _; rw [g1 a ha]) (.inr (.inl ⟨g4, g5, hka'.symm⟩)) (fun _ hl => ?_) (fun _ _ e => (by cases e))
      exact absurd hl (by show ¬ (4 = 5 ∨ 4 = 0); omega)
  · have hh4 : (Rn.mk 1 ⟨o, 4, t, kw, tw, K, Fe⟩ F).holds := .inl ⟨rfl, .inl rfl⟩
    by_cases hx : S2.look M.L 0 = tw
    · have e : enE M ⟨o, 4, t, kw, tw, K, Fe⟩ = ⟨o, if o then 5 else 0, t, kw, tw, K, Fe⟩ := if_pos hx
      rw [e]
      refine h.turn 0 hi ⟨by show 1 ≤ 2; omega, fun _ => by show (if o then 5 else 0) ≤ 6; split <;> omega, fun _ => rfl, fun _ => hkw, fun _ e => ?_, fun _ e => ?_, fun _ e => ?_, fun e => (by cases e)⟩ (load_same (k := 1) (a := 0) (by omega) _) (fun j hj _ => load_same (k := 1) (a := 0) (by omega) _) (by show S2.look (M.acc 1 0 (S2.look M.L 0)).L (64 + t) < _; rw [load_same (k := 1) (a := 0) (by omega)]; exact hkl) (fun a _ _ => by show S2.look (M.acc 1 0 (S2.look M.L 0)).L a % 2 = _; rw [load_same (k := 1) (a := 0) (by omega)]) (.inl ⟨by show S2.look (M.acc 1 0 (S2.look M.L 0)).L 0 % 2 = _; rw [load_same (k := 1) (a := 0) (by omega)], fun _ => ?_⟩) (fun _ _ => ?_) (fun _ ho e => ?_)
      · have e' : o = false := e
        subst e'
        exact ⟨by show 0 ≠ 1; omega, by show 0 ≠ 5; omega⟩
      · exact absurd e (by show ¬ (if o then 5 else 0) = 3; split <;> omega)
      · exact absurd e (by show ¬ (if o then 5 else 0) = 6; split <;> omega)
      · rw [hr]; exact ⟨hh4, rfl⟩
      · show S2.look (M.acc 1 0 (S2.look M.L 0)).L 0 = tw; rw [load_same (k := 1) (a := 0) (by omega)]; exact hx
      · have ho' : o = true := ho
        subst ho'
        exact absurd e (by show ¬ 5 = 0; omega)
    · have e : enE M ⟨o, 4, t, kw, tw, K, Fe⟩ = ⟨o, 6, t, kw, tw, K, fr0 (lokN (kw % 4294967296) tw)⟩ := if_neg hx
      rw [e]
      refine h.turn 0 hi ⟨by show 1 ≤ 2; omega, fun _ => by show 6 ≤ 6; omega, fun _ => rfl, fun _ => hkw, fun _ e => ⟨by show 6 ≠ 1; omega, by show 6 ≠ 5; omega⟩, fun _ e => (by cases e), fun _ _ => ⟨rfl, by show 1 ≠ 0; omega, by show 1 ≤ 7; omega, fun e => (by cases e)⟩, fun e => (by cases e)⟩ (load_same (k := 1) (a := 0) (by omega) _) (fun j hj _ => load_same (k := 1) (a := 0) (by omega) _) (by show S2.look (M.acc 1 0 (S2.look M.L 0)).L (64 + t) < _; rw [load_same (k := 1) (a := 0) (by omega)]; exact hkl) (fun a _ _ => by show S2.look (M.acc 1 0 (S2.look M.L 0)).L a % 2 = _; rw [load_same (k := 1) (a := 0) (by omega)]) (.inl ⟨by show S2.look (M.acc 1 0 (S2.look M.L 0)).L 0 % 2 = _; rw [load_same (k := 1) (a := 0) (by omega)], fun _ => ?_⟩) (fun _ hl => ?_) (fun _ _ e => (by cases e))
      · rw [hr]; exact ⟨hh4, rfl⟩
      · exact absurd hl (by show ¬ (6 = 5 ∨ 6 = 0); omega)
  · have ho : o = true := by cases o; exact absurd rfl (hen rfl).2; rfl
    subst ho
    have hh5 : (Rn.mk 1 ⟨true, 5, t, kw, tw, K, Fe⟩ F).holds := .inl ⟨rfl, .inr (.inl rfl)⟩
    have htw : S2.look M.L 0 = tw := htb rfl (.inl rfl)
    by_cases hx : S2.look M.L (64 + t) % 4294967296 = kw
    · have e : enE M ⟨true, 5, t, kw, tw, K, Fe⟩ = ⟨true, 0, t, kw, tw, K, Fe⟩ := if_pos hx
      rw [e]
      refine h.turn 0 hi ⟨by show 1 ≤ 2; omega, fun _ => by show 0 ≤ 6; omega, fun _ => rfl, fun _ => hkw, fun _ e => (by cases e), fun _ e => (by cases e), fun _ e => (by cases e), fun e => (by cases e)⟩ (load_same (k := 1) (a := 64 + t) (by omega) _) (fun j hj _ => load_same (k := 1) (a := 64 + t) (by omega) _) (by show S2.look (M.acc 1 (64 + t) (S2.look M.L (64 + t))).L (64 + t) < _; rw [load_same (k := 1) (a := 64 + t) (by omega)]; exact hkl) (fun a _ _ => by show S2.look (M.acc 1 (64 + t) (S2.look M.L (64 + t))).L a % 2 = _; rw [load_same (k := 1) (a := 64 + t) (by omega)]) (.inl ⟨by show S2.look (M.acc 1 (64 + t) (S2.look M.L (64 + t))).L 0 % 2 = _; rw [load_same (k := 1) (a := 64 + t) (by omega)], fun _ => ?_⟩) (fun _ _ => ?_) (fun _ _ _ => ?_)
      · rw [hr]; exact ⟨hh5, rfl⟩
      · show S2.look (M.acc 1 (64 + t) (S2.look M.L (64 + t))).L 0 = tw; rw [load_same (k := 1) (a := 64 + t) (by omega)]; exact htw
      · show S2.look (M.acc 1 (64 + t) (S2.look M.L (64 + t))).L (64 + t) = kw; rw [load_same (k := 1) (a := 64 + t) (by omega)]; omega
    · have e : enE M ⟨true, 5, t, kw, tw, K, Fe⟩ = ⟨true, 6, t, kw, tw, K, fr0 (lokN (kw % 4294967296) tw)⟩ := if_neg hx
      rw [e]
      refine h.turn 0 hi ⟨by show 1 ≤ 2; omega, fun _ => by show 6 ≤ 6; omega, fun _ => rfl, fun _ => hkw, fun _ e => (by cases e), fun _ e => (by cases e), fun _ _ => ⟨rfl, by show 1 ≠ 0; omega, by show 1 ≤ 7; omega, fun e => (by cases e)⟩, fun e => (by cases e)⟩ (load_same (k := 1) (a := 64 + t) (by omega) _) (fun j hj _ => load_same (k := 1) (a := 64 + t) (by omega) _) (by show S2.look (M.acc 1 (64 + t) (S2.look M.L (64 + t))).L (64 + t) < _; rw [load_same (k := 1) (a := 64 + t) (by omega)]; exact hkl) (fun a _ _ => by show S2.look (M.acc 1 (64 + t) (S2.look M.L (64 + t))).L a % 2 = _; rw [load_same (k := 1) (a := 64 + t) (by omega)]) (.inl ⟨by show S2.look (M.acc 1 (64 + t) (S2.look M.L (64 + t))).L 0 % 2 = _; rw [load_same (k := 1) (a := 64 + t) (by omega)], fun _ => ?_⟩) (fun _ hl => ?_) (fun _ _ e => (by cases e))
      · rw [hr]; exact ⟨hh5, rfl⟩
      · exact absurd hl (by show ¬ (6 = 5 ∨ 6 = 0); omega)
  · obtain ⟨hfa, hf0, hfok⟩ := ok.k6 rfl rfl
    have hfa' : Fe.a = lokN (kw % 4294967296) tw := hfa
    have hfok' : FO Fe := hfok
    have hf0' : Fe.ln ≠ 0 := hf0
    have h1 : Fe.ln = 1 → S2.look M.L Fe.a % 2 = 1 := fun e => by
      rw [hfa']; exact hod (.inl ⟨rfl, .inr (.inr (.inr ⟨rfl, e⟩))⟩)
    obtain ⟨g1, g2, g3, g4, g5⟩ := free_step (M := M) (F := Fe) hfok' hf0' (by omega) h1 (hl _)
    have hcc : ∀ r : Rn, ¬ r.holds → ((S2.look (fstepM M Fe).L Fe.a % 2 = S2.look M.L Fe.a % 2 ∧ (r.holds → (R t).holds ∧ r.adr = (R t).adr)) ∨ (S2.look M.L Fe.a % 2 = 0 ∧ S2.look (fstepM M Fe).L Fe.a % 2 = 1 ∧ r.adr = Fe.a) ∨ ((R t).holds ∧ (R t).adr = Fe.a ∧ ¬ r.holds)) := fun r hr' => by
      by_cases e : Fe.ln = 1
      · refine .inr (.inr ⟨?_, ?_, hr'⟩)
        · rw [hr]; exact .inl ⟨rfl, .inr (.inr (.inr ⟨rfl, e⟩))⟩
        · rw [hr]; exact hfa'.symm
      · exact .inl ⟨g5 e, fun hh => absurd hh hr'⟩
    by_cases hz : (fstepK M Fe).ln = 0
    · have e : enE M ⟨o, 6, t, kw, tw, K, Fe⟩ = ⟨o, if o then 1 else 2, t, kw, tw, K, fstepK M Fe⟩ := by show (⟨o, if (fstepK M Fe).ln = 0 then (if o then 1 else 2) else 6, t, kw, tw, K, fstepK M Fe⟩ : En) = _; rw [if_pos hz]
      rw [e]
      refine h.turn Fe.a hi ⟨by show 1 ≤ 2; omega, fun _ => by show (if o then 1 else 2) ≤ 6; split <;> omega, fun _ => rfl, fun _ => hkw, fun _ e => ?_, fun _ e => ?_, fun _ e => ?_, fun e => (by cases e)⟩ (g1 0 (by omega)) (fun j hj _ => g1 _ (by omega)) (by show S2.look (fstepM M Fe).L (64 + t) < _; rw [g1 _ (by omega)]; exact hkl) (fun a ha _ => by show S2.look (fstepM M Fe).L a % 2 = _; rw [g1 a ha]) (hcc _ ?_) (fun _ hl => ?_) (fun _ _ e => ?_)
      · have e' : o = false := e
        subst e'
        exact ⟨by show 2 ≠ 1; omega, by show 2 ≠ 5; omega⟩
      · exact absurd e (by show ¬ (if o then 1 else 2) = 3; split <;> omega)
      · exact absurd e (by show ¬ (if o then 1 else 2) = 6; split <;> omega)
      · rintro (⟨_, e⟩ | ⟨e, _⟩)
        · exact absurd e (by show ¬ ((if o then 1 else 2) = 4 ∨ (if o then 1 else 2) = 5 ∨ (if o then 1 else 2) = 0 ∨ ((if o then 1 else 2) = 6 ∧ _)); split <;> omega)
        · cases e
      · exact absurd hl (by show ¬ ((if o then 1 else 2) = 5 ∨ (if o then 1 else 2) = 0); split <;> omega)
      · exact absurd e (by show ¬ (if o then 1 else 2) = 0; split <;> omega)
    · have e : enE M ⟨o, 6, t, kw, tw, K, Fe⟩ = ⟨o, 6, t, kw, tw, K, fstepK M Fe⟩ := by show (⟨o, if (fstepK M Fe).ln = 0 then (if o then 1 else 2) else 6, t, kw, tw, K, fstepK M Fe⟩ : En) = _; rw [if_neg hz]
      rw [e]
      refine h.turn Fe.a hi ⟨by show 1 ≤ 2; omega, fun _ => by show 6 ≤ 6; omega, fun _ => rfl, fun _ => hkw, fun _ e => ⟨by show 6 ≠ 1; omega, by show 6 ≠ 5; omega⟩, fun _ e => (by cases e), fun _ _ => ⟨g4.trans hfa, hz, g2⟩, fun e => (by cases e)⟩ (g1 0 (by omega)) (fun j hj _ => g1 _ (by omega)) (by show S2.look (fstepM M Fe).L (64 + t) < _; rw [g1 _ (by omega)]; exact hkl) (fun a ha _ => by show S2.look (fstepM M Fe).L a % 2 = _; rw [g1 a ha]) (hcc _ ?_) (fun _ hl => ?_) (fun _ _ e => (by cases e))
      · rintro (⟨_, e | e | e | ⟨_, e⟩⟩ | ⟨e, _⟩)
        · cases e
        · cases e
        · cases e
        · exact g3 e
        · cases e
      · exact absurd hl (by show ¬ (6 = 5 ∨ 6 = 0); omega)
/-- A Free that goes on. -/
theorem Inv.free {M : Sd} {R : Nat → Rn} (h : Inv M R) {i : Nat} {E : En} {F : Fr} (hi : i < 4) (hr : R i = ⟨2, E, F⟩) (hl : ∀ a, S2.look M.L a < 18446744073709551616) : Inv (fstepM M F) (updR R i ⟨if (fstepK M F).ln = 0 then 0 else 2, E, fstepK M F⟩) := by
  have ok := h.ok i hi
  have hod := h.od i hi
  have hkl := h.kl i hi
  rw [hr] at ok hod
  obtain ⟨hfa, hf0, hfok⟩ := ok.f rfl
  have hfa' : 260 ≤ F.a ∧ F.a < 768 := hfa
  have h1 : F.ln = 1 → S2.look M.L F.a % 2 = 1 := fun e => hod (.inr ⟨rfl, e⟩)
  obtain ⟨g1, g2, g3, g4, g5⟩ := free_step (M := M) hfok hf0 (by omega) h1 (hl _)
  have hno : ¬ (Rn.mk (if (fstepK M F).ln = 0 then 0 else 2) E (fstepK M F)).holds := by
    rintro (⟨e, _⟩ | ⟨_, e⟩)
    · exact absurd e (by show ¬ (if (fstepK M F).ln = 0 then 0 else 2) = 1; split <;> omega)
    · exact g3 e
  have h21 : ∀ {P : Prop}, (if (fstepK M F).ln = 0 then 0 else 2) = 1 → P := fun e => absurd e (by split <;> omega)
  refine h.turn F.a hi ⟨by show (if (fstepK M F).ln = 0 then 0 else 2) ≤ 2; split <;> omega, fun e => h21 e, fun e => h21 e, fun e => h21 e, fun e => h21 e, fun e => h21 e, fun e => h21 e, fun e => ?_⟩ (g1 0 (by omega)) (fun j hj _ => g1 _ (by omega)) (by rw [g1 _ (by omega)]; exact hkl) (fun a ha _ => by rw [g1 a ha]) ?_ (fun e => h21 e) (fun e => h21 e)
  · have hz : (fstepK M F).ln ≠ 0 := fun hz => by
      have e' : (if (fstepK M F).ln = 0 then 0 else 2) = 2 := e
      rw [if_pos hz] at e'
      cases e'
    exact ⟨by show 260 ≤ (fstepK M F).a ∧ (fstepK M F).a < 768; rw [g4]; exact hfa', hz, g2⟩
  · by_cases e : F.ln = 1
    · refine .inr (.inr ⟨?_, ?_, hno⟩)
      · rw [hr]; exact .inr ⟨rfl, e⟩
      · rw [hr]; rfl
    · exact .inl ⟨g5 e, fun hh => absurd hh hno⟩
/-- One that begins. -/
theorem Inv.begin {M : Sd} {R : Nat → Rn} (h : Inv M R) {i : Nat} {E : En} {F : Fr} (hi : i < 4) (ht : E.t = i) (hk : E.kw < 65536) (hl : (E.ow = false ∧ E.ln = 2) ∨ (E.ow = true ∧ E.ln = 1)) : Inv M (updR R i ⟨1, E, F⟩) := by
  have h2 : E.ln = 1 ∨ E.ln = 2 := by rcases hl with ⟨_, e⟩ | ⟨_, e⟩ <;> omega
  refine h.turn 0 hi ⟨by show 1 ≤ 2; omega, fun _ => by show E.ln ≤ 6; omega, fun _ => ht, fun _ => hk, fun _ e => ?_, fun _ e => ?_, fun _ e => ?_, fun e => (by cases e)⟩ rfl (fun j hj _ => rfl) (h.kl i hi) (fun a _ _ => rfl) (.inl ⟨rfl, fun hh => ?_⟩) (fun _ e => ?_) (fun _ _ e => ?_)
  · have e' : E.ow = false := e
    rcases hl with ⟨_, g⟩ | ⟨g, _⟩
    · exact ⟨by show E.ln ≠ 1; omega, by show E.ln ≠ 5; omega⟩
    · rw [e'] at g; cases g
  · have e' : E.ln = 3 := e; omega
  · have e' : E.ln = 6 := e; omega
  · rcases hh with ⟨_, e⟩ | ⟨e, _⟩
    · have e' : E.ln = 4 ∨ E.ln = 5 ∨ E.ln = 0 ∨ (E.ln = 6 ∧ E.F.ln = 1) := e; omega
    · cases e
  · have e' : E.ln = 5 ∨ E.ln = 0 := e; omega
  · have e' : E.ln = 0 := e; omega
/-- One that is through, and leaves: its key may be stored anew with it. -/
theorem Inv.leave {M M' : Sd} {R : Nat → Rn} (h : Inv M R) {i : Nat} {E : En} {F : Fr} (hi : i < 4) (hr : R i = ⟨1, E, F⟩) (h0 : E.ln = 0) (hs : ∀ a, a ≠ 64 + i → S2.look M'.L a = S2.look M.L a) (hv : S2.look M'.L (64 + i) < 65536) : Inv M' (updR R i ⟨2, E, fr0 E.a⟩) := by
  have hain := E.a_in
  have hadr : (Rn.mk 1 E F).adr = E.a := by unfold Rn.adr; exact if_neg (show ¬ (1 : Nat) = 2 by omega)
  generalize E.a = x at *
  have hadr2 : (Rn.mk 2 E (fr0 x)).adr = x := by unfold Rn.adr; exact if_pos rfl
  refine h.turn 0 hi ⟨by show 2 ≤ 2; omega, fun e => (by cases e), fun e => (by cases e), fun e => (by cases e), fun e => (by cases e), fun e => (by cases e), fun e => (by cases e), fun _ => ⟨hain, by show 1 ≠ 0; omega, by show 1 ≤ 7; omega, fun e => (by cases e)⟩⟩ (hs 0 (by omega)) (fun j hj hji => hs _ (by omega)) hv (fun a _ ha => by rw [hs a (by omega)]) (.inl ⟨by rw [hs 0 (by omega)], fun _ => ?_⟩) (fun e => (by cases e)) (fun e => (by cases e))
  rw [hr]
  exact ⟨.inl ⟨rfl, .inr (.inr (.inl h0))⟩, hadr2.trans hadr.symm⟩
/-- The table is replaced, where no lock of it is had. -/
theorem Inv.table {M M' : Sd} {R : Nat → Rn} (h : Inv M R) (hz : ∀ key, S2.look M.L (lokN key (S2.look M.L 0)) = 0) (hs : ∀ a, a ≠ 0 → S2.look M'.L a = S2.look M.L a) : Inv M' R := by
  refine ⟨h.ok, fun i hi hh => ?_, h.ne, fun i hi hk hl => ?_, fun i hi hk ho hl => ?_, fun i hi => ?_⟩
  · have ha : (R i).adr ≠ 0 := by
      unfold Rn.adr
      rcases hh with ⟨hk, _⟩ | ⟨hk, _⟩
      · rw [if_neg (by omega)]; have := (R i).E.a_in; omega
      · rw [if_pos hk]; have := ((h.ok i hi).f hk).1; omega
    rw [hs _ ha]; exact h.od i hi hh
  · exfalso
    have ho := h.od i hi (.inl ⟨hk, by rcases hl with e | e; exact .inr (.inl e); exact .inr (.inr (.inl e))⟩)
    have ht := h.tb i hi hk hl
    have hadr : (R i).adr = lokN ((R i).E.kw % 4294967296) (S2.look M.L 0) := by
      unfold Rn.adr
      rw [if_neg (by omega), ht]; rfl
    rw [hadr, hz] at ho
    omega
  · rw [hs _ (by omega)]; exact h.ky i hi hk ho hl
  · rw [hs _ (by omega)]; exact h.kl i hi
end Go.Proofs.YthafnphpcdbnlaaGreat.S15
