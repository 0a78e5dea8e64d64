/- An Enter, or an Own, beside a world: a step. -/
import Derived.Test.YthafnphpcdbnlaaGreatS15G1
import Derived.Test.YthafnphpcdbnlaaGreatS15G2
import Derived.Test.YthafnphpcdbnlaaGreatS15G3
import Derived.Test.YthafnphpcdbnlaaGreatS15G4
import Derived.Test.YthafnphpcdbnlaaGreatS15H
set_option linter.unusedVariables false
set_option linter.unusedSimpArgs false
namespace Go.Proofs.YthafnphpcdbnlaaGreat.S15
open Go.Proofs.YthafnphpcdbnlaaGreat Go.Proofs.YthafnphpcdbnlaaGreat.S11 Go.Proofs.YthafnphpcdbnlaaGreat.S12 Go.Proofs.YthafnphpcdbnlaaGreat.S13 Go.Proofs.YthafnphpcdbnlaaGreat.S14
open Go.RowKit

/-- An Enter, or an Own, beside a world: at j its way, at u what is under way. -/
structure Ew (w0 w : World) (base WB : Nat) (M : Sd) (r : List Part) (j u : Nat) (E : En) (Z : Wb) (X : Wm) : Prop where
  wy : Wy w0 w base WB M r j E.ow E.t E.kw E.tw Z X
  ju : j ≠ u
  hu : u < r.length
  i : Z.i = (E.at : Int)
  st : Z.st = decide (E.ln = 6)
  k : E.ln = 3 → ∃ U, r[u]? = some (lockP U E.K) ∧ Z.uv = lockU U
  f : E.ln = 6 → ∃ U, r[u]? = some (freeP U E.F) ∧ Z.uv = freeU U
  pl : 3 ≤ E.ln ∨ E.ln = 0 → Z.pb = (bitsN E.tw : Int) ∧ Z.pi = (bktN (E.kw % 4294967296) E.tw : Int)
/-- What a step leaves. -/
def EStep (w0 w' : World) (base WB : Nat) (M : Sd) (r : List Part) (j u : Nat) (E : En) (Z : Wb) : Prop :=
  ∃ (q : Part) (Z' : Wb) (X' : Wm), Z'.B = Z.B ∧ Z'.PB = Z.PB ∧ Z'.KB = Z.KB ∧ Z'.TB = Z.TB ∧ Ew w0 w' base WB (enM M E) (r.set u q) j u (enE M E) Z' X'
section
variable {w0 w' : World} {base WB : Nat} {M : Sd} {r : List Part} {j u : Nat} {E E1 : En} {Z Z' : Wb} {X' : Wm} {q : Part}
theorem EStep.mk' (e : enE M E = E1) (h' : Ew w0 w' base WB (enM M E) (r.set u q) j u E1 Z' X') (s : Z'.B = Z.B ∧ Z'.PB = Z.PB ∧ Z'.KB = Z.KB ∧ Z'.TB = Z.TB) : EStep w0 w' base WB M r j u E Z := by
  subst e
  exact ⟨q, Z', X', s.1, s.2.1, s.2.2.1, s.2.2.2, h'⟩
theorem EStep.mk0 (e : enE M E = E1) (h' : Ew w0 w' base WB (enM M E) r j u E1 Z' X') (s : Z'.B = Z.B ∧ Z'.PB = Z.PB ∧ Z'.KB = Z.KB ∧ Z'.TB = Z.TB) : EStep w0 w' base WB M r j u E Z := by
  subst e
  refine ⟨r[u]'h'.hu, Z', X', s.1, s.2.1, s.2.2.1, s.2.2.2, ?_⟩
  rw [set_eq (List.getElem?_eq_getElem h'.hu)]
  exact h'
end
/-- What holds of a lock from step to step. -/
theorem stepK_ok {M : Sd} {K : Lk} (hs : K.st < 18446744073709551616) (hp : 0 ≤ K.sp ∧ K.sp ≤ 16) (ms : 0 ≤ M.sp ∧ M.sp ≤ 16) (hl : S2.look M.L K.a < 18446744073709551616) :
    (stepK M K).t = K.t ∧ (stepK M K).a = K.a ∧ (stepK M K).st < 18446744073709551616 ∧ 0 ≤ (stepK M K).sp ∧ (stepK M K).sp ≤ 16 := by
  have turn : ∀ (K' : Lk) (x : Nat), K'.t = K.t → K'.a = K.a → x < 18446744073709551616 → 0 ≤ K'.sp → K'.sp ≤ 16 → (K'.turn x).t = K.t ∧ (K'.turn x).a = K.a ∧ (K'.turn x).st < 18446744073709551616 ∧ 0 ≤ (K'.turn x).sp ∧ (K'.turn x).sp ≤ 16 := fun K' x e1 e2 hx h1 h2 => by
    unfold Lk.turn
    split
    · exact ⟨e1, e2, hx, h1, h2⟩
    · split
      · split
        · refine ⟨e1, e2, hx, ?_, ?_⟩
          · show 0 ≤ K'.sp - 1; omega
          · show K'.sp - 1 ≤ 16; omega
        · exact ⟨e1, e2, hx, h1, h2⟩
      · exact ⟨e1, e2, hx, h1, h2⟩
  unfold stepK
  split
  · unfold Lk.cas
    split
    · exact ⟨rfl, rfl, hs, ms.1, ms.2⟩
    · exact turn _ _ rfl rfl hl ms.1 ms.2
  · unfold Lk.cas
    split
    · exact ⟨rfl, rfl, hs, hp.1, hp.2⟩
    · exact turn _ _ rfl rfl hl hp.1 hp.2
  · exact turn _ _ rfl rfl hl hp.1 hp.2
  · exact ⟨rfl, rfl, hs, hp.1, hp.2⟩
  · unfold Lk.cas
    split
    · exact ⟨rfl, rfl, hs, hp.1, hp.2⟩
    · exact turn _ _ rfl rfl hl hp.1 hp.2
  · split
    · exact ⟨rfl, rfl, hs, ms.1, ms.2⟩
    · exact ⟨rfl, rfl, hs, hp.1, hp.2⟩
  · exact ⟨rfl, rfl, hs, hp.1, hp.2⟩
theorem EnOk.step {M : Sd} {E : En} (h : EnOk E) (ms : 0 ≤ M.sp ∧ M.sp ≤ 16) (hl : ∀ a, S2.look M.L a < 18446744073709551616) (hk : ∀ i, M.lk i ≤ 64) : EnOk (enE M E) := by
  obtain ⟨o, ln, t, kw, tw, K, F⟩ := E
  have hln := h.ln
  have hen := h.en
  rcases (show ln = 0 ∨ ln = 1 ∨ ln = 2 ∨ ln = 3 ∨ ln = 4 ∨ ln = 5 ∨ ln = 6 from by have : ln ≤ 6 := hln; omega) with rfl | rfl | rfl | rfl | rfl | rfl | rfl
  · exact h
  · exact ⟨by show 2 ≤ 6; omega, fun _ => ⟨by show 2 ≠ 1; omega, by show 2 ≠ 5; omega⟩, h.t, (by have := hl (64 + t); show S2.look M.L (64 + t) % 4294967296 < _; omega), h.tw, h.k6, h.kt, h.ka, h.ks, h.kp, h.f⟩
  · refine ⟨by show 3 ≤ 6; omega, fun _ => ⟨by show 3 ≠ 1; omega, by show 3 ≠ 5; omega⟩, h.t, h.kw, hl _, by show 1 ≤ 6; omega, h.t, ?_, by show 0 < _; omega, ⟨by show (0 : Int) ≤ 0; omega, by show (0 : Int) ≤ 16; omega⟩, h.f⟩
    have := lok_in (kw % 4294967296) (S2.look M.L 0)
    show lokN (kw % 4294967296) (S2.look M.L 0) < _
    omega
  · obtain ⟨k1, k2, k3, k4, k5⟩ := stepK_ok (M := M) (K := K) h.ks h.kp ms (hl _)
    have e : enE M ⟨o, 3, t, kw, tw, K, F⟩ = ⟨o, if (stepK M K).ln = 0 then 4 else 3, t, kw, tw, stepK M K, F⟩ := rfl
    rw [e]
    refine ⟨?_, fun _ => ⟨?_, ?_⟩, h.t, h.kw, h.tw, step_le h.k6, by show (stepK M K).t < 64; rw [k1]; exact h.kt, by show (stepK M K).a < _; rw [k2]; exact h.ka, k3, ⟨k4, k5⟩, h.f⟩
    · show (if (stepK M K).ln = 0 then 4 else 3) ≤ 6; split <;> omega
    · show (if (stepK M K).ln = 0 then 4 else 3) ≠ 1; split <;> omega
    · show (if (stepK M K).ln = 0 then 4 else 3) ≠ 5; split <;> omega
  · by_cases hx : S2.look M.L 0 = tw
    · have e : enE M ⟨o, 4, t, kw, tw, K, F⟩ = ⟨o, if o then 5 else 0, t, kw, tw, K, F⟩ := if_pos hx
      rw [e]
      cases o
      · exact ⟨by show 0 ≤ 6; omega, fun _ => ⟨by show 0 ≠ 1; omega, by show 0 ≠ 5; omega⟩, h.t, h.kw, h.tw, h.k6, h.kt, h.ka, h.ks, h.kp, h.f⟩
      · exact ⟨by show 5 ≤ 6; omega, (fun e => by cases e), h.t, h.kw, h.tw, h.k6, h.kt, h.ka, h.ks, h.kp, h.f⟩
    · have e : enE M ⟨o, 4, t, kw, tw, K, F⟩ = ⟨o, 6, t, kw, tw, K, fr0 (lokN (kw % 4294967296) tw)⟩ := if_neg hx
      rw [e]
      have := lok_in (kw % 4294967296) tw
      exact ⟨by show 6 ≤ 6; omega, fun _ => ⟨by show 6 ≠ 1; omega, by show 6 ≠ 5; omega⟩, h.t, h.kw, h.tw, h.k6, h.kt, h.ka, h.ks, h.kp, fok_new (by omega)⟩
  · cases o
    · exact absurd rfl (hen rfl).2
    by_cases hx : S2.look M.L (64 + t) % 4294967296 = kw
    · have e : enE M ⟨true, 5, t, kw, tw, K, F⟩ = ⟨true, 0, t, kw, tw, K, F⟩ := if_pos hx
      rw [e]
      exact ⟨by show 0 ≤ 6; omega, (fun e => by cases e), h.t, h.kw, h.tw, h.k6, h.kt, h.ka, h.ks, h.kp, h.f⟩
    · have e : enE M ⟨true, 5, t, kw, tw, K, F⟩ = ⟨true, 6, t, kw, tw, K, fr0 (lokN (kw % 4294967296) tw)⟩ := if_neg hx
      rw [e]
      have := lok_in (kw % 4294967296) tw
      exact ⟨by show 6 ≤ 6; omega, (fun e => by cases e), h.t, h.kw, h.tw, h.k6, h.kt, h.ka, h.ks, h.kp, fok_new (by omega)⟩
  · have e : enE M ⟨o, 6, t, kw, tw, K, F⟩ = ⟨o, if (fstepK M F).ln = 0 then (if o then 1 else 2) else 6, t, kw, tw, K, fstepK M F⟩ := rfl
    rw [e]
    refine ⟨?_, fun ho => ?_, h.t, h.kw, h.tw, h.k6, h.kt, h.ka, h.ks, h.kp, h.f.step hl hk⟩
    · show (if (fstepK M F).ln = 0 then (if o then 1 else 2) else 6) ≤ 6
      split
      · split <;> omega
      · omega
    · have ho' : o = false := ho
      subst ho'
      refine ⟨?_, ?_⟩
      · show (if (fstepK M F).ln = 0 then 2 else 6) ≠ 1; split <;> omega
      · show (if (fstepK M F).ln = 0 then 2 else 6) ≠ 5; split <;> omega
theorem EnOk.lok {M : Sd} {E : En} (h : EnOk E) (ms : 0 ≤ M.sp ∧ M.sp ≤ 16) (hn : M.n ≤ 1000000000) (hp : M.pn ≤ 1000000000) : LkOk M E.K := ⟨h.kt, h.ka, h.ks, h.kp, ms, hn, hp⟩
section
variable {w0 w w' : World} {base WB : Nat} {M : Sd} {r : List Part} {j u U : Nat} {E : En} {Z : Wb} {X : Wm}
theorem Ew.look (h : Ew w0 w base WB M r j u E Z X) (a : Nat) : S2.look M.L a < 18446744073709551616 := h.wy.look a
theorem Ew.new (h : Ew w0 w base WB M r j u E Z X) (b : Below w.heap.size w w') : Ew w0 w' base WB M r j u E Z X := ⟨h.wy.new b, h.ju, h.hu, h.i, h.st, h.k, h.f, h.pl⟩
theorem same_at (hu : u < r.length) : ∃ q, r.set u q = r := ⟨r[u], set_eq (List.getElem?_eq_getElem hu)⟩
theorem lok_z (h : Ew w0 w base WB M r j u E Z X) (hl : 3 ≤ E.ln ∨ E.ln = 0) : S10.lockZ Z.pb Z.pi = (E.a : Int) := by
  obtain ⟨e1, e2⟩ := h.pl hl
  rw [e1, e2]
  exact lok_lock _ _
/-- A step of one that is not over. -/
theorem way_step (h : Ew w0 w base WB M r j u E Z X) (ok : EnOk E) (ms : 0 ≤ M.sp ∧ M.sp ≤ 16) (hn : M.n ≤ 1000000000) (hp : M.pn ≤ 1000000000) (h0 : E.ln ≠ 0) :
    Calls Tryz.prog 47 #[Pw Z.B, Pw WB] w fun e w' => e = .returned (.tuple #[]) ∧ EStep w0 w' base WB M r j u E Z := by
  obtain ⟨o, ln, t, kw, tw, K, F⟩ := E
  have hju := h.ju; have hu := h.hu; have hi := h.i; have hs := h.st; have wy := h.wy
  have ht : t < 64 := ok.t; have hkw : kw < 18446744073709551616 := ok.kw; have htw : tw < 18446744073709551616 := ok.tw
  have hk := h.k; have hf := h.f
  have hln : ln ≤ 6 := ok.ln
  have h0' : ln ≠ 0 := h0
  obtain ⟨q0, hq0⟩ := same_at hu
  cases o
  · have hen := ok.en rfl
    rcases (show ln = 2 ∨ ln = 3 ∨ ln = 4 ∨ ln = 6 from by have a1 : ln ≠ 1 := hen.1; have a2 : ln ≠ 5 := hen.2; omega) with rfl | rfl | rfl | rfl
    · refine (wstep_e2 wy hi hs hju hu ht hkw hn rfl).mono ?_
      rintro e w' ⟨rfl, UB, X', h'⟩
      exact ⟨rfl, EStep.mk' rfl ⟨h', hju, by rw [List.length_set]; exact hu, rfl, hs, fun _ => ⟨UB, List.getElem?_set_self hu, rfl⟩, fun e => absurd e (by show ¬ 3 = 6; omega), fun _ => ⟨rfl, rfl⟩⟩ ⟨rfl, rfl, rfl, rfl⟩⟩
    · obtain ⟨U, hq, huv⟩ := hk rfl
      by_cases hov : (stepK M K).ln = 0
      · refine (wstep_e3y wy hi hs hju hq huv (ok.lok ms hn hp) ok.k6 hov).mono ?_
        rintro e w' ⟨rfl, X', h'⟩
        have e1 : enE M ⟨false, 3, t, kw, tw, K, F⟩ = ⟨false, 4, t, kw, tw, stepK M K, F⟩ := by show (⟨false, if (stepK M K).ln = 0 then 4 else 3, t, kw, tw, stepK M K, F⟩ : En) = _; rw [if_pos hov]
        exact ⟨rfl, EStep.mk' e1 ⟨h', hju, by rw [List.length_set]; exact hu, rfl, hs, fun e => absurd e (by show ¬ 4 = 3; omega), fun e => absurd e (by show ¬ 4 = 6; omega), fun _ => h.pl (.inl (by show 3 ≤ 3; omega))⟩ ⟨rfl, rfl, rfl, rfl⟩⟩
      · refine (wstep_e3n wy hi hs hju hq huv (ok.lok ms hn hp) ok.k6 hov).mono ?_
        rintro e w' ⟨rfl, X', h'⟩
        have e1 : enE M ⟨false, 3, t, kw, tw, K, F⟩ = ⟨false, 3, t, kw, tw, stepK M K, F⟩ := by show (⟨false, if (stepK M K).ln = 0 then 4 else 3, t, kw, tw, stepK M K, F⟩ : En) = _; rw [if_neg hov]
        exact ⟨rfl, EStep.mk' e1 ⟨h', hju, by rw [List.length_set]; exact hu, hi, hs, fun _ => ⟨U, List.getElem?_set_self hu, huv⟩, fun e => absurd e (by show ¬ 3 = 6; omega), fun _ => h.pl (.inl (by show 3 ≤ 3; omega))⟩ ⟨rfl, rfl, rfl, rfl⟩⟩
    · by_cases hx : S2.look M.L 0 = tw
      · refine (wstep_e4y wy hi hs hn rfl hx).mono ?_
        rintro e w' ⟨rfl, X', h'⟩
        have e1 : enE M ⟨false, 4, t, kw, tw, K, F⟩ = ⟨false, 0, t, kw, tw, K, F⟩ := if_pos hx
        exact ⟨rfl, EStep.mk0 e1 ⟨h', hju, hu, rfl, rfl, fun e => absurd e (by show ¬ 0 = 3; omega), fun e => absurd e (by show ¬ 0 = 6; omega), fun _ => h.pl (.inl (by show 3 ≤ 4; omega))⟩ ⟨rfl, rfl, rfl, rfl⟩⟩
      · refine (wstep_e4n wy hi hs hju hu hn rfl hx (lok_z h (.inl (by show 3 ≤ 4; omega)))).mono ?_
        rintro e w' ⟨rfl, UB, X', h'⟩
        have e1 : enE M ⟨false, 4, t, kw, tw, K, F⟩ = ⟨false, 6, t, kw, tw, K, fr0 (lokN (kw % 4294967296) tw)⟩ := if_neg hx
        exact ⟨rfl, EStep.mk' e1 ⟨h', hju, by rw [List.length_set]; exact hu, rfl, rfl, fun e => absurd e (by show ¬ 6 = 3; omega), fun _ => ⟨UB, List.getElem?_set_self hu, rfl⟩, fun _ => h.pl (.inl (by show 3 ≤ 4; omega))⟩ ⟨rfl, rfl, rfl, rfl⟩⟩
    · obtain ⟨U, hq, huv⟩ := hf rfl
      by_cases hov : (fstepK M F).ln = 0
      · refine (wstep_e6y wy hi hs hju hq huv (ok.f.ok hn hp) ok.f.ln hov).mono ?_
        rintro e w' ⟨rfl, X', h'⟩
        have e1 : enE M ⟨false, 6, t, kw, tw, K, F⟩ = ⟨false, 2, t, kw, tw, K, fstepK M F⟩ := by show (⟨false, if (fstepK M F).ln = 0 then 2 else 6, t, kw, tw, K, fstepK M F⟩ : En) = _; rw [if_pos hov]
        exact ⟨rfl, EStep.mk' e1 ⟨h', hju, by rw [List.length_set]; exact hu, rfl, rfl, fun e => absurd e (by show ¬ 2 = 3; omega), fun e => absurd e (by show ¬ 2 = 6; omega), fun e => absurd e (by show ¬ (3 ≤ 2 ∨ 2 = 0); omega)⟩ ⟨rfl, rfl, rfl, rfl⟩⟩
      · refine (wstep_e6n wy hi hs hju hq huv (ok.f.ok hn hp) ok.f.ln hov).mono ?_
        rintro e w' ⟨rfl, X', h'⟩
        have e1 : enE M ⟨false, 6, t, kw, tw, K, F⟩ = ⟨false, 6, t, kw, tw, K, fstepK M F⟩ := by show (⟨false, if (fstepK M F).ln = 0 then 2 else 6, t, kw, tw, K, fstepK M F⟩ : En) = _; rw [if_neg hov]
        exact ⟨rfl, EStep.mk' e1 ⟨h', hju, by rw [List.length_set]; exact hu, hi, hs, fun e => absurd e (by show ¬ 6 = 3; omega), fun _ => ⟨U, List.getElem?_set_self hu, huv⟩, fun _ => h.pl (.inl (by show 3 ≤ 6; omega))⟩ ⟨rfl, rfl, rfl, rfl⟩⟩
  · rcases (show ln = 1 ∨ ln = 2 ∨ ln = 3 ∨ ln = 4 ∨ ln = 5 ∨ ln = 6 from by omega) with rfl | rfl | rfl | rfl | rfl | rfl
    · refine (wstep_o1 wy hi hs ht hn rfl).mono ?_
      rintro e w' ⟨rfl, X', h'⟩
      exact ⟨rfl, EStep.mk0 rfl ⟨h', hju, hu, rfl, hs, fun e => absurd e (by show ¬ 2 = 3; omega), fun e => absurd e (by show ¬ 2 = 6; omega), fun e => absurd e (by show ¬ (3 ≤ 2 ∨ 2 = 0); omega)⟩ ⟨rfl, rfl, rfl, rfl⟩⟩
    · refine (wstep_o2 wy hi hs hju hu ht hkw hn rfl).mono ?_
      rintro e w' ⟨rfl, UB, X', h'⟩
      exact ⟨rfl, EStep.mk' rfl ⟨h', hju, by rw [List.length_set]; exact hu, rfl, hs, fun _ => ⟨UB, List.getElem?_set_self hu, rfl⟩, fun e => absurd e (by show ¬ 3 = 6; omega), fun _ => ⟨rfl, rfl⟩⟩ ⟨rfl, rfl, rfl, rfl⟩⟩
    · obtain ⟨U, hq, huv⟩ := hk rfl
      by_cases hov : (stepK M K).ln = 0
      · refine (wstep_o3y wy hi hs hju hq huv (ok.lok ms hn hp) ok.k6 hov).mono ?_
        rintro e w' ⟨rfl, X', h'⟩
        have e1 : enE M ⟨true, 3, t, kw, tw, K, F⟩ = ⟨true, 4, t, kw, tw, stepK M K, F⟩ := by show (⟨true, if (stepK M K).ln = 0 then 4 else 3, t, kw, tw, stepK M K, F⟩ : En) = _; rw [if_pos hov]
        exact ⟨rfl, EStep.mk' e1 ⟨h', hju, by rw [List.length_set]; exact hu, rfl, hs, fun e => absurd e (by show ¬ 4 = 3; omega), fun e => absurd e (by show ¬ 4 = 6; omega), fun _ => h.pl (.inl (by show 3 ≤ 3; omega))⟩ ⟨rfl, rfl, rfl, rfl⟩⟩
      · refine (wstep_o3n wy hi hs hju hq huv (ok.lok ms hn hp) ok.k6 hov).mono ?_
        rintro e w' ⟨rfl, X', h'⟩
        have e1 : enE M ⟨true, 3, t, kw, tw, K, F⟩ = ⟨true, 3, t, kw, tw, stepK M K, F⟩ := by show (⟨true, if (stepK M K).ln = 0 then 4 else 3, t, kw, tw, stepK M K, F⟩ : En) = _; rw [if_neg hov]
        exact ⟨rfl, EStep.mk' e1 ⟨h', hju, by rw [List.length_set]; exact hu, hi, hs, fun _ => ⟨U, List.getElem?_set_self hu, huv⟩, fun e => absurd e (by show ¬ 3 = 6; omega), fun _ => h.pl (.inl (by show 3 ≤ 3; omega))⟩ ⟨rfl, rfl, rfl, rfl⟩⟩
    · by_cases hx : S2.look M.L 0 = tw
      · refine (wstep_o4y wy hi hs hn rfl hx).mono ?_
        rintro e w' ⟨rfl, X', h'⟩
        have e1 : enE M ⟨true, 4, t, kw, tw, K, F⟩ = ⟨true, 5, t, kw, tw, K, F⟩ := if_pos hx
        exact ⟨rfl, EStep.mk0 e1 ⟨h', hju, hu, rfl, rfl, fun e => absurd e (by show ¬ 5 = 3; omega), fun e => absurd e (by show ¬ 5 = 6; omega), fun _ => h.pl (.inl (by show 3 ≤ 4; omega))⟩ ⟨rfl, rfl, rfl, rfl⟩⟩
      · refine (wstep_o4n wy hi hs hju hu hn rfl hx (lok_z h (.inl (by show 3 ≤ 4; omega)))).mono ?_
        rintro e w' ⟨rfl, UB, X', h'⟩
        have e1 : enE M ⟨true, 4, t, kw, tw, K, F⟩ = ⟨true, 6, t, kw, tw, K, fr0 (lokN (kw % 4294967296) tw)⟩ := if_neg hx
        exact ⟨rfl, EStep.mk' e1 ⟨h', hju, by rw [List.length_set]; exact hu, rfl, rfl, fun e => absurd e (by show ¬ 6 = 3; omega), fun _ => ⟨UB, List.getElem?_set_self hu, rfl⟩, fun _ => h.pl (.inl (by show 3 ≤ 4; omega))⟩ ⟨rfl, rfl, rfl, rfl⟩⟩
    · by_cases hx : S2.look M.L (64 + t) % 4294967296 = kw
      · refine (wstep_o5y wy hi hs ht hn rfl hx).mono ?_
        rintro e w' ⟨rfl, X', h'⟩
        have e1 : enE M ⟨true, 5, t, kw, tw, K, F⟩ = ⟨true, 0, t, kw, tw, K, F⟩ := if_pos hx
        exact ⟨rfl, EStep.mk0 e1 ⟨h', hju, hu, rfl, rfl, fun e => absurd e (by show ¬ 0 = 3; omega), fun e => absurd e (by show ¬ 0 = 6; omega), fun _ => h.pl (.inl (by show 3 ≤ 5; omega))⟩ ⟨rfl, rfl, rfl, rfl⟩⟩
      · refine (wstep_o5n wy hi hs hju hu ht hn rfl hx (lok_z h (.inl (by show 3 ≤ 5; omega)))).mono ?_
        rintro e w' ⟨rfl, UB, X', h'⟩
        have e1 : enE M ⟨true, 5, t, kw, tw, K, F⟩ = ⟨true, 6, t, kw, tw, K, fr0 (lokN (kw % 4294967296) tw)⟩ := if_neg hx
        exact ⟨rfl, EStep.mk' e1 ⟨h', hju, by rw [List.length_set]; exact hu, rfl, rfl, fun e => absurd e (by show ¬ 6 = 3; omega), fun _ => ⟨UB, List.getElem?_set_self hu, rfl⟩, fun _ => h.pl (.inl (by show 3 ≤ 5; omega))⟩ ⟨rfl, rfl, rfl, rfl⟩⟩
    · obtain ⟨U, hq, huv⟩ := hf rfl
      by_cases hov : (fstepK M F).ln = 0
      · refine (wstep_o6y wy hi hs hju hq huv (ok.f.ok hn hp) ok.f.ln hov).mono ?_
        rintro e w' ⟨rfl, X', h'⟩
        have e1 : enE M ⟨true, 6, t, kw, tw, K, F⟩ = ⟨true, 1, t, kw, tw, K, fstepK M F⟩ := by show (⟨true, if (fstepK M F).ln = 0 then 1 else 6, t, kw, tw, K, fstepK M F⟩ : En) = _; rw [if_pos hov]
        exact ⟨rfl, EStep.mk' e1 ⟨h', hju, by rw [List.length_set]; exact hu, rfl, rfl, fun e => absurd e (by show ¬ 1 = 3; omega), fun e => absurd e (by show ¬ 1 = 6; omega), fun e => absurd e (by show ¬ (3 ≤ 1 ∨ 1 = 0); omega)⟩ ⟨rfl, rfl, rfl, rfl⟩⟩
      · refine (wstep_o6n wy hi hs hju hq huv (ok.f.ok hn hp) ok.f.ln hov).mono ?_
        rintro e w' ⟨rfl, X', h'⟩
        have e1 : enE M ⟨true, 6, t, kw, tw, K, F⟩ = ⟨true, 6, t, kw, tw, K, fstepK M F⟩ := by show (⟨true, if (fstepK M F).ln = 0 then 1 else 6, t, kw, tw, K, fstepK M F⟩ : En) = _; rw [if_neg hov]
        exact ⟨rfl, EStep.mk' e1 ⟨h', hju, by rw [List.length_set]; exact hu, hi, hs, fun e => absurd e (by show ¬ 6 = 3; omega), fun _ => ⟨U, List.getElem?_set_self hu, huv⟩, fun _ => h.pl (.inl (by show 3 ≤ 6; omega))⟩ ⟨rfl, rfl, rfl, rfl⟩⟩
end
end Go.Proofs.YthafnphpcdbnlaaGreat.S15
