/- Texts of this seat, one behind the other. -/
import Derived.Test.YtieiiabbeglmfaaGreatDoorMLawFair2028
import Derived.Test.YtieiiabbeglmfaaGreatDoorMLawFair2029
set_option linter.unusedVariables false
set_option linter.unusedSimpArgs false
set_option linter.unusedVariables false
set_option linter.unusedSimpArgs false
set_option linter.unusedVariables false
set_option linter.unusedSimpArgs false
namespace Go.Proofs.YtieiiabbeglmfaaGreatDoor.S15
set_option maxRecDepth 100000
set_option maxHeartbeats 16000000
open Go.Proofs.YtieiiabbeglmfaaGreatDoor Go.Proofs.YtieiiabbeglmfaaGreatDoor.S11 Go.Proofs.YtieiiabbeglmfaaGreatDoor.S12 Go.Proofs.YtieiiabbeglmfaaGreatDoor.S13 Go.Proofs.YtieiiabbeglmfaaGreatDoor.S14
open Go.RowKit
structure Ew (w0 w : World) (base WB : Nat) (M : Sd) (r : List Part) (j u : Nat) (E : En) (Z : Wb) (X : Wm) : Prop where
  wy : Wy w0 w base WB M r j E.ow E.t E.kw E.tw Z X
  ju : j ≠ u
  hu : u < r.length
  i : Z.i = (E.at : Int)
  st : Z.st = decide (E.ln = 6)
  k : E.ln = 3 → ∃ U, r[u]? = some (lockP U E.K) ∧ Z.uv = lockU U
  f : E.ln = 6 → ∃ U, r[u]? = some (freeP U E.F) ∧ Z.uv = freeU U
  pl : 3 ≤ E.ln ∨ E.ln = 0 → Z.pb = (bitsN E.tw : Int) ∧ Z.pi = (bktN (E.kw % 4294967296) E.tw : Int)
def EStep (w0 w' : World) (base WB : Nat) (M : Sd) (r : List Part) (j u : Nat) (E : En) (Z : Wb) : Prop :=
  ∃ (q : Part) (Z' : Wb) (X' : Wm), Z'.B = Z.B ∧ Z'.PB = Z.PB ∧ Z'.KB = Z.KB ∧ Z'.TB = Z.TB ∧ Ew w0 w' base WB (enM M E) (r.set u q) j u (enE M E) Z' X'
section
variable {w0 w' : World} {base WB : Nat} {M : Sd} {r : List Part} {j u : Nat} {E E1 : En} {Z Z' : Wb} {X' : Wm} {q : Part}
theorem EStep.mk' (e : enE M E = E1) (h' : Ew w0 w' base WB (enM M E) (r.set u q) j u E1 Z' X') (s : Z'.B = Z.B ∧ Z'.PB = Z.PB ∧ Z'.KB = Z.KB ∧ Z'.TB = Z.TB) : EStep w0 w' base WB M r j u E Z := by
  subst e
  exact ⟨q, Z', X', s.1, s.2.1, s.2.2.1, s.2.2.2, h'⟩
theorem EStep.mk0 (e : enE M E = E1) (h' : Ew w0 w' base WB (enM M E) r j u E1 Z' X') (s : Z'.B = Z.B ∧ Z'.PB = Z.PB ∧ Z'.KB = Z.KB ∧ Z'.TB = Z.TB) : EStep w0 w' base WB M r j u E Z := by
  subst e
  refine ⟨r[u]'h'.hu, Z', X', s.1, s.2.1, s.2.2.1, s.2.2.2, ?_⟩
  rw [set_eq (List.getElem?_eq_getElem h'.hu)]
  exact h'
end
theorem stepK_ok {M : Sd} {K : Lk} (hs : K.st < 18446744073709551616) (hp : 0 ≤ K.sp ∧ K.sp ≤ 16) (ms : 0 ≤ M.sp ∧ M.sp ≤ 16) (hl : S2.look M.L K.a < 18446744073709551616) :
    (stepK M K).t = K.t ∧ (stepK M K).a = K.a ∧ (stepK M K).st < 18446744073709551616 ∧ 0 ≤ (stepK M K).sp ∧ (stepK M K).sp ≤ 16 := by
  have turn : ∀ (K' : Lk) (x : Nat), K'.t = K.t → K'.a = K.a → x < 18446744073709551616 → 0 ≤ K'.sp → K'.sp ≤ 16 → (K'.turn x).t = K.t ∧ (K'.turn x).a = K.a ∧ (K'.turn x).st < 18446744073709551616 ∧ 0 ≤ (K'.turn x).sp ∧ (K'.turn x).sp ≤ 16 := fun K' x e1 e2 hx h1 h2 => by
    unfold Lk.turn
    split
    · exact ⟨e1, e2, hx, h1, h2⟩
    · split
      · split
        · refine ⟨e1, e2, hx, ?_, ?_⟩
          · show 0 ≤ K'.sp - 1; omega
          · show K'.sp - 1 ≤ 16; omega
        · exact ⟨e1, e2, hx, h1, h2⟩
      · exact ⟨e1, e2, hx, h1, h2⟩
  unfold stepK
  split
  · unfold Lk.cas
    split
    · exact ⟨rfl, rfl, hs, ms.1, ms.2⟩
    · exact turn _ _ rfl rfl hl ms.1 ms.2
  · unfold Lk.cas
    split
    · exact ⟨rfl, rfl, hs, hp.1, hp.2⟩
    · exact turn _ _ rfl rfl hl hp.1 hp.2
  · exact turn _ _ rfl rfl hl hp.1 hp.2
  · exact ⟨rfl, rfl, hs, hp.1, hp.2⟩
  · unfold Lk.cas
    split
    · exact ⟨rfl, rfl, hs, hp.1, hp.2⟩
    · exact turn _ _ rfl rfl hl hp.1 hp.2
  · split
    · exact ⟨rfl, rfl, hs, ms.1, ms.2⟩
    · exact ⟨rfl, rfl, hs, hp.1, hp.2⟩
  · exact ⟨rfl, rfl, hs, hp.1, hp.2⟩
theorem EnOk.step {M : Sd} {E : En} (h : EnOk E) (ms : 0 ≤ M.sp ∧ M.sp ≤ 16) (hl : ∀ a, S2.look M.L a < 18446744073709551616) (hk : ∀ i, M.lk i ≤ 64) : EnOk (enE M E) := by
  obtain ⟨o, ln, t, kw, tw, K, F⟩ := E
  have hln := h.ln
  have hen := h.en
  rcases (show ln = 0 ∨ ln = 1 ∨ ln = 2 ∨ ln = 3 ∨ ln = 4 ∨ ln = 5 ∨ ln = 6 from by have : ln ≤ 6 := hln; omega) with rfl | rfl | rfl | rfl | rfl | rfl | rfl
  · exact h
  · exact ⟨by show 2 ≤ 6; omega, fun _ => ⟨by show 2 ≠ 1; omega, by show 2 ≠ 5; omega⟩, h.t, (by have := hl (64 + t); show S2.look M.L (64 + t) % 4294967296 < _; omega), h.tw, h.k6, h.kt, h.ka, h.ks, h.kp, h.f⟩
  · refine ⟨by show 3 ≤ 6; omega, fun _ => ⟨by show 3 ≠ 1; omega, by show 3 ≠ 5; omega⟩, h.t, h.kw, hl _, by show 1 ≤ 6; omega, h.t, ?_, by show 0 < _; omega, ⟨by show (0 : Int) ≤ 0; omega, by show (0 : Int) ≤ 16; omega⟩, h.f⟩
    have := lok_in (kw % 4294967296) (S2.look M.L 0)
    show lokN (kw % 4294967296) (S2.look M.L 0) < _
    omega
  · obtain ⟨k1, k2, k3, k4, k5⟩ := stepK_ok (M := M) (K := K) h.ks h.kp ms (hl _)
    have e : enE M ⟨o, 3, t, kw, tw, K, F⟩ = ⟨o, if (stepK M K).ln = 0 then 4 else 3, t, kw, tw, stepK M K, F⟩ := rfl
    rw [e]
    refine ⟨?_, fun _ => ⟨?_, ?_⟩, h.t, h.kw, h.tw, step_le h.k6, by show (stepK M K).t < 64; rw [k1]; exact h.kt, by show (stepK M K).a < _; rw [k2]; exact h.ka, k3, ⟨k4, k5⟩, h.f⟩
    · show (if (stepK M K).ln = 0 then 4 else 3) ≤ 6; split <;> omega
    · show (if (stepK M K).ln = 0 then 4 else 3) ≠ 1; split <;> omega
    · show (if (stepK M K).ln = 0 then 4 else 3) ≠ 5; split <;> omega
  · by_cases hx : S2.look M.L 0 = tw
    · have e : enE M ⟨o, 4, t, kw, tw, K, F⟩ = ⟨o, if o then 5 else 0, t, kw, tw, K, F⟩ := if_pos hx
      rw [e]
      cases o
      · exact ⟨by show 0 ≤ 6; omega, fun _ => ⟨by show 0 ≠ 1; omega, by show 0 ≠ 5; omega⟩, h.t, h.kw, h.tw, h.k6, h.kt, h.ka, h.ks, h.kp, h.f⟩
      · exact ⟨by show 5 ≤ 6; omega, (fun e => by cases e), h.t, h.kw, h.tw, h.k6, h.kt, h.ka, h.ks, h.kp, h.f⟩
    · have e : enE M ⟨o, 4, t, kw, tw, K, F⟩ = ⟨o, 6, t, kw, tw, K, fr0 (lokN (kw % 4294967296) tw)⟩ := if_neg hx
      rw [e]
      have := lok_in (kw % 4294967296) tw
      exact ⟨by show 6 ≤ 6; omega, fun _ => ⟨by show 6 ≠ 1; omega, by show 6 ≠ 5; omega⟩, h.t, h.kw, h.tw, h.k6, h.kt, h.ka, h.ks, h.kp, fok_new (by omega)⟩
  · cases o
    · exact absurd rfl (hen rfl).2
    by_cases hx : S2.look M.L (64 + t) % 4294967296 = kw
    · have e : enE M ⟨true, 5, t, kw, tw, K, F⟩ = ⟨true, 0, t, kw, tw, K, F⟩ := if_pos hx
      rw [e]
      exact ⟨by show 0 ≤ 6; omega, (fun e => by cases e), h.t, h.kw, h.tw, h.k6, h.kt, h.ka, h.ks, h.kp, h.f⟩
    · have e : enE M ⟨true, 5, t, kw, tw, K, F⟩ = ⟨true, 6, t, kw, tw, K, fr0 (lokN (kw % 4294967296) tw)⟩ := if_neg hx
      rw [e]
      have := lok_in (kw % 4294967296) tw
      exact ⟨by show 6 ≤ 6; omega, (fun e => by cases e), h.t, h.kw, h.tw, h.k6, h.kt, h.ka, h.ks, h.kp, fok_new (by omega)⟩
  · have e : enE M ⟨o, 6, t, kw, tw, K, F⟩ = ⟨o, if (fstepK M F).ln = 0 then (if o then 1 else 2) else 6, t, kw, tw, K, fstepK M F⟩ := rfl
    rw [e]
    refine ⟨?_, fun ho => ?_, h.t, h.kw, h.tw, h.k6, h.kt, h.ka, h.ks, h.kp, h.f.step hl hk⟩
    · show (if (fstepK M F).ln = 0 then (if o then 1 else 2) else 6) ≤ 6
      split
      · split <;> omega
      · omega
    · have ho' : o = false := ho
      subst ho'
      refine ⟨?_, ?_⟩
      · show (if (fstepK M F).ln = 0 then 2 else 6) ≠ 1; split <;> omega
      · show (if (fstepK M F).ln = 0 then 2 else 6) ≠ 5; split <;> omega
theorem EnOk.lok {M : Sd} {E : En} (h : EnOk E) (ms : 0 ≤ M.sp ∧ M.sp ≤ 16) (hn : M.n ≤ 1000000000) (hp : M.pn ≤ 1000000000) : LkOk M E.K := ⟨h.kt, h.ka, h.ks, h.kp, ms, hn, hp⟩
section
variable {w0 w w' : World} {base WB : Nat} {M : Sd} {r : List Part} {j u U : Nat} {E : En} {Z : Wb} {X : Wm}
theorem Ew.look (h : Ew w0 w base WB M r j u E Z X) (a : Nat) : S2.look M.L a < 18446744073709551616 := h.wy.look a
theorem Ew.new (h : Ew w0 w base WB M r j u E Z X) (b : Below w.heap.size w w') : Ew w0 w' base WB M r j u E Z X := ⟨h.wy.new b, h.ju, h.hu, h.i, h.st, h.k, h.f, h.pl⟩
theorem same_at (hu : u < r.length) : ∃ q, r.set u q = r := ⟨r[u], set_eq (List.getElem?_eq_getElem hu)⟩
theorem lok_z (h : Ew w0 w base WB M r j u E Z X) (hl : 3 ≤ E.ln ∨ E.ln = 0) : S10.lockZ Z.pb Z.pi = (E.a : Int) := by
  obtain ⟨e1, e2⟩ := h.pl hl
  rw [e1, e2]
  exact lok_lock _ _
theorem way_step (h : Ew w0 w base WB M r j u E Z X) (ok : EnOk E) (ms : 0 ≤ M.sp ∧ M.sp ≤ 16) (hn : M.n ≤ 1000000000) (hp : M.pn ≤ 1000000000) (h0 : E.ln ≠ 0) :
    Calls Tryz.prog 177 #[Pw Z.B, Pw WB] w fun e w' => e = .returned (.tuple #[]) ∧ EStep w0 w' base WB M r j u E Z := by
  obtain ⟨o, ln, t, kw, tw, K, F⟩ := E
  have hju := h.ju; have hu := h.hu; have hi := h.i; have hs := h.st; have wy := h.wy
  have ht : t < 64 := ok.t; have hkw : kw < 18446744073709551616 := ok.kw; have htw : tw < 18446744073709551616 := ok.tw
  have hk := h.k; have hf := h.f
  have hln : ln ≤ 6 := ok.ln
  have h0' : ln ≠ 0 := h0
  obtain ⟨q0, hq0⟩ := same_at hu
  cases o
  · have hen := ok.en rfl
    rcases (show ln = 2 ∨ ln = 3 ∨ ln = 4 ∨ ln = 6 from by have a1 : ln ≠ 1 := hen.1; have a2 : ln ≠ 5 := hen.2; omega) with rfl | rfl | rfl | rfl
    · refine (wstep_e2 wy hi hs hju hu ht hkw hn rfl).mono ?_
      rintro e w' ⟨rfl, UB, X', h'⟩
      exact ⟨rfl, EStep.mk' rfl ⟨h', hju, by rw [List.length_set]; exact hu, rfl, hs, fun _ => ⟨UB, List.getElem?_set_self hu, rfl⟩, fun e => absurd e (by show ¬ 3 = 6; omega), fun _ => ⟨rfl, rfl⟩⟩ ⟨rfl, rfl, rfl, rfl⟩⟩
    · obtain ⟨U, hq, huv⟩ := hk rfl
      by_cases hov : (stepK M K).ln = 0
      · refine (wstep_e3y wy hi hs hju hq huv (ok.lok ms hn hp) ok.k6 hov).mono ?_
        rintro e w' ⟨rfl, X', h'⟩
        have e1 : enE M ⟨false, 3, t, kw, tw, K, F⟩ = ⟨false, 4, t, kw, tw, stepK M K, F⟩ := by show (⟨false, if (stepK M K).ln = 0 then 4 else 3, t, kw, tw, stepK M K, F⟩ : En) = _; rw [if_pos hov]
        exact ⟨rfl, EStep.mk' e1 ⟨h', hju, by rw [List.length_set]; exact hu, rfl, hs, fun e => absurd e (by show ¬ 4 = 3; omega), fun e => absurd e (by show ¬ 4 = 6; omega), fun _ => h.pl (.inl (by show 3 ≤ 3; omega))⟩ ⟨rfl, rfl, rfl, rfl⟩⟩
      · refine (wstep_e3n wy hi hs hju hq huv (ok.lok ms hn hp) ok.k6 hov).mono ?_
        rintro e w' ⟨rfl, X', h'⟩
        have e1 : enE M ⟨false, 3, t, kw, tw, K, F⟩ = ⟨false, 3, t, kw, tw, stepK M K, F⟩ := by show (⟨false, if (stepK M K).ln = 0 then 4 else 3, t, kw, tw, stepK M K, F⟩ : En) = _; rw [if_neg hov]
        exact ⟨rfl, EStep.mk' e1 ⟨h', hju, by rw [List.length_set]; exact hu, hi, hs, fun _ => ⟨U, List.getElem?_set_self hu, huv⟩, fun e => absurd e (by show ¬ 3 = 6; omega), fun _ => h.pl (.inl (by show 3 ≤ 3; omega))⟩ ⟨rfl, rfl, rfl, rfl⟩⟩
    · by_cases hx : S2.look M.L 0 = tw
      · refine (wstep_e4y wy hi hs hn rfl hx).mono ?_
        rintro e w' ⟨rfl, X', h'⟩
        have e1 : enE M ⟨false, 4, t, kw, tw, K, F⟩ = ⟨false, 0, t, kw, tw, K, F⟩ := if_pos hx
        exact ⟨rfl, EStep.mk0 e1 ⟨h', hju, hu, rfl, rfl, fun e => absurd e (by show ¬ 0 = 3; omega), fun e => absurd e (by show ¬ 0 = 6; omega), fun _ => h.pl (.inl (by show 3 ≤ 4; omega))⟩ ⟨rfl, rfl, rfl, rfl⟩⟩
      · refine (wstep_e4n wy hi hs hju hu hn rfl hx (lok_z h (.inl (by show 3 ≤ 4; omega)))).mono ?_
        rintro e w' ⟨rfl, UB, X', h'⟩
        have e1 : enE M ⟨false, 4, t, kw, tw, K, F⟩ = ⟨false, 6, t, kw, tw, K, fr0 (lokN (kw % 4294967296) tw)⟩ := if_neg hx
        exact ⟨rfl, EStep.mk' e1 ⟨h', hju, by rw [List.length_set]; exact hu, rfl, rfl, fun e => absurd e (by show ¬ 6 = 3; omega), fun _ => ⟨UB, List.getElem?_set_self hu, rfl⟩, fun _ => h.pl (.inl (by show 3 ≤ 4; omega))⟩ ⟨rfl, rfl, rfl, rfl⟩⟩
    · obtain ⟨U, hq, huv⟩ := hf rfl
      by_cases hov : (fstepK M F).ln = 0
      · refine (wstep_e6y wy hi hs hju hq huv (ok.f.ok hn hp) ok.f.ln hov).mono ?_
        rintro e w' ⟨rfl, X', h'⟩
        have e1 : enE M ⟨false, 6, t, kw, tw, K, F⟩ = ⟨false, 2, t, kw, tw, K, fstepK M F⟩ := by show (⟨false, if (fstepK M F).ln = 0 then 2 else 6, t, kw, tw, K, fstepK M F⟩ : En) = _; rw [if_pos hov]
        exact ⟨rfl, EStep.mk' e1 ⟨h', hju, by rw [List.length_set]; exact hu, rfl, rfl, fun e => absurd e (by show ¬ 2 = 3; omega), fun e => absurd e (by show ¬ 2 = 6; omega), fun e => absurd e (by show ¬ (3 ≤ 2 ∨ 2 = 0); omega)⟩ ⟨rfl, rfl, rfl, rfl⟩⟩
      · refine (wstep_e6n wy hi hs hju hq huv (ok.f.ok hn hp) ok.f.ln hov).mono ?_
        rintro e w' ⟨rfl, X', h'⟩
        have e1 : enE M ⟨false, 6, t, kw, tw, K, F⟩ = ⟨false, 6, t, kw, tw, K, fstepK M F⟩ := by show (⟨false, if (fstepK M F).ln = 0 then 2 else 6, t, kw, tw, K, fstepK M F⟩ : En) = _; rw [if_neg hov]
        exact ⟨rfl, EStep.mk' e1 ⟨h', hju, by rw [List.length_set]; exact hu, hi, hs, fun e => absurd e (by show ¬ 6 = 3; omega), fun _ => ⟨U, List.getElem?_set_self hu, huv⟩, fun _ => h.pl (.inl (by show 3 ≤ 6; omega))⟩ ⟨rfl, rfl, rfl, rfl⟩⟩
  · rcases (show ln = 1 ∨ ln = 2 ∨ ln = 3 ∨ ln = 4 ∨ ln = 5 ∨ ln = 6 from by omega) with rfl | rfl | rfl | rfl | rfl | rfl
    · refine (wstep_o1 wy hi hs ht hn rfl).mono ?_
      rintro e w' ⟨rfl, X', h'⟩
      exact ⟨rfl, EStep.mk0 rfl ⟨h', hju, hu, rfl, hs, fun e => absurd e (by show ¬ 2 = 3; omega), fun e => absurd e (by show ¬ 2 = 6; omega), fun e => absurd e (by show ¬ (3 ≤ 2 ∨ 2 = 0); omega)⟩ ⟨rfl, rfl, rfl, rfl⟩⟩
    · refine (wstep_o2 wy hi hs hju hu ht hkw hn rfl).mono ?_
      rintro e w' ⟨rfl, UB, X', h'⟩
      exact ⟨rfl, EStep.mk' rfl ⟨h', hju, by rw [List.length_set]; exact hu, rfl, hs, fun _ => ⟨UB, List.getElem?_set_self hu, rfl⟩, fun e => absurd e (by show ¬ 3 = 6; omega), fun _ => ⟨rfl, rfl⟩⟩ ⟨rfl, rfl, rfl, rfl⟩⟩
    · obtain ⟨U, hq, huv⟩ := hk rfl
      by_cases hov : (stepK M K).ln = 0
      · refine (wstep_o3y wy hi hs hju hq huv (ok.lok ms hn hp) ok.k6 hov).mono ?_
        rintro e w' ⟨rfl, X', h'⟩
        have e1 : enE M ⟨true, 3, t, kw, tw, K, F⟩ = ⟨true, 4, t, kw, tw, stepK M K, F⟩ := by show (⟨true, if (stepK M K).ln = 0 then 4 else 3, t, kw, tw, stepK M K, F⟩ : En) = _; rw [if_pos hov]
        exact ⟨rfl, EStep.mk' e1 ⟨h', hju, by rw [List.length_set]; exact hu, rfl, hs, fun e => absurd e (by show ¬ 4 = 3; omega), fun e => absurd e (by show ¬ 4 = 6; omega), fun _ => h.pl (.inl (by show 3 ≤ 3; omega))⟩ ⟨rfl, rfl, rfl, rfl⟩⟩
      · refine (wstep_o3n wy hi hs hju hq huv (ok.lok ms hn hp) ok.k6 hov).mono ?_
        rintro e w' ⟨rfl, X', h'⟩
        have e1 : enE M ⟨true, 3, t, kw, tw, K, F⟩ = ⟨true, 3, t, kw, tw, stepK M K, F⟩ := by show (⟨true, if (stepK M K).ln = 0 then 4 else 3, t, kw, tw, stepK M K, F⟩ : En) = _; rw [if_neg hov]
        exact ⟨rfl, EStep.mk' e1 ⟨h', hju, by rw [List.length_set]; exact hu, hi, hs, fun _ => ⟨U, List.getElem?_set_self hu, huv⟩, fun e => absurd e (by show ¬ 3 = 6; omega), fun _ => h.pl (.inl (by show 3 ≤ 3; omega))⟩ ⟨rfl, rfl, rfl, rfl⟩⟩
    · by_cases hx : S2.look M.L 0 = tw
      · refine (wstep_o4y wy hi hs hn rfl hx).mono ?_
        rintro e w' ⟨rfl, X', h'⟩
        have e1 : enE M ⟨true, 4, t, kw, tw, K, F⟩ = ⟨true, 5, t, kw, tw, K, F⟩ := if_pos hx
        exact ⟨rfl, EStep.mk0 e1 ⟨h', hju, hu, rfl, rfl, fun e => absurd e (by show ¬ 5 = 3; omega), fun e => absurd e (by show ¬ 5 = 6; omega), fun _ => h.pl (.inl (by show 3 ≤ 4; omega))⟩ ⟨rfl, rfl, rfl, rfl⟩⟩
      · refine (wstep_o4n wy hi hs hju hu hn rfl hx (lok_z h (.inl (by show 3 ≤ 4; omega)))).mono ?_
        rintro e w' ⟨rfl, UB, X', h'⟩
        have e1 : enE M ⟨true, 4, t, kw, tw, K, F⟩ = ⟨true, 6, t, kw, tw, K, fr0 (lokN (kw % 4294967296) tw)⟩ := if_neg hx
        exact ⟨rfl, EStep.mk' e1 ⟨h', hju, by rw [List.length_set]; exact hu, rfl, rfl, fun e => absurd e (by show ¬ 6 = 3; omega), fun _ => ⟨UB, List.getElem?_set_self hu, rfl⟩, fun _ => h.pl (.inl (by show 3 ≤ 4; omega))⟩ ⟨rfl, rfl, rfl, rfl⟩⟩
    · by_cases hx : S2.look M.L (64 + t) % 4294967296 = kw
      · refine (wstep_o5y wy hi hs ht hn rfl hx).mono ?_
        rintro e w' ⟨rfl, X', h'⟩
        have e1 : enE M ⟨true, 5, t, kw, tw, K, F⟩ = ⟨true, 0, t, kw, tw, K, F⟩ := if_pos hx
        exact ⟨rfl, EStep.mk0 e1 ⟨h', hju, hu, rfl, rfl, fun e => absurd e (by show ¬ 0 = 3; omega), fun e => absurd e (by show ¬ 0 = 6; omega), fun _ => h.pl (.inl (by show 3 ≤ 5; omega))⟩ ⟨rfl, rfl, rfl, rfl⟩⟩
      · refine (wstep_o5n wy hi hs hju hu ht hn rfl hx (lok_z h (.inl (by show 3 ≤ 5; omega)))).mono ?_
        rintro e w' ⟨rfl, UB, X', h'⟩
        have e1 : enE M ⟨true, 5, t, kw, tw, K, F⟩ = ⟨true, 6, t, kw, tw, K, fr0 (lokN (kw % 4294967296) tw)⟩ := if_neg hx
        exact ⟨rfl, EStep.mk' e1 ⟨h', hju, by rw [List.length_set]; exact hu, rfl, rfl, fun e => absurd e (by show ¬ 6 = 3; omega), fun _ => ⟨UB, List.getElem?_set_self hu, rfl⟩, fun _ => h.pl (.inl (by show 3 ≤ 5; omega))⟩ ⟨rfl, rfl, rfl, rfl⟩⟩
    · obtain ⟨U, hq, huv⟩ := hf rfl
      by_cases hov : (fstepK M F).ln = 0
      · refine (wstep_o6y wy hi hs hju hq huv (ok.f.ok hn hp) ok.f.ln hov).mono ?_
        rintro e w' ⟨rfl, X', h'⟩
        have e1 : enE M ⟨true, 6, t, kw, tw, K, F⟩ = ⟨true, 1, t, kw, tw, K, fstepK M F⟩ := by show (⟨true, if (fstepK M F).ln = 0 then 1 else 6, t, kw, tw, K, fstepK M F⟩ : En) = _; rw [if_pos hov]
        exact ⟨rfl, EStep.mk' e1 ⟨h', hju, by rw [List.length_set]; exact hu, rfl, rfl, fun e => absurd e (by show ¬ 1 = 3; omega), fun e => absurd e (by show ¬ 1 = 6; omega), fun e => absurd e (by show ¬ (3 ≤ 1 ∨ 1 = 0); omega)⟩ ⟨rfl, rfl, rfl, rfl⟩⟩
      · refine (wstep_o6n wy hi hs hju hq huv (ok.f.ok hn hp) ok.f.ln hov).mono ?_
        rintro e w' ⟨rfl, X', h'⟩
        have e1 : enE M ⟨true, 6, t, kw, tw, K, F⟩ = ⟨true, 6, t, kw, tw, K, fstepK M F⟩ := by show (⟨true, if (fstepK M F).ln = 0 then 1 else 6, t, kw, tw, K, fstepK M F⟩ : En) = _; rw [if_neg hov]
        exact ⟨rfl, EStep.mk' e1 ⟨h', hju, by rw [List.length_set]; exact hu, hi, hs, fun e => absurd e (by show ¬ 6 = 3; omega), fun _ => ⟨U, List.getElem?_set_self hu, huv⟩, fun _ => h.pl (.inl (by show 3 ≤ 6; omega))⟩ ⟨rfl, rfl, rfl, rfl⟩⟩
end
end Go.Proofs.YtieiiabbeglmfaaGreatDoor.S15
set_option linter.unusedVariables false
set_option linter.unusedSimpArgs false
namespace Go.Proofs.YtieiiabbeglmfaaGreatDoor.S15
set_option maxRecDepth 100000
set_option maxHeartbeats 16000000
open Go.Proofs.YtieiiabbeglmfaaGreatDoor Go.Proofs.YtieiiabbeglmfaaGreatDoor.S11 Go.Proofs.YtieiiabbeglmfaaGreatDoor.S12 Go.Proofs.YtieiiabbeglmfaaGreatDoor.S13 Go.Proofs.YtieiiabbeglmfaaGreatDoor.S14
open Go.RowKit
theorem at_over {E : En} (ok : EnOk E) : decide ((nPart E.ow : Int) ≤ (E.at : Int)) = decide (E.ln = 0) := by
  obtain ⟨o, ln, t, kw, tw, K, F⟩ := E
  have hln : ln ≤ 6 := ok.ln
  have hen := ok.en
  cases o
  · have h1 : ln ≠ 1 := (hen rfl).1
    have h5 : ln ≠ 5 := (hen rfl).2
    rcases (show ln = 0 ∨ ln = 2 ∨ ln = 3 ∨ ln = 4 ∨ ln = 6 from by omega) with rfl | rfl | rfl | rfl | rfl <;> rfl
  · rcases (show ln = 0 ∨ ln = 1 ∨ ln = 2 ∨ ln = 3 ∨ ln = 4 ∨ ln = 5 ∨ ln = 6 from by omega) with rfl | rfl | rfl | rfl | rfl | rfl | rfl <;> rfl
section
variable {w0 w w' : World} {base WB : Nat} {M : Sd} {r : List Part} {j u U : Nat} {E : En} {Z : Wb} {X : Wm}
theorem Ew.eover (h : Ew w0 w base WB M r j u E Z X) (ok : EnOk E) : Calls Tryz.prog 176 #[Pw Z.B] w fun e w' => e = .returned (.bool (decide (E.ln = 0))) ∧ Below w.heap.size w w' := by
  have := eover_any h.wy
  rwa [h.i, at_over ok] at this
theorem Ew.oover (h : Ew w0 w base WB M r j u E Z X) (ok : EnOk E) : Calls Tryz.prog 333 #[Pw Z.B] w fun e w' => e = .returned (.bool (decide (E.ln = 0))) ∧ Below w.heap.size w w' := by
  have := oover_any h.wy
  rwa [h.i, at_over ok] at this
theorem over_same {E : En} {M : Sd} (h : E.ln = 0) : enM M E = M ∧ enE M E = E := by
  unfold enM enE
  rw [h]
  exact ⟨rfl, rfl⟩
theorem estep_any (h : Ew w0 w base WB M r j u E Z X) (ok : EnOk E) (ms : 0 ≤ M.sp ∧ M.sp ≤ 16) (hn : M.n ≤ 1000000000) (hp : M.pn ≤ 1000000000) :
    Calls Tryz.prog 145 #[Pw Z.B, Pw WB] w fun e w' => e = .returned (.bool (decide ((enE M E).ln = 0))) ∧ EStep w0 w' base WB M r j u E Z := by
  by_cases h0 : E.ln = 0
  · obtain ⟨e1, e2⟩ := over_same (M := M) h0
    have hov := fun (W : World) (hb : Below w.heap.size w W) => (h.new hb).eover ok
    rw [decide_eq_true h0] at hov
    obtain ⟨q0, hq0⟩ := same_at h.hu
    have hfin : ∀ W, Below w.heap.size w W → EStep w0 W base WB M r j u E Z := fun W hb => by
      refine ⟨q0, Z, X, rfl, rfl, rfl, rfl, ?_⟩
      rw [e1, e2, hq0]
      exact h.new hb
    have hd : decide ((enE M E).ln = 0) = true := by rw [e2]; exact decide_eq_true h0
    rw [hd]
    have HOV := Lib.hid hov; have HF := Lib.hid hfin
    clear h ok ms hn hp h0 e1 e2 hov hq0 hfin hd
    go_enter Tryz.func145, Tryz.ntmps145
    go_upto_region 3 with (go_at_call 176; refine (HOV.out _ (Below.refl _ _)).mono ?_; rintro e w2 ⟨rfl, hb2⟩)
    have HB2 := Lib.hid hb2
    clear hb2
    go_wp2_with (go_at_call 176; refine (HOV.out _ HB2.out).mono ?_; rintro e w3 ⟨rfl, hb3⟩; have HB3 := Lib.hid hb3; clear hb3)
    go_ret
    exact ⟨rfl, HF.out _ (HB2.out.trans (HB3.out.mono HB2.out.size))⟩
  · have hov := h.eover ok
    rw [decide_eq_false h0] at hov
    have hst := fun (W : World) (hb : Below w.heap.size w W) => way_step (h.new hb) ok ms hn hp h0
    have hov2 : ∀ W, EStep w0 W base WB M r j u E Z → Calls Tryz.prog 176 #[Pw Z.B] W fun e w' => e = .returned (.bool (decide ((enE M E).ln = 0))) ∧ EStep w0 w' base WB M r j u E Z := fun W ⟨q, Z', X', e1, e2, e3, e4, h'⟩ => by
      have := h'.eover (ok.step ms h.look (fun k => pg_le h.wy.pg k))
      rw [e1] at this
      refine this.mono ?_
      rintro e w' ⟨rfl, hb⟩
      exact ⟨rfl, q, Z', X', e1, e2, e3, e4, h'.new hb⟩
    have HOV := Lib.hid hov; have HST := Lib.hid hst; have HOV2 := Lib.hid hov2
    clear h ok ms hn hp h0 hov hst hov2
    generalize decide ((enE M E).ln = 0) = b at *
    go_enter Tryz.func145, Tryz.ntmps145
    go_upto_region 2 with (go_at_call 176; refine HOV.out.mono ?_; rintro e w2 ⟨rfl, hb2⟩; have HB2 := Lib.hid hb2; clear hb2)
    go_upto_region 3 with (go_at_call 177; refine (HST.out _ HB2.out).mono ?_; rintro e w3 ⟨rfl, hs⟩; have HS := Lib.hid hs; clear hs)
    go_wp2_with (go_at_call 176; refine (HOV2.out _ HS.out).mono ?_; rintro e w4 ⟨rfl, hs⟩; have HS4 := Lib.hid hs; clear hs)
    go_ret
    exact ⟨rfl, HS4.out⟩
theorem ostep_any (h : Ew w0 w base WB M r j u E Z X) (ok : EnOk E) (ms : 0 ≤ M.sp ∧ M.sp ≤ 16) (hn : M.n ≤ 1000000000) (hp : M.pn ≤ 1000000000) :
    Calls Tryz.prog 334 #[Pw Z.B, Pw WB] w fun e w' => e = .returned (.bool (decide ((enE M E).ln = 0))) ∧ EStep w0 w' base WB M r j u E Z := by
  by_cases h0 : E.ln = 0
  · obtain ⟨e1, e2⟩ := over_same (M := M) h0
    have hov := fun (W : World) (hb : Below w.heap.size w W) => (h.new hb).oover ok
    rw [decide_eq_true h0] at hov
    obtain ⟨q0, hq0⟩ := same_at h.hu
    have hfin : ∀ W, Below w.heap.size w W → EStep w0 W base WB M r j u E Z := fun W hb => by
      refine ⟨q0, Z, X, rfl, rfl, rfl, rfl, ?_⟩
      rw [e1, e2, hq0]
      exact h.new hb
    have hd : decide ((enE M E).ln = 0) = true := by rw [e2]; exact decide_eq_true h0
    rw [hd]
    have HOV := Lib.hid hov; have HF := Lib.hid hfin
    clear h ok ms hn hp h0 e1 e2 hov hq0 hfin hd
    go_enter Tryz.func334, Tryz.ntmps334
    go_upto_region 3 with (go_at_call 333; refine (HOV.out _ (Below.refl _ _)).mono ?_; rintro e w2 ⟨rfl, hb2⟩)
    have HB2 := Lib.hid hb2
    clear hb2
    go_wp2_with (go_at_call 333; refine (HOV.out _ HB2.out).mono ?_; rintro e w3 ⟨rfl, hb3⟩; have HB3 := Lib.hid hb3; clear hb3)
    go_ret
    exact ⟨rfl, HF.out _ (HB2.out.trans (HB3.out.mono HB2.out.size))⟩
  · have hov := h.oover ok
    rw [decide_eq_false h0] at hov
    have hst := fun (W : World) (hb : Below w.heap.size w W) => way_step (h.new hb) ok ms hn hp h0
    have hov2 : ∀ W, EStep w0 W base WB M r j u E Z → Calls Tryz.prog 333 #[Pw Z.B] W fun e w' => e = .returned (.bool (decide ((enE M E).ln = 0))) ∧ EStep w0 w' base WB M r j u E Z := fun W ⟨q, Z', X', e1, e2, e3, e4, h'⟩ => by
      have := h'.oover (ok.step ms h.look (fun k => pg_le h.wy.pg k))
      rw [e1] at this
      refine this.mono ?_
      rintro e w' ⟨rfl, hb⟩
      exact ⟨rfl, q, Z', X', e1, e2, e3, e4, h'.new hb⟩
    have HOV := Lib.hid hov; have HST := Lib.hid hst; have HOV2 := Lib.hid hov2
    clear h ok ms hn hp h0 hov hst hov2
    generalize decide ((enE M E).ln = 0) = b at *
    go_enter Tryz.func334, Tryz.ntmps334
    go_upto_region 2 with (go_at_call 333; refine HOV.out.mono ?_; rintro e w2 ⟨rfl, hb2⟩; have HB2 := Lib.hid hb2; clear hb2)
    go_upto_region 3 with (go_at_call 177; refine (HST.out _ HB2.out).mono ?_; rintro e w3 ⟨rfl, hs⟩; have HS := Lib.hid hs; clear hs)
    go_wp2_with (go_at_call 333; refine (HOV2.out _ HS.out).mono ?_; rintro e w4 ⟨rfl, hs⟩; have HS4 := Lib.hid hs; clear hs)
    go_ret
    exact ⟨rfl, HS4.out⟩
def eit (p : Sd × En) : Sd × En := (enM p.1 p.2, enE p.1 p.2)
def eitn (p : Sd × En) : Nat → Sd × En
  | 0 => p
  | n + 1 => eit (eitn p n)
theorem stepM_n (M : Sd) (K : Lk) : (stepM M K).n ≤ M.n + 1 ∧ (stepM M K).pn ≤ M.pn + 1 ∧ (stepM M K).sp = M.sp := by
  unfold stepM
  split <;> simp [Sd.acc, Sd.link, Sd.prep, Sd.park, Sd.call]
theorem fstepM_sp (M : Sd) (K : Fr) : (fstepM M K).sp = M.sp := by
  unfold fstepM
  split <;> (try split) <;> simp [Sd.acc, Sd.link, Sd.unpark, Sd.call]
theorem enM_n (M : Sd) (E : En) : (enM M E).n ≤ M.n + 1 ∧ (enM M E).pn ≤ M.pn + 1 ∧ (enM M E).sp = M.sp := by
  unfold enM
  split
  · exact ⟨Nat.le_refl _, Nat.le_succ _, rfl⟩
  · exact ⟨Nat.le_refl _, Nat.le_succ _, rfl⟩
  · exact stepM_n M E.K
  · exact ⟨Nat.le_refl _, Nat.le_succ _, rfl⟩
  · exact ⟨Nat.le_refl _, Nat.le_succ _, rfl⟩
  · have := fstepM_n M E.F; exact ⟨this.1, this.2, fstepM_sp M E.F⟩
  · exact ⟨Nat.le_succ _, Nat.le_succ _, rfl⟩
theorem enE_ow (M : Sd) (E : En) : (enE M E).ow = E.ow ∧ (enE M E).t = E.t := by
  unfold enE
  split <;> (try split) <;> exact ⟨rfl, rfl⟩
theorem eitn_n (p : Sd × En) : ∀ n, (eitn p n).1.n ≤ p.1.n + n ∧ (eitn p n).1.pn ≤ p.1.pn + n ∧ (eitn p n).1.sp = p.1.sp ∧ (eitn p n).2.ow = p.2.ow
  | 0 => ⟨Nat.le_refl _, Nat.le_refl _, rfl, rfl⟩
  | n + 1 => by
    have h := eitn_n p n
    have g := enM_n (eitn p n).1 (eitn p n).2
    have g2 := enE_ow (eitn p n).1 (eitn p n).2
    exact ⟨by show (enM _ _).n ≤ _; omega, by show (enM _ _).pn ≤ _; omega, g.2.2.trans h.2.2.1, g2.1.trans h.2.2.2⟩
end
end Go.Proofs.YtieiiabbeglmfaaGreatDoor.S15
set_option linter.unusedVariables false
set_option linter.unusedSimpArgs false
namespace Go.Proofs.YtieiiabbeglmfaaGreatDoor.S15
set_option maxRecDepth 100000
set_option maxHeartbeats 16000000
open Go.Proofs.YtieiiabbeglmfaaGreatDoor Go.Proofs.YtieiiabbeglmfaaGreatDoor.S11 Go.Proofs.YtieiiabbeglmfaaGreatDoor.S12 Go.Proofs.YtieiiabbeglmfaaGreatDoor.S13 Go.Proofs.YtieiiabbeglmfaaGreatDoor.S14
open Go.RowKit
def NewE (w w' : World) (o : Bool) (t kw : Nat) (v : Value) : Prop :=
  ∃ Z : Wb, v = Pw Z.B ∧ WayAt w' o t kw 0 Z ∧ Below w.heap.size w w' ∧ Z.i = 0 ∧ Z.st = false ∧ (w.heap.size ≤ Z.B ∧ w.heap.size ≤ Z.PB ∧ w.heap.size ≤ Z.KB ∧ w.heap.size ≤ Z.TB)
theorem alloc_lt {w : World} {ob : Obj} {B : Nat} (h : B < w.heap.size) : (w.alloc ob).heap[B]? = w.heap[B]? := Below.heap_alloc _ _ _ h
theorem alloc_size (w : World) (ob : Obj) : (w.alloc ob).heap.size = w.heap.size + 1 := by simp
theorem alloc_at {w : World} {ob : Obj} {B : Nat} (h : B = w.heap.size) : (w.alloc ob).heap[B]? = some ob := by
  subst h
  exact heap_alloc_new w ob
theorem new_enter (t key : Nat) (ht : t < 64) (hk : key < 4294967296) (w : World) : Calls Tryz.prog 65 #[.int .i64 (t : Int), .int .u32 (key : Int)] w fun e w' => ∃ v, e = .returned v ∧ NewE w w' false t key v := by
  have hit := fun W => isT_any (t : Int) W
  rw [decide_eq_true (show 0 ≤ (t : Int) ∧ (t : Int) < 64 by omega)] at hit
  have HIT := Lib.hid hit
  have e1 : IntKind.u64.wrap (key : Int) = (key : Int) := by rw [IntKind.wrap_u64]; omega
  clear hit ht hk
  go_enter Tryz.func65, Tryz.ntmps65
  go_upto_region 4 with (go_at_call 119; refine (HIT.out _).mono ?_; rintro e w1 ⟨rfl, rfl⟩)
  go_wp2_with fail
  go_ret
  refine ⟨_, rfl, ⟨w.heap.size + 1 + 1 + 1, w.heap.size + 1 + 1, w.heap.size, w.heap.size + 1, 0, false, 0, 0, .nilIface⟩, rfl, ⟨?_, ⟨362, ?_⟩, ?_, ?_, ?_⟩, ?_, rfl, rfl, ⟨?_, ?_, ?_, ?_⟩⟩
  · exact alloc_at (by simp only [alloc_size])
  · rw [alloc_lt (by simp only [alloc_size]; omega)]
    exact alloc_at (by simp only [alloc_size])
  · rw [alloc_lt (by simp only [alloc_size]; omega), alloc_lt (by simp only [alloc_size]; omega), alloc_lt (by simp only [alloc_size]; omega)]
    exact heap_alloc_new _ _
  · rw [alloc_lt (by simp only [alloc_size]; omega), alloc_lt (by simp only [alloc_size]; omega)]
    exact alloc_at (by simp only [alloc_size])
  · show w.heap.size ≠ w.heap.size + 1; omega
  · exact (((below1 w _).alloc (by simp only [alloc_size]; omega) _).alloc (by simp only [alloc_size]; omega) _).alloc (by simp only [alloc_size]; omega) _
  · show w.heap.size ≤ w.heap.size + 1 + 1 + 1; omega
  · show w.heap.size ≤ w.heap.size + 1 + 1; omega
  · exact Nat.le_refl _
  · show w.heap.size ≤ w.heap.size + 1; omega
theorem new_own (t : Nat) (ht : t < 64) (w : World) : Calls Tryz.prog 263 #[.int .i64 (t : Int)] w fun e w' => ∃ v, e = .returned v ∧ NewE w w' true t 0 v := by
  have hit := fun W => isT_any (t : Int) W
  rw [decide_eq_true (show 0 ≤ (t : Int) ∧ (t : Int) < 64 by omega)] at hit
  have HIT := Lib.hid hit
  have e1 : IntKind.u32.wrap (t : Int) = (t : Int) := by rw [IntKind.wrap_u32]; omega
  obtain ⟨a, ha⟩ : ∃ a, a = 64 + t := ⟨_, rfl⟩
  have e2 : IntKind.u32.wrap (64 + (t : Int)) = ((a : Nat) : Int) := by rw [IntKind.wrap_u32]; omega
  have HA := Lib.hid ha
  clear hit ht ha
  go_enter Tryz.func263, Tryz.ntmps263
  go_upto_region 4 with (go_at_call 119; refine (HIT.out _).mono ?_; rintro e w1 ⟨rfl, rfl⟩)
  go_wp2_with fail
  go_ret
  have hk : kyA true t = a := HA.out.symm
  refine ⟨_, rfl, ⟨w.heap.size + 1 + 1 + 1, w.heap.size + 1 + 1, w.heap.size, w.heap.size + 1, 0, false, 0, 0, .nilIface⟩, rfl, ⟨?_, ⟨362, ?_⟩, ?_, ?_, ?_⟩, ?_, rfl, rfl, ⟨?_, ?_, ?_, ?_⟩⟩
  · exact alloc_at (by simp only [alloc_size])
  · rw [alloc_lt (by simp only [alloc_size]; omega)]
    exact alloc_at (by simp only [alloc_size])
  · rw [alloc_lt (by simp only [alloc_size]; omega), alloc_lt (by simp only [alloc_size]; omega), alloc_lt (by simp only [alloc_size]; omega), hk]
    exact heap_alloc_new _ _
  · rw [alloc_lt (by simp only [alloc_size]; omega), alloc_lt (by simp only [alloc_size]; omega)]
    exact alloc_at (by simp only [alloc_size])
  · show w.heap.size ≠ w.heap.size + 1; omega
  · exact (((below1 w _).alloc (by simp only [alloc_size]; omega) _).alloc (by simp only [alloc_size]; omega) _).alloc (by simp only [alloc_size]; omega) _
  · show w.heap.size ≤ w.heap.size + 1 + 1 + 1; omega
  · show w.heap.size ≤ w.heap.size + 1 + 1; omega
  · exact Nat.le_refl _
  · show w.heap.size ≤ w.heap.size + 1; omega
def noP : Part where
  ok _ := True
  fp _ := False
  lt _ _ _ e := e.elim
  kept _ _ _ _ _ _ := trivial
section
variable {w0 w w' : World} {base WB : Nat} {M : Sd} {r : List Part} {j u U : Nat} {o : Bool} {t kw tw : Nat} {Z : Wb} {X : Wm} {E : En}
theorem Pg.push1 (h : Pg w0 w base WB M r X) (q : Part) (b : Below w.heap.size w w') (hq : q.ok w') (hf : ∀ k, q.fp k → w.heap.size ≤ k) : Pg w0 w' base WB M (r ++ [q]) X := by
  have hp := h.ps.push q b hq hf
  rw [List.append_assoc] at hp
  exact ⟨hp, h.wB, h.xm, h.bl.trans (b.mono h.ps.size)⟩
end
end Go.Proofs.YtieiiabbeglmfaaGreatDoor.S15
set_option linter.unusedVariables false
set_option linter.unusedSimpArgs false
namespace Go.Proofs.YtieiiabbeglmfaaGreatDoor.S15
set_option maxRecDepth 100000
set_option maxHeartbeats 16000000
open Go.Proofs.YtieiiabbeglmfaaGreatDoor Go.Proofs.YtieiiabbeglmfaaGreatDoor.S11 Go.Proofs.YtieiiabbeglmfaaGreatDoor.S12 Go.Proofs.YtieiiabbeglmfaaGreatDoor.S13 Go.Proofs.YtieiiabbeglmfaaGreatDoor.S14
open Go.RowKit
theorem bring_low {a : Nat} (h : a < 1024) (v : Nat) : S2.bring a v = v := by
  have e1 : S2.oneB 1024 a = false := by unfold S2.oneB; rw [decide_eq_false (by omega)]; rfl
  have e2 : S2.oneB 1120 a = false := by unfold S2.oneB; rw [decide_eq_false (by omega)]; rfl
  unfold S2.bring S2.byteB
  rw [e1, e2]; rfl
theorem acc_same {M : Sd} {k a y : Nat} (h : a < 1024) : S2.look (M.acc k a y).L a = y := by
  show S2.look (S2.putL M.L a (S2.bring a y)) a = y
  rw [S2.look_put_same, bring_low h]
theorem acc_other {M : Sd} {k a y b : Nat} (h : b ≠ a) : S2.look (M.acc k a y).L b = S2.look M.L b := S2.look_put_other _ h _
theorem acc_load {M : Sd} {k a : Nat} (h : a < 1024) (b : Nat) : S2.look (M.acc k a (S2.look M.L a)).L b = S2.look M.L b := by
  by_cases e : b = a
  · subst e; exact acc_same h
  · exact acc_other e
structure Took (M M' : Sd) (a : Nat) : Prop where
  at_a : S2.look M'.L a = 1
  other : ∀ b, b ≠ a → S2.look M'.L b = S2.look M.L b
  n : M'.n ≤ M.n + 9
  pn : M'.pn ≤ M.pn + 9
  sp : M'.sp = M.sp
theorem lock1 {M : Sd} {t a : Nat} (ha : a < 1024) (h0 : S2.look M.L a = 0) : stepM M (lk1 t a) = M.acc 3 a 1 ∧ (stepK M (lk1 t a)).ln = 0 := by
  constructor
  · show M.acc 3 a (S2.casV (S2.look M.L a) 0 1) = _
    rw [h0]; rfl
  · show (Lk.cas _ (S2.look M.L a) 0 _).ln = 0
    unfold Lk.cas
    rw [if_pos h0]
section
variable {M : Sd} {t key x a : Nat}
theorem en3 (hx : S2.look M.L 0 = x) (ha : a = lokN (key % 4294967296) x) (h0 : S2.look M.L a = 0) :
    (∀ i, i < 3 → (eitn (M, en0 t key) i).2.ln ≠ 0) ∧ (eitn (M, en0 t key) 3).2.ln = 0 ∧ (eitn (M, en0 t key) 3).2.kw = key ∧ (eitn (M, en0 t key) 3).2.tw = x ∧ (eitn (M, en0 t key) 3).2.ow = false ∧ Took M (eitn (M, en0 t key) 3).1 a := by
  have ha2 := lok_in (key % 4294967296) x
  rw [← ha] at ha2
  have e1 : eit (M, en0 t key) = (M.acc 1 0 x, ⟨false, 3, t, key, x, lk1 t a, fr0 0⟩) := by
    show (M.acc 1 0 (S2.look M.L 0), (⟨false, 3, t, key, S2.look M.L 0, lk1 t (lokN (key % 4294967296) (S2.look M.L 0)), fr0 0⟩ : En)) = _
    rw [hx, ← ha]
  obtain ⟨M1, hM1⟩ : ∃ M1, M1 = M.acc 1 0 x := ⟨_, rfl⟩
  have l1 : ∀ b, S2.look M1.L b = S2.look M.L b := by rw [hM1, ← hx]; exact acc_load (by omega)
  obtain ⟨s1, s2⟩ := lock1 (M := M1) (t := t) (a := a) (by omega) (by rw [l1]; exact h0)
  rw [← hM1] at e1
  have e2 : eit (M1, ⟨false, 3, t, key, x, lk1 t a, fr0 0⟩) = (M1.acc 3 a 1, ⟨false, 4, t, key, x, stepK M1 (lk1 t a), fr0 0⟩) := by
    show (stepM M1 (lk1 t a), (⟨false, if (stepK M1 (lk1 t a)).ln = 0 then 4 else 3, t, key, x, stepK M1 (lk1 t a), fr0 0⟩ : En)) = _
    rw [s1, if_pos s2]
  obtain ⟨M2, hM2⟩ : ∃ M2, M2 = M1.acc 3 a 1 := ⟨_, rfl⟩
  rw [← hM2] at e2
  have l2a : S2.look M2.L a = 1 := by rw [hM2]; exact acc_same (by omega)
  have l2 : ∀ b, b ≠ a → S2.look M2.L b = S2.look M.L b := fun b hb => by rw [hM2, acc_other hb]; exact l1 b
  have e3 : eit (M2, ⟨false, 4, t, key, x, stepK M1 (lk1 t a), fr0 0⟩) = (M2.acc 1 0 (S2.look M2.L 0), ⟨false, 0, t, key, x, stepK M1 (lk1 t a), fr0 0⟩) := by
    show (M2.acc 1 0 (S2.look M2.L 0), (if S2.look M2.L 0 = x then (⟨false, 0, t, key, x, stepK M1 (lk1 t a), fr0 0⟩ : En) else _)) = _
    rw [if_pos (by rw [l2 0 (by omega)]; exact hx)]
  have f1 : eitn (M, en0 t key) 1 = (M1, ⟨false, 3, t, key, x, lk1 t a, fr0 0⟩) := e1
  have f2 : eitn (M, en0 t key) 2 = (M2, ⟨false, 4, t, key, x, stepK M1 (lk1 t a), fr0 0⟩) := by show eit (eitn (M, en0 t key) 1) = _; rw [f1, e2]
  have f3 : eitn (M, en0 t key) 3 = (M2.acc 1 0 (S2.look M2.L 0), ⟨false, 0, t, key, x, stepK M1 (lk1 t a), fr0 0⟩) := by show eit (eitn (M, en0 t key) 2) = _; rw [f2, e3]
  have hb := eitn_n (M, en0 t key) 3
  refine ⟨fun i hi => ?_, by rw [f3], by rw [f3], by rw [f3], by rw [f3], ?_⟩
  · rcases (show i = 0 ∨ i = 1 ∨ i = 2 by omega) with rfl | rfl | rfl
    · show 2 ≠ 0; omega
    · rw [f1]; show 3 ≠ 0; omega
    · rw [f2]; show 4 ≠ 0; omega
  · refine ⟨?_, fun b hb => ?_, by have h1 : (M, en0 t key).1.n = M.n := rfl; omega, by have h1 : (M, en0 t key).1.pn = M.pn := rfl; omega, hb.2.2.1⟩
    · rw [f3]; show S2.look (M2.acc 1 0 (S2.look M2.L 0)).L a = 1; rw [acc_load (by omega)]; exact l2a
    · rw [f3]; show S2.look (M2.acc 1 0 (S2.look M2.L 0)).L b = _; rw [acc_load (by omega)]; exact l2 b hb
theorem fr1 (ha : a < 1024) (h1 : S2.look M.L a = 1) : (fitn (M, fr0 a) 1).2.ln = 0 ∧ (fitn (M, fr0 a) 1).1 = M.acc 5 a 0 := by
  constructor
  · show (if idle (S2.look M.L a) = true then 0 else 2) = 0
    rw [h1, if_pos (by decide)]
  · show M.acc 5 a ((S2.look M.L a + 18446744073709551615) % 18446744073709551616) = _
    rw [h1]
end
theorem ok_en {t key : Nat} (ht : t < 64) (hk : key < 18446744073709551616) : EnOk (en0 t key) :=
  ⟨by show 2 ≤ 6; omega, fun _ => ⟨by show 2 ≠ 1; omega, by show 2 ≠ 5; omega⟩, ht, hk, by show 0 < _; omega, by show 0 ≤ 6; omega, by show 0 < 64; omega, by show 0 < _; omega, by show 0 < _; omega, ⟨by show (0 : Int) ≤ 0; omega, by show (0 : Int) ≤ 16; omega⟩, fok_new (by omega)⟩
theorem ok_ow {t : Nat} (ht : t < 64) : EnOk (ow0 t) :=
  ⟨by show 1 ≤ 6; omega, (fun e => by cases e), ht, by show 0 < _; omega, by show 0 < _; omega, by show 0 ≤ 6; omega, by show 0 < 64; omega, by show 0 < _; omega, by show 0 < _; omega, ⟨by show (0 : Int) ≤ 0; omega, by show (0 : Int) ≤ 16; omega⟩, fok_new (by omega)⟩
section
variable {w0 w w' : World} {base WB : Nat} {M : Sd} {r : List Part} {t key x a : Nat} {Z : Wb} {X : Wm}
theorem at_zero {E : En} (h : E.ln = 0) : E.at = nPart E.ow := by
  unfold En.at nPart
  rw [h]
  cases E.ow <;> rfl
end
end Go.Proofs.YtieiiabbeglmfaaGreatDoor.S15
set_option linter.unusedVariables false
set_option linter.unusedSimpArgs false
namespace Go.Proofs.YtieiiabbeglmfaaGreatDoor.S15
set_option maxRecDepth 100000
set_option maxHeartbeats 16000000
open Go.Proofs.YtieiiabbeglmfaaGreatDoor Go.Proofs.YtieiiabbeglmfaaGreatDoor.S11 Go.Proofs.YtieiiabbeglmfaaGreatDoor.S12 Go.Proofs.YtieiiabbeglmfaaGreatDoor.S13 Go.Proofs.YtieiiabbeglmfaaGreatDoor.S14
open Go.RowKit
theorem look02 (b : Nat) : S2.look L02 b = if b = 0 then 2 else 0 := by
  have e : L02 = [(0, 2)] := by decide
  rw [e]
  by_cases h : b = 0
  · subst h; rfl
  · rw [if_neg h]
    unfold S2.look
    have : ((0 : Nat) == b) = false := by simp; omega
    simp [List.find?, this]
section
variable {w0 w w' : World} {base WB : Nat} {M : Sd} {r : List Part} {X : Wm}
end
end Go.Proofs.YtieiiabbeglmfaaGreatDoor.S15
