/- A Join that runs alone: its phases, step by step. -/
import Derived.Test.YtdodloannlfnlaaGreatS17H
set_option linter.unusedVariables false
set_option linter.unusedSimpArgs false
namespace Go.Proofs.YtdodloannlfnlaaGreat.S17
open Go.Proofs.YtdodloannlfnlaaGreat Go.Proofs.YtdodloannlfnlaaGreat.S11 Go.Proofs.YtdodloannlfnlaaGreat.S12 Go.Proofs.YtdodloannlfnlaaGreat.S13 Go.Proofs.YtdodloannlfnlaaGreat.S14 Go.Proofs.YtdodloannlfnlaaGreat.S15
open Go.RowKit

theorem drop_map {Us : List Nat} (f : Nat → Value) {i : Nat} (h : i < Us.length) : (Us.drop i).map f = f Us[i]! :: (Us.drop (i + 1)).map f := by
  rw [List.drop_eq_getElem_cons h, List.map_cons, getElem!_pos Us i h]
section
variable {w0 w w' : World} {base WB : Nat} {M : Sd} {r : List Part} {j B : Nat} {t k u : Nat} {X : Wm}
/-- All locks that are left begin. -/
def PhC (w0 : World) (base WB : Nat) (M : Sd) (j B t k u i : Nat) (w : World) : Prop :=
  ∃ (R : List Part) (s : Value) (X : Wm) (Us : List Nat) (d : Nat), Us.length = 2 ^ k ∧ j < d ∧ (∀ m, i ≤ m → m < 2 ^ k → R[d + m]? = some (lockP Us[m]! (lk1 t (256 + (2 ^ k + m))))) ∧
    Jw w0 w base WB (MC (MB M k) (2 ^ k) i) R j B (t : Int) (u : Int) s ((Us.drop i).map lockV ++ [askJ k]) X
def PhD (w0 : World) (base WB : Nat) (M : Sd) (j B t k u : Nat) (w : World) : Prop :=
  ∃ (R : List Part) (s : Value) (X : Wm) (Us : List Nat) (d : Nat), Us.length = 2 ^ k ∧ j < d ∧ (∀ m, m < 2 ^ k → R[d + m]? = some (freeP Us[m]! (fr0 (256 + (2 ^ k + m))))) ∧
    Jw w0 w base WB (MD M k) R j B (t : Int) (u : Int) s (replV (k : Int) :: Us.map freeV) X
/-- All Frees that are left begin. -/
def PhE (w0 : World) (base WB : Nat) (M : Sd) (j B t k u i : Nat) (w : World) : Prop :=
  ∃ (R : List Part) (s : Value) (X : Wm) (Us : List Nat) (d : Nat), Us.length = 2 ^ k ∧ j < d ∧ (∀ m, i ≤ m → m < 2 ^ k → R[d + m]? = some (freeP Us[m]! (fr0 (256 + (2 ^ k + m))))) ∧
    Jw w0 w base WB (MF (ME M k u) (2 ^ k) i) R j B (t : Int) (u : Int) s ((Us.drop i).map freeV) X
theorem stepA {s : Value} (h : Jw w0 w base WB M r j B (t : Int) 0 s [countV, lookV] X) (hn : M.n ≤ 100000) (hu : u = thB (min (S2.look M.L 1) 63 + 1)) :
    Calls Tryz.prog 7 #[Pw B, Pw WB] w fun e w' => e = .returned (.bool false) ∧ ∃ s X, Jw w0 w' base WB (MA M) r j B (t : Int) (u : Int) s [lookV] X := by
  have hc := count_step h (by omega)
  rw [← hu] at hc
  refine (jstepC h (fun M' r' b' L' => M' = MA M ∧ r' = r ∧ b' = (u : Int) ∧ L' = [lookV]) false (fun M' r' b' L' hC => by rw [hC.2.2.2]; rfl) (hc.mono ?_)).mono ?_
  · rintro e w' ⟨rfl, X', h'⟩
    exact ⟨rfl, _, _, _, s, [lookV], X', ⟨rfl, rfl, rfl, rfl⟩, h'⟩
  · rintro e w' ⟨rfl, M', r', b', s', L', X', ⟨rfl, rfl, rfl, rfl⟩, h'⟩
    exact ⟨rfl, s', X', h'⟩
theorem stepB_over {s : Value} (h : Jw w0 w base WB (MA M) r j B (t : Int) (u : Int) s [lookV] X) (hi : Inv M k) (hn : M.n ≤ 100000) (hu : u ≤ k) :
    Calls Tryz.prog 7 #[Pw B, Pw WB] w fun e w' => e = .returned (.bool true) ∧ ∃ s X, Jw w0 w' base WB (MB M k) r j B (t : Int) (u : Int) s [] X := by
  have hb : bitsN k = k := by unfold bitsN; rw [if_pos ⟨hi.k1, hi.k2⟩]
  have e0 : S2.look (MA M).L 0 = k := (ma_at 0 (by omega)).trans hi.tab
  have hc := look_over h (by show M.n + 1 ≤ _; omega) e0 (by rw [hb]; omega)
  refine (jstepL h (fun M' r' b' L' => M' = MB M k ∧ r' = r ∧ b' = (u : Int) ∧ L' = []) true (fun M' r' b' L' hC => by rw [hC.2.2.2]; rfl) (hc.mono ?_)).mono ?_
  · rintro e w' ⟨rfl, X', h'⟩
    exact ⟨rfl, _, _, _, s, [], X', ⟨rfl, rfl, rfl, rfl⟩, h'⟩
  · rintro e w' ⟨rfl, M', r', b', s', L', X', ⟨rfl, rfl, rfl, rfl⟩, h'⟩
    exact ⟨rfl, s', X', h'⟩
theorem stepB_take {s : Value} (h : Jw w0 w base WB (MA M) r j B (t : Int) (u : Int) s [lookV] X) (ht : t < 64) (hi : Inv M k) (hn : M.n ≤ 100000) (hu : k < u) :
    Calls Tryz.prog 7 #[Pw B, Pw WB] w fun e w' => e = .returned (.bool false) ∧ PhC w0 base WB M j B t k u 0 w' := by
  have hb : bitsN k = k := by unfold bitsN; rw [if_pos ⟨hi.k1, hi.k2⟩]
  have e0 : S2.look (MA M).L 0 = k := (ma_at 0 (by omega)).trans hi.tab
  have hc := look_take h ht (by show 1 ≤ _; omega) (by show M.n + 1 ≤ _; omega) e0 (by rw [hb]; omega)
  rw [hb] at hc
  refine (jstepL h (fun M' r' b' L' => ∃ Us ps, M' = MB M k ∧ r' = r ++ ps ∧ b' = (u : Int) ∧ L' = Us.map lockV ++ [askJ k] ∧ Us.length = 2 ^ k ∧ Lks t (2 ^ k) Us ps) false (fun M' r' b' L' hC => by obtain ⟨Us, ps, _, _, _, e, _⟩ := hC; rw [e]; simp) (hc.mono ?_)).mono ?_
  · rintro e w' ⟨rfl, Us, ps, s', X', h1, h2, h'⟩
    exact ⟨rfl, _, _, _, s', Us.map lockV ++ [askJ k], X', ⟨Us, ps, rfl, rfl, rfl, rfl, h1, h2⟩, h'⟩
  · rintro e w' ⟨rfl, M', r', b', s', L', X', ⟨Us, ps, rfl, rfl, rfl, rfl, h1, h2⟩, h'⟩
    refine ⟨rfl, r ++ ps, s', X', Us, r.length, h1, h.hj, fun m _ hm => ?_, h'⟩
    rw [List.getElem?_append_right (by omega), Nat.add_sub_cancel_left]
    exact h2.at_ m (by rw [h1]; exact hm)
theorem stepC {i : Nat} (h : PhC w0 base WB M j B t k u i w) (ht : t < 64) (hi : Inv M k) (hn : M.n ≤ 100000) (hp : M.pn ≤ 100000) (hiS : i < 2 ^ k) :
    Calls Tryz.prog 7 #[Pw B, Pw WB] w fun e w' => e = .returned (.bool false) ∧ PhC w0 base WB M j B t k u (i + 1) w' := by
  obtain ⟨R, s, X, Us, d, h1, h2, h3, h4⟩ := h
  have hS := pow_in hi.k1 hi.k2
  have g := (mb_kp (M := M) (k := k)).trans (mc_kp (MB M k) (2 ^ k) i)
  rw [drop_map lockV (by omega)] at h4
  have hz : S2.look (MC (MB M k) (2 ^ k) i).L (256 + (2 ^ k + i)) = 0 := by
    rw [mc_lk hi (by omega) _ (by omega), if_neg (by omega)]
    exact hi.zero _ (by omega) (by omega)
  obtain ⟨l1, l2⟩ := lock1 (t := t) (a := 256 + (2 ^ k + i)) (by omega) hz
  have ok : LkOk (MC (MB M k) (2 ^ k) i) (lk1 t (256 + (2 ^ k + i))) := ⟨ht, by show 256 + (2 ^ k + i) < _; omega, by show 0 < _; omega, ⟨by show (0 : Int) ≤ 0; omega, by show (0 : Int) ≤ 16; omega⟩, by rw [g.sp]; exact hi.ms, by have := g.n; omega, by rw [g.pn]; omega⟩
  have hc := lock_step h4 (m := d + i) (by omega) (h3 i (Nat.le_refl _) hiS) ok (by show 1 ≤ 6; omega)
  rw [decide_eq_true l2, l1] at hc
  refine (jstepU (y := .iface 281 (Pw Us[i]!)) h4 (fun M' r' b' L' => M' = MC (MB M k) (2 ^ k) (i + 1) ∧ (∀ m, i + 1 ≤ m → r'[d + m]? = R[d + m]?) ∧ b' = (u : Int) ∧ L' = (Us.drop (i + 1)).map lockV ++ [askJ k]) false (fun M' r' b' L' hC => by rw [hC.2.2.2]; simp) (hc.mono ?_)).mono ?_
  · rintro e w' ⟨rfl, X', h'⟩
    exact ⟨rfl, _, _, _, s, _, X', ⟨rfl, fun m hm => List.getElem?_set_ne (by omega), rfl, rfl⟩, h'⟩
  · rintro e w' ⟨rfl, M', r', b', s', L', X', ⟨rfl, hr, rfl, rfl⟩, h'⟩
    exact ⟨rfl, r', s', X', Us, d, h1, h2, fun m hm hm2 => (hr m hm).trans (h3 m (by omega) hm2), h'⟩
theorem stepD (h : PhC w0 base WB M j B t k u (2 ^ k) w) (hi : Inv M k) (hn : M.n ≤ 100000) :
    Calls Tryz.prog 7 #[Pw B, Pw WB] w fun e w' => e = .returned (.bool false) ∧ PhD w0 base WB M j B t k u w' := by
  obtain ⟨R, s, X, Us, d, h1, h2, h3, h4⟩ := h
  have hS := pow_in hi.k1 hi.k2
  have g := (mb_kp (M := M) (k := k)).trans (mc_kp (MB M k) (2 ^ k) (2 ^ k))
  have hb : bitsN k = k := by unfold bitsN; rw [if_pos ⟨hi.k1, hi.k2⟩]
  rw [List.drop_eq_nil_of_le (by omega)] at h4
  have hc := ask_yes h4 (by show 1 ≤ _; omega) (by have := g.n; omega) (mc_0 hi (Nat.le_refl _))
  rw [hb] at hc
  refine (jstepA (y := .int .u64 (k : Int)) h4 (fun M' r' b' L' => ∃ Us p0 ps, M' = MD M k ∧ r' = R ++ [p0] ++ ps ∧ b' = (u : Int) ∧ L' = replV (k : Int) :: Us.map freeV ∧ Us.length = 2 ^ k ∧ Frs (2 ^ k) Us ps) false (fun M' r' b' L' hC => by obtain ⟨Us, p0, ps, _, _, _, e, _⟩ := hC; rw [e]; simp) (hc.mono ?_)).mono ?_
  · rintro e w' ⟨rfl, p0, Us', ps, s', X', g1, g2, h'⟩
    exact ⟨rfl, _, _, _, s', replV (k : Int) :: Us'.map freeV, X', ⟨Us', p0, ps, rfl, rfl, rfl, rfl, g1, g2⟩, h'⟩
  · rintro e w' ⟨rfl, M', r', b', s', L', X', ⟨Us', p0, ps, rfl, rfl, rfl, rfl, g1, g2⟩, h'⟩
    refine ⟨rfl, R ++ [p0] ++ ps, s', X', Us', R.length + 1, g1, by have := h4.hj; omega, fun m hm => ?_, h'⟩
    rw [List.getElem?_append_right (by simp), show R.length + 1 + m - (R ++ [p0]).length = m by simp]
    exact g2.at_ m (by rw [g1]; exact hm)
theorem stepE0 (h : PhD w0 base WB M j B t k u w) (hi : Inv M k) (hn : M.n ≤ 100000) (hu : k < u) (hu8 : u ≤ 8) :
    Calls Tryz.prog 7 #[Pw B, Pw WB] w fun e w' => e = .returned (.bool false) ∧ PhE w0 base WB M j B t k u 0 w' := by
  obtain ⟨R, s, X, Us, d, h1, h2, h3, h4⟩ := h
  have hS := pow_in hi.k1 hi.k2
  have g := md_kp (M := M) (k := k)
  obtain ⟨τ, hτ⟩ := hi.now
  have hc := repl_step (fr := k) h4 (by have := g.n; omega) hi.k1 hu hu8 (τ := τ) (by rw [g.m]; exact hτ) (by rw [g.m]; exact hi.up _ (by omega))
  refine (jstepR (y := .int .i64 (k : Int)) h4 (fun M' r' b' L' => ∃ p0, M' = ME M k u ∧ r' = R ++ [p0] ∧ b' = (u : Int) ∧ L' = Us.map freeV) false (fun M' r' b' L' hC => by obtain ⟨p0, _, _, _, e⟩ := hC; rw [e, List.length_map, h1, decide_eq_false (by omega)]) (hc.mono ?_)).mono ?_
  · rintro e w' ⟨rfl, p0, X', h'⟩
    exact ⟨rfl, _, _, _, s, _, X', ⟨p0, rfl, rfl, rfl, rfl⟩, h'⟩
  · rintro e w' ⟨rfl, M', r', b', s', L', X', ⟨p0, rfl, rfl, rfl, rfl⟩, h'⟩
    exact ⟨rfl, R ++ [p0], s', X', Us, d, h1, h2, fun m _ hm => by
      have e := h3 m hm
      rw [List.getElem?_append_left (List.getElem?_eq_some_iff.1 e).1]; exact e, h'⟩
theorem stepE {i : Nat} (h : PhE w0 base WB M j B t k u i w) (hi : Inv M k) (hn : M.n ≤ 100000) (hp : M.pn ≤ 100000) (hiS : i < 2 ^ k) :
    Calls Tryz.prog 7 #[Pw B, Pw WB] w fun e w' => e = .returned (.bool (decide (i + 1 = 2 ^ k))) ∧ PhE w0 base WB M j B t k u (i + 1) w' := by
  obtain ⟨R, s, X, Us, d, h1, h2, h3, h4⟩ := h
  have hS := pow_in hi.k1 hi.k2
  have g := md_kp (M := M) (k := k)
  have gf := mf_kp (ME M k u) (2 ^ k) i
  have hme : (ME M k u).n = (MD M k).n + 1 := rfl
  have hmp : (ME M k u).pn = (MD M k).pn := rfl
  rw [drop_map freeV (by omega)] at h4
  obtain ⟨l1, l2⟩ := free1 (M := MF (ME M k u) (2 ^ k) i) (a := 256 + (2 ^ k + i)) (by omega) (mf_lk hi (Nat.le_refl _) hiS)
  have hc := free_step h4 (m := d + i) (by omega) (h3 i (Nat.le_refl _) hiS) ((fok_new (by omega)).ok (by have := g.n; have := gf.n; omega) (by have := g.pn; have := gf.pn; omega)) (by show 1 ≤ 7; omega)
  rw [decide_eq_true l2, l1] at hc
  refine (jstepU (y := .iface 312 (Pw Us[i]!)) h4 (fun M' r' b' L' => M' = MF (ME M k u) (2 ^ k) (i + 1) ∧ (∀ m, i + 1 ≤ m → r'[d + m]? = R[d + m]?) ∧ b' = (u : Int) ∧ L' = (Us.drop (i + 1)).map freeV) (decide (i + 1 = 2 ^ k)) (fun M' r' b' L' hC => by
    rw [hC.2.2.2, List.length_map, List.length_drop, h1]
    by_cases e : i + 1 = 2 ^ k
    · rw [decide_eq_true e, decide_eq_true (by omega)]
    · rw [decide_eq_false e, decide_eq_false (by omega)]) (hc.mono ?_)).mono ?_
  · rintro e w' ⟨rfl, X', h'⟩
    exact ⟨rfl, _, _, _, s, _, X', ⟨rfl, fun m hm => List.getElem?_set_ne (by omega), rfl, rfl⟩, h'⟩
  · rintro e w' ⟨rfl, M', r', b', s', L', X', ⟨rfl, hr, rfl, rfl⟩, h'⟩
    exact ⟨rfl, r', s', X', Us, d, h1, h2, fun m hm hm2 => (hr m hm).trans (h3 m (by omega) hm2), h'⟩
/-- How many steps a Join takes, alone. -/
def jsteps (k u : Nat) : Nat := if u ≤ k then 2 else 4 + (2 ^ k + 2 ^ k)
/-- A Join alone. -/
theorem join_run {s : Value} (h : Jw w0 w base WB M r j B (t : Int) 0 s [countV, lookV] X) (ht : t < 64) (hi : Inv M k) (hn : M.n ≤ 100000) (hp : M.pn ≤ 100000) (hu : u = thB (min (S2.look M.L 1) 63 + 1)) (most : Nat) (h1 : jsteps k u ≤ most) (h2 : most ≤ 1000) :
    Calls Tryz.prog 35 #[Pw WB, .iface 39 (Pw B), .int .i64 (most : Int)] w fun e w' => e = .returned (.int .i64 ((jsteps k u : Nat) : Int)) ∧ ∃ M' R X', After M M' k u ∧ Pg w0 w' base WB M' R X' := by
  have hu8 := thB_in (min (S2.look M.L 1) 63 + 1)
  rw [← hu] at hu8
  have hS := pow_in hi.k1 hi.k2
  by_cases hk : u ≤ k
  · have e : jsteps k u = 2 := if_pos hk
    rw [e] at h1 ⊢
    refine (run_gen (fun i W => (i = 0 ∧ ∃ s X, Jw w0 W base WB M r j B (t : Int) 0 s [countV, lookV] X) ∨ (i = 1 ∧ ∃ s X, Jw w0 W base WB (MA M) r j B (t : Int) (u : Int) s [lookV] X) ∨ (i = 2 ∧ ∃ s X, Jw w0 W base WB (MB M k) r j B (t : Int) (u : Int) s [] X)) 2 most (by omega) h1 h2 (.inl ⟨rfl, s, X, h⟩) ?_).mono ?_
    · rintro i W hi2 (⟨rfl, s, X, hw⟩ | ⟨rfl, s, X, hw⟩ | ⟨rfl, _⟩)
      · refine (stepA hw hn hu).mono ?_
        rintro e w' ⟨rfl, h'⟩
        exact ⟨rfl, .inr (.inl ⟨rfl, h'⟩)⟩
      · refine (stepB_over hw hi hn hk).mono ?_
        rintro e w' ⟨rfl, h'⟩
        exact ⟨rfl, .inr (.inr ⟨rfl, h'⟩)⟩
      · omega
    · rintro e w' ⟨rfl, ⟨h0, _⟩ | ⟨h0, _⟩ | ⟨_, s, X, h'⟩⟩
      · omega
      · omega
      · exact ⟨rfl, MB M k, _, X, after_over hi hk, h'.pg⟩
  · have e : jsteps k u = 4 + (2 ^ k + 2 ^ k) := if_neg hk
    rw [e] at h1 ⊢
    refine (run_gen (fun i W => (i = 0 ∧ ∃ s X, Jw w0 W base WB M r j B (t : Int) 0 s [countV, lookV] X) ∨ (i = 1 ∧ ∃ s X, Jw w0 W base WB (MA M) r j B (t : Int) (u : Int) s [lookV] X) ∨ (∃ m, m ≤ 2 ^ k ∧ i = 2 + m ∧ PhC w0 base WB M j B t k u m W) ∨ (i = 3 + 2 ^ k ∧ PhD w0 base WB M j B t k u W) ∨ (∃ m, m ≤ 2 ^ k ∧ i = 4 + (2 ^ k + m) ∧ PhE w0 base WB M j B t k u m W)) (4 + (2 ^ k + 2 ^ k)) most (by omega) h1 h2 (.inl ⟨rfl, s, X, h⟩) ?_).mono ?_
    · rintro i W hi2 (⟨rfl, s, X, hw⟩ | ⟨rfl, s, X, hw⟩ | ⟨m, hm, rfl, hw⟩ | ⟨rfl, hw⟩ | ⟨m, hm, rfl, hw⟩)
      · refine (stepA hw hn hu).mono ?_
        rintro e w' ⟨rfl, h'⟩
        exact ⟨by rw [decide_eq_false (by omega)], .inr (.inl ⟨rfl, h'⟩)⟩
      · refine (stepB_take hw ht hi hn (by omega)).mono ?_
        rintro e w' ⟨rfl, h'⟩
        exact ⟨by rw [decide_eq_false (by omega)], .inr (.inr (.inl ⟨0, by omega, by omega, h'⟩))⟩
      · rcases Nat.lt_or_ge m (2 ^ k) with hlt | hge
        · refine (stepC hw ht hi hn hp hlt).mono ?_
          rintro e w' ⟨rfl, h'⟩
          exact ⟨by rw [decide_eq_false (by omega)], .inr (.inr (.inl ⟨m + 1, by omega, by omega, h'⟩))⟩
        · have em : m = 2 ^ k := by omega
          subst em
          refine (stepD hw hi hn).mono ?_
          rintro e w' ⟨rfl, h'⟩
          exact ⟨by rw [decide_eq_false (by omega)], .inr (.inr (.inr (.inl ⟨by omega, h'⟩)))⟩
      · refine (stepE0 hw hi hn (by omega) hu8.2).mono ?_
        rintro e w' ⟨rfl, h'⟩
        exact ⟨by rw [decide_eq_false (by omega)], .inr (.inr (.inr (.inr ⟨0, by omega, by omega, h'⟩)))⟩
      · refine (stepE hw hi hn hp (by omega)).mono ?_
        rintro e w' ⟨rfl, h'⟩
        refine ⟨?_, .inr (.inr (.inr (.inr ⟨m + 1, by omega, by omega, h'⟩)))⟩
        by_cases e : m + 1 = 2 ^ k
        · rw [decide_eq_true e, decide_eq_true (by omega)]
        · rw [decide_eq_false e, decide_eq_false (by omega)]
    · rintro e w' ⟨rfl, ⟨h0, _⟩ | ⟨h0, _⟩ | ⟨m, hm, h0, _⟩ | ⟨h0, _⟩ | ⟨m, hm, h0, h'⟩⟩
      · omega
      · omega
      · omega
      · omega
      · have em : m = 2 ^ k := by omega
        subst em
        obtain ⟨R, s, X, Us, d, _, _, _, h4⟩ := h'
        exact ⟨rfl, MZ M k u, _, X, after_grown hi hk hu8.2, h4.pg⟩
end
end Go.Proofs.YtdodloannlfnlaaGreat.S17
