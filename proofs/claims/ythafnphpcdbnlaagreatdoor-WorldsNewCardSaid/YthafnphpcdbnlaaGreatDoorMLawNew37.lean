/- Texts of this seat, one behind the other. -/
import Derived.Test.YthafnphpcdbnlaaGreatDoorMLawNew36
set_option linter.unusedVariables false
set_option linter.unusedSimpArgs false
set_option linter.unusedVariables false
set_option linter.unusedSimpArgs false
namespace Go.Proofs.YthafnphpcdbnlaaGreatDoor.S10
open Go.Proofs.YthafnphpcdbnlaaGreatDoor
open Go.RowKit

/-- A model that may be: at most N entries a table. -/
structure Good (M : Int → List Bk) (N : Nat) : Prop where
  no : ∀ b, (b < 2 ∨ 8 < b) → M b = []
  size : ∀ b, M b ≠ [] → (M b).length = 2 ^ b.toNat
  keys : ∀ b, Keys ((M b).map Bk.q).flatten
  few : ∀ b, ((M b).map Bk.q).flatten.length ≤ N
theorem Good.len {M : Int → List Bk} {N : Nat} (h : Good M N) (b : Int) : (M b).length ≤ 256 := by
  by_cases h0 : M b = []
  · rw [h0]; simp
  · rw [h.size b h0]
    have : b.toNat ≤ 8 := by
      by_cases h1 : b < 2 ∨ 8 < b
      · exact absurd (h.no b h1) h0
      · omega
    calc 2 ^ b.toNat ≤ 2 ^ 8 := Nat.pow_le_pow_right (by omega) this
      _ = 256 := rfl
theorem Good.mono {M : Int → List Bk} {N N' : Nat} (h : Good M N) (hn : N ≤ N') : Good M N' := ⟨h.no, h.size, h.keys, fun b => Nat.le_trans (h.few b) hn⟩
theorem mem_q {L : List Bk} {i : Nat} (hi : i < L.length) {e : Ent} (he : e ∈ L[i]!.q) : e ∈ (L.map Bk.q).flatten := by
  rw [List.mem_flatten]
  rw [getElem!_pos L i hi] at he
  exact ⟨_, List.mem_map.2 ⟨_, List.getElem_mem hi, rfl⟩, he⟩
theorem q_len {L : List Bk} {i : Nat} (hi : i < L.length) : L[i]!.q.length ≤ (L.map Bk.q).flatten.length := by
  have h1 := cum_le (L.map Bk.q) (i + 1) (by rw [List.length_map]; omega)
  rw [cum_succ (by rw [List.length_map]; exact hi), map_at L hi] at h1
  omega
theorem flat_set (L : List Bk) {i : Nat} (hi : i < L.length) (x : Bk) : ((L.set i x).map Bk.q).flatten.length + L[i]!.q.length = (L.map Bk.q).flatten.length + x.q.length := by
  have h1 : L = L.take i ++ L[i]! :: L.drop (i + 1) := by
    rw [getElem!_pos L i hi, List.getElem_cons_drop, List.take_append_drop]
  have h2 : L.set i x = L.take i ++ x :: L.drop (i + 1) := by rw [List.set_eq_take_append_cons_drop, if_pos hi]
  have h3 : (L.map Bk.q).flatten.length = ((L.take i ++ L[i]! :: L.drop (i + 1)).map Bk.q).flatten.length := by rw [← h1]
  rw [h3, h2]
  simp only [List.map_append, List.map_cons, List.flatten_append, List.flatten_cons, List.length_append]
  omega
theorem mem_set {L : List Bk} {i : Nat} (hi : i < L.length) {x : Bk} {e : Ent} (he : e ∈ ((L.set i x).map Bk.q).flatten) : e ∈ (L.map Bk.q).flatten ∨ e ∈ x.q := by
  rw [List.mem_flatten] at he
  obtain ⟨l, hl, he⟩ := he
  rw [List.mem_map] at hl
  obtain ⟨y, hy, rfl⟩ := hl
  rcases List.mem_or_eq_of_mem_set hy with h | rfl
  · exact .inl (List.mem_flatten.2 ⟨_, List.mem_map.2 ⟨_, h, rfl⟩, he⟩)
  · exact .inr he
theorem Good.put {M : Int → List Bk} {N : Nat} (h : Good M N) (b : Int) {i : Nat} (hi : i < (M b).length) (x : Bk) (hk : Keys x.q) (X : Nat) (hx : x.q.length ≤ (M b)[i]!.q.length + X) : Good (upd M b ((M b).set i x)) (N + X) := by
  refine ⟨upd_no h.no b i x, fun b' hb => ?_, fun b' => ?_, fun b' => ?_⟩
  · rw [upd_len]
    refine h.size b' (fun e => hb ?_)
    have := upd_len M b i x b'
    rw [e] at this
    exact List.eq_nil_of_length_eq_zero (by simpa using this)
  · by_cases e : b' = b
    · subst e
      rw [upd_same]
      intro y hy
      rcases mem_set hi hy with h' | h'
      · exact h.keys b' y h'
      · exact hk y h'
    · rw [upd_ne _ _ e]; exact h.keys b'
  · by_cases e : b' = b
    · subst e
      rw [upd_same]
      have h1 := flat_set (M b') hi x
      have h2 := h.few b'
      omega
    · rw [upd_ne _ _ e]
      have := h.few b'
      omega
theorem hollow_flat (L : List Bk) : ((hollow L).map Bk.q).flatten = [] := by
  rw [List.flatten_eq_nil_iff]
  intro l hl
  simp only [hollow, List.map_map, List.mem_map] at hl
  obtain ⟨x, _, rfl⟩ := hl
  rfl
theorem fresh_q (now : Int) (Ls : List (List Ent)) : (fresh now Ls).map Bk.q = Ls := by
  simp only [fresh, List.map_map]
  exact (List.map_congr_left (fun _ _ => rfl)).trans (List.map_id _)
theorem keys_reh {h : Nat → Nat} {E : List Ent} (hk : Keys E) (n : Nat) : Keys (reh h n E).flatten := fun e he => by
  rw [List.mem_flatten] at he
  obtain ⟨l, hl, he⟩ := he
  simp only [reh, List.mem_map] at hl
  obtain ⟨i, _, rfl⟩ := hl
  exact hk e (List.mem_filter.1 he).1
theorem Good.grow {M : Int → List Bk} {N : Nat} (hg : Good M N) {fr tg : Int} (now : Int) (h1 : 2 ≤ fr) (h2 : fr < tg) (h3 : tg ≤ 8) {h : Nat → Nat} (hlt : ∀ k, k < 4294967296 → h k < 2 ^ tg.toNat) : Good (grown M h (2 ^ tg.toNat) fr tg now) N := by
  unfold grown
  refine ⟨fun b hb => ?_, fun b hb => ?_, fun b => ?_, fun b => ?_⟩
  · rw [upd_ne _ _ (by omega), upd_ne _ _ (by omega)]; exact hg.no b hb
  · by_cases e : b = tg
    · subst e
      rw [upd_same, fresh_len, reh_len]
    · rw [upd_ne _ _ e] at hb ⊢
      by_cases e2 : b = fr
      · subst e2
        rw [upd_same] at hb ⊢
        rw [hollow_len]
        exact hg.size b (fun e3 => hb (by rw [e3]; rfl))
      · rw [upd_ne _ _ e2] at hb ⊢
        exact hg.size b hb
  · by_cases e : b = tg
    · subst e
      rw [upd_same, fresh_q]
      exact keys_reh (hg.keys fr) _
    · rw [upd_ne _ _ e]
      by_cases e2 : b = fr
      · subst e2
        rw [upd_same, hollow_flat]
        intro e he; simp at he
      · rw [upd_ne _ _ e2]; exact hg.keys b
  · by_cases e : b = tg
    · subst e
      rw [upd_same, fresh_q, reh_total h _ _ (hg.keys fr) hlt]
      exact hg.few fr
    · rw [upd_ne _ _ e]
      by_cases e2 : b = fr
      · subst e2
        rw [upd_same, hollow_flat]; simp
      · rw [upd_ne _ _ e2]; exact hg.few b
theorem good_first (now : Int) : Good (M0 now) 0 := by
  have h2 : M0 now 2 = fresh now (List.replicate 4 []) := upd_same _ _ _
  have hno : ∀ b, b ≠ 2 → M0 now b = [] := fun b hb => upd_ne _ _ hb
  have hfl : (List.replicate 4 ([] : List Ent)).flatten = [] := rfl
  refine ⟨fun b hb => hno b (by omega), fun b hb => ?_, fun b => ?_, fun b => ?_⟩
  · by_cases e : b = 2
    · subst e; rw [h2, fresh_len]; rfl
    · exact absurd (hno b e) hb
  · by_cases e : b = 2
    · subst e; rw [h2, fresh_q, hfl]; intro e he; simp at he
    · rw [hno b e]; intro e he; simp at he
  · by_cases e : b = 2
    · subst e; rw [h2, fresh_q, hfl]; simp
    · rw [hno b e]; simp
theorem St.mono {w : World} {base : Nat} {own : Nat → Option Role} {s : Value} {n n' : Nat} {M : Int → List Bk} (h : St w base own s n M) (hn : n ≤ n') : St w base own s n' M := by
  obtain ⟨sb, mb, F, V, h⟩ := h
  obtain ⟨D, h1, h2, h3⟩ := h.hm
  exact ⟨sb, mb, F, V, h.fp, h.hs, h.hc, h.os, ⟨D, h1.mono hn, h2, h3⟩, h.om, h.ht, h.ot, h.hq, h.oq⟩

/-- What a call does to a set, and to the document's. -/
def StC (f : Nat) (args : Value → List Value) (v : Value) (W : World) (base : Nat) (own : Nat → Option Role) (s : Value) (n' : Nat) (M' : Int → List Bk) : Prop :=
  Calls Tryz.prog f (args s).toArray W fun e w' => e = .returned v ∧ ∃ own', St w' base own' s n' M' ∧ Turns (Mine own) W w' ∧ Fresh own own' W
section
variable {M : Int → List Bk} {N : Nat}
theorem out_or (M : Int → List Bk) (b i : Int) : (i < 0 ∨ ((M b).length : Int) ≤ i) ∨ ∃ k : Nat, i = (k : Int) ∧ k < (M b).length := by
  by_cases h : i < 0 ∨ ((M b).length : Int) ≤ i
  · exact .inl h
  · exact .inr ⟨i.toNat, by omega, by omega⟩
theorem queue_all (g : Good M N) (hN : N ≤ 100000) {b : Int} (hb : InI b) (i : Int) : ∃ D : List Ent, D.length ≤ 100000 ∧
    (∀ W base own s n, St W base own s n M → Calls Tryz.prog 69 #[s, .agg #[.int .i64 b, .int .i64 i]] W fun e w' => ∃ A', e = .returned (.slice A' D.length D.length) ∧ RowE w' W.heap.size (.slice A' D.length D.length) D ∧ Below W.heap.size W w') ∧
    (∀ W base own s, Rt W base own s M → Calls Tryz.prog 70 #[s, .agg #[.int .i64 b, .int .i64 i]] W fun e w' => ∃ A' c', e = .returned (.slice A' D.length c') ∧ D.length ≤ c' ∧ c' ≤ 9223372036854775807 ∧ Rd w' W.heap.size A' (flat D) ∧ Below W.heap.size W w') := by
  rcases out_or M b i with h | ⟨k, rfl, h⟩
  · refine ⟨[], by simp, fun W base own s n hs => ?_, fun W base own s hs => ?_⟩
    · obtain ⟨F, hr⟩ := hs.rs
      refine (queue_no hr hb h).mono ?_
      rintro e w' ⟨rfl, hbl⟩
      exact ⟨none, rfl, row_nil _ _ _, hbl⟩
    · refine (rqueue_no hs h).mono ?_
      rintro e w' ⟨rfl, hbl⟩
      exact ⟨none, 0, rfl, by simp, by omega, Rd.nil, hbl⟩
  · have hq := q_len h
    have := g.few b
    refine ⟨(M b)[k]!.q, by omega, fun W base own s n hs => ?_, fun W base own s hs => rqueue_yes hs h⟩
    obtain ⟨F, hr⟩ := hs.rs
    exact queue_yes hr hb h (by omega)
theorem timer_all (M : Int → List Bk) {b : Int} (hb : InI b) (i : Int) : ∃ ta tf : Int,
    (∀ W base own s n, St W base own s n M → Calls Tryz.prog 65 #[s, .agg #[.int .i64 b, .int .i64 i]] W fun e w' => e = .returned (.agg #[.int .u64 ta, .int .u64 tf]) ∧ Below W.heap.size W w') ∧
    (∀ W base own s, Rt W base own s M → Calls Tryz.prog 66 #[s, .agg #[.int .i64 b, .int .i64 i]] W fun e w' => e = .returned (.agg #[.int .u64 ta, .int .u64 tf]) ∧ Below W.heap.size W w') := by
  rcases out_or M b i with h | ⟨k, rfl, h⟩
  · refine ⟨0, 0, fun W base own s n hs => ?_, fun W base own s hs => rtimer_no hs h⟩
    obtain ⟨F, hr⟩ := hs.rs
    exact timer_no hr hb h
  · refine ⟨_, _, fun W base own s n hs => ?_, fun W base own s hs => rtimer_yes hs h⟩
    obtain ⟨F, hr⟩ := hs.rs
    exact timer_yes hr hb h
theorem has_all (M : Int → List Bk) {b : Int} (hb : InI b) : ∃ a : Bool,
    (∀ W base own s n, St W base own s n M → Calls Tryz.prog 62 #[s, .int .i64 b] W fun e w' => e = .returned (.bool a) ∧ W = w') ∧
    (∀ W base own s, Rt W base own s M → Calls Tryz.prog 63 #[s, .int .i64 b] W fun e w' => e = .returned (.bool a) ∧ W = w') := by
  refine ⟨decide (0 < (M b).length), fun W base own s n hs => ?_, fun W base own s hs => rhas_any hs b⟩
  obtain ⟨F, hr⟩ := hs.rs
  obtain ⟨A, c, V, e, _⟩ := hr.rd b
  exact has_any hr.sv hb e
end
/-- Both sets side by side. -/
structure Both (w : World) (base : Nat) (own ownR : Nat → Option Role) (s r : Value) (n : Nat) (M : Int → List Bk) : Prop where
  st : St w base own s n M
  rt : Rt w base ownR r M
  dj : ∀ g, Mine own g → ¬ Mine ownR g
theorem Both.keep {w : World} {base : Nat} {own ownR : Nat → Option Role} {s r : Value} {n : Nat} {M : Int → List Bk} (h : Both w base own ownR s r n M) {S : Nat → Prop} {w' : World} (t : Turns S w w') (h1 : ∀ g, Mine own g → ¬ S g) (h2 : ∀ g, Mine ownR g → ¬ S g) : Both w' base own ownR s r n M := ⟨h.st.keep t h1, h.rt.keep t h2, h.dj⟩
theorem Both.new {w : World} {base : Nat} {own ownR : Nat → Option Role} {s r : Value} {n : Nat} {M : Int → List Bk} (h : Both w base own ownR s r n M) {w' : World} (hb : Below w.heap.size w w') : Both w' base own ownR s r n M := h.keep (Turns.of_below (S := fun _ => False) hb) (fun _ _ e => e) (fun _ _ e => e)
end Go.Proofs.YthafnphpcdbnlaaGreatDoor.S10
set_option linter.unusedVariables false
set_option linter.unusedSimpArgs false
namespace Go.Proofs.YthafnphpcdbnlaaGreatDoor.S10
open Go.Proofs.YthafnphpcdbnlaaGreatDoor
open Go.RowKit

/-- Both sets (each at a model of its own), and blocks Z beside them that no call on them turns. -/
structure Sc (W : World) (base : Nat) (own ownR : Nat → Option Role) (s r : Value) (n : Nat) (M R : Int → List Bk) (Z : Nat → Prop) : Prop where
  st : St W base own s n M
  rt : Rt W base ownR r R
  dj : ∀ g, Mine own g → ¬ Mine ownR g
  cl : ∀ g, Z g → g < W.heap.size ∧ ¬ Mine own g ∧ ¬ Mine ownR g
section
variable {W w' : World} {base : Nat} {own ownR own' : Nat → Option Role} {s r : Value} {n n' : Nat} {M M' R R' : Int → List Bk} {Z : Nat → Prop}
theorem Sc.turn (h : Sc W base own ownR s r n M R Z) {S : Nat → Prop} (t : Turns S W w') (h1 : ∀ g, Mine own g → ¬ S g) (h2 : ∀ g, Mine ownR g → ¬ S g) : Sc w' base own ownR s r n M R Z :=
  ⟨h.st.keep t h1, h.rt.keep t h2, h.dj, fun g hz => ⟨Nat.lt_of_lt_of_le (h.cl g hz).1 t.size, (h.cl g hz).2⟩⟩
theorem Sc.new (h : Sc W base own ownR s r n M R Z) (hb : Below W.heap.size W w') : Sc w' base own ownR s r n M R Z :=
  h.turn (Turns.of_below (S := fun _ => False) hb) (fun _ _ e => e) (fun _ _ e => e)
theorem Sc.drew (h : Sc W base own ownR s r n M R Z) : Sc W.drew base own ownR s r n M R Z := h.turn (Turns.refl (fun _ => False) W).drew (fun _ _ e => e) (fun _ _ e => e)
/-- A call on the first one. -/
theorem Sc.one (h : Sc W base own ownR s r n M R Z) (hs : St w' base own' s n' M') (t : Turns (Mine own) W w') (f : Fresh own own' W) : Sc w' base own' ownR s r n' M' R Z ∧ Turns (fun g => ¬ Z g) W w' ∧ Below base W w' := by
  have hr : ∀ g, Mine ownR g → g < W.heap.size := fun g hg => (h.rt.fp hg).2
  refine ⟨⟨hs, h.rt.keep t (fun g hg hs => h.dj g hs hg), fun g hg hg' => ?_, fun g hz => ?_⟩, t.mono (fun g _ hg hz => (h.cl g hz).2.1 hg), t.below h.st.le (fun k hk hm => by have := (h.st.fp hm).1; omega)⟩
  · obtain ⟨r1, e⟩ := hg
    rcases f g r1 e with h' | h'
    · exact h.dj g h' hg'
    · have := hr g hg'; omega
  · obtain ⟨h1, h2, h3⟩ := h.cl g hz
    refine ⟨Nat.lt_of_lt_of_le h1 t.size, fun ⟨r1, e⟩ => ?_, h3⟩
    rcases f g r1 e with h' | h'
    · exact h2 h'
    · omega
/-- A call on the document's. -/
theorem Sc.two (h : Sc W base own ownR s r n M R Z) (hr : Rt w' base own' r R') (t : Turns (Mine ownR) W w') (f : Fresh ownR own' W) : Sc w' base own own' s r n M R' Z ∧ Turns (fun g => ¬ Z g) W w' ∧ Below base W w' := by
  have hs : ∀ g, Mine own g → g < W.heap.size := fun g hg => (h.st.fp hg).2
  refine ⟨⟨h.st.keep t (fun g hg hr => h.dj g hg hr), hr, fun g hg hg' => ?_, fun g hz => ?_⟩, t.mono (fun g _ hg hz => (h.cl g hz).2.2 hg), t.below h.st.le (fun k hk hm => by have := (h.rt.fp hm).1; omega)⟩
  · obtain ⟨r1, e⟩ := hg'
    rcases f g r1 e with h' | h'
    · exact h.dj g hg h'
    · have := hs g hg; omega
  · obtain ⟨h1, h2, h3⟩ := h.cl g hz
    refine ⟨Nat.lt_of_lt_of_le h1 t.size, h2, fun ⟨r1, e⟩ => ?_⟩
    rcases f g r1 e with h' | h'
    · exact h3 h'
    · omega
/-- Blocks that are new stand beside, too. -/
theorem Sc.add (h : Sc W base own ownR s r n M R Z) (hb : Below W.heap.size W w') {Y : Nat → Prop} (hy : ∀ g, Y g → W.heap.size ≤ g ∧ g < w'.heap.size) : Sc w' base own ownR s r n M R (fun g => Z g ∨ Y g) := by
  have h1 := h.new hb
  refine ⟨h1.st, h1.rt, h.dj, fun g hg => ?_⟩
  rcases hg with hz | hy'
  · exact h1.cl g hz
  · have := hy g hy'
    refine ⟨this.2, fun hm => ?_, fun hm => ?_⟩
    · have := (h.st.fp hm).2; omega
    · have := (h.rt.fp hm).2; omega
theorem Sc.sub (h : Sc W base own ownR s r n M R Z) {Y : Nat → Prop} (hy : ∀ g, Y g → Z g) : Sc W base own ownR s r n M R Y := ⟨h.st, h.rt, h.dj, fun g hg => h.cl g (hy g hg)⟩
/-- What stands beside is kept. -/
theorem Sc.keepC (h : Sc W base own ownR s r n M R Z) (t : Turns (fun g => ¬ Z g) W w') {g o : Nat} (hz : Z g) {v : Value} (hv : W.cell? ⟨g, o, none⟩ = some v) : w'.cell? ⟨g, o, none⟩ = some v :=
  (t.cell (h.cl g hz).1 (fun hn => hn hz)).trans hv
end
end Go.Proofs.YthafnphpcdbnlaaGreatDoor.S10
set_option linter.unusedVariables false
set_option linter.unusedSimpArgs false
namespace Go.Proofs.YthafnphpcdbnlaaGreatDoor.S11
open Go.Proofs.YthafnphpcdbnlaaGreatDoor
open Go.RowKit

theorem keep7 {w w' : World} {K : IntKind} {base g o : Nat} {d : Nt} (hb : Below base w w') (hg : g < base) (h : w.cell? ⟨g, o, none⟩ = some (.int .i64 d.s) ∧ w.cell? ⟨g, o + 1, none⟩ = some (.int .i64 d.t) ∧ w.cell? ⟨g, o + 2, none⟩ = some (.int K (d.k : Int)) ∧ w.cell? ⟨g, o + 3, none⟩ = some (.int .u32 d.a) ∧ w.cell? ⟨g, o + 4, none⟩ = some (.int .i64 d.o) ∧ w.cell? ⟨g, o + 5, none⟩ = some (.int .u32 d.b) ∧ w.cell? ⟨g, o + 6, none⟩ = some (.int .u64 d.v)) : w'.cell? ⟨g, o, none⟩ = some (.int .i64 d.s) ∧ w'.cell? ⟨g, o + 1, none⟩ = some (.int .i64 d.t) ∧ w'.cell? ⟨g, o + 2, none⟩ = some (.int K (d.k : Int)) ∧ w'.cell? ⟨g, o + 3, none⟩ = some (.int .u32 d.a) ∧ w'.cell? ⟨g, o + 4, none⟩ = some (.int .i64 d.o) ∧ w'.cell? ⟨g, o + 5, none⟩ = some (.int .u32 d.b) ∧ w'.cell? ⟨g, o + 6, none⟩ = some (.int .u64 d.v) :=
  ⟨(hb.cell (by exact hg)).trans h.1, (hb.cell (by exact hg)).trans h.2.1, (hb.cell (by exact hg)).trans h.2.2.1, (hb.cell (by exact hg)).trans h.2.2.2.1, (hb.cell (by exact hg)).trans h.2.2.2.2.1, (hb.cell (by exact hg)).trans h.2.2.2.2.2.1, (hb.cell (by exact hg)).trans h.2.2.2.2.2.2⟩
theorem NtAt.all {w : World} {K : IntKind} {g o : Nat} {d : Nt} (h : NtAt w K g o d) : w.cell? ⟨g, o, none⟩ = some (.int .i64 d.s) ∧ w.cell? ⟨g, o + 1, none⟩ = some (.int .i64 d.t) ∧ w.cell? ⟨g, o + 2, none⟩ = some (.int K (d.k : Int)) ∧ w.cell? ⟨g, o + 3, none⟩ = some (.int .u32 d.a) ∧ w.cell? ⟨g, o + 4, none⟩ = some (.int .i64 d.o) ∧ w.cell? ⟨g, o + 5, none⟩ = some (.int .u32 d.b) ∧ w.cell? ⟨g, o + 6, none⟩ = some (.int .u64 d.v) := ⟨h.c0, h.c1, h.c2, h.c3, h.c4, h.c5, h.c6⟩
set_option maxHeartbeats 2000000 in
set_option maxRecDepth 100000 in
theorem same_any {w : World} {b1 b2 : Nat} {A B : Option Addr} {D : List Nt} (c c' : Nat) (hr1 : Rd w b1 A (flat .u8 D)) (hr2 : Rd w b2 B (flat .i64 D)) (hb1 : b1 ≤ w.heap.size) (hb2 : b2 ≤ w.heap.size) (hlen : D.length ≤ 1000000) (hks : ∀ d ∈ D, d.k < 256) :
    Calls Tryz.prog 29 #[.slice A D.length c, .slice B D.length c'] w fun e w' => e = .returned (.bool true) ∧ Below w.heap.size w w' := by
  have H1 := Lib.hid hr1; have H2 := Lib.hid hr2; have HS1 := Lib.hid hb1; have HS2 := Lib.hid hb2; have HKS := Lib.hid hks
  clear hr1 hr2 hb1 hb2 hks
  obtain ⟨n, hn⟩ : ∃ n, n = D.length := ⟨_, rfl⟩
  rw [← hn]
  have HN := Lib.hid hn
  have hn6 : n ≤ 1000000 := by omega
  clear hn hlen
  go_enter Tryz.func29, Tryz.ntmps29
  go_wp2_with fail
  go_loopg [5] n (fun q s5 wx => ∃ k : Nat, k ≤ n ∧ q = n - k ∧ s5 = .int .i64 (k : Int) ∧ Below w.heap.size w wx)
  case atStart => exact ⟨0, by omega, rfl, rfl, Below.refl _ _⟩
  case round =>
    obtain ⟨k, hk, rfl, rfl, hb⟩ := hrel
    have HB := Lib.hid hb
    clear hb
    by_cases hkn : k < n
    · obtain ⟨g1, o1, rfl, hg1, hN1⟩ := (H1.out.below HB.out HS1.out).note (i := k) (by have := HN.out; omega)
      obtain ⟨g2, o2, rfl, hg2, hN2⟩ := (H2.out.below HB.out HS2.out).note (i := k) (by have := HN.out; omega)
      have hl1 : g1 < wr.heap.size := by have := HB.out.size; have := HS1.out; omega
      have hl2 : g2 < wr.heap.size := by have := HB.out.size; have := HS2.out; omega
      have hdk : D[k]!.k < 256 := HKS.out _ (by have := HN.out; rw [getElem!_pos D k (by omega)]; exact List.getElem_mem _)
      generalize hd : D[k]! = d at *
      clear hd
      have hne := fun W => neq40 d d W
      simp only [decide_true, Bool.not_true] at hne
      go_upto_region 6 with (fail)
      refine wp_region_held_drew (S := fun w' => (w'.cell? ⟨g1, o1 + k * 7, none⟩ = some (.int .i64 d.s) ∧ w'.cell? ⟨g1, o1 + k * 7 + 1, none⟩ = some (.int .i64 d.t) ∧ w'.cell? ⟨g1, o1 + k * 7 + 2, none⟩ = some (.int .u8 (d.k : Int)) ∧ w'.cell? ⟨g1, o1 + k * 7 + 3, none⟩ = some (.int .u32 d.a) ∧ w'.cell? ⟨g1, o1 + k * 7 + 4, none⟩ = some (.int .i64 d.o) ∧ w'.cell? ⟨g1, o1 + k * 7 + 5, none⟩ = some (.int .u32 d.b) ∧ w'.cell? ⟨g1, o1 + k * 7 + 6, none⟩ = some (.int .u64 d.v)) ∧ (w'.cell? ⟨g2, o2 + k * 7, none⟩ = some (.int .i64 d.s) ∧ w'.cell? ⟨g2, o2 + k * 7 + 1, none⟩ = some (.int .i64 d.t) ∧ w'.cell? ⟨g2, o2 + k * 7 + 2, none⟩ = some (.int .i64 (d.k : Int)) ∧ w'.cell? ⟨g2, o2 + k * 7 + 3, none⟩ = some (.int .u32 d.a) ∧ w'.cell? ⟨g2, o2 + k * 7 + 4, none⟩ = some (.int .i64 d.o) ∧ w'.cell? ⟨g2, o2 + k * 7 + 5, none⟩ = some (.int .u32 d.b) ∧ w'.cell? ⟨g2, o2 + k * 7 + 6, none⟩ = some (.int .u64 d.v)) ∧ Below wr.heap.size wr w') (by kernel_rfl) ?_ (fun hHeld => ?_)
      · exact ⟨hN1.all, hN2.all, (Below.refl _ wr).drew⟩
      refine wpAnyH_take (i := 0) (oi := ({ dst := some 17, op := Op.move (Operand.tmp 0), type := 64, pos := "law.go:60", after := #[], guard := none } : Oper)) (v := ?v0) rfl (by kernel_rfl) (by kernel_rfl) (by kernel_rfl) (fun _ _ _ h => h) (Or.inl ⟨by rfl, fun w hSw => ?hy0⟩) (by assumption) ?r0
      case hy0 => (try dsimp only at hSw); go_simp; (try with_reducible rfl)
      (try simp only [Act.put, List.setIfInBounds_toArray, List.set_cons_zero, List.set_cons_succ])
      refine wpAnyH_take (i := 1) (oi := ({ dst := some 18, op := Op.move (Operand.tmp 5), type := 3, pos := "law.go:60", after := #[], guard := none } : Oper)) (v := ?v1) rfl (by kernel_rfl) (by kernel_rfl) (by kernel_rfl) (fun _ _ _ h => h) (Or.inl ⟨by rfl, fun w hSw => ?hy1⟩) (by assumption) ?r1
      case hy1 => (try dsimp only at hSw); go_simp; (try with_reducible rfl)
      (try simp only [Act.put, List.setIfInBounds_toArray, List.set_cons_zero, List.set_cons_succ])
      refine wpAnyH_take (i := 2) (oi := ({ dst := some 19, op := Op.indexAddr 64 (Operand.tmp 17) (Operand.tmp 18), type := 0, pos := "law.go:60", after := #[{ on := 0, ground := Ground.data }, { on := 1, ground := Ground.data }], guard := none } : Oper)) (v := ?v2) rfl (by kernel_rfl) (by kernel_rfl) (by kernel_rfl) (fun _ _ _ h => h) (Or.inl ⟨by rfl, fun w hSw => ?hy2⟩) (by assumption) ?r2
      case hy2 => (try dsimp only at hSw); go_simp; (try with_reducible rfl)
      (try simp only [Act.put, List.setIfInBounds_toArray, List.set_cons_zero, List.set_cons_succ])
      refine wpAnyH_take (i := 3) (oi := ({ dst := some 20, op := Op.load 67 (Operand.tmp 19), type := 67, pos := "law.go:60", after := #[{ on := 2, ground := Ground.data }], guard := none } : Oper)) (v := ?v3) rfl (by kernel_rfl) (by kernel_rfl) (by kernel_rfl) (fun _ _ _ h => h) (Or.inl ⟨by rfl, fun w hSw => ?hy3⟩) (by assumption) ?r3
      case hy3 => (try dsimp only at hSw); go_simp; (try with_reducible rfl)
      (try simp only [Act.put, List.setIfInBounds_toArray, List.set_cons_zero, List.set_cons_succ])
      refine wpAnyH_take (i := 5) (oi := ({ dst := some 22, op := Op.move (Operand.tmp 1), type := 91, pos := "law.go:60", after := #[], guard := none } : Oper)) (v := ?v5) rfl (by kernel_rfl) (by kernel_rfl) (by kernel_rfl) (fun _ _ _ h => h) (Or.inl ⟨by rfl, fun w hSw => ?hy5⟩) (by assumption) ?r5
      case hy5 => (try dsimp only at hSw); go_simp; (try with_reducible rfl)
      (try simp only [Act.put, List.setIfInBounds_toArray, List.set_cons_zero, List.set_cons_succ])
      refine wpAnyH_take (i := 6) (oi := ({ dst := some 23, op := Op.move (Operand.tmp 5), type := 3, pos := "law.go:60", after := #[], guard := none } : Oper)) (v := ?v6) rfl (by kernel_rfl) (by kernel_rfl) (by kernel_rfl) (fun _ _ _ h => h) (Or.inl ⟨by rfl, fun w hSw => ?hy6⟩) (by assumption) ?r6
      case hy6 => (try dsimp only at hSw); go_simp; (try with_reducible rfl)
      (try simp only [Act.put, List.setIfInBounds_toArray, List.set_cons_zero, List.set_cons_succ])
      refine wpAnyH_take (i := 7) (oi := ({ dst := some 24, op := Op.indexAddr 91 (Operand.tmp 22) (Operand.tmp 23), type := 0, pos := "law.go:60", after := #[{ on := 5, ground := Ground.data }, { on := 6, ground := Ground.data }], guard := none } : Oper)) (v := ?v7) rfl (by kernel_rfl) (by kernel_rfl) (by kernel_rfl) (fun _ _ _ h => h) (Or.inl ⟨by rfl, fun w hSw => ?hy7⟩) (by assumption) ?r7
      case hy7 => (try dsimp only at hSw); go_simp; (try with_reducible rfl)
      (try simp only [Act.put, List.setIfInBounds_toArray, List.set_cons_zero, List.set_cons_succ])
      refine wpAnyH_take (i := 8) (oi := ({ dst := some 25, op := Op.load 166 (Operand.tmp 24), type := 166, pos := "law.go:60", after := #[{ on := 7, ground := Ground.data }], guard := none } : Oper)) (v := ?v8) rfl (by kernel_rfl) (by kernel_rfl) (by kernel_rfl) (fun _ _ _ h => h) (Or.inl ⟨by rfl, fun w hSw => ?hy8⟩) (by assumption) ?r8
      case hy8 => (try dsimp only at hSw); go_simp; (try with_reducible rfl)
      (try simp only [Act.put, List.setIfInBounds_toArray, List.set_cons_zero, List.set_cons_succ])
      refine wpAnyH_ready (rs := [4]) (by kernel_rfl) (by simp) ?_
      refine AllReadyH.cons (o := ({ dst := some 21, op := Op.call { callee := Callee.value (Operand.func 61), args := #[Operand.tmp 20], argTypes := #[67] }, type := 166, pos := "law.go:60", after := #[{ on := 3, ground := Ground.data }], guard := none } : Oper)) rfl (fun Kq hKq => ?_) AllReadyH.nil
      go_simp
      (refine (other_any d hdk _).mono ?_; rintro e w1 ⟨rfl, hb1⟩)
      refine hKq.out _ _ ?_ (fun hHeld => ?_)
      · exact ⟨keep7 hb1 (by have := hHeld.2.2.size; omega) hHeld.1, keep7 hb1 (by have := hHeld.2.2.size; omega) hHeld.2.1, hHeld.2.2.trans (hb1.mono hHeld.2.2.size)⟩
      clear hKq Kq
      (try simp only [Act.put, List.setIfInBounds_toArray, List.set_cons_zero, List.set_cons_succ])
      refine wpAnyH_take (i := 9) (oi := ({ dst := some 26, op := Op.binOp BinOp.neq 166 (Operand.tmp 21) (Operand.tmp 25) 166, type := 4, pos := "law.go:60", after := #[{ on := 4, ground := Ground.data }, { on := 8, ground := Ground.data }], guard := none } : Oper)) (v := ?v9) rfl (by kernel_rfl) (by kernel_rfl) (by kernel_rfl) (fun _ _ _ h => h) (Or.inl ⟨by rfl, fun w hSw => ?hy9⟩) (by assumption) ?r9
      case hy9 => (try dsimp only at hSw); go_simp; (try with_reducible rfl)
      (try simp only [Act.put, List.setIfInBounds_toArray, List.set_cons_zero, List.set_cons_succ])
      refine wpAnyH_done (by kernel_rfl) ?_ _
      have HH := Lib.hid hHeld.2.2
      clear hHeld
      go_wp2_with fail
      go_roundg (n - (k + 1))
      case measure => omega
      case rel => exact ⟨k + 1, by omega, rfl, by go_num, HB.out.trans (HH.out.mono HB.out.size)⟩
    · obtain rfl : k = n := by omega
      go_wp2_with fail
      go_ret
      exact ⟨rfl, HB.out⟩
end Go.Proofs.YthafnphpcdbnlaaGreatDoor.S11
set_option linter.unusedVariables false
set_option linter.unusedSimpArgs false
namespace Go.Proofs.YthafnphpcdbnlaaGreatDoor.S12
open Go.Proofs.YthafnphpcdbnlaaGreatDoor Go.Proofs.YthafnphpcdbnlaaGreatDoor.S11
open Go.RowKit

def rcellsP (base R : Nat) (s : Value) (L : S2.LL) (n k a was is : Nat) : Part where
  ok w := S2.RefAt w base R s L n k a was is
  fp k := k = R ∨ s.ownBlock = some k
  lt w h k e := by
    rcases e with rfl | e
    · exact h.lt
    · exact (h.own.lt k e).2
  kept S w w' h t hs := h.kept (S := S) ⟨t.os, t.tape, t.output, t.size, t.block⟩ (hs R (.inl rfl)) (fun g e => hs g (.inr e))
def rclockP (base B T most : Nat) (s : Value) (D : List Nat) : Part where
  ok w := S3.RefAt w base B T most s D
  fp k := k = B ∨ s.ownBlock = some k
  lt w h k e := by
    rcases e with rfl | e
    · exact h.lt
    · exact (h.own.lt k e).2
  kept S w w' h t hs := h.kept (S := S) ⟨t.os, t.tape, t.output, t.size, t.block⟩ (hs B (.inl rfl)) (fun g e => hs g (.inr e))
def rtablesP (base : Nat) (own : Nat → Option S10.Role) (s : Value) (M : Int → List S10.Bk) : Part where
  ok w := S10.Rt w base own s M
  fp k := S10.Mine own k
  lt w h k e := (h.fp e).2
  kept S w w' h t hs := h.keep (S := S) ⟨t.os, t.tape, t.output, t.size, t.block⟩ hs
section
variable {w w' : World} {base b0 i : Nat} {l : List Part}
theorem t_rcells {R : Nat} {s s' : Value} {L L' : S2.LL} {n k a was is n' k' a' was' is' : Nat} (h : Parts w base l) (hi : l[i]? = some (rcellsP b0 R s L n k a was is)) (c : S2.RefAt w' b0 R s' L' n' k' a' was' is') (ho : ∀ g, s'.ownBlock = some g → s.ownBlock = some g ∨ w.heap.size ≤ g) (t : S2.Turns (fun k => k = R ∨ s.ownBlock = some k) w w') :
    Parts w' base (l.set i (rcellsP b0 R s' L' n' k' a' was' is')) ∧ Below base w w' := by
  refine h.turn hi (rcellsP b0 R s' L' n' k' a' was' is') c ⟨t.os, t.tape, t.output, t.size, t.block⟩ (fun k e => ?_)
  rcases e with e | e
  · exact .inl (.inl e)
  · rcases ho k e with e | e
    · exact .inl (.inr e)
    · exact .inr e
theorem t_rclock {B T most T' most' : Nat} {s s' : Value} {D D' : List Nat} (h : Parts w base l) (hi : l[i]? = some (rclockP b0 B T most s D)) (c : S3.RefAt w' b0 B T' most' s' D') (ho : ∀ g, s'.ownBlock = some g → s.ownBlock = some g ∨ w.heap.size ≤ g) (t : S3.Turns (fun k => k = B ∨ s.ownBlock = some k) w w') :
    Parts w' base (l.set i (rclockP b0 B T' most' s' D')) ∧ Below base w w' := by
  refine h.turn hi (rclockP b0 B T' most' s' D') c ⟨t.os, t.tape, t.output, t.size, t.block⟩ (fun k e => ?_)
  rcases e with e | e
  · exact .inl (.inl e)
  · rcases ho k e with e | e
    · exact .inl (.inr e)
    · exact .inr e
theorem t_rtables {own own' : Nat → Option S10.Role} {s : Value} {M M' : Int → List S10.Bk} (h : Parts w base l) (hi : l[i]? = some (rtablesP b0 own s M)) (c : S10.Rt w' b0 own' s M') (t : S10.Turns (S10.Mine own) w w') (f : S10.Fresh own own' w) :
    Parts w' base (l.set i (rtablesP b0 own' s M')) ∧ Below base w w' :=
  h.turn hi (rtablesP b0 own' s M') c ⟨t.os, t.tape, t.output, t.size, t.block⟩ (fun k ⟨r, e⟩ => f k r e)
end
end Go.Proofs.YthafnphpcdbnlaaGreatDoor.S12
