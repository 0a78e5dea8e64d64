/- Both sets side by side: what each call makes of the model, told of both. -/
import Derived.Test.YtcdoklgjicfkmaaV1
import Derived.Test.YtcdoklgjicfkmaaM2
namespace Go.Proofs.Ytcdoklgjicfkmaa
open Go.RowKit

/-- A model that may be: at most N entries a table. -/
structure Good (M : Int → List Bk) (N : Nat) : Prop where
  no : ∀ b, (b < 2 ∨ 8 < b) → M b = []
  size : ∀ b, M b ≠ [] → (M b).length = 2 ^ b.toNat
  keys : ∀ b, Keys ((M b).map Bk.q).flatten
  few : ∀ b, ((M b).map Bk.q).flatten.length ≤ N
theorem Good.len {M : Int → List Bk} {N : Nat} (h : Good M N) (b : Int) : (M b).length ≤ 256 := by
  by_cases h0 : M b = []
  · rw [h0]; simp
  · rw [h.size b h0]
    have : b.toNat ≤ 8 := by
      by_cases h1 : b < 2 ∨ 8 < b
      · exact absurd (h.no b h1) h0
      · omega
    calc 2 ^ b.toNat ≤ 2 ^ 8 := Nat.pow_le_pow_right (by omega) this
      _ = 256 := rfl
theorem Good.mono {M : Int → List Bk} {N N' : Nat} (h : Good M N) (hn : N ≤ N') : Good M N' := ⟨h.no, h.size, h.keys, fun b => Nat.le_trans (h.few b) hn⟩
theorem mem_q {L : List Bk} {i : Nat} (hi : i < L.length) {e : Ent} (he : e ∈ L[i]!.q) : e ∈ (L.map Bk.q).flatten := by
  rw [List.mem_flatten]
  rw [getElem!_pos L i hi] at he
  exact ⟨_, List.mem_map.2 ⟨_, List.getElem_mem hi, rfl⟩, he⟩
theorem q_len {L : List Bk} {i : Nat} (hi : i < L.length) : L[i]!.q.length ≤ (L.map Bk.q).flatten.length := by
  have h1 := cum_le (L.map Bk.q) (i + 1) (by rw [List.length_map]; omega)
  rw [cum_succ (by rw [List.length_map]; exact hi), map_at L hi] at h1
  omega
theorem flat_set (L : List Bk) {i : Nat} (hi : i < L.length) (x : Bk) : ((L.set i x).map Bk.q).flatten.length + L[i]!.q.length = (L.map Bk.q).flatten.length + x.q.length := by
  have h1 : L = L.take i ++ L[i]! :: L.drop (i + 1) := by
    rw [getElem!_pos L i hi, List.getElem_cons_drop, List.take_append_drop]
  have h2 : L.set i x = L.take i ++ x :: L.drop (i + 1) := by rw [List.set_eq_take_append_cons_drop, if_pos hi]
  have h3 : (L.map Bk.q).flatten.length = ((L.take i ++ L[i]! :: L.drop (i + 1)).map Bk.q).flatten.length := by rw [← h1]
  rw [h3, h2]
  simp only [List.map_append, List.map_cons, List.flatten_append, List.flatten_cons, List.length_append]
  omega
theorem mem_set {L : List Bk} {i : Nat} (hi : i < L.length) {x : Bk} {e : Ent} (he : e ∈ ((L.set i x).map Bk.q).flatten) : e ∈ (L.map Bk.q).flatten ∨ e ∈ x.q := by
  rw [List.mem_flatten] at he
  obtain ⟨l, hl, he⟩ := he
  rw [List.mem_map] at hl
  obtain ⟨y, hy, rfl⟩ := hl
  rcases List.mem_or_eq_of_mem_set hy with h | rfl
  · exact .inl (List.mem_flatten.2 ⟨_, List.mem_map.2 ⟨_, h, rfl⟩, he⟩)
  · exact .inr he
theorem Good.put {M : Int → List Bk} {N : Nat} (h : Good M N) (b : Int) {i : Nat} (hi : i < (M b).length) (x : Bk) (hk : Keys x.q) (X : Nat) (hx : x.q.length ≤ (M b)[i]!.q.length + X) : Good (upd M b ((M b).set i x)) (N + X) := by
  refine ⟨upd_no h.no b i x, fun b' hb => ?_, fun b' => ?_, fun b' => ?_⟩
  · rw [upd_len]
    refine h.size b' (fun e => hb ?_)
    have := upd_len M b i x b'
    rw [e] at this
    exact List.eq_nil_of_length_eq_zero (by simpa using this)
  · by_cases e : b' = b
    · subst e
      rw [upd_same]
      intro y hy
      rcases mem_set hi hy with h' | h'
      · exact h.keys b' y h'
      · exact hk y h'
    · rw [upd_ne _ _ e]; exact h.keys b'
  · by_cases e : b' = b
    · subst e
      rw [upd_same]
      have h1 := flat_set (M b') hi x
      have h2 := h.few b'
      omega
    · rw [upd_ne _ _ e]
      have := h.few b'
      omega
theorem hollow_flat (L : List Bk) : ((hollow L).map Bk.q).flatten = [] := by
  rw [List.flatten_eq_nil_iff]
  intro l hl
  simp only [hollow, List.map_map, List.mem_map] at hl
  obtain ⟨x, _, rfl⟩ := hl
  rfl
theorem fresh_q (now : Int) (Ls : List (List Ent)) : (fresh now Ls).map Bk.q = Ls := by
  simp only [fresh, List.map_map]
  exact (List.map_congr_left (fun _ _ => rfl)).trans (List.map_id _)
theorem keys_reh {h : Nat → Nat} {E : List Ent} (hk : Keys E) (n : Nat) : Keys (reh h n E).flatten := fun e he => by
  rw [List.mem_flatten] at he
  obtain ⟨l, hl, he⟩ := he
  simp only [reh, List.mem_map] at hl
  obtain ⟨i, _, rfl⟩ := hl
  exact hk e (List.mem_filter.1 he).1
theorem Good.grow {M : Int → List Bk} {N : Nat} (hg : Good M N) {fr tg : Int} (now : Int) (h1 : 2 ≤ fr) (h2 : fr < tg) (h3 : tg ≤ 8) {h : Nat → Nat} (hlt : ∀ k, k < 4294967296 → h k < 2 ^ tg.toNat) : Good (grown M h (2 ^ tg.toNat) fr tg now) N := by
  unfold grown
  refine ⟨fun b hb => ?_, fun b hb => ?_, fun b => ?_, fun b => ?_⟩
  · rw [upd_ne _ _ (by omega), upd_ne _ _ (by omega)]; exact hg.no b hb
  · by_cases e : b = tg
    · subst e
      rw [upd_same, fresh_len, reh_len]
    · rw [upd_ne _ _ e] at hb ⊢
      by_cases e2 : b = fr
      · subst e2
        rw [upd_same] at hb ⊢
        rw [hollow_len]
        exact hg.size b (fun e3 => hb (by rw [e3]; rfl))
      · rw [upd_ne _ _ e2] at hb ⊢
        exact hg.size b hb
  · by_cases e : b = tg
    · subst e
      rw [upd_same, fresh_q]
      exact keys_reh (hg.keys fr) _
    · rw [upd_ne _ _ e]
      by_cases e2 : b = fr
      · subst e2
        rw [upd_same, hollow_flat]
        intro e he; simp at he
      · rw [upd_ne _ _ e2]; exact hg.keys b
  · by_cases e : b = tg
    · subst e
      rw [upd_same, fresh_q, reh_total h _ _ (hg.keys fr) hlt]
      exact hg.few fr
    · rw [upd_ne _ _ e]
      by_cases e2 : b = fr
      · subst e2
        rw [upd_same, hollow_flat]; simp
      · rw [upd_ne _ _ e2]; exact hg.few b
theorem good_first (now : Int) : Good (M0 now) 0 := by
  have h2 : M0 now 2 = fresh now (List.replicate 4 []) := upd_same _ _ _
  have hno : ∀ b, b ≠ 2 → M0 now b = [] := fun b hb => upd_ne _ _ hb
  have hfl : (List.replicate 4 ([] : List Ent)).flatten = [] := rfl
  refine ⟨fun b hb => hno b (by omega), fun b hb => ?_, fun b => ?_, fun b => ?_⟩
  · by_cases e : b = 2
    · subst e; rw [h2, fresh_len]; rfl
    · exact absurd (hno b e) hb
  · by_cases e : b = 2
    · subst e; rw [h2, fresh_q, hfl]; intro e he; simp at he
    · rw [hno b e]; intro e he; simp at he
  · by_cases e : b = 2
    · subst e; rw [h2, fresh_q, hfl]; simp
    · rw [hno b e]; simp
theorem St.mono {w : World} {base : Nat} {own : Nat → Option Role} {s : Value} {n n' : Nat} {M : Int → List Bk} (h : St w base own s n M) (hn : n ≤ n') : St w base own s n' M := by
  obtain ⟨sb, mb, F, V, h⟩ := h
  obtain ⟨D, h1, h2, h3⟩ := h.hm
  exact ⟨sb, mb, F, V, h.fp, h.hs, h.hc, h.os, ⟨D, h1.mono hn, h2, h3⟩, h.om, h.ht, h.ot, h.hq, h.oq⟩

/-- What a call does to a set, and to the document's. -/
def StC (f : Nat) (args : Value → List Value) (v : Value) (W : World) (base : Nat) (own : Nat → Option Role) (s : Value) (n' : Nat) (M' : Int → List Bk) : Prop :=
  Calls Try.prog f (args s).toArray W fun e w' => e = .returned v ∧ ∃ own', St w' base own' s n' M' ∧ Turns (Mine own) W w' ∧ Fresh own own' W
section
variable {M : Int → List Bk} {N : Nat}
theorem out_or (M : Int → List Bk) (b i : Int) : (i < 0 ∨ ((M b).length : Int) ≤ i) ∨ ∃ k : Nat, i = (k : Int) ∧ k < (M b).length := by
  by_cases h : i < 0 ∨ ((M b).length : Int) ≤ i
  · exact .inl h
  · exact .inr ⟨i.toNat, by omega, by omega⟩
theorem put_all (g : Good M N) {b : Int} (hb : InI b) (i : Int) {D : List Ent} (hk : Keys D) (hD : D.length ≤ 60) : ∃ (a : Bool) (M' : Int → List Bk), Good M' (N + 60) ∧
    (∀ W base own s n b0 A c, St W base own s n M → Rd W b0 A (flat D) → b0 ≤ W.heap.size → Calls Try.prog 15 #[s, .agg #[.int .i64 b, .int .i64 i], .slice A D.length c] W fun e w' => e = .returned (.bool a) ∧ ∃ own', St w' base own' s n M' ∧ Turns (Mine own) W w' ∧ Fresh own own' W) ∧
    (∀ W base own s b0 A c, Rt W base own s M → Rd W b0 A (flat D) → b0 ≤ W.heap.size → Calls Try.prog 31 #[s, .agg #[.int .i64 b, .int .i64 i], .slice A D.length c] W fun e w' => e = .returned (.bool a) ∧ ∃ own', Rt w' base own' s M' ∧ Turns (Mine own) W w' ∧ Fresh own own' W) := by
  rcases out_or M b i with h | ⟨k, rfl, h⟩
  · refine ⟨false, M, g.mono (by omega), fun W base own s n b0 A c hs hr hb0 => ?_, fun W base own s b0 A c hs hr hb0 => ?_⟩
    · obtain ⟨F, hr⟩ := hs.rs
      refine (put_no hr hb h A D.length c).mono ?_
      rintro e w' ⟨rfl, hbl⟩
      exact ⟨rfl, own, hs.new hbl, Turns.of_below hbl, Fresh.refl _ _⟩
    · refine (rput_no hs h A D.length c).mono ?_
      rintro e w' ⟨rfl, hbl⟩
      exact ⟨rfl, own, hs.new hbl, Turns.of_below hbl, Fresh.refl _ _⟩
  · refine ⟨true, _, g.put b h { (M b)[k]! with q := D } hk 60 (by show D.length ≤ _; omega), fun W base own s n b0 A c hs hr hb0 => put_yes hs hb h hr hb0 (by omega), fun W base own s b0 A c hs hr hb0 => rput_yes hs h hr hb0 (by omega)⟩
theorem putT_all (g : Good M N) {b : Int} (hb : InI b) (i ta tf : Int) : ∃ (a : Bool) (M' : Int → List Bk), Good M' N ∧
    (∀ W base own s n, St W base own s n M → Calls Try.prog 16 #[s, .agg #[.int .i64 b, .int .i64 i], .agg #[.int .u64 ta, .int .u64 tf]] W fun e w' => e = .returned (.bool a) ∧ St w' base own s n M' ∧ Turns (Mine own) W w') ∧
    (∀ W base own s, Rt W base own s M → Calls Try.prog 33 #[s, .agg #[.int .i64 b, .int .i64 i], .agg #[.int .u64 ta, .int .u64 tf]] W fun e w' => e = .returned (.bool a) ∧ Rt w' base own s M' ∧ Turns (Mine own) W w') := by
  rcases out_or M b i with h | ⟨k, rfl, h⟩
  · refine ⟨false, M, g, fun W base own s n hs => ?_, fun W base own s hs => ?_⟩
    · obtain ⟨F, hr⟩ := hs.rs
      refine (putT_no hr hb h ta tf).mono ?_
      rintro e w' ⟨rfl, hbl⟩
      exact ⟨rfl, hs.new hbl, Turns.of_below hbl⟩
    · refine (rputT_no hs h ta tf).mono ?_
      rintro e w' ⟨rfl, hbl⟩
      exact ⟨rfl, hs.new hbl, Turns.of_below hbl⟩
  · have hk : Keys (M b)[k]!.q := fun e he => g.keys b e (mem_q h he)
    exact ⟨true, _, (g.put b h { (M b)[k]! with a := ta, f := tf } hk 0 (by show (M b)[k]!.q.length ≤ _; omega)), fun W base own s n hs => putT_yes hs hb h ta tf, fun W base own s hs => rputT_yes hs h ta tf⟩
theorem queue_all (g : Good M N) (hN : N ≤ 100000) {b : Int} (hb : InI b) (i : Int) : ∃ D : List Ent, D.length ≤ 100000 ∧
    (∀ W base own s n, St W base own s n M → Calls Try.prog 19 #[s, .agg #[.int .i64 b, .int .i64 i]] W fun e w' => ∃ A', e = .returned (.slice A' D.length D.length) ∧ RowE w' W.heap.size (.slice A' D.length D.length) D ∧ Below W.heap.size W w') ∧
    (∀ W base own s, Rt W base own s M → Calls Try.prog 37 #[s, .agg #[.int .i64 b, .int .i64 i]] W fun e w' => ∃ A' c', e = .returned (.slice A' D.length c') ∧ D.length ≤ c' ∧ c' ≤ 9223372036854775807 ∧ Rd w' W.heap.size A' (flat D) ∧ Below W.heap.size W w') := by
  rcases out_or M b i with h | ⟨k, rfl, h⟩
  · refine ⟨[], by simp, fun W base own s n hs => ?_, fun W base own s hs => ?_⟩
    · obtain ⟨F, hr⟩ := hs.rs
      refine (queue_no hr hb h).mono ?_
      rintro e w' ⟨rfl, hbl⟩
      exact ⟨none, rfl, row_nil _ _ _, hbl⟩
    · refine (rqueue_no hs h).mono ?_
      rintro e w' ⟨rfl, hbl⟩
      exact ⟨none, 0, rfl, by simp, by omega, Rd.nil, hbl⟩
  · have hq := q_len h
    have := g.few b
    refine ⟨(M b)[k]!.q, by omega, fun W base own s n hs => ?_, fun W base own s hs => rqueue_yes hs h⟩
    obtain ⟨F, hr⟩ := hs.rs
    exact queue_yes hr hb h (by omega)
theorem timer_all (M : Int → List Bk) {b : Int} (hb : InI b) (i : Int) : ∃ ta tf : Int,
    (∀ W base own s n, St W base own s n M → Calls Try.prog 20 #[s, .agg #[.int .i64 b, .int .i64 i]] W fun e w' => e = .returned (.agg #[.int .u64 ta, .int .u64 tf]) ∧ Below W.heap.size W w') ∧
    (∀ W base own s, Rt W base own s M → Calls Try.prog 38 #[s, .agg #[.int .i64 b, .int .i64 i]] W fun e w' => e = .returned (.agg #[.int .u64 ta, .int .u64 tf]) ∧ Below W.heap.size W w') := by
  rcases out_or M b i with h | ⟨k, rfl, h⟩
  · refine ⟨0, 0, fun W base own s n hs => ?_, fun W base own s hs => rtimer_no hs h⟩
    obtain ⟨F, hr⟩ := hs.rs
    exact timer_no hr hb h
  · refine ⟨_, _, fun W base own s n hs => ?_, fun W base own s hs => rtimer_yes hs h⟩
    obtain ⟨F, hr⟩ := hs.rs
    exact timer_yes hr hb h
theorem has_all (M : Int → List Bk) {b : Int} (hb : InI b) : ∃ a : Bool,
    (∀ W base own s n, St W base own s n M → Calls Try.prog 18 #[s, .int .i64 b] W fun e w' => e = .returned (.bool a) ∧ W = w') ∧
    (∀ W base own s, Rt W base own s M → Calls Try.prog 39 #[s, .int .i64 b] W fun e w' => e = .returned (.bool a) ∧ W = w') := by
  refine ⟨decide (0 < (M b).length), fun W base own s n hs => ?_, fun W base own s hs => rhas_any hs b⟩
  obtain ⟨F, hr⟩ := hs.rs
  obtain ⟨A, c, V, e, _⟩ := hr.rd b
  exact has_any hr.sv hb e
theorem grow_all (g : Good M N) (hN : N ≤ 100000) {fr tg : Int} (hf : InI fr) (ht : InI tg) (now : Int) : ∃ (a : Bool) (M' : Int → List Bk), Good M' N ∧
    (∀ W base own s n, n < 1000000 → St W base own s n M → Calls Try.prog 17 #[s, .int .i64 fr, .int .i64 tg, .int .u64 now] W fun e w' => e = .returned (.bool a) ∧ ∃ own', St w' base own' s (n + 1) M' ∧ Turns (Mine own) W w' ∧ Fresh own own' W) ∧
    (∀ W base own s, Rt W base own s M → Calls Try.prog 35 #[s, .int .i64 fr, .int .i64 tg, .int .u64 now] W fun e w' => e = .returned (.bool a) ∧ ∃ own', Rt w' base own' s M' ∧ Turns (Mine own) W w' ∧ Fresh own own' W) := by
  by_cases hno : M fr = [] ∨ tg ≤ fr ∨ 8 < tg ∨ M tg ≠ []
  · refine ⟨false, M, g, fun W base own s n _ hs => ?_, fun W base own s hs => ?_⟩
    · obtain ⟨F, hr⟩ := hs.rs
      refine (grow_no hr hf ht now hno).mono ?_
      rintro e w' ⟨rfl, rfl⟩
      exact ⟨rfl, own, hs.mono (by omega), Turns.refl _ _, Fresh.refl _ _⟩
    · refine (rgrow_no hs now hno).mono ?_
      rintro e w' ⟨rfl, rfl⟩
      exact ⟨rfl, own, hs, Turns.refl _ _, Fresh.refl _ _⟩
  · have h0 : M fr ≠ [] := fun e => hno (.inl e)
    have h1 : fr < tg := by
      by_cases h : tg ≤ fr
      · exact absurd (.inr (.inl h)) hno
      · omega
    have h2 : tg ≤ 8 := by
      by_cases h : 8 < tg
      · exact absurd (.inr (.inr (.inl h))) hno
      · omega
    have h3 : M tg = [] := by
      by_cases h : M tg = []
      · exact h
      · exact absurd (.inr (.inr (.inr h))) hno
    have h4 : 2 ≤ fr := by
      by_cases h : fr < 2 ∨ 8 < fr
      · exact absurd (g.no fr h) h0
      · omega
    obtain ⟨h, hk, -⟩ := kits
    have K := hk tg.toNat (by omega) (by omega)
    have Kf := hk fr.toNat (by omega) (by omega)
    rw [Int.toNat_of_nonneg (by omega)] at K Kf
    have hlt : ∀ k, k < 4294967296 → h tg.toNat k < 2 ^ tg.toNat := K.lt (Nat.pow_pos (by omega))
    have hl := g.size fr h0
    have hfew := g.few fr
    have hle := g.len fr
    exact ⟨true, _, g.grow now h4 h1 h2 hlt, fun W base own s n hn hs => grow_yes hs hf ht now h0 h1 h2 h3 K hle (g.keys fr) (by omega) hn, fun W base own s hs => rgrow_yes hs now h0 h1 h2 h3 K Kf hl (g.keys fr) (by omega)⟩
theorem places_all (g : Good M N) (hN : N ≤ 100000) (t : Int) : ∃ D : List (Int × Int), D.length ≤ 1000000 ∧
    (∀ W base own s n, St W base own s n M → Calls Try.prog 12 #[s, .int .i64 t] W fun e w' => ∃ A, e = .returned (.slice A D.length D.length) ∧ RowP w' W.heap.size (.slice A D.length D.length) D ∧ Below W.heap.size W w') ∧
    (∀ W base own s, Rt W base own s M → Calls Try.prog 13 #[s, .int .i64 t] W fun e w' => ∃ s', e = .returned s' ∧ RowP w' W.heap.size s' D ∧ Below W.heap.size W w') := by
  have hfew : ∀ b, ((M b).map Bk.q).flatten.length ≤ 100000 := fun b => Nat.le_trans (g.few b) hN
  refine ⟨plM M t 7, by have := plM_len M t 100000 hfew 7; omega, fun W base own s n hs => ?_, fun W base own s hs => rplaces_any hs t g.len hfew⟩
  obtain ⟨F, hr⟩ := hs.rs
  exact places_any hr t g.len hfew
end
/-- Both sets side by side. -/
structure Both (w : World) (base : Nat) (own ownR : Nat → Option Role) (s r : Value) (n : Nat) (M : Int → List Bk) : Prop where
  st : St w base own s n M
  rt : Rt w base ownR r M
  dj : ∀ g, Mine own g → ¬ Mine ownR g
theorem Both.keep {w : World} {base : Nat} {own ownR : Nat → Option Role} {s r : Value} {n : Nat} {M : Int → List Bk} (h : Both w base own ownR s r n M) {S : Nat → Prop} {w' : World} (t : Turns S w w') (h1 : ∀ g, Mine own g → ¬ S g) (h2 : ∀ g, Mine ownR g → ¬ S g) : Both w' base own ownR s r n M := ⟨h.st.keep t h1, h.rt.keep t h2, h.dj⟩
theorem Both.new {w : World} {base : Nat} {own ownR : Nat → Option Role} {s r : Value} {n : Nat} {M : Int → List Bk} (h : Both w base own ownR s r n M) {w' : World} (hb : Below w.heap.size w w') : Both w' base own ownR s r n M := h.keep (Turns.of_below (S := fun _ => False) hb) (fun _ _ e => e) (fun _ _ e => e)
end Go.Proofs.Ytcdoklgjicfkmaa
