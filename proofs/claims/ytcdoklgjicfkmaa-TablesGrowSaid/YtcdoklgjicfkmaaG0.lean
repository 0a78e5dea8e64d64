/- A set that was placed, and grew: plain. -/
import Derived.Test.YtcdoklgjicfkmaaX1
import Derived.Test.YtcdoklgjicfkmaaM3
namespace Go.Proofs.Ytcdoklgjicfkmaa

/-- Whoever was there is in the table of b bits, where its key hashes to, and nowhere else. -/
structure Inv (h : Nat → Nat → Nat) (D : List Ent) (M : Int → List Bk) (b : Nat) (t : Int) : Prop where
  here : M (b : Int) = fresh t (reh (h b) (2 ^ b) D)
  none : ∀ b' : Int, b' ≠ b → ∀ i, i < (M b').length → (M b')[i]!.q = []
  more : ∀ b' : Int, (b : Int) < b' → M b' = []
theorem Inv.q {h : Nat → Nat → Nat} {D : List Ent} {M : Int → List Bk} {b : Nat} {t : Int} (I : Inv h D M b t) : (M (b : Int)).map Bk.q = reh (h b) (2 ^ b) D := by rw [I.here, fresh_q]
theorem Inv.len {h : Nat → Nat → Nat} {D : List Ent} {M : Int → List Bk} {b : Nat} {t : Int} (I : Inv h D M b t) : (M (b : Int)).length = 2 ^ b := by rw [I.here, fresh_len, reh_len]
theorem reh_on {h : Nat → Nat → Nat} (hh : ∀ b, b < 64 → ∀ k, h (b + 1) k / 2 = h b k) {D : List Ent} (hk : Keys D) {b b' : Nat} (hb : b ≤ b') (hb' : b' ≤ 8) (hlt : ∀ k, k < 4294967296 → h b k < 2 ^ b) :
    reh (h b') (2 ^ b') (reh (h b) (2 ^ b) D).flatten = reh (h b') (2 ^ b') D := by
  obtain ⟨d, rfl⟩ : ∃ d, b' = b + d := ⟨b' - b, by omega⟩
  exact reh_reh (h := h b) (H := h (b + d)) (f := fun x => x / 2 ^ d) (half_on hh b d (by omega)) (2 ^ (b + d)) hk hlt
theorem Inv.grow {h : Nat → Nat → Nat} (hh : ∀ b, b < 64 → ∀ k, h (b + 1) k / 2 = h b k) {D : List Ent} (hk : Keys D) {M : Int → List Bk} {b : Nat} {t : Int} (I : Inv h D M b t) {b' : Nat} (hb : b < b') (hb' : b' ≤ 8) (hlt : ∀ k, k < 4294967296 → h b k < 2 ^ b) (now : Int) :
    Inv h D (grown M (h b') (2 ^ b') (b : Int) (b' : Int) now) b' now := by
  unfold grown
  refine ⟨?_, fun x hx i hi => ?_, fun x hx => ?_⟩
  · rw [upd_same, I.q, reh_on hh hk (by omega) hb' hlt]
  · rw [upd_ne _ _ hx] at hi ⊢
    by_cases e : x = b
    · subst e
      rw [upd_same, hollow_len] at hi
      rw [upd_same, hollow_at _ hi]
    · rw [upd_ne _ _ e] at hi ⊢
      exact I.none x e i hi
  · rw [upd_ne _ _ (by omega), upd_ne _ _ (by omega)]
    exact I.more x (by omega)
/-- How many entries of a thread there are. -/
def cnt (t : Int) (D : List Ent) : Nat := (D.filter fun e => decide (e.t = t)).length
theorem cnt_le (t : Int) (D : List Ent) : cnt t D ≤ D.length := List.length_filter_le _ _
theorem cnt_take {t : Int} {D : List Ent} {k : Nat} (hk : k < D.length) : cnt t (D.take (k + 1)) = cnt t (D.take k) + if D[k]!.t = t then 1 else 0 := by
  unfold cnt
  rw [take_snoc hk, List.filter_append, List.length_append]
  generalize D[k]! = d
  by_cases h : d.t = t
  · simp [h]
  · simp [h]
theorem plQ_cnt (b i t : Int) (q : List Ent) : (plQ b i t q).length = cnt t q := by unfold plQ cnt; rw [List.length_map]
theorem cnt_bk (h : Nat → Nat) (i : Nat) (t : Int) (D : List Ent) : cnt t (bk h i D) = (bk h i (D.filter fun e => decide (e.t = t))).length := by
  unfold cnt bk
  rw [List.filter_filter, List.filter_filter]
  congr 1
  refine List.filter_congr fun x _ => ?_
  exact Bool.and_comm _ _
theorem plT_cnt (b t τ : Int) (h : Nat → Nat) (n : Nat) (D : List Ent) : ∀ k, k ≤ n → (plT b t (fresh τ (reh h n D)) k).length = (reh h k (D.filter fun e => decide (e.t = t))).flatten.length
  | 0, _ => by simp [plT, reh]
  | k + 1, hk => by
    rw [plT_succ, List.length_append, plT_cnt b t τ h n D k (by omega), plQ_cnt, fresh_at τ _ (by rw [reh_len]; omega), reh_at h D (by omega), cnt_bk]
    unfold reh
    rw [List.range_succ, List.map_append, List.flatten_append, List.length_append]
    simp
theorem plT_fst (b t : Int) (L : List Bk) (k : Nat) : ∀ p ∈ plT b t L k, p.1 = b := fun p hp => by
  unfold plT at hp
  rw [List.mem_flatMap] at hp
  obtain ⟨i, _, hp⟩ := hp
  unfold plQ at hp
  rw [List.mem_map] at hp
  obtain ⟨e, _, rfl⟩ := hp
  rfl
theorem plM_one (M : Int → List Bk) (t : Int) (b : Nat) (hn : ∀ b' : Int, b' ≠ b → ∀ i, i < (M b').length → (M b')[i]!.q = []) : ∀ k, plM M t k = if 2 ≤ b ∧ b < k + 2 then plT (b : Int) t (M (b : Int)) (M (b : Int)).length else []
  | 0 => by rw [if_neg (by omega)]; rfl
  | k + 1 => by
    rw [plM_succ, plM_one M t b hn k]
    by_cases e : b = k + 2
    · subst e
      rw [if_neg (by omega), if_pos (by omega)]; rfl
    · have h0 : plT ((k + 2 : Nat) : Int) t (M ((k + 2 : Nat) : Int)) (M ((k + 2 : Nat) : Int)).length = [] := plT_none _ _ _ (hn _ (by omega)) _ (Nat.le_refl _)
      rw [h0, List.append_nil]
      by_cases h : 2 ≤ b ∧ b < k + 2
      · rw [if_pos h, if_pos (by omega)]
      · rw [if_neg h, if_neg (by omega)]
theorem Inv.places {h : Nat → Nat → Nat} {D : List Ent} {M : Int → List Bk} {b : Nat} {τ : Int} (I : Inv h D M b τ) (hb : 2 ≤ b) (hb8 : b ≤ 8) (hk : Keys D) (hlt : ∀ k, k < 4294967296 → h b k < 2 ^ b) (t : Int) :
    (plM M t 7).length = cnt t D ∧ ∀ p ∈ plM M t 7, p.1 = (b : Int) := by
  have h1 := plM_one M t b I.none 7
  rw [if_pos (by omega), I.len, I.here] at h1
  rw [h1]
  refine ⟨?_, plT_fst _ _ _ _⟩
  rw [plT_cnt _ _ _ _ _ _ _ (Nat.le_refl _), reh_total (h b) (2 ^ b) _ (fun e he => hk e (List.mem_filter.1 he).1) hlt]
  rfl
/-- The model of the first k entries, placed. -/
def Mp (h : Nat → Nat) (E : List Ent) : Int → List Bk := upd (fun _ => []) 2 (fresh 0 (reh h 4 E))
theorem mp_first (h : Nat → Nat) : M0 0 = Mp h [] := by unfold M0 Mp; rw [reh_nil]
theorem mp2 (h : Nat → Nat) (E : List Ent) : Mp h E 2 = fresh 0 (reh h 4 E) := upd_same _ _ _
theorem fresh_set (t : Int) (Ls : List (List Ent)) (i : Nat) (q : List Ent) : fresh t (Ls.set i q) = (fresh t Ls).set i ⟨t, t, q⟩ := by unfold fresh; rw [List.map_set]
theorem mp_put (h : Nat → Nat) (E : List Ent) (e : Ent) (hb : h e.k.toNat < 4) : upd (Mp h E) 2 ((Mp h E 2).set (h e.k.toNat) { (Mp h E 2)[h e.k.toNat]! with q := (Mp h E 2)[h e.k.toNat]!.q ++ [e] }) = Mp h (E ++ [e]) := by
  have hat : (Mp h E 2)[h e.k.toNat]! = ⟨0, 0, bk h (h e.k.toNat) E⟩ := by rw [mp2, fresh_at 0 _ (by rw [reh_len]; exact hb), reh_at h E hb]
  rw [hat]
  unfold Mp
  rw [reh_snoc h E e hb, fresh_set]
  funext x
  by_cases hx : x = 2
  · subst hx; rw [upd_same, upd_same, upd_same]
  · rw [upd_ne _ _ hx, upd_ne _ _ hx, upd_ne _ _ hx]
theorem mp_inv (h : Nat → Nat → Nat) (D : List Ent) : Inv h D (Mp (h 2) D) 2 0 :=
  ⟨mp2 _ _, fun b hb i hi => by rw [show Mp (h 2) D b = [] from upd_ne _ _ (show b ≠ 2 from hb)] at hi; simp at hi, fun b hb => upd_ne _ _ (by omega)⟩
theorem mp_good (h : Nat → Nat) (E : List Ent) (hk : Keys E) (hlt : ∀ k, k < 4294967296 → h k < 4) : Good (Mp h E) E.length := by
  have h2 : Mp h E 2 = fresh 0 (reh h 4 E) := mp2 h E
  have hno : ∀ b, b ≠ 2 → Mp h E b = [] := fun b hb => upd_ne _ _ hb
  refine ⟨fun b hb => hno b (by omega), fun b hb => ?_, fun b => ?_, fun b => ?_⟩
  · by_cases e : b = 2
    · subst e; rw [h2, fresh_len, reh_len]; rfl
    · exact absurd (hno b e) hb
  · by_cases e : b = 2
    · subst e; rw [h2, fresh_q]; exact keys_reh hk 4
    · rw [hno b e]; intro e he; simp at he
  · by_cases e : b = 2
    · subst e; rw [h2, fresh_q, reh_total h 4 E hk hlt]; exact Nat.le_refl _
    · rw [hno b e]; simp
end Go.Proofs.Ytcdoklgjicfkmaa
