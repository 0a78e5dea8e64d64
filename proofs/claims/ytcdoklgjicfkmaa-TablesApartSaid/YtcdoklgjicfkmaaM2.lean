/- Who has a key, in queues and rehashed: plain. -/
import Derived.Test.YtcdoklgjicfkmaaR1
namespace Go.Proofs.Ytcdoklgjicfkmaa

/-- The entries of a key, as they stand. -/
def kf (key : Int) (E : List Ent) : List Ent := E.filter fun e => e.k == key
theorem kf_le (key : Int) (E : List Ent) : (kf key E).length ≤ E.length := List.length_filter_le _ _
theorem kf_snoc (key : Int) (E : List Ent) (e : Ent) : kf key (E ++ [e]) = if e.k = key then kf key E ++ [e] else kf key E := by
  unfold kf
  rw [List.filter_append]
  by_cases hi : e.k = key
  · simp [hi]
  · simp [hi]
theorem kf_bk (h : Nat → Nat) (k i : Nat) (E : List Ent) : kf (k : Int) (bk h i E) = if i = h k then kf (k : Int) E else [] := by
  unfold kf bk
  rw [List.filter_filter]
  by_cases e : i = h k
  · rw [if_pos e]
    refine List.filter_congr fun x _ => ?_
    by_cases hx : x.k = (k : Int)
    · simp [hx, e]
    · simp [hx]
  · rw [if_neg e, List.filter_eq_nil_iff]
    intro x _ hx
    simp at hx
    obtain ⟨h1, h2⟩ := hx
    rw [h1, Int.toNat_natCast] at h2
    exact e h2.symm
theorem kf_flat (key : Int) : ∀ Ls : List (List Ent), kf key Ls.flatten = (Ls.map (kf key)).flatten
  | [] => rfl
  | l :: r => by
    rw [List.flatten_cons, List.map_cons, List.flatten_cons, ← kf_flat key r]
    unfold kf
    rw [List.filter_append]
theorem one_of (L : List Ent) (a : Nat) : ∀ n, ((List.range n).map fun i => if i = a then L else []).flatten = if a < n then L else []
  | 0 => by simp
  | n + 1 => by
    rw [List.range_succ, List.map_append, List.flatten_append, one_of L a n]
    simp only [List.map_cons, List.map_nil, List.flatten_cons, List.flatten_nil, List.append_nil]
    by_cases h1 : a < n
    · rw [if_pos h1, if_neg (by omega), if_pos (by omega), List.append_nil]
    · by_cases h2 : n = a
      · rw [if_neg h1, if_pos h2, if_pos (by omega), List.nil_append]
      · rw [if_neg h1, if_neg h2, if_neg (by omega), List.nil_append]
/-- Of each key who stood, and in which order. -/
theorem kf_reh (h : Nat → Nat) (n k : Nat) (E : List Ent) (hk : h k < n) : kf (k : Int) (reh h n E).flatten = kf (k : Int) E := by
  rw [kf_flat]
  unfold reh
  rw [List.map_map]
  have : (kf (k : Int) ∘ fun i => bk h i E) = fun i => if i = h k then kf (k : Int) E else [] := funext fun i => kf_bk h k i E
  rw [this, one_of, if_pos hk]
theorem reh_below (h : Nat → Nat) (E : List Ent) : ∀ n, (reh h n E).flatten.length = (E.filter fun e => decide (h e.k.toNat < n)).length
  | 0 => by
    have : (E.filter fun e => decide (h e.k.toNat < 0)) = [] := List.filter_eq_nil_iff.2 (by simp)
    rw [this]; rfl
  | n + 1 => by
    have hs : reh h (n + 1) E = reh h n E ++ [bk h n E] := by unfold reh; rw [List.range_succ, List.map_append]; rfl
    rw [hs, List.flatten_append, List.length_append, reh_below h E n]
    simp only [List.flatten_cons, List.flatten_nil, List.append_nil]
    unfold bk
    clear hs
    induction E with
    | nil => rfl
    | cons e r ih =>
      simp only [List.filter_cons]
      by_cases h1 : h e.k.toNat < n
      · simp only [h1, show h e.k.toNat < n + 1 by omega, show ¬ h e.k.toNat = n by omega, decide_true, if_true, beq_iff_eq, if_false, List.length_cons]
        omega
      · by_cases h2 : h e.k.toNat = n
        · simp only [h2, show ¬ n < n by omega, show n < n + 1 by omega, decide_true, decide_false, if_true, beq_self_eq_true, List.length_cons]
          simp only [Bool.false_eq_true, if_false]
          omega
        · simp only [h1, h2, show ¬ h e.k.toNat < n + 1 by omega, decide_false, beq_iff_eq, if_false, Bool.false_eq_true]
          exact ih
/-- Nobody comes, or goes. -/
theorem reh_total (h : Nat → Nat) (n : Nat) (E : List Ent) (hk : Keys E) (hlt : ∀ k, k < 4294967296 → h k < n) : (reh h n E).flatten.length = E.length := by
  rw [reh_below]
  congr 1
  rw [List.filter_eq_self]
  intro e he
  obtain ⟨k, hk1, hk2⟩ := hk e he
  rw [hk1, Int.toNat_natCast]
  simpa using hlt k hk2
end Go.Proofs.Ytcdoklgjicfkmaa
