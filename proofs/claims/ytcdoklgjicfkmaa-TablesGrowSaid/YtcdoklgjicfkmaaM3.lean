/- Rehashed twice; one bucket's entries parted: plain. -/
import Derived.Test.YtcdoklgjicfkmaaM2
namespace Go.Proofs.Ytcdoklgjicfkmaa

theorem bk_bk {h H f : Nat → Nat} (hf : ∀ k, h k = f (H k)) (j i : Nat) (E : List Ent) : bk H j (bk h i E) = if i = f j then bk H j E else [] := by
  unfold bk
  rw [List.filter_filter]
  by_cases e : i = f j
  · rw [if_pos e]
    refine List.filter_congr fun x _ => ?_
    by_cases hx : H x.k.toNat = j
    · simp [hx, e, hf]
    · simp [hx]
  · rw [if_neg e, List.filter_eq_nil_iff]
    intro x _ hx
    simp at hx
    obtain ⟨h1, h2⟩ := hx
    rw [hf, h1] at h2
    exact e h2.symm
theorem bk_flat (H : Nat → Nat) (j : Nat) : ∀ Ls : List (List Ent), bk H j Ls.flatten = (Ls.map (bk H j)).flatten
  | [] => rfl
  | l :: r => by
    rw [List.flatten_cons, List.map_cons, List.flatten_cons, ← bk_flat H j r]
    unfold bk
    rw [List.filter_append]
/-- Rehashed on is as rehashed once. -/
theorem reh_reh {h H f : Nat → Nat} (hf : ∀ k, h k = f (H k)) {n : Nat} (N : Nat) {E : List Ent} (hk : Keys E) (hlt : ∀ k, k < 4294967296 → h k < n) : reh H N (reh h n E).flatten = reh H N E := by
  have hj : ∀ j, bk H j (reh h n E).flatten = bk H j E := fun j => by
    rw [bk_flat]
    unfold reh
    rw [List.map_map]
    have : (bk H j ∘ fun i => bk h i E) = fun i => if i = f j then bk H j E else [] := funext fun i => bk_bk hf j i E
    rw [this, one_of]
    by_cases hfj : f j < n
    · rw [if_pos hfj]
    · rw [if_neg hfj]
      symm
      unfold bk
      rw [List.filter_eq_nil_iff]
      intro e he hx
      obtain ⟨k, hk1, hk2⟩ := hk e he
      rw [hk1, Int.toNat_natCast] at hx
      have := hlt k hk2
      rw [hf, show H k = j by simpa using hx] at this
      exact hfj this
  have he : ∀ F : List Ent, reh H N F = (List.range N).map fun i => bk H i F := fun _ => rfl
  rw [he, he]
  congr 1
  exact funext hj
theorem split_at' {C : List Ent} {k : Nat} (hk : k < C.length) : C = C.take k ++ el C k :: C.drop (k + 1) := by
  have h1 : C.drop k = el C k :: C.drop (k + 1) := by rw [List.drop_eq_getElem_cons hk]; unfold el; rw [getElem!_pos C k hk]
  rw [← h1, List.take_append_drop]
/-- The next one of a half is the next one there. -/
theorem bk_pos (H : Nat → Nat) (j : Nat) {C : List Ent} {k : Nat} (hk : k < C.length) (he : H (el C k).k.toNat = j) : (bk H j (C.take k)).length < (bk H j C).length ∧ el (bk H j C) (bk H j (C.take k)).length = el C k := by
  have h1 : bk H j C = bk H j (C.take k) ++ el C k :: bk H j (C.drop (k + 1)) := by
    have hs := split_at' hk
    generalize el C k = e at *
    generalize C.take k = P at *
    generalize C.drop (k + 1) = S at *
    subst hs
    unfold bk
    rw [List.filter_append, List.filter_cons, if_pos (by simpa using he)]
  refine ⟨?_, ?_⟩
  · rw [h1, List.length_append, List.length_cons]; omega
  · generalize el C k = e at *
    rw [h1]
    unfold el
    rw [List.getElem!_eq_getElem?_getD, List.getElem?_append_right (Nat.le_refl _), Nat.sub_self]
    rfl
theorem bk_mem (H : Nat → Nat) (j : Nat) (C : List Ent) {x : Nat} (hx : x < (bk H j C).length) : H (el (bk H j C) x).k.toNat = j := by
  have hm : el (bk H j C) x ∈ bk H j C := by
    unfold el
    rw [getElem!_pos _ x hx]
    exact List.getElem_mem hx
  generalize el (bk H j C) x = e at *
  unfold bk at hm
  rw [List.mem_filter] at hm
  simpa using hm.2
theorem bk_step (H : Nat → Nat) (j : Nat) {C : List Ent} {k : Nat} (hk : k < C.length) : (bk H j (C.take (k + 1))).length = (bk H j (C.take k)).length + if H (el C k).k.toNat = j then 1 else 0 := by
  have ht : C.take (k + 1) = C.take k ++ [el C k] := take_snoc hk
  rw [ht, bk_snoc]
  by_cases e : H (el C k).k.toNat = j
  · rw [if_pos e, if_pos e, List.length_append]; rfl
  · rw [if_neg e, if_neg e]; rfl
/-- Hashes in a table of fewer bits are upper parts. -/
theorem half_on {h : Nat → Nat → Nat} (hh : ∀ b, b < 64 → ∀ k, h (b + 1) k / 2 = h b k) (b : Nat) : ∀ d, b + d ≤ 64 → ∀ k, h b k = h (b + d) k / 2 ^ d
  | 0, _, k => by rw [Nat.add_zero, Nat.pow_zero, Nat.div_one]
  | d + 1, hd, k => by
    rw [half_on hh b d (by omega) k, ← hh (b + d) (by omega) k, Nat.div_div_eq_div_mul, Nat.pow_succ, Nat.mul_comm 2]
    rfl
end Go.Proofs.Ytcdoklgjicfkmaa
