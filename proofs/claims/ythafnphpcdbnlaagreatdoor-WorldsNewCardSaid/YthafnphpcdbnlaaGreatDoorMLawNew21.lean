/- Texts of this seat, one behind the other. -/
import Derived.Test.YthafnphpcdbnlaaGreatDoorMLawNew20
set_option linter.unusedVariables false
set_option linter.unusedSimpArgs false
set_option linter.unusedVariables false
set_option linter.unusedSimpArgs false
namespace Go.Proofs.YthafnphpcdbnlaaGreatDoor.S10
open Go.Proofs.YthafnphpcdbnlaaGreatDoor

/-- The entries that hash to a bucket, as they stand. -/
def bk (h : Nat → Nat) (i : Nat) (E : List Ent) : List Ent := E.filter fun e => h e.k.toNat == i
/-- Rehashed. -/
def reh (h : Nat → Nat) (n : Nat) (E : List Ent) : List (List Ent) := (List.range n).map fun i => bk h i E
theorem reh_len (h : Nat → Nat) (n : Nat) (E : List Ent) : (reh h n E).length = n := by simp [reh]
theorem reh_at (h : Nat → Nat) {n i : Nat} (E : List Ent) (hi : i < n) : (reh h n E)[i]! = bk h i E := by
  rw [getElem!_pos _ i (by rw [reh_len]; exact hi)]
  simp [reh]
theorem bk_snoc (h : Nat → Nat) (i : Nat) (E : List Ent) (e : Ent) : bk h i (E ++ [e]) = if h e.k.toNat = i then bk h i E ++ [e] else bk h i E := by
  unfold bk
  rw [List.filter_append]
  by_cases hi : h e.k.toNat = i
  · simp [hi]
  · simp [hi]
theorem reh_snoc (h : Nat → Nat) {n : Nat} (E : List Ent) (e : Ent) (hb : h e.k.toNat < n) : reh h n (E ++ [e]) = (reh h n E).set (h e.k.toNat) (bk h (h e.k.toNat) E ++ [e]) := by
  refine List.ext_getElem? fun i => ?_
  by_cases hi : i < n
  · rw [List.getElem?_set, reh_len]
    have h1 : (reh h n (E ++ [e]))[i]? = some (bk h i (E ++ [e])) := by simp [reh, hi]
    have h2 : (reh h n E)[i]? = some (bk h i E) := by simp [reh, hi]
    rw [h1, h2, bk_snoc]
    by_cases e1 : h e.k.toNat = i
    · subst e1; simp [hb]
    · simp [e1]
  · rw [List.getElem?_eq_none (by rw [reh_len]; omega), List.getElem?_eq_none (by rw [List.length_set, reh_len]; omega)]
theorem bk_le (h : Nat → Nat) (i : Nat) (E : List Ent) : (bk h i E).length ≤ E.length := List.length_filter_le _ _
/-- How many entries stand ahead of a queue. -/
def cum (Ls : List (List Ent)) (i : Nat) : Nat := (Ls.take i).flatten.length
theorem cum_zero (Ls : List (List Ent)) : cum Ls 0 = 0 := rfl
theorem cum_succ {Ls : List (List Ent)} {i : Nat} (hi : i < Ls.length) : cum Ls (i + 1) = cum Ls i + Ls[i]!.length := by
  unfold cum
  rw [List.take_add_one, List.getElem?_eq_getElem hi, getElem!_pos Ls i hi]
  simp only [Option.toList_some, List.flatten_append, List.length_append, List.flatten_cons, List.flatten_nil, List.append_nil]
theorem cum_all (Ls : List (List Ent)) : cum Ls Ls.length = Ls.flatten.length := by simp [cum]
theorem cum_mono {Ls : List (List Ent)} {i : Nat} (hi : i < Ls.length) {k : Nat} (hk : k < Ls[i]!.length) : cum Ls i + k < Ls.flatten.length := by
  have h1 : Ls.flatten = (Ls.take i).flatten ++ (Ls.drop i).flatten := by rw [← List.flatten_append, List.take_append_drop]
  have h2 : Ls.drop i = Ls[i]! :: Ls.drop (i + 1) := by rw [List.drop_eq_getElem_cons hi, getElem!_pos Ls i hi]
  rw [h1, h2, List.flatten_cons, List.length_append, List.length_append]
  unfold cum
  omega
theorem cum_at {Ls : List (List Ent)} {i : Nat} (hi : i < Ls.length) {k : Nat} (hk : k < Ls[i]!.length) : Ls.flatten[cum Ls i + k]! = Ls[i]![k]! := by
  have h1 : Ls.flatten = (Ls.take i).flatten ++ (Ls.drop i).flatten := by rw [← List.flatten_append, List.take_append_drop]
  have h2 : Ls.drop i = Ls[i]! :: Ls.drop (i + 1) := by rw [List.drop_eq_getElem_cons hi, getElem!_pos Ls i hi]
  have h3 : Ls.flatten[cum Ls i + k]? = Ls[i]![k]? := by
    rw [h1, h2, List.flatten_cons, List.getElem?_append_right (by unfold cum; omega)]
    rw [show cum Ls i + k - (List.take i Ls).flatten.length = k by unfold cum; omega, List.getElem?_append_left hk]
  rw [List.getElem!_eq_getElem?_getD, List.getElem!_eq_getElem?_getD, h3]
theorem range_snoc (n : Nat) : List.range n ++ [n] = List.range (n + 1) := List.range_succ.symm
/-- Keys that may be. -/
def Keys (E : List Ent) : Prop := ∀ e ∈ E, ∃ k : Nat, e.k = (k : Int) ∧ k < 4294967296
theorem Keys.get {E : List Ent} (h : Keys E) (i : Nat) : ∃ k : Nat, E[i]!.k = (k : Int) ∧ k < 4294967296 := by
  by_cases hi : i < E.length
  · rw [getElem!_pos E i hi]
    exact h _ (List.getElem_mem hi)
  · rw [getElem!_neg E i hi]
    exact ⟨0, rfl, by omega⟩
theorem map_range_get (E : List Ent) : (List.range E.length).map (fun i => E[i]!) = E := by
  refine List.ext_getElem? fun i => ?_
  by_cases hi : i < E.length
  · simp [hi]
  · rw [List.getElem?_eq_none (by simp; omega), List.getElem?_eq_none (by omega)]
theorem map_snoc (f : Nat → Ent) (l : List Nat) (x : Nat) : (l ++ [x]).map f = l.map f ++ [f x] := by simp
end Go.Proofs.YthafnphpcdbnlaaGreatDoor.S10
