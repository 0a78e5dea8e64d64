/- All of a key, one by one: plain. -/
import Derived.Test.YtemdaafnmjenmaaF1
namespace Go.Proofs.Ytemdaafnmjenmaa
open Go.RowKit

def notKey (key : Int) (e : Ent) : Bool := !byKey key e
theorem part_some_all (key most : Int) (D : List Ent) (h : (D.length : Int) ≤ most) : (part (fsome key) most D).1 = D.filter (byKey key) ∧ (part (fsome key) most D).2.1 = D.filter (notKey key) := by
  have H : ∀ (F : List Ent) (x : List Ent × List Ent × Int), (F.length : Int) ≤ x.2.2 → (F.foldl (step (fsome key)) x).1 = x.1 ++ F.filter (byKey key) ∧ (F.foldl (step (fsome key)) x).2.1 = x.2.1 ++ F.filter (notKey key) := by
    intro F
    induction F with
    | nil => intro x _; simp
    | cons e r ih =>
      intro x hx
      simp only [List.length_cons] at hx
      rw [List.foldl_cons]
      by_cases c : e.k = key
      · have : step (fsome key) x e = (x.1 ++ [e], x.2.1, x.2.2 - 1) := by
          unfold step fsome
          rw [if_pos (show e.k = key ∧ 0 < x.2.2 from ⟨c, by omega⟩)]; rfl
        rw [this]
        obtain ⟨h1, h2⟩ := ih (x.1 ++ [e], x.2.1, x.2.2 - 1) (by dsimp only; omega)
        rw [h1, h2]
        simp [byKey, notKey, c]
      · have : step (fsome key) x e = (x.1, x.2.1 ++ [e], x.2.2) := by
          unfold step fsome
          rw [if_neg (show ¬ (e.k = key ∧ 0 < x.2.2) from fun h => c h.1)]; rfl
        rw [this]
        obtain ⟨h1, h2⟩ := ih (x.1, x.2.1 ++ [e], x.2.2) (by dsimp only; omega)
        rw [h1, h2]
        simp [byKey, notKey, c]
  have := H D ([], [], most) h
  simpa [part] using this
theorem part_all (key : Int) (D : List Ent) : (part (fch key (fun _ => 0)) ⟨false, []⟩ D).1 = D.filter (byKey key) ∧ (part (fch key (fun _ => 0)) ⟨false, []⟩ D).2.1 = D.filter (notKey key) := by
  have H : ∀ (F : List Ent) (x : List Ent × List Ent × Ch), x.2.2.stopped = false → (F.foldl (step (fch key (fun _ => 0))) x).1 = x.1 ++ F.filter (byKey key) ∧ (F.foldl (step (fch key (fun _ => 0))) x).2.1 = x.2.1 ++ F.filter (notKey key) := by
    intro F
    induction F with
    | nil => intro x _; simp
    | cons e r ih =>
      intro x hx
      rw [List.foldl_cons]
      by_cases c : e.k = key
      · have : step (fch key (fun _ => 0)) x e = (x.1 ++ [e], x.2.1, ⟨false, x.2.2.asked ++ [e.z]⟩) := by
          unfold step
          rw [fch_asked (fun h => by rcases h with h | h; exact h c; rw [hx] at h; cases h)]
          rfl
        rw [this]
        obtain ⟨h1, h2⟩ := ih (x.1 ++ [e], x.2.1, ⟨false, x.2.2.asked ++ [e.z]⟩) rfl
        rw [h1, h2]
        simp [byKey, notKey, c]
      · have : step (fch key (fun _ => 0)) x e = (x.1, x.2.1 ++ [e], x.2.2) := by
          unfold step; rw [fch_not (.inl c)]; rfl
        rw [this]
        obtain ⟨h1, h2⟩ := ih (x.1, x.2.1 ++ [e], x.2.2) hx
        rw [h1, h2]
        simp [byKey, notKey, c]
  have := H D ([], [], ⟨false, []⟩) rfl
  simpa [part] using this
theorem idx_none (key : Int) (D : List Ent) : idx (byKey key) (D.filter (notKey key)) = -1 := by
  refine idx_miss fun j hj => ?_
  have hm := List.getElem_mem hj
  rw [getElem!_pos _ j hj]
  have := (List.mem_filter.1 hm).2
  simpa [notKey] using this
/-- The first one of a key is cut out. -/
theorem first_out {key : Int} {t : Ent} : ∀ {R ts : List Ent}, R.filter (byKey key) = t :: ts → ∃ j, j < R.length ∧ (∀ i, i < j → byKey key R[i]! = false) ∧ R[j]! = t ∧ byKey key t = true ∧ (R.eraseIdx j).filter (byKey key) = ts ∧ (R.eraseIdx j).filter (notKey key) = R.filter (notKey key)
  | [], ts, h => by cases h
  | e :: r, ts, h => by
    cases hp : byKey key e with
    | true =>
      rw [List.filter_cons_of_pos hp] at h
      injection h with h1 h2
      subst h1
      refine ⟨0, by simp, fun i hi => absurd hi (by omega), rfl, hp, by simpa using h2, ?_⟩
      rw [List.filter_cons_of_neg (by simp [notKey, hp])]
      simp
    | false =>
      rw [List.filter_cons_of_neg (by simp [hp])] at h
      obtain ⟨j, h1, h2, h3, h4, h5, h6⟩ := first_out h
      refine ⟨j + 1, by simp; omega, fun i hi => ?_, by simpa using h3, h4, ?_, ?_⟩
      · cases i with
        | zero => simpa using hp
        | succ i => simpa using h2 i (by omega)
      · rw [List.eraseIdx_cons_succ, List.filter_cons_of_neg (by simp [hp])]
        exact h5
      · rw [List.eraseIdx_cons_succ, List.filter_cons_of_pos (by simp [notKey, hp]), List.filter_cons_of_pos (by simp [notKey, hp]), h6]
theorem none_left {key : Int} {R : List Ent} (h : R.filter (byKey key) = []) : R = R.filter (notKey key) := by
  symm
  rw [List.filter_eq_self]
  intro e he
  rw [List.filter_eq_nil_iff] at h
  have := h e he
  simp [notKey, this]
/-- The rest, behind i of them. -/
structure Rest (D : List Ent) (key : Int) (i : Nat) (R : List Ent) : Prop where
  yes : R.filter (byKey key) = (D.filter (byKey key)).drop i
  no : R.filter (notKey key) = D.filter (notKey key)
theorem rest_zero (D : List Ent) (key : Int) : Rest D key 0 D := ⟨by simp, rfl⟩
theorem rest_next {D R : List Ent} {key : Int} {i : Nat} (h : Rest D key i R) (hi : i < (D.filter (byKey key)).length) : ∃ j : Nat, j < R.length ∧ idx (byKey key) R = (j : Int) ∧ cutE R (j : Int) = (D.filter (byKey key))[i]! ∧ cutB R (j : Int) = true ∧ Rest D key (i + 1) (cutL R (j : Int)) := by
  have h1 := h.yes
  rw [List.drop_eq_getElem_cons hi] at h1
  obtain ⟨j, g1, g2, g3, g4, g5, g6⟩ := first_out h1
  obtain ⟨q1, q2, q3⟩ := cut_some g1
  refine ⟨j, g1, idx_hit g1 g2 (by rw [g3]; exact g4), by rw [q2, g3, getElem!_pos _ i hi], q3, ?_⟩
  have e1 : cutL R (j : Int) = R.eraseIdx j := by unfold cutL; rw [if_pos (Int.natCast_nonneg _), Int.toNat_natCast]
  rw [e1]
  exact ⟨g5, g6.trans h.no⟩
theorem rest_end {D R : List Ent} {key : Int} (h : Rest D key (D.filter (byKey key)).length R) : R = D.filter (notKey key) := by
  have h1 := h.yes
  rw [List.drop_length] at h1
  rw [← h.no]
  exact none_left h1
theorem rest_len {D R : List Ent} {key : Int} {i : Nat} (h : Rest D key i R) : R.length ≤ D.length := by
  have e1 : ∀ F : List Ent, F.length = (F.filter (byKey key)).length + (F.filter (notKey key)).length := by
    intro F
    induction F with
    | nil => rfl
    | cons e r ih =>
      cases hp : byKey key e with
      | true => rw [List.filter_cons_of_pos hp, List.filter_cons_of_neg (by simp [notKey, hp])]; simp; omega
      | false => rw [List.filter_cons_of_neg (by simp [hp]), List.filter_cons_of_pos (by simp [notKey, hp])]; simp; omega
  have h1 := e1 R
  have h2 := e1 D
  rw [h.yes, h.no, List.length_drop] at h1
  omega
theorem moved_left {L T : List Ent} {kt : Int} {i : Nat} (h : i < L.length) : (movedL L T kt)[i]! = L[i]! := by
  unfold movedL
  rw [getElem!_pos _ i (by simp; omega), getElem!_pos _ i h, List.getElem_append_left h]
theorem moved_right {L T : List Ent} {kt : Int} {j : Nat} (h : j < T.length) : (movedL L T kt)[L.length + j]! = re kt T[j]! := by
  unfold movedL
  rw [getElem!_pos _ _ (by simp; omega), getElem!_pos _ j h, List.getElem_append_right (by omega)]
  simp
end Go.Proofs.Ytemdaafnmjenmaa
