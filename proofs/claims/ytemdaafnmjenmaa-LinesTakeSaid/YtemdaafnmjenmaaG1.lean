/- Who is chosen, entry by entry: plain. -/
import Derived.Test.YtemdaafnmjenmaaE1
namespace Go.Proofs.Ytemdaafnmjenmaa
open Go.RowKit

theorem asked_mono (key : Int) (ch : Nat → Nat) (F : List Ent) : ∀ x : List Ent × List Ent × Ch, x.2.2.asked <+: (F.foldl (step (fch key ch)) x).2.2.asked := by
  induction F with
  | nil => intro x; exact List.prefix_rfl
  | cons e r ih =>
    intro x
    rw [List.foldl_cons]
    refine List.IsPrefix.trans ?_ (ih _)
    unfold step
    by_cases c : e.k ≠ key ∨ x.2.2.stopped = true
    · rw [fch_not c]
      exact List.prefix_rfl
    · rw [fch_asked c]
      split
      · exact List.prefix_append _ _
      · exact List.prefix_append _ _
theorem stopped_stays (key : Int) (ch : Nat → Nat) (F : List Ent) : ∀ x : List Ent × List Ent × Ch, x.2.2.stopped = true → (F.foldl (step (fch key ch)) x).2.2 = x.2.2 := by
  induction F with
  | nil => intro x _; rfl
  | cons e r ih =>
    intro x hx
    rw [List.foldl_cons]
    have : (step (fch key ch) x e).2.2 = x.2.2 := by unfold step; rw [fch_not (.inr hx)]; rfl
    rw [ih _ (by rw [this]; exact hx), this]
theorem part_rest {σ : Type} (f : σ → Ent → Bool × σ) (st : σ) (D : List Ent) (k : Nat) : part f st D = (D.drop k).foldl (step f) (part f st (D.take k)) := by
  have := part_app f st (D.take k) (D.drop k)
  rwa [List.take_append_drop] at this
theorem pre_get {α : Type} [Inhabited α] {X Y : List α} {e : α} (h : X ++ [e] <+: Y) : X.length < Y.length ∧ Y[X.length]! = e := by
  obtain ⟨Z, rfl⟩ := h
  refine ⟨by simp, ?_⟩
  rw [List.append_assoc, getElem!_pos _ _ (by simp), List.getElem_append_right (Nat.le_refl _)]
  simp
/-- What becomes of one entry. -/
inductive Way (T L : List Ent) (asked : List Int) (e : Ent) (key : Int) (ch : Nat → Nat) (T' L' : List Ent) (asked' : List Int) (Y : List Ent × List Ent × Ch) : Prop
  | other (h1 : e.k ≠ key) (h2 : T' = T) (h3 : L' = L ++ [e]) (h4 : asked' = asked) (h5 : L.length < Y.2.1.length) (h6 : Y.2.1[L.length]! = e) : Way T L asked e key ch T' L' asked' Y
  | late (h1 : e.k = key) (h0 : ¬ asked.length < Y.2.2.asked.length) (h2 : T' = T) (h3 : L' = L ++ [e]) (h4 : asked' = asked) (h5 : L.length < Y.2.1.length) (h6 : Y.2.1[L.length]! = e) : Way T L asked e key ch T' L' asked' Y
  | take (h1 : e.k = key) (h0 : asked.length < Y.2.2.asked.length) (h7 : Y.2.2.asked[asked.length]! = e.z) (hc : ch asked.length = 0) (h2 : T' = T ++ [e]) (h3 : L' = L) (h4 : asked' = asked ++ [e.z]) (h5 : T.length < Y.1.length) (h6 : Y.1[T.length]! = e) : Way T L asked e key ch T' L' asked' Y
  | leave (h1 : e.k = key) (h0 : asked.length < Y.2.2.asked.length) (h7 : Y.2.2.asked[asked.length]! = e.z) (hc : ch asked.length ≠ 0) (h2 : T' = T) (h3 : L' = L ++ [e]) (h4 : asked' = asked ++ [e.z]) (h5 : L.length < Y.2.1.length) (h6 : Y.2.1[L.length]! = e) : Way T L asked e key ch T' L' asked' Y
theorem way {key : Int} {ch : Nat → Nat} {D : List Ent} {k : Nat} (hk : k < D.length) :
    Way (part (fch key ch) ⟨false, []⟩ (D.take k)).1 (part (fch key ch) ⟨false, []⟩ (D.take k)).2.1 (part (fch key ch) ⟨false, []⟩ (D.take k)).2.2.asked D[k]! key ch
      (part (fch key ch) ⟨false, []⟩ (D.take (k + 1))).1 (part (fch key ch) ⟨false, []⟩ (D.take (k + 1))).2.1 (part (fch key ch) ⟨false, []⟩ (D.take (k + 1))).2.2.asked (part (fch key ch) ⟨false, []⟩ D) := by
  have hsn := part_snoc (f := fch key ch) (st := ⟨false, []⟩) hk
  have hr := part_rest (fch key ch) ⟨false, []⟩ D (k + 1)
  have hr0 := part_rest (fch key ch) ⟨false, []⟩ D k
  have hm := part_mono (fch key ch) (D.drop (k + 1)) (part (fch key ch) ⟨false, []⟩ (D.take (k + 1)))
  have ha := asked_mono key ch (D.drop (k + 1)) (part (fch key ch) ⟨false, []⟩ (D.take (k + 1)))
  rw [← hr] at hm ha
  have hst : (part (fch key ch) ⟨false, []⟩ (D.take k)).2.2.stopped = true → (part (fch key ch) ⟨false, []⟩ D).2.2 = (part (fch key ch) ⟨false, []⟩ (D.take k)).2.2 := fun h => by
    rw [hr0]; exact stopped_stays key ch _ _ h
  clear hr hr0
  generalize part (fch key ch) ⟨false, []⟩ D = Y at *
  generalize part (fch key ch) ⟨false, []⟩ (D.take (k + 1)) = x1 at *
  generalize part (fch key ch) ⟨false, []⟩ (D.take k) = x at *
  generalize D[k]! = e at *
  subst hsn
  unfold step at hm ha ⊢
  by_cases c : e.k ≠ key ∨ x.2.2.stopped = true
  · rw [fch_not c] at hm ha ⊢
    simp only [Bool.false_eq_true, if_false] at hm ha ⊢
    obtain ⟨h5, h6⟩ := pre_get hm.2
    by_cases hk : e.k = key
    · have hs := hst (c.resolve_left (fun h => h hk))
      exact .late hk (by rw [hs]; omega) rfl rfl rfl h5 h6
    · exact .other hk rfl rfl rfl h5 h6
  · rw [fch_asked c] at hm ha ⊢
    have hk : e.k = key := Decidable.of_not_not (fun h => c (.inl h))
    by_cases h0 : ch x.2.2.asked.length = 0
    · rw [decide_eq_true h0] at hm ha ⊢
      simp only [if_true] at hm ha ⊢
      obtain ⟨h5, h6⟩ := pre_get hm.1
      obtain ⟨h8, h7⟩ := pre_get ha
      exact .take hk h8 h7 h0 rfl rfl rfl h5 h6
    · rw [decide_eq_false h0] at hm ha ⊢
      simp only [Bool.false_eq_true, if_false] at hm ha ⊢
      obtain ⟨h5, h6⟩ := pre_get hm.2
      obtain ⟨h8, h7⟩ := pre_get ha
      exact .leave hk h8 h7 h0 rfl rfl rfl h5 h6
theorem rd_uz {w : World} {b : Nat} {A : Option Addr} {l : List Int} (h : Rd w b A (l.map uz)) {i : Nat} (hi : i < l.length) : ∃ g o, A = some ⟨g, o, none⟩ ∧ g < b ∧ w.cell? ⟨g, o + i, none⟩ = some (.int .u64 l[i]!) := by
  obtain ⟨g, o, e, hg, hl⟩ := h (by simp; omega)
  refine ⟨g, o, e, hg, hl i _ ?_⟩
  rw [List.getElem?_map, List.getElem?_eq_getElem hi, getElem!_pos l i hi]; rfl
end Go.Proofs.Ytemdaafnmjenmaa
