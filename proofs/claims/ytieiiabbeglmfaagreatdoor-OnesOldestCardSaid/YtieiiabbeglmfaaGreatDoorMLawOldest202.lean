/- Texts of this seat, one behind the other. -/
import Derived.Lib.LaidTab
import Derived.ProofKit
import Derived.OpenShut
set_option linter.unusedVariables false
set_option linter.unusedSimpArgs false
set_option linter.unusedVariables false
set_option linter.unusedSimpArgs false
namespace Go.Proofs.YtieiiabbeglmfaaGreatDoor
open Go.ChangeShapes Go.WideShapes Go.ChangeAt Go.RowKit Go.Lib
def litAt {H : Type} (P : Program) : Nat → TypeId → DataW H → Nat → Option Value
  | 0, _, _, _ => none
  | n + 1, t, d, o =>
    match P.underlying t, d with
    | some .bool, .lit (.bool b) => if o = 0 then some (.bool b) else none
    | some (.int _), .lit (.int k z) => if o = 0 then some (.int k z) else none
    | some .string, .lit (.string bs) => if o = 0 then some (.string ⟨bs.toArray⟩) else none
    | some (.array m e), .agg ds => if o / P.cellsOf e < m then (ds[o / P.cellsOf e]?).bind fun d => litAt P n e d (o % P.cellsOf e) else none
    | some (.struct fs), .agg ds => (List.range fs.toList.length).findSome? fun i => (fs.toList[i]?).bind fun f => (ds[i]?).bind fun d =>
        if f.offset ≤ o ∧ o < f.offset + P.cellsOf f.type then litAt P n f.type d (o - f.offset) else none
    | _, _ => none
theorem piece {cs : List Value} {a c j : Nat} {v : Value} (h : ((cs.drop a).take c)[j]? = some v) : cs[a + j]? = some v := by
  rw [List.getElem?_take] at h
  split at h
  · rw [List.getElem?_drop] at h; exact h
  · cases h
theorem litAt_cell {H : Type} {enc : TypeId × Value → H} {P : Program} {w : World} {base : Nat} {sp : Nat → Bool} {held : Bool} :
    ∀ (n fuel : Nat) (t : TypeId) (cs : List Value) (d : DataW H) (p : List MemPlace) (o : Nat) (v : Value),
    DataW.trod enc P w base sp held fuel t cs = some (d, p) → litAt P n t d o = some v → cs[o]? = some v := by
  intro n
  induction n with
  | zero => intro fuel t cs d p o v _ h; simp [litAt] at h
  | succ n ih =>
    intro fuel t cs d p o v ht hl
    unfold litAt at hl
    split at hl
    · rename_i b hu
      split at hl
      · cases hl
        cases fuel with
        | zero => simp [DataW.trod] at ht
        | succ m =>
          unfold DataW.trod at ht
          rw [hu] at ht
          split at ht <;> simp_all
      · cases hl
    · rename_i k k' z hu
      split at hl
      · cases hl
        obtain ⟨z', rfl, e, _⟩ := DataW.trod_int hu ht
        simp at e
        obtain ⟨⟨rfl, rfl⟩, _⟩ := e
        simp [*]
      · cases hl
    · rename_i bs hu
      split at hl
      · cases hl
        obtain ⟨s, rfl, e, _⟩ := DataW.trod_string hu ht
        simp at e
        obtain ⟨rfl, _⟩ := e
        simp [*]
      · cases hl
    · rename_i m e ds hu
      split at hl
      · rename_i hm
        obtain ⟨xs, m1, rfl, hx, hlen, hn3, hel⟩ := DataW.trod_array hu ht
        simp only [Prod.mk.injEq, DataW.agg.injEq] at hx
        obtain ⟨rfl, _⟩ := hx
        obtain ⟨d1, hd1, hl1⟩ := Option.bind_eq_some_iff.1 hl
        rw [List.getElem?_map] at hd1
        obtain ⟨x, hx1, rfl⟩ := Option.map_eq_some_iff.1 hd1
        have h1 := hel (o / P.cellsOf e) hm
        rw [hx1] at h1
        have h2 := piece (ih _ _ _ _ _ _ _ h1 hl1)
        have e1 : o / P.cellsOf e * P.cellsOf e + o % P.cellsOf e = o := by rw [Nat.mul_comm]; exact Nat.div_add_mod _ _
        rw [e1] at h2
        exact h2
      · cases hl
    · rename_i fs ds hu
      obtain ⟨i, _, hi⟩ := List.exists_of_findSome?_eq_some hl
      obtain ⟨f, hf, hi2⟩ := Option.bind_eq_some_iff.1 hi
      obtain ⟨d1, hd1, hi3⟩ := Option.bind_eq_some_iff.1 hi2
      split at hi3
      · rename_i hb
        cases fuel with
        | zero => simp [DataW.trod] at ht
        | succ m =>
          unfold DataW.trod at ht
          rw [hu] at ht
          simp only at ht
          split at ht
          · obtain ⟨xs, hm, hx⟩ := Option.map_eq_some_iff.1 ht
            simp only [Prod.mk.injEq, DataW.agg.injEq] at hx
            obtain ⟨rfl, _⟩ := hx
            obtain ⟨b, hb1, hb2⟩ := mapM_at hm i f hf
            rw [List.getElem?_map, hb1] at hd1
            simp at hd1
            subst hd1
            have h2 := piece (ih _ _ _ _ _ _ _ hb2 hi3)
            rw [show f.offset + (o - f.offset) = o by omega] at h2
            exact h2
          · cases ht
      · cases hi3
    · cases hl
end Go.Proofs.YtieiiabbeglmfaaGreatDoor
