/- Queues of a call's own: as long as nothing turns but blocks that are no cells; rows of empty queues. -/
import Derived.Test.YtaajgnpfndljoaaGreatS10E1
import Derived.Deep.RegionHeld3
set_option linter.unusedVariables false
set_option linter.unusedSimpArgs false
namespace Go.Proofs.YtaajgnpfndljoaaGreat.S10
open Go.Proofs.YtaajgnpfndljoaaGreat
open Go.RowKit

theorem turns_grown {w w' : World} {row : Option Nat} (hg : w.grownBy w' row) : Turns (fun k => row = some k) w w' :=
  ⟨hg.os, hg.tape, hg.output, hg.size, fun k hk hn => hg.block k hk (fun e => hn e.symm)⟩
theorem CB.no {w : World} {v : Value} (h : CB w v) {row : Option Nat} (hr : ∀ r, row = some r → ∃ o : Obj, w.heap[r]? = some o ∧ o.isCells = false) : ∀ g, v.ownBlock = some g → ¬ row = some g := fun g e e' => by
  obtain ⟨cs, t, m, h1⟩ := h g e
  obtain ⟨o, h2, h3⟩ := hr g e'
  rw [h1] at h2
  cases h2
  cases h3
theorem Tab.cb {w : World} {base : Nat} {s : Value} {ss : List Value} {Ls : List (List Ent)} (h : Tab w base s ss Ls) {i : Nat} {v : Value} (hv : ss[i]? = some v) : CB w v := by
  have hi : i < Ls.length := by rw [← h.len]; exact (List.getElem?_eq_some_iff.1 hv).1
  obtain ⟨u, hu, _, hc⟩ := h.qs i hi
  rw [hv] at hu
  cases hu
  exact hc
theorem Tab.rowE {w : World} {base : Nat} {s : Value} {ss : List Value} {Ls : List (List Ent)} (h : Tab w base s ss Ls) {i : Nat} {v : Value} (hv : ss[i]? = some v) : RowE w base v Ls[i]! := by
  have hi : i < Ls.length := by rw [← h.len]; exact (List.getElem?_eq_some_iff.1 hv).1
  obtain ⟨u, hu, hr, hc⟩ := h.qs i hi
  rw [hv] at hu
  cases hu
  exact hr
theorem Tab.grown {w w' : World} {base : Nat} {s : Value} {ss : List Value} {Ls : List (List Ent)} {row : Option Nat} (h : Tab w base s ss Ls) (hg : w.grownBy w' row) (hr : ∀ r, row = some r → ∃ o : Obj, w.heap[r]? = some o ∧ o.isCells = false) : Tab w' base s ss Ls :=
  h.keep (turns_grown hg) (h.out.no hr) (fun i v g hv e => (h.cb hv).no hr g e)
/-- The cell of a queue. -/
theorem Tab.cell {w : World} {base g o m c : Nat} {ss : List Value} {Ls : List (List Ent)} (h : Tab w base (.slice (some ⟨g, o, none⟩) m c) ss Ls) {i : Nat} {v : Value} (hv : ss[i]? = some v) : w.cell? ⟨g, o + i, none⟩ = some v ∧ w.frozen? ⟨g, o + i, none⟩ = false := by
  obtain ⟨A, cap, e, h0, h1, h2, h3, h4⟩ := h.row
  cases e
  obtain ⟨g', o', e, hb, hlt, hl, hc⟩ := h4 _ rfl
  cases e
  have := (List.getElem?_eq_some_iff.1 hv).1
  exact ⟨hl i v hv, (hc i (by omega)).2⟩
theorem Tab.cell0 {w : World} {base g m c : Nat} {ss : List Value} {Ls : List (List Ent)} (h : Tab w base (.slice (some ⟨g, 0, none⟩) m c) ss Ls) {i : Nat} {v : Value} (hv : ss[i]? = some v) : w.cell? ⟨g, i, none⟩ = some v ∧ w.frozen? ⟨g, i, none⟩ = false := by
  have := h.cell hv
  rwa [Nat.zero_add] at this
theorem tab_made (w : World) (base g n : Nat) (h : w.heap[g]? = some (.cells (List.replicate n (Value.slice none 0 0)).toArray 84 (0, 0))) (hb : base ≤ g) (hn : n ≤ 65536) : Tab w base (.slice (some ⟨g, 0, none⟩) n n) (List.replicate n (.slice none 0 0)) (List.replicate n []) := by
  have hlt := (Array.getElem?_eq_some_iff.1 h).1
  refine ⟨?_, fun i hi => ?_, fun g' e => ?_, fun i v g hv e => ?_, fun i j v u g hv hu e _ => ?_⟩
  · rw [List.length_replicate]
    refine ⟨_, n, rfl, by simp, Nat.le_refl _, by unfold maxLen; omega, (fun e => by cases e), fun ad e => ?_⟩
    cases e
    refine ⟨g, 0, rfl, hb, hlt, fun j u e => ?_, fun j hj => ⟨?_, froz_row h _⟩⟩
    · rw [cell_row h, Nat.zero_add, List.getElem?_toArray]
      exact e
    · rw [cell_row h, Nat.zero_add]
      simp; omega
  · rw [List.length_replicate] at hi
    refine ⟨.slice none 0 0, by simp [hi], ?_, cb_none w⟩
    have : (List.replicate n ([] : List Ent))[i]! = [] := by rw [List.getElem!_eq_getElem?_getD]; simp [List.getElem?_replicate, hi]
    rw [this]
    exact row_nil _ _ _
  · obtain rfl : g = g' := by simpa [Value.ownBlock] using e
    exact ⟨_, _, _, h⟩
  · rw [List.getElem?_replicate] at hv
    split at hv
    · cases hv; simp [Value.ownBlock] at e
    · cases hv
  · rw [List.getElem?_replicate] at hv
    split at hv
    · cases hv; simp [Value.ownBlock] at e
    · cases hv
theorem reh_nil (h : Nat → Nat) (n : Nat) : reh h n [] = List.replicate n [] := by
  refine List.ext_getElem? fun i => ?_
  by_cases hi : i < n
  · simp [reh, bk, hi]
  · rw [List.getElem?_eq_none (by rw [reh_len]; omega), List.getElem?_eq_none (by simp; omega)]
/-- The inner memory lies from a base on. -/
def Hi (ss : List Value) (X : Nat) : Prop := ∀ (i : Nat) (v : Value) (g : Nat), ss[i]? = some v → v.ownBlock = some g → X ≤ g
theorem hi_nil (n X : Nat) : Hi (List.replicate n (.slice none 0 0)) X := fun i v g hv e => by
  rw [List.getElem?_replicate] at hv
  split at hv
  · cases hv; simp [Value.ownBlock] at e
  · cases hv
theorem Hi.set {ss : List Value} {X i : Nat} {v' : Value} (h : Hi ss X) (hv : ∀ g, v'.ownBlock = some g → X ≤ g) : Hi (ss.set i v') X := fun j v g hj e => by
  rw [List.getElem?_set] at hj
  split at hj
  · split at hj
    · cases hj; exact hv g e
    · cases hj
  · exact h j v g hj e
end Go.Proofs.YtaajgnpfndljoaaGreat.S10
