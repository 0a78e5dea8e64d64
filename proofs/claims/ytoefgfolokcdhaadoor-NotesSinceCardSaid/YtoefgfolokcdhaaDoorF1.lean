/- The list, and what was taken, beside each other; steps that never fall. -/
import Derived.Test.YtoefgfolokcdhaaDoorE1
namespace Go.Proofs.YtoefgfolokcdhaaDoor
open Go.RowKit

/-- Steps never fall. -/
def Rises (F : List Nt) : Prop := ∀ i, 0 < i → i < F.length → ¬ F[i]!.s < F[i - 1]!.s
theorem rises_nil : Rises [] := fun i _ h => by simp at h
theorem Rises.add {F : List Nt} {n : Nt} (h : Rises F) (hr : refB F n = false) : Rises (F ++ [n]) := by
  intro i h0 hi
  rw [List.length_append] at hi
  have hf : fallsB F n.s = false := by
    unfold refB at hr
    rw [Bool.or_eq_false_iff] at hr
    exact hr.2
  by_cases hl : i < F.length
  · have e1 : (F ++ [n])[i]! = F[i]! := by rw [getElem!_pos _ i (by simp; omega), getElem!_pos F i hl, List.getElem_append_left hl]
    have e2 : (F ++ [n])[i - 1]! = F[i - 1]! := by rw [getElem!_pos _ (i - 1) (by simp; omega), getElem!_pos F (i - 1) (by omega), List.getElem_append_left (by omega)]
    rw [e1, e2]
    exact h i h0 hl
  · have hi2 : i = F.length := by simp at hi; omega
    subst hi2
    have e1 : (F ++ [n])[F.length]! = n := by rw [getElem!_pos _ F.length (by simp)]; simp
    have e2 : (F ++ [n])[F.length - 1]! = F[F.length - 1]! := by rw [getElem!_pos _ (F.length - 1) (by simp; omega), getElem!_pos F (F.length - 1) (by omega), List.getElem_append_left (by omega)]
    rw [e1, e2]
    intro hlt
    have : fallsB F n.s = true := by unfold fallsB; rw [decide_eq_true h0, decide_eq_true hlt]; rfl
    rw [this] at hf; cases hf
/-- The program's list, and what was taken. -/
structure Tk (w : World) (base p : Nat) (s v : Value) (D F : List Nt) : Prop where
  l : LAt 52 .u8 w base p s D
  t : Row w base 7 v F.length (flat .u8 F)
  vp : v.ownBlock ≠ some p
  vs : ∀ g, v.ownBlock = some g → s.ownBlock ≠ some g
section
variable {w w' : World} {base p : Nat} {s v : Value} {D F G : List Nt}
theorem Tk.new (h : Tk w base p s v D F) (b : Below w.heap.size w w') : Tk w' base p s v D F := ⟨h.l.new b, h.t.new b, h.vp, h.vs⟩
theorem Tk.add (h : Tk w base p s v D F) (l : Leaves 52 .u8 w w' base p s G) : ∃ s', Tk w' base p s' v G F := by
  obtain ⟨s', hl, ho, ht⟩ := l
  refine ⟨s', hl, h.t.keep ht ?_, h.vp, ?_⟩
  · rintro g hg (e | e)
    · exact h.vp (by rw [hg, e])
    · exact h.vs g hg e
  · rcases ho with e | ⟨g, e, hg⟩
    · rw [e]; exact h.vs
    · intro g' hg' hc
      rw [e] at hc; injection hc with hc
      have := (h.t.lt g' hg').2; omega
theorem Tk.more (h : Tk w base p s v D F) {n : Nat} {v' : Value} {cs : List Value} (hr : Row w' base 7 v' n cs) (hn : n = G.length) (hcs : cs = flat .u8 G) (ht : Turns (fun k => v.ownBlock = some k) w w') (ho : v'.ownBlock = v.ownBlock ∨ ∃ g, v'.ownBlock = some g ∧ w.heap.size ≤ g) : Tk w' base p s v' D G := by
  subst hn hcs
  refine ⟨h.l.kept ht (fun e => h.vp e) (fun g hg e => h.vs g e hg), hr, ?_, ?_⟩
  · rcases ho with e | ⟨g, e, hg⟩
    · rw [e]; exact h.vp
    · rw [e]; intro e'; injection e' with e'; have := h.l.lt; omega
  · rcases ho with e | ⟨g, e, hg⟩
    · rw [e]; exact h.vs
    · intro g' hg' hc
      rw [e] at hg'; injection hg' with hg'
      have := (h.l.own.lt g' hc).2; omega
end
end Go.Proofs.YtoefgfolokcdhaaDoor
