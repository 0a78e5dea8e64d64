/- Both lists beside each other; more held of the world from a place of a region on. -/
import Derived.Test.YtoefgfolokcdhaaDoorB1
namespace Go.Proofs.YtoefgfolokcdhaaDoor
open Go.RowKit

section
variable {P : Program} {ops : Array Oper} {Q : Exit → Act → World → Prop} {md : Region.Mode} {S S' : World → Prop}
/-- From here on more is held. -/
theorem wpAnyH_more (h : ∀ w, S' w → S w) : ∀ (fuel : Nat) (listed : Array Bool) (a : Act) (w : World), wpAnyH P md ops Q S' fuel listed a w → wpAnyH P md ops Q S fuel listed a w
  | 0, _, _, _, hq => hq
  | fuel + 1, _, _, _, hq => ⟨hq.1, fun i hi => wpOp_mono (fun a' w' h' => ⟨h w' h'.1, wpAnyH_more h fuel _ a' w' h'.2⟩) (hq.2 i hi)⟩
end
/-- The program's list and the document's, and what does not lie in one block. -/
structure Two (w : World) (base p q : Nat) (s t : Value) (D F : List Nt) : Prop where
  l : LAt 52 .u8 w base p s D
  r : LAt 29 .i64 w base q t F
  ne : p ≠ q
  ls : s.ownBlock ≠ some q
  rt : t.ownBlock ≠ some p
  st : ∀ g, s.ownBlock = some g → t.ownBlock ≠ some g
section
variable {w w' : World} {base p q : Nat} {s t : Value} {D F G : List Nt}
theorem Two.new (h : Two w base p q s t D F) (b : Below w.heap.size w w') : Two w' base p q s t D F := ⟨h.l.new b, h.r.new b, h.ne, h.ls, h.rt, h.st⟩
theorem Two.kept {S : Nat → Prop} (h : Two w base p q s t D F) (T : Turns S w w') (hp : ¬ S p) (hq : ¬ S q) (hs : ∀ g, s.ownBlock = some g → ¬ S g) (ht : ∀ g, t.ownBlock = some g → ¬ S g) : Two w' base p q s t D F :=
  ⟨h.l.kept T hp hs, h.r.kept T hq ht, h.ne, h.ls, h.rt, h.st⟩
theorem Two.drew (h : Two w base p q s t D F) : Two w.drew base p q s t D F := ⟨h.l.drew, h.r.drew, h.ne, h.ls, h.rt, h.st⟩
theorem Two.addL (h : Two w base p q s t D F) (l : Leaves 52 .u8 w w' base p s G) : ∃ s', Two w' base p q s' t G F := by
  obtain ⟨s', hl, ho, ht⟩ := l
  refine ⟨s', hl, h.r.kept ht ?_ ?_, h.ne, ?_, h.rt, ?_⟩
  · rintro (e | e)
    · exact h.ne e.symm
    · exact h.ls e
  · rintro g hg (e | e)
    · exact h.rt (by rw [hg, e])
    · exact h.st g e hg
  · rcases ho with e | ⟨g, e, hg⟩
    · rw [e]; exact h.ls
    · rw [e]; intro e'; injection e' with e'; have := h.r.lt; omega
  · rcases ho with e | ⟨g, e, hg⟩
    · rw [e]; exact h.st
    · intro g' hg' hc
      rw [e] at hg'; injection hg' with hg'
      have := (h.r.own.lt g' hc).2; omega
theorem Two.addR (h : Two w base p q s t D F) (l : Leaves 29 .i64 w w' base q t G) : ∃ t', Two w' base p q s t' D G := by
  obtain ⟨t', hl, ho, ht⟩ := l
  refine ⟨t', h.l.kept ht ?_ ?_, hl, h.ne, h.ls, ?_, ?_⟩
  · rintro (e | e)
    · exact h.ne e
    · exact h.rt e
  · rintro g hg (e | e)
    · exact h.ls (by rw [hg, e])
    · exact h.st g hg e
  · rcases ho with e | ⟨g, e, hg⟩
    · rw [e]; exact h.rt
    · rw [e]; intro e'; injection e' with e'; have := h.l.lt; omega
  · rcases ho with e | ⟨g, e, hg⟩
    · rw [e]; exact h.st
    · intro g' hg' hc
      rw [e] at hc; injection hc with hc
      have := (h.l.own.lt g' hg').2; omega
/-- Both lists as they are made, one behind the other. -/
theorem Two.first (w : World) (w1 : World) (p : Nat) (hl : LAt 52 .u8 w1 w.heap.size p (.slice none 0 0) []) (hb : w.heap.size ≤ w1.heap.size) : Two (w1.alloc (.cells #[.slice none 0 0] 29)) w.heap.size p w1.heap.size (.slice none 0 0) (.slice none 0 0) [] [] := by
  have hr := LAt.first 29 .i64 w1
  have hlt := hl.lt
  exact ⟨hl.new (below1 _ _), ⟨hr.box, row_nil _ _ _, by simp [Value.ownBlock], hb⟩, by omega, by simp [Value.ownBlock], by simp [Value.ownBlock], fun g e => by simp [Value.ownBlock] at e⟩
/-- What the document's list reads as. -/
theorem Two.rd (h : Two w base p q s t D F) : ∃ A c, t = .slice A F.length c ∧ F.length ≤ c ∧ c ≤ 9223372036854775807 ∧ Rd w w.heap.size A (flat .i64 F) := by
  obtain ⟨A, c, e, h1, h2⟩ := h.r.own.shape
  subst e
  exact ⟨A, c, rfl, h1, h2, h.r.own.rd⟩
end
/-- What is told reads as the notes. -/
theorem Told.rd {w w' : World} {F : List Nt} {e : Ending} (h : Told w w' F e) : ∃ A, e = .returned (.slice A F.length F.length) ∧ Rd w' w'.heap.size A (flat .u8 F) ∧ Below w.heap.size w w' := by
  obtain ⟨A, e, hr, hb⟩ := h
  exact ⟨A, e, hr.rd, hb⟩
theorem addD_k {D : List Nt} {n : Nt} (hD : ∀ d ∈ D, d.k < 256) (hn : n.k < 256) : ∀ d ∈ addD D n, d.k < 256 := by
  intro d hd
  unfold addD at hd
  split at hd
  · exact hD d hd
  · rcases List.mem_append.1 hd with h | h
    · exact hD d h
    · simp at h; rw [h]; exact hn
end Go.Proofs.YtoefgfolokcdhaaDoor
