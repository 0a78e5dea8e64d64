/- Scenes: both sets, and what must stay beside them. -/
import Derived.Test.YtcdoklgjicfkmaaV2
namespace Go.Proofs.Ytcdoklgjicfkmaa
open Go.RowKit

/-- Both sets (each at a model of its own), and blocks Z beside them that no call on them turns. -/
structure Sc (W : World) (base : Nat) (own ownR : Nat → Option Role) (s r : Value) (n : Nat) (M R : Int → List Bk) (Z : Nat → Prop) : Prop where
  st : St W base own s n M
  rt : Rt W base ownR r R
  dj : ∀ g, Mine own g → ¬ Mine ownR g
  cl : ∀ g, Z g → g < W.heap.size ∧ ¬ Mine own g ∧ ¬ Mine ownR g
section
variable {W w' : World} {base : Nat} {own ownR own' : Nat → Option Role} {s r : Value} {n n' : Nat} {M M' R R' : Int → List Bk} {Z : Nat → Prop}
theorem Sc.turn (h : Sc W base own ownR s r n M R Z) {S : Nat → Prop} (t : Turns S W w') (h1 : ∀ g, Mine own g → ¬ S g) (h2 : ∀ g, Mine ownR g → ¬ S g) : Sc w' base own ownR s r n M R Z :=
  ⟨h.st.keep t h1, h.rt.keep t h2, h.dj, fun g hz => ⟨Nat.lt_of_lt_of_le (h.cl g hz).1 t.size, (h.cl g hz).2⟩⟩
theorem Sc.new (h : Sc W base own ownR s r n M R Z) (hb : Below W.heap.size W w') : Sc w' base own ownR s r n M R Z :=
  h.turn (Turns.of_below (S := fun _ => False) hb) (fun _ _ e => e) (fun _ _ e => e)
theorem Sc.drew (h : Sc W base own ownR s r n M R Z) : Sc W.drew base own ownR s r n M R Z := h.turn (Turns.refl (fun _ => False) W).drew (fun _ _ e => e) (fun _ _ e => e)
/-- A call on the first one. -/
theorem Sc.one (h : Sc W base own ownR s r n M R Z) (hs : St w' base own' s n' M') (t : Turns (Mine own) W w') (f : Fresh own own' W) : Sc w' base own' ownR s r n' M' R Z ∧ Turns (fun g => ¬ Z g) W w' ∧ Below base W w' := by
  have hr : ∀ g, Mine ownR g → g < W.heap.size := fun g hg => (h.rt.fp hg).2
  refine ⟨⟨hs, h.rt.keep t (fun g hg hs => h.dj g hs hg), fun g hg hg' => ?_, fun g hz => ?_⟩, t.mono (fun g _ hg hz => (h.cl g hz).2.1 hg), t.below h.st.le (fun k hk hm => by have := (h.st.fp hm).1; omega)⟩
  · obtain ⟨r1, e⟩ := hg
    rcases f g r1 e with h' | h'
    · exact h.dj g h' hg'
    · have := hr g hg'; omega
  · obtain ⟨h1, h2, h3⟩ := h.cl g hz
    refine ⟨Nat.lt_of_lt_of_le h1 t.size, fun ⟨r1, e⟩ => ?_, h3⟩
    rcases f g r1 e with h' | h'
    · exact h2 h'
    · omega
/-- A call on the document's. -/
theorem Sc.two (h : Sc W base own ownR s r n M R Z) (hr : Rt w' base own' r R') (t : Turns (Mine ownR) W w') (f : Fresh ownR own' W) : Sc w' base own own' s r n M R' Z ∧ Turns (fun g => ¬ Z g) W w' ∧ Below base W w' := by
  have hs : ∀ g, Mine own g → g < W.heap.size := fun g hg => (h.st.fp hg).2
  refine ⟨⟨h.st.keep t (fun g hg hr => h.dj g hg hr), hr, fun g hg hg' => ?_, fun g hz => ?_⟩, t.mono (fun g _ hg hz => (h.cl g hz).2.2 hg), t.below h.st.le (fun k hk hm => by have := (h.rt.fp hm).1; omega)⟩
  · obtain ⟨r1, e⟩ := hg'
    rcases f g r1 e with h' | h'
    · exact h.dj g hg h'
    · have := hs g hg; omega
  · obtain ⟨h1, h2, h3⟩ := h.cl g hz
    refine ⟨Nat.lt_of_lt_of_le h1 t.size, h2, fun ⟨r1, e⟩ => ?_⟩
    rcases f g r1 e with h' | h'
    · exact h3 h'
    · omega
/-- Blocks that are new stand beside, too. -/
theorem Sc.add (h : Sc W base own ownR s r n M R Z) (hb : Below W.heap.size W w') {Y : Nat → Prop} (hy : ∀ g, Y g → W.heap.size ≤ g ∧ g < w'.heap.size) : Sc w' base own ownR s r n M R (fun g => Z g ∨ Y g) := by
  have h1 := h.new hb
  refine ⟨h1.st, h1.rt, h.dj, fun g hg => ?_⟩
  rcases hg with hz | hy'
  · exact h1.cl g hz
  · have := hy g hy'
    refine ⟨this.2, fun hm => ?_, fun hm => ?_⟩
    · have := (h.st.fp hm).2; omega
    · have := (h.rt.fp hm).2; omega
theorem Sc.sub (h : Sc W base own ownR s r n M R Z) {Y : Nat → Prop} (hy : ∀ g, Y g → Z g) : Sc W base own ownR s r n M R Y := ⟨h.st, h.rt, h.dj, fun g hg => h.cl g (hy g hg)⟩
/-- What stands beside is kept. -/
theorem Sc.keepC (h : Sc W base own ownR s r n M R Z) (t : Turns (fun g => ¬ Z g) W w') {g o : Nat} (hz : Z g) {v : Value} (hv : W.cell? ⟨g, o, none⟩ = some v) : w'.cell? ⟨g, o, none⟩ = some v :=
  (t.cell (h.cl g hz).1 (fun hn => hn hz)).trans hv
end
end Go.Proofs.Ytcdoklgjicfkmaa
