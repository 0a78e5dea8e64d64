/- What is told may be written; the document's list from a place on. -/
import Derived.Test.YtoefgfolokcdhaaDoorD1
namespace Go.Proofs.YtoefgfolokcdhaaDoor
open Go.RowKit

/-- Memory of m notes from a base on that may be written. -/
def Free (w : World) (base : Nat) (A : Option Addr) (m : Nat) : Prop := 0 < m → ∃ g o, A = some ⟨g, o, none⟩ ∧ base ≤ g ∧ g < w.heap.size ∧ ∀ j, j < m * 7 → (w.cell? ⟨g, o + j, none⟩).isSome = true ∧ w.frozen? ⟨g, o + j, none⟩ = false
theorem Row.free {w : World} {base m : Nat} {A : Option Addr} {c : Nat} {cs : List Value} (h : Row w base 7 (.slice A m c) m cs) : Free w base A m := fun hm => by
  obtain ⟨A', cap, e, h0, h1, h2, h3, h4⟩ := h
  cases e
  cases A with
  | none => have := h3 rfl; omega
  | some ad =>
    obtain ⟨g, o, rfl, hb, hg, hl, hc⟩ := h4 _ rfl
    exact ⟨g, o, rfl, hb, hg, fun j hj => hc j (Nat.lt_of_lt_of_le hj (Nat.mul_le_mul_right _ h1))⟩
theorem Free.below {w w' : World} {base m : Nat} {A : Option Addr} (h : Free w base A m) (b : Below w.heap.size w w') : Free w' base A m := fun hm => by
  obtain ⟨g, o, e, hb, hg, hc⟩ := h hm
  have t := Turns.of_below (S := fun _ => False) b
  exact ⟨g, o, e, hb, Nat.lt_of_lt_of_le hg b.size, fun j hj => ⟨by rw [t.cell hg (fun e => e)]; exact (hc j hj).1, (t.frozen hg (fun e => e)).trans (hc j hj).2⟩⟩
theorem Free.drew {w : World} {base m : Nat} {A : Option Addr} (h : Free w base A m) : Free w.drew base A m := h
theorem Free.base {w : World} {base b m : Nat} {A : Option Addr} (h : Free w base A m) (hb : b ≤ base) : Free w b A m := fun hm => by
  obtain ⟨g, o, e, hb', hg, hc⟩ := h hm
  exact ⟨g, o, e, by omega, hg, hc⟩
theorem Free.setCell {w : World} {base m : Nat} {A : Option Addr} (h : Free w base A m) (b o : Nat) (v : Value) : Free (w.setCell ⟨b, o, none⟩ v) base A m := fun hm => by
  obtain ⟨g, o', e, hb, hg, hc⟩ := h hm
  exact ⟨g, o', e, hb, by simpa [World.setCell] using hg, fun j hj => ⟨some_setCells b [v] o w _ (hc j hj).1, by have := World.frozen?_setCells b [v] o w ⟨g, o' + j, none⟩; exact this.trans (hc j hj).2⟩⟩
theorem Free.at {w : World} {base m : Nat} {A : Option Addr} (h : Free w base A m) {k : Nat} (hk : k < m) : ∃ g o old, A = some ⟨g, o, none⟩ ∧ base ≤ g ∧ w.cell? ⟨g, o + k * 7 + 1, none⟩ = some old ∧ w.frozen? ⟨g, o + k * 7 + 1, none⟩ = false := by
  obtain ⟨g, o, e, hb, hg, hc⟩ := h (by omega)
  have := hc (k * 7 + 1) (by omega)
  rw [← Nat.add_assoc] at this
  obtain ⟨old, ho⟩ := Option.isSome_iff_exists.1 this.1
  exact ⟨g, o, old, e, hb, ho, this.2⟩
/-- A list from a place on: the same memory. -/
abbrev fromA (A : Option Addr) (c k : Nat) : Option Addr := if c = k then A else Option.map (fun x => x.add (k * 7)) A
theorem sl27 (A : Option Addr) (n c k : Nat) (hkn : k ≤ n) (hnc : n ≤ c) (W : World) : (Instr.slice 27 (.slice A n c) (some (.int .i64 (k : Int))) none none).run Tryd.prog W = .ok (.slice (fromA A c k) (n - k) (c - k)) W := by
  have h1 : (k : Int) ≤ (n : Int) := by omega
  simp [go_sem, Instr.slice, Tryd.underlying27]
  intro h2; omega
theorem rd_from {w : World} {K : IntKind} {base : Nat} {A : Option Addr} {F : List Nt} {c k : Nat} (h : Rd w base A (flat K F)) (hc : F.length ≤ c) (hk : k ≤ F.length) : Rd w base (fromA A c k) (flat K (F.drop k)) := fun hp => by
  rw [flat_len, List.length_drop] at hp
  obtain ⟨g, o, e, hg, hl⟩ := h (by rw [flat_len]; omega)
  subst e
  refine ⟨g, o + k * 7, ?_, hg, hl.from k⟩
  unfold fromA
  rw [if_neg (by omega)]
  simp [add_none]
end Go.Proofs.YtoefgfolokcdhaaDoor
