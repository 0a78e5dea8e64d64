/- ClocksPlay: what it stands on. -/
import Derived.Test.YtmnndheddlkbgaaE1
namespace Go.Proofs.Ytmnndheddlkbgaa
open Go.RowKit

/-- Acts that lie below a base. -/
structure Acts where
  K : Nat → Nat
  N : Nat → Nat
  U : Nat → Nat
  on : Nat → Bool
  A : Nat → Option Addr
  c : Nat → Nat
  L : Nat → List Nat
def ActsIn (w : World) (base : Nat) (p : Option Addr) (n : Nat) (a : Acts) : Prop := 0 < n → ∃ lb lo, p = some ⟨lb, lo, none⟩ ∧ lb < base ∧ ∀ i, i < n →
  w.cell? ⟨lb, lo + i * 5, none⟩ = some (.int .u8 (a.K i)) ∧ w.cell? ⟨lb, lo + i * 5 + 1, none⟩ = some (.int .u64 (a.N i)) ∧ w.cell? ⟨lb, lo + i * 5 + 2, none⟩ = some (.bool (a.on i)) ∧ w.cell? ⟨lb, lo + i * 5 + 3, none⟩ = some (.int .u64 (a.U i)) ∧ w.cell? ⟨lb, lo + i * 5 + 4, none⟩ = some (.slice (a.A i) (a.L i).length (a.c i))
def ActsOk (w : World) (base n : Nat) (a : Acts) : Prop := ∀ i, i < n → a.K i < 256 ∧ a.N i ≤ 18446744073709551615 ∧ (a.L i).length ≤ a.c i ∧ a.c i ≤ 9223372036854775807 ∧ Rd w base (a.A i) (a.L i) ∧ ∀ d ∈ a.L i, d ≤ 18446744073709551615
theorem ActsIn.below {w w' : World} {base b : Nat} {p : Option Addr} {n : Nat} {a : Acts} (h : ActsIn w base p n a) (hb : Below b w w') (hbb : base ≤ b) : ActsIn w' base p n a := fun hp => by
  obtain ⟨lb, lo, e, hl, hc⟩ := h hp
  have q : ∀ o, w'.cell? ⟨lb, o, none⟩ = w.cell? ⟨lb, o, none⟩ := fun o => hb.cell (p := ⟨lb, o, none⟩) (by show lb < b; omega)
  exact ⟨lb, lo, e, hl, fun i hi => ⟨(q _).trans (hc i hi).1, (q _).trans (hc i hi).2.1, (q _).trans (hc i hi).2.2.1, (q _).trans (hc i hi).2.2.2.1, (q _).trans (hc i hi).2.2.2.2⟩⟩
/-- Cells that may be written. -/
def Spare (w : World) (A : Option Addr) (n : Nat) : Prop := 0 < n → ∃ g o, A = some ⟨g, o, none⟩ ∧ g < w.heap.size ∧ ∀ j, j < n → (w.cell? ⟨g, o + j, none⟩).isSome = true ∧ w.frozen? ⟨g, o + j, none⟩ = false
theorem Row.spare {w : World} {base : Nat} {A : Option Addr} {n cap : Nat} {D : List Nat} (h : Row w base (.slice A n cap) D) : Spare w A n := fun hp => by
  obtain ⟨A', cap', e, h1, h2, h3, h4⟩ := h
  cases e
  cases A with
  | none => have := h3 rfl; omega
  | some ad =>
    obtain ⟨g, o, rfl, hb, hlt, hl, hc⟩ := h4 ad rfl
    exact ⟨g, o, rfl, hlt, fun j hj => hc j (by omega)⟩
theorem Row.caps {w : World} {base : Nat} {A : Option Addr} {n cap : Nat} {D : List Nat} (h : Row w base (.slice A n cap) D) : D.length ≤ cap ∧ cap ≤ 9223372036854775807 := by
  obtain ⟨A', cap', e, h1, h2, _⟩ := h
  cases e
  exact ⟨h1, by unfold maxLen at h2; omega⟩
theorem Spare.set {w : World} {A : Option Addr} {n : Nat} (h : Spare w A n) (p : Addr) (v : Value) : Spare (w.setCell p v) A n := fun hp => by
  obtain ⟨g, o, e, hg, hc⟩ := h hp
  refine ⟨g, o, e, by simpa [World.setCell] using hg, fun j hj => ⟨?_, by rw [World.frozen?_setCell]; exact (hc j hj).2⟩⟩
  by_cases e : p = ⟨g, o + j, none⟩
  · subst e
    obtain ⟨u, hu⟩ := Option.isSome_iff_exists.1 (hc j hj).1
    rw [World.cell?_setCell_same _ _ _ hu]; rfl
  · rw [World.cell?_setCell_other _ _ _ _ e]; exact (hc j hj).1
theorem Spare.keeps {w w' : World} {P : Nat → Prop} {A : Option Addr} {n cap : Nat} (h : Spare w A n) (k : Keeps P w w') (hp : ∀ g, (Value.slice A n cap).ownBlock = some g → P g) : Spare w' A n := fun hn => by
  obtain ⟨g, o, rfl, hg, hc⟩ := h hn
  have hP := hp g rfl
  exact ⟨g, o, rfl, Nat.lt_of_lt_of_le hg k.size, fun j hj => ⟨by rw [k.cell hP]; exact (hc j hj).1, (k.frozen hP).trans (hc j hj).2⟩⟩
theorem Own.far {w w' : World} {S : Nat → Prop} {base B T most : Nat} {D : List Nat} (h : Own w base B T most D) (t : Turns S w w') (hs : ∀ k, S k → k < base) : Own w' base B T most D := by
  obtain ⟨s, c⟩ := h.own
  refine ⟨Nat.le_trans h.size t.size, h.from_, s, c.kept t (fun e => ?_) (fun g hg e => ?_)⟩
  · have := hs B e; have := h.from_; omega
  · have := hs g e; have := (c.own.lt g hg).1; omega
theorem rem3 (K : Nat) : ∃ r : Nat, r = K % 3 ∧ r < 3 := ⟨_, rfl, Nat.mod_lt _ (by omega)⟩
end Go.Proofs.Ytmnndheddlkbgaa
