/- What comes in, opened: acts. -/
import Derived.Test.YtlmgboggnljefaaRows
import Derived.Test.YtlmgboggnljefaaC5
import Derived.Lib.SmallJoins
import Derived.ProofKit
import Derived.OpenShut
import Derived.Deep.Slices
import Derived.Carry
namespace Go.Proofs.Ytlmgboggnljefaa
open Go.ChangeShapes Go.WideShapes Go.ChangeAt Go.RowKit Go.Deep

theorem own : ownKnob Try.prog.godebug = none := by kernel_rfl
theorem laidOut : laidOutB Try.prog = true := by kernel_rfl
section
variable {H : Type} {enc : TypeId × Value → H} {W : World} {base : Nat} {sp : Nat → Bool} {held : Bool}
/-- One field of one cell, of a struct's cells. -/
theorem field_at {P : Program} {e : TypeId} {fs : Array Field} {fuel : Nat} {cs : List Value} {x : DataW H × List MemPlace} (he : P.underlying e = some (.struct fs)) (h : DataW.trod enc P W base sp held fuel e cs = some x)
    (j : Nat) (f : Field) (hj : fs[j]? = some f) (ho : f.offset = j) (h1 : P.cellsOf f.type = 1) (hc : j < P.cellsOf e) : ∃ v z m, cs[j]? = some v ∧ DataW.trod enc P W base sp held m f.type [v] = some z := by
  obtain ⟨xs, m, _, _, hlen, hxl, hf⟩ := DataW.trod_struct he h
  have hx := hf j f hj
  rw [ho, h1] at hx
  have hjx : j < xs.length := by rw [hxl]; exact (Array.getElem?_eq_some_iff.1 hj).1
  have hjc : j < cs.length := by omega
  have hd : (cs.drop j).take 1 = [cs[j]] := by rw [List.drop_eq_getElem_cons hjc]; rfl
  rw [hd, List.getElem?_eq_getElem hjx] at hx
  exact ⟨cs[j], xs[j], m, List.getElem?_eq_getElem hjc, hx⟩
theorem u_of {k : IntKind} {a : Int} (h0 : k.min = 0) (h : (Lit.int k a).wf = true) : ∃ n : Nat, a = n ∧ (n : Int) ≤ k.max := by
  simp [Lit.wf, h0] at h
  obtain ⟨n, rfl⟩ := Int.eq_ofNat_of_zero_le h.1
  exact ⟨n, rfl, h.2⟩
/-- A number's field. -/
theorem int_at {e t : TypeId} {k : IntKind} {fs : Array Field} {fuel : Nat} {cs : List Value} {x : DataW H × List MemPlace} (he : Try.prog.underlying e = some (.struct fs)) (h : DataW.trod enc Try.prog W base sp held fuel e cs = some x)
    (j : Nat) (f : Field) (hj : fs[j]? = some f) (ho : f.offset = j) (h1 : Try.prog.cellsOf f.type = 1) (hc : j < Try.prog.cellsOf e) (ht : f.type = t) (hu : Try.prog.underlying t = some (.int k)) : ∃ a : Int, cs[j]? = some (.int k a) ∧ (Lit.int k a).wf = true := by
  obtain ⟨v, z, m, hv, hz⟩ := field_at he h j f hj ho h1 hc
  rw [ht] at hz
  obtain ⟨a, e1, _, wa⟩ := DataW.trod_int hu hz
  simp at e1
  exact ⟨a, by rw [hv, e1], wa⟩
theorem num_at {e t : TypeId} {k : IntKind} {fs : Array Field} {fuel : Nat} {cs : List Value} {x : DataW H × List MemPlace} (he : Try.prog.underlying e = some (.struct fs)) (h : DataW.trod enc Try.prog W base sp held fuel e cs = some x)
    (j : Nat) (f : Field) (hj : fs[j]? = some f) (ho : f.offset = j) (h1 : Try.prog.cellsOf f.type = 1) (hc : j < Try.prog.cellsOf e) (ht : f.type = t) (hu : Try.prog.underlying t = some (.int k)) (h0 : k.min = 0) : ∃ n : Nat, cs[j]? = some (.int k n) ∧ (n : Int) ≤ k.max := by
  obtain ⟨a, e1, wa⟩ := int_at he h j f hj ho h1 hc ht hu
  obtain ⟨n, rfl, hn⟩ := u_of h0 wa
  exact ⟨n, e1, hn⟩
theorem spot_none {w : World} {a : Addr} {v : Value} (h : w.cell? a = some v) : a.spot = none := by
  unfold World.cell? at h
  cases hs : a.spot with
  | none => rfl
  | some s =>
    exfalso
    cases hb : w.heap[a.block]? with
    | none => simp [hb] at h
    | some x => cases x <;> simp [hb, hs] at h
theorem add_none (b o n : Nat) : (⟨b, o, none⟩ : Addr).add n = ⟨b, o + n, none⟩ := by unfold Addr.add; split <;> simp_all
/-- Acts that came in. -/
theorem open_acts {v : Value} {d : DataW H} {p : List MemPlace} {r : Reach} {b0 : Nat} (hv : Value.okWide Try.prog W r b0 22 v) (h : DataW.Trod enc Try.prog W 0 (fun _ => true) true 22 v d p) :
    ∃ A n c a, v = .slice A n c ∧ n ≤ maxLen ∧ ActsIn W W.heap.size A n a := by
  obtain ⟨a0, len, cap, rfl⟩ := okWide_slice Try.underlying22 hv
  obtain ⟨fuel, hf⟩ := h
  rcases open_slice Try.underlying22 hf with ⟨hc, _⟩ | ⟨⟨lb, lo, spot⟩, n, c, m, q, D, Pl, hc, _, hl, hm, hmm, _, hi⟩
  · simp [Value.cells] at hc
    obtain ⟨rfl, rfl, rfl⟩ := hc
    exact ⟨_, _, _, ⟨fun _ => 0, fun _ => 0, fun _ => 0⟩, rfl, Nat.zero_le _, fun h => absurd h (by omega)⟩
  simp [Value.cells] at hc
  obtain ⟨rfl, rfl, rfl⟩ := hc
  rcases Nat.eq_zero_or_pos len with rfl | hpos
  · exact ⟨_, _, _, ⟨fun _ => 0, fun _ => 0, fun _ => 0⟩, rfl, Nat.zero_le _, fun h => absurd h (by omega)⟩
  have hnm : len ≤ m := by rw [hmm]; simp; exact hl
  have h5 : Try.prog.cellsOf 34 = 3 := by kernel_rfl
  have hs : spot = none := by
    obtain ⟨cs, hcs, ht⟩ := hi 0 (by omega)
    obtain ⟨_, hlen, hat⟩ := World.cells?_some hcs
    obtain ⟨k, c0, _⟩ := num_at (t := 5) (k := .u8) Try.underlying34 ht 0 _ rfl rfl (by kernel_rfl) (by rw [h5]; omega) rfl Try.underlying5 rfl
    rw [h5] at hat
    have g0 := (hat 0 (by omega)).trans c0
    have := spot_none g0
    simpa [Addr.add] using this
  subst hs
  have hall : ∀ i, i < len → ∃ y : (Nat × Int × Int), W.cell? ⟨lb, lo + i * 3, none⟩ = some (.int .u8 y.1) ∧ W.cell? ⟨lb, lo + i * 3 + 1, none⟩ = some (.int .i64 y.2.1) ∧
      W.cell? ⟨lb, lo + i * 3 + 2, none⟩ = some (.int .i64 y.2.2) ∧ y.1 < 256 := by
    intro i hin
    obtain ⟨cs, hcs, ht⟩ := hi i (by omega)
    obtain ⟨_, hlen, hat⟩ := World.cells?_some hcs
    obtain ⟨k, c0, b0⟩ := num_at (t := 5) (k := .u8) Try.underlying34 ht 0 _ rfl rfl (by kernel_rfl) (by rw [h5]; omega) rfl Try.underlying5 rfl
    obtain ⟨a, c1, _⟩ := int_at (t := 3) (k := .i64) Try.underlying34 ht 1 _ rfl rfl (by kernel_rfl) (by rw [h5]; omega) rfl Try.underlying3
    obtain ⟨v, c2, _⟩ := int_at (t := 3) (k := .i64) Try.underlying34 ht 2 _ rfl rfl (by kernel_rfl) (by rw [h5]; omega) rfl Try.underlying3
    rw [h5] at hat
    have g0 := (hat 0 (by omega)).trans c0
    have g1 := (hat 1 (by omega)).trans c1
    have g2 := (hat 2 (by omega)).trans c2
    rw [add_none, add_none] at g0 g1 g2
    rw [Nat.add_zero] at g0
    simp [IntKind.max, IntKind.bits, IntKind.signed] at b0
    exact ⟨(k, a, v), g0, g1, g2, by show k < 256; omega⟩
  obtain ⟨Y, hY⟩ := choose_lt hall
  exact ⟨_, len, cap, ⟨fun i => (Y i).1, fun i => (Y i).2.1, fun i => (Y i).2.2⟩, rfl, by omega, fun _ => ⟨lb, lo, rfl, World.block_lt_of_cell? W _ (hY 0 hpos).1, hY⟩⟩
/-- An act that comes in by value. -/
theorem open_act {v : Value} {d : DataW H} {p : List MemPlace} {r : Reach} {b0 : Nat} (hv : Value.okWide Try.prog W r b0 34 v) (h : DataW.Trod enc Try.prog W 0 (fun _ => true) true 34 v d p) :
    ∃ (k : Nat) (a u : Int), v = .agg #[.int .u8 (k : Int), .int .i64 a, .int .i64 u] ∧ k < 256 := by
  obtain ⟨cs, rfl, hsz⟩ := okWide_struct Try.underlying34 hv
  obtain ⟨fuel, ht⟩ := h
  have h5 : Try.prog.cellsOf 34 = 3 := by kernel_rfl
  rw [h5] at hsz
  obtain ⟨k, c0, b0⟩ := num_at (t := 5) (k := .u8) Try.underlying34 ht 0 _ rfl rfl (by kernel_rfl) (by rw [h5]; omega) rfl Try.underlying5 rfl
  obtain ⟨a, c1, _⟩ := int_at (t := 3) (k := .i64) Try.underlying34 ht 1 _ rfl rfl (by kernel_rfl) (by rw [h5]; omega) rfl Try.underlying3
  obtain ⟨u, c2, _⟩ := int_at (t := 3) (k := .i64) Try.underlying34 ht 2 _ rfl rfl (by kernel_rfl) (by rw [h5]; omega) rfl Try.underlying3
  simp [IntKind.max, IntKind.bits, IntKind.signed] at b0
  refine ⟨k, a, u, ?_, by omega⟩
  obtain ⟨l⟩ := cs
  match l, hsz with
  | [x0, x1, x2], _ =>
    simp [Value.cells] at c0 c1 c2
    rw [c0, c1, c2]
end
end Go.Proofs.Ytlmgboggnljefaa
