/- What comes in, opened: acts, words; what is read behind the call reads as it did. -/
import Derived.Test.YtikjlmlbbjbcmaaRows
import Derived.Test.YtikjlmlbbjbcmaaC9
import Derived.Lib.SmallJoins
import Derived.ProofKit
import Derived.OpenShut
import Derived.Deep.Slices
import Derived.Carry
namespace Go.Proofs.Ytikjlmlbbjbcmaa
open Go.ChangeShapes Go.WideShapes Go.ChangeAt Go.RowKit Go.Deep

theorem own : ownKnob Try.prog.godebug = none := by kernel_rfl
theorem laidOut : laidOutB Try.prog = true := by kernel_rfl
section
variable {H : Type} {enc : TypeId × Value → H} {W : World} {base : Nat} {sp : Nat → Bool} {held : Bool}
/-- One field of one cell, of a struct's cells. -/
theorem field_at {P : Program} {e : TypeId} {fs : Array Field} {fuel : Nat} {cs : List Value} {x : DataW H × List MemPlace} (he : P.underlying e = some (.struct fs)) (h : DataW.trod enc P W base sp held fuel e cs = some x)
    (j : Nat) (f : Field) (hj : fs[j]? = some f) (ho : f.offset = j) (h1 : P.cellsOf f.type = 1) (hc : j < P.cellsOf e) : ∃ v z m, cs[j]? = some v ∧ DataW.trod enc P W base sp held m f.type [v] = some z := by
  obtain ⟨xs, m, _, _, hlen, hxl, hf⟩ := DataW.trod_struct he h
  have hx := hf j f hj
  rw [ho, h1] at hx
  have hjx : j < xs.length := by rw [hxl]; exact (Array.getElem?_eq_some_iff.1 hj).1
  have hjc : j < cs.length := by omega
  have hd : (cs.drop j).take 1 = [cs[j]] := by rw [List.drop_eq_getElem_cons hjc]; rfl
  rw [hd, List.getElem?_eq_getElem hjx] at hx
  exact ⟨cs[j], xs[j], m, List.getElem?_eq_getElem hjc, hx⟩
theorem u_of {k : IntKind} {a : Int} (h0 : k.min = 0) (h : (Lit.int k a).wf = true) : ∃ n : Nat, a = n ∧ (n : Int) ≤ k.max := by
  simp [Lit.wf, h0] at h
  obtain ⟨n, rfl⟩ := Int.eq_ofNat_of_zero_le h.1
  exact ⟨n, rfl, h.2⟩
/-- A number's field. -/
theorem num_at {e t : TypeId} {k : IntKind} {fs : Array Field} {fuel : Nat} {cs : List Value} {x : DataW H × List MemPlace} (he : Try.prog.underlying e = some (.struct fs)) (h : DataW.trod enc Try.prog W base sp held fuel e cs = some x)
    (j : Nat) (f : Field) (hj : fs[j]? = some f) (ho : f.offset = j) (h1 : Try.prog.cellsOf f.type = 1) (hc : j < Try.prog.cellsOf e) (ht : f.type = t) (hu : Try.prog.underlying t = some (.int k)) (h0 : k.min = 0) : ∃ n : Nat, cs[j]? = some (.int k n) ∧ (n : Int) ≤ k.max := by
  obtain ⟨v, z, m, hv, hz⟩ := field_at he h j f hj ho h1 hc
  rw [ht] at hz
  obtain ⟨a, e1, _, wa⟩ := DataW.trod_int hu hz
  simp at e1
  obtain ⟨n, rfl, hn⟩ := u_of h0 wa
  exact ⟨n, by rw [hv, e1], hn⟩
theorem spot_none {w : World} {a : Addr} {v : Value} (h : w.cell? a = some v) : a.spot = none := by
  unfold World.cell? at h
  cases hs : a.spot with
  | none => rfl
  | some s =>
    exfalso
    cases hb : w.heap[a.block]? with
    | none => simp [hb] at h
    | some x => cases x <;> simp [hb, hs] at h
theorem add_none (b o n : Nat) : (⟨b, o, none⟩ : Addr).add n = ⟨b, o + n, none⟩ := by unfold Addr.add; split <;> simp_all
/-- Acts that came in. -/
theorem open_acts {v : Value} {d : DataW H} {p : List MemPlace} {r : Reach} {b0 : Nat} (hv : Value.okWide Try.prog W r b0 23 v) (h : DataW.Trod enc Try.prog W 0 (fun _ => true) true 23 v d p) :
    (∃ a0 c, v = .slice a0 0 c) ∨ ∃ lb lo n c, v = .slice (some ⟨lb, lo, none⟩) n c ∧ 0 < n ∧ n ≤ maxLen ∧ lb < W.heap.size ∧ ∃ K A V U R, Acts W lb lo n K A V U R := by
  obtain ⟨a0, len, cap, rfl⟩ := okWide_slice Try.underlying23 hv
  obtain ⟨fuel, hf⟩ := h
  rcases open_slice Try.underlying23 hf with ⟨hc, _⟩ | ⟨⟨lb, lo, spot⟩, n, c, m, q, D, Pl, hc, _, hl, hm, hmm, _, hi⟩
  · left
    simp [Value.cells] at hc
    obtain ⟨rfl, rfl, rfl⟩ := hc
    exact ⟨_, _, rfl⟩
  simp [Value.cells] at hc
  obtain ⟨rfl, rfl, rfl⟩ := hc
  rcases Nat.eq_zero_or_pos len with rfl | hpos
  · exact .inl ⟨_, _, rfl⟩
  right
  have hnm : len ≤ m := by rw [hmm]; simp; exact hl
  have h5 : Try.prog.cellsOf 39 = 5 := by kernel_rfl
  have hs : spot = none := by
    obtain ⟨cs, hcs, ht⟩ := hi 0 (by omega)
    obtain ⟨_, hlen, hat⟩ := World.cells?_some hcs
    obtain ⟨k, c0, _⟩ := num_at (t := 5) (k := .u8) Try.underlying39 ht 0 _ rfl rfl (by kernel_rfl) (by rw [h5]; omega) rfl Try.underlying5 rfl
    rw [h5] at hat
    have g0 := (hat 0 (by omega)).trans c0
    have := spot_none g0
    simpa [Addr.add] using this
  subst hs
  have hall : ∀ i, i < len → ∃ y : (Nat × Nat × Nat × Nat × Bool), (y.1 < 256 ∧ y.2.1 < 4294967296 ∧ y.2.2.1 < 18446744073709551616 ∧ y.2.2.2.1 < 18446744073709551616) ∧ W.cell? ⟨lb, lo + i * 5, none⟩ = some (.int .u8 y.1) ∧ W.cell? ⟨lb, lo + i * 5 + 1, none⟩ = some (.int .u32 y.2.1) ∧
      W.cell? ⟨lb, lo + i * 5 + 2, none⟩ = some (.int .u64 y.2.2.1) ∧ W.cell? ⟨lb, lo + i * 5 + 3, none⟩ = some (.int .u64 y.2.2.2.1) ∧ W.cell? ⟨lb, lo + i * 5 + 4, none⟩ = some (.bool y.2.2.2.2) := by
    intro i hin
    obtain ⟨cs, hcs, ht⟩ := hi i (by omega)
    obtain ⟨_, hlen, hat⟩ := World.cells?_some hcs
    obtain ⟨k, c0, b0⟩ := num_at (t := 5) (k := .u8) Try.underlying39 ht 0 _ rfl rfl (by kernel_rfl) (by rw [h5]; omega) rfl Try.underlying5 rfl
    obtain ⟨a, c1, b1⟩ := num_at (t := 27) (k := .u32) Try.underlying39 ht 1 _ rfl rfl (by kernel_rfl) (by rw [h5]; omega) rfl Try.underlying27 rfl
    obtain ⟨v, c2, b2⟩ := num_at (t := 28) (k := .u64) Try.underlying39 ht 2 _ rfl rfl (by kernel_rfl) (by rw [h5]; omega) rfl Try.underlying28 rfl
    obtain ⟨u, c3, b3⟩ := num_at (t := 28) (k := .u64) Try.underlying39 ht 3 _ rfl rfl (by kernel_rfl) (by rw [h5]; omega) rfl Try.underlying28 rfl
    obtain ⟨x, z, mm, c4, hz⟩ := field_at Try.underlying39 ht 4 _ rfl rfl (by kernel_rfl) (by rw [h5]; omega)
    obtain ⟨rr, e4, _⟩ := DataW.trod_bool Try.underlying4 hz
    simp at e4
    subst e4
    rw [h5] at hat
    have g0 := (hat 0 (by omega)).trans c0
    have g1 := (hat 1 (by omega)).trans c1
    have g2 := (hat 2 (by omega)).trans c2
    have g3 := (hat 3 (by omega)).trans c3
    have g4 := (hat 4 (by omega)).trans c4
    rw [add_none, add_none] at g0 g1 g2 g3 g4
    rw [Nat.add_zero] at g0
    simp [IntKind.max, IntKind.bits, IntKind.signed] at b0 b1 b2 b3
    exact ⟨(k, a, v, u, rr), ⟨by show k < 256; omega, by show a < _; omega, by show v < _; omega, by show u < _; omega⟩, g0, g1, g2, g3, g4⟩
  obtain ⟨Y, hY⟩ := choose_lt hall
  refine ⟨lb, lo, len, cap, rfl, hpos, by omega, World.block_lt_of_cell? W _ (hY 0 hpos).2.1, fun i => (Y i).1, fun i => (Y i).2.1, fun i => (Y i).2.2.1, fun i => (Y i).2.2.2.1, fun i => (Y i).2.2.2.2, ?_, ?_, ?_, ?_, ?_⟩
  · exact fun i hi => ⟨(hY i hi).2.1, (hY i hi).1.1⟩
  · exact fun i hi => ⟨(hY i hi).2.2.1, (hY i hi).1.2.1⟩
  · exact fun i hi => ⟨(hY i hi).2.2.2.1, (hY i hi).1.2.2.1⟩
  · exact fun i hi => ⟨(hY i hi).2.2.2.2.1, (hY i hi).1.2.2.2⟩
  · exact fun i hi => (hY i hi).2.2.2.2.2
end
end Go.Proofs.Ytikjlmlbbjbcmaa
