/- What comes in, opened: queues of entries, numbers. -/
import Derived.Test.YtjblpdnhkoemjaaRows
import Derived.Test.YtjblpdnhkoemjaaK1
import Derived.Lib.SmallJoins
import Derived.ProofKit
import Derived.OpenShut
import Derived.Deep.Slices
import Derived.Carry
namespace Go.Proofs.Ytjblpdnhkoemjaa
open Go.ChangeShapes Go.WideShapes Go.ChangeAt Go.RowKit Go.Deep

theorem own : ownKnob Try.prog.godebug = none := by kernel_rfl
theorem laidOut : laidOutB Try.prog = true := by kernel_rfl
section
variable {H : Type} {enc : TypeId × Value → H} {W : World} {base : Nat} {sp : Nat → Bool} {held : Bool}
/-- One field of one cell, of a struct's cells. -/
theorem field_at {P : Program} {e : TypeId} {fs : Array Field} {fuel : Nat} {cs : List Value} {x : DataW H × List MemPlace} (he : P.underlying e = some (.struct fs)) (h : DataW.trod enc P W base sp held fuel e cs = some x)
    (j : Nat) (f : Field) (hj : fs[j]? = some f) (ho : f.offset = j) (h1 : P.cellsOf f.type = 1) (hc : j < P.cellsOf e) : ∃ v z m, cs[j]? = some v ∧ DataW.trod enc P W base sp held m f.type [v] = some z := by
  obtain ⟨xs, m, _, _, hlen, hxl, hf⟩ := DataW.trod_struct he h
  have hx := hf j f hj
  rw [ho, h1] at hx
  have hjx : j < xs.length := by rw [hxl]; exact (Array.getElem?_eq_some_iff.1 hj).1
  have hjc : j < cs.length := by omega
  have hd : (cs.drop j).take 1 = [cs[j]] := by rw [List.drop_eq_getElem_cons hjc]; rfl
  rw [hd, List.getElem?_eq_getElem hjx] at hx
  exact ⟨cs[j], xs[j], m, List.getElem?_eq_getElem hjc, hx⟩
theorem u_of {k : IntKind} {a : Int} (h0 : k.min = 0) (h : (Lit.int k a).wf = true) : ∃ n : Nat, a = n ∧ (n : Int) ≤ k.max := by
  simp [Lit.wf, h0] at h
  obtain ⟨n, rfl⟩ := Int.eq_ofNat_of_zero_le h.1
  exact ⟨n, rfl, h.2⟩
/-- A number's field. -/
theorem int_at {e t : TypeId} {k : IntKind} {fs : Array Field} {fuel : Nat} {cs : List Value} {x : DataW H × List MemPlace} (he : Try.prog.underlying e = some (.struct fs)) (h : DataW.trod enc Try.prog W base sp held fuel e cs = some x)
    (j : Nat) (f : Field) (hj : fs[j]? = some f) (ho : f.offset = j) (h1 : Try.prog.cellsOf f.type = 1) (hc : j < Try.prog.cellsOf e) (ht : f.type = t) (hu : Try.prog.underlying t = some (.int k)) : ∃ a : Int, cs[j]? = some (.int k a) ∧ (Lit.int k a).wf = true := by
  obtain ⟨v, z, m, hv, hz⟩ := field_at he h j f hj ho h1 hc
  rw [ht] at hz
  obtain ⟨a, e1, _, wa⟩ := DataW.trod_int hu hz
  simp at e1
  exact ⟨a, by rw [hv, e1], wa⟩
theorem num_at {e t : TypeId} {k : IntKind} {fs : Array Field} {fuel : Nat} {cs : List Value} {x : DataW H × List MemPlace} (he : Try.prog.underlying e = some (.struct fs)) (h : DataW.trod enc Try.prog W base sp held fuel e cs = some x)
    (j : Nat) (f : Field) (hj : fs[j]? = some f) (ho : f.offset = j) (h1 : Try.prog.cellsOf f.type = 1) (hc : j < Try.prog.cellsOf e) (ht : f.type = t) (hu : Try.prog.underlying t = some (.int k)) (h0 : k.min = 0) : ∃ n : Nat, cs[j]? = some (.int k n) ∧ (n : Int) ≤ k.max := by
  obtain ⟨a, e1, wa⟩ := int_at he h j f hj ho h1 hc ht hu
  obtain ⟨n, rfl, hn⟩ := u_of h0 wa
  exact ⟨n, e1, hn⟩
theorem spot_none {w : World} {a : Addr} {v : Value} (h : w.cell? a = some v) : a.spot = none := by
  unfold World.cell? at h
  cases hs : a.spot with
  | none => rfl
  | some s =>
    exfalso
    cases hb : w.heap[a.block]? with
    | none => simp [hb] at h
    | some x => cases x <;> simp [hb, hs] at h
theorem lies_ents {w : World} {g o : Nat} {D : List Ent} (h : ∀ i, i < D.length → w.cell? ⟨g, o + i * 3, none⟩ = some (.int .i64 D[i]!.t) ∧ w.cell? ⟨g, o + i * 3 + 1, none⟩ = some (.int .u32 D[i]!.k) ∧ w.cell? ⟨g, o + i * 3 + 2, none⟩ = some (.int .u64 D[i]!.z)) : Lies w g o (flat D) := fun j u e => by
  have hj := (List.getElem?_eq_some_iff.1 e).1
  rw [flat_len] at hj
  have hi : j / 3 < D.length := by omega
  obtain ⟨h0, h1, h2⟩ := h (j / 3) hi
  obtain ⟨f0, f1, f2⟩ := flat_get D (j / 3) hi
  have hr : j % 3 = 0 ∨ j % 3 = 1 ∨ j % 3 = 2 := by omega
  rcases hr with hr | hr | hr
  · rw [show j / 3 * 3 = j by omega] at h0 f0
    rw [f0] at e
    injection e with e
    rw [← e]; exact h0
  · rw [show j / 3 * 3 + 1 = j by omega] at f1
    rw [show o + j / 3 * 3 + 1 = o + j by omega] at h1
    rw [f1] at e
    injection e with e
    rw [← e]; exact h1
  · rw [show j / 3 * 3 + 2 = j by omega] at f2
    rw [show o + j / 3 * 3 + 2 = o + j by omega] at h2
    rw [f2] at e
    injection e with e
    rw [← e]; exact h2
/-- Entries that came in. -/
theorem open_ents {fuel : Nat} {cs : List Value} {x : DataW H × List MemPlace} (hf : DataW.trod enc Try.prog W 0 (fun _ => true) true fuel 32 cs = some x) :
    ∃ A c D, cs = [.slice A D.length c] ∧ D.length ≤ c ∧ c ≤ 9223372036854775807 ∧ Rd W W.heap.size A (flat D) ∧ Keys D := by
  rcases open_slice Try.underlying32 hf with ⟨hc, _⟩ | ⟨⟨lb, lo, spot⟩, len, cap, m, q, D, Pl, hc, _, hl, hm, hmm, _, hi⟩
  · exact ⟨none, 0, [], hc, Nat.le_refl _, by omega, Rd.nil, fun e he => by cases he⟩
  unfold maxLen at hm
  rcases Nat.eq_zero_or_pos len with rfl | hpos
  · exact ⟨_, cap, [], hc, hl, by omega, Rd.nil, fun e he => by cases he⟩
  have hnm : len ≤ m := by rw [hmm]; simp; exact hl
  have h5 : Try.prog.cellsOf 39 = 3 := by kernel_rfl
  have hs : spot = none := by
    obtain ⟨cs, hcs, ht⟩ := hi 0 (by omega)
    obtain ⟨_, hlen, hat⟩ := World.cells?_some hcs
    obtain ⟨k, c0, _⟩ := int_at (t := 3) (k := .i64) Try.underlying39 ht 0 _ rfl rfl (by kernel_rfl) (by rw [h5]; omega) rfl Try.underlying3
    rw [h5] at hat
    have g0 := (hat 0 (by omega)).trans c0
    have := spot_none g0
    simpa [Addr.add] using this
  subst hs
  have hall : ∀ i, i < len → ∃ y : Ent, (W.cell? ⟨lb, lo + i * 3, none⟩ = some (.int .i64 y.t) ∧ W.cell? ⟨lb, lo + i * 3 + 1, none⟩ = some (.int .u32 y.k) ∧ W.cell? ⟨lb, lo + i * 3 + 2, none⟩ = some (.int .u64 y.z)) ∧ ∃ k : Nat, y.k = (k : Int) ∧ k < 4294967296 := by
    intro i hin
    obtain ⟨cs, hcs, ht⟩ := hi i (by omega)
    obtain ⟨_, hlen, hat⟩ := World.cells?_some hcs
    obtain ⟨a, c0, _⟩ := int_at (t := 3) (k := .i64) Try.underlying39 ht 0 _ rfl rfl (by kernel_rfl) (by rw [h5]; omega) rfl Try.underlying3
    obtain ⟨b, c1, hb⟩ := num_at (t := 36) (k := .u32) Try.underlying39 ht 1 _ rfl rfl (by kernel_rfl) (by rw [h5]; omega) rfl Try.underlying36 rfl
    obtain ⟨z, c2, _⟩ := int_at (t := 37) (k := .u64) Try.underlying39 ht 2 _ rfl rfl (by kernel_rfl) (by rw [h5]; omega) rfl Try.underlying37
    rw [h5] at hat
    have g0 := (hat 0 (by omega)).trans c0
    have g1 := (hat 1 (by omega)).trans c1
    have g2 := (hat 2 (by omega)).trans c2
    rw [add_none, add_none] at g0 g1 g2
    rw [Nat.add_zero] at g0
    have hb' : (b : Int) ≤ 4294967295 := hb
    exact ⟨⟨a, b, z⟩, ⟨g0, g1, g2⟩, b, rfl, by omega⟩
  obtain ⟨Y, hY⟩ := choose_lt hall
  have hlD : ((List.range len).map Y).length = len := by simp
  refine ⟨some ⟨lb, lo, none⟩, cap, (List.range len).map Y, by rw [hlD]; exact hc, by omega, by omega, fun _ => ⟨lb, lo, rfl, World.block_lt_of_cell? W _ (hY 0 hpos).1.1, lies_ents fun i hi => ?_⟩, fun e he => ?_⟩
  · rw [hlD] at hi
    have : ((List.range len).map Y)[i]! = Y i := by rw [getElem!_pos _ i (by rw [hlD]; exact hi)]; simp
    rw [this]
    exact (hY i hi).1
  · obtain ⟨i, hi, rfl⟩ := List.mem_map.1 he
    exact (hY i (List.mem_range.1 hi)).2
/-- Queues that came in. -/
theorem open_queues {v : Value} {d : DataW H} {p : List MemPlace} {r : Reach} {b0 : Nat} (hv : Value.okWide Try.prog W r b0 22 v) (h : DataW.Trod enc Try.prog W 0 (fun _ => true) true 22 v d p) :
    ∃ A c Ls, v = .slice A Ls.length c ∧ Ls.length ≤ c ∧ c ≤ 9223372036854775807 ∧ Qs W W.heap.size A Ls ∧ Keys Ls.flatten := by
  obtain ⟨a0, len0, cap0, rfl⟩ := okWide_slice Try.underlying22 hv
  obtain ⟨fuel, hf⟩ := h
  rcases open_slice1 Try.underlying22 (by kernel_rfl) hf with ⟨hc, _⟩ | ⟨⟨lb, lo, spot⟩, len, cap, m, q, V, D, Pl, hc, _, hl, hm, hmm, _, hi⟩
  · simp [Value.cells] at hc
    obtain ⟨rfl, rfl, rfl⟩ := hc
    exact ⟨_, _, [], rfl, Nat.le_refl _, by omega, Qs.nil, fun e he => by cases he⟩
  simp [Value.cells] at hc
  obtain ⟨rfl, rfl, rfl⟩ := hc
  unfold maxLen at hm
  rcases Nat.eq_zero_or_pos len0 with rfl | hpos
  · exact ⟨_, _, [], rfl, hl, by omega, Qs.nil, fun e he => by cases he⟩
  have hnm : len0 ≤ m := by rw [hmm]; simp; exact hl
  have hs : spot = none := by
    have := spot_none (hi 0 (by omega)).1
    simpa [Addr.add] using this
  subst hs
  have hall : ∀ i, i < len0 → ∃ y : (Option Addr × Nat × List Ent), W.cell? ⟨lb, lo + i, none⟩ = some (.slice y.1 y.2.2.length y.2.1) ∧ y.2.2.length ≤ y.2.1 ∧ y.2.1 ≤ 9223372036854775807 ∧ Rd W W.heap.size y.1 (flat y.2.2) ∧ Keys y.2.2 := by
    intro i hin
    obtain ⟨g0, ht⟩ := hi i (by omega)
    obtain ⟨A, c, D, e, h1, h2, h3, h4⟩ := open_ents ht
    rw [add_none] at g0
    injection e with e
    rw [e] at g0
    exact ⟨(A, c, D), g0, h1, h2, h3, h4⟩
  obtain ⟨Y, hY⟩ := choose_lt hall
  have hlD : ((List.range len0).map fun i => (Y i).2.2).length = len0 := by simp
  have hget : ∀ i, i < len0 → ((List.range len0).map fun i => (Y i).2.2)[i]! = (Y i).2.2 := fun i hi => by
    rw [getElem!_pos _ i (by rw [hlD]; exact hi)]; simp
  refine ⟨some ⟨lb, lo, none⟩, cap0, (List.range len0).map fun i => (Y i).2.2, by rw [hlD], by omega, by omega, ⟨(List.range len0).map fun i => .slice (Y i).1 (Y i).2.2.length (Y i).2.1, by simp, fun _ => ⟨lb, lo, rfl, World.block_lt_of_cell? W _ (hY 0 hpos).1, fun j u e => ?_⟩, fun i hi => ?_⟩, fun e he => ?_⟩
  · have hj := (List.getElem?_eq_some_iff.1 e).1
    simp at hj
    rw [List.getElem?_map, List.getElem?_range hj] at e
    simp at e
    rw [← e]
    exact (hY j hj).1
  · rw [hlD] at hi
    rw [hget i hi]
    obtain ⟨h0, h1, h2, h3, _⟩ := hY i hi
    exact ⟨(Y i).1, (Y i).2.1, by simp [hi], h1, h2, h3⟩
  · obtain ⟨l, hl', he⟩ := List.mem_flatten.1 he
    obtain ⟨i, hi, rfl⟩ := List.mem_map.1 hl'
    exact (hY i (List.mem_range.1 hi)).2.2.2.2 e he
theorem open_i64 {v : Value} {d : DataW H} {p : List MemPlace} {r : Reach} {b0 : Nat} (hv : Value.okWide Try.prog W r b0 3 v) (h : DataW.Trod enc Try.prog W 0 (fun _ => true) true 3 v d p) : ∃ a : Int, v = .int .i64 a := by
  obtain ⟨a, rfl, _, _, wa⟩ := open_int Try.underlying3 hv h
  exact ⟨a, rfl⟩
theorem open_u8 {v : Value} {d : DataW H} {p : List MemPlace} {r : Reach} {b0 : Nat} (hv : Value.okWide Try.prog W r b0 5 v) (h : DataW.Trod enc Try.prog W 0 (fun _ => true) true 5 v d p) : ∃ n : Nat, v = .int .u8 n ∧ n < 256 := by
  obtain ⟨a, rfl, _, _, wa⟩ := open_int Try.underlying5 hv h
  obtain ⟨n, rfl, hn⟩ := u_of rfl wa
  have hn' : (n : Int) ≤ 255 := hn
  exact ⟨n, rfl, by omega⟩
end
end Go.Proofs.Ytjblpdnhkoemjaa
