/- Notes that come in, opened. -/
import Derived.Test.YtoefgfolokcdhaaDoorLift
import Derived.Test.YtoefgfolokcdhaaDoorD1
import Derived.Lib.SmallJoins
import Derived.ProofKit
import Derived.OpenShut
import Derived.Deep.Slices
import Derived.Carry
namespace Go.Proofs.YtoefgfolokcdhaaDoor
open Go.ChangeShapes Go.WideShapes Go.ChangeAt Go.RowKit Go.Deep

theorem laidOut : laidOutB Tryd.prog = true := by kernel_rfl
section
variable {H : Type} {enc : TypeId × Value → H} {W : World} {base : Nat} {sp : Nat → Bool} {held : Bool}
/-- One field of one cell, of a struct's cells. -/
theorem field_at {P : Program} {e : TypeId} {fs : Array Field} {fuel : Nat} {cs : List Value} {x : DataW H × List MemPlace} (he : P.underlying e = some (.struct fs)) (h : DataW.trod enc P W base sp held fuel e cs = some x)
    (j : Nat) (f : Field) (hj : fs[j]? = some f) (ho : f.offset = j) (h1 : P.cellsOf f.type = 1) (hc : j < P.cellsOf e) : ∃ v z m, cs[j]? = some v ∧ DataW.trod enc P W base sp held m f.type [v] = some z := by
  obtain ⟨xs, m, _, _, hlen, hxl, hf⟩ := DataW.trod_struct he h
  have hx := hf j f hj
  rw [ho, h1] at hx
  have hjx : j < xs.length := by rw [hxl]; exact (Array.getElem?_eq_some_iff.1 hj).1
  have hjc : j < cs.length := by omega
  have hd : (cs.drop j).take 1 = [cs[j]] := by rw [List.drop_eq_getElem_cons hjc]; rfl
  rw [hd, List.getElem?_eq_getElem hjx] at hx
  exact ⟨cs[j], xs[j], m, List.getElem?_eq_getElem hjc, hx⟩
theorem u_of {k : IntKind} {a : Int} (h0 : k.min = 0) (h : (Lit.int k a).wf = true) : ∃ n : Nat, a = n ∧ (n : Int) ≤ k.max := by
  simp [Lit.wf, h0] at h
  obtain ⟨n, rfl⟩ := Int.eq_ofNat_of_zero_le h.1
  exact ⟨n, rfl, h.2⟩
/-- A number's field. -/
theorem int_at {e t : TypeId} {k : IntKind} {fs : Array Field} {fuel : Nat} {cs : List Value} {x : DataW H × List MemPlace} (he : Tryd.prog.underlying e = some (.struct fs)) (h : DataW.trod enc Tryd.prog W base sp held fuel e cs = some x)
    (j : Nat) (f : Field) (hj : fs[j]? = some f) (ho : f.offset = j) (h1 : Tryd.prog.cellsOf f.type = 1) (hc : j < Tryd.prog.cellsOf e) (ht : f.type = t) (hu : Tryd.prog.underlying t = some (.int k)) : ∃ a : Int, cs[j]? = some (.int k a) ∧ (Lit.int k a).wf = true := by
  obtain ⟨v, z, m, hv, hz⟩ := field_at he h j f hj ho h1 hc
  rw [ht] at hz
  obtain ⟨a, e1, _, wa⟩ := DataW.trod_int hu hz
  simp at e1
  exact ⟨a, by rw [hv, e1], wa⟩
theorem num_at {e t : TypeId} {k : IntKind} {fs : Array Field} {fuel : Nat} {cs : List Value} {x : DataW H × List MemPlace} (he : Tryd.prog.underlying e = some (.struct fs)) (h : DataW.trod enc Tryd.prog W base sp held fuel e cs = some x)
    (j : Nat) (f : Field) (hj : fs[j]? = some f) (ho : f.offset = j) (h1 : Tryd.prog.cellsOf f.type = 1) (hc : j < Tryd.prog.cellsOf e) (ht : f.type = t) (hu : Tryd.prog.underlying t = some (.int k)) (h0 : k.min = 0) : ∃ n : Nat, cs[j]? = some (.int k n) ∧ (n : Int) ≤ k.max := by
  obtain ⟨a, e1, wa⟩ := int_at he h j f hj ho h1 hc ht hu
  obtain ⟨n, rfl, hn⟩ := u_of h0 wa
  exact ⟨n, e1, hn⟩
theorem spot_none {w : World} {a : Addr} {v : Value} (h : w.cell? a = some v) : a.spot = none := by
  unfold World.cell? at h
  cases hs : a.spot with
  | none => rfl
  | some s =>
    exfalso
    cases hb : w.heap[a.block]? with
    | none => simp [hb] at h
    | some x => cases x <;> simp [hb, hs] at h
theorem cells37 : Tryd.prog.cellsOf 37 = 7 := by kernel_rfl
theorem agg7 {cs : Array Value} (hs : cs.size = 7) {v0 v1 v2 v3 v4 v5 v6 : Value} (h0 : cs[0]? = some v0) (h1 : cs[1]? = some v1) (h2 : cs[2]? = some v2) (h3 : cs[3]? = some v3) (h4 : cs[4]? = some v4) (h5 : cs[5]? = some v5) (h6 : cs[6]? = some v6) : cs = #[v0, v1, v2, v3, v4, v5, v6] := by
  apply Array.ext_getElem?
  intro i
  match i with
  | 0 => exact h0
  | 1 => exact h1
  | 2 => exact h2
  | 3 => exact h3
  | 4 => exact h4
  | 5 => exact h5
  | 6 => exact h6
  | i + 7 => rw [Array.getElem?_eq_none (by omega), Array.getElem?_eq_none (by simp)]
theorem max8 : IntKind.u8.max = 255 := by decide
/-- A note that came in. -/
theorem open_note {v : Value} {d : DataW H} {p : List MemPlace} {r : Reach} {b0 : Nat} (hv : Value.okWide Tryd.prog W r b0 37 v) (h : DataW.Trod enc Tryd.prog W 0 (fun _ => true) true 37 v d p) :
    ∃ n : Nt, v = ag .u8 n ∧ n.k < 256 := by
  obtain ⟨cs, rfl, hsz⟩ := okWide_struct Tryd.underlying37 hv
  obtain ⟨fuel, ht⟩ := h
  have h7 := cells37
  rw [h7] at hsz
  obtain ⟨x0, c0, _⟩ := int_at (t := 3) (k := .i64) Tryd.underlying37 ht 0 _ rfl rfl (by kernel_rfl) (by rw [h7]; omega) rfl Tryd.underlying3
  obtain ⟨x1, c1, _⟩ := int_at (t := 3) (k := .i64) Tryd.underlying37 ht 1 _ rfl rfl (by kernel_rfl) (by rw [h7]; omega) rfl Tryd.underlying3
  obtain ⟨x2, c2, h2⟩ := num_at (t := 32) (k := .u8) Tryd.underlying37 ht 2 _ rfl rfl (by kernel_rfl) (by rw [h7]; omega) rfl Tryd.underlying32 rfl
  obtain ⟨x3, c3, _⟩ := int_at (t := 34) (k := .u32) Tryd.underlying37 ht 3 _ rfl rfl (by kernel_rfl) (by rw [h7]; omega) rfl Tryd.underlying34
  obtain ⟨x4, c4, _⟩ := int_at (t := 3) (k := .i64) Tryd.underlying37 ht 4 _ rfl rfl (by kernel_rfl) (by rw [h7]; omega) rfl Tryd.underlying3
  obtain ⟨x5, c5, _⟩ := int_at (t := 34) (k := .u32) Tryd.underlying37 ht 5 _ rfl rfl (by kernel_rfl) (by rw [h7]; omega) rfl Tryd.underlying34
  obtain ⟨x6, c6, _⟩ := int_at (t := 35) (k := .u64) Tryd.underlying37 ht 6 _ rfl rfl (by kernel_rfl) (by rw [h7]; omega) rfl Tryd.underlying35
  simp only [Value.cells, Array.getElem?_toList] at c0 c1 c2 c3 c4 c5 c6
  rw [max8] at h2
  exact ⟨⟨x0, x1, x2, x3, x4, x5, x6⟩, by rw [agg7 hsz c0 c1 c2 c3 c4 c5 c6], by show x2 < 256; omega⟩
theorem lies_notes {w : World} {g o : Nat} {D : List Nt} (h : ∀ i, i < D.length → NtAt w .u8 g (o + i * 7) D[i]!) : Lies w g o (flat .u8 D) := fun j u e => by
  have hj := (List.getElem?_eq_some_iff.1 e).1
  rw [flat_len] at hj
  have hi : j / 7 < D.length := by omega
  have hN := h (j / 7) hi
  have hr := flat_get .u8 D (j / 7) hi (j % 7) (by omega)
  rw [show j / 7 * 7 + j % 7 = j by omega, e] at hr
  have ho : o + j = o + j / 7 * 7 + j % 7 := by omega
  rw [ho]
  generalize j % 7 = m at *
  match m, hr with
  | 0, hr => injection hr with hr; rw [hr]; exact hN.c0
  | 1, hr => injection hr with hr; rw [hr]; exact hN.c1
  | 2, hr => injection hr with hr; rw [hr]; exact hN.c2
  | 3, hr => injection hr with hr; rw [hr]; exact hN.c3
  | 4, hr => injection hr with hr; rw [hr]; exact hN.c4
  | 5, hr => injection hr with hr; rw [hr]; exact hN.c5
  | 6, hr => injection hr with hr; rw [hr]; exact hN.c6
  | m + 7, hr => cases hr
/-- Notes that came in. -/
theorem open_notes {v : Value} {d : DataW H} {p : List MemPlace} {r : Reach} {b0 : Nat} (hv : Value.okWide Tryd.prog W r b0 22 v) (h : DataW.Trod enc Tryd.prog W 0 (fun _ => true) true 22 v d p) :
    ∃ A n c D, v = .slice A n c ∧ n = D.length ∧ n ≤ c ∧ c ≤ 9223372036854775807 ∧ Rd W W.heap.size A (flat .u8 D) ∧ ∀ d ∈ D, d.k < 256 := by
  obtain ⟨a0, len, cap, rfl⟩ := okWide_slice Tryd.underlying22 hv
  obtain ⟨fuel, hf⟩ := h
  rcases open_slice Tryd.underlying22 hf with ⟨hc, _⟩ | ⟨⟨lb, lo, spot⟩, n, c, m, q, D, Pl, hc, _, hl, hm, hmm, _, hi⟩
  · simp [Value.cells] at hc
    obtain ⟨rfl, rfl, rfl⟩ := hc
    exact ⟨_, _, _, [], rfl, rfl, Nat.le_refl _, by omega, Rd.nil, fun d hd => by cases hd⟩
  simp [Value.cells] at hc
  obtain ⟨rfl, rfl, rfl⟩ := hc
  unfold maxLen at hm
  rcases Nat.eq_zero_or_pos len with rfl | hpos
  · exact ⟨_, _, _, [], rfl, rfl, hl, by omega, Rd.nil, fun d hd => by cases hd⟩
  have hnm : len ≤ m := by rw [hmm]; simp; exact hl
  have h7 := cells37
  have hs : spot = none := by
    obtain ⟨cs, hcs, ht⟩ := hi 0 (by omega)
    obtain ⟨_, hlen, hat⟩ := World.cells?_some hcs
    obtain ⟨k, c0, _⟩ := int_at (t := 3) (k := .i64) Tryd.underlying37 ht 0 _ rfl rfl (by kernel_rfl) (by rw [h7]; omega) rfl Tryd.underlying3
    rw [h7] at hat
    have g0 := (hat 0 (by omega)).trans c0
    have := spot_none g0
    simpa [Addr.add] using this
  subst hs
  have hall : ∀ i, i < len → ∃ y : Nt, NtAt W .u8 lb (lo + i * 7) y ∧ y.k < 256 := by
    intro i hin
    obtain ⟨cs, hcs, ht⟩ := hi i (by omega)
    obtain ⟨_, hlen, hat⟩ := World.cells?_some hcs
    obtain ⟨x0, c0, _⟩ := int_at (t := 3) (k := .i64) Tryd.underlying37 ht 0 _ rfl rfl (by kernel_rfl) (by rw [h7]; omega) rfl Tryd.underlying3
    obtain ⟨x1, c1, _⟩ := int_at (t := 3) (k := .i64) Tryd.underlying37 ht 1 _ rfl rfl (by kernel_rfl) (by rw [h7]; omega) rfl Tryd.underlying3
    obtain ⟨x2, c2, h2⟩ := num_at (t := 32) (k := .u8) Tryd.underlying37 ht 2 _ rfl rfl (by kernel_rfl) (by rw [h7]; omega) rfl Tryd.underlying32 rfl
    obtain ⟨x3, c3, _⟩ := int_at (t := 34) (k := .u32) Tryd.underlying37 ht 3 _ rfl rfl (by kernel_rfl) (by rw [h7]; omega) rfl Tryd.underlying34
    obtain ⟨x4, c4, _⟩ := int_at (t := 3) (k := .i64) Tryd.underlying37 ht 4 _ rfl rfl (by kernel_rfl) (by rw [h7]; omega) rfl Tryd.underlying3
    obtain ⟨x5, c5, _⟩ := int_at (t := 34) (k := .u32) Tryd.underlying37 ht 5 _ rfl rfl (by kernel_rfl) (by rw [h7]; omega) rfl Tryd.underlying34
    obtain ⟨x6, c6, _⟩ := int_at (t := 35) (k := .u64) Tryd.underlying37 ht 6 _ rfl rfl (by kernel_rfl) (by rw [h7]; omega) rfl Tryd.underlying35
    rw [h7] at hat
    rw [max8] at h2
    have g0 := (hat 0 (by omega)).trans c0
    have g1 := (hat 1 (by omega)).trans c1
    have g2 := (hat 2 (by omega)).trans c2
    have g3 := (hat 3 (by omega)).trans c3
    have g4 := (hat 4 (by omega)).trans c4
    have g5 := (hat 5 (by omega)).trans c5
    have g6 := (hat 6 (by omega)).trans c6
    rw [add_none, add_none] at g0 g1 g2 g3 g4 g5 g6
    rw [Nat.add_zero] at g0
    exact ⟨⟨x0, x1, x2, x3, x4, x5, x6⟩, ⟨g0, g1, g2, g3, g4, g5, g6⟩, by show x2 < 256; omega⟩
  obtain ⟨Y, hY⟩ := choose_lt hall
  have hlD : ((List.range len).map Y).length = len := by simp
  refine ⟨_, len, cap, (List.range len).map Y, rfl, hlD.symm, hl, by omega, fun _ => ⟨lb, lo, rfl, World.block_lt_of_cell? W _ (hY 0 hpos).1.c0, lies_notes fun i hi => ?_⟩, fun d hd => ?_⟩
  · rw [hlD] at hi
    have : ((List.range len).map Y)[i]! = Y i := by rw [getElem!_pos _ i (by rw [hlD]; exact hi)]; simp
    rw [this]
    exact (hY i hi).1
  · obtain ⟨i, hi, rfl⟩ := List.mem_map.1 hd
    exact (hY i (List.mem_range.1 hi)).2
end
end Go.Proofs.YtoefgfolokcdhaaDoor
