/- What comes in, opened: entries, numbers, timers, bytes, acts. -/
import Derived.Test.YtcdoklgjicfkmaaRows
import Derived.Test.YtcdoklgjicfkmaaX1
import Derived.Lib.SmallJoins
import Derived.ProofKit
import Derived.OpenShut
import Derived.Deep.Slices
import Derived.Carry
namespace Go.Proofs.Ytcdoklgjicfkmaa
open Go.ChangeShapes Go.WideShapes Go.ChangeAt Go.RowKit Go.Deep

set_option maxRecDepth 100000
theorem own : ownKnob Try.prog.godebug = none := by kernel_rfl
theorem laidOut : laidOutB Try.prog = true := by kernel_rfl
section
variable {H : Type} {enc : TypeId × Value → H} {W : World} {base : Nat} {sp : Nat → Bool} {held : Bool}
/-- One field of one cell, of a struct's cells. -/
theorem field_at {P : Program} {e : TypeId} {fs : Array Field} {fuel : Nat} {cs : List Value} {x : DataW H × List MemPlace} (he : P.underlying e = some (.struct fs)) (h : DataW.trod enc P W base sp held fuel e cs = some x)
    (j : Nat) (f : Field) (hj : fs[j]? = some f) (ho : f.offset = j) (h1 : P.cellsOf f.type = 1) (hc : j < P.cellsOf e) : ∃ v z m, cs[j]? = some v ∧ DataW.trod enc P W base sp held m f.type [v] = some z := by
  obtain ⟨xs, m, _, _, hlen, hxl, hf⟩ := DataW.trod_struct he h
  have hx := hf j f hj
  rw [ho, h1] at hx
  have hjx : j < xs.length := by rw [hxl]; exact (Array.getElem?_eq_some_iff.1 hj).1
  have hjc : j < cs.length := by omega
  have hd : (cs.drop j).take 1 = [cs[j]] := by rw [List.drop_eq_getElem_cons hjc]; rfl
  rw [hd, List.getElem?_eq_getElem hjx] at hx
  exact ⟨cs[j], xs[j], m, List.getElem?_eq_getElem hjc, hx⟩
theorem u_of {k : IntKind} {a : Int} (h0 : k.min = 0) (h : (Lit.int k a).wf = true) : ∃ n : Nat, a = n ∧ (n : Int) ≤ k.max := by
  simp [Lit.wf, h0] at h
  obtain ⟨n, rfl⟩ := Int.eq_ofNat_of_zero_le h.1
  exact ⟨n, rfl, h.2⟩
/-- A number's field. -/
theorem int_at {e t : TypeId} {k : IntKind} {fs : Array Field} {fuel : Nat} {cs : List Value} {x : DataW H × List MemPlace} (he : Try.prog.underlying e = some (.struct fs)) (h : DataW.trod enc Try.prog W base sp held fuel e cs = some x)
    (j : Nat) (f : Field) (hj : fs[j]? = some f) (ho : f.offset = j) (h1 : Try.prog.cellsOf f.type = 1) (hc : j < Try.prog.cellsOf e) (ht : f.type = t) (hu : Try.prog.underlying t = some (.int k)) : ∃ a : Int, cs[j]? = some (.int k a) ∧ (Lit.int k a).wf = true := by
  obtain ⟨v, z, m, hv, hz⟩ := field_at he h j f hj ho h1 hc
  rw [ht] at hz
  obtain ⟨a, e1, _, wa⟩ := DataW.trod_int hu hz
  simp at e1
  exact ⟨a, by rw [hv, e1], wa⟩
theorem num_at {e t : TypeId} {k : IntKind} {fs : Array Field} {fuel : Nat} {cs : List Value} {x : DataW H × List MemPlace} (he : Try.prog.underlying e = some (.struct fs)) (h : DataW.trod enc Try.prog W base sp held fuel e cs = some x)
    (j : Nat) (f : Field) (hj : fs[j]? = some f) (ho : f.offset = j) (h1 : Try.prog.cellsOf f.type = 1) (hc : j < Try.prog.cellsOf e) (ht : f.type = t) (hu : Try.prog.underlying t = some (.int k)) (h0 : k.min = 0) : ∃ n : Nat, cs[j]? = some (.int k n) ∧ (n : Int) ≤ k.max := by
  obtain ⟨a, e1, wa⟩ := int_at he h j f hj ho h1 hc ht hu
  obtain ⟨n, rfl, hn⟩ := u_of h0 wa
  exact ⟨n, e1, hn⟩
theorem spot_none {w : World} {a : Addr} {v : Value} (h : w.cell? a = some v) : a.spot = none := by
  unfold World.cell? at h
  cases hs : a.spot with
  | none => rfl
  | some s =>
    exfalso
    cases hb : w.heap[a.block]? with
    | none => simp [hb] at h
    | some x => cases x <;> simp [hb, hs] at h
theorem lies_ents {w : World} {g o : Nat} {D : List Ent} (h : ∀ i, i < D.length → w.cell? ⟨g, o + i * 3, none⟩ = some (.int .i64 D[i]!.t) ∧ w.cell? ⟨g, o + i * 3 + 1, none⟩ = some (.int .u32 D[i]!.k) ∧ w.cell? ⟨g, o + i * 3 + 2, none⟩ = some (.int .u64 D[i]!.z)) : Lies w g o (flat D) := fun j u e => by
  have hj := (List.getElem?_eq_some_iff.1 e).1
  rw [flat_len] at hj
  have hi : j / 3 < D.length := by omega
  obtain ⟨h0, h1, h2⟩ := h (j / 3) hi
  obtain ⟨f0, f1, f2⟩ := flat_get D (j / 3) hi
  have hr : j % 3 = 0 ∨ j % 3 = 1 ∨ j % 3 = 2 := by omega
  rcases hr with hr | hr | hr
  · rw [show j / 3 * 3 = j by omega] at h0 f0
    rw [f0] at e
    injection e with e
    rw [← e]; exact h0
  · rw [show j / 3 * 3 + 1 = j by omega] at f1
    rw [show o + j / 3 * 3 + 1 = o + j by omega] at h1
    rw [f1] at e
    injection e with e
    rw [← e]; exact h1
  · rw [show j / 3 * 3 + 2 = j by omega] at f2
    rw [show o + j / 3 * 3 + 2 = o + j by omega] at h2
    rw [f2] at e
    injection e with e
    rw [← e]; exact h2
/-- Entries that came in. -/
theorem open_ents {fuel : Nat} {cs : List Value} {x : DataW H × List MemPlace} (hf : DataW.trod enc Try.prog W 0 (fun _ => true) true fuel 31 cs = some x) :
    ∃ A c D, cs = [.slice A D.length c] ∧ D.length ≤ c ∧ c ≤ 9223372036854775807 ∧ Rd W W.heap.size A (flat D) ∧ Keys D := by
  rcases open_slice Try.underlying31 hf with ⟨hc, _⟩ | ⟨⟨lb, lo, spot⟩, len, cap, m, q, D, Pl, hc, _, hl, hm, hmm, _, hi⟩
  · exact ⟨none, 0, [], hc, Nat.le_refl _, by omega, Rd.nil, fun e he => by cases he⟩
  unfold maxLen at hm
  rcases Nat.eq_zero_or_pos len with rfl | hpos
  · exact ⟨_, cap, [], hc, hl, by omega, Rd.nil, fun e he => by cases he⟩
  have hnm : len ≤ m := by rw [hmm]; simp; exact hl
  have h5 : Try.prog.cellsOf 65 = 3 := by kernel_rfl
  have hs : spot = none := by
    obtain ⟨cs, hcs, ht⟩ := hi 0 (by omega)
    obtain ⟨_, hlen, hat⟩ := World.cells?_some hcs
    obtain ⟨k, c0, _⟩ := int_at (t := 3) (k := .i64) Try.underlying65 ht 0 _ rfl rfl (by kernel_rfl) (by rw [h5]; omega) rfl Try.underlying3
    rw [h5] at hat
    have g0 := (hat 0 (by omega)).trans c0
    have := spot_none g0
    simpa [Addr.add] using this
  subst hs
  have hall : ∀ i, i < len → ∃ y : Ent, (W.cell? ⟨lb, lo + i * 3, none⟩ = some (.int .i64 y.t) ∧ W.cell? ⟨lb, lo + i * 3 + 1, none⟩ = some (.int .u32 y.k) ∧ W.cell? ⟨lb, lo + i * 3 + 2, none⟩ = some (.int .u64 y.z)) ∧ ∃ k : Nat, y.k = (k : Int) ∧ k < 4294967296 := by
    intro i hin
    obtain ⟨cs, hcs, ht⟩ := hi i (by omega)
    obtain ⟨_, hlen, hat⟩ := World.cells?_some hcs
    obtain ⟨a, c0, _⟩ := int_at (t := 3) (k := .i64) Try.underlying65 ht 0 _ rfl rfl (by kernel_rfl) (by rw [h5]; omega) rfl Try.underlying3
    obtain ⟨b, c1, hb⟩ := num_at (t := 63) (k := .u32) Try.underlying65 ht 1 _ rfl rfl (by kernel_rfl) (by rw [h5]; omega) rfl Try.underlying63 rfl
    obtain ⟨z, c2, _⟩ := int_at (t := 22) (k := .u64) Try.underlying65 ht 2 _ rfl rfl (by kernel_rfl) (by rw [h5]; omega) rfl Try.underlying22
    rw [h5] at hat
    have g0 := (hat 0 (by omega)).trans c0
    have g1 := (hat 1 (by omega)).trans c1
    have g2 := (hat 2 (by omega)).trans c2
    rw [add_none, add_none] at g0 g1 g2
    rw [Nat.add_zero] at g0
    have hb' : (b : Int) ≤ 4294967295 := hb
    exact ⟨⟨a, b, z⟩, ⟨g0, g1, g2⟩, b, rfl, by omega⟩
  obtain ⟨Y, hY⟩ := choose_lt hall
  have hlD : ((List.range len).map Y).length = len := by simp
  refine ⟨some ⟨lb, lo, none⟩, cap, (List.range len).map Y, by rw [hlD]; exact hc, by omega, by omega, fun _ => ⟨lb, lo, rfl, World.block_lt_of_cell? W _ (hY 0 hpos).1.1, lies_ents fun i hi => ?_⟩, fun e he => ?_⟩
  · rw [hlD] at hi
    have : ((List.range len).map Y)[i]! = Y i := by rw [getElem!_pos _ i (by rw [hlD]; exact hi)]; simp
    rw [this]
    exact (hY i hi).1
  · obtain ⟨i, hi, rfl⟩ := List.mem_map.1 he
    exact (hY i (List.mem_range.1 hi)).2
theorem open_list {v : Value} {d : DataW H} {p : List MemPlace} {r : Reach} {b0 : Nat} (hv : Value.okWide Try.prog W r b0 31 v) (h : DataW.Trod enc Try.prog W 0 (fun _ => true) true 31 v d p) :
    ∃ A c D, v = .slice A D.length c ∧ D.length ≤ c ∧ c ≤ 9223372036854775807 ∧ Rd W W.heap.size A (flat D) ∧ Keys D := by
  obtain ⟨a0, len0, cap0, rfl⟩ := okWide_slice Try.underlying31 hv
  obtain ⟨fuel, hf⟩ := h
  obtain ⟨A, c, D, e, h1⟩ := open_ents hf
  simp [Value.cells] at e
  obtain ⟨rfl, rfl, rfl⟩ := e
  exact ⟨_, _, D, rfl, h1⟩
theorem open_u64 {v : Value} {d : DataW H} {p : List MemPlace} {r : Reach} {b0 : Nat} (hv : Value.okWide Try.prog W r b0 22 v) (h : DataW.Trod enc Try.prog W 0 (fun _ => true) true 22 v d p) : ∃ a : Int, v = .int .u64 a := by
  obtain ⟨a, rfl, _, _, wa⟩ := open_int Try.underlying22 hv h
  exact ⟨a, rfl⟩
theorem inI {a : Int} (h : (Lit.int .i64 a).wf = true) : InI a := by
  simp [Lit.wf, IntKind.min, IntKind.max, IntKind.bits, IntKind.signed] at h
  unfold InI; omega
theorem cells33 : Try.prog.cellsOf 33 = 2 := by kernel_rfl
theorem cells30 : Try.prog.cellsOf 30 = 2 := by kernel_rfl
theorem cells35 : Try.prog.cellsOf 35 = 8 := by kernel_rfl
theorem cells1 : Try.prog.cellsOf 22 = 1 ∧ Try.prog.cellsOf 3 = 1 ∧ Try.prog.cellsOf 5 = 1 ∧ Try.prog.cellsOf 31 = 1 := ⟨by kernel_rfl, by kernel_rfl, by kernel_rfl, by kernel_rfl⟩
/-- A timer's cells, a place's. -/
theorem timer_cells {fuel : Nat} {a b : Value} {x : DataW H × List MemPlace} (h : DataW.trod enc Try.prog W 0 (fun _ => true) true fuel 33 [a, b] = some x) : ∃ u v : Int, a = .int .u64 u ∧ b = .int .u64 v := by
  obtain ⟨xs, m, _, _, hlen, hxl, hf⟩ := DataW.trod_struct Try.underlying33 h
  have sm : ∀ i, i < 2 → ∃ y, xs[i]? = some y := fun i hi => ⟨xs[i]'(by rw [hxl]; exact hi), List.getElem?_eq_getElem _⟩
  obtain ⟨y0, e0⟩ := sm 0 (by omega)
  obtain ⟨y1, e1⟩ := sm 1 (by omega)
  have h0 : DataW.trod enc Try.prog W 0 (fun _ => true) true m 22 (List.take (Try.prog.cellsOf 22) [a, b]) = xs[0]? := hf 0 _ rfl
  have h1 : DataW.trod enc Try.prog W 0 (fun _ => true) true m 22 (List.take (Try.prog.cellsOf 22) [b]) = xs[1]? := hf 1 _ rfl
  rw [cells1.1, e0] at h0
  rw [cells1.1, e1] at h1
  obtain ⟨u, eu, _, wu⟩ := DataW.trod_int Try.underlying22 h0
  obtain ⟨v, ev, _, wv⟩ := DataW.trod_int Try.underlying22 h1
  simp at eu ev
  exact ⟨u, v, eu, ev⟩
theorem place_cells {fuel : Nat} {a b : Value} {x : DataW H × List MemPlace} (h : DataW.trod enc Try.prog W 0 (fun _ => true) true fuel 30 [a, b] = some x) : ∃ u v : Int, a = .int .i64 u ∧ b = .int .i64 v ∧ InI u := by
  obtain ⟨xs, m, _, _, hlen, hxl, hf⟩ := DataW.trod_struct Try.underlying30 h
  have sm : ∀ i, i < 2 → ∃ y, xs[i]? = some y := fun i hi => ⟨xs[i]'(by rw [hxl]; exact hi), List.getElem?_eq_getElem _⟩
  obtain ⟨y0, e0⟩ := sm 0 (by omega)
  obtain ⟨y1, e1⟩ := sm 1 (by omega)
  have h0 : DataW.trod enc Try.prog W 0 (fun _ => true) true m 3 (List.take (Try.prog.cellsOf 3) [a, b]) = xs[0]? := hf 0 _ rfl
  have h1 : DataW.trod enc Try.prog W 0 (fun _ => true) true m 3 (List.take (Try.prog.cellsOf 3) [b]) = xs[1]? := hf 1 _ rfl
  rw [cells1.2.1, e0] at h0
  rw [cells1.2.1, e1] at h1
  obtain ⟨u, eu, _, wu⟩ := DataW.trod_int Try.underlying3 h0
  obtain ⟨v, ev, _, wv⟩ := DataW.trod_int Try.underlying3 h1
  simp at eu ev
  exact ⟨u, v, eu, ev, inI wu⟩
theorem open_timer {v : Value} {d : DataW H} {p : List MemPlace} {r : Reach} {b0 : Nat} (hv : Value.okWide Try.prog W r b0 33 v) (h : DataW.Trod enc Try.prog W 0 (fun _ => true) true 33 v d p) :
    ∃ a b : Int, v = .agg #[.int .u64 a, .int .u64 b] := by
  obtain ⟨cs, rfl, hsz⟩ := okWide_struct Try.underlying33 hv
  rw [cells33] at hsz
  obtain ⟨fuel, ht⟩ := h
  obtain ⟨l⟩ := cs
  match l, hsz with
  | [x, y], _ =>
    obtain ⟨a, b, rfl, rfl⟩ := timer_cells ht
    exact ⟨a, b, rfl⟩
/-- What an act's cells are. -/
theorem act_cells {fuel : Nat} {cs : List Value} {x : DataW H × List MemPlace} (h : DataW.trod enc Try.prog W 0 (fun _ => true) true fuel 35 cs = some x) :
    ∃ y : Ac, cs = [.int .u8 (y.kd : Int), .int .i64 y.b, .int .i64 y.i, .int .i64 y.t, .int .u64 y.now, .slice y.A y.D.length y.c, .int .u64 y.ta, .int .u64 y.tf] ∧ AcOk W W.heap.size y := by
  obtain ⟨xs, m, _, _, hlen, hxl, hf⟩ := DataW.trod_struct Try.underlying35 h
  rw [cells35] at hlen
  obtain ⟨a0, a1, a2, a3, a4, a5, a6, a7, rfl⟩ : ∃ a0 a1 a2 a3 a4 a5 a6 a7, cs = [a0, a1, a2, a3, a4, a5, a6, a7] := by
    match cs, hlen with
    | [a0, a1, a2, a3, a4, a5, a6, a7], _ => exact ⟨a0, a1, a2, a3, a4, a5, a6, a7, rfl⟩
  have sm : ∀ i, i < 6 → ∃ y, xs[i]? = some y := fun i hi => ⟨xs[i]'(by rw [hxl]; exact hi), List.getElem?_eq_getElem _⟩
  obtain ⟨y0, e0⟩ := sm 0 (by omega)
  obtain ⟨y1, e1⟩ := sm 1 (by omega)
  obtain ⟨y2, e2⟩ := sm 2 (by omega)
  obtain ⟨y3, e3⟩ := sm 3 (by omega)
  obtain ⟨y4, e4⟩ := sm 4 (by omega)
  obtain ⟨y5, e5⟩ := sm 5 (by omega)
  have h0 : DataW.trod enc Try.prog W 0 (fun _ => true) true m 5 (List.take (Try.prog.cellsOf 5) [a0, a1, a2, a3, a4, a5, a6, a7]) = xs[0]? := hf 0 _ rfl
  have h1 : DataW.trod enc Try.prog W 0 (fun _ => true) true m 30 (List.take (Try.prog.cellsOf 30) [a1, a2, a3, a4, a5, a6, a7]) = xs[1]? := hf 1 _ rfl
  have h2 : DataW.trod enc Try.prog W 0 (fun _ => true) true m 3 (List.take (Try.prog.cellsOf 3) [a3, a4, a5, a6, a7]) = xs[2]? := hf 2 _ rfl
  have h3 : DataW.trod enc Try.prog W 0 (fun _ => true) true m 22 (List.take (Try.prog.cellsOf 22) [a4, a5, a6, a7]) = xs[3]? := hf 3 _ rfl
  have h4 : DataW.trod enc Try.prog W 0 (fun _ => true) true m 31 (List.take (Try.prog.cellsOf 31) [a5, a6, a7]) = xs[4]? := hf 4 _ rfl
  have h5 : DataW.trod enc Try.prog W 0 (fun _ => true) true m 33 (List.take (Try.prog.cellsOf 33) [a6, a7]) = xs[5]? := hf 5 _ rfl
  rw [cells1.2.2.1, e0] at h0
  rw [cells30, e1] at h1
  rw [cells1.2.1, e2] at h2
  rw [cells1.1, e3] at h3
  rw [cells1.2.2.2, e4] at h4
  rw [cells33, e5] at h5
  obtain ⟨k, ek, _, wk⟩ := DataW.trod_int Try.underlying5 h0
  obtain ⟨pb, pi, rfl, rfl, hI⟩ := place_cells h1
  obtain ⟨tg, et, _, wt⟩ := DataW.trod_int Try.underlying3 h2
  obtain ⟨now, en, _, _⟩ := DataW.trod_int Try.underlying22 h3
  obtain ⟨A, c, D, el, r1, r2, r3, r4⟩ := open_ents h4
  obtain ⟨ta, tf, rfl, rfl⟩ := timer_cells h5
  simp at ek et en el
  subst ek et en el
  obtain ⟨b0, b1⟩ : 0 ≤ k ∧ k < 256 := by simp [Lit.wf, IntKind.min, IntKind.max, IntKind.bits, IntKind.signed] at wk; omega
  obtain ⟨K, rfl⟩ := Int.eq_ofNat_of_zero_le b0
  exact ⟨⟨K, pb, pi, tg, now, ta, tf, A, c, D⟩, rfl, hI, inI wt, r1, r2, r3, r4⟩
theorem open_act {v : Value} {d : DataW H} {p : List MemPlace} {r : Reach} {b0 : Nat} (hv : Value.okWide Try.prog W r b0 35 v) (h : DataW.Trod enc Try.prog W 0 (fun _ => true) true 35 v d p) :
    ∃ y : Ac, v = .agg #[.int .u8 (y.kd : Int), .int .i64 y.b, .int .i64 y.i, .int .i64 y.t, .int .u64 y.now, .slice y.A y.D.length y.c, .int .u64 y.ta, .int .u64 y.tf] ∧ AcOk W W.heap.size y := by
  obtain ⟨cs, rfl, hsz⟩ := okWide_struct Try.underlying35 hv
  obtain ⟨fuel, ht⟩ := h
  obtain ⟨y, hc, hy⟩ := act_cells ht
  refine ⟨y, ?_, hy⟩
  obtain ⟨l⟩ := cs
  have e : l = _ := hc
  rw [e]
theorem open_acts {v : Value} {d : DataW H} {p : List MemPlace} {r : Reach} {b0 : Nat} (hv : Value.okWide Try.prog W r b0 23 v) (h : DataW.Trod enc Try.prog W 0 (fun _ => true) true 23 v d p) :
    ∃ A n c Y, v = .slice A n c ∧ n ≤ 9223372036854775807 ∧ ActsIn W W.heap.size A n Y ∧ ∀ i, i < n → AcOk W W.heap.size (Y i) := by
  obtain ⟨a0, len, cap, rfl⟩ := okWide_slice Try.underlying23 hv
  obtain ⟨fuel, hf⟩ := h
  have y0 : Ac := ⟨0, 0, 0, 0, 0, 0, 0, none, 0, []⟩
  rcases open_slice Try.underlying23 hf with ⟨hc, _⟩ | ⟨⟨lb, lo, spot⟩, n, c, m, q, D, Pl, hc, _, hl, hm, hmm, _, hi⟩
  · simp [Value.cells] at hc
    obtain ⟨rfl, rfl, rfl⟩ := hc
    exact ⟨_, _, _, fun _ => y0, rfl, by omega, fun h => by omega, fun i hi => by omega⟩
  simp [Value.cells] at hc
  obtain ⟨rfl, rfl, rfl⟩ := hc
  unfold maxLen at hm
  rcases Nat.eq_zero_or_pos len with rfl | hpos
  · exact ⟨_, _, _, fun _ => y0, rfl, by omega, fun h => by omega, fun i hi => by omega⟩
  have hnm : len ≤ m := by rw [hmm]; simp; exact hl
  have hs : spot = none := by
    obtain ⟨cs, hcs, ht⟩ := hi 0 (by omega)
    obtain ⟨_, hlen, hat⟩ := World.cells?_some hcs
    obtain ⟨y, e, _⟩ := act_cells ht
    rw [cells35] at hat
    have g0 := hat 0 (by omega)
    rw [e] at g0
    have := spot_none g0
    simpa [Addr.add] using this
  subst hs
  have hall : ∀ i, i < len → ∃ y : Ac, (W.cell? ⟨lb, lo + i * 8, none⟩ = some (.int .u8 (y.kd : Int)) ∧ W.cell? ⟨lb, lo + i * 8 + 1, none⟩ = some (.int .i64 y.b) ∧ W.cell? ⟨lb, lo + i * 8 + 2, none⟩ = some (.int .i64 y.i) ∧ W.cell? ⟨lb, lo + i * 8 + 3, none⟩ = some (.int .i64 y.t) ∧
      W.cell? ⟨lb, lo + i * 8 + 4, none⟩ = some (.int .u64 y.now) ∧ W.cell? ⟨lb, lo + i * 8 + 5, none⟩ = some (.slice y.A y.D.length y.c) ∧ W.cell? ⟨lb, lo + i * 8 + 6, none⟩ = some (.int .u64 y.ta) ∧ W.cell? ⟨lb, lo + i * 8 + 7, none⟩ = some (.int .u64 y.tf)) ∧ AcOk W W.heap.size y := by
    intro i hin
    obtain ⟨cs, hcs, ht⟩ := hi i (by omega)
    obtain ⟨_, hlen, hat⟩ := World.cells?_some hcs
    obtain ⟨y, e, hy⟩ := act_cells ht
    rw [cells35, e] at hat
    have g0 := hat 0 (by omega)
    have g1 := hat 1 (by omega)
    have g2 := hat 2 (by omega)
    have g3 := hat 3 (by omega)
    have g4 := hat 4 (by omega)
    have g5 := hat 5 (by omega)
    have g6 := hat 6 (by omega)
    have g7 := hat 7 (by omega)
    rw [add_none, add_none] at g0 g1 g2 g3 g4 g5 g6 g7
    rw [Nat.add_zero] at g0
    exact ⟨y, ⟨g0, g1, g2, g3, g4, g5, g6, g7⟩, hy⟩
  have hne : Inhabited Ac := ⟨y0⟩
  obtain ⟨Y, hY⟩ := choose_lt hall
  exact ⟨_, len, cap, Y, rfl, by omega, fun _ => ⟨lb, lo, rfl, World.block_lt_of_cell? W _ (hY 0 hpos).1.1, fun i hi => (hY i hi).1⟩, fun i hi => (hY i hi).2⟩
theorem okWide_array {n : Nat} {e t : TypeId} {r : Reach} {b0 : Nat} {v : Value} (ht : Try.prog.underlying t = some (.array n e)) (h : Value.okWide Try.prog W r b0 t v) : ∃ cs, v = .agg cs ∧ cs.size = Try.prog.cellsOf t := by
  simp only [Value.okWide, ht] at h
  obtain ⟨cs, h1, h2, _⟩ := h
  exact ⟨cs, h1, h2⟩
/-- One number of an array's. -/
theorem elem_at {n : Nat} {t e : TypeId} {k : IntKind} {M fuel : Nat} {cs : List Value} {x : DataW H × List MemPlace} (ht : Try.prog.underlying t = some (.array n e)) (he : Try.prog.underlying e = some (.int k)) (h0 : k.min = 0) (h1 : k.max = (M : Int)) (hc : Try.prog.cellsOf e = 1) (hl : Try.prog.cellsOf t = n)
    (h : DataW.trod enc Try.prog W 0 (fun _ => true) true fuel t cs = some x) (j : Nat) (hj : j < n) : ∃ a : Nat, cs[j]? = some (.int k a) ∧ a ≤ M := by
  obtain ⟨xs, m, _, _, hlen, hxl, hf⟩ := DataW.trod_array ht h
  have hx := hf j hj
  rw [hc, Nat.mul_one] at hx
  have hjc : j < cs.length := by rw [hlen, hl]; exact hj
  have hd : (cs.drop j).take 1 = [cs[j]] := by rw [List.drop_eq_getElem_cons hjc]; rfl
  rw [hd, List.getElem?_eq_getElem (by rw [hxl]; exact hj)] at hx
  obtain ⟨a, e1, _, wa⟩ := DataW.trod_int he hx
  simp at e1
  simp [Lit.wf, h0, h1] at wa
  obtain ⟨n, rfl⟩ := Int.eq_ofNat_of_zero_le wa.1
  exact ⟨n, by rw [List.getElem?_eq_getElem hjc, e1], by omega⟩
/-- Four bytes. -/
theorem open_four {v : Value} {d : DataW H} {p : List MemPlace} {r : Reach} {b0 : Nat} (hv : Value.okWide Try.prog W r b0 67 v) (h : DataW.Trod enc Try.prog W 0 (fun _ => true) true 67 v d p) :
    ∃ x0 x1 x2 x3 : Nat, v = .agg #[.int .u8 x0, .int .u8 x1, .int .u8 x2, .int .u8 x3] ∧ x0 < 256 ∧ x1 < 256 ∧ x2 < 256 ∧ x3 < 256 := by
  obtain ⟨cs, rfl, hsz⟩ := okWide_array Try.underlying67 hv
  obtain ⟨fuel, hf⟩ := h
  have h4 : Try.prog.cellsOf 67 = 4 := by kernel_rfl
  have h1 : Try.prog.cellsOf 5 = 1 := by kernel_rfl
  rw [h4] at hsz
  have el := fun j hj => elem_at (M := 255) Try.underlying67 Try.underlying5 rfl rfl h1 h4 hf j hj
  obtain ⟨a0, c0, b0⟩ := el 0 (by omega)
  obtain ⟨a1, c1, b1⟩ := el 1 (by omega)
  obtain ⟨a2, c2, b2⟩ := el 2 (by omega)
  obtain ⟨a3, c3, b3⟩ := el 3 (by omega)
  refine ⟨a0, a1, a2, a3, ?_, by omega, by omega, by omega, by omega⟩
  obtain ⟨l⟩ := cs
  match l, hsz with
  | [x0, x1, x2, x3], _ =>
    simp [Value.cells] at c0 c1 c2 c3
    rw [c0, c1, c2, c3]
/-- Bytes that came in. -/
theorem open_bytes {v : Value} {d : DataW H} {p : List MemPlace} {r : Reach} {b0 : Nat} (hv : Value.okWide Try.prog W r b0 55 v) (h : DataW.Trod enc Try.prog W 0 (fun _ => true) true 55 v d p) :
    ∃ A n c, ∃ Z : Nat → Nat, v = .slice A n c ∧ n ≤ 9223372036854775807 ∧ (0 < n → ∃ g o, A = some ⟨g, o, none⟩ ∧ g < W.heap.size ∧ ∀ i, i < n → W.cell? ⟨g, o + i, none⟩ = some (.int .u8 (Z i : Int))) ∧ ∀ i, i < n → Z i < 256 := by
  obtain ⟨a0, len, cap, rfl⟩ := okWide_slice Try.underlying55 hv
  obtain ⟨fuel, hf⟩ := h
  rcases open_ints Try.underlying55 Try.underlying5 cells1.2.2.1 hf with ⟨hc, _⟩ | ⟨a, n, c, zs, hc, _, hl, hm, hzl, _, hcell, hwf⟩
  · simp [Value.cells] at hc
    obtain ⟨rfl, rfl, rfl⟩ := hc
    exact ⟨_, _, _, fun _ => 0, rfl, by omega, fun h => by omega, fun i hi => by omega⟩
  simp [Value.cells] at hc
  obtain ⟨rfl, rfl, rfl⟩ := hc
  simp at hzl
  unfold maxLen at hm
  have hnat : ∀ i, i < len → ∃ z : Nat, zs.getD i 0 = (z : Int) ∧ z < 256 := fun i hi => by
    have h2 : i < zs.length := by omega
    have hw := hwf _ (List.getElem_mem h2)
    have e : zs.getD i 0 = zs[i] := by rw [List.getD_eq_getElem?_getD, List.getElem?_eq_getElem h2]; rfl
    rw [e]
    obtain ⟨n, e1, hn⟩ := u_of rfl hw
    have hn' : (n : Int) ≤ 255 := hn
    exact ⟨n, e1, by omega⟩
  obtain ⟨Z, hZ⟩ := choose_lt hnat
  refine ⟨_, len, cap, Z, rfl, by omega, fun hp => ?_, fun i hi => (hZ i hi).2⟩
  obtain ⟨b, o, spot⟩ := a
  have h0 := hcell 0 (by omega)
  have hs : spot = none := by
    have := spot_none h0
    simpa [Addr.add] using this
  subst hs
  refine ⟨b, o, rfl, ?_, fun i hi => ?_⟩
  · rw [add_none] at h0
    exact World.block_lt_of_cell? W _ h0
  · have h1 := hcell i (by omega)
    rw [add_none] at h1
    rw [h1, (hZ i hi).1]
end
end Go.Proofs.Ytcdoklgjicfkmaa
