/- Texts of this seat, one behind the other. -/
import Derived.Test.YtlflagjnlclffaaGreatMLawPlay1327
import Derived.Test.YtlflagjnlclffaaGreatRows
import Derived.Lib.SmallJoins
import Derived.ProofKit
import Derived.OpenShut
import Derived.Deep.Slices
import Derived.Carry
set_option linter.unusedVariables false
set_option linter.unusedSimpArgs false
namespace Go.Proofs.YtlflagjnlclffaaGreat
theorem own : ownKnob Tryz.prog.godebug = none := by kernel_rfl
theorem laidOut : laidOutB Tryz.prog = true := by kernel_rfl
namespace S10
open Go.ChangeShapes Go.WideShapes Go.ChangeAt Go.RowKit Go.Deep
set_option maxRecDepth 100000
section
variable {H : Type} {enc : TypeId × Value → H} {W : World} {base : Nat} {sp : Nat → Bool} {held : Bool}
theorem field_at {P : Program} {e : TypeId} {fs : Array Field} {fuel : Nat} {cs : List Value} {x : DataW H × List MemPlace} (he : P.underlying e = some (.struct fs)) (h : DataW.trod enc P W base sp held fuel e cs = some x)
    (j : Nat) (f : Field) (hj : fs[j]? = some f) (ho : f.offset = j) (h1 : P.cellsOf f.type = 1) (hc : j < P.cellsOf e) : ∃ v z m, cs[j]? = some v ∧ DataW.trod enc P W base sp held m f.type [v] = some z := by
  obtain ⟨xs, m, _, _, hlen, hxl, hf⟩ := DataW.trod_struct he h
  have hx := hf j f hj
  rw [ho, h1] at hx
  have hjx : j < xs.length := by rw [hxl]; exact (Array.getElem?_eq_some_iff.1 hj).1
  have hjc : j < cs.length := by omega
  have hd : (cs.drop j).take 1 = [cs[j]] := by rw [List.drop_eq_getElem_cons hjc]; rfl
  rw [hd, List.getElem?_eq_getElem hjx] at hx
  exact ⟨cs[j], xs[j], m, List.getElem?_eq_getElem hjc, hx⟩
theorem u_of {k : IntKind} {a : Int} (h0 : k.min = 0) (h : (Lit.int k a).wf = true) : ∃ n : Nat, a = n ∧ (n : Int) ≤ k.max := by
  simp [Lit.wf, h0] at h
  obtain ⟨n, rfl⟩ := Int.eq_ofNat_of_zero_le h.1
  exact ⟨n, rfl, h.2⟩
theorem int_at {e t : TypeId} {k : IntKind} {fs : Array Field} {fuel : Nat} {cs : List Value} {x : DataW H × List MemPlace} (he : Tryz.prog.underlying e = some (.struct fs)) (h : DataW.trod enc Tryz.prog W base sp held fuel e cs = some x)
    (j : Nat) (f : Field) (hj : fs[j]? = some f) (ho : f.offset = j) (h1 : Tryz.prog.cellsOf f.type = 1) (hc : j < Tryz.prog.cellsOf e) (ht : f.type = t) (hu : Tryz.prog.underlying t = some (.int k)) : ∃ a : Int, cs[j]? = some (.int k a) ∧ (Lit.int k a).wf = true := by
  obtain ⟨v, z, m, hv, hz⟩ := field_at he h j f hj ho h1 hc
  rw [ht] at hz
  obtain ⟨a, e1, _, wa⟩ := DataW.trod_int hu hz
  simp at e1
  exact ⟨a, by rw [hv, e1], wa⟩
theorem num_at {e t : TypeId} {k : IntKind} {fs : Array Field} {fuel : Nat} {cs : List Value} {x : DataW H × List MemPlace} (he : Tryz.prog.underlying e = some (.struct fs)) (h : DataW.trod enc Tryz.prog W base sp held fuel e cs = some x)
    (j : Nat) (f : Field) (hj : fs[j]? = some f) (ho : f.offset = j) (h1 : Tryz.prog.cellsOf f.type = 1) (hc : j < Tryz.prog.cellsOf e) (ht : f.type = t) (hu : Tryz.prog.underlying t = some (.int k)) (h0 : k.min = 0) : ∃ n : Nat, cs[j]? = some (.int k n) ∧ (n : Int) ≤ k.max := by
  obtain ⟨a, e1, wa⟩ := int_at he h j f hj ho h1 hc ht hu
  obtain ⟨n, rfl, hn⟩ := u_of h0 wa
  exact ⟨n, e1, hn⟩
theorem spot_none {w : World} {a : Addr} {v : Value} (h : w.cell? a = some v) : a.spot = none := by
  unfold World.cell? at h
  cases hs : a.spot with
  | none => rfl
  | some s =>
    exfalso
    cases hb : w.heap[a.block]? with
    | none => simp [hb] at h
    | some x => cases x <;> simp [hb, hs] at h
theorem lies_ents {w : World} {g o : Nat} {D : List Ent} (h : ∀ i, i < D.length → w.cell? ⟨g, o + i * 3, none⟩ = some (.int .i64 D[i]!.t) ∧ w.cell? ⟨g, o + i * 3 + 1, none⟩ = some (.int .u32 D[i]!.k) ∧ w.cell? ⟨g, o + i * 3 + 2, none⟩ = some (.int .u64 D[i]!.z)) : Lies w g o (flat D) := fun j u e => by
  have hj := (List.getElem?_eq_some_iff.1 e).1
  rw [flat_len] at hj
  have hi : j / 3 < D.length := by omega
  obtain ⟨h0, h1, h2⟩ := h (j / 3) hi
  obtain ⟨f0, f1, f2⟩ := flat_get D (j / 3) hi
  have hr : j % 3 = 0 ∨ j % 3 = 1 ∨ j % 3 = 2 := by omega
  rcases hr with hr | hr | hr
  · rw [show j / 3 * 3 = j by omega] at h0 f0
    rw [f0] at e
    injection e with e
    rw [← e]; exact h0
  · rw [show j / 3 * 3 + 1 = j by omega] at f1
    rw [show o + j / 3 * 3 + 1 = o + j by omega] at h1
    rw [f1] at e
    injection e with e
    rw [← e]; exact h1
  · rw [show j / 3 * 3 + 2 = j by omega] at f2
    rw [show o + j / 3 * 3 + 2 = o + j by omega] at h2
    rw [f2] at e
    injection e with e
    rw [← e]; exact h2
theorem open_ents {fuel : Nat} {cs : List Value} {x : DataW H × List MemPlace} (hf : DataW.trod enc Tryz.prog W 0 (fun _ => true) true fuel 111 cs = some x) :
    ∃ A c D, cs = [.slice A D.length c] ∧ D.length ≤ c ∧ c ≤ 9223372036854775807 ∧ Rd W W.heap.size A (flat D) ∧ Keys D := by
  rcases open_slice Tryz.underlying111 hf with ⟨hc, _⟩ | ⟨⟨lb, lo, spot⟩, len, cap, m, q, D, Pl, hc, _, hl, hm, hmm, _, hi⟩
  · exact ⟨none, 0, [], hc, Nat.le_refl _, by omega, Rd.nil, fun e he => by cases he⟩
  unfold maxLen at hm
  rcases Nat.eq_zero_or_pos len with rfl | hpos
  · exact ⟨_, cap, [], hc, hl, by omega, Rd.nil, fun e he => by cases he⟩
  have hnm : len ≤ m := by rw [hmm]; simp; exact hl
  have h5 : Tryz.prog.cellsOf 231 = 3 := by kernel_rfl
  have hs : spot = none := by
    obtain ⟨cs, hcs, ht⟩ := hi 0 (by omega)
    obtain ⟨_, hlen, hat⟩ := World.cells?_some hcs
    obtain ⟨k, c0, _⟩ := int_at (t := 3) (k := .i64) Tryz.underlying231 ht 0 _ rfl rfl (by kernel_rfl) (by rw [h5]; omega) rfl Tryz.underlying3
    rw [h5] at hat
    have g0 := (hat 0 (by omega)).trans c0
    have := spot_none g0
    simpa [Addr.add] using this
  subst hs
  have hall : ∀ i, i < len → ∃ y : Ent, (W.cell? ⟨lb, lo + i * 3, none⟩ = some (.int .i64 y.t) ∧ W.cell? ⟨lb, lo + i * 3 + 1, none⟩ = some (.int .u32 y.k) ∧ W.cell? ⟨lb, lo + i * 3 + 2, none⟩ = some (.int .u64 y.z)) ∧ ∃ k : Nat, y.k = (k : Int) ∧ k < 4294967296 := by
    intro i hin
    obtain ⟨cs, hcs, ht⟩ := hi i (by omega)
    obtain ⟨_, hlen, hat⟩ := World.cells?_some hcs
    obtain ⟨a, c0, _⟩ := int_at (t := 3) (k := .i64) Tryz.underlying231 ht 0 _ rfl rfl (by kernel_rfl) (by rw [h5]; omega) rfl Tryz.underlying3
    obtain ⟨b, c1, hb⟩ := num_at (t := 40) (k := .u32) Tryz.underlying231 ht 1 _ rfl rfl (by kernel_rfl) (by rw [h5]; omega) rfl Tryz.underlying40 rfl
    obtain ⟨z, c2, _⟩ := int_at (t := 22) (k := .u64) Tryz.underlying231 ht 2 _ rfl rfl (by kernel_rfl) (by rw [h5]; omega) rfl Tryz.underlying22
    rw [h5] at hat
    have g0 := (hat 0 (by omega)).trans c0
    have g1 := (hat 1 (by omega)).trans c1
    have g2 := (hat 2 (by omega)).trans c2
    rw [add_none, add_none] at g0 g1 g2
    rw [Nat.add_zero] at g0
    have hb' : (b : Int) ≤ 4294967295 := hb
    exact ⟨⟨a, b, z⟩, ⟨g0, g1, g2⟩, b, rfl, by omega⟩
  obtain ⟨Y, hY⟩ := choose_lt hall
  have hlD : ((List.range len).map Y).length = len := by simp
  refine ⟨some ⟨lb, lo, none⟩, cap, (List.range len).map Y, by rw [hlD]; exact hc, by omega, by omega, fun _ => ⟨lb, lo, rfl, World.block_lt_of_cell? W _ (hY 0 hpos).1.1, lies_ents fun i hi => ?_⟩, fun e he => ?_⟩
  · rw [hlD] at hi
    have : ((List.range len).map Y)[i]! = Y i := by rw [getElem!_pos _ i (by rw [hlD]; exact hi)]; simp
    rw [this]
    exact (hY i hi).1
  · obtain ⟨i, hi, rfl⟩ := List.mem_map.1 he
    exact (hY i (List.mem_range.1 hi)).2
theorem inI {a : Int} (h : (Lit.int .i64 a).wf = true) : InI a := by
  simp [Lit.wf, IntKind.min, IntKind.max, IntKind.bits, IntKind.signed] at h
  unfold InI; omega
end
end S10
namespace S3
open Go.ChangeShapes Go.WideShapes Go.ChangeAt Go.RowKit Go.Deep
theorem cellsU : Tryz.prog.cellsOf 22 = 1 := by kernel_rfl
section
variable {H : Type} {enc : TypeId × Value → H} {W : World}
theorem u64_of {a : Int} (h : (Lit.int .u64 a).wf = true) : ∃ n : Nat, a = n ∧ n ≤ 18446744073709551615 := by
  simp [Lit.wf, IntKind.min, IntKind.max, IntKind.bits, IntKind.signed] at h
  obtain ⟨n, rfl⟩ := Int.eq_ofNat_of_zero_le h.1
  exact ⟨n, rfl, by omega⟩
theorem spot_none {w : World} {a : Addr} {v : Value} (h : w.cell? a = some v) : a.spot = none := by
  unfold World.cell? at h
  cases hs : a.spot with
  | none => rfl
  | some s =>
    exfalso
    cases hb : w.heap[a.block]? with
    | none => simp [hb] at h
    | some x => cases x <;> simp [hb, hs] at h
theorem open_list {fuel : Nat} {cs : List Value} {x : DataW H × List MemPlace} (h : DataW.trod enc Tryz.prog W 0 (fun _ => true) true fuel 23 cs = some x) :
    ∃ A c L, cs = [.slice A L.length c] ∧ L.length ≤ c ∧ c ≤ 9223372036854775807 ∧ Rd W W.heap.size A L ∧ ∀ d ∈ L, d ≤ 18446744073709551615 := by
  rcases open_ints Tryz.underlying23 Tryz.underlying22 cellsU h with ⟨rfl, _⟩ | ⟨a, len, cap, zs, rfl, _, hl, hc, hzl, _, hcell, hwf⟩
  · exact ⟨none, 0, [], rfl, Nat.le_refl _, by omega, Rd.nil, by simp⟩
  · simp at hzl
    unfold maxLen at hc
    have hex : ∀ z ∈ zs.take len, ∃ n : Nat, z = n ∧ n ≤ 18446744073709551615 := fun z hz => u64_of (hwf z (List.mem_of_mem_take hz))
    have hlen : ((zs.take len).map Int.toNat).length = len := by simp; omega
    have hget : ∀ i, i < len → (((zs.take len).map Int.toNat)[i]! : Int) = zs.getD i 0 := fun i hi => by
      have h1 : i < ((zs.take len).map Int.toNat).length := by omega
      have h2 : i < zs.length := by omega
      rw [getElem!_pos _ i h1, List.getElem_map, List.getElem_take, List.getD_eq_getElem?_getD, List.getElem?_eq_getElem h2]
      obtain ⟨n, e, _⟩ := u64_of (hwf _ (List.getElem_mem h2))
      simp [e]
    refine ⟨some a, cap, (zs.take len).map Int.toNat, by rw [hlen], by omega, by omega, fun hp => ?_, fun d hd => ?_⟩
    · rw [hlen] at hp
      obtain ⟨b, o, spot⟩ := a
      have h0 := hcell 0 (by omega)
      have hs : spot = none := by
        have := spot_none h0
        simpa [Addr.add] using this
      subst hs
      refine ⟨b, o, rfl, ?_, fun i hi => ?_⟩
      · rw [add_none] at h0
        exact World.block_lt_of_cell? W _ h0
      · rw [hlen] at hi
        have h1 := hcell i (by omega)
        rw [add_none] at h1
        rw [h1]
        unfold uv
        rw [hget i hi]
    · obtain ⟨z, hz, rfl⟩ := List.mem_map.1 hd
      obtain ⟨n, rfl, hn⟩ := hex z hz
      simpa using hn
end
end S3
namespace S12
open Go.ChangeShapes Go.WideShapes Go.ChangeAt Go.RowKit Go.Deep
set_option maxRecDepth 100000
theorem nat_of {k : IntKind} {a : Int} {M : Nat} (h0 : k.min = 0) (h1 : k.max = (M : Int)) (h : (Lit.int k a).wf = true) : ∃ n : Nat, a = n ∧ n ≤ M := by
  obtain ⟨n, rfl, hn⟩ := S10.u_of h0 h
  exact ⟨n, rfl, by omega⟩
theorem u8_of {a : Int} (h : (Lit.int .u8 a).wf = true) : ∃ n : Nat, a = n ∧ n < 256 := by
  obtain ⟨n, e, hn⟩ := nat_of (M := 255) rfl rfl h
  exact ⟨n, e, by omega⟩
theorem u32_of {a : Int} (h : (Lit.int .u32 a).wf = true) : ∃ n : Nat, a = n ∧ n < 4294967296 := by
  obtain ⟨n, e, hn⟩ := nat_of (M := 4294967295) rfl rfl h
  exact ⟨n, e, by omega⟩
theorem u64_of {a : Int} (h : (Lit.int .u64 a).wf = true) : ∃ n : Nat, a = n ∧ n < 18446744073709551616 := by
  obtain ⟨n, e, hn⟩ := nat_of (M := 18446744073709551615) rfl rfl h
  exact ⟨n, e, by omega⟩
theorem sz40 : Tryz.prog.cellsOf 40 = 1 := by kernel_rfl
theorem sz22 : Tryz.prog.cellsOf 22 = 1 := by kernel_rfl
theorem sz42 : Tryz.prog.cellsOf 42 = 2 := by kernel_rfl
theorem store_cells {H : Type} {enc : TypeId × Value → H} {W : World} {fuel : Nat} {cs : List Value} {x : DataW H × List MemPlace} (h : DataW.trod enc Tryz.prog W 0 (fun _ => true) true fuel 42 cs = some x) :
    ∃ s0 s1, cs = [.int .u32 s0, .int .u64 s1] ∧ (Lit.int .u32 s0).wf = true ∧ (Lit.int .u64 s1).wf = true := by
  obtain ⟨xs, m, _, _, hlen, hxl, hf⟩ := DataW.trod_struct Tryz.underlying42 h
  rw [sz42] at hlen
  obtain ⟨a0, a1, rfl⟩ : ∃ a0 a1, cs = [a0, a1] := by
    match cs, hlen with
    | [a0, a1], _ => exact ⟨a0, a1, rfl⟩
  have sm : ∀ i, i < 2 → ∃ y, xs[i]? = some y := fun i hi => ⟨xs[i]'(by rw [hxl]; exact hi), List.getElem?_eq_getElem _⟩
  obtain ⟨y0, e0⟩ := sm 0 (by omega)
  have h0 : DataW.trod enc Tryz.prog W 0 (fun _ => true) true m 40 (List.take (Tryz.prog.cellsOf 40) [a0, a1]) = xs[0]? := hf 0 _ rfl
  rw [sz40, e0] at h0
  obtain ⟨y1, e1⟩ := sm 1 (by omega)
  have h1 : DataW.trod enc Tryz.prog W 0 (fun _ => true) true m 22 (List.take (Tryz.prog.cellsOf 22) [a1]) = xs[1]? := hf 1 _ rfl
  rw [sz22, e1] at h1
  obtain ⟨s0, q0, _, f0_0⟩ := DataW.trod_int Tryz.underlying40 h0
  simp at q0
  subst q0
  obtain ⟨s1, q1, _, f1_0⟩ := DataW.trod_int Tryz.underlying22 h1
  simp at q1
  subst q1
  exact ⟨s0, s1, rfl, f0_0, f1_0⟩
theorem sz3 : Tryz.prog.cellsOf 3 = 1 := by kernel_rfl
theorem sz110 : Tryz.prog.cellsOf 110 = 2 := by kernel_rfl
theorem place_cells {H : Type} {enc : TypeId × Value → H} {W : World} {fuel : Nat} {cs : List Value} {x : DataW H × List MemPlace} (h : DataW.trod enc Tryz.prog W 0 (fun _ => true) true fuel 110 cs = some x) :
    ∃ p0 p1, cs = [.int .i64 p0, .int .i64 p1] ∧ (Lit.int .i64 p0).wf = true ∧ (Lit.int .i64 p1).wf = true := by
  obtain ⟨xs, m, _, _, hlen, hxl, hf⟩ := DataW.trod_struct Tryz.underlying110 h
  rw [sz110] at hlen
  obtain ⟨a0, a1, rfl⟩ : ∃ a0 a1, cs = [a0, a1] := by
    match cs, hlen with
    | [a0, a1], _ => exact ⟨a0, a1, rfl⟩
  have sm : ∀ i, i < 2 → ∃ y, xs[i]? = some y := fun i hi => ⟨xs[i]'(by rw [hxl]; exact hi), List.getElem?_eq_getElem _⟩
  obtain ⟨y0, e0⟩ := sm 0 (by omega)
  have h0 : DataW.trod enc Tryz.prog W 0 (fun _ => true) true m 3 (List.take (Tryz.prog.cellsOf 3) [a0, a1]) = xs[0]? := hf 0 _ rfl
  rw [sz3, e0] at h0
  obtain ⟨y1, e1⟩ := sm 1 (by omega)
  have h1 : DataW.trod enc Tryz.prog W 0 (fun _ => true) true m 3 (List.take (Tryz.prog.cellsOf 3) [a1]) = xs[1]? := hf 1 _ rfl
  rw [sz3, e1] at h1
  obtain ⟨p0, q0, _, f0_0⟩ := DataW.trod_int Tryz.underlying3 h0
  simp at q0
  subst q0
  obtain ⟨p1, q1, _, f1_0⟩ := DataW.trod_int Tryz.underlying3 h1
  simp at q1
  subst q1
  exact ⟨p0, p1, rfl, f0_0, f1_0⟩
theorem sz113 : Tryz.prog.cellsOf 113 = 2 := by kernel_rfl
theorem timer_cells {H : Type} {enc : TypeId × Value → H} {W : World} {fuel : Nat} {cs : List Value} {x : DataW H × List MemPlace} (h : DataW.trod enc Tryz.prog W 0 (fun _ => true) true fuel 113 cs = some x) :
    ∃ t0 t1, cs = [.int .u64 t0, .int .u64 t1] ∧ (Lit.int .u64 t0).wf = true ∧ (Lit.int .u64 t1).wf = true := by
  obtain ⟨xs, m, _, _, hlen, hxl, hf⟩ := DataW.trod_struct Tryz.underlying113 h
  rw [sz113] at hlen
  obtain ⟨a0, a1, rfl⟩ : ∃ a0 a1, cs = [a0, a1] := by
    match cs, hlen with
    | [a0, a1], _ => exact ⟨a0, a1, rfl⟩
  have sm : ∀ i, i < 2 → ∃ y, xs[i]? = some y := fun i hi => ⟨xs[i]'(by rw [hxl]; exact hi), List.getElem?_eq_getElem _⟩
  obtain ⟨y0, e0⟩ := sm 0 (by omega)
  have h0 : DataW.trod enc Tryz.prog W 0 (fun _ => true) true m 22 (List.take (Tryz.prog.cellsOf 22) [a0, a1]) = xs[0]? := hf 0 _ rfl
  rw [sz22, e0] at h0
  obtain ⟨y1, e1⟩ := sm 1 (by omega)
  have h1 : DataW.trod enc Tryz.prog W 0 (fun _ => true) true m 22 (List.take (Tryz.prog.cellsOf 22) [a1]) = xs[1]? := hf 1 _ rfl
  rw [sz22, e1] at h1
  obtain ⟨t0, q0, _, f0_0⟩ := DataW.trod_int Tryz.underlying22 h0
  simp at q0
  subst q0
  obtain ⟨t1, q1, _, f1_0⟩ := DataW.trod_int Tryz.underlying22 h1
  simp at q1
  subst q1
  exact ⟨t0, t1, rfl, f0_0, f1_0⟩
theorem sz111 : Tryz.prog.cellsOf 111 = 1 := by kernel_rfl
theorem sz115 : Tryz.prog.cellsOf 115 = 5 := by kernel_rfl
theorem queued_cells {H : Type} {enc : TypeId × Value → H} {W : World} {fuel : Nat} {cs : List Value} {x : DataW H × List MemPlace} (h : DataW.trod enc Tryz.prog W 0 (fun _ => true) true fuel 115 cs = some x) :
    ∃ q0 q1 A c D q3 q4, cs = [.int .i64 q0, .int .i64 q1, .slice A D.length c, .int .u64 q3, .int .u64 q4] ∧ (Lit.int .i64 q0).wf = true ∧ (Lit.int .i64 q1).wf = true ∧ D.length ≤ c ∧ c ≤ 9223372036854775807 ∧ S10.Rd W W.heap.size A (S10.flat D) ∧ S10.Keys D ∧ (Lit.int .u64 q3).wf = true ∧ (Lit.int .u64 q4).wf = true := by
  obtain ⟨xs, m, _, _, hlen, hxl, hf⟩ := DataW.trod_struct Tryz.underlying115 h
  rw [sz115] at hlen
  obtain ⟨a0, a1, a2, a3, a4, rfl⟩ : ∃ a0 a1 a2 a3 a4, cs = [a0, a1, a2, a3, a4] := by
    match cs, hlen with
    | [a0, a1, a2, a3, a4], _ => exact ⟨a0, a1, a2, a3, a4, rfl⟩
  have sm : ∀ i, i < 3 → ∃ y, xs[i]? = some y := fun i hi => ⟨xs[i]'(by rw [hxl]; exact hi), List.getElem?_eq_getElem _⟩
  obtain ⟨y0, e0⟩ := sm 0 (by omega)
  have h0 : DataW.trod enc Tryz.prog W 0 (fun _ => true) true m 110 (List.take (Tryz.prog.cellsOf 110) [a0, a1, a2, a3, a4]) = xs[0]? := hf 0 _ rfl
  rw [sz110, e0] at h0
  obtain ⟨y1, e1⟩ := sm 1 (by omega)
  have h1 : DataW.trod enc Tryz.prog W 0 (fun _ => true) true m 111 (List.take (Tryz.prog.cellsOf 111) [a2, a3, a4]) = xs[1]? := hf 1 _ rfl
  rw [sz111, e1] at h1
  obtain ⟨y2, e2⟩ := sm 2 (by omega)
  have h2 : DataW.trod enc Tryz.prog W 0 (fun _ => true) true m 113 (List.take (Tryz.prog.cellsOf 113) [a3, a4]) = xs[2]? := hf 2 _ rfl
  rw [sz113, e2] at h2
  obtain ⟨q0, q1, q0, f0_0, f0_1⟩ := place_cells h0
  simp only [List.take, List.cons.injEq, and_true] at q0
  obtain ⟨rfl, rfl⟩ := q0
  obtain ⟨A, c, D, q1, f1_0, f1_1, f1_2, f1_3⟩ := S10.open_ents h1
  simp only [List.take, List.cons.injEq, and_true] at q1
  subst q1
  obtain ⟨q3, q4, q2, f2_0, f2_1⟩ := timer_cells h2
  simp only [List.take, List.cons.injEq, and_true] at q2
  obtain ⟨rfl, rfl⟩ := q2
  exact ⟨q0, q1, A, c, D, q3, q4, rfl, f0_0, f0_1, f1_0, f1_1, f1_2, f1_3, f2_0, f2_1⟩
theorem stores_cells0 {H : Type} {enc : TypeId × Value → H} {W : World} {fuel : Nat} {cs : List Value} {x : DataW H × List MemPlace} (hf : DataW.trod enc Tryz.prog W 0 (fun _ => true) true fuel 26 cs = some x) :
    ∃ A n c, ∃ Y : Nat → Nat × Nat, cs = [.slice A n c] ∧ n ≤ 9223372036854775807 ∧ S2.WIn W W.heap.size A n (fun i => (Y i).1) (fun i => (Y i).2) ∧ S2.WOk n (fun i => (Y i).1) (fun i => (Y i).2) := by
  have y0 : Nat × Nat := (0, 0)
  have hne : Inhabited (Nat × Nat) := ⟨y0⟩
  rcases open_slice Tryz.underlying26 hf with ⟨hc, _⟩ | ⟨⟨lb, lo, spot⟩, len, cap, m, q, D, Pl, hc, _, hl, hm, hmm, _, hi⟩
  · exact ⟨none, 0, 0, fun _ => y0, hc, by omega, fun h => by omega, fun i hi => by omega⟩
  unfold maxLen at hm
  rcases Nat.eq_zero_or_pos len with rfl | hpos
  · exact ⟨_, 0, cap, fun _ => y0, hc, by omega, fun h => by omega, fun i hi => by omega⟩
  have hnm : len ≤ m := by rw [hmm]; simp; exact hl
  have hs : spot = none := by
    obtain ⟨cs, hcs, ht⟩ := hi 0 (by omega)
    obtain ⟨_, hlen, hat⟩ := World.cells?_some hcs
    obtain ⟨s0, s1, e, f0, f1⟩ := store_cells ht
    rw [sz42, e] at hat
    have g0 := hat 0 (by omega)
    have := S10.spot_none g0
    simpa [Addr.add] using this
  subst hs
  have hall : ∀ i, i < len → ∃ y : Nat × Nat, (W.cell? ⟨lb, lo + i * 2, none⟩ = some (.int .u32 (y.1 : Nat)) ∧ W.cell? ⟨lb, lo + i * 2 + 1, none⟩ = some (.int .u64 (y.2 : Nat))) ∧ y.1 < 4294967296 ∧ y.2 < 18446744073709551616 := by
    intro i hin
    obtain ⟨cs, hcs, ht⟩ := hi i (by omega)
    obtain ⟨_, hlen, hat⟩ := World.cells?_some hcs
    obtain ⟨s0, s1, e, f0, f1⟩ := store_cells ht
    rw [sz42, e] at hat
    have g0 := hat 0 (by omega)
    have g1 := hat 1 (by omega)
    rw [S10.add_none, S10.add_none] at g0 g1
    rw [Nat.add_zero] at g0
    obtain ⟨n0, rfl, b0⟩ := u32_of f0
    obtain ⟨n1, rfl, b1⟩ := u64_of f1
    exact ⟨(n0, n1), ⟨g0, g1⟩, b0, b1⟩
  obtain ⟨Y, hY⟩ := choose_lt hall
  exact ⟨_, len, cap, Y, hc, by omega, fun _ => ⟨lb, lo, rfl, World.block_lt_of_cell? W _ (hY 0 hpos).1.1, fun i hi => (hY i hi).1⟩, fun i hi => (hY i hi).2⟩
theorem stores_cells {H : Type} {enc : TypeId × Value → H} {W : World} {fuel : Nat} {cs : List Value} {x : DataW H × List MemPlace} (hf : DataW.trod enc Tryz.prog W 0 (fun _ => true) true fuel 26 cs = some x) :
    ∃ A n c SA SV, cs = [.slice A n c] ∧ n ≤ 9223372036854775807 ∧ S2.WIn W W.heap.size A n SA SV ∧ S2.WOk n SA SV := by
  obtain ⟨A, n, c, Y, h1, h2, h3, h4⟩ := stores_cells0 hf
  exact ⟨A, n, c, fun i => (Y i).1, fun i => (Y i).2, h1, h2, h3, h4⟩
theorem ints_cells {H : Type} {enc : TypeId × Value → H} {W : World} {fuel : Nat} {cs : List Value} {x : DataW H × List MemPlace} (hf : DataW.trod enc Tryz.prog W 0 (fun _ => true) true fuel 27 cs = some x) :
    ∃ A n c Y, cs = [.slice A n c] ∧ n ≤ 9223372036854775807 ∧ GIn W W.heap.size A n Y ∧ ∀ i, i < n → S10.InI (Y i) := by
  rcases open_ints Tryz.underlying27 Tryz.underlying3 sz3 hf with ⟨hc, _⟩ | ⟨⟨lb, lo, spot⟩, len, cap, zs, hc, _, hl, hm, hzl, _, hcell, hwf⟩
  · exact ⟨none, 0, 0, fun _ => 0, hc, by omega, fun h => by omega, fun i hi => by omega⟩
  simp at hzl
  unfold maxLen at hm
  refine ⟨_, len, cap, fun i => zs.getD i 0, hc, by omega, fun hp => ?_, fun i hi => ?_⟩
  · have h0 := hcell 0 (by omega)
    have hs : spot = none := by
      have := S10.spot_none h0
      simpa [Addr.add] using this
    subst hs
    refine ⟨lb, lo, rfl, ?_, fun i hi => ?_⟩
    · rw [S10.add_none] at h0
      exact World.block_lt_of_cell? W _ h0
    · have h1 := hcell i (by omega)
      rw [S10.add_none] at h1
      exact h1
  · have h2 : i < zs.length := by omega
    have e : zs.getD i 0 = zs[i] := by rw [List.getD_eq_getElem?_getD, List.getElem?_eq_getElem h2]; rfl
    show S10.InI (zs.getD i 0)
    rw [e]
    exact S10.inI (hwf _ (List.getElem_mem h2))
theorem queues_cells {H : Type} {enc : TypeId × Value → H} {W : World} {fuel : Nat} {cs : List Value} {x : DataW H × List MemPlace} (hf : DataW.trod enc Tryz.prog W 0 (fun _ => true) true fuel 28 cs = some x) :
    ∃ A n c, ∃ Y : Nat → Qu, cs = [.slice A n c] ∧ n ≤ 9223372036854775807 ∧ QIn W W.heap.size A n Y ∧ ∀ i, i < n → QOk W W.heap.size (Y i) := by
  have y0 : Qu := ⟨0, 0, none, 0, [], 0, 0⟩
  have hne : Inhabited (Qu) := ⟨y0⟩
  rcases open_slice Tryz.underlying28 hf with ⟨hc, _⟩ | ⟨⟨lb, lo, spot⟩, len, cap, m, q, D, Pl, hc, _, hl, hm, hmm, _, hi⟩
  · exact ⟨none, 0, 0, fun _ => y0, hc, by omega, fun h => by omega, fun i hi => by omega⟩
  unfold maxLen at hm
  rcases Nat.eq_zero_or_pos len with rfl | hpos
  · exact ⟨_, 0, cap, fun _ => y0, hc, by omega, fun h => by omega, fun i hi => by omega⟩
  have hnm : len ≤ m := by rw [hmm]; simp; exact hl
  have hs : spot = none := by
    obtain ⟨cs, hcs, ht⟩ := hi 0 (by omega)
    obtain ⟨_, hlen, hat⟩ := World.cells?_some hcs
    obtain ⟨q0, q1, A, c, D, q3, q4, e, f0, f1, f2, f3, f4, f5, f6, f7⟩ := queued_cells ht
    rw [sz115, e] at hat
    have g0 := hat 0 (by omega)
    have := S10.spot_none g0
    simpa [Addr.add] using this
  subst hs
  have hall : ∀ i, i < len → ∃ y : Qu, (W.cell? ⟨lb, lo + i * 5, none⟩ = some (.int .i64 y.b) ∧ W.cell? ⟨lb, lo + i * 5 + 1, none⟩ = some (.int .i64 y.i) ∧ W.cell? ⟨lb, lo + i * 5 + 2, none⟩ = some (.slice y.A y.D.length y.c) ∧ W.cell? ⟨lb, lo + i * 5 + 3, none⟩ = some (.int .u64 y.ta) ∧ W.cell? ⟨lb, lo + i * 5 + 4, none⟩ = some (.int .u64 y.tf)) ∧ QOk W W.heap.size y := by
    intro i hin
    obtain ⟨cs, hcs, ht⟩ := hi i (by omega)
    obtain ⟨_, hlen, hat⟩ := World.cells?_some hcs
    obtain ⟨q0, q1, A, c, D, q3, q4, e, f0, f1, f2, f3, f4, f5, f6, f7⟩ := queued_cells ht
    rw [sz115, e] at hat
    have g0 := hat 0 (by omega)
    have g1 := hat 1 (by omega)
    have g2 := hat 2 (by omega)
    have g3 := hat 3 (by omega)
    have g4 := hat 4 (by omega)
    rw [S10.add_none, S10.add_none] at g0 g1 g2 g3 g4
    rw [Nat.add_zero] at g0
    have hI := S10.inI f0
    exact ⟨⟨q0, q1, A, c, D, q3, q4⟩, ⟨g0, g1, g2, g3, g4⟩, ⟨hI, f2, f3, f4, f5⟩⟩
  obtain ⟨Y, hY⟩ := choose_lt hall
  exact ⟨_, len, cap, Y, hc, by omega, fun _ => ⟨lb, lo, rfl, World.block_lt_of_cell? W _ (hY 0 hpos).1.1, fun i hi => (hY i hi).1⟩, fun i hi => (hY i hi).2⟩
theorem sz23 : Tryz.prog.cellsOf 23 = 1 := by kernel_rfl
theorem sz25 : Tryz.prog.cellsOf 25 = 3 := by kernel_rfl
theorem config_cells {H : Type} {enc : TypeId × Value → H} {W : World} {fuel : Nat} {cs : List Value} {x : DataW H × List MemPlace} (h : DataW.trod enc Tryz.prog W 0 (fun _ => true) true fuel 25 cs = some x) :
    ∃ c0 c1 dA dc D, cs = [.int .i64 c0, .int .u64 c1, .slice dA D.length dc] ∧ (Lit.int .i64 c0).wf = true ∧ (Lit.int .u64 c1).wf = true ∧ D.length ≤ dc ∧ dc ≤ 9223372036854775807 ∧ S3.Rd W W.heap.size dA D ∧ (∀ d ∈ D, d ≤ 18446744073709551615) := by
  obtain ⟨xs, m, _, _, hlen, hxl, hf⟩ := DataW.trod_struct Tryz.underlying25 h
  rw [sz25] at hlen
  obtain ⟨a0, a1, a2, rfl⟩ : ∃ a0 a1 a2, cs = [a0, a1, a2] := by
    match cs, hlen with
    | [a0, a1, a2], _ => exact ⟨a0, a1, a2, rfl⟩
  have sm : ∀ i, i < 3 → ∃ y, xs[i]? = some y := fun i hi => ⟨xs[i]'(by rw [hxl]; exact hi), List.getElem?_eq_getElem _⟩
  obtain ⟨y0, e0⟩ := sm 0 (by omega)
  have h0 : DataW.trod enc Tryz.prog W 0 (fun _ => true) true m 3 (List.take (Tryz.prog.cellsOf 3) [a0, a1, a2]) = xs[0]? := hf 0 _ rfl
  rw [sz3, e0] at h0
  obtain ⟨y1, e1⟩ := sm 1 (by omega)
  have h1 : DataW.trod enc Tryz.prog W 0 (fun _ => true) true m 22 (List.take (Tryz.prog.cellsOf 22) [a1, a2]) = xs[1]? := hf 1 _ rfl
  rw [sz22, e1] at h1
  obtain ⟨y2, e2⟩ := sm 2 (by omega)
  have h2 : DataW.trod enc Tryz.prog W 0 (fun _ => true) true m 23 (List.take (Tryz.prog.cellsOf 23) [a2]) = xs[2]? := hf 2 _ rfl
  rw [sz23, e2] at h2
  obtain ⟨c0, q0, _, f0_0⟩ := DataW.trod_int Tryz.underlying3 h0
  simp at q0
  subst q0
  obtain ⟨c1, q1, _, f1_0⟩ := DataW.trod_int Tryz.underlying22 h1
  simp at q1
  subst q1
  obtain ⟨dA, dc, D, q2, f2_0, f2_1, f2_2, f2_3⟩ := S3.open_list h2
  simp only [List.take, List.cons.injEq, and_true] at q2
  subst q2
  exact ⟨c0, c1, dA, dc, D, rfl, f0_0, f1_0, f2_0, f2_1, f2_2, f2_3⟩
theorem sz26 : Tryz.prog.cellsOf 26 = 1 := by kernel_rfl
theorem sz27 : Tryz.prog.cellsOf 27 = 1 := by kernel_rfl
theorem sz28 : Tryz.prog.cellsOf 28 = 1 := by kernel_rfl
theorem sz30 : Tryz.prog.cellsOf 30 = 7 := by kernel_rfl
theorem tfirst_cells {H : Type} {enc : TypeId × Value → H} {W : World} {fuel : Nat} {cs : List Value} {x : DataW H × List MemPlace} (h : DataW.trod enc Tryz.prog W 0 (fun _ => true) true fuel 30 cs = some x) :
    ∃ t0 t1 t2 t3 t4 sA sn sc SA SV gA gn gc GY qA qn qc QY t8, cs = [.int .i64 t0, .int .u64 t1, .slice t2 t4.length t3, .slice sA sn sc, .slice gA gn gc, .slice qA qn qc, .int .u64 t8] ∧ (Lit.int .i64 t0).wf = true ∧ (Lit.int .u64 t1).wf = true ∧ t4.length ≤ t3 ∧ t3 ≤ 9223372036854775807 ∧ S3.Rd W W.heap.size t2 t4 ∧ (∀ d ∈ t4, d ≤ 18446744073709551615) ∧ sn ≤ 9223372036854775807 ∧ S2.WIn W W.heap.size sA sn SA SV ∧ S2.WOk sn SA SV ∧ gn ≤ 9223372036854775807 ∧ GIn W W.heap.size gA gn GY ∧ (∀ i, i < gn → S10.InI (GY i)) ∧ qn ≤ 9223372036854775807 ∧ QIn W W.heap.size qA qn QY ∧ (∀ i, i < qn → QOk W W.heap.size (QY i)) ∧ (Lit.int .u64 t8).wf = true := by
  obtain ⟨xs, m, _, _, hlen, hxl, hf⟩ := DataW.trod_struct Tryz.underlying30 h
  rw [sz30] at hlen
  obtain ⟨a0, a1, a2, a3, a4, a5, a6, rfl⟩ : ∃ a0 a1 a2 a3 a4 a5 a6, cs = [a0, a1, a2, a3, a4, a5, a6] := by
    match cs, hlen with
    | [a0, a1, a2, a3, a4, a5, a6], _ => exact ⟨a0, a1, a2, a3, a4, a5, a6, rfl⟩
  have sm : ∀ i, i < 5 → ∃ y, xs[i]? = some y := fun i hi => ⟨xs[i]'(by rw [hxl]; exact hi), List.getElem?_eq_getElem _⟩
  obtain ⟨y0, e0⟩ := sm 0 (by omega)
  have h0 : DataW.trod enc Tryz.prog W 0 (fun _ => true) true m 25 (List.take (Tryz.prog.cellsOf 25) [a0, a1, a2, a3, a4, a5, a6]) = xs[0]? := hf 0 _ rfl
  rw [sz25, e0] at h0
  obtain ⟨y1, e1⟩ := sm 1 (by omega)
  have h1 : DataW.trod enc Tryz.prog W 0 (fun _ => true) true m 26 (List.take (Tryz.prog.cellsOf 26) [a3, a4, a5, a6]) = xs[1]? := hf 1 _ rfl
  rw [sz26, e1] at h1
  obtain ⟨y2, e2⟩ := sm 2 (by omega)
  have h2 : DataW.trod enc Tryz.prog W 0 (fun _ => true) true m 27 (List.take (Tryz.prog.cellsOf 27) [a4, a5, a6]) = xs[2]? := hf 2 _ rfl
  rw [sz27, e2] at h2
  obtain ⟨y3, e3⟩ := sm 3 (by omega)
  have h3 : DataW.trod enc Tryz.prog W 0 (fun _ => true) true m 28 (List.take (Tryz.prog.cellsOf 28) [a5, a6]) = xs[3]? := hf 3 _ rfl
  rw [sz28, e3] at h3
  obtain ⟨y4, e4⟩ := sm 4 (by omega)
  have h4 : DataW.trod enc Tryz.prog W 0 (fun _ => true) true m 22 (List.take (Tryz.prog.cellsOf 22) [a6]) = xs[4]? := hf 4 _ rfl
  rw [sz22, e4] at h4
  obtain ⟨t0, t1, t2, t3, t4, q0, f0_0, f0_1, f0_2, f0_3, f0_4, f0_5⟩ := config_cells h0
  simp only [List.take, List.cons.injEq, and_true] at q0
  obtain ⟨rfl, rfl, rfl⟩ := q0
  obtain ⟨sA, sn, sc, SA, SV, q1, f1_0, f1_1, f1_2⟩ := stores_cells h1
  simp only [List.take, List.cons.injEq, and_true] at q1
  subst q1
  obtain ⟨gA, gn, gc, GY, q2, f2_0, f2_1, f2_2⟩ := ints_cells h2
  simp only [List.take, List.cons.injEq, and_true] at q2
  subst q2
  obtain ⟨qA, qn, qc, QY, q3, f3_0, f3_1, f3_2⟩ := queues_cells h3
  simp only [List.take, List.cons.injEq, and_true] at q3
  subst q3
  obtain ⟨t8, q4, _, f4_0⟩ := DataW.trod_int Tryz.underlying22 h4
  simp at q4
  subst q4
  exact ⟨t0, t1, t2, t3, t4, sA, sn, sc, SA, SV, gA, gn, gc, GY, qA, qn, qc, QY, t8, rfl, f0_0, f0_1, f0_2, f0_3, f0_4, f0_5, f1_0, f1_1, f1_2, f2_0, f2_1, f2_2, f3_0, f3_1, f3_2, f4_0⟩
theorem tfirst_open {H : Type} {enc : TypeId × Value → H} {W : World} {v : Value} {d : DataW H} {p : List MemPlace} {r : Reach} {b0 : Nat} (hv : Value.okWide Tryz.prog W r b0 30 v) (h : DataW.Trod enc Tryz.prog W 0 (fun _ => true) true 30 v d p) :
    ∃ t0 t1 t2 t3 t4 sA sn sc SA SV gA gn gc GY qA qn qc QY t8, v = .agg #[.int .i64 t0, .int .u64 t1, .slice t2 t4.length t3, .slice sA sn sc, .slice gA gn gc, .slice qA qn qc, .int .u64 t8] ∧ (Lit.int .i64 t0).wf = true ∧ (Lit.int .u64 t1).wf = true ∧ t4.length ≤ t3 ∧ t3 ≤ 9223372036854775807 ∧ S3.Rd W W.heap.size t2 t4 ∧ (∀ d ∈ t4, d ≤ 18446744073709551615) ∧ sn ≤ 9223372036854775807 ∧ S2.WIn W W.heap.size sA sn SA SV ∧ S2.WOk sn SA SV ∧ gn ≤ 9223372036854775807 ∧ GIn W W.heap.size gA gn GY ∧ (∀ i, i < gn → S10.InI (GY i)) ∧ qn ≤ 9223372036854775807 ∧ QIn W W.heap.size qA qn QY ∧ (∀ i, i < qn → QOk W W.heap.size (QY i)) ∧ (Lit.int .u64 t8).wf = true := by
  obtain ⟨cs, rfl, hsz⟩ := okWide_struct Tryz.underlying30 hv
  obtain ⟨fuel, ht⟩ := h
  obtain ⟨t0, t1, t2, t3, t4, sA, sn, sc, SA, SV, gA, gn, gc, GY, qA, qn, qc, QY, t8, hc, f0, f1, f2, f3, f4, f5, f6, f7, f8, f9, f10, f11, f12, f13, f14, f15⟩ := tfirst_cells ht
  refine ⟨t0, t1, t2, t3, t4, sA, sn, sc, SA, SV, gA, gn, gc, GY, qA, qn, qc, QY, t8, ?_, f0, f1, f2, f3, f4, f5, f6, f7, f8, f9, f10, f11, f12, f13, f14, f15⟩
  obtain ⟨l⟩ := cs
  have e : l = _ := hc
  rw [e]
end S12
namespace S13
open Go.Proofs.YtlflagjnlclffaaGreat.S12
open Go.ChangeShapes Go.WideShapes Go.ChangeAt Go.RowKit Go.Deep
set_option maxRecDepth 100000
theorem sz5 : Tryz.prog.cellsOf 5 = 1 := by kernel_rfl
theorem sz44 : Tryz.prog.cellsOf 44 = 7 := by kernel_rfl
theorem act13_cells {H : Type} {enc : TypeId × Value → H} {W : World} {fuel : Nat} {cs : List Value} {x : DataW H × List MemPlace} (h : DataW.trod enc Tryz.prog W 0 (fun _ => true) true fuel 44 cs = some x) :
    ∃ a0 a1 a2 a3 a4 a5 a6, cs = [.int .u8 a0, .int .u8 a1, .int .i64 a2, .int .u32 a3, .int .u32 a4, .int .u64 a5, .int .i64 a6] ∧ (Lit.int .u8 a0).wf = true ∧ (Lit.int .u8 a1).wf = true ∧ (Lit.int .i64 a2).wf = true ∧ (Lit.int .u32 a3).wf = true ∧ (Lit.int .u32 a4).wf = true ∧ (Lit.int .u64 a5).wf = true ∧ (Lit.int .i64 a6).wf = true := by
  obtain ⟨xs, m, _, _, hlen, hxl, hf⟩ := DataW.trod_struct Tryz.underlying44 h
  rw [sz44] at hlen
  obtain ⟨a0, a1, a2, a3, a4, a5, a6, rfl⟩ : ∃ a0 a1 a2 a3 a4 a5 a6, cs = [a0, a1, a2, a3, a4, a5, a6] := by
    match cs, hlen with
    | [a0, a1, a2, a3, a4, a5, a6], _ => exact ⟨a0, a1, a2, a3, a4, a5, a6, rfl⟩
  have sm : ∀ i, i < 6 → ∃ y, xs[i]? = some y := fun i hi => ⟨xs[i]'(by rw [hxl]; exact hi), List.getElem?_eq_getElem _⟩
  obtain ⟨y0, e0⟩ := sm 0 (by omega)
  have h0 : DataW.trod enc Tryz.prog W 0 (fun _ => true) true m 5 (List.take (Tryz.prog.cellsOf 5) [a0, a1, a2, a3, a4, a5, a6]) = xs[0]? := hf 0 _ rfl
  rw [sz5, e0] at h0
  obtain ⟨y1, e1⟩ := sm 1 (by omega)
  have h1 : DataW.trod enc Tryz.prog W 0 (fun _ => true) true m 5 (List.take (Tryz.prog.cellsOf 5) [a1, a2, a3, a4, a5, a6]) = xs[1]? := hf 1 _ rfl
  rw [sz5, e1] at h1
  obtain ⟨y2, e2⟩ := sm 2 (by omega)
  have h2 : DataW.trod enc Tryz.prog W 0 (fun _ => true) true m 3 (List.take (Tryz.prog.cellsOf 3) [a2, a3, a4, a5, a6]) = xs[2]? := hf 2 _ rfl
  rw [S12.sz3, e2] at h2
  obtain ⟨y3, e3⟩ := sm 3 (by omega)
  have h3 : DataW.trod enc Tryz.prog W 0 (fun _ => true) true m 40 (List.take (Tryz.prog.cellsOf 40) [a3, a4, a5, a6]) = xs[3]? := hf 3 _ rfl
  rw [S12.sz40, e3] at h3
  obtain ⟨y4, e4⟩ := sm 4 (by omega)
  have h4 : DataW.trod enc Tryz.prog W 0 (fun _ => true) true m 42 (List.take (Tryz.prog.cellsOf 42) [a4, a5, a6]) = xs[4]? := hf 4 _ rfl
  rw [S12.sz42, e4] at h4
  obtain ⟨y5, e5⟩ := sm 5 (by omega)
  have h5 : DataW.trod enc Tryz.prog W 0 (fun _ => true) true m 3 (List.take (Tryz.prog.cellsOf 3) [a6]) = xs[5]? := hf 5 _ rfl
  rw [S12.sz3, e5] at h5
  obtain ⟨a0, q0, _, f0_0⟩ := DataW.trod_int Tryz.underlying5 h0
  simp at q0
  subst q0
  obtain ⟨a1, q1, _, f1_0⟩ := DataW.trod_int Tryz.underlying5 h1
  simp at q1
  subst q1
  obtain ⟨a2, q2, _, f2_0⟩ := DataW.trod_int Tryz.underlying3 h2
  simp at q2
  subst q2
  obtain ⟨a3, q3, _, f3_0⟩ := DataW.trod_int Tryz.underlying40 h3
  simp at q3
  subst q3
  obtain ⟨a4, a5, q4, f4_0, f4_1⟩ := S12.store_cells h4
  simp only [List.take, List.cons.injEq, and_true] at q4
  obtain ⟨rfl, rfl⟩ := q4
  obtain ⟨a6, q5, _, f5_0⟩ := DataW.trod_int Tryz.underlying3 h5
  simp at q5
  subst q5
  exact ⟨a0, a1, a2, a3, a4, a5, a6, rfl, f0_0, f1_0, f2_0, f3_0, f4_0, f4_1, f5_0⟩
theorem acts_open13 {H : Type} {enc : TypeId × Value → H} {W : World} {v : Value} {d : DataW H} {p : List MemPlace} {r : Reach} {b0 : Nat} (hv : Value.okWide Tryz.prog W r b0 31 v) (h : DataW.Trod enc Tryz.prog W 0 (fun _ => true) true 31 v d p) :
    ∃ A n c Y, v = .slice A n c ∧ n ≤ 9223372036854775807 ∧ ApIn W W.heap.size A n Y := by
  obtain ⟨a0, len0, cap0, rfl⟩ := okWide_slice Tryz.underlying31 hv
  obtain ⟨fuel, hf⟩ := h
  have y0 : Ap := ⟨0, 0, 0, 0, 0, 0, 0⟩
  have hne : Inhabited Ap := ⟨y0⟩
  rcases open_slice Tryz.underlying31 hf with ⟨hc, _⟩ | ⟨⟨lb, lo, spot⟩, len, cap, m, q, D, Pl, hc, _, hl, hm, hmm, _, hi⟩
  · simp [Value.cells] at hc
    obtain ⟨rfl, rfl, rfl⟩ := hc
    exact ⟨none, 0, 0, fun _ => y0, rfl, by omega, fun h => by omega⟩
  simp [Value.cells] at hc
  obtain ⟨rfl, rfl, rfl⟩ := hc
  unfold maxLen at hm
  rcases Nat.eq_zero_or_pos len0 with rfl | hpos
  · exact ⟨_, 0, _, fun _ => y0, rfl, by omega, fun h => by omega⟩
  have hnm : len0 ≤ m := by rw [hmm]; simp; exact hl
  have hs : spot = none := by
    obtain ⟨cs, hcs, ht⟩ := hi 0 (by omega)
    obtain ⟨_, hlen, hat⟩ := World.cells?_some hcs
    obtain ⟨a0, a1, a2, a3, a4, a5, a6, e, f0, f1, f2, f3, f4, f5, f6⟩ := act13_cells ht
    rw [sz44, e] at hat
    have g0 := hat 0 (by omega)
    have := S10.spot_none g0
    simpa [Addr.add] using this
  subst hs
  have hall : ∀ i, i < len0 → ∃ y : Ap, ApOk y ∧ ∀ j u, y.cs[j]? = some u → W.cell? ⟨lb, lo + i * 7 + j, none⟩ = some u := by
    intro i hin
    obtain ⟨cs, hcs, ht⟩ := hi i (by omega)
    obtain ⟨_, hlen, hat⟩ := World.cells?_some hcs
    obtain ⟨a0, a1, a2, a3, a4, a5, a6, e, f0, f1, f2, f3, f4, f5, f6⟩ := act13_cells ht
    rw [sz44, e] at hat
    have g0 := hat 0 (by omega)
    have g1 := hat 1 (by omega)
    have g2 := hat 2 (by omega)
    have g3 := hat 3 (by omega)
    have g4 := hat 4 (by omega)
    have g5 := hat 5 (by omega)
    have g6 := hat 6 (by omega)
    rw [S10.add_none, S10.add_none] at g0 g1 g2 g3 g4 g5 g6
    obtain ⟨n0, rfl, b0⟩ := S12.u8_of f0
    obtain ⟨n1, rfl, b1⟩ := S12.u8_of f1
    obtain ⟨n3, rfl, b3⟩ := S12.u32_of f3
    obtain ⟨n4, rfl, b4⟩ := S12.u32_of f4
    obtain ⟨n5, rfl, b5⟩ := S12.u64_of f5
    refine ⟨⟨n0, n1, a2, n3, n4, n5, a6⟩, ⟨b0, b1, b3, b4, b5⟩, fun j u hu => ?_⟩
    rcases (show j = 0 ∨ j = 1 ∨ j = 2 ∨ j = 3 ∨ j = 4 ∨ j = 5 ∨ j = 6 ∨ 7 ≤ j by omega) with rfl | rfl | rfl | rfl | rfl | rfl | rfl | h7
    · simp [Ap.cs] at hu; subst hu; exact g0
    · simp [Ap.cs] at hu; subst hu; exact g1
    · simp [Ap.cs] at hu; subst hu; exact g2
    · simp [Ap.cs] at hu; subst hu; exact g3
    · simp [Ap.cs] at hu; subst hu; exact g4
    · simp [Ap.cs] at hu; subst hu; exact g5
    · simp [Ap.cs] at hu; subst hu; exact g6
    · rw [Array.getElem?_eq_none (by show 7 ≤ j; exact h7)] at hu
      cases hu
  obtain ⟨Y, hY⟩ := choose_lt hall
  exact ⟨_, _, _, Y, rfl, by omega, fun _ => ⟨lb, lo, rfl, World.block_lt_of_cell? W _ ((hY 0 hpos).2 0 _ rfl), fun i hi => hY i hi⟩⟩
theorem bulk_one {H : Type} (d : DataW H) : 1 ≤ Rows.uptoBulk d := by
  cases d with
  | lit l => cases l <;> simp [Rows.uptoBulk]
  | nil => simp [Rows.uptoBulk]
  | ptr d => simp [Rows.uptoBulk]
  | slice elems spare => simp [Rows.uptoBulk]
  | agg parts => simp [Rows.uptoBulk]
  | iface t d => simp [Rows.uptoBulk]
  | map entries => simp [Rows.uptoBulk]
  | held h => simp [Rows.uptoBulk]
theorem bulk_len {H : Type} : ∀ l : List (DataW H), l.length ≤ Rows.uptoBulkAll l
  | [] => by simp [Rows.uptoBulkAll]
  | x :: r => by
    have h1 := bulk_one x
    have h2 := bulk_len r
    simp only [Rows.uptoBulkAll, List.length_cons]
    omega
theorem bulk_part {H : Type} {d : DataW H} : ∀ {l : List (DataW H)}, d ∈ l → Rows.uptoBulk d ≤ Rows.uptoBulkAll l
  | x :: r, h => by
    simp only [Rows.uptoBulkAll]
    rcases List.mem_cons.1 h with e | e
    · subst e; omega
    · have := bulk_part e; omega
theorem bulk_agg {H : Type} {d : DataW H} {l : List (DataW H)} (h : d ∈ l) : Rows.uptoBulk d ≤ Rows.uptoBulk (.agg l) := by
  have := bulk_part h
  simp only [Rows.uptoBulk]
  omega
theorem slice_bulk {H : Type} {enc : TypeId × Value → H} {W : World} {fuel T E : Nat} {x : DataW H × List MemPlace} {A : Option Addr} {n c : Nat} (hu : Tryz.prog.underlying T = some (.slice E)) (h : DataW.trod enc Tryz.prog W 0 (fun _ => true) true fuel T [.slice A n c] = some x) : n ≤ Rows.uptoBulk x.1 := by
  rcases open_slice hu h with ⟨hc, rfl⟩ | ⟨a, len, cap, m, q, D, Pl, hc, _, _, _, _, rfl, _⟩
  · simp at hc
    obtain ⟨rfl, rfl, rfl⟩ := hc
    omega
  · simp at hc
    obtain ⟨rfl, rfl, rfl⟩ := hc
    have h1 := bulk_len ((List.range n).map D)
    simp only [List.length_map, List.length_range] at h1
    simp only [Rows.uptoBulk]
    omega
theorem first_bulk {H : Type} {enc : TypeId × Value → H} {W : World} {d : DataW H} {p : List MemPlace} {v0 v1 v6 : Value} {dA sA gA qA : Option Addr} {dn dc sn sc gn gc qn qc : Nat}
    (h : DataW.Trod enc Tryz.prog W 0 (fun _ => true) true 30 (.agg #[v0, v1, .slice dA dn dc, .slice sA sn sc, .slice gA gn gc, .slice qA qn qc, v6]) d p) : dn ≤ Rows.uptoBulk d ∧ sn ≤ Rows.uptoBulk d := by
  obtain ⟨fuel, hf⟩ := h
  obtain ⟨xs, m, _, hx, hlen, hxl, hf⟩ := DataW.trod_struct Tryz.underlying30 hf
  have hd : d = .agg (xs.map (·.1)) := congrArg Prod.fst hx
  have sm : ∀ i, i < 5 → ∃ y, xs[i]? = some y := fun i hi => ⟨xs[i]'(by rw [hxl]; exact hi), List.getElem?_eq_getElem _⟩
  obtain ⟨y0, e0⟩ := sm 0 (by omega)
  obtain ⟨y1, e1⟩ := sm 1 (by omega)
  have h0 : DataW.trod enc Tryz.prog W 0 (fun _ => true) true m 25 (List.take (Tryz.prog.cellsOf 25) [v0, v1, .slice dA dn dc, .slice sA sn sc, .slice gA gn gc, .slice qA qn qc, v6]) = xs[0]? := hf 0 _ rfl
  have h1 : DataW.trod enc Tryz.prog W 0 (fun _ => true) true m 26 (List.take (Tryz.prog.cellsOf 26) [.slice sA sn sc, .slice gA gn gc, .slice qA qn qc, v6]) = xs[1]? := hf 1 _ rfl
  rw [S12.sz25, e0] at h0
  rw [S12.sz26, e1] at h1
  simp only [List.take] at h0 h1
  obtain ⟨zs, m2, _, hx2, hlen2, hxl2, hf2⟩ := DataW.trod_struct Tryz.underlying25 h0
  have hd2 : y0.1 = .agg (zs.map (·.1)) := congrArg Prod.fst hx2
  have sm2 : ∀ i, i < 3 → ∃ y, zs[i]? = some y := fun i hi => ⟨zs[i]'(by rw [hxl2]; exact hi), List.getElem?_eq_getElem _⟩
  obtain ⟨y2, e2⟩ := sm2 2 (by omega)
  have h2 : DataW.trod enc Tryz.prog W 0 (fun _ => true) true m2 23 (List.take (Tryz.prog.cellsOf 23) [.slice dA dn dc]) = zs[2]? := hf2 2 _ rfl
  rw [S12.sz23, e2] at h2
  simp only [List.take] at h2
  have b2 := slice_bulk Tryz.underlying23 h2
  have b1 := slice_bulk Tryz.underlying26 h1
  have m0 : Rows.uptoBulk y0.1 ≤ Rows.uptoBulk d := by rw [hd]; exact bulk_agg (List.mem_map.2 ⟨y0, List.mem_of_getElem? e0, rfl⟩)
  have m1 : Rows.uptoBulk y1.1 ≤ Rows.uptoBulk d := by rw [hd]; exact bulk_agg (List.mem_map.2 ⟨y1, List.mem_of_getElem? e1, rfl⟩)
  have m3 : Rows.uptoBulk y2.1 ≤ Rows.uptoBulk y0.1 := by rw [hd2]; exact bulk_agg (List.mem_map.2 ⟨y2, List.mem_of_getElem? e2, rfl⟩)
  omega
theorem rd3_up {w : World} {base b : Nat} {A : Option Addr} {D : List Nat} (h : S3.Rd w base A D) (hb : base ≤ b) : S3.Rd w b A D := fun hp => by
  obtain ⟨g, o, e, hl, hr⟩ := h hp
  exact ⟨g, o, e, Nat.lt_of_lt_of_le hl hb, hr⟩
theorem rd10_up {w : World} {base b : Nat} {A : Option Addr} {D : List Value} (h : S10.Rd w base A D) (hb : base ≤ b) : S10.Rd w b A D := fun hp => by
  obtain ⟨g, o, e, hl, hr⟩ := h hp
  exact ⟨g, o, e, Nat.lt_of_lt_of_le hl hb, hr⟩
theorem win_up {w : World} {base b : Nat} {A : Option Addr} {n : Nat} {F G : Nat → Nat} (h : S2.WIn w base A n F G) (hb : base ≤ b) : S2.WIn w b A n F G := fun hp => by
  obtain ⟨g, o, e, hl, hr⟩ := h hp
  exact ⟨g, o, e, Nat.lt_of_lt_of_le hl hb, hr⟩
theorem gin_up {w : World} {base b : Nat} {A : Option Addr} {n : Nat} {F : Nat → Int} (h : S12.GIn w base A n F) (hb : base ≤ b) : S12.GIn w b A n F := fun hp => by
  obtain ⟨g, o, e, hl, hr⟩ := h hp
  exact ⟨g, o, e, Nat.lt_of_lt_of_le hl hb, hr⟩
theorem qin_up {w : World} {base b : Nat} {A : Option Addr} {n : Nat} {F : Nat → S12.Qu} (h : S12.QIn w base A n F) (hb : base ≤ b) : S12.QIn w b A n F := fun hp => by
  obtain ⟨g, o, e, hl, hr⟩ := h hp
  exact ⟨g, o, e, Nat.lt_of_lt_of_le hl hb, hr⟩
theorem qok_up {w : World} {base b : Nat} {q : S12.Qu} (h : S12.QOk w base q) (hb : base ≤ b) : S12.QOk w b q := ⟨h.b, h.le, h.c, rd10_up h.rd hb, h.keys⟩
theorem bulk_small {H : Type} {l : List (DataW H)} (hk : Rows.uptoSmall H l = true) : Rows.uptoBulkAll l ≤ 1048576 := of_decide_eq_true hk
end S13
end Go.Proofs.YtlflagjnlclffaaGreat
namespace Go.Proofs.YtlflagjnlclffaaGreat.S13
open Go.Proofs.YtlflagjnlclffaaGreat Go.Proofs.YtlflagjnlclffaaGreat.S11 Go.Proofs.YtlflagjnlclffaaGreat.S12
open Go.RowKit

theorem PI.new {w0 w w' : World} {base PB WB RB N c0 i : Nat} {v : Value} {L : List O3} (h : PI w0 w base PB WB RB N c0 i v L) (b : Below w.heap.size w w') : PI w0 w' base PB WB RB N c0 i v L := by
  obtain ⟨⟨tn, M, X, Y, hb⟩, h2, h3⟩ := h
  exact ⟨⟨tn, M, X, Y, hb.new b⟩, h2, h3⟩
theorem PI.bl {w0 w : World} {base PB WB RB N c0 i : Nat} {v : Value} {L : List O3} (h : PI w0 w base PB WB RB N c0 i v L) : Below base w0 w := by
  obtain ⟨⟨tn, M, X, Y, hb⟩, h2, h3⟩ := h
  exact hb.bl
theorem PI.pair {w0 w : World} {base PB WB RB N c0 i : Nat} {v : Value} {L : List O3} (h : PI w0 w base PB WB RB N c0 i v L) : w.heap[PB]? = some (.cells #[Pw WB, Pw RB] 36 (0, 0)) := by
  obtain ⟨⟨tn, M, X, Y, hb⟩, h2, h3⟩ := h
  exact Bg.pair hb
theorem PI.row {w0 w : World} {base PB WB RB N c0 i : Nat} {v : Value} {L : List O3} (h : PI w0 w base PB WB RB N c0 i v L) : S10.Row w base 2 v L.length (lcs L) := by
  obtain ⟨⟨tn, M, X, Y, hb⟩, h2, h3⟩ := h
  exact Bg.row hb
theorem PI.next {w0 w : World} {base PB WB RB N c0 i : Nat} {v : Value} {L : List O3} (h : PI w0 w base PB WB RB N c0 i v L) : PI w0 w base PB WB RB N c0 (i + 1) v L := by
  obtain ⟨⟨tn, M, X, Y, hb⟩, h2, h3⟩ := h
  exact ⟨⟨tn, M, X, Y, hb.mono (Nat.le_refl _) (by omega) (Nat.le_refl _)⟩, h2, by omega⟩
theorem PI.store {w0 w : World} {base PB WB RB N c0 i : Nat} {v : Value} {L : List O3} (h : PI w0 w base PB WB RB N c0 i v L) {a u : Nat} (ha : a < 4294967296) (hv : u < 18446744073709551616) (hc : c0 + 2 * i ≤ 2099999) :
    Calls Tryz.prog 11 #[.agg #[Pw WB, Pw RB], .agg #[.int .u32 a, .int .u64 u]] w fun e w' => e = .returned (.tuple #[]) ∧ PI w0 w' base PB WB RB N c0 (i + 1) v L := by
  obtain ⟨⟨tn, M, X, Y, hb⟩, h2, h3⟩ := h
  refine (pair_storeS hb ha hv (by omega)).mono ?_
  rintro e w' ⟨rfl, X', Y', h'⟩
  exact ⟨rfl, ⟨tn, _, X', Y', h'⟩, h2, by omega⟩
theorem PI.unpark {w0 w : World} {base PB WB RB N c0 i : Nat} {v : Value} {L : List O3} (h : PI w0 w base PB WB RB N c0 i v L) (hc : c0 + 2 * i ≤ 2099999) (n : Int) :
    Calls Tryz.prog 12 #[.agg #[Pw WB, Pw RB], .int .i64 n] w fun e w' => e = .returned (.tuple #[]) ∧ PI w0 w' base PB WB RB N c0 (i + 1) v L := by
  obtain ⟨⟨tn, M, X, Y, hb⟩, h2, h3⟩ := h
  refine (pair_unpark hb (by omega) n).mono ?_
  rintro e w' ⟨rfl, tn', M', X', Y', h'⟩
  exact ⟨rfl, ⟨tn', M', X', Y', h'.mono (Nat.le_refl _) (by omega) (Nat.le_refl _)⟩, h2, by omega⟩
theorem PI.same {w0 w : World} {base PB WB RB N c0 i : Nat} {v : Value} {L : List O3} (h : PI w0 w base PB WB RB N c0 i v L) (hc : c0 + 2 * i ≤ 2099999) :
    Calls Tryz.prog 15 #[.agg #[Pw WB, Pw RB]] w fun e w' => e = .returned (.bool true) ∧ PI w0 w' base PB WB RB N c0 i v L := by
  obtain ⟨⟨tn, M, X, Y, hb⟩, h2, h3⟩ := h
  refine (pair_same hb (by omega)).mono ?_
  rintro e w' ⟨rfl, b⟩
  exact ⟨rfl, ⟨tn, M, X, Y, hb.new b⟩, h2, h3⟩
theorem PI.all {w0 w : World} {base PB WB RB N c0 i : Nat} {v : Value} {L : List O3} (h : PI w0 w base PB WB RB N c0 i v L) (hc : c0 + 2 * i ≤ 2099999) (hN : N ≤ 100000) :
    Calls Tryz.prog 16 #[.agg #[Pw WB, Pw RB]] w fun e w' => e = .returned (.bool true) ∧ Below base w0 w' := by
  obtain ⟨⟨tn, M, X, Y, hb⟩, h2, h3⟩ := h
  refine (pair_all hb (by omega) hN).mono ?_
  rintro e w' ⟨rfl, b⟩
  exact ⟨rfl, hb.bl.trans (b.mono hb.pr.size)⟩
theorem PI.start {w0 w : World} {base WB RB N c0 tn : Nat} {M : Sd} {X : Wm} {Y : Rm} (h : Bg w0 w base WB RB N c0 tn M M [] X Y) : PI w0 (w.alloc (.cells #[Pw WB, Pw RB] 36)) base w.heap.size WB RB N c0 0 (.slice none 0 0) [] := by
  have h1 := h.push (blockP w.heap.size (.cells #[Pw WB, Pw RB] 36)) (below1 w _) (heap_alloc_new w _) (fun k e => Nat.le_of_eq (show k = w.heap.size from e).symm)
  have h2 := h1.push (rowP base 2 (.slice none 0 0) 0 []) (Below.refl _ _) (S10.row_nil _ base 2) (fun k e => by cases e)
  exact ⟨⟨tn, M, X, Y, h2⟩, (fun o ho => by cases ho), Nat.le_refl _⟩
def CF (PB WB RB Q B C : Nat) (K : Lk) (w : World) : Prop :=
  w.heap[Q]? = some (.cells #[Pw B, Pw C] 50 (0, 0)) ∧ w.heap[PB]? = some (.cells #[Pw WB, Pw RB] 36 (0, 0)) ∧ w.heap[C]? = some (.cells K.rs 58 (0, 0))
theorem Mid.new {w0 w w' : World} {base WB RB : Nat} {M : Sd} {K : Lk} {E : List Part} {X : Wm} {Y : Rm} (h : Mid w0 w base WB RB M K E X Y) (b : Below w.heap.size w w') : Mid w0 w' base WB RB M K E X Y := ⟨h.rg.new b, h.wB, h.xm⟩
theorem Mid.blk {w0 w : World} {base WB RB : Nat} {M : Sd} {K : Lk} {E : List Part} {X : Wm} {Y : Rm} (h : Mid w0 w base WB RB M K E X Y) {j q : Nat} {ob : Obj} (hj : E[j]? = some (blockP q ob)) : w.heap[q]? = some ob := h.rg.ps.ok _ (blockP q ob) (h.rg.part hj)
theorem Bg.blk {w0 w : World} {base WB RB N cn tn : Nat} {M : Sd} {E : List Part} {X : Wm} {Y : Rm} (h : Bg w0 w base WB RB N cn tn M M E X Y) {j q : Nat} {ob : Obj} (hj : E[j]? = some (blockP q ob)) : w.heap[q]? = some ob := (bg_rg h).ps.ok _ (blockP q ob) ((bg_rg h).part hj)
theorem set_len {α : Type} (l : List α) (i j : Nat) (q : α) (h : i ≠ j) : (l.set i q)[j]? = l[j]? := List.getElem?_set_ne h
theorem PI.step {w0 w : World} {base PB WB RB N c0 i : Nat} {v : Value} {L : List O3} (h : PI w0 w base PB WB RB N c0 i v L) (hc : c0 + 2 * i ≤ 2099999) {j B C : Nat} {K : Lk} (hj : L[j]? = some (B, C, K)) :
    Calls Tryz.prog 13 #[Pw C, Pw RB] (w.alloc (.cells #[Pw B, Pw C] 50)) fun e w6 => e = .returned (.tuple #[]) ∧ ∃ K', CF PB WB RB w.heap.size B C K' w6 ∧
      (Calls Tryz.prog 14 #[Pw B, Pw WB] w6.drew fun e w7 => e = .returned (.bool (decide (K'.ln = 0))) ∧ CF PB WB RB w.heap.size B C K' w7 ∧
        (Calls Tryz.prog 10 #[.agg #[Pw B, Pw C]] w7 fun e w8 => e = .returned (.bool true) ∧ Below w7.heap.size w7 w8 ∧ ∃ L', PI w0 w8 base PB WB RB N c0 (i + 1) v L')) := by
  obtain ⟨⟨tn, M, X, Y, hb⟩, h2, h3⟩ := h
  have hk : KOk K := h2 _ (List.mem_of_getElem? hj)
  have o := bg_ok hb
  obtain ⟨g1, g2, _, _⟩ := lparts_get L j _ hj
  have l1 := (List.getElem?_eq_some_iff.1 g1).1
  have l2 := (List.getElem?_eq_some_iff.1 g2).1
  have hp2 : (pre PB WB RB base v L).length = 2 := rfl
  have hb5 := hb.push (blockP w.heap.size (.cells #[Pw B, Pw C] 50)) (below1 w _) (heap_alloc_new w _) (fun k e => Nat.le_of_eq (show k = w.heap.size from e).symm)
  rw [List.append_assoc] at hb5
  generalize w.heap.size = Q at *
  have e1 : (pre PB WB RB base v L ++ (lparts L ++ [blockP Q (.cells #[Pw B, Pw C] 50)]))[(pre PB WB RB base v L).length + (2 * j + 1)]? = some (lockRP C K) := by rw [get_mid, List.getElem?_append_left l2]; exact g2
  have e0 : (pre PB WB RB base v L ++ (lparts L ++ [blockP Q (.cells #[Pw B, Pw C] 50)]))[(pre PB WB RB base v L).length + 2 * j]? = some (lockP B K) := by rw [get_mid, List.getElem?_append_left l1]; exact g1
  have eQ : (pre PB WB RB base v L ++ (lparts L ++ [blockP Q (.cells #[Pw B, Pw C] 50)]))[(pre PB WB RB base v L).length + (lparts L).length]? = some (blockP Q (.cells #[Pw B, Pw C] 50)) := by rw [get_mid, List.getElem?_append_right (Nat.le_refl _), Nat.sub_self]; rfl
  have eP : (pre PB WB RB base v L ++ (lparts L ++ [blockP Q (.cells #[Pw B, Pw C] 50)]))[0]? = some (blockP PB (.cells #[Pw WB, Pw RB] 36)) := rfl
  have hset := pre_set (K := stepK M K) (pre PB WB RB base v L) [blockP Q (.cells #[Pw B, Pw C] 50)] hj rfl
  have hlk := bg_look hb
  rw [hp2] at e1 e0 eQ hset
  generalize hE : pre PB WB RB base v L ++ (lparts L ++ [blockP Q (.cells #[Pw B, Pw C] 50)]) = E at *
  have hc2 : c0 + 2 * i ≤ 100000000 := by omega
  have okk := hk.ok o hc2
  refine (bg_rstep hb5 e1 okk hk.ln).mono ?_
  rintro e w6 ⟨rfl, Y', hm⟩
  have f1 : (E.set (2 + (2 * j + 1)) (lockRP C (stepK M K)))[2 + (2 * j + 1)]? = some (lockRP C (stepK M K)) := List.getElem?_set_self (List.getElem?_eq_some_iff.1 e1).1
  have f0 : (E.set (2 + (2 * j + 1)) (lockRP C (stepK M K)))[2 + 2 * j]? = some (lockP B K) := (set_len _ _ _ _ (by omega)).trans e0
  have fQ : (E.set (2 + (2 * j + 1)) (lockRP C (stepK M K)))[2 + (lparts L).length]? = some (blockP Q (.cells #[Pw B, Pw C] 50)) := (set_len _ _ _ _ (by omega)).trans eQ
  have fP : (E.set (2 + (2 * j + 1)) (lockRP C (stepK M K)))[0]? = some (blockP PB (.cells #[Pw WB, Pw RB] 36)) := (set_len _ _ _ _ (by omega)).trans eP
  refine ⟨rfl, stepK M K, ⟨hm.blk fQ, hm.blk fP, hm.blk f1⟩, ?_⟩
  refine (mid_step (hm.new (Below.refl _ _).drew) o f0 okk hk.ln).mono ?_
  rintro e w7 ⟨rfl, tn', X', hbg⟩
  have k1 := Bg.blk hbg (j := 2 + (2 * j + 1)) ((set_len _ _ _ _ (by omega)).trans f1)
  have k0 := Bg.blk hbg (j := 2 + 2 * j) (List.getElem?_set_self (List.getElem?_eq_some_iff.1 f0).1)
  have kQ := Bg.blk hbg (j := 2 + (lparts L).length) ((set_len _ _ _ _ (by omega)).trans fQ)
  have kP := Bg.blk hbg (j := 0) ((set_len _ _ _ _ (by omega)).trans fP)
  have hk' := hk.step o hc2 hlk
  refine ⟨rfl, ⟨kQ, kP, k1⟩, ?_⟩
  refine (op_same k0 k1 hk'.ln).mono ?_
  rintro e w8 ⟨rfl, b8⟩
  rw [hset] at hbg
  have hls := (lparts_set L j _ (stepK M K) hj).2
  have hll : (L.set j (B, C, stepK M K)).length = L.length := List.length_set
  have hpre : pre PB WB RB base v (L.set j (B, C, stepK M K)) = pre PB WB RB base v L := by unfold pre; rw [hll, hls]
  rw [← List.append_assoc] at hbg
  refine ⟨rfl, b8, L.set j (B, C, stepK M K), ⟨⟨tn', stepM M K, X', Y', ?_⟩, fun q hq => ?_, by rw [hll]; omega⟩⟩
  · rw [hpre]
    exact ((bg_drop1 hbg).new b8).mono (Nat.le_refl _) (by omega) (Nat.le_refl _)
  · rcases List.mem_or_eq_of_mem_set hq with h | h
    · exact h2 _ h
    · rw [h]; exact hk'
theorem CF.c {PB WB RB Q B C : Nat} {K : Lk} {w : World} (h : CF PB WB RB Q B C K w) : w.cell? ⟨Q, 0, none⟩ = some (Pw B) ∧ w.cell? ⟨Q, 1, none⟩ = some (Pw C) ∧ w.cell? ⟨PB, 0, none⟩ = some (Pw WB) ∧ w.cell? ⟨C, 0, none⟩ = some (.int .i64 (K.ln : Int)) :=
  ⟨cell_row h.1 0, cell_row h.1 1, cell_row h.2.1 0, cell_row h.2.2 0⟩
theorem PI.at {w0 w : World} {base PB WB RB N c0 i n : Nat} {A : Option Addr} {cap : Nat} {L : List O3} (h : PI w0 w base PB WB RB N c0 i (.slice A n cap) L) (hn : n = L.length) {j : Nat} (hj : j < L.length) : ∃ g o B C K, A = some ⟨g, o, none⟩ ∧ L[j]? = some (B, C, K) ∧ w.cell? ⟨g, o + j * 2, none⟩ = some (Pw B) ∧ w.cell? ⟨g, o + j * 2 + 1, none⟩ = some (Pw C) := by
  subst hn
  obtain ⟨A', cap', e, h0, h1, h2, h3, h4⟩ := h.row
  cases e
  cases A with
  | none => have := h3 rfl; omega
  | some ad =>
    obtain ⟨g, o, rfl, _, _, hl, _⟩ := h4 _ rfl
    have hg := List.getElem?_eq_getElem hj
    obtain ⟨_, _, p3, p4⟩ := lparts_get L j _ hg
    refine ⟨g, o, L[j].1, L[j].2.1, L[j].2.2, rfl, hg, hl _ _ p3, ?_⟩
    have := hl _ _ p4
    rwa [← Nat.add_assoc] at this
theorem idx_facts (i2 n : Nat) (hi : i2 < 256) (hn : ¬ n = 0) : ∃ j : Nat, j < n ∧ ((n : Int) == 0) = false ∧ (n : Int) ≠ 0 ∧ ((i2 : Int) % (n : Int)) = (j : Int) ∧ (i2 : Int).tmod (n : Int) = (j : Int) ∧ wrap64 (i2 : Int) = (i2 : Int) ∧ IntKind.i64.wrap (i2 : Int) = (i2 : Int) ∧ wrap64 (j : Int) = (j : Int) ∧ (j : Int) < (n : Int) := by
  have hj : i2 % n < n := Nat.mod_lt _ (by omega)
  have hj2 : i2 % n ≤ i2 := Nat.mod_le _ _
  have e1 : ((i2 : Int) % (n : Int)) = ((i2 % n : Nat) : Int) := (Int.natCast_emod i2 n).symm
  have e2 : (i2 : Int).tmod (n : Int) = ((i2 % n : Nat) : Int) := by rw [Int.tmod_eq_emod_of_nonneg (by omega)]; exact e1
  generalize i2 % n = j at *
  refine ⟨j, hj, by rw [beq_eq_false_iff_ne]; omega, by omega, e1, e2, by clear e1 e2; unfold wrap64; omega, by clear e1 e2; rw [IntKind.wrap_i64]; omega, by clear e1 e2; unfold wrap64; omega, by clear e1 e2; omega⟩
abbrev actO (y : Ap) : Obj := .cells #[.int .u8 (y.k : Int), .int .u8 (y.i : Int), .int .i64 y.t, .int .u32 (y.a : Int), .int .u32 (y.sa : Int), .int .u64 (y.sv : Int), .int .i64 y.p] 44
end Go.Proofs.YtlflagjnlclffaaGreat.S13
namespace Go.Proofs.YtlflagjnlclffaaGreat.S13
open Go.Proofs.YtlflagjnlclffaaGreat Go.Proofs.YtlflagjnlclffaaGreat.S11 Go.Proofs.YtlflagjnlclffaaGreat.S12
open Go.RowKit

theorem Parts.cut {w : World} {base : Nat} {l r : List Part} {q : Part} (h : Parts w base (l ++ (q :: r))) : Parts w base (l ++ r) := by
  have g : ∀ i p, (l ++ r)[i]? = some p → (l ++ (q :: r))[if i < l.length then i else i + 1]? = some p := fun i p hp => by
    by_cases hi : i < l.length
    · rw [if_pos hi, List.getElem?_append_left hi]; rwa [List.getElem?_append_left hi] at hp
    · rw [if_neg hi, List.getElem?_append_right (by omega)]
      rw [List.getElem?_append_right (by omega)] at hp
      rw [show i + 1 - l.length = (i - l.length) + 1 by omega, List.getElem?_cons_succ]; exact hp
  refine ⟨h.size, fun i p hp => h.ok _ p (g i p hp), fun i j p q hp hq hij => h.apart _ _ p q (g i p hp) (g j q hq) ?_, fun i p hp => h.low _ p (g i p hp)⟩
  split <;> split <;> omega
def NB (w0 w4 : World) (base WB RB N cn : Nat) (E made : List Part) (W : World) : Prop := (∃ tn M X Y, Bg w0 W base WB RB N cn tn M M (E ++ made) X Y) ∧ Below w4.heap.size w4 W
section
variable {w0 w4 W W' : World} {base WB RB N cn : Nat} {E made : List Part}
theorem NB.new (h : NB w0 w4 base WB RB N cn E made W) (b : Below W.heap.size W W') : NB w0 w4 base WB RB N cn E made W' := by
  obtain ⟨⟨tn, M, X, Y, hb⟩, h2⟩ := h
  exact ⟨⟨tn, M, X, Y, hb.new b⟩, h2.trans (b.mono h2.size)⟩
theorem NB.drew (h : NB w0 w4 base WB RB N cn E made W) : NB w0 w4 base WB RB N cn E made W.drew := h.new (Below.refl _ _).drew
theorem NB.push (h : NB w0 w4 base WB RB N cn E made W) (ob : Obj) : NB w0 w4 base WB RB N cn E (made ++ [blockP W.heap.size ob]) (W.alloc ob) := by
  obtain ⟨⟨tn, M, X, Y, hb⟩, h2⟩ := h
  have := hb.push (blockP W.heap.size ob) (below1 W _) (heap_alloc_new W _) (fun k e => Nat.le_of_eq (show k = W.heap.size from e).symm)
  rw [List.append_assoc] at this
  exact ⟨⟨tn, M, X, Y, this⟩, h2.alloc h2.size _⟩
theorem NB.blk (h : NB w0 w4 base WB RB N cn E made W) {k q : Nat} {ob : Obj} (hk : made[k]? = some (blockP q ob)) : W.heap[q]? = some ob := by
  obtain ⟨⟨tn, M, X, Y, hb⟩, _⟩ := h
  exact Bg.blk hb (j := E.length + k) (by rw [get_mid]; exact hk)
theorem NB.turn (h : NB w0 w4 base WB RB N cn E made W) {k q : Nat} {ob : Obj} (hk : made[k]? = some (blockP q ob)) (ob' : Obj) (hq : W'.heap[q]? = some ob') (t : Turns (fun k => k = q) W W') (hle : w4.heap.size ≤ q) : NB w0 w4 base WB RB N cn E (made.set k (blockP q ob')) W' := by
  obtain ⟨⟨tn, M, X, Y, hb⟩, h2⟩ := h
  have hi : (X.parts ++ (Y.parts ++ (E ++ made)))[X.parts.length + (Y.parts.length + (E.length + k))]? = some (blockP q ob) := by rw [get_mid, get_mid, get_mid]; exact hk
  obtain ⟨hp, hbl⟩ := Parts.turn hb.pr hi (blockP q ob') hq t (fun k e => .inl e)
  rw [set_mid, set_mid, set_mid] at hp
  exact ⟨⟨tn, M, X, Y, { hb with pr := hp, rb := Nat.le_trans hb.rb t.size, bl := hb.bl.trans hbl }⟩, ⟨t.os.trans h2.os, t.tape.trans h2.tape, t.output.trans h2.output, Nat.le_trans h2.size t.size, fun k hk => (t.block k (by have := h2.size; omega) (by omega)).trans (h2.block k hk)⟩⟩
theorem NB.cut {l r : List Part} {q : Part} (h : NB w0 w4 base WB RB N cn E (l ++ (q :: r)) W) : NB w0 w4 base WB RB N cn E (l ++ r) W := by
  obtain ⟨⟨tn, M, X, Y, hb⟩, h2⟩ := h
  have hp := hb.pr
  unfold PairAt at hp
  have e : X.parts ++ (Y.parts ++ (E ++ (l ++ (q :: r)))) = (X.parts ++ (Y.parts ++ (E ++ l))) ++ (q :: r) := by simp [List.append_assoc]
  rw [e] at hp
  have hp2 := Parts.cut hp
  have e2 : (X.parts ++ (Y.parts ++ (E ++ l))) ++ r = X.parts ++ (Y.parts ++ (E ++ (l ++ r))) := by simp [List.append_assoc]
  rw [e2] at hp2
  exact ⟨⟨tn, M, X, Y, { hb with pr := hp2 }⟩, h2⟩
theorem NB.newB (h : NB w0 w4 base WB RB N cn E made W) (t : Int) (a : Nat) : Calls Tryz.prog 8 #[.int .i64 t, .int .u32 (a : Int)] W fun e w' => ∃ B, e = .returned (Pw B) ∧ NB w0 w4 base WB RB N cn E (made ++ [lockP B (newK t a)]) w' := by
  refine (new_lock t a W).mono ?_
  rintro e w' ⟨rfl, rfl⟩
  exact ⟨_, rfl, h.push _⟩
theorem NB.newC (h : NB w0 w4 base WB RB N cn E made W) (t : Int) (a : Nat) : Calls Tryz.prog 9 #[.int .i64 t, .int .u32 (a : Int)] W fun e w' => ∃ C, e = .returned (Pw C) ∧ NB w0 w4 base WB RB N cn E (made ++ [lockRP C (newK t a)]) w' := by
  refine (rnew_lock t a W).mono ?_
  rintro e w' ⟨rfl, rfl⟩
  exact ⟨_, rfl, h.push _⟩
theorem NB.put2 (h : NB w0 w4 base WB RB N cn E made W) {k q T : Nat} {x y : Value} (hk : made[k]? = some (blockP q (.cells #[x, y] T))) (hle : w4.heap.size ≤ q) (u v : Value) : NB w0 w4 base WB RB N cn E (made.set k (blockP q (.cells #[u, v] T))) ((W.setCell ⟨q, 0, none⟩ u).setCell ⟨q, 1, none⟩ v) :=
  h.turn hk _ (set_blk (set_blk (h.blk hk) 0 u _ rfl) 1 v _ (by simp)) (((Turns.refl (fun k => k = q) W).setCell ⟨q, 0, none⟩ _ rfl).setCell ⟨q, 1, none⟩ _ rfl) hle
end
theorem layOp : S10.Lay 38 50 2 16 (.agg #[.pointer none, .pointer none]) := ⟨Tryz.underlying38, S10.info_of (by kernel_rfl), rfl, by decide, by decide⟩
theorem rd_two (w : World) (u v : Value) (T : TypeId) : S10.Rd (w.alloc (.cells #[u, v] T)) (w.heap.size + 1) (some ⟨w.heap.size, 0, none⟩) [u, v] := fun _ => by
  refine ⟨w.heap.size, 0, rfl, by omega, fun j x e => ?_⟩
  have hnew := heap_alloc_new w (.cells #[u, v] T)
  rw [cell_row hnew, Nat.zero_add]
  simpa using e
theorem lcs_one (L : List O3) : ∀ u ∈ lcs L, u.oneCell' = true := fun u hu => by
  simp only [lcs, List.mem_flatMap] at hu
  obtain ⟨o, _, hu⟩ := hu
  simp at hu
  rcases hu with rfl | rfl <;> rfl
theorem NB.fin {w0 w4 W V : World} {base PB WB RB N c0 i : Nat} {v v' : Value} {L : List O3} {B C : Nat} {K : Lk} (h : NB w0 w4 base WB RB N (c0 + 2 * i) (pre PB WB RB base v L ++ lparts L) [lockP B K, lockRP C K] W) (hk : KOk K) (hks : ∀ o ∈ L, KOk o.2.2) (hL : L.length ≤ i)
    (hr : S10.Row V base 2 v' (L.length + 1) (lcs L ++ [Pw B, Pw C])) (t : S10.Turns (fun k => v.ownBlock = some k) W V) (ho : v'.ownBlock = v.ownBlock ∨ v'.ownBlock = some W.heap.size) : PI w0 V base PB WB RB N c0 (i + 1) v' (L ++ [(B, C, K)]) := by
  obtain ⟨⟨tn, M, X, Y, hb⟩, h2⟩ := h
  rw [List.append_assoc] at hb
  have hr2 : S10.Row V base 2 v' (L ++ [(B, C, K)]).length (lcs (L ++ [(B, C, K)])) := by rw [lcs_snoc, List.length_append]; exact hr
  have hb2 := bg_row hb hr2 t ho
  refine ⟨⟨tn, M, X, Y, ?_⟩, fun o ho => ?_, by rw [List.length_append]; simp; omega⟩
  · rw [lparts_snoc]
    exact hb2.mono (Nat.le_refl _) (by omega) (Nat.le_refl _)
  · rcases List.mem_append.1 ho with h | h
    · exact hks _ h
    · simp at h; rw [h]; exact hk
end Go.Proofs.YtlflagjnlclffaaGreat.S13
namespace Go.Proofs.YtlflagjnlclffaaGreat.S13
open Go.Proofs.YtlflagjnlclffaaGreat Go.Proofs.YtlflagjnlclffaaGreat.S11 Go.Proofs.YtlflagjnlclffaaGreat.S12
open Go.RowKit

set_option maxRecDepth 100000 in
set_option maxHeartbeats 8000000 in
theorem law_play {w : World} {sp : Int} {mo dc sn sc gn gc qn qc tk an ac dn : Nat} {dA sA gA qA aA : Option Addr} {F : Nat → Ap}
    (hbegin : ∀ W, Below w.heap.size w W → Calls Tryz.prog 7 #[.agg #[.int .i64 sp, .int .u64 (mo : Int), .slice dA dn dc, .slice sA sn sc, .slice gA gn gc, .slice qA qn qc, .int .u64 (tk : Int)]] W fun e w' => ∃ N c0 tn M X Y, e = .returned (.agg #[Pw X.wB, Pw Y.wB]) ∧ Bg W w' W.heap.size X.wB Y.wB N c0 tn M M [] X Y ∧ c0 ≤ 2097164 ∧ N ≤ 100000)
    (hai : ApIn w w.heap.size aA an F) (han : an ≤ 9223372036854775807) :
    Calls Tryz.prog 3 #[.agg #[.int .i64 sp, .int .u64 (mo : Int), .slice dA dn dc, .slice sA sn sc, .slice gA gn gc, .slice qA qn qc, .int .u64 (tk : Int)], .slice aA an ac] w fun e w' => e = .returned (.bool true) ∧ Below w.heap.size w w' := by
  have hb1 := below1 w (.cells #[.int .i64 sp, .int .u64 (mo : Int), .slice dA dn dc, .slice sA sn sc, .slice gA gn gc, .slice qA qn qc, .int .u64 (tk : Int)] 30)
  have h0 := heap_alloc_new w (.cells #[.int .i64 sp, .int .u64 (mo : Int), .slice dA dn dc, .slice sA sn sc, .slice gA gn gc, .slice qA qn qc, .int .u64 (tk : Int)] 30)
  have c0 := cell_row h0 0; have c1 := cell_row h0 1; have c2 := cell_row h0 2; have c3 := cell_row h0 3; have c4 := cell_row h0 4; have c5 := cell_row h0 5; have c6 := cell_row h0 6
  obtain ⟨B0, hB0⟩ : ∃ B0, B0 = w.heap.size := ⟨_, rfl⟩
  rw [← hB0] at c0 c1 c2 c3 c4 c5 c6
  simp only [List.getElem?_toArray, List.getElem?_cons_zero, List.getElem?_cons_succ] at c0 c1 c2 c3 c4 c5 c6
  have HB1 := Lib.hid hb1; have HB0 := Lib.hid hB0
  have HLV : Hid (∀ W, Calls Tryz.prog 6 #[] W fun e w' => e = .returned (.bool true) ∧ Below W.heap.size W w') := Lib.hid lives_any
  by_cases hbig : an ≤ 200
  · have HBG := Lib.hid (hbegin _ hb1)
    have d3 : decide ((200 : Int) < (an : Int)) = false := by simp; omega
    have HAI := Lib.hid hai
    have HAN := Lib.hid hbig
    clear hbegin hb1 h0 hB0 hai han hbig
    go_enter Tryz.func3, Tryz.ntmps3
    go_upto_region 3 with (fail)
    rw [← HB0.out]
    generalize w.alloc (.cells #[.int .i64 sp, .int .u64 (mo : Int), .slice dA dn dc, .slice sA sn sc, .slice gA gn gc, .slice qA qn qc, .int .u64 (tk : Int)] 30) = w1 at *
    go_upto_region 4 with (go_at_call 7; refine HBG.out.mono ?_; rintro e w2 ⟨N, k0, tn, M, X, Y, rfl, hbg, hk0, hN⟩)
    have hpi := PI.start hbg
    obtain ⟨WB, hWB⟩ : ∃ WB, WB = X.wB := ⟨_, rfl⟩
    obtain ⟨RB, hRB⟩ : ∃ RB, RB = Y.wB := ⟨_, rfl⟩
    rw [← hWB, ← hRB] at hpi ⊢
    have HPI := Lib.hid hpi
    have HK0 := Lib.hid (And.intro hk0 hN)
    clear hbg hk0 hN hpi hWB hRB HBG c0 c1 c2 c3 c4 c5 c6
    generalize w2.alloc (.cells #[Pw WB, Pw RB] 36) = w3 at *
    generalize w2.heap.size = PB at *
    go_wp2_with fail
    go_loopg [6, 7] an (fun q s6 s7 wx => ∃ (i : Nat) (L : List O3), i ≤ an ∧ q = an - i ∧ s7 = .int .i64 (i : Int) ∧ PI w1 wx w1.heap.size PB WB RB N k0 i s6 L)
    case atStart => exact ⟨0, [], by omega, rfl, rfl, HPI.out⟩
    case round =>
      obtain ⟨i, L, hi1, rfl, rfl, hpi⟩ := hrel
      by_cases hin : i < an
      · obtain ⟨lb, lo, haa, hlb, hac⟩ := HAI.out (by omega)
        obtain ⟨hok, hac2⟩ := hac i hin
        have hlv := fun j => ((HB1.out.trans (hpi.bl.mono HB1.out.size)).cell (p := ⟨lb, j, none⟩) hlb)
        clear hac
        subst haa
        generalize F i = y at *
        obtain ⟨k, i2, t, a, sa, sv, p⟩ := y
        have r0 : wr.cell? ⟨lb, lo + i * 7, none⟩ = some (.int .u8 (k : Int)) := (hlv _).trans (hac2 0 _ rfl)
        have r1 : wr.cell? ⟨lb, lo + i * 7 + 1, none⟩ = some (.int .u8 (i2 : Int)) := (hlv _).trans (hac2 1 _ rfl)
        have r2 : wr.cell? ⟨lb, lo + i * 7 + 2, none⟩ = some (.int .i64 t) := (hlv _).trans (hac2 2 _ rfl)
        have r3 : wr.cell? ⟨lb, lo + i * 7 + 3, none⟩ = some (.int .u32 (a : Int)) := (hlv _).trans (hac2 3 _ rfl)
        have r4 : wr.cell? ⟨lb, lo + i * 7 + 4, none⟩ = some (.int .u32 (sa : Int)) := (hlv _).trans (hac2 4 _ rfl)
        have r5 : wr.cell? ⟨lb, lo + i * 7 + 5, none⟩ = some (.int .u64 (sv : Int)) := (hlv _).trans (hac2 5 _ rfl)
        have r6 : wr.cell? ⟨lb, lo + i * 7 + 6, none⟩ = some (.int .i64 p) := (hlv _).trans (hac2 6 _ rfl)
        have hi5 : (i : Int) < (an : Int) := by omega
        have HP := Lib.hid hpi; have HOK := Lib.hid hok; have HIN := Lib.hid hin
        clear hpi hok hac2 hlv hlb hin hi1
        go_upto_region 9 with (fail)
        have hq8 := heap_alloc_new wr (actO ⟨k, i2, t, a, sa, sv, p⟩)
        have h8 := HP.out.new (below1 wr (actO ⟨k, i2, t, a, sa, sv, p⟩))
        have H8 := Lib.hid h8; have HQ8 := Lib.hid hq8
        clear r0 r1 r2 r3 r4 r5 r6 hq8 h8 HP
        generalize wr.alloc (actO ⟨k, i2, t, a, sa, sv, p⟩) = w4 at *
        generalize wr.heap.size = B8 at *
        have x0 := cell_row HQ8.out 0; have x1 := cell_row HQ8.out 1; have x2 := cell_row HQ8.out 2; have x3 := cell_row HQ8.out 3; have x4 := cell_row HQ8.out 4; have x5 := cell_row HQ8.out 5; have x6 := cell_row HQ8.out 6
        simp only [List.getElem?_toArray, List.getElem?_cons_zero, List.getElem?_cons_succ] at x0 x1 x2 x3 x4 x5 x6
        go_upto_block 2 with fail
        obtain ⟨m, hm12, hm⟩ : ∃ m : Nat, m < 12 ∧ (k : Int) % 12 = (m : Int) := ⟨k % 12, Nat.mod_lt _ (by omega), by omega⟩
        rw [hm]
        have HM := Lib.hid hm12
        have HC1 : Hid (k0 + 2 * i ≤ 2099999) := Lib.hid (by have := HK0.out; have := HAN.out; have := HIN.out; omega)
        clear x0 hm hm12
        go_cut [6, 9, 10] from 17 to 96 (fun s6 s9 s10 wx => ∃ L', PI w1 wx w1.heap.size PB WB RB N k0 (i + 1) s6 L')
        case first =>
          have hpr := H8.out.pair
          have q0 := cell_row hpr 0; have q1 := cell_row hpr 1
          simp only [List.getElem?_toArray, List.getElem?_cons_zero, List.getElem?_cons_succ] at q0 q1
          clear hpr
          rcases (show m = 0 ∨ m = 1 ∨ m = 2 ∨ m = 3 ∨ 4 ≤ m by omega) with rfl | rfl | rfl | rfl | h4
          · have HN0 : Hid (NB w1 w4 w1.heap.size WB RB N (k0 + 2 * i) (pre PB WB RB w1.heap.size u6 L ++ lparts L) [] w4) := Lib.hid ⟨by
              obtain ⟨⟨tn, M, X, Y, hb⟩, _, _⟩ := H8.out
              exact ⟨tn, M, X, Y, by rw [List.append_nil]; exact hb⟩, Below.refl _ _⟩
            have HC : Hid (∀ W, Below w4.heap.size w4 W → (fun w' => w'.cell? ⟨B8, 2, none⟩ = some (.int .i64 t) ∧ w'.cell? ⟨B8, 3, none⟩ = some (.int .u32 (a : Int))) W) := Lib.hid (fun W b => ⟨bcell b x2, bcell b x3⟩)
            have HROW := Lib.hid H8.out.row; have HKS := Lib.hid H8.out.ok; have HLE := Lib.hid H8.out.le; have HWS := Lib.hid H8.out.bl.size
            have HKN := Lib.hid (kok_new t a HOK.out.a)
            clear H8 HQ8 x1 x2 x3 x4 x5 x6 q0 q1
            go_upto_region 17 with (fail)
            refine wp_region_held_drew (S := fun w' => w'.cell? ⟨B8, 2, none⟩ = some (.int .i64 t) ∧ w'.cell? ⟨B8, 3, none⟩ = some (.int .u32 (a : Int))) (by kernel_rfl) ?_ (fun hHeld => ?_)
            · exact HC.out _ (Below.refl _ _).drew
            refine wpAnyH_take (i := 0) (oi := ({ dst := some 67, op := Op.fieldAddr 44 (Operand.tmp 8) 2, type := 0, pos := "law.go:46", after := #[], guard := none } : Oper)) (v := ?vpx1) rfl (by kernel_rfl) (by kernel_rfl) (by kernel_rfl) (fun _ _ _ h => h) (Or.inl ⟨by rfl, fun w hSw => ?hypx1⟩) (by assumption) ?rpx1
            case hypx1 => (try dsimp only at hSw); go_simp; (try with_reducible rfl)
            (try simp only [Act.put, List.setIfInBounds_toArray, List.set_cons_zero, List.set_cons_succ])
            refine wpAnyH_take (i := 1) (oi := ({ dst := some 68, op := Op.load 3 (Operand.tmp 67), type := 3, pos := "law.go:46", after := #[{ on := 0, ground := Ground.data }], guard := none } : Oper)) (v := ?vpx2) rfl (by kernel_rfl) (by kernel_rfl) (by kernel_rfl) (fun _ _ _ h => h) (Or.inl ⟨by rfl, fun w hSw => ?hypx2⟩) (by assumption) ?rpx2
            case hypx2 => (try dsimp only at hSw); go_simp; (try with_reducible rfl)
            (try simp only [Act.put, List.setIfInBounds_toArray, List.set_cons_zero, List.set_cons_succ])
            refine wpAnyH_take (i := 2) (oi := ({ dst := some 69, op := Op.fieldAddr 44 (Operand.tmp 8) 3, type := 0, pos := "law.go:46", after := #[], guard := none } : Oper)) (v := ?vpx3) rfl (by kernel_rfl) (by kernel_rfl) (by kernel_rfl) (fun _ _ _ h => h) (Or.inl ⟨by rfl, fun w hSw => ?hypx3⟩) (by assumption) ?rpx3
            case hypx3 => (try dsimp only at hSw); go_simp; (try with_reducible rfl)
            (try simp only [Act.put, List.setIfInBounds_toArray, List.set_cons_zero, List.set_cons_succ])
            refine wpAnyH_take (i := 3) (oi := ({ dst := some 70, op := Op.load 40 (Operand.tmp 69), type := 40, pos := "law.go:46", after := #[{ on := 2, ground := Ground.data }], guard := none } : Oper)) (v := ?vpx4) rfl (by kernel_rfl) (by kernel_rfl) (by kernel_rfl) (fun _ _ _ h => h) (Or.inl ⟨by rfl, fun w hSw => ?hypx4⟩) (by assumption) ?rpx4
            case hypx4 => (try dsimp only at hSw); go_simp; (try with_reducible rfl)
            (try simp only [Act.put, List.setIfInBounds_toArray, List.set_cons_zero, List.set_cons_succ])
            refine wpAnyH_take (i := 5) (oi := ({ dst := some 72, op := Op.fieldAddr 44 (Operand.tmp 8) 2, type := 0, pos := "law.go:46", after := #[], guard := none } : Oper)) (v := ?vpx5) rfl (by kernel_rfl) (by kernel_rfl) (by kernel_rfl) (fun _ _ _ h => h) (Or.inl ⟨by rfl, fun w hSw => ?hypx5⟩) (by assumption) ?rpx5
            case hypx5 => (try dsimp only at hSw); go_simp; (try with_reducible rfl)
            (try simp only [Act.put, List.setIfInBounds_toArray, List.set_cons_zero, List.set_cons_succ])
            refine wpAnyH_take (i := 6) (oi := ({ dst := some 73, op := Op.load 3 (Operand.tmp 72), type := 3, pos := "law.go:46", after := #[{ on := 5, ground := Ground.data }], guard := none } : Oper)) (v := ?vpx6) rfl (by kernel_rfl) (by kernel_rfl) (by kernel_rfl) (fun _ _ _ h => h) (Or.inl ⟨by rfl, fun w hSw => ?hypx6⟩) (by assumption) ?rpx6
            case hypx6 => (try dsimp only at hSw); go_simp; (try with_reducible rfl)
            (try simp only [Act.put, List.setIfInBounds_toArray, List.set_cons_zero, List.set_cons_succ])
            refine wpAnyH_take (i := 7) (oi := ({ dst := some 74, op := Op.fieldAddr 44 (Operand.tmp 8) 3, type := 0, pos := "law.go:46", after := #[], guard := none } : Oper)) (v := ?vpx7) rfl (by kernel_rfl) (by kernel_rfl) (by kernel_rfl) (fun _ _ _ h => h) (Or.inl ⟨by rfl, fun w hSw => ?hypx7⟩) (by assumption) ?rpx7
            case hypx7 => (try dsimp only at hSw); go_simp; (try with_reducible rfl)
            (try simp only [Act.put, List.setIfInBounds_toArray, List.set_cons_zero, List.set_cons_succ])
            refine wpAnyH_take (i := 8) (oi := ({ dst := some 75, op := Op.load 40 (Operand.tmp 74), type := 40, pos := "law.go:46", after := #[{ on := 7, ground := Ground.data }], guard := none } : Oper)) (v := ?vpx8) rfl (by kernel_rfl) (by kernel_rfl) (by kernel_rfl) (fun _ _ _ h => h) (Or.inl ⟨by rfl, fun w hSw => ?hypx8⟩) (by assumption) ?rpx8
            case hypx8 => (try dsimp only at hSw); go_simp; (try with_reducible rfl)
            (try simp only [Act.put, List.setIfInBounds_toArray, List.set_cons_zero, List.set_cons_succ])
            refine wpAnyH_ready (rs := [4, 11]) (by kernel_rfl) (by simp) ?_
            refine AllReadyH.cons (o := ({ dst := some 71, op := Op.call { callee := Callee.value (Operand.func 8), args := #[Operand.tmp 68, Operand.tmp 70], argTypes := #[3, 40] }, type := 45, pos := "law.go:46", after := #[{ on := 1, ground := Ground.data }, { on := 3, ground := Ground.data }], guard := none } : Oper)) rfl (fun Kq hKq => ?_) ?_
            · go_simp
              (refine (NB.newB (HN0.out.drew) t a).mono ?_; rintro e v1 ⟨B, rfl, hn1⟩)
              have HM1 : Hid (NB w1 w4 w1.heap.size WB RB N (k0 + 2 * i) (pre PB WB RB w1.heap.size u6 L ++ lparts L) [lockP B (newK t a)] v1) := Lib.hid hn1
              clear hn1
              refine hKq.out _ _ ?_ (fun hHeld => ?_)
              · exact HC.out _ HM1.out.2
              clear hKq Kq
              (try simp only [Act.put, List.setIfInBounds_toArray, List.set_cons_zero, List.set_cons_succ])
              refine wpAnyH_ready (rs := [9, 11]) (by kernel_rfl) (by simp) ?_
              refine AllReadyH.cons (o := ({ dst := some 76, op := Op.call { callee := Callee.value (Operand.func 9), args := #[Operand.tmp 73, Operand.tmp 75], argTypes := #[3, 40] }, type := 47, pos := "law.go:46", after := #[{ on := 6, ground := Ground.data }, { on := 8, ground := Ground.data }, { on := 4, ground := Ground.chain }], guard := none } : Oper)) rfl (fun Kq hKq => ?_) ?_
              · go_simp
                (refine (NB.newC (HM1.out) t a).mono ?_; rintro e v2 ⟨C, rfl, hn2⟩)
                have HM2 : Hid (NB w1 w4 w1.heap.size WB RB N (k0 + 2 * i) (pre PB WB RB w1.heap.size u6 L ++ lparts L) [lockP B (newK t a), lockRP C (newK t a)] v2) := Lib.hid hn2
                clear hn2
                refine hKq.out _ _ ?_ (fun hHeld => ?_)
                · exact HC.out _ HM2.out.2
                clear hKq Kq
                (try simp only [Act.put, List.setIfInBounds_toArray, List.set_cons_zero, List.set_cons_succ])
                refine wpAnyH_take (i := 10) (oi := ({ dst := some 77, op := Op.build 50 #[(0, Operand.tmp 71), (1, Operand.tmp 76)], type := 50, pos := "law.go:46", after := #[{ on := 4, ground := Ground.data }, { on := 9, ground := Ground.data }], guard := none } : Oper)) (v := ?vpx9) rfl (by kernel_rfl) (by kernel_rfl) (by kernel_rfl) (fun _ _ _ h => h) (Or.inl ⟨by rfl, fun w hSw => ?hypx9⟩) (by assumption) ?rpx9
                case hypx9 => (try dsimp only at hSw); go_simp; (try with_reducible rfl)
                (try simp only [Act.put, List.setIfInBounds_toArray, List.set_cons_zero, List.set_cons_succ])
                refine wpAnyH_ready (rs := [11]) (by kernel_rfl) (by simp) ?_
                refine AllReadyH.cons (o := ({ dst := some 9, op := Op.alloc 50, type := 0, pos := "law.go:46", after := #[], guard := none } : Oper)) rfl (fun Kq hKq => ?_) AllReadyH.nil
                go_simp
                have HM3 : Hid (NB w1 w4 w1.heap.size WB RB N (k0 + 2 * i) (pre PB WB RB w1.heap.size u6 L ++ lparts L) [lockP B (newK t a), lockRP C (newK t a), blockP v2.heap.size (.cells #[.pointer none, .pointer none] 50)] (v2.alloc (.cells #[.pointer none, .pointer none] 50))) := Lib.hid (NB.push HM2.out (.cells #[.pointer none, .pointer none] 50))
                generalize (v2.alloc (.cells #[.pointer none, .pointer none] 50)) = v3 at *
                refine hKq.out _ _ ?_ (fun hHeld => ?_)
                · exact HC.out _ HM3.out.2
                clear hKq Kq
                (try simp only [Act.put, List.setIfInBounds_toArray, List.set_cons_zero, List.set_cons_succ])
                refine wpAnyH_ready (rs := [12]) (by kernel_rfl) (by simp) ?_
                refine AllReadyH.cons (o := ({ dst := none, op := Op.store 50 (Operand.tmp 9) (Operand.tmp 77), type := 0, pos := "law.go:46", after := #[{ on := 11, ground := Ground.data }, { on := 10, ground := Ground.data }, { on := 9, ground := Ground.chain }, { on := 0, ground := Ground.phase }, { on := 1, ground := Ground.phase }, { on := 2, ground := Ground.phase }, { on := 3, ground := Ground.phase }, { on := 4, ground := Ground.phase }, { on := 5, ground := Ground.phase }, { on := 6, ground := Ground.phase }, { on := 7, ground := Ground.phase }, { on := 8, ground := Ground.phase }, { on := 9, ground := Ground.phase }, { on := 10, ground := Ground.phase }, { on := 11, ground := Ground.phase }], guard := none } : Oper)) rfl (fun Kq hKq => ?_) AllReadyH.nil
                have hq := NB.blk HM3.out (k := 2) rfl
                have z0 := cell_row hq 0; have z1 := cell_row hq 1; have f0 := froz_row hq 0; have f1 := froz_row hq 1
                simp only [List.getElem?_toArray, List.getElem?_cons_zero, List.getElem?_cons_succ] at z0 z1
                go_simp
                have HM4 : Hid (NB w1 w4 w1.heap.size WB RB N (k0 + 2 * i) (pre PB WB RB w1.heap.size u6 L ++ lparts L) [lockP B (newK t a), lockRP C (newK t a), blockP v2.heap.size (.cells #[Pw B, Pw C] 50)] ((v3.setCell ⟨v2.heap.size, 0, none⟩ (Pw B)).setCell ⟨v2.heap.size, 1, none⟩ (Pw C))) := Lib.hid (NB.put2 HM3.out (k := 2) rfl HM2.out.2.size (Pw B) (Pw C))
                clear hq z0 z1 f0 f1
                generalize ((v3.setCell ⟨v2.heap.size, 0, none⟩ (Pw B)).setCell ⟨v2.heap.size, 1, none⟩ (Pw C)) = v4 at *
                refine hKq.out _ _ ?_ (fun hHeld => ?_)
                · exact HC.out _ HM4.out.2
                clear hKq Kq
                (try simp only [Act.put, List.setIfInBounds_toArray, List.set_cons_zero, List.set_cons_succ])
                refine wpAnyH_done (by kernel_rfl) ?_ _
                clear hHeld
                have hq := NB.blk HM4.out (k := 2) rfl
                have z0 := cell_row hq 0; have z1 := cell_row hq 1
                simp only [List.getElem?_toArray, List.getElem?_cons_zero, List.getElem?_cons_succ] at z0 z1
                have hB : LkAt v4 B (newK t a) := NB.blk HM4.out (k := 0) rfl
                have hC : v4.heap[C]? = some (.cells (newK t a).rs 58 (0, 0)) := NB.blk HM4.out (k := 1) rfl
                have HS9 := Lib.hid (op_same hB hC HKN.out.ln)
                have HNC : Hid (NB w1 w4 w1.heap.size WB RB N (k0 + 2 * i) (pre PB WB RB w1.heap.size u6 L ++ lparts L) [lockP B (newK t a), lockRP C (newK t a)] v4) := Lib.hid (NB.cut (l := [lockP B (newK t a), lockRP C (newK t a)]) (r := []) HM4.out)
                clear hq hB hC
                go_upto_region 20 with (go_at_call 10; refine HS9.out.mono ?_; rintro e vs ⟨rfl, hbs⟩)
                have z0 := bcell hbs z0; have z1 := bcell hbs z1
                have HNS : Hid (NB w1 w4 w1.heap.size WB RB N (k0 + 2 * i) (pre PB WB RB w1.heap.size u6 L ++ lparts L) [lockP B (newK t a), lockRP C (newK t a)] vs) := Lib.hid (HNC.out.new hbs)
                have HRV := Lib.hid (HROW.out.new HNS.out.2)
                clear hbs HS9
                go_wp2_with (at_builtin; refine S10.wpList_append_row layOp rfl _ _ rfl rfl (HRV.out.alloc _) (lcs_one L) (by have := HWS.out; have := HNS.out.2.size; simp; omega) 1 rfl (rd_two vs (Pw B) (Pw C) 50) rfl (fun u hu => by simp at hu; rcases hu with rfl | rfl <;> rfl) (by have := HLE.out; have := HIN.out; have := HAN.out; omega) ?_; intro vv wv hr2 ht2 ho2; (have HR2 := Lib.hid hr2); (have HT2 := Lib.hid ht2); (have HO2 := Lib.hid ho2); (clear hr2 ht2 ho2))
                go_meet
                exact ⟨L ++ [(B, C, (newK t a))], NB.fin (HNS.out.new (below1 _ _)) HKN.out HKS.out HLE.out HR2.out HT2.out HO2.out⟩
              refine AllReadyH.cons (o := ({ dst := some 9, op := Op.alloc 50, type := 0, pos := "law.go:46", after := #[], guard := none } : Oper)) rfl (fun Kq hKq => ?_) AllReadyH.nil
              go_simp
              have HM2 : Hid (NB w1 w4 w1.heap.size WB RB N (k0 + 2 * i) (pre PB WB RB w1.heap.size u6 L ++ lparts L) [lockP B (newK t a), blockP v1.heap.size (.cells #[.pointer none, .pointer none] 50)] (v1.alloc (.cells #[.pointer none, .pointer none] 50))) := Lib.hid (NB.push HM1.out (.cells #[.pointer none, .pointer none] 50))
              generalize (v1.alloc (.cells #[.pointer none, .pointer none] 50)) = v2 at *
              refine hKq.out _ _ ?_ (fun hHeld => ?_)
              · exact HC.out _ HM2.out.2
              clear hKq Kq
              (try simp only [Act.put, List.setIfInBounds_toArray, List.set_cons_zero, List.set_cons_succ])
              refine wpAnyH_ready (rs := [9]) (by kernel_rfl) (by simp) ?_
              refine AllReadyH.cons (o := ({ dst := some 76, op := Op.call { callee := Callee.value (Operand.func 9), args := #[Operand.tmp 73, Operand.tmp 75], argTypes := #[3, 40] }, type := 47, pos := "law.go:46", after := #[{ on := 6, ground := Ground.data }, { on := 8, ground := Ground.data }, { on := 4, ground := Ground.chain }], guard := none } : Oper)) rfl (fun Kq hKq => ?_) AllReadyH.nil
              go_simp
              (refine (NB.newC (HM2.out) t a).mono ?_; rintro e v3 ⟨C, rfl, hn3⟩)
              have HM3 : Hid (NB w1 w4 w1.heap.size WB RB N (k0 + 2 * i) (pre PB WB RB w1.heap.size u6 L ++ lparts L) [lockP B (newK t a), blockP v1.heap.size (.cells #[.pointer none, .pointer none] 50), lockRP C (newK t a)] v3) := Lib.hid hn3
              clear hn3
              refine hKq.out _ _ ?_ (fun hHeld => ?_)
              · exact HC.out _ HM3.out.2
              clear hKq Kq
              (try simp only [Act.put, List.setIfInBounds_toArray, List.set_cons_zero, List.set_cons_succ])
              refine wpAnyH_take (i := 10) (oi := ({ dst := some 77, op := Op.build 50 #[(0, Operand.tmp 71), (1, Operand.tmp 76)], type := 50, pos := "law.go:46", after := #[{ on := 4, ground := Ground.data }, { on := 9, ground := Ground.data }], guard := none } : Oper)) (v := ?vpx10) rfl (by kernel_rfl) (by kernel_rfl) (by kernel_rfl) (fun _ _ _ h => h) (Or.inl ⟨by rfl, fun w hSw => ?hypx10⟩) (by assumption) ?rpx10
              case hypx10 => (try dsimp only at hSw); go_simp; (try with_reducible rfl)
              (try simp only [Act.put, List.setIfInBounds_toArray, List.set_cons_zero, List.set_cons_succ])
              refine wpAnyH_ready (rs := [12]) (by kernel_rfl) (by simp) ?_
              refine AllReadyH.cons (o := ({ dst := none, op := Op.store 50 (Operand.tmp 9) (Operand.tmp 77), type := 0, pos := "law.go:46", after := #[{ on := 11, ground := Ground.data }, { on := 10, ground := Ground.data }, { on := 9, ground := Ground.chain }, { on := 0, ground := Ground.phase }, { on := 1, ground := Ground.phase }, { on := 2, ground := Ground.phase }, { on := 3, ground := Ground.phase }, { on := 4, ground := Ground.phase }, { on := 5, ground := Ground.phase }, { on := 6, ground := Ground.phase }, { on := 7, ground := Ground.phase }, { on := 8, ground := Ground.phase }, { on := 9, ground := Ground.phase }, { on := 10, ground := Ground.phase }, { on := 11, ground := Ground.phase }], guard := none } : Oper)) rfl (fun Kq hKq => ?_) AllReadyH.nil
              have hq := NB.blk HM3.out (k := 1) rfl
              have z0 := cell_row hq 0; have z1 := cell_row hq 1; have f0 := froz_row hq 0; have f1 := froz_row hq 1
              simp only [List.getElem?_toArray, List.getElem?_cons_zero, List.getElem?_cons_succ] at z0 z1
              go_simp
              have HM4 : Hid (NB w1 w4 w1.heap.size WB RB N (k0 + 2 * i) (pre PB WB RB w1.heap.size u6 L ++ lparts L) [lockP B (newK t a), blockP v1.heap.size (.cells #[Pw B, Pw C] 50), lockRP C (newK t a)] ((v3.setCell ⟨v1.heap.size, 0, none⟩ (Pw B)).setCell ⟨v1.heap.size, 1, none⟩ (Pw C))) := Lib.hid (NB.put2 HM3.out (k := 1) rfl HM1.out.2.size (Pw B) (Pw C))
              clear hq z0 z1 f0 f1
              generalize ((v3.setCell ⟨v1.heap.size, 0, none⟩ (Pw B)).setCell ⟨v1.heap.size, 1, none⟩ (Pw C)) = v4 at *
              refine hKq.out _ _ ?_ (fun hHeld => ?_)
              · exact HC.out _ HM4.out.2
              clear hKq Kq
              (try simp only [Act.put, List.setIfInBounds_toArray, List.set_cons_zero, List.set_cons_succ])
              refine wpAnyH_done (by kernel_rfl) ?_ _
              clear hHeld
              have hq := NB.blk HM4.out (k := 1) rfl
              have z0 := cell_row hq 0; have z1 := cell_row hq 1
              simp only [List.getElem?_toArray, List.getElem?_cons_zero, List.getElem?_cons_succ] at z0 z1
              have hB : LkAt v4 B (newK t a) := NB.blk HM4.out (k := 0) rfl
              have hC : v4.heap[C]? = some (.cells (newK t a).rs 58 (0, 0)) := NB.blk HM4.out (k := 2) rfl
              have HS9 := Lib.hid (op_same hB hC HKN.out.ln)
              have HNC : Hid (NB w1 w4 w1.heap.size WB RB N (k0 + 2 * i) (pre PB WB RB w1.heap.size u6 L ++ lparts L) [lockP B (newK t a), lockRP C (newK t a)] v4) := Lib.hid (NB.cut (l := [lockP B (newK t a)]) (r := [lockRP C (newK t a)]) HM4.out)
              clear hq hB hC
              go_upto_region 20 with (go_at_call 10; refine HS9.out.mono ?_; rintro e vs ⟨rfl, hbs⟩)
              have z0 := bcell hbs z0; have z1 := bcell hbs z1
              have HNS : Hid (NB w1 w4 w1.heap.size WB RB N (k0 + 2 * i) (pre PB WB RB w1.heap.size u6 L ++ lparts L) [lockP B (newK t a), lockRP C (newK t a)] vs) := Lib.hid (HNC.out.new hbs)
              have HRV := Lib.hid (HROW.out.new HNS.out.2)
              clear hbs HS9
              go_wp2_with (at_builtin; refine S10.wpList_append_row layOp rfl _ _ rfl rfl (HRV.out.alloc _) (lcs_one L) (by have := HWS.out; have := HNS.out.2.size; simp; omega) 1 rfl (rd_two vs (Pw B) (Pw C) 50) rfl (fun u hu => by simp at hu; rcases hu with rfl | rfl <;> rfl) (by have := HLE.out; have := HIN.out; have := HAN.out; omega) ?_; intro vv wv hr2 ht2 ho2; (have HR2 := Lib.hid hr2); (have HT2 := Lib.hid ht2); (have HO2 := Lib.hid ho2); (clear hr2 ht2 ho2))
              go_meet
              exact ⟨L ++ [(B, C, (newK t a))], NB.fin (HNS.out.new (below1 _ _)) HKN.out HKS.out HLE.out HR2.out HT2.out HO2.out⟩
            refine AllReadyH.cons (o := ({ dst := some 9, op := Op.alloc 50, type := 0, pos := "law.go:46", after := #[], guard := none } : Oper)) rfl (fun Kq hKq => ?_) AllReadyH.nil
            go_simp
            have HM1 : Hid (NB w1 w4 w1.heap.size WB RB N (k0 + 2 * i) (pre PB WB RB w1.heap.size u6 L ++ lparts L) [blockP w4.heap.size (.cells #[.pointer none, .pointer none] 50)] (w4.alloc (.cells #[.pointer none, .pointer none] 50)).drew) := Lib.hid ((NB.push HN0.out (.cells #[.pointer none, .pointer none] 50)).drew)
            generalize (w4.alloc (.cells #[.pointer none, .pointer none] 50)).drew = v1 at *
            refine hKq.out _ _ ?_ (fun hHeld => ?_)
            · exact HC.out _ HM1.out.2
            clear hKq Kq
            (try simp only [Act.put, List.setIfInBounds_toArray, List.set_cons_zero, List.set_cons_succ])
            refine wpAnyH_ready (rs := [4]) (by kernel_rfl) (by simp) ?_
            refine AllReadyH.cons (o := ({ dst := some 71, op := Op.call { callee := Callee.value (Operand.func 8), args := #[Operand.tmp 68, Operand.tmp 70], argTypes := #[3, 40] }, type := 45, pos := "law.go:46", after := #[{ on := 1, ground := Ground.data }, { on := 3, ground := Ground.data }], guard := none } : Oper)) rfl (fun Kq hKq => ?_) AllReadyH.nil
            go_simp
            (refine (NB.newB (HM1.out) t a).mono ?_; rintro e v2 ⟨B, rfl, hn2⟩)
            have HM2 : Hid (NB w1 w4 w1.heap.size WB RB N (k0 + 2 * i) (pre PB WB RB w1.heap.size u6 L ++ lparts L) [blockP w4.heap.size (.cells #[.pointer none, .pointer none] 50), lockP B (newK t a)] v2) := Lib.hid hn2
            clear hn2
            refine hKq.out _ _ ?_ (fun hHeld => ?_)
            · exact HC.out _ HM2.out.2
            clear hKq Kq
            (try simp only [Act.put, List.setIfInBounds_toArray, List.set_cons_zero, List.set_cons_succ])
            refine wpAnyH_ready (rs := [9]) (by kernel_rfl) (by simp) ?_
            refine AllReadyH.cons (o := ({ dst := some 76, op := Op.call { callee := Callee.value (Operand.func 9), args := #[Operand.tmp 73, Operand.tmp 75], argTypes := #[3, 40] }, type := 47, pos := "law.go:46", after := #[{ on := 6, ground := Ground.data }, { on := 8, ground := Ground.data }, { on := 4, ground := Ground.chain }], guard := none } : Oper)) rfl (fun Kq hKq => ?_) AllReadyH.nil
            go_simp
            (refine (NB.newC (HM2.out) t a).mono ?_; rintro e v3 ⟨C, rfl, hn3⟩)
            have HM3 : Hid (NB w1 w4 w1.heap.size WB RB N (k0 + 2 * i) (pre PB WB RB w1.heap.size u6 L ++ lparts L) [blockP w4.heap.size (.cells #[.pointer none, .pointer none] 50), lockP B (newK t a), lockRP C (newK t a)] v3) := Lib.hid hn3
            clear hn3
            refine hKq.out _ _ ?_ (fun hHeld => ?_)
            · exact HC.out _ HM3.out.2
            clear hKq Kq
            (try simp only [Act.put, List.setIfInBounds_toArray, List.set_cons_zero, List.set_cons_succ])
            refine wpAnyH_take (i := 10) (oi := ({ dst := some 77, op := Op.build 50 #[(0, Operand.tmp 71), (1, Operand.tmp 76)], type := 50, pos := "law.go:46", after := #[{ on := 4, ground := Ground.data }, { on := 9, ground := Ground.data }], guard := none } : Oper)) (v := ?vpx11) rfl (by kernel_rfl) (by kernel_rfl) (by kernel_rfl) (fun _ _ _ h => h) (Or.inl ⟨by rfl, fun w hSw => ?hypx11⟩) (by assumption) ?rpx11
            case hypx11 => (try dsimp only at hSw); go_simp; (try with_reducible rfl)
            (try simp only [Act.put, List.setIfInBounds_toArray, List.set_cons_zero, List.set_cons_succ])
            refine wpAnyH_ready (rs := [12]) (by kernel_rfl) (by simp) ?_
            refine AllReadyH.cons (o := ({ dst := none, op := Op.store 50 (Operand.tmp 9) (Operand.tmp 77), type := 0, pos := "law.go:46", after := #[{ on := 11, ground := Ground.data }, { on := 10, ground := Ground.data }, { on := 9, ground := Ground.chain }, { on := 0, ground := Ground.phase }, { on := 1, ground := Ground.phase }, { on := 2, ground := Ground.phase }, { on := 3, ground := Ground.phase }, { on := 4, ground := Ground.phase }, { on := 5, ground := Ground.phase }, { on := 6, ground := Ground.phase }, { on := 7, ground := Ground.phase }, { on := 8, ground := Ground.phase }, { on := 9, ground := Ground.phase }, { on := 10, ground := Ground.phase }, { on := 11, ground := Ground.phase }], guard := none } : Oper)) rfl (fun Kq hKq => ?_) AllReadyH.nil
            have hq := NB.blk HM3.out (k := 0) rfl
            have z0 := cell_row hq 0; have z1 := cell_row hq 1; have f0 := froz_row hq 0; have f1 := froz_row hq 1
            simp only [List.getElem?_toArray, List.getElem?_cons_zero, List.getElem?_cons_succ] at z0 z1
            go_simp
            have HM4 : Hid (NB w1 w4 w1.heap.size WB RB N (k0 + 2 * i) (pre PB WB RB w1.heap.size u6 L ++ lparts L) [blockP w4.heap.size (.cells #[Pw B, Pw C] 50), lockP B (newK t a), lockRP C (newK t a)] ((v3.setCell ⟨w4.heap.size, 0, none⟩ (Pw B)).setCell ⟨w4.heap.size, 1, none⟩ (Pw C))) := Lib.hid (NB.put2 HM3.out (k := 0) rfl (Nat.le_refl _) (Pw B) (Pw C))
            clear hq z0 z1 f0 f1
            generalize ((v3.setCell ⟨w4.heap.size, 0, none⟩ (Pw B)).setCell ⟨w4.heap.size, 1, none⟩ (Pw C)) = v4 at *
            refine hKq.out _ _ ?_ (fun hHeld => ?_)
            · exact HC.out _ HM4.out.2
            clear hKq Kq
            (try simp only [Act.put, List.setIfInBounds_toArray, List.set_cons_zero, List.set_cons_succ])
            refine wpAnyH_done (by kernel_rfl) ?_ _
            clear hHeld
            have hq := NB.blk HM4.out (k := 0) rfl
            have z0 := cell_row hq 0; have z1 := cell_row hq 1
            simp only [List.getElem?_toArray, List.getElem?_cons_zero, List.getElem?_cons_succ] at z0 z1
            have hB : LkAt v4 B (newK t a) := NB.blk HM4.out (k := 1) rfl
            have hC : v4.heap[C]? = some (.cells (newK t a).rs 58 (0, 0)) := NB.blk HM4.out (k := 2) rfl
            have HS9 := Lib.hid (op_same hB hC HKN.out.ln)
            have HNC : Hid (NB w1 w4 w1.heap.size WB RB N (k0 + 2 * i) (pre PB WB RB w1.heap.size u6 L ++ lparts L) [lockP B (newK t a), lockRP C (newK t a)] v4) := Lib.hid (NB.cut (l := []) (r := [lockP B (newK t a), lockRP C (newK t a)]) HM4.out)
            clear hq hB hC
            go_upto_region 20 with (go_at_call 10; refine HS9.out.mono ?_; rintro e vs ⟨rfl, hbs⟩)
            have z0 := bcell hbs z0; have z1 := bcell hbs z1
            have HNS : Hid (NB w1 w4 w1.heap.size WB RB N (k0 + 2 * i) (pre PB WB RB w1.heap.size u6 L ++ lparts L) [lockP B (newK t a), lockRP C (newK t a)] vs) := Lib.hid (HNC.out.new hbs)
            have HRV := Lib.hid (HROW.out.new HNS.out.2)
            clear hbs HS9
            go_wp2_with (at_builtin; refine S10.wpList_append_row layOp rfl _ _ rfl rfl (HRV.out.alloc _) (lcs_one L) (by have := HWS.out; have := HNS.out.2.size; simp; omega) 1 rfl (rd_two vs (Pw B) (Pw C) 50) rfl (fun u hu => by simp at hu; rcases hu with rfl | rfl <;> rfl) (by have := HLE.out; have := HIN.out; have := HAN.out; omega) ?_; intro vv wv hr2 ht2 ho2; (have HR2 := Lib.hid hr2); (have HT2 := Lib.hid ht2); (have HO2 := Lib.hid ho2); (clear hr2 ht2 ho2))
            go_meet
            exact ⟨L ++ [(B, C, (newK t a))], NB.fin (HNS.out.new (below1 _ _)) HKN.out HKS.out HLE.out HR2.out HT2.out HO2.out⟩
          · have HN0 : Hid (NB w1 w4 w1.heap.size WB RB N (k0 + 2 * i) (pre PB WB RB w1.heap.size u6 L ++ lparts L) [] w4) := Lib.hid ⟨by
              obtain ⟨⟨tn, M, X, Y, hb⟩, _, _⟩ := H8.out
              exact ⟨tn, M, X, Y, by rw [List.append_nil]; exact hb⟩, Below.refl _ _⟩
            have HC : Hid (∀ W, Below w4.heap.size w4 W → (fun w' => w'.cell? ⟨B8, 2, none⟩ = some (.int .i64 t) ∧ w'.cell? ⟨B8, 3, none⟩ = some (.int .u32 (a : Int))) W) := Lib.hid (fun W b => ⟨bcell b x2, bcell b x3⟩)
            have HROW := Lib.hid H8.out.row; have HKS := Lib.hid H8.out.ok; have HLE := Lib.hid H8.out.le; have HWS := Lib.hid H8.out.bl.size
            have HKN := Lib.hid (kok_new t a HOK.out.a)
            clear H8 HQ8 x1 x2 x3 x4 x5 x6 q0 q1
            go_upto_region 17 with (fail)
            refine wp_region_held_drew (S := fun w' => w'.cell? ⟨B8, 2, none⟩ = some (.int .i64 t) ∧ w'.cell? ⟨B8, 3, none⟩ = some (.int .u32 (a : Int))) (by kernel_rfl) ?_ (fun hHeld => ?_)
            · exact HC.out _ (Below.refl _ _).drew
            refine wpAnyH_take (i := 0) (oi := ({ dst := some 67, op := Op.fieldAddr 44 (Operand.tmp 8) 2, type := 0, pos := "law.go:46", after := #[], guard := none } : Oper)) (v := ?vqx1) rfl (by kernel_rfl) (by kernel_rfl) (by kernel_rfl) (fun _ _ _ h => h) (Or.inl ⟨by rfl, fun w hSw => ?hyqx1⟩) (by assumption) ?rqx1
            case hyqx1 => (try dsimp only at hSw); go_simp; (try with_reducible rfl)
            (try simp only [Act.put, List.setIfInBounds_toArray, List.set_cons_zero, List.set_cons_succ])
            refine wpAnyH_take (i := 1) (oi := ({ dst := some 68, op := Op.load 3 (Operand.tmp 67), type := 3, pos := "law.go:46", after := #[{ on := 0, ground := Ground.data }], guard := none } : Oper)) (v := ?vqx2) rfl (by kernel_rfl) (by kernel_rfl) (by kernel_rfl) (fun _ _ _ h => h) (Or.inl ⟨by rfl, fun w hSw => ?hyqx2⟩) (by assumption) ?rqx2
            case hyqx2 => (try dsimp only at hSw); go_simp; (try with_reducible rfl)
            (try simp only [Act.put, List.setIfInBounds_toArray, List.set_cons_zero, List.set_cons_succ])
            refine wpAnyH_take (i := 2) (oi := ({ dst := some 69, op := Op.fieldAddr 44 (Operand.tmp 8) 3, type := 0, pos := "law.go:46", after := #[], guard := none } : Oper)) (v := ?vqx3) rfl (by kernel_rfl) (by kernel_rfl) (by kernel_rfl) (fun _ _ _ h => h) (Or.inl ⟨by rfl, fun w hSw => ?hyqx3⟩) (by assumption) ?rqx3
            case hyqx3 => (try dsimp only at hSw); go_simp; (try with_reducible rfl)
            (try simp only [Act.put, List.setIfInBounds_toArray, List.set_cons_zero, List.set_cons_succ])
            refine wpAnyH_take (i := 3) (oi := ({ dst := some 70, op := Op.load 40 (Operand.tmp 69), type := 40, pos := "law.go:46", after := #[{ on := 2, ground := Ground.data }], guard := none } : Oper)) (v := ?vqx4) rfl (by kernel_rfl) (by kernel_rfl) (by kernel_rfl) (fun _ _ _ h => h) (Or.inl ⟨by rfl, fun w hSw => ?hyqx4⟩) (by assumption) ?rqx4
            case hyqx4 => (try dsimp only at hSw); go_simp; (try with_reducible rfl)
            (try simp only [Act.put, List.setIfInBounds_toArray, List.set_cons_zero, List.set_cons_succ])
            refine wpAnyH_take (i := 5) (oi := ({ dst := some 72, op := Op.fieldAddr 44 (Operand.tmp 8) 2, type := 0, pos := "law.go:46", after := #[], guard := none } : Oper)) (v := ?vqx5) rfl (by kernel_rfl) (by kernel_rfl) (by kernel_rfl) (fun _ _ _ h => h) (Or.inl ⟨by rfl, fun w hSw => ?hyqx5⟩) (by assumption) ?rqx5
            case hyqx5 => (try dsimp only at hSw); go_simp; (try with_reducible rfl)
            (try simp only [Act.put, List.setIfInBounds_toArray, List.set_cons_zero, List.set_cons_succ])
            refine wpAnyH_take (i := 6) (oi := ({ dst := some 73, op := Op.load 3 (Operand.tmp 72), type := 3, pos := "law.go:46", after := #[{ on := 5, ground := Ground.data }], guard := none } : Oper)) (v := ?vqx6) rfl (by kernel_rfl) (by kernel_rfl) (by kernel_rfl) (fun _ _ _ h => h) (Or.inl ⟨by rfl, fun w hSw => ?hyqx6⟩) (by assumption) ?rqx6
            case hyqx6 => (try dsimp only at hSw); go_simp; (try with_reducible rfl)
            (try simp only [Act.put, List.setIfInBounds_toArray, List.set_cons_zero, List.set_cons_succ])
            refine wpAnyH_take (i := 7) (oi := ({ dst := some 74, op := Op.fieldAddr 44 (Operand.tmp 8) 3, type := 0, pos := "law.go:46", after := #[], guard := none } : Oper)) (v := ?vqx7) rfl (by kernel_rfl) (by kernel_rfl) (by kernel_rfl) (fun _ _ _ h => h) (Or.inl ⟨by rfl, fun w hSw => ?hyqx7⟩) (by assumption) ?rqx7
            case hyqx7 => (try dsimp only at hSw); go_simp; (try with_reducible rfl)
            (try simp only [Act.put, List.setIfInBounds_toArray, List.set_cons_zero, List.set_cons_succ])
            refine wpAnyH_take (i := 8) (oi := ({ dst := some 75, op := Op.load 40 (Operand.tmp 74), type := 40, pos := "law.go:46", after := #[{ on := 7, ground := Ground.data }], guard := none } : Oper)) (v := ?vqx8) rfl (by kernel_rfl) (by kernel_rfl) (by kernel_rfl) (fun _ _ _ h => h) (Or.inl ⟨by rfl, fun w hSw => ?hyqx8⟩) (by assumption) ?rqx8
            case hyqx8 => (try dsimp only at hSw); go_simp; (try with_reducible rfl)
            (try simp only [Act.put, List.setIfInBounds_toArray, List.set_cons_zero, List.set_cons_succ])
            refine wpAnyH_ready (rs := [4, 11]) (by kernel_rfl) (by simp) ?_
            refine AllReadyH.cons (o := ({ dst := some 71, op := Op.call { callee := Callee.value (Operand.func 8), args := #[Operand.tmp 68, Operand.tmp 70], argTypes := #[3, 40] }, type := 45, pos := "law.go:46", after := #[{ on := 1, ground := Ground.data }, { on := 3, ground := Ground.data }], guard := none } : Oper)) rfl (fun Kq hKq => ?_) ?_
            · go_simp
              (refine (NB.newB (HN0.out.drew) t a).mono ?_; rintro e v1 ⟨B, rfl, hn1⟩)
              have HM1 : Hid (NB w1 w4 w1.heap.size WB RB N (k0 + 2 * i) (pre PB WB RB w1.heap.size u6 L ++ lparts L) [lockP B (newK t a)] v1) := Lib.hid hn1
              clear hn1
              refine hKq.out _ _ ?_ (fun hHeld => ?_)
              · exact HC.out _ HM1.out.2
              clear hKq Kq
              (try simp only [Act.put, List.setIfInBounds_toArray, List.set_cons_zero, List.set_cons_succ])
              refine wpAnyH_ready (rs := [9, 11]) (by kernel_rfl) (by simp) ?_
              refine AllReadyH.cons (o := ({ dst := some 76, op := Op.call { callee := Callee.value (Operand.func 9), args := #[Operand.tmp 73, Operand.tmp 75], argTypes := #[3, 40] }, type := 47, pos := "law.go:46", after := #[{ on := 6, ground := Ground.data }, { on := 8, ground := Ground.data }, { on := 4, ground := Ground.chain }], guard := none } : Oper)) rfl (fun Kq hKq => ?_) ?_
              · go_simp
                (refine (NB.newC (HM1.out) t a).mono ?_; rintro e v2 ⟨C, rfl, hn2⟩)
                have HM2 : Hid (NB w1 w4 w1.heap.size WB RB N (k0 + 2 * i) (pre PB WB RB w1.heap.size u6 L ++ lparts L) [lockP B (newK t a), lockRP C (newK t a)] v2) := Lib.hid hn2
                clear hn2
                refine hKq.out _ _ ?_ (fun hHeld => ?_)
                · exact HC.out _ HM2.out.2
                clear hKq Kq
                (try simp only [Act.put, List.setIfInBounds_toArray, List.set_cons_zero, List.set_cons_succ])
                refine wpAnyH_take (i := 10) (oi := ({ dst := some 77, op := Op.build 50 #[(0, Operand.tmp 71), (1, Operand.tmp 76)], type := 50, pos := "law.go:46", after := #[{ on := 4, ground := Ground.data }, { on := 9, ground := Ground.data }], guard := none } : Oper)) (v := ?vqx9) rfl (by kernel_rfl) (by kernel_rfl) (by kernel_rfl) (fun _ _ _ h => h) (Or.inl ⟨by rfl, fun w hSw => ?hyqx9⟩) (by assumption) ?rqx9
                case hyqx9 => (try dsimp only at hSw); go_simp; (try with_reducible rfl)
                (try simp only [Act.put, List.setIfInBounds_toArray, List.set_cons_zero, List.set_cons_succ])
                refine wpAnyH_ready (rs := [11]) (by kernel_rfl) (by simp) ?_
                refine AllReadyH.cons (o := ({ dst := some 9, op := Op.alloc 50, type := 0, pos := "law.go:46", after := #[], guard := none } : Oper)) rfl (fun Kq hKq => ?_) AllReadyH.nil
                go_simp
                have HM3 : Hid (NB w1 w4 w1.heap.size WB RB N (k0 + 2 * i) (pre PB WB RB w1.heap.size u6 L ++ lparts L) [lockP B (newK t a), lockRP C (newK t a), blockP v2.heap.size (.cells #[.pointer none, .pointer none] 50)] (v2.alloc (.cells #[.pointer none, .pointer none] 50))) := Lib.hid (NB.push HM2.out (.cells #[.pointer none, .pointer none] 50))
                generalize (v2.alloc (.cells #[.pointer none, .pointer none] 50)) = v3 at *
                refine hKq.out _ _ ?_ (fun hHeld => ?_)
                · exact HC.out _ HM3.out.2
                clear hKq Kq
                (try simp only [Act.put, List.setIfInBounds_toArray, List.set_cons_zero, List.set_cons_succ])
                refine wpAnyH_ready (rs := [12]) (by kernel_rfl) (by simp) ?_
                refine AllReadyH.cons (o := ({ dst := none, op := Op.store 50 (Operand.tmp 9) (Operand.tmp 77), type := 0, pos := "law.go:46", after := #[{ on := 11, ground := Ground.data }, { on := 10, ground := Ground.data }, { on := 9, ground := Ground.chain }, { on := 0, ground := Ground.phase }, { on := 1, ground := Ground.phase }, { on := 2, ground := Ground.phase }, { on := 3, ground := Ground.phase }, { on := 4, ground := Ground.phase }, { on := 5, ground := Ground.phase }, { on := 6, ground := Ground.phase }, { on := 7, ground := Ground.phase }, { on := 8, ground := Ground.phase }, { on := 9, ground := Ground.phase }, { on := 10, ground := Ground.phase }, { on := 11, ground := Ground.phase }], guard := none } : Oper)) rfl (fun Kq hKq => ?_) AllReadyH.nil
                have hq := NB.blk HM3.out (k := 2) rfl
                have z0 := cell_row hq 0; have z1 := cell_row hq 1; have f0 := froz_row hq 0; have f1 := froz_row hq 1
                simp only [List.getElem?_toArray, List.getElem?_cons_zero, List.getElem?_cons_succ] at z0 z1
                go_simp
                have HM4 : Hid (NB w1 w4 w1.heap.size WB RB N (k0 + 2 * i) (pre PB WB RB w1.heap.size u6 L ++ lparts L) [lockP B (newK t a), lockRP C (newK t a), blockP v2.heap.size (.cells #[Pw B, Pw C] 50)] ((v3.setCell ⟨v2.heap.size, 0, none⟩ (Pw B)).setCell ⟨v2.heap.size, 1, none⟩ (Pw C))) := Lib.hid (NB.put2 HM3.out (k := 2) rfl HM2.out.2.size (Pw B) (Pw C))
                clear hq z0 z1 f0 f1
                generalize ((v3.setCell ⟨v2.heap.size, 0, none⟩ (Pw B)).setCell ⟨v2.heap.size, 1, none⟩ (Pw C)) = v4 at *
                refine hKq.out _ _ ?_ (fun hHeld => ?_)
                · exact HC.out _ HM4.out.2
                clear hKq Kq
                (try simp only [Act.put, List.setIfInBounds_toArray, List.set_cons_zero, List.set_cons_succ])
                refine wpAnyH_done (by kernel_rfl) ?_ _
                clear hHeld
                have hq := NB.blk HM4.out (k := 2) rfl
                have z0 := cell_row hq 0; have z1 := cell_row hq 1
                simp only [List.getElem?_toArray, List.getElem?_cons_zero, List.getElem?_cons_succ] at z0 z1
                have hB : LkAt v4 B (newK t a) := NB.blk HM4.out (k := 0) rfl
                have hC : v4.heap[C]? = some (.cells (newK t a).rs 58 (0, 0)) := NB.blk HM4.out (k := 1) rfl
                have HS9 := Lib.hid (op_same hB hC HKN.out.ln)
                have HNC : Hid (NB w1 w4 w1.heap.size WB RB N (k0 + 2 * i) (pre PB WB RB w1.heap.size u6 L ++ lparts L) [lockP B (newK t a), lockRP C (newK t a)] v4) := Lib.hid (NB.cut (l := [lockP B (newK t a), lockRP C (newK t a)]) (r := []) HM4.out)
                clear hq hB hC
                go_upto_region 20 with (go_at_call 10; refine HS9.out.mono ?_; rintro e vs ⟨rfl, hbs⟩)
                have z0 := bcell hbs z0; have z1 := bcell hbs z1
                have HNS : Hid (NB w1 w4 w1.heap.size WB RB N (k0 + 2 * i) (pre PB WB RB w1.heap.size u6 L ++ lparts L) [lockP B (newK t a), lockRP C (newK t a)] vs) := Lib.hid (HNC.out.new hbs)
                have HRV := Lib.hid (HROW.out.new HNS.out.2)
                clear hbs HS9
                go_wp2_with (at_builtin; refine S10.wpList_append_row layOp rfl _ _ rfl rfl (HRV.out.alloc _) (lcs_one L) (by have := HWS.out; have := HNS.out.2.size; simp; omega) 1 rfl (rd_two vs (Pw B) (Pw C) 50) rfl (fun u hu => by simp at hu; rcases hu with rfl | rfl <;> rfl) (by have := HLE.out; have := HIN.out; have := HAN.out; omega) ?_; intro vv wv hr2 ht2 ho2; (have HR2 := Lib.hid hr2); (have HT2 := Lib.hid ht2); (have HO2 := Lib.hid ho2); (clear hr2 ht2 ho2))
                go_meet
                exact ⟨L ++ [(B, C, (newK t a))], NB.fin (HNS.out.new (below1 _ _)) HKN.out HKS.out HLE.out HR2.out HT2.out HO2.out⟩
              refine AllReadyH.cons (o := ({ dst := some 9, op := Op.alloc 50, type := 0, pos := "law.go:46", after := #[], guard := none } : Oper)) rfl (fun Kq hKq => ?_) AllReadyH.nil
              go_simp
              have HM2 : Hid (NB w1 w4 w1.heap.size WB RB N (k0 + 2 * i) (pre PB WB RB w1.heap.size u6 L ++ lparts L) [lockP B (newK t a), blockP v1.heap.size (.cells #[.pointer none, .pointer none] 50)] (v1.alloc (.cells #[.pointer none, .pointer none] 50))) := Lib.hid (NB.push HM1.out (.cells #[.pointer none, .pointer none] 50))
              generalize (v1.alloc (.cells #[.pointer none, .pointer none] 50)) = v2 at *
              refine hKq.out _ _ ?_ (fun hHeld => ?_)
              · exact HC.out _ HM2.out.2
              clear hKq Kq
              (try simp only [Act.put, List.setIfInBounds_toArray, List.set_cons_zero, List.set_cons_succ])
              refine wpAnyH_ready (rs := [9]) (by kernel_rfl) (by simp) ?_
              refine AllReadyH.cons (o := ({ dst := some 76, op := Op.call { callee := Callee.value (Operand.func 9), args := #[Operand.tmp 73, Operand.tmp 75], argTypes := #[3, 40] }, type := 47, pos := "law.go:46", after := #[{ on := 6, ground := Ground.data }, { on := 8, ground := Ground.data }, { on := 4, ground := Ground.chain }], guard := none } : Oper)) rfl (fun Kq hKq => ?_) AllReadyH.nil
              go_simp
              (refine (NB.newC (HM2.out) t a).mono ?_; rintro e v3 ⟨C, rfl, hn3⟩)
              have HM3 : Hid (NB w1 w4 w1.heap.size WB RB N (k0 + 2 * i) (pre PB WB RB w1.heap.size u6 L ++ lparts L) [lockP B (newK t a), blockP v1.heap.size (.cells #[.pointer none, .pointer none] 50), lockRP C (newK t a)] v3) := Lib.hid hn3
              clear hn3
              refine hKq.out _ _ ?_ (fun hHeld => ?_)
              · exact HC.out _ HM3.out.2
              clear hKq Kq
              (try simp only [Act.put, List.setIfInBounds_toArray, List.set_cons_zero, List.set_cons_succ])
              refine wpAnyH_take (i := 10) (oi := ({ dst := some 77, op := Op.build 50 #[(0, Operand.tmp 71), (1, Operand.tmp 76)], type := 50, pos := "law.go:46", after := #[{ on := 4, ground := Ground.data }, { on := 9, ground := Ground.data }], guard := none } : Oper)) (v := ?vqx10) rfl (by kernel_rfl) (by kernel_rfl) (by kernel_rfl) (fun _ _ _ h => h) (Or.inl ⟨by rfl, fun w hSw => ?hyqx10⟩) (by assumption) ?rqx10
              case hyqx10 => (try dsimp only at hSw); go_simp; (try with_reducible rfl)
              (try simp only [Act.put, List.setIfInBounds_toArray, List.set_cons_zero, List.set_cons_succ])
              refine wpAnyH_ready (rs := [12]) (by kernel_rfl) (by simp) ?_
              refine AllReadyH.cons (o := ({ dst := none, op := Op.store 50 (Operand.tmp 9) (Operand.tmp 77), type := 0, pos := "law.go:46", after := #[{ on := 11, ground := Ground.data }, { on := 10, ground := Ground.data }, { on := 9, ground := Ground.chain }, { on := 0, ground := Ground.phase }, { on := 1, ground := Ground.phase }, { on := 2, ground := Ground.phase }, { on := 3, ground := Ground.phase }, { on := 4, ground := Ground.phase }, { on := 5, ground := Ground.phase }, { on := 6, ground := Ground.phase }, { on := 7, ground := Ground.phase }, { on := 8, ground := Ground.phase }, { on := 9, ground := Ground.phase }, { on := 10, ground := Ground.phase }, { on := 11, ground := Ground.phase }], guard := none } : Oper)) rfl (fun Kq hKq => ?_) AllReadyH.nil
              have hq := NB.blk HM3.out (k := 1) rfl
              have z0 := cell_row hq 0; have z1 := cell_row hq 1; have f0 := froz_row hq 0; have f1 := froz_row hq 1
              simp only [List.getElem?_toArray, List.getElem?_cons_zero, List.getElem?_cons_succ] at z0 z1
              go_simp
              have HM4 : Hid (NB w1 w4 w1.heap.size WB RB N (k0 + 2 * i) (pre PB WB RB w1.heap.size u6 L ++ lparts L) [lockP B (newK t a), blockP v1.heap.size (.cells #[Pw B, Pw C] 50), lockRP C (newK t a)] ((v3.setCell ⟨v1.heap.size, 0, none⟩ (Pw B)).setCell ⟨v1.heap.size, 1, none⟩ (Pw C))) := Lib.hid (NB.put2 HM3.out (k := 1) rfl HM1.out.2.size (Pw B) (Pw C))
              clear hq z0 z1 f0 f1
              generalize ((v3.setCell ⟨v1.heap.size, 0, none⟩ (Pw B)).setCell ⟨v1.heap.size, 1, none⟩ (Pw C)) = v4 at *
              refine hKq.out _ _ ?_ (fun hHeld => ?_)
              · exact HC.out _ HM4.out.2
              clear hKq Kq
              (try simp only [Act.put, List.setIfInBounds_toArray, List.set_cons_zero, List.set_cons_succ])
              refine wpAnyH_done (by kernel_rfl) ?_ _
              clear hHeld
              have hq := NB.blk HM4.out (k := 1) rfl
              have z0 := cell_row hq 0; have z1 := cell_row hq 1
              simp only [List.getElem?_toArray, List.getElem?_cons_zero, List.getElem?_cons_succ] at z0 z1
              have hB : LkAt v4 B (newK t a) := NB.blk HM4.out (k := 0) rfl
              have hC : v4.heap[C]? = some (.cells (newK t a).rs 58 (0, 0)) := NB.blk HM4.out (k := 2) rfl
              have HS9 := Lib.hid (op_same hB hC HKN.out.ln)
              have HNC : Hid (NB w1 w4 w1.heap.size WB RB N (k0 + 2 * i) (pre PB WB RB w1.heap.size u6 L ++ lparts L) [lockP B (newK t a), lockRP C (newK t a)] v4) := Lib.hid (NB.cut (l := [lockP B (newK t a)]) (r := [lockRP C (newK t a)]) HM4.out)
              clear hq hB hC
              go_upto_region 20 with (go_at_call 10; refine HS9.out.mono ?_; rintro e vs ⟨rfl, hbs⟩)
              have z0 := bcell hbs z0; have z1 := bcell hbs z1
              have HNS : Hid (NB w1 w4 w1.heap.size WB RB N (k0 + 2 * i) (pre PB WB RB w1.heap.size u6 L ++ lparts L) [lockP B (newK t a), lockRP C (newK t a)] vs) := Lib.hid (HNC.out.new hbs)
              have HRV := Lib.hid (HROW.out.new HNS.out.2)
              clear hbs HS9
              go_wp2_with (at_builtin; refine S10.wpList_append_row layOp rfl _ _ rfl rfl (HRV.out.alloc _) (lcs_one L) (by have := HWS.out; have := HNS.out.2.size; simp; omega) 1 rfl (rd_two vs (Pw B) (Pw C) 50) rfl (fun u hu => by simp at hu; rcases hu with rfl | rfl <;> rfl) (by have := HLE.out; have := HIN.out; have := HAN.out; omega) ?_; intro vv wv hr2 ht2 ho2; (have HR2 := Lib.hid hr2); (have HT2 := Lib.hid ht2); (have HO2 := Lib.hid ho2); (clear hr2 ht2 ho2))
              go_meet
              exact ⟨L ++ [(B, C, (newK t a))], NB.fin (HNS.out.new (below1 _ _)) HKN.out HKS.out HLE.out HR2.out HT2.out HO2.out⟩
            refine AllReadyH.cons (o := ({ dst := some 9, op := Op.alloc 50, type := 0, pos := "law.go:46", after := #[], guard := none } : Oper)) rfl (fun Kq hKq => ?_) AllReadyH.nil
            go_simp
            have HM1 : Hid (NB w1 w4 w1.heap.size WB RB N (k0 + 2 * i) (pre PB WB RB w1.heap.size u6 L ++ lparts L) [blockP w4.heap.size (.cells #[.pointer none, .pointer none] 50)] (w4.alloc (.cells #[.pointer none, .pointer none] 50)).drew) := Lib.hid ((NB.push HN0.out (.cells #[.pointer none, .pointer none] 50)).drew)
            generalize (w4.alloc (.cells #[.pointer none, .pointer none] 50)).drew = v1 at *
            refine hKq.out _ _ ?_ (fun hHeld => ?_)
            · exact HC.out _ HM1.out.2
            clear hKq Kq
            (try simp only [Act.put, List.setIfInBounds_toArray, List.set_cons_zero, List.set_cons_succ])
            refine wpAnyH_ready (rs := [4]) (by kernel_rfl) (by simp) ?_
            refine AllReadyH.cons (o := ({ dst := some 71, op := Op.call { callee := Callee.value (Operand.func 8), args := #[Operand.tmp 68, Operand.tmp 70], argTypes := #[3, 40] }, type := 45, pos := "law.go:46", after := #[{ on := 1, ground := Ground.data }, { on := 3, ground := Ground.data }], guard := none } : Oper)) rfl (fun Kq hKq => ?_) AllReadyH.nil
            go_simp
            (refine (NB.newB (HM1.out) t a).mono ?_; rintro e v2 ⟨B, rfl, hn2⟩)
            have HM2 : Hid (NB w1 w4 w1.heap.size WB RB N (k0 + 2 * i) (pre PB WB RB w1.heap.size u6 L ++ lparts L) [blockP w4.heap.size (.cells #[.pointer none, .pointer none] 50), lockP B (newK t a)] v2) := Lib.hid hn2
            clear hn2
            refine hKq.out _ _ ?_ (fun hHeld => ?_)
            · exact HC.out _ HM2.out.2
            clear hKq Kq
            (try simp only [Act.put, List.setIfInBounds_toArray, List.set_cons_zero, List.set_cons_succ])
            refine wpAnyH_ready (rs := [9]) (by kernel_rfl) (by simp) ?_
            refine AllReadyH.cons (o := ({ dst := some 76, op := Op.call { callee := Callee.value (Operand.func 9), args := #[Operand.tmp 73, Operand.tmp 75], argTypes := #[3, 40] }, type := 47, pos := "law.go:46", after := #[{ on := 6, ground := Ground.data }, { on := 8, ground := Ground.data }, { on := 4, ground := Ground.chain }], guard := none } : Oper)) rfl (fun Kq hKq => ?_) AllReadyH.nil
            go_simp
            (refine (NB.newC (HM2.out) t a).mono ?_; rintro e v3 ⟨C, rfl, hn3⟩)
            have HM3 : Hid (NB w1 w4 w1.heap.size WB RB N (k0 + 2 * i) (pre PB WB RB w1.heap.size u6 L ++ lparts L) [blockP w4.heap.size (.cells #[.pointer none, .pointer none] 50), lockP B (newK t a), lockRP C (newK t a)] v3) := Lib.hid hn3
            clear hn3
            refine hKq.out _ _ ?_ (fun hHeld => ?_)
            · exact HC.out _ HM3.out.2
            clear hKq Kq
            (try simp only [Act.put, List.setIfInBounds_toArray, List.set_cons_zero, List.set_cons_succ])
            refine wpAnyH_take (i := 10) (oi := ({ dst := some 77, op := Op.build 50 #[(0, Operand.tmp 71), (1, Operand.tmp 76)], type := 50, pos := "law.go:46", after := #[{ on := 4, ground := Ground.data }, { on := 9, ground := Ground.data }], guard := none } : Oper)) (v := ?vqx11) rfl (by kernel_rfl) (by kernel_rfl) (by kernel_rfl) (fun _ _ _ h => h) (Or.inl ⟨by rfl, fun w hSw => ?hyqx11⟩) (by assumption) ?rqx11
            case hyqx11 => (try dsimp only at hSw); go_simp; (try with_reducible rfl)
            (try simp only [Act.put, List.setIfInBounds_toArray, List.set_cons_zero, List.set_cons_succ])
            refine wpAnyH_ready (rs := [12]) (by kernel_rfl) (by simp) ?_
            refine AllReadyH.cons (o := ({ dst := none, op := Op.store 50 (Operand.tmp 9) (Operand.tmp 77), type := 0, pos := "law.go:46", after := #[{ on := 11, ground := Ground.data }, { on := 10, ground := Ground.data }, { on := 9, ground := Ground.chain }, { on := 0, ground := Ground.phase }, { on := 1, ground := Ground.phase }, { on := 2, ground := Ground.phase }, { on := 3, ground := Ground.phase }, { on := 4, ground := Ground.phase }, { on := 5, ground := Ground.phase }, { on := 6, ground := Ground.phase }, { on := 7, ground := Ground.phase }, { on := 8, ground := Ground.phase }, { on := 9, ground := Ground.phase }, { on := 10, ground := Ground.phase }, { on := 11, ground := Ground.phase }], guard := none } : Oper)) rfl (fun Kq hKq => ?_) AllReadyH.nil
            have hq := NB.blk HM3.out (k := 0) rfl
            have z0 := cell_row hq 0; have z1 := cell_row hq 1; have f0 := froz_row hq 0; have f1 := froz_row hq 1
            simp only [List.getElem?_toArray, List.getElem?_cons_zero, List.getElem?_cons_succ] at z0 z1
            go_simp
            have HM4 : Hid (NB w1 w4 w1.heap.size WB RB N (k0 + 2 * i) (pre PB WB RB w1.heap.size u6 L ++ lparts L) [blockP w4.heap.size (.cells #[Pw B, Pw C] 50), lockP B (newK t a), lockRP C (newK t a)] ((v3.setCell ⟨w4.heap.size, 0, none⟩ (Pw B)).setCell ⟨w4.heap.size, 1, none⟩ (Pw C))) := Lib.hid (NB.put2 HM3.out (k := 0) rfl (Nat.le_refl _) (Pw B) (Pw C))
            clear hq z0 z1 f0 f1
            generalize ((v3.setCell ⟨w4.heap.size, 0, none⟩ (Pw B)).setCell ⟨w4.heap.size, 1, none⟩ (Pw C)) = v4 at *
            refine hKq.out _ _ ?_ (fun hHeld => ?_)
            · exact HC.out _ HM4.out.2
            clear hKq Kq
            (try simp only [Act.put, List.setIfInBounds_toArray, List.set_cons_zero, List.set_cons_succ])
            refine wpAnyH_done (by kernel_rfl) ?_ _
            clear hHeld
            have hq := NB.blk HM4.out (k := 0) rfl
            have z0 := cell_row hq 0; have z1 := cell_row hq 1
            simp only [List.getElem?_toArray, List.getElem?_cons_zero, List.getElem?_cons_succ] at z0 z1
            have hB : LkAt v4 B (newK t a) := NB.blk HM4.out (k := 1) rfl
            have hC : v4.heap[C]? = some (.cells (newK t a).rs 58 (0, 0)) := NB.blk HM4.out (k := 2) rfl
            have HS9 := Lib.hid (op_same hB hC HKN.out.ln)
            have HNC : Hid (NB w1 w4 w1.heap.size WB RB N (k0 + 2 * i) (pre PB WB RB w1.heap.size u6 L ++ lparts L) [lockP B (newK t a), lockRP C (newK t a)] v4) := Lib.hid (NB.cut (l := []) (r := [lockP B (newK t a), lockRP C (newK t a)]) HM4.out)
            clear hq hB hC
            go_upto_region 20 with (go_at_call 10; refine HS9.out.mono ?_; rintro e vs ⟨rfl, hbs⟩)
            have z0 := bcell hbs z0; have z1 := bcell hbs z1
            have HNS : Hid (NB w1 w4 w1.heap.size WB RB N (k0 + 2 * i) (pre PB WB RB w1.heap.size u6 L ++ lparts L) [lockP B (newK t a), lockRP C (newK t a)] vs) := Lib.hid (HNC.out.new hbs)
            have HRV := Lib.hid (HROW.out.new HNS.out.2)
            clear hbs HS9
            go_wp2_with (at_builtin; refine S10.wpList_append_row layOp rfl _ _ rfl rfl (HRV.out.alloc _) (lcs_one L) (by have := HWS.out; have := HNS.out.2.size; simp; omega) 1 rfl (rd_two vs (Pw B) (Pw C) 50) rfl (fun u hu => by simp at hu; rcases hu with rfl | rfl <;> rfl) (by have := HLE.out; have := HIN.out; have := HAN.out; omega) ?_; intro vv wv hr2 ht2 ho2; (have HR2 := Lib.hid hr2); (have HT2 := Lib.hid ht2); (have HO2 := Lib.hid ho2); (clear hr2 ht2 ho2))
            go_meet
            exact ⟨L ++ [(B, C, (newK t a))], NB.fin (HNS.out.new (below1 _ _)) HKN.out HKS.out HLE.out HR2.out HT2.out HO2.out⟩
          · have HST := Lib.hid (H8.out.store HOK.out.sa HOK.out.sv HC1.out)
            go_wp2_with (go_at_call 11; refine HST.out.mono ?_; rintro e w5 ⟨rfl, h5⟩)
            go_meet
            exact ⟨L, h5⟩
          · have HUN := Lib.hid (H8.out.unpark HC1.out p)
            go_wp2_with (go_at_call 12; refine HUN.out.mono ?_; rintro e w5 ⟨rfl, h5⟩)
            go_meet
            exact ⟨L, h5⟩
          · have b0 : ((m : Int) == 0) = false := by rw [beq_eq_false_iff_ne]; omega
            have b1 : ((m : Int) == 1) = false := by rw [beq_eq_false_iff_ne]; omega
            have b2 : ((m : Int) == 2) = false := by rw [beq_eq_false_iff_ne]; omega
            have b3 : ((m : Int) == 3) = false := by rw [beq_eq_false_iff_ne]; omega
            obtain ⟨A, cap, hv, hlc, hcc⟩ := H8.out.row.shape
            subst hv
            by_cases hL : L.length = 0
            · have d0 : ((L.length : Int) == 0) = true := by rw [beq_iff_eq]; omega
              have HPN := Lib.hid H8.out.next
              have e1 : wrap64 ((i : Int) + 1) = (i : Int) + 1 := by have := HAN.out; have := HIN.out; unfold wrap64; omega
              clear hL hlc hcc
              go_wp2_with fail
              go_roundg (an - (i + 1))
              case measure => have := HIN.out; omega
              case rel => exact ⟨i + 1, L, by have := HIN.out; omega, rfl, by go_num, HPN.out⟩
            · obtain ⟨j, hjl, d0, d1, e1, e2, e3, e4, e5, d2⟩ := idx_facts i2 L.length HOK.out.i hL
              obtain ⟨g, o, B, C, K, rfl, hj, y0, y1⟩ := H8.out.at rfl hjl
              have HST := Lib.hid (H8.out.step HC1.out hj)
              have hq5 := heap_alloc_new w4 (.cells #[Pw B, Pw C] 50)
              have hp5 := ((below1 w4 (.cells #[Pw B, Pw C] 50)).block PB (Array.getElem?_eq_some_iff.1 H8.out.pair).1).trans H8.out.pair
              have HQ5 := Lib.hid hq5; have HP5 := Lib.hid hp5
              clear hq5 hp5 hj hjl hL h4 hlc hcc
              go_upto_region 12 with (fail)
              generalize w4.alloc (.cells #[Pw B, Pw C] 50) = w5 at *
              generalize w4.heap.size = Q at *
              have t0 := cell_row HQ5.out 0; have t1 := cell_row HQ5.out 1; have q0 := cell_row HP5.out 0; have q1 := cell_row HP5.out 1
              simp only [List.getElem?_toArray, List.getElem?_cons_zero, List.getElem?_cons_succ] at t0 t1 q0 q1
              clear y0 y1 e1 e2 e3 e4 e5 d2 d1
              go_upto_region 13 with (go_at_call 13; refine HST.out.mono ?_; rintro e w6 ⟨rfl, K', hcf, hn1⟩)
              have HCF := Lib.hid hcf.c
              have HN1 := Lib.hid hn1
              have e0 : ((K'.ln : Int) == 0) = decide (K'.ln = 0) := by
                by_cases e : K'.ln = 0
                · rw [e]; rfl
                · rw [decide_eq_false e, beq_eq_false_iff_ne]; omega
              clear hcf hn1 t0 t1 q0 q1 HST
              generalize decide (K'.ln = 0) = v0 at *
              refine wp_region_held_drew (S := fun w' => w'.cell? ⟨Q, 0, none⟩ = some (Pw B) ∧ w'.cell? ⟨Q, 1, none⟩ = some (Pw C) ∧ w'.cell? ⟨PB, 0, none⟩ = some (Pw WB) ∧ w'.cell? ⟨C, 0, none⟩ = some (.int .i64 (K'.ln : Int))) (by kernel_rfl) ?_ (fun hHeld => ?_)
              · exact HCF.out
              refine wpAnyH_take (i := 0) (oi := ({ dst := some 47, op := Op.fieldAddr 50 (Operand.tmp 10) 0, type := 0, pos := "law.go:61", after := #[], guard := none } : Oper)) (v := ?vtm1) rfl (by kernel_rfl) (by kernel_rfl) (by kernel_rfl) (fun _ _ _ h => h) (Or.inl ⟨by rfl, fun w hSw => ?hytm1⟩) (by assumption) ?rtm1
              case hytm1 => (try dsimp only at hSw); go_simp; (try with_reducible rfl)
              (try simp only [Act.put, List.setIfInBounds_toArray, List.set_cons_zero, List.set_cons_succ])
              refine wpAnyH_take (i := 1) (oi := ({ dst := some 48, op := Op.load 45 (Operand.tmp 47), type := 45, pos := "law.go:61", after := #[{ on := 0, ground := Ground.data }], guard := none } : Oper)) (v := ?vtm2) rfl (by kernel_rfl) (by kernel_rfl) (by kernel_rfl) (fun _ _ _ h => h) (Or.inl ⟨by rfl, fun w hSw => ?hytm2⟩) (by assumption) ?rtm2
              case hytm2 => (try dsimp only at hSw); go_simp; (try with_reducible rfl)
              (try simp only [Act.put, List.setIfInBounds_toArray, List.set_cons_zero, List.set_cons_succ])
              refine wpAnyH_take (i := 2) (oi := ({ dst := some 49, op := Op.fieldAddr 36 (Operand.tmp 5) 0, type := 0, pos := "law.go:61", after := #[], guard := none } : Oper)) (v := ?vtm3) rfl (by kernel_rfl) (by kernel_rfl) (by kernel_rfl) (fun _ _ _ h => h) (Or.inl ⟨by rfl, fun w hSw => ?hytm3⟩) (by assumption) ?rtm3
              case hytm3 => (try dsimp only at hSw); go_simp; (try with_reducible rfl)
              (try simp only [Act.put, List.setIfInBounds_toArray, List.set_cons_zero, List.set_cons_succ])
              refine wpAnyH_take (i := 3) (oi := ({ dst := some 50, op := Op.load 33 (Operand.tmp 49), type := 33, pos := "law.go:61", after := #[{ on := 2, ground := Ground.data }], guard := none } : Oper)) (v := ?vtm4) rfl (by kernel_rfl) (by kernel_rfl) (by kernel_rfl) (fun _ _ _ h => h) (Or.inl ⟨by rfl, fun w hSw => ?hytm4⟩) (by assumption) ?rtm4
              case hytm4 => (try dsimp only at hSw); go_simp; (try with_reducible rfl)
              (try simp only [Act.put, List.setIfInBounds_toArray, List.set_cons_zero, List.set_cons_succ])
              refine wpAnyH_take (i := 5) (oi := ({ dst := some 52, op := Op.fieldAddr 50 (Operand.tmp 10) 1, type := 0, pos := "law.go:61", after := #[], guard := none } : Oper)) (v := ?vtm5) rfl (by kernel_rfl) (by kernel_rfl) (by kernel_rfl) (fun _ _ _ h => h) (Or.inl ⟨by rfl, fun w hSw => ?hytm5⟩) (by assumption) ?rtm5
              case hytm5 => (try dsimp only at hSw); go_simp; (try with_reducible rfl)
              (try simp only [Act.put, List.setIfInBounds_toArray, List.set_cons_zero, List.set_cons_succ])
              refine wpAnyH_take (i := 6) (oi := ({ dst := some 53, op := Op.load 47 (Operand.tmp 52), type := 47, pos := "law.go:61", after := #[{ on := 5, ground := Ground.data }], guard := none } : Oper)) (v := ?vtm6) rfl (by kernel_rfl) (by kernel_rfl) (by kernel_rfl) (fun _ _ _ h => h) (Or.inl ⟨by rfl, fun w hSw => ?hytm6⟩) (by assumption) ?rtm6
              case hytm6 => (try dsimp only at hSw); go_simp; (try with_reducible rfl)
              (try simp only [Act.put, List.setIfInBounds_toArray, List.set_cons_zero, List.set_cons_succ])
              refine wpAnyH_take (i := 7) (oi := ({ dst := some 54, op := Op.nilCheck (Operand.tmp 53), type := 0, pos := "law.go:61", after := #[{ on := 6, ground := Ground.data }], guard := none } : Oper)) (v := ?vtm7) rfl (by kernel_rfl) (by kernel_rfl) (by kernel_rfl) (fun _ _ _ h => h) (Or.inl ⟨by rfl, fun w hSw => ?hytm7⟩) (by assumption) ?rtm7
              case hytm7 => (try dsimp only at hSw); go_simp; (try with_reducible rfl)
              (try simp only [Act.put, List.setIfInBounds_toArray, List.set_cons_zero, List.set_cons_succ])
              refine wpAnyH_take (i := 8) (oi := ({ dst := some 55, op := Op.fieldAddr 58 (Operand.tmp 54) 0, type := 0, pos := "law.go:61", after := #[{ on := 7, ground := Ground.data }], guard := none } : Oper)) (v := ?vtm8) rfl (by kernel_rfl) (by kernel_rfl) (by kernel_rfl) (fun _ _ _ h => h) (Or.inl ⟨by rfl, fun w hSw => ?hytm8⟩) (by assumption) ?rtm8
              case hytm8 => (try dsimp only at hSw); go_simp; (try with_reducible rfl)
              (try simp only [Act.put, List.setIfInBounds_toArray, List.set_cons_zero, List.set_cons_succ])
              refine wpAnyH_take (i := 9) (oi := ({ dst := some 56, op := Op.load 3 (Operand.tmp 55), type := 3, pos := "law.go:61", after := #[{ on := 8, ground := Ground.data }], guard := none } : Oper)) (v := ?vtm9) rfl (by kernel_rfl) (by kernel_rfl) (by kernel_rfl) (fun _ _ _ h => h) (Or.inl ⟨by rfl, fun w hSw => ?hytm9⟩) (by assumption) ?rtm9
              case hytm9 => (try dsimp only at hSw); go_simp; (try with_reducible rfl)
              (try simp only [Act.put, List.setIfInBounds_toArray, List.set_cons_zero, List.set_cons_succ])
              refine wpAnyH_take (i := 10) (oi := ({ dst := some 57, op := Op.binOp BinOp.eql 3 (Operand.tmp 56) (Operand.const (Value.int IntKind.i64 0)) 3, type := 4, pos := "law.go:61", after := #[{ on := 9, ground := Ground.data }], guard := none } : Oper)) (v := ?vtm10) rfl (by kernel_rfl) (by kernel_rfl) (by kernel_rfl) (fun _ _ _ h => h) (Or.inl ⟨by rfl, fun w hSw => ?hytm10⟩) (by assumption) ?rtm10
              case hytm10 => (try dsimp only at hSw); go_simp; (try with_reducible rfl)
              (try simp only [Act.put, List.setIfInBounds_toArray, List.set_cons_zero, List.set_cons_succ])
              refine wpAnyH_ready (rs := [4]) (by kernel_rfl) (by simp) ?_
              refine AllReadyH.cons (o := ({ dst := some 51, op := Op.call { callee := Callee.value (Operand.func 14), args := #[Operand.tmp 48, Operand.tmp 50], argTypes := #[45, 33] }, type := 4, pos := "law.go:61", after := #[{ on := 1, ground := Ground.data }, { on := 3, ground := Ground.data }], guard := none } : Oper)) rfl (fun Kq hKq => ?_) AllReadyH.nil
              go_simp
              (refine HN1.out.mono ?_; rintro e w7 ⟨rfl, hcf7, hn2⟩; (have HN2 := Lib.hid hn2))
              refine hKq.out _ _ ?_ (fun hHeld => ?_)
              · exact hcf7.c
              clear hKq Kq
              (try simp only [Act.put, List.setIfInBounds_toArray, List.set_cons_zero, List.set_cons_succ])
              refine wpAnyH_take (i := 11) (oi := ({ dst := some 58, op := Op.binOp BinOp.neq 4 (Operand.tmp 51) (Operand.tmp 57) 4, type := 4, pos := "law.go:61", after := #[{ on := 4, ground := Ground.data }, { on := 10, ground := Ground.data }], guard := none } : Oper)) (v := ?vtm11) rfl (by kernel_rfl) (by kernel_rfl) (by kernel_rfl) (fun _ _ _ h => h) (Or.inl ⟨by rfl, fun w hSw => ?hytm11⟩) (by assumption) ?rtm11
              case hytm11 => (try dsimp only at hSw); go_simp; (try with_reducible rfl)
              (try simp only [Act.put, List.setIfInBounds_toArray, List.set_cons_zero, List.set_cons_succ])
              refine wpAnyH_take (i := 12) (oi := ({ dst := some 59, op := Op.move (Operand.tmp 58), type := 4, pos := "law.go:61", after := #[{ on := 11, ground := Ground.data }, { on := 4, ground := Ground.chain }], guard := none } : Oper)) (v := ?vtm12) rfl (by kernel_rfl) (by kernel_rfl) (by kernel_rfl) (fun _ _ _ h => h) (Or.inl ⟨by rfl, fun w hSw => ?hytm12⟩) (by assumption) ?rtm12
              case hytm12 => (try dsimp only at hSw); go_simp; (try with_reducible rfl)
              (try simp only [Act.put, List.setIfInBounds_toArray, List.set_cons_zero, List.set_cons_succ])
              refine wpAnyH_take (i := 13) (oi := ({ dst := some 60, op := Op.load 50 (Operand.tmp 10), type := 50, pos := "law.go:61", after := #[{ on := 12, ground := Ground.guard }], guard := some (12, false) } : Oper)) (v := ?vtm13) rfl (by kernel_rfl) (by kernel_rfl) (by kernel_rfl) (fun _ _ _ h => h) (Or.inl ⟨by rfl, fun w hSw => ?hytm13⟩) (by assumption) ?rtm13
              case hytm13 => (try dsimp only at hSw); go_simp; (try with_reducible rfl)
              (try simp only [Act.put, List.setIfInBounds_toArray, List.set_cons_zero, List.set_cons_succ])
              refine wpAnyH_ready (rs := [14]) (by kernel_rfl) (by simp) ?_
              refine AllReadyH.cons (o := ({ dst := some 61, op := Op.call { callee := Callee.value (Operand.func 10), args := #[Operand.tmp 60], argTypes := #[50] }, type := 4, pos := "law.go:61", after := #[{ on := 13, ground := Ground.data }, { on := 12, ground := Ground.chain }, { on := 12, ground := Ground.guard }], guard := some (12, false) } : Oper)) rfl (fun Kq hKq => ?_) AllReadyH.nil
              go_simp
              (refine HN2.out.mono ?_; rintro e w8 ⟨rfl, hb8, L', h8⟩)
              refine hKq.out _ _ ?_ (fun hHeld => ?_)
              · exact ⟨bcell hb8 hHeld.1, bcell hb8 hHeld.2.1, bcell hb8 hHeld.2.2.1, bcell hb8 hHeld.2.2.2⟩
              clear hKq Kq
              (try simp only [Act.put, List.setIfInBounds_toArray, List.set_cons_zero, List.set_cons_succ])
              refine wpAnyH_take (i := 15) (oi := ({ dst := some 62, op := Op.unOp UnOp.not 4 (Operand.tmp 61), type := 4, pos := "law.go:61", after := #[{ on := 14, ground := Ground.data }, { on := 12, ground := Ground.guard }], guard := some (12, false) } : Oper)) (v := ?vtm14) rfl (by kernel_rfl) (by kernel_rfl) (by kernel_rfl) (fun _ _ _ h => h) (Or.inl ⟨by rfl, fun w hSw => ?hytm14⟩) (by assumption) ?rtm14
              case hytm14 => (try dsimp only at hSw); go_simp; (try with_reducible rfl)
              (try simp only [Act.put, List.setIfInBounds_toArray, List.set_cons_zero, List.set_cons_succ])
              refine wpAnyH_take (i := 16) (oi := ({ dst := some 63, op := Op.pick (Operand.tmp 59) (Operand.const (Value.bool true)) (Operand.tmp 62), type := 4, pos := "law.go:61", after := #[{ on := 12, ground := Ground.data }, { on := 15, ground := Ground.data }], guard := none } : Oper)) (v := ?vtm15) rfl (by kernel_rfl) (by kernel_rfl) (by kernel_rfl) (fun _ _ _ h => h) (Or.inl ⟨by rfl, fun w hSw => ?hytm15⟩) (by assumption) ?rtm15
              case hytm15 => (try dsimp only at hSw); go_simp; (try with_reducible rfl)
              (try simp only [Act.put, List.setIfInBounds_toArray, List.set_cons_zero, List.set_cons_succ])
              refine wpAnyH_done (by kernel_rfl) ?_ _
              go_wp2_with fail
              go_meet
              exact ⟨L', h8⟩
        case rest =>
          obtain ⟨L', hpi⟩ := hcut
          have hpr := hpi.pair
          have q0 := cell_row hpr 0; have q1 := cell_row hpr 1
          simp only [List.getElem?_toArray, List.getElem?_cons_zero, List.getElem?_cons_succ] at q0 q1
          have HSM := Lib.hid (hpi.same (by have := HK0.out; have := HAN.out; have := HIN.out; omega))
          have e1 : wrap64 ((i : Int) + 1) = (i : Int) + 1 := by have := HAN.out; have := HIN.out; unfold wrap64; omega
          clear hpi hpr
          go_wp2_with (go_at_call 15; refine HSM.out.mono ?_; rintro e w6 ⟨rfl, h6⟩)
          go_roundg (an - (i + 1))
          case measure => have := HIN.out; omega
          case rel => exact ⟨i + 1, L', by have := HIN.out; omega, rfl, by go_num, h6⟩
      · obtain rfl : i = an := by omega
        have hpr := hpi.pair
        have q0 := cell_row hpr 0; have q1 := cell_row hpr 1
        simp only [List.getElem?_toArray, List.getElem?_cons_zero, List.getElem?_cons_succ] at q0 q1
        have HSM := Lib.hid (hpi.all (by have := HK0.out; have := HAN.out; omega) HK0.out.2)
        clear hpi hpr
        go_wp2_with (first
          | (go_at_call 16; refine HSM.out.mono ?_; rintro e w6 ⟨rfl, h6⟩)
          | (go_at_call 6; refine (HLV.out _).mono ?_; rintro e w7 ⟨rfl, h7⟩))
        go_ret
        exact ⟨rfl, HB1.out.trans ((h6.trans (h7.mono h6.size)).mono HB1.out.size)⟩
  · have d3 : decide ((200 : Int) < (an : Int)) = true := by simp; omega
    clear hbegin hb1 h0 hB0 hai han hbig
    go_enter Tryz.func3, Tryz.ntmps3
    go_upto_region 1 with (fail)
    generalize w.alloc (.cells #[.int .i64 sp, .int .u64 (mo : Int), .slice dA dn dc, .slice sA sn sc, .slice gA gn gc, .slice qA qn qc, .int .u64 (tk : Int)] 30) = w1 at *
    go_wp2_with (go_at_call 6; refine (HLV.out _).mono ?_; rintro e w7 ⟨rfl, h7⟩)
    go_ret
    exact ⟨rfl, HB1.out.trans (h7.mono HB1.out.size)⟩
end Go.Proofs.YtlflagjnlclffaaGreat.S13
