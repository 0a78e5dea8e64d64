/- Texts of this seat, one behind the other. -/
import Derived.Test.YtlflagjnlclffaaGreatMLawPlay1429
import Derived.Test.YtlflagjnlclffaaGreatRows
import Derived.Lib.SmallJoins
import Derived.ProofKit
import Derived.OpenShut
import Derived.Deep.Slices
import Derived.Carry
set_option linter.unusedVariables false
set_option linter.unusedSimpArgs false
namespace Go.Proofs.YtlflagjnlclffaaGreat
theorem own : ownKnob Tryz.prog.godebug = none := by kernel_rfl
theorem laidOut : laidOutB Tryz.prog = true := by kernel_rfl
namespace S10
open Go.ChangeShapes Go.WideShapes Go.ChangeAt Go.RowKit Go.Deep
set_option maxRecDepth 100000
section
variable {H : Type} {enc : TypeId × Value → H} {W : World} {base : Nat} {sp : Nat → Bool} {held : Bool}
theorem field_at {P : Program} {e : TypeId} {fs : Array Field} {fuel : Nat} {cs : List Value} {x : DataW H × List MemPlace} (he : P.underlying e = some (.struct fs)) (h : DataW.trod enc P W base sp held fuel e cs = some x)
    (j : Nat) (f : Field) (hj : fs[j]? = some f) (ho : f.offset = j) (h1 : P.cellsOf f.type = 1) (hc : j < P.cellsOf e) : ∃ v z m, cs[j]? = some v ∧ DataW.trod enc P W base sp held m f.type [v] = some z := by
  obtain ⟨xs, m, _, _, hlen, hxl, hf⟩ := DataW.trod_struct he h
  have hx := hf j f hj
  rw [ho, h1] at hx
  have hjx : j < xs.length := by rw [hxl]; exact (Array.getElem?_eq_some_iff.1 hj).1
  have hjc : j < cs.length := by omega
  have hd : (cs.drop j).take 1 = [cs[j]] := by rw [List.drop_eq_getElem_cons hjc]; rfl
  rw [hd, List.getElem?_eq_getElem hjx] at hx
  exact ⟨cs[j], xs[j], m, List.getElem?_eq_getElem hjc, hx⟩
theorem u_of {k : IntKind} {a : Int} (h0 : k.min = 0) (h : (Lit.int k a).wf = true) : ∃ n : Nat, a = n ∧ (n : Int) ≤ k.max := by
  simp [Lit.wf, h0] at h
  obtain ⟨n, rfl⟩ := Int.eq_ofNat_of_zero_le h.1
  exact ⟨n, rfl, h.2⟩
theorem int_at {e t : TypeId} {k : IntKind} {fs : Array Field} {fuel : Nat} {cs : List Value} {x : DataW H × List MemPlace} (he : Tryz.prog.underlying e = some (.struct fs)) (h : DataW.trod enc Tryz.prog W base sp held fuel e cs = some x)
    (j : Nat) (f : Field) (hj : fs[j]? = some f) (ho : f.offset = j) (h1 : Tryz.prog.cellsOf f.type = 1) (hc : j < Tryz.prog.cellsOf e) (ht : f.type = t) (hu : Tryz.prog.underlying t = some (.int k)) : ∃ a : Int, cs[j]? = some (.int k a) ∧ (Lit.int k a).wf = true := by
  obtain ⟨v, z, m, hv, hz⟩ := field_at he h j f hj ho h1 hc
  rw [ht] at hz
  obtain ⟨a, e1, _, wa⟩ := DataW.trod_int hu hz
  simp at e1
  exact ⟨a, by rw [hv, e1], wa⟩
theorem num_at {e t : TypeId} {k : IntKind} {fs : Array Field} {fuel : Nat} {cs : List Value} {x : DataW H × List MemPlace} (he : Tryz.prog.underlying e = some (.struct fs)) (h : DataW.trod enc Tryz.prog W base sp held fuel e cs = some x)
    (j : Nat) (f : Field) (hj : fs[j]? = some f) (ho : f.offset = j) (h1 : Tryz.prog.cellsOf f.type = 1) (hc : j < Tryz.prog.cellsOf e) (ht : f.type = t) (hu : Tryz.prog.underlying t = some (.int k)) (h0 : k.min = 0) : ∃ n : Nat, cs[j]? = some (.int k n) ∧ (n : Int) ≤ k.max := by
  obtain ⟨a, e1, wa⟩ := int_at he h j f hj ho h1 hc ht hu
  obtain ⟨n, rfl, hn⟩ := u_of h0 wa
  exact ⟨n, e1, hn⟩
theorem spot_none {w : World} {a : Addr} {v : Value} (h : w.cell? a = some v) : a.spot = none := by
  unfold World.cell? at h
  cases hs : a.spot with
  | none => rfl
  | some s =>
    exfalso
    cases hb : w.heap[a.block]? with
    | none => simp [hb] at h
    | some x => cases x <;> simp [hb, hs] at h
theorem lies_ents {w : World} {g o : Nat} {D : List Ent} (h : ∀ i, i < D.length → w.cell? ⟨g, o + i * 3, none⟩ = some (.int .i64 D[i]!.t) ∧ w.cell? ⟨g, o + i * 3 + 1, none⟩ = some (.int .u32 D[i]!.k) ∧ w.cell? ⟨g, o + i * 3 + 2, none⟩ = some (.int .u64 D[i]!.z)) : Lies w g o (flat D) := fun j u e => by
  have hj := (List.getElem?_eq_some_iff.1 e).1
  rw [flat_len] at hj
  have hi : j / 3 < D.length := by omega
  obtain ⟨h0, h1, h2⟩ := h (j / 3) hi
  obtain ⟨f0, f1, f2⟩ := flat_get D (j / 3) hi
  have hr : j % 3 = 0 ∨ j % 3 = 1 ∨ j % 3 = 2 := by omega
  rcases hr with hr | hr | hr
  · rw [show j / 3 * 3 = j by omega] at h0 f0
    rw [f0] at e
    injection e with e
    rw [← e]; exact h0
  · rw [show j / 3 * 3 + 1 = j by omega] at f1
    rw [show o + j / 3 * 3 + 1 = o + j by omega] at h1
    rw [f1] at e
    injection e with e
    rw [← e]; exact h1
  · rw [show j / 3 * 3 + 2 = j by omega] at f2
    rw [show o + j / 3 * 3 + 2 = o + j by omega] at h2
    rw [f2] at e
    injection e with e
    rw [← e]; exact h2
theorem open_ents {fuel : Nat} {cs : List Value} {x : DataW H × List MemPlace} (hf : DataW.trod enc Tryz.prog W 0 (fun _ => true) true fuel 111 cs = some x) :
    ∃ A c D, cs = [.slice A D.length c] ∧ D.length ≤ c ∧ c ≤ 9223372036854775807 ∧ Rd W W.heap.size A (flat D) ∧ Keys D := by
  rcases open_slice Tryz.underlying111 hf with ⟨hc, _⟩ | ⟨⟨lb, lo, spot⟩, len, cap, m, q, D, Pl, hc, _, hl, hm, hmm, _, hi⟩
  · exact ⟨none, 0, [], hc, Nat.le_refl _, by omega, Rd.nil, fun e he => by cases he⟩
  unfold maxLen at hm
  rcases Nat.eq_zero_or_pos len with rfl | hpos
  · exact ⟨_, cap, [], hc, hl, by omega, Rd.nil, fun e he => by cases he⟩
  have hnm : len ≤ m := by rw [hmm]; simp; exact hl
  have h5 : Tryz.prog.cellsOf 231 = 3 := by kernel_rfl
  have hs : spot = none := by
    obtain ⟨cs, hcs, ht⟩ := hi 0 (by omega)
    obtain ⟨_, hlen, hat⟩ := World.cells?_some hcs
    obtain ⟨k, c0, _⟩ := int_at (t := 3) (k := .i64) Tryz.underlying231 ht 0 _ rfl rfl (by kernel_rfl) (by rw [h5]; omega) rfl Tryz.underlying3
    rw [h5] at hat
    have g0 := (hat 0 (by omega)).trans c0
    have := spot_none g0
    simpa [Addr.add] using this
  subst hs
  have hall : ∀ i, i < len → ∃ y : Ent, (W.cell? ⟨lb, lo + i * 3, none⟩ = some (.int .i64 y.t) ∧ W.cell? ⟨lb, lo + i * 3 + 1, none⟩ = some (.int .u32 y.k) ∧ W.cell? ⟨lb, lo + i * 3 + 2, none⟩ = some (.int .u64 y.z)) ∧ ∃ k : Nat, y.k = (k : Int) ∧ k < 4294967296 := by
    intro i hin
    obtain ⟨cs, hcs, ht⟩ := hi i (by omega)
    obtain ⟨_, hlen, hat⟩ := World.cells?_some hcs
    obtain ⟨a, c0, _⟩ := int_at (t := 3) (k := .i64) Tryz.underlying231 ht 0 _ rfl rfl (by kernel_rfl) (by rw [h5]; omega) rfl Tryz.underlying3
    obtain ⟨b, c1, hb⟩ := num_at (t := 40) (k := .u32) Tryz.underlying231 ht 1 _ rfl rfl (by kernel_rfl) (by rw [h5]; omega) rfl Tryz.underlying40 rfl
    obtain ⟨z, c2, _⟩ := int_at (t := 22) (k := .u64) Tryz.underlying231 ht 2 _ rfl rfl (by kernel_rfl) (by rw [h5]; omega) rfl Tryz.underlying22
    rw [h5] at hat
    have g0 := (hat 0 (by omega)).trans c0
    have g1 := (hat 1 (by omega)).trans c1
    have g2 := (hat 2 (by omega)).trans c2
    rw [add_none, add_none] at g0 g1 g2
    rw [Nat.add_zero] at g0
    have hb' : (b : Int) ≤ 4294967295 := hb
    exact ⟨⟨a, b, z⟩, ⟨g0, g1, g2⟩, b, rfl, by omega⟩
  obtain ⟨Y, hY⟩ := choose_lt hall
  have hlD : ((List.range len).map Y).length = len := by simp
  refine ⟨some ⟨lb, lo, none⟩, cap, (List.range len).map Y, by rw [hlD]; exact hc, by omega, by omega, fun _ => ⟨lb, lo, rfl, World.block_lt_of_cell? W _ (hY 0 hpos).1.1, lies_ents fun i hi => ?_⟩, fun e he => ?_⟩
  · rw [hlD] at hi
    have : ((List.range len).map Y)[i]! = Y i := by rw [getElem!_pos _ i (by rw [hlD]; exact hi)]; simp
    rw [this]
    exact (hY i hi).1
  · obtain ⟨i, hi, rfl⟩ := List.mem_map.1 he
    exact (hY i (List.mem_range.1 hi)).2
theorem inI {a : Int} (h : (Lit.int .i64 a).wf = true) : InI a := by
  simp [Lit.wf, IntKind.min, IntKind.max, IntKind.bits, IntKind.signed] at h
  unfold InI; omega
end
end S10
namespace S3
open Go.ChangeShapes Go.WideShapes Go.ChangeAt Go.RowKit Go.Deep
theorem cellsU : Tryz.prog.cellsOf 22 = 1 := by kernel_rfl
section
variable {H : Type} {enc : TypeId × Value → H} {W : World}
theorem u64_of {a : Int} (h : (Lit.int .u64 a).wf = true) : ∃ n : Nat, a = n ∧ n ≤ 18446744073709551615 := by
  simp [Lit.wf, IntKind.min, IntKind.max, IntKind.bits, IntKind.signed] at h
  obtain ⟨n, rfl⟩ := Int.eq_ofNat_of_zero_le h.1
  exact ⟨n, rfl, by omega⟩
theorem spot_none {w : World} {a : Addr} {v : Value} (h : w.cell? a = some v) : a.spot = none := by
  unfold World.cell? at h
  cases hs : a.spot with
  | none => rfl
  | some s =>
    exfalso
    cases hb : w.heap[a.block]? with
    | none => simp [hb] at h
    | some x => cases x <;> simp [hb, hs] at h
theorem open_list {fuel : Nat} {cs : List Value} {x : DataW H × List MemPlace} (h : DataW.trod enc Tryz.prog W 0 (fun _ => true) true fuel 23 cs = some x) :
    ∃ A c L, cs = [.slice A L.length c] ∧ L.length ≤ c ∧ c ≤ 9223372036854775807 ∧ Rd W W.heap.size A L ∧ ∀ d ∈ L, d ≤ 18446744073709551615 := by
  rcases open_ints Tryz.underlying23 Tryz.underlying22 cellsU h with ⟨rfl, _⟩ | ⟨a, len, cap, zs, rfl, _, hl, hc, hzl, _, hcell, hwf⟩
  · exact ⟨none, 0, [], rfl, Nat.le_refl _, by omega, Rd.nil, by simp⟩
  · simp at hzl
    unfold maxLen at hc
    have hex : ∀ z ∈ zs.take len, ∃ n : Nat, z = n ∧ n ≤ 18446744073709551615 := fun z hz => u64_of (hwf z (List.mem_of_mem_take hz))
    have hlen : ((zs.take len).map Int.toNat).length = len := by simp; omega
    have hget : ∀ i, i < len → (((zs.take len).map Int.toNat)[i]! : Int) = zs.getD i 0 := fun i hi => by
      have h1 : i < ((zs.take len).map Int.toNat).length := by omega
      have h2 : i < zs.length := by omega
      rw [getElem!_pos _ i h1, List.getElem_map, List.getElem_take, List.getD_eq_getElem?_getD, List.getElem?_eq_getElem h2]
      obtain ⟨n, e, _⟩ := u64_of (hwf _ (List.getElem_mem h2))
      simp [e]
    refine ⟨some a, cap, (zs.take len).map Int.toNat, by rw [hlen], by omega, by omega, fun hp => ?_, fun d hd => ?_⟩
    · rw [hlen] at hp
      obtain ⟨b, o, spot⟩ := a
      have h0 := hcell 0 (by omega)
      have hs : spot = none := by
        have := spot_none h0
        simpa [Addr.add] using this
      subst hs
      refine ⟨b, o, rfl, ?_, fun i hi => ?_⟩
      · rw [add_none] at h0
        exact World.block_lt_of_cell? W _ h0
      · rw [hlen] at hi
        have h1 := hcell i (by omega)
        rw [add_none] at h1
        rw [h1]
        unfold uv
        rw [hget i hi]
    · obtain ⟨z, hz, rfl⟩ := List.mem_map.1 hd
      obtain ⟨n, rfl, hn⟩ := hex z hz
      simpa using hn
end
end S3
namespace S12
open Go.ChangeShapes Go.WideShapes Go.ChangeAt Go.RowKit Go.Deep
set_option maxRecDepth 100000
theorem nat_of {k : IntKind} {a : Int} {M : Nat} (h0 : k.min = 0) (h1 : k.max = (M : Int)) (h : (Lit.int k a).wf = true) : ∃ n : Nat, a = n ∧ n ≤ M := by
  obtain ⟨n, rfl, hn⟩ := S10.u_of h0 h
  exact ⟨n, rfl, by omega⟩
theorem u8_of {a : Int} (h : (Lit.int .u8 a).wf = true) : ∃ n : Nat, a = n ∧ n < 256 := by
  obtain ⟨n, e, hn⟩ := nat_of (M := 255) rfl rfl h
  exact ⟨n, e, by omega⟩
theorem u32_of {a : Int} (h : (Lit.int .u32 a).wf = true) : ∃ n : Nat, a = n ∧ n < 4294967296 := by
  obtain ⟨n, e, hn⟩ := nat_of (M := 4294967295) rfl rfl h
  exact ⟨n, e, by omega⟩
theorem u64_of {a : Int} (h : (Lit.int .u64 a).wf = true) : ∃ n : Nat, a = n ∧ n < 18446744073709551616 := by
  obtain ⟨n, e, hn⟩ := nat_of (M := 18446744073709551615) rfl rfl h
  exact ⟨n, e, by omega⟩
theorem sz40 : Tryz.prog.cellsOf 40 = 1 := by kernel_rfl
theorem sz22 : Tryz.prog.cellsOf 22 = 1 := by kernel_rfl
theorem sz42 : Tryz.prog.cellsOf 42 = 2 := by kernel_rfl
theorem store_cells {H : Type} {enc : TypeId × Value → H} {W : World} {fuel : Nat} {cs : List Value} {x : DataW H × List MemPlace} (h : DataW.trod enc Tryz.prog W 0 (fun _ => true) true fuel 42 cs = some x) :
    ∃ s0 s1, cs = [.int .u32 s0, .int .u64 s1] ∧ (Lit.int .u32 s0).wf = true ∧ (Lit.int .u64 s1).wf = true := by
  obtain ⟨xs, m, _, _, hlen, hxl, hf⟩ := DataW.trod_struct Tryz.underlying42 h
  rw [sz42] at hlen
  obtain ⟨a0, a1, rfl⟩ : ∃ a0 a1, cs = [a0, a1] := by
    match cs, hlen with
    | [a0, a1], _ => exact ⟨a0, a1, rfl⟩
  have sm : ∀ i, i < 2 → ∃ y, xs[i]? = some y := fun i hi => ⟨xs[i]'(by rw [hxl]; exact hi), List.getElem?_eq_getElem _⟩
  obtain ⟨y0, e0⟩ := sm 0 (by omega)
  have h0 : DataW.trod enc Tryz.prog W 0 (fun _ => true) true m 40 (List.take (Tryz.prog.cellsOf 40) [a0, a1]) = xs[0]? := hf 0 _ rfl
  rw [sz40, e0] at h0
  obtain ⟨y1, e1⟩ := sm 1 (by omega)
  have h1 : DataW.trod enc Tryz.prog W 0 (fun _ => true) true m 22 (List.take (Tryz.prog.cellsOf 22) [a1]) = xs[1]? := hf 1 _ rfl
  rw [sz22, e1] at h1
  obtain ⟨s0, q0, _, f0_0⟩ := DataW.trod_int Tryz.underlying40 h0
  simp at q0
  subst q0
  obtain ⟨s1, q1, _, f1_0⟩ := DataW.trod_int Tryz.underlying22 h1
  simp at q1
  subst q1
  exact ⟨s0, s1, rfl, f0_0, f1_0⟩
theorem sz3 : Tryz.prog.cellsOf 3 = 1 := by kernel_rfl
theorem sz110 : Tryz.prog.cellsOf 110 = 2 := by kernel_rfl
theorem place_cells {H : Type} {enc : TypeId × Value → H} {W : World} {fuel : Nat} {cs : List Value} {x : DataW H × List MemPlace} (h : DataW.trod enc Tryz.prog W 0 (fun _ => true) true fuel 110 cs = some x) :
    ∃ p0 p1, cs = [.int .i64 p0, .int .i64 p1] ∧ (Lit.int .i64 p0).wf = true ∧ (Lit.int .i64 p1).wf = true := by
  obtain ⟨xs, m, _, _, hlen, hxl, hf⟩ := DataW.trod_struct Tryz.underlying110 h
  rw [sz110] at hlen
  obtain ⟨a0, a1, rfl⟩ : ∃ a0 a1, cs = [a0, a1] := by
    match cs, hlen with
    | [a0, a1], _ => exact ⟨a0, a1, rfl⟩
  have sm : ∀ i, i < 2 → ∃ y, xs[i]? = some y := fun i hi => ⟨xs[i]'(by rw [hxl]; exact hi), List.getElem?_eq_getElem _⟩
  obtain ⟨y0, e0⟩ := sm 0 (by omega)
  have h0 : DataW.trod enc Tryz.prog W 0 (fun _ => true) true m 3 (List.take (Tryz.prog.cellsOf 3) [a0, a1]) = xs[0]? := hf 0 _ rfl
  rw [sz3, e0] at h0
  obtain ⟨y1, e1⟩ := sm 1 (by omega)
  have h1 : DataW.trod enc Tryz.prog W 0 (fun _ => true) true m 3 (List.take (Tryz.prog.cellsOf 3) [a1]) = xs[1]? := hf 1 _ rfl
  rw [sz3, e1] at h1
  obtain ⟨p0, q0, _, f0_0⟩ := DataW.trod_int Tryz.underlying3 h0
  simp at q0
  subst q0
  obtain ⟨p1, q1, _, f1_0⟩ := DataW.trod_int Tryz.underlying3 h1
  simp at q1
  subst q1
  exact ⟨p0, p1, rfl, f0_0, f1_0⟩
theorem sz113 : Tryz.prog.cellsOf 113 = 2 := by kernel_rfl
theorem timer_cells {H : Type} {enc : TypeId × Value → H} {W : World} {fuel : Nat} {cs : List Value} {x : DataW H × List MemPlace} (h : DataW.trod enc Tryz.prog W 0 (fun _ => true) true fuel 113 cs = some x) :
    ∃ t0 t1, cs = [.int .u64 t0, .int .u64 t1] ∧ (Lit.int .u64 t0).wf = true ∧ (Lit.int .u64 t1).wf = true := by
  obtain ⟨xs, m, _, _, hlen, hxl, hf⟩ := DataW.trod_struct Tryz.underlying113 h
  rw [sz113] at hlen
  obtain ⟨a0, a1, rfl⟩ : ∃ a0 a1, cs = [a0, a1] := by
    match cs, hlen with
    | [a0, a1], _ => exact ⟨a0, a1, rfl⟩
  have sm : ∀ i, i < 2 → ∃ y, xs[i]? = some y := fun i hi => ⟨xs[i]'(by rw [hxl]; exact hi), List.getElem?_eq_getElem _⟩
  obtain ⟨y0, e0⟩ := sm 0 (by omega)
  have h0 : DataW.trod enc Tryz.prog W 0 (fun _ => true) true m 22 (List.take (Tryz.prog.cellsOf 22) [a0, a1]) = xs[0]? := hf 0 _ rfl
  rw [sz22, e0] at h0
  obtain ⟨y1, e1⟩ := sm 1 (by omega)
  have h1 : DataW.trod enc Tryz.prog W 0 (fun _ => true) true m 22 (List.take (Tryz.prog.cellsOf 22) [a1]) = xs[1]? := hf 1 _ rfl
  rw [sz22, e1] at h1
  obtain ⟨t0, q0, _, f0_0⟩ := DataW.trod_int Tryz.underlying22 h0
  simp at q0
  subst q0
  obtain ⟨t1, q1, _, f1_0⟩ := DataW.trod_int Tryz.underlying22 h1
  simp at q1
  subst q1
  exact ⟨t0, t1, rfl, f0_0, f1_0⟩
theorem sz111 : Tryz.prog.cellsOf 111 = 1 := by kernel_rfl
theorem sz115 : Tryz.prog.cellsOf 115 = 5 := by kernel_rfl
theorem queued_cells {H : Type} {enc : TypeId × Value → H} {W : World} {fuel : Nat} {cs : List Value} {x : DataW H × List MemPlace} (h : DataW.trod enc Tryz.prog W 0 (fun _ => true) true fuel 115 cs = some x) :
    ∃ q0 q1 A c D q3 q4, cs = [.int .i64 q0, .int .i64 q1, .slice A D.length c, .int .u64 q3, .int .u64 q4] ∧ (Lit.int .i64 q0).wf = true ∧ (Lit.int .i64 q1).wf = true ∧ D.length ≤ c ∧ c ≤ 9223372036854775807 ∧ S10.Rd W W.heap.size A (S10.flat D) ∧ S10.Keys D ∧ (Lit.int .u64 q3).wf = true ∧ (Lit.int .u64 q4).wf = true := by
  obtain ⟨xs, m, _, _, hlen, hxl, hf⟩ := DataW.trod_struct Tryz.underlying115 h
  rw [sz115] at hlen
  obtain ⟨a0, a1, a2, a3, a4, rfl⟩ : ∃ a0 a1 a2 a3 a4, cs = [a0, a1, a2, a3, a4] := by
    match cs, hlen with
    | [a0, a1, a2, a3, a4], _ => exact ⟨a0, a1, a2, a3, a4, rfl⟩
  have sm : ∀ i, i < 3 → ∃ y, xs[i]? = some y := fun i hi => ⟨xs[i]'(by rw [hxl]; exact hi), List.getElem?_eq_getElem _⟩
  obtain ⟨y0, e0⟩ := sm 0 (by omega)
  have h0 : DataW.trod enc Tryz.prog W 0 (fun _ => true) true m 110 (List.take (Tryz.prog.cellsOf 110) [a0, a1, a2, a3, a4]) = xs[0]? := hf 0 _ rfl
  rw [sz110, e0] at h0
  obtain ⟨y1, e1⟩ := sm 1 (by omega)
  have h1 : DataW.trod enc Tryz.prog W 0 (fun _ => true) true m 111 (List.take (Tryz.prog.cellsOf 111) [a2, a3, a4]) = xs[1]? := hf 1 _ rfl
  rw [sz111, e1] at h1
  obtain ⟨y2, e2⟩ := sm 2 (by omega)
  have h2 : DataW.trod enc Tryz.prog W 0 (fun _ => true) true m 113 (List.take (Tryz.prog.cellsOf 113) [a3, a4]) = xs[2]? := hf 2 _ rfl
  rw [sz113, e2] at h2
  obtain ⟨q0, q1, q0, f0_0, f0_1⟩ := place_cells h0
  simp only [List.take, List.cons.injEq, and_true] at q0
  obtain ⟨rfl, rfl⟩ := q0
  obtain ⟨A, c, D, q1, f1_0, f1_1, f1_2, f1_3⟩ := S10.open_ents h1
  simp only [List.take, List.cons.injEq, and_true] at q1
  subst q1
  obtain ⟨q3, q4, q2, f2_0, f2_1⟩ := timer_cells h2
  simp only [List.take, List.cons.injEq, and_true] at q2
  obtain ⟨rfl, rfl⟩ := q2
  exact ⟨q0, q1, A, c, D, q3, q4, rfl, f0_0, f0_1, f1_0, f1_1, f1_2, f1_3, f2_0, f2_1⟩
theorem stores_cells0 {H : Type} {enc : TypeId × Value → H} {W : World} {fuel : Nat} {cs : List Value} {x : DataW H × List MemPlace} (hf : DataW.trod enc Tryz.prog W 0 (fun _ => true) true fuel 26 cs = some x) :
    ∃ A n c, ∃ Y : Nat → Nat × Nat, cs = [.slice A n c] ∧ n ≤ 9223372036854775807 ∧ S2.WIn W W.heap.size A n (fun i => (Y i).1) (fun i => (Y i).2) ∧ S2.WOk n (fun i => (Y i).1) (fun i => (Y i).2) := by
  have y0 : Nat × Nat := (0, 0)
  have hne : Inhabited (Nat × Nat) := ⟨y0⟩
  rcases open_slice Tryz.underlying26 hf with ⟨hc, _⟩ | ⟨⟨lb, lo, spot⟩, len, cap, m, q, D, Pl, hc, _, hl, hm, hmm, _, hi⟩
  · exact ⟨none, 0, 0, fun _ => y0, hc, by omega, fun h => by omega, fun i hi => by omega⟩
  unfold maxLen at hm
  rcases Nat.eq_zero_or_pos len with rfl | hpos
  · exact ⟨_, 0, cap, fun _ => y0, hc, by omega, fun h => by omega, fun i hi => by omega⟩
  have hnm : len ≤ m := by rw [hmm]; simp; exact hl
  have hs : spot = none := by
    obtain ⟨cs, hcs, ht⟩ := hi 0 (by omega)
    obtain ⟨_, hlen, hat⟩ := World.cells?_some hcs
    obtain ⟨s0, s1, e, f0, f1⟩ := store_cells ht
    rw [sz42, e] at hat
    have g0 := hat 0 (by omega)
    have := S10.spot_none g0
    simpa [Addr.add] using this
  subst hs
  have hall : ∀ i, i < len → ∃ y : Nat × Nat, (W.cell? ⟨lb, lo + i * 2, none⟩ = some (.int .u32 (y.1 : Nat)) ∧ W.cell? ⟨lb, lo + i * 2 + 1, none⟩ = some (.int .u64 (y.2 : Nat))) ∧ y.1 < 4294967296 ∧ y.2 < 18446744073709551616 := by
    intro i hin
    obtain ⟨cs, hcs, ht⟩ := hi i (by omega)
    obtain ⟨_, hlen, hat⟩ := World.cells?_some hcs
    obtain ⟨s0, s1, e, f0, f1⟩ := store_cells ht
    rw [sz42, e] at hat
    have g0 := hat 0 (by omega)
    have g1 := hat 1 (by omega)
    rw [S10.add_none, S10.add_none] at g0 g1
    rw [Nat.add_zero] at g0
    obtain ⟨n0, rfl, b0⟩ := u32_of f0
    obtain ⟨n1, rfl, b1⟩ := u64_of f1
    exact ⟨(n0, n1), ⟨g0, g1⟩, b0, b1⟩
  obtain ⟨Y, hY⟩ := choose_lt hall
  exact ⟨_, len, cap, Y, hc, by omega, fun _ => ⟨lb, lo, rfl, World.block_lt_of_cell? W _ (hY 0 hpos).1.1, fun i hi => (hY i hi).1⟩, fun i hi => (hY i hi).2⟩
theorem stores_cells {H : Type} {enc : TypeId × Value → H} {W : World} {fuel : Nat} {cs : List Value} {x : DataW H × List MemPlace} (hf : DataW.trod enc Tryz.prog W 0 (fun _ => true) true fuel 26 cs = some x) :
    ∃ A n c SA SV, cs = [.slice A n c] ∧ n ≤ 9223372036854775807 ∧ S2.WIn W W.heap.size A n SA SV ∧ S2.WOk n SA SV := by
  obtain ⟨A, n, c, Y, h1, h2, h3, h4⟩ := stores_cells0 hf
  exact ⟨A, n, c, fun i => (Y i).1, fun i => (Y i).2, h1, h2, h3, h4⟩
theorem ints_cells {H : Type} {enc : TypeId × Value → H} {W : World} {fuel : Nat} {cs : List Value} {x : DataW H × List MemPlace} (hf : DataW.trod enc Tryz.prog W 0 (fun _ => true) true fuel 27 cs = some x) :
    ∃ A n c Y, cs = [.slice A n c] ∧ n ≤ 9223372036854775807 ∧ GIn W W.heap.size A n Y ∧ ∀ i, i < n → S10.InI (Y i) := by
  rcases open_ints Tryz.underlying27 Tryz.underlying3 sz3 hf with ⟨hc, _⟩ | ⟨⟨lb, lo, spot⟩, len, cap, zs, hc, _, hl, hm, hzl, _, hcell, hwf⟩
  · exact ⟨none, 0, 0, fun _ => 0, hc, by omega, fun h => by omega, fun i hi => by omega⟩
  simp at hzl
  unfold maxLen at hm
  refine ⟨_, len, cap, fun i => zs.getD i 0, hc, by omega, fun hp => ?_, fun i hi => ?_⟩
  · have h0 := hcell 0 (by omega)
    have hs : spot = none := by
      have := S10.spot_none h0
      simpa [Addr.add] using this
    subst hs
    refine ⟨lb, lo, rfl, ?_, fun i hi => ?_⟩
    · rw [S10.add_none] at h0
      exact World.block_lt_of_cell? W _ h0
    · have h1 := hcell i (by omega)
      rw [S10.add_none] at h1
      exact h1
  · have h2 : i < zs.length := by omega
    have e : zs.getD i 0 = zs[i] := by rw [List.getD_eq_getElem?_getD, List.getElem?_eq_getElem h2]; rfl
    show S10.InI (zs.getD i 0)
    rw [e]
    exact S10.inI (hwf _ (List.getElem_mem h2))
theorem queues_cells {H : Type} {enc : TypeId × Value → H} {W : World} {fuel : Nat} {cs : List Value} {x : DataW H × List MemPlace} (hf : DataW.trod enc Tryz.prog W 0 (fun _ => true) true fuel 28 cs = some x) :
    ∃ A n c, ∃ Y : Nat → Qu, cs = [.slice A n c] ∧ n ≤ 9223372036854775807 ∧ QIn W W.heap.size A n Y ∧ ∀ i, i < n → QOk W W.heap.size (Y i) := by
  have y0 : Qu := ⟨0, 0, none, 0, [], 0, 0⟩
  have hne : Inhabited (Qu) := ⟨y0⟩
  rcases open_slice Tryz.underlying28 hf with ⟨hc, _⟩ | ⟨⟨lb, lo, spot⟩, len, cap, m, q, D, Pl, hc, _, hl, hm, hmm, _, hi⟩
  · exact ⟨none, 0, 0, fun _ => y0, hc, by omega, fun h => by omega, fun i hi => by omega⟩
  unfold maxLen at hm
  rcases Nat.eq_zero_or_pos len with rfl | hpos
  · exact ⟨_, 0, cap, fun _ => y0, hc, by omega, fun h => by omega, fun i hi => by omega⟩
  have hnm : len ≤ m := by rw [hmm]; simp; exact hl
  have hs : spot = none := by
    obtain ⟨cs, hcs, ht⟩ := hi 0 (by omega)
    obtain ⟨_, hlen, hat⟩ := World.cells?_some hcs
    obtain ⟨q0, q1, A, c, D, q3, q4, e, f0, f1, f2, f3, f4, f5, f6, f7⟩ := queued_cells ht
    rw [sz115, e] at hat
    have g0 := hat 0 (by omega)
    have := S10.spot_none g0
    simpa [Addr.add] using this
  subst hs
  have hall : ∀ i, i < len → ∃ y : Qu, (W.cell? ⟨lb, lo + i * 5, none⟩ = some (.int .i64 y.b) ∧ W.cell? ⟨lb, lo + i * 5 + 1, none⟩ = some (.int .i64 y.i) ∧ W.cell? ⟨lb, lo + i * 5 + 2, none⟩ = some (.slice y.A y.D.length y.c) ∧ W.cell? ⟨lb, lo + i * 5 + 3, none⟩ = some (.int .u64 y.ta) ∧ W.cell? ⟨lb, lo + i * 5 + 4, none⟩ = some (.int .u64 y.tf)) ∧ QOk W W.heap.size y := by
    intro i hin
    obtain ⟨cs, hcs, ht⟩ := hi i (by omega)
    obtain ⟨_, hlen, hat⟩ := World.cells?_some hcs
    obtain ⟨q0, q1, A, c, D, q3, q4, e, f0, f1, f2, f3, f4, f5, f6, f7⟩ := queued_cells ht
    rw [sz115, e] at hat
    have g0 := hat 0 (by omega)
    have g1 := hat 1 (by omega)
    have g2 := hat 2 (by omega)
    have g3 := hat 3 (by omega)
    have g4 := hat 4 (by omega)
    rw [S10.add_none, S10.add_none] at g0 g1 g2 g3 g4
    rw [Nat.add_zero] at g0
    have hI := S10.inI f0
    exact ⟨⟨q0, q1, A, c, D, q3, q4⟩, ⟨g0, g1, g2, g3, g4⟩, ⟨hI, f2, f3, f4, f5⟩⟩
  obtain ⟨Y, hY⟩ := choose_lt hall
  exact ⟨_, len, cap, Y, hc, by omega, fun _ => ⟨lb, lo, rfl, World.block_lt_of_cell? W _ (hY 0 hpos).1.1, fun i hi => (hY i hi).1⟩, fun i hi => (hY i hi).2⟩
theorem sz23 : Tryz.prog.cellsOf 23 = 1 := by kernel_rfl
theorem sz25 : Tryz.prog.cellsOf 25 = 3 := by kernel_rfl
theorem config_cells {H : Type} {enc : TypeId × Value → H} {W : World} {fuel : Nat} {cs : List Value} {x : DataW H × List MemPlace} (h : DataW.trod enc Tryz.prog W 0 (fun _ => true) true fuel 25 cs = some x) :
    ∃ c0 c1 dA dc D, cs = [.int .i64 c0, .int .u64 c1, .slice dA D.length dc] ∧ (Lit.int .i64 c0).wf = true ∧ (Lit.int .u64 c1).wf = true ∧ D.length ≤ dc ∧ dc ≤ 9223372036854775807 ∧ S3.Rd W W.heap.size dA D ∧ (∀ d ∈ D, d ≤ 18446744073709551615) := by
  obtain ⟨xs, m, _, _, hlen, hxl, hf⟩ := DataW.trod_struct Tryz.underlying25 h
  rw [sz25] at hlen
  obtain ⟨a0, a1, a2, rfl⟩ : ∃ a0 a1 a2, cs = [a0, a1, a2] := by
    match cs, hlen with
    | [a0, a1, a2], _ => exact ⟨a0, a1, a2, rfl⟩
  have sm : ∀ i, i < 3 → ∃ y, xs[i]? = some y := fun i hi => ⟨xs[i]'(by rw [hxl]; exact hi), List.getElem?_eq_getElem _⟩
  obtain ⟨y0, e0⟩ := sm 0 (by omega)
  have h0 : DataW.trod enc Tryz.prog W 0 (fun _ => true) true m 3 (List.take (Tryz.prog.cellsOf 3) [a0, a1, a2]) = xs[0]? := hf 0 _ rfl
  rw [sz3, e0] at h0
  obtain ⟨y1, e1⟩ := sm 1 (by omega)
  have h1 : DataW.trod enc Tryz.prog W 0 (fun _ => true) true m 22 (List.take (Tryz.prog.cellsOf 22) [a1, a2]) = xs[1]? := hf 1 _ rfl
  rw [sz22, e1] at h1
  obtain ⟨y2, e2⟩ := sm 2 (by omega)
  have h2 : DataW.trod enc Tryz.prog W 0 (fun _ => true) true m 23 (List.take (Tryz.prog.cellsOf 23) [a2]) = xs[2]? := hf 2 _ rfl
  rw [sz23, e2] at h2
  obtain ⟨c0, q0, _, f0_0⟩ := DataW.trod_int Tryz.underlying3 h0
  simp at q0
  subst q0
  obtain ⟨c1, q1, _, f1_0⟩ := DataW.trod_int Tryz.underlying22 h1
  simp at q1
  subst q1
  obtain ⟨dA, dc, D, q2, f2_0, f2_1, f2_2, f2_3⟩ := S3.open_list h2
  simp only [List.take, List.cons.injEq, and_true] at q2
  subst q2
  exact ⟨c0, c1, dA, dc, D, rfl, f0_0, f1_0, f2_0, f2_1, f2_2, f2_3⟩
theorem sz26 : Tryz.prog.cellsOf 26 = 1 := by kernel_rfl
theorem sz27 : Tryz.prog.cellsOf 27 = 1 := by kernel_rfl
theorem sz28 : Tryz.prog.cellsOf 28 = 1 := by kernel_rfl
theorem sz30 : Tryz.prog.cellsOf 30 = 7 := by kernel_rfl
theorem tfirst_cells {H : Type} {enc : TypeId × Value → H} {W : World} {fuel : Nat} {cs : List Value} {x : DataW H × List MemPlace} (h : DataW.trod enc Tryz.prog W 0 (fun _ => true) true fuel 30 cs = some x) :
    ∃ t0 t1 t2 t3 t4 sA sn sc SA SV gA gn gc GY qA qn qc QY t8, cs = [.int .i64 t0, .int .u64 t1, .slice t2 t4.length t3, .slice sA sn sc, .slice gA gn gc, .slice qA qn qc, .int .u64 t8] ∧ (Lit.int .i64 t0).wf = true ∧ (Lit.int .u64 t1).wf = true ∧ t4.length ≤ t3 ∧ t3 ≤ 9223372036854775807 ∧ S3.Rd W W.heap.size t2 t4 ∧ (∀ d ∈ t4, d ≤ 18446744073709551615) ∧ sn ≤ 9223372036854775807 ∧ S2.WIn W W.heap.size sA sn SA SV ∧ S2.WOk sn SA SV ∧ gn ≤ 9223372036854775807 ∧ GIn W W.heap.size gA gn GY ∧ (∀ i, i < gn → S10.InI (GY i)) ∧ qn ≤ 9223372036854775807 ∧ QIn W W.heap.size qA qn QY ∧ (∀ i, i < qn → QOk W W.heap.size (QY i)) ∧ (Lit.int .u64 t8).wf = true := by
  obtain ⟨xs, m, _, _, hlen, hxl, hf⟩ := DataW.trod_struct Tryz.underlying30 h
  rw [sz30] at hlen
  obtain ⟨a0, a1, a2, a3, a4, a5, a6, rfl⟩ : ∃ a0 a1 a2 a3 a4 a5 a6, cs = [a0, a1, a2, a3, a4, a5, a6] := by
    match cs, hlen with
    | [a0, a1, a2, a3, a4, a5, a6], _ => exact ⟨a0, a1, a2, a3, a4, a5, a6, rfl⟩
  have sm : ∀ i, i < 5 → ∃ y, xs[i]? = some y := fun i hi => ⟨xs[i]'(by rw [hxl]; exact hi), List.getElem?_eq_getElem _⟩
  obtain ⟨y0, e0⟩ := sm 0 (by omega)
  have h0 : DataW.trod enc Tryz.prog W 0 (fun _ => true) true m 25 (List.take (Tryz.prog.cellsOf 25) [a0, a1, a2, a3, a4, a5, a6]) = xs[0]? := hf 0 _ rfl
  rw [sz25, e0] at h0
  obtain ⟨y1, e1⟩ := sm 1 (by omega)
  have h1 : DataW.trod enc Tryz.prog W 0 (fun _ => true) true m 26 (List.take (Tryz.prog.cellsOf 26) [a3, a4, a5, a6]) = xs[1]? := hf 1 _ rfl
  rw [sz26, e1] at h1
  obtain ⟨y2, e2⟩ := sm 2 (by omega)
  have h2 : DataW.trod enc Tryz.prog W 0 (fun _ => true) true m 27 (List.take (Tryz.prog.cellsOf 27) [a4, a5, a6]) = xs[2]? := hf 2 _ rfl
  rw [sz27, e2] at h2
  obtain ⟨y3, e3⟩ := sm 3 (by omega)
  have h3 : DataW.trod enc Tryz.prog W 0 (fun _ => true) true m 28 (List.take (Tryz.prog.cellsOf 28) [a5, a6]) = xs[3]? := hf 3 _ rfl
  rw [sz28, e3] at h3
  obtain ⟨y4, e4⟩ := sm 4 (by omega)
  have h4 : DataW.trod enc Tryz.prog W 0 (fun _ => true) true m 22 (List.take (Tryz.prog.cellsOf 22) [a6]) = xs[4]? := hf 4 _ rfl
  rw [sz22, e4] at h4
  obtain ⟨t0, t1, t2, t3, t4, q0, f0_0, f0_1, f0_2, f0_3, f0_4, f0_5⟩ := config_cells h0
  simp only [List.take, List.cons.injEq, and_true] at q0
  obtain ⟨rfl, rfl, rfl⟩ := q0
  obtain ⟨sA, sn, sc, SA, SV, q1, f1_0, f1_1, f1_2⟩ := stores_cells h1
  simp only [List.take, List.cons.injEq, and_true] at q1
  subst q1
  obtain ⟨gA, gn, gc, GY, q2, f2_0, f2_1, f2_2⟩ := ints_cells h2
  simp only [List.take, List.cons.injEq, and_true] at q2
  subst q2
  obtain ⟨qA, qn, qc, QY, q3, f3_0, f3_1, f3_2⟩ := queues_cells h3
  simp only [List.take, List.cons.injEq, and_true] at q3
  subst q3
  obtain ⟨t8, q4, _, f4_0⟩ := DataW.trod_int Tryz.underlying22 h4
  simp at q4
  subst q4
  exact ⟨t0, t1, t2, t3, t4, sA, sn, sc, SA, SV, gA, gn, gc, GY, qA, qn, qc, QY, t8, rfl, f0_0, f0_1, f0_2, f0_3, f0_4, f0_5, f1_0, f1_1, f1_2, f2_0, f2_1, f2_2, f3_0, f3_1, f3_2, f4_0⟩
theorem tfirst_open {H : Type} {enc : TypeId × Value → H} {W : World} {v : Value} {d : DataW H} {p : List MemPlace} {r : Reach} {b0 : Nat} (hv : Value.okWide Tryz.prog W r b0 30 v) (h : DataW.Trod enc Tryz.prog W 0 (fun _ => true) true 30 v d p) :
    ∃ t0 t1 t2 t3 t4 sA sn sc SA SV gA gn gc GY qA qn qc QY t8, v = .agg #[.int .i64 t0, .int .u64 t1, .slice t2 t4.length t3, .slice sA sn sc, .slice gA gn gc, .slice qA qn qc, .int .u64 t8] ∧ (Lit.int .i64 t0).wf = true ∧ (Lit.int .u64 t1).wf = true ∧ t4.length ≤ t3 ∧ t3 ≤ 9223372036854775807 ∧ S3.Rd W W.heap.size t2 t4 ∧ (∀ d ∈ t4, d ≤ 18446744073709551615) ∧ sn ≤ 9223372036854775807 ∧ S2.WIn W W.heap.size sA sn SA SV ∧ S2.WOk sn SA SV ∧ gn ≤ 9223372036854775807 ∧ GIn W W.heap.size gA gn GY ∧ (∀ i, i < gn → S10.InI (GY i)) ∧ qn ≤ 9223372036854775807 ∧ QIn W W.heap.size qA qn QY ∧ (∀ i, i < qn → QOk W W.heap.size (QY i)) ∧ (Lit.int .u64 t8).wf = true := by
  obtain ⟨cs, rfl, hsz⟩ := okWide_struct Tryz.underlying30 hv
  obtain ⟨fuel, ht⟩ := h
  obtain ⟨t0, t1, t2, t3, t4, sA, sn, sc, SA, SV, gA, gn, gc, GY, qA, qn, qc, QY, t8, hc, f0, f1, f2, f3, f4, f5, f6, f7, f8, f9, f10, f11, f12, f13, f14, f15⟩ := tfirst_cells ht
  refine ⟨t0, t1, t2, t3, t4, sA, sn, sc, SA, SV, gA, gn, gc, GY, qA, qn, qc, QY, t8, ?_, f0, f1, f2, f3, f4, f5, f6, f7, f8, f9, f10, f11, f12, f13, f14, f15⟩
  obtain ⟨l⟩ := cs
  have e : l = _ := hc
  rw [e]
end S12
namespace S13
open Go.Proofs.YtlflagjnlclffaaGreat.S12
open Go.ChangeShapes Go.WideShapes Go.ChangeAt Go.RowKit Go.Deep
set_option maxRecDepth 100000
theorem sz5 : Tryz.prog.cellsOf 5 = 1 := by kernel_rfl
theorem sz44 : Tryz.prog.cellsOf 44 = 7 := by kernel_rfl
theorem act13_cells {H : Type} {enc : TypeId × Value → H} {W : World} {fuel : Nat} {cs : List Value} {x : DataW H × List MemPlace} (h : DataW.trod enc Tryz.prog W 0 (fun _ => true) true fuel 44 cs = some x) :
    ∃ a0 a1 a2 a3 a4 a5 a6, cs = [.int .u8 a0, .int .u8 a1, .int .i64 a2, .int .u32 a3, .int .u32 a4, .int .u64 a5, .int .i64 a6] ∧ (Lit.int .u8 a0).wf = true ∧ (Lit.int .u8 a1).wf = true ∧ (Lit.int .i64 a2).wf = true ∧ (Lit.int .u32 a3).wf = true ∧ (Lit.int .u32 a4).wf = true ∧ (Lit.int .u64 a5).wf = true ∧ (Lit.int .i64 a6).wf = true := by
  obtain ⟨xs, m, _, _, hlen, hxl, hf⟩ := DataW.trod_struct Tryz.underlying44 h
  rw [sz44] at hlen
  obtain ⟨a0, a1, a2, a3, a4, a5, a6, rfl⟩ : ∃ a0 a1 a2 a3 a4 a5 a6, cs = [a0, a1, a2, a3, a4, a5, a6] := by
    match cs, hlen with
    | [a0, a1, a2, a3, a4, a5, a6], _ => exact ⟨a0, a1, a2, a3, a4, a5, a6, rfl⟩
  have sm : ∀ i, i < 6 → ∃ y, xs[i]? = some y := fun i hi => ⟨xs[i]'(by rw [hxl]; exact hi), List.getElem?_eq_getElem _⟩
  obtain ⟨y0, e0⟩ := sm 0 (by omega)
  have h0 : DataW.trod enc Tryz.prog W 0 (fun _ => true) true m 5 (List.take (Tryz.prog.cellsOf 5) [a0, a1, a2, a3, a4, a5, a6]) = xs[0]? := hf 0 _ rfl
  rw [sz5, e0] at h0
  obtain ⟨y1, e1⟩ := sm 1 (by omega)
  have h1 : DataW.trod enc Tryz.prog W 0 (fun _ => true) true m 5 (List.take (Tryz.prog.cellsOf 5) [a1, a2, a3, a4, a5, a6]) = xs[1]? := hf 1 _ rfl
  rw [sz5, e1] at h1
  obtain ⟨y2, e2⟩ := sm 2 (by omega)
  have h2 : DataW.trod enc Tryz.prog W 0 (fun _ => true) true m 3 (List.take (Tryz.prog.cellsOf 3) [a2, a3, a4, a5, a6]) = xs[2]? := hf 2 _ rfl
  rw [S12.sz3, e2] at h2
  obtain ⟨y3, e3⟩ := sm 3 (by omega)
  have h3 : DataW.trod enc Tryz.prog W 0 (fun _ => true) true m 40 (List.take (Tryz.prog.cellsOf 40) [a3, a4, a5, a6]) = xs[3]? := hf 3 _ rfl
  rw [S12.sz40, e3] at h3
  obtain ⟨y4, e4⟩ := sm 4 (by omega)
  have h4 : DataW.trod enc Tryz.prog W 0 (fun _ => true) true m 42 (List.take (Tryz.prog.cellsOf 42) [a4, a5, a6]) = xs[4]? := hf 4 _ rfl
  rw [S12.sz42, e4] at h4
  obtain ⟨y5, e5⟩ := sm 5 (by omega)
  have h5 : DataW.trod enc Tryz.prog W 0 (fun _ => true) true m 3 (List.take (Tryz.prog.cellsOf 3) [a6]) = xs[5]? := hf 5 _ rfl
  rw [S12.sz3, e5] at h5
  obtain ⟨a0, q0, _, f0_0⟩ := DataW.trod_int Tryz.underlying5 h0
  simp at q0
  subst q0
  obtain ⟨a1, q1, _, f1_0⟩ := DataW.trod_int Tryz.underlying5 h1
  simp at q1
  subst q1
  obtain ⟨a2, q2, _, f2_0⟩ := DataW.trod_int Tryz.underlying3 h2
  simp at q2
  subst q2
  obtain ⟨a3, q3, _, f3_0⟩ := DataW.trod_int Tryz.underlying40 h3
  simp at q3
  subst q3
  obtain ⟨a4, a5, q4, f4_0, f4_1⟩ := S12.store_cells h4
  simp only [List.take, List.cons.injEq, and_true] at q4
  obtain ⟨rfl, rfl⟩ := q4
  obtain ⟨a6, q5, _, f5_0⟩ := DataW.trod_int Tryz.underlying3 h5
  simp at q5
  subst q5
  exact ⟨a0, a1, a2, a3, a4, a5, a6, rfl, f0_0, f1_0, f2_0, f3_0, f4_0, f4_1, f5_0⟩
theorem acts_open13 {H : Type} {enc : TypeId × Value → H} {W : World} {v : Value} {d : DataW H} {p : List MemPlace} {r : Reach} {b0 : Nat} (hv : Value.okWide Tryz.prog W r b0 31 v) (h : DataW.Trod enc Tryz.prog W 0 (fun _ => true) true 31 v d p) :
    ∃ A n c Y, v = .slice A n c ∧ n ≤ 9223372036854775807 ∧ ApIn W W.heap.size A n Y := by
  obtain ⟨a0, len0, cap0, rfl⟩ := okWide_slice Tryz.underlying31 hv
  obtain ⟨fuel, hf⟩ := h
  have y0 : Ap := ⟨0, 0, 0, 0, 0, 0, 0⟩
  have hne : Inhabited Ap := ⟨y0⟩
  rcases open_slice Tryz.underlying31 hf with ⟨hc, _⟩ | ⟨⟨lb, lo, spot⟩, len, cap, m, q, D, Pl, hc, _, hl, hm, hmm, _, hi⟩
  · simp [Value.cells] at hc
    obtain ⟨rfl, rfl, rfl⟩ := hc
    exact ⟨none, 0, 0, fun _ => y0, rfl, by omega, fun h => by omega⟩
  simp [Value.cells] at hc
  obtain ⟨rfl, rfl, rfl⟩ := hc
  unfold maxLen at hm
  rcases Nat.eq_zero_or_pos len0 with rfl | hpos
  · exact ⟨_, 0, _, fun _ => y0, rfl, by omega, fun h => by omega⟩
  have hnm : len0 ≤ m := by rw [hmm]; simp; exact hl
  have hs : spot = none := by
    obtain ⟨cs, hcs, ht⟩ := hi 0 (by omega)
    obtain ⟨_, hlen, hat⟩ := World.cells?_some hcs
    obtain ⟨a0, a1, a2, a3, a4, a5, a6, e, f0, f1, f2, f3, f4, f5, f6⟩ := act13_cells ht
    rw [sz44, e] at hat
    have g0 := hat 0 (by omega)
    have := S10.spot_none g0
    simpa [Addr.add] using this
  subst hs
  have hall : ∀ i, i < len0 → ∃ y : Ap, ApOk y ∧ ∀ j u, y.cs[j]? = some u → W.cell? ⟨lb, lo + i * 7 + j, none⟩ = some u := by
    intro i hin
    obtain ⟨cs, hcs, ht⟩ := hi i (by omega)
    obtain ⟨_, hlen, hat⟩ := World.cells?_some hcs
    obtain ⟨a0, a1, a2, a3, a4, a5, a6, e, f0, f1, f2, f3, f4, f5, f6⟩ := act13_cells ht
    rw [sz44, e] at hat
    have g0 := hat 0 (by omega)
    have g1 := hat 1 (by omega)
    have g2 := hat 2 (by omega)
    have g3 := hat 3 (by omega)
    have g4 := hat 4 (by omega)
    have g5 := hat 5 (by omega)
    have g6 := hat 6 (by omega)
    rw [S10.add_none, S10.add_none] at g0 g1 g2 g3 g4 g5 g6
    obtain ⟨n0, rfl, b0⟩ := S12.u8_of f0
    obtain ⟨n1, rfl, b1⟩ := S12.u8_of f1
    obtain ⟨n3, rfl, b3⟩ := S12.u32_of f3
    obtain ⟨n4, rfl, b4⟩ := S12.u32_of f4
    obtain ⟨n5, rfl, b5⟩ := S12.u64_of f5
    refine ⟨⟨n0, n1, a2, n3, n4, n5, a6⟩, ⟨b0, b1, b3, b4, b5⟩, fun j u hu => ?_⟩
    rcases (show j = 0 ∨ j = 1 ∨ j = 2 ∨ j = 3 ∨ j = 4 ∨ j = 5 ∨ j = 6 ∨ 7 ≤ j by omega) with rfl | rfl | rfl | rfl | rfl | rfl | rfl | h7
    · simp [Ap.cs] at hu; subst hu; exact g0
    · simp [Ap.cs] at hu; subst hu; exact g1
    · simp [Ap.cs] at hu; subst hu; exact g2
    · simp [Ap.cs] at hu; subst hu; exact g3
    · simp [Ap.cs] at hu; subst hu; exact g4
    · simp [Ap.cs] at hu; subst hu; exact g5
    · simp [Ap.cs] at hu; subst hu; exact g6
    · rw [Array.getElem?_eq_none (by show 7 ≤ j; exact h7)] at hu
      cases hu
  obtain ⟨Y, hY⟩ := choose_lt hall
  exact ⟨_, _, _, Y, rfl, by omega, fun _ => ⟨lb, lo, rfl, World.block_lt_of_cell? W _ ((hY 0 hpos).2 0 _ rfl), fun i hi => hY i hi⟩⟩
theorem sz62 : Tryz.prog.cellsOf 62 = 7 := by kernel_rfl
theorem act14_cells {H : Type} {enc : TypeId × Value → H} {W : World} {fuel : Nat} {cs : List Value} {x : DataW H × List MemPlace} (h : DataW.trod enc Tryz.prog W 0 (fun _ => true) true fuel 62 cs = some x) :
    ∃ a0 a1 a2 a3 a4 a5 a6, cs = [.int .u8 a0, .int .u8 a1, .int .i64 a2, .int .u32 a3, .int .u32 a4, .int .u64 a5, .int .i64 a6] ∧ (Lit.int .u8 a0).wf = true ∧ (Lit.int .u8 a1).wf = true ∧ (Lit.int .i64 a2).wf = true ∧ (Lit.int .u32 a3).wf = true ∧ (Lit.int .u32 a4).wf = true ∧ (Lit.int .u64 a5).wf = true ∧ (Lit.int .i64 a6).wf = true := by
  obtain ⟨xs, m, _, _, hlen, hxl, hf⟩ := DataW.trod_struct Tryz.underlying62 h
  rw [sz62] at hlen
  obtain ⟨a0, a1, a2, a3, a4, a5, a6, rfl⟩ : ∃ a0 a1 a2 a3 a4 a5 a6, cs = [a0, a1, a2, a3, a4, a5, a6] := by
    match cs, hlen with
    | [a0, a1, a2, a3, a4, a5, a6], _ => exact ⟨a0, a1, a2, a3, a4, a5, a6, rfl⟩
  have sm : ∀ i, i < 6 → ∃ y, xs[i]? = some y := fun i hi => ⟨xs[i]'(by rw [hxl]; exact hi), List.getElem?_eq_getElem _⟩
  obtain ⟨y0, e0⟩ := sm 0 (by omega)
  have h0 : DataW.trod enc Tryz.prog W 0 (fun _ => true) true m 5 (List.take (Tryz.prog.cellsOf 5) [a0, a1, a2, a3, a4, a5, a6]) = xs[0]? := hf 0 _ rfl
  rw [sz5, e0] at h0
  obtain ⟨y1, e1⟩ := sm 1 (by omega)
  have h1 : DataW.trod enc Tryz.prog W 0 (fun _ => true) true m 5 (List.take (Tryz.prog.cellsOf 5) [a1, a2, a3, a4, a5, a6]) = xs[1]? := hf 1 _ rfl
  rw [sz5, e1] at h1
  obtain ⟨y2, e2⟩ := sm 2 (by omega)
  have h2 : DataW.trod enc Tryz.prog W 0 (fun _ => true) true m 3 (List.take (Tryz.prog.cellsOf 3) [a2, a3, a4, a5, a6]) = xs[2]? := hf 2 _ rfl
  rw [S12.sz3, e2] at h2
  obtain ⟨y3, e3⟩ := sm 3 (by omega)
  have h3 : DataW.trod enc Tryz.prog W 0 (fun _ => true) true m 40 (List.take (Tryz.prog.cellsOf 40) [a3, a4, a5, a6]) = xs[3]? := hf 3 _ rfl
  rw [S12.sz40, e3] at h3
  obtain ⟨y4, e4⟩ := sm 4 (by omega)
  have h4 : DataW.trod enc Tryz.prog W 0 (fun _ => true) true m 42 (List.take (Tryz.prog.cellsOf 42) [a4, a5, a6]) = xs[4]? := hf 4 _ rfl
  rw [S12.sz42, e4] at h4
  obtain ⟨y5, e5⟩ := sm 5 (by omega)
  have h5 : DataW.trod enc Tryz.prog W 0 (fun _ => true) true m 3 (List.take (Tryz.prog.cellsOf 3) [a6]) = xs[5]? := hf 5 _ rfl
  rw [S12.sz3, e5] at h5
  obtain ⟨a0, q0, _, f0_0⟩ := DataW.trod_int Tryz.underlying5 h0
  simp at q0
  subst q0
  obtain ⟨a1, q1, _, f1_0⟩ := DataW.trod_int Tryz.underlying5 h1
  simp at q1
  subst q1
  obtain ⟨a2, q2, _, f2_0⟩ := DataW.trod_int Tryz.underlying3 h2
  simp at q2
  subst q2
  obtain ⟨a3, q3, _, f3_0⟩ := DataW.trod_int Tryz.underlying40 h3
  simp at q3
  subst q3
  obtain ⟨a4, a5, q4, f4_0, f4_1⟩ := S12.store_cells h4
  simp only [List.take, List.cons.injEq, and_true] at q4
  obtain ⟨rfl, rfl⟩ := q4
  obtain ⟨a6, q5, _, f5_0⟩ := DataW.trod_int Tryz.underlying3 h5
  simp at q5
  subst q5
  exact ⟨a0, a1, a2, a3, a4, a5, a6, rfl, f0_0, f1_0, f2_0, f3_0, f4_0, f4_1, f5_0⟩
theorem acts_open14 {H : Type} {enc : TypeId × Value → H} {W : World} {v : Value} {d : DataW H} {p : List MemPlace} {r : Reach} {b0 : Nat} (hv : Value.okWide Tryz.prog W r b0 60 v) (h : DataW.Trod enc Tryz.prog W 0 (fun _ => true) true 60 v d p) :
    ∃ A n c Y, v = .slice A n c ∧ n ≤ 9223372036854775807 ∧ ApIn W W.heap.size A n Y := by
  obtain ⟨a0, len0, cap0, rfl⟩ := okWide_slice Tryz.underlying60 hv
  obtain ⟨fuel, hf⟩ := h
  have y0 : Ap := ⟨0, 0, 0, 0, 0, 0, 0⟩
  have hne : Inhabited Ap := ⟨y0⟩
  rcases open_slice Tryz.underlying60 hf with ⟨hc, _⟩ | ⟨⟨lb, lo, spot⟩, len, cap, m, q, D, Pl, hc, _, hl, hm, hmm, _, hi⟩
  · simp [Value.cells] at hc
    obtain ⟨rfl, rfl, rfl⟩ := hc
    exact ⟨none, 0, 0, fun _ => y0, rfl, by omega, fun h => by omega⟩
  simp [Value.cells] at hc
  obtain ⟨rfl, rfl, rfl⟩ := hc
  unfold maxLen at hm
  rcases Nat.eq_zero_or_pos len0 with rfl | hpos
  · exact ⟨_, 0, _, fun _ => y0, rfl, by omega, fun h => by omega⟩
  have hnm : len0 ≤ m := by rw [hmm]; simp; exact hl
  have hs : spot = none := by
    obtain ⟨cs, hcs, ht⟩ := hi 0 (by omega)
    obtain ⟨_, hlen, hat⟩ := World.cells?_some hcs
    obtain ⟨a0, a1, a2, a3, a4, a5, a6, e, f0, f1, f2, f3, f4, f5, f6⟩ := act14_cells ht
    rw [sz62, e] at hat
    have g0 := hat 0 (by omega)
    have := S10.spot_none g0
    simpa [Addr.add] using this
  subst hs
  have hall : ∀ i, i < len0 → ∃ y : Ap, ApOk y ∧ ∀ j u, y.cs[j]? = some u → W.cell? ⟨lb, lo + i * 7 + j, none⟩ = some u := by
    intro i hin
    obtain ⟨cs, hcs, ht⟩ := hi i (by omega)
    obtain ⟨_, hlen, hat⟩ := World.cells?_some hcs
    obtain ⟨a0, a1, a2, a3, a4, a5, a6, e, f0, f1, f2, f3, f4, f5, f6⟩ := act14_cells ht
    rw [sz62, e] at hat
    have g0 := hat 0 (by omega)
    have g1 := hat 1 (by omega)
    have g2 := hat 2 (by omega)
    have g3 := hat 3 (by omega)
    have g4 := hat 4 (by omega)
    have g5 := hat 5 (by omega)
    have g6 := hat 6 (by omega)
    rw [S10.add_none, S10.add_none] at g0 g1 g2 g3 g4 g5 g6
    obtain ⟨n0, rfl, b0⟩ := S12.u8_of f0
    obtain ⟨n1, rfl, b1⟩ := S12.u8_of f1
    obtain ⟨n3, rfl, b3⟩ := S12.u32_of f3
    obtain ⟨n4, rfl, b4⟩ := S12.u32_of f4
    obtain ⟨n5, rfl, b5⟩ := S12.u64_of f5
    refine ⟨⟨n0, n1, a2, n3, n4, n5, a6⟩, ⟨b0, b1, b3, b4, b5⟩, fun j u hu => ?_⟩
    rcases (show j = 0 ∨ j = 1 ∨ j = 2 ∨ j = 3 ∨ j = 4 ∨ j = 5 ∨ j = 6 ∨ 7 ≤ j by omega) with rfl | rfl | rfl | rfl | rfl | rfl | rfl | h7
    · simp [Ap.cs] at hu; subst hu; exact g0
    · simp [Ap.cs] at hu; subst hu; exact g1
    · simp [Ap.cs] at hu; subst hu; exact g2
    · simp [Ap.cs] at hu; subst hu; exact g3
    · simp [Ap.cs] at hu; subst hu; exact g4
    · simp [Ap.cs] at hu; subst hu; exact g5
    · simp [Ap.cs] at hu; subst hu; exact g6
    · rw [Array.getElem?_eq_none (by show 7 ≤ j; exact h7)] at hu
      cases hu
  obtain ⟨Y, hY⟩ := choose_lt hall
  exact ⟨_, _, _, Y, rfl, by omega, fun _ => ⟨lb, lo, rfl, World.block_lt_of_cell? W _ ((hY 0 hpos).2 0 _ rfl), fun i hi => hY i hi⟩⟩
theorem bulk_one {H : Type} (d : DataW H) : 1 ≤ Rows.uptoBulk d := by
  cases d with
  | lit l => cases l <;> simp [Rows.uptoBulk]
  | nil => simp [Rows.uptoBulk]
  | ptr d => simp [Rows.uptoBulk]
  | slice elems spare => simp [Rows.uptoBulk]
  | agg parts => simp [Rows.uptoBulk]
  | iface t d => simp [Rows.uptoBulk]
  | map entries => simp [Rows.uptoBulk]
  | held h => simp [Rows.uptoBulk]
theorem bulk_len {H : Type} : ∀ l : List (DataW H), l.length ≤ Rows.uptoBulkAll l
  | [] => by simp [Rows.uptoBulkAll]
  | x :: r => by
    have h1 := bulk_one x
    have h2 := bulk_len r
    simp only [Rows.uptoBulkAll, List.length_cons]
    omega
theorem bulk_part {H : Type} {d : DataW H} : ∀ {l : List (DataW H)}, d ∈ l → Rows.uptoBulk d ≤ Rows.uptoBulkAll l
  | x :: r, h => by
    simp only [Rows.uptoBulkAll]
    rcases List.mem_cons.1 h with e | e
    · subst e; omega
    · have := bulk_part e; omega
theorem bulk_agg {H : Type} {d : DataW H} {l : List (DataW H)} (h : d ∈ l) : Rows.uptoBulk d ≤ Rows.uptoBulk (.agg l) := by
  have := bulk_part h
  simp only [Rows.uptoBulk]
  omega
theorem slice_bulk {H : Type} {enc : TypeId × Value → H} {W : World} {fuel T E : Nat} {x : DataW H × List MemPlace} {A : Option Addr} {n c : Nat} (hu : Tryz.prog.underlying T = some (.slice E)) (h : DataW.trod enc Tryz.prog W 0 (fun _ => true) true fuel T [.slice A n c] = some x) : n ≤ Rows.uptoBulk x.1 := by
  rcases open_slice hu h with ⟨hc, rfl⟩ | ⟨a, len, cap, m, q, D, Pl, hc, _, _, _, _, rfl, _⟩
  · simp at hc
    obtain ⟨rfl, rfl, rfl⟩ := hc
    omega
  · simp at hc
    obtain ⟨rfl, rfl, rfl⟩ := hc
    have h1 := bulk_len ((List.range n).map D)
    simp only [List.length_map, List.length_range] at h1
    simp only [Rows.uptoBulk]
    omega
theorem first_bulk {H : Type} {enc : TypeId × Value → H} {W : World} {d : DataW H} {p : List MemPlace} {v0 v1 v6 : Value} {dA sA gA qA : Option Addr} {dn dc sn sc gn gc qn qc : Nat}
    (h : DataW.Trod enc Tryz.prog W 0 (fun _ => true) true 30 (.agg #[v0, v1, .slice dA dn dc, .slice sA sn sc, .slice gA gn gc, .slice qA qn qc, v6]) d p) : dn ≤ Rows.uptoBulk d ∧ sn ≤ Rows.uptoBulk d := by
  obtain ⟨fuel, hf⟩ := h
  obtain ⟨xs, m, _, hx, hlen, hxl, hf⟩ := DataW.trod_struct Tryz.underlying30 hf
  have hd : d = .agg (xs.map (·.1)) := congrArg Prod.fst hx
  have sm : ∀ i, i < 5 → ∃ y, xs[i]? = some y := fun i hi => ⟨xs[i]'(by rw [hxl]; exact hi), List.getElem?_eq_getElem _⟩
  obtain ⟨y0, e0⟩ := sm 0 (by omega)
  obtain ⟨y1, e1⟩ := sm 1 (by omega)
  have h0 : DataW.trod enc Tryz.prog W 0 (fun _ => true) true m 25 (List.take (Tryz.prog.cellsOf 25) [v0, v1, .slice dA dn dc, .slice sA sn sc, .slice gA gn gc, .slice qA qn qc, v6]) = xs[0]? := hf 0 _ rfl
  have h1 : DataW.trod enc Tryz.prog W 0 (fun _ => true) true m 26 (List.take (Tryz.prog.cellsOf 26) [.slice sA sn sc, .slice gA gn gc, .slice qA qn qc, v6]) = xs[1]? := hf 1 _ rfl
  rw [S12.sz25, e0] at h0
  rw [S12.sz26, e1] at h1
  simp only [List.take] at h0 h1
  obtain ⟨zs, m2, _, hx2, hlen2, hxl2, hf2⟩ := DataW.trod_struct Tryz.underlying25 h0
  have hd2 : y0.1 = .agg (zs.map (·.1)) := congrArg Prod.fst hx2
  have sm2 : ∀ i, i < 3 → ∃ y, zs[i]? = some y := fun i hi => ⟨zs[i]'(by rw [hxl2]; exact hi), List.getElem?_eq_getElem _⟩
  obtain ⟨y2, e2⟩ := sm2 2 (by omega)
  have h2 : DataW.trod enc Tryz.prog W 0 (fun _ => true) true m2 23 (List.take (Tryz.prog.cellsOf 23) [.slice dA dn dc]) = zs[2]? := hf2 2 _ rfl
  rw [S12.sz23, e2] at h2
  simp only [List.take] at h2
  have b2 := slice_bulk Tryz.underlying23 h2
  have b1 := slice_bulk Tryz.underlying26 h1
  have m0 : Rows.uptoBulk y0.1 ≤ Rows.uptoBulk d := by rw [hd]; exact bulk_agg (List.mem_map.2 ⟨y0, List.mem_of_getElem? e0, rfl⟩)
  have m1 : Rows.uptoBulk y1.1 ≤ Rows.uptoBulk d := by rw [hd]; exact bulk_agg (List.mem_map.2 ⟨y1, List.mem_of_getElem? e1, rfl⟩)
  have m3 : Rows.uptoBulk y2.1 ≤ Rows.uptoBulk y0.1 := by rw [hd2]; exact bulk_agg (List.mem_map.2 ⟨y2, List.mem_of_getElem? e2, rfl⟩)
  omega
theorem rd3_up {w : World} {base b : Nat} {A : Option Addr} {D : List Nat} (h : S3.Rd w base A D) (hb : base ≤ b) : S3.Rd w b A D := fun hp => by
  obtain ⟨g, o, e, hl, hr⟩ := h hp
  exact ⟨g, o, e, Nat.lt_of_lt_of_le hl hb, hr⟩
theorem rd10_up {w : World} {base b : Nat} {A : Option Addr} {D : List Value} (h : S10.Rd w base A D) (hb : base ≤ b) : S10.Rd w b A D := fun hp => by
  obtain ⟨g, o, e, hl, hr⟩ := h hp
  exact ⟨g, o, e, Nat.lt_of_lt_of_le hl hb, hr⟩
theorem win_up {w : World} {base b : Nat} {A : Option Addr} {n : Nat} {F G : Nat → Nat} (h : S2.WIn w base A n F G) (hb : base ≤ b) : S2.WIn w b A n F G := fun hp => by
  obtain ⟨g, o, e, hl, hr⟩ := h hp
  exact ⟨g, o, e, Nat.lt_of_lt_of_le hl hb, hr⟩
theorem gin_up {w : World} {base b : Nat} {A : Option Addr} {n : Nat} {F : Nat → Int} (h : S12.GIn w base A n F) (hb : base ≤ b) : S12.GIn w b A n F := fun hp => by
  obtain ⟨g, o, e, hl, hr⟩ := h hp
  exact ⟨g, o, e, Nat.lt_of_lt_of_le hl hb, hr⟩
theorem qin_up {w : World} {base b : Nat} {A : Option Addr} {n : Nat} {F : Nat → S12.Qu} (h : S12.QIn w base A n F) (hb : base ≤ b) : S12.QIn w b A n F := fun hp => by
  obtain ⟨g, o, e, hl, hr⟩ := h hp
  exact ⟨g, o, e, Nat.lt_of_lt_of_le hl hb, hr⟩
theorem qok_up {w : World} {base b : Nat} {q : S12.Qu} (h : S12.QOk w base q) (hb : base ≤ b) : S12.QOk w b q := ⟨h.b, h.le, h.c, rd10_up h.rd hb, h.keys⟩
theorem bulk_small {H : Type} {l : List (DataW H)} (hk : Rows.uptoSmall H l = true) : Rows.uptoBulkAll l ≤ 1048576 := of_decide_eq_true hk
end S13
end Go.Proofs.YtlflagjnlclffaaGreat
namespace Go.Proofs.YtlflagjnlclffaaGreat.S14
open Go.Proofs.YtlflagjnlclffaaGreat Go.Proofs.YtlflagjnlclffaaGreat.S11 Go.Proofs.YtlflagjnlclffaaGreat.S12 Go.Proofs.YtlflagjnlclffaaGreat.S13
open Go.RowKit
structure Fr where
  ln : Nat
  a : Nat
  l : Bool
  q : Bool
  h : Int
  w : Nat
  t : Int
def fr0 (a : Nat) : Fr := ⟨1, a, false, false, 0, 0, 0⟩
def idle (u : Nat) : Bool := S1.bitB u 1 || decide (S1.headN u = -1)
def wq (u : Nat) (b : Bool) : Nat := S1.putU (S1.bitB u 0) b (S1.headN u)
def Fr.says (K : Fr) (u : Nat) : Fr := { K with l := S1.bitB u 0, q := S1.bitB u 1, h := S1.headN u, w := u }
def Fr.look (K : Fr) : Fr := { K with ln := if idle K.w = true then 0 else 3 }
def seekL (S : S5.Lk) (u : Nat) : S5.Lk × Int × Nat :=
  if (S5.seekO S (hdO u)).2 = 0 then ((S5.seekO S (hdO u)).1, -1, 0)
  else if S1.bitB u 0 = true then ((S5.seekO S (hdO u)).1, ((S5.seekO S (hdO u)).2 : Int) - 1, 4)
  else if (S5.seekO S (hdO u)).1 (((S5.seekO S (hdO u)).2 - 1) * 3 + 1) = 0 then ((S5.seekO S (hdO u)).1, ((S5.seekO S (hdO u)).2 : Int) - 1, 5)
  else ((S5.cutO (S5.seekO S (hdO u)).1 (hdO u) (some ((S5.seekO S (hdO u)).2 - 1))).1, ((S5.seekO S (hdO u)).2 : Int) - 1, 6)
def Fr.seek (K : Fr) (S : S5.Lk) : Fr := { K with t := (seekL S K.w).2.1, ln := (seekL S K.w).2.2 }
def fstepM (M : Sd) (K : Fr) : Sd :=
  match K.ln with
  | 1 => M.acc 5 K.a ((S2.look M.L K.a + 18446744073709551615) % 18446744073709551616)
  | 2 => M.acc 1 K.a (S2.look M.L K.a)
  | 3 => if S2.look M.L K.a = K.w then (M.acc 3 K.a (S2.casV (S2.look M.L K.a) K.w (wq K.w true))).link (seekL M.lk (wq K.w true)).1 else M.acc 3 K.a (S2.casV (S2.look M.L K.a) K.w (wq K.w true))
  | 4 => if S2.look M.L K.a = K.w then M.acc 3 K.a (S2.casV (S2.look M.L K.a) K.w (wq K.w false)) else (M.acc 3 K.a (S2.casV (S2.look M.L K.a) K.w (wq K.w false))).link (seekL M.lk (S2.look M.L K.a)).1
  | 5 => if S2.look M.L K.a = K.w then M.acc 3 K.a (S2.casV (S2.look M.L K.a) K.w 0) else (M.acc 3 K.a (S2.casV (S2.look M.L K.a) K.w 0)).link (seekL M.lk (S2.look M.L K.a)).1
  | 6 => M.acc 6 K.a (S2.look M.L K.a &&& 18446744073709551613)
  | 7 => M.unpark (2 * K.t.toNat + 1)
  | _ => M
def fstepK (M : Sd) (K : Fr) : Fr :=
  match K.ln with
  | 1 => { K with ln := if idle (S2.look M.L K.a) = true then 0 else 2, l := S1.bitB (S2.look M.L K.a) 0, q := S1.bitB (S2.look M.L K.a) 1, h := S1.headN (S2.look M.L K.a) }
  | 2 => (K.says (S2.look M.L K.a)).look
  | 3 => if S2.look M.L K.a = K.w then ({ K with q := true, w := wq K.w true } : Fr).seek M.lk else (K.says (S2.look M.L K.a)).look
  | 4 => if S2.look M.L K.a = K.w then { K with ln := 0, q := false } else (K.says (S2.look M.L K.a)).seek M.lk
  | 5 => if S2.look M.L K.a = K.w then { K with ln := 7, l := false, q := false, h := -1 } else (K.says (S2.look M.L K.a)).seek M.lk
  | 6 => { K with ln := 7 }
  | 7 => { K with ln := 0 }
  | _ => K
structure FrOk (M : Sd) (K : Fr) : Prop where
  a : K.a < 4294967296
  w : K.w < 18446744073709551616
  con : 3 ≤ K.ln → K.ln ≤ 5 → K.l = S1.bitB K.w 0 ∧ K.q = S1.bitB K.w 1 ∧ K.h = S1.headN K.w ∧ S1.headN K.w ≠ -1
  t : 4 ≤ K.ln → 0 ≤ K.t ∧ K.t ≤ 63
  n : M.n ≤ 1000000000
  pn : M.pn ≤ 1000000000
theorem word_put {u : Nat} (h : S1.headN u ≠ -1) : S1.putU (S1.bitB u 0) (S1.bitB u 1) (S1.headN u) = u ∧ u ≤ 259 := by
  have hu : u ≤ 259 := by
    unfold S1.headN at h
    split at h
    · omega
    · exact absurd rfl h
  refine ⟨?_, hu⟩
  have e := S1.put_as u hu
  unfold S1.putU
  rw [e]; rfl
theorem wq_says (u : Nat) (b : Bool) : S1.bitB (wq u b) 0 = S1.bitB u 0 ∧ S1.bitB (wq u b) 1 = b ∧ S1.headN (wq u b) = S1.headN u := by
  obtain ⟨n, e, _, h0, h1, h2⟩ := S1.put_nat (S1.bitB u 0) b (S1.headN u) (S1.head_is u)
  have e2 : wq u b = n := by unfold wq S1.putU; rw [e]; rfl
  rw [e2]
  exact ⟨h0, h1, h2⟩
theorem wq_lt (u : Nat) (b : Bool) : wq u b < 18446744073709551616 := S1.putU_lt _ _ _
end Go.Proofs.YtlflagjnlclffaaGreat.S14
namespace Go.Proofs.YtlflagjnlclffaaGreat.S14
open Go.Proofs.YtlflagjnlclffaaGreat Go.Proofs.YtlflagjnlclffaaGreat.S11 Go.Proofs.YtlflagjnlclffaaGreat.S12 Go.Proofs.YtlflagjnlclffaaGreat.S13
open Go.RowKit
def to2 (J0 J1 : Act → World → Prop) (Q : Exit → Act → World → Prop) : Exit → Act → World → Prop
  | .goto l, a, w => (l = 0 ∧ J0 a w) ∨ (l = 1 ∧ J1 a w)
  | e, a, w => Q e a w
theorem wp_scope_two {P : Program} {a : Act} {w : World} {Q : Exit → Act → World → Prop} {c r0 r1 : Code} (hf0 : findLabel c 0 = some r0) (hf1 : findLabel c 1 = some r1)
    (first : c.wp P (to2 (fun a w => r0.wp P (Exit.noGoto Q) a w) (fun a w => r1.wp P (Exit.noGoto Q) a w) Q) a w) : (Code.scope c).wp P Q a w := by
  intro b k cs
  have key : ∀ (rest : Code) (a : Act) (w : World) (l : Nat), gotoIn l (.inScope c :: k) = some (.code rest :: .inScope c :: k) → rest.wp P (Exit.noGoto Q) a w →
      ∃ e a' w', Q e a' w' ∧ Arrives P (lone (b.at a (.code rest :: .inScope c :: k)) cs w) b k cs e a' w' := by
    intro rest a w l hg h
    obtain ⟨e, a₁, w₁, hq, harr⟩ := h b (.inScope c :: k) cs
    cases e with
    | normal => exact ⟨.normal, a₁, w₁, hq, Steps.trans harr (.one step_inScope)⟩
    | exit id => exact ⟨.exit id, a₁, w₁, hq, fun k' hk => harr k' (by simp [exitTo, hk])⟩
    | goto l' => exact hq.elim
    | ret => exact ⟨_, a₁, w₁, hq, harr⟩
    | panic ch => exact ⟨_, a₁, w₁, hq, harr⟩
    | outgrown => exact ⟨_, a₁, w₁, hq, harr⟩
  obtain ⟨e, a₁, w₁, hq, harr⟩ := first b (.inScope c :: k) cs
  cases e with
  | normal => exact ⟨.normal, a₁, w₁, hq, .head step_scope (Steps.trans harr (.one step_inScope))⟩
  | exit id => exact ⟨.exit id, a₁, w₁, hq, fun k' hk => .head step_scope (harr k' (by simp [exitTo, hk]))⟩
  | goto l' =>
    rcases hq with ⟨rfl, h⟩ | ⟨rfl, h⟩
    · have hg : gotoIn 0 (.inScope c :: k) = some (.code r0 :: .inScope c :: k) := by simp [gotoIn, hf0]
      obtain ⟨e₂, a₂, w₂, hq₂, harr₂⟩ := key _ _ _ 0 hg h
      exact ⟨e₂, a₂, w₂, hq₂, .of_steps (.head step_scope (harr _ hg)) harr₂⟩
    · have hg : gotoIn 1 (.inScope c :: k) = some (.code r1 :: .inScope c :: k) := by simp [gotoIn, hf1]
      obtain ⟨e₂, a₂, w₂, hq₂, harr₂⟩ := key _ _ _ 1 hg h
      exact ⟨e₂, a₂, w₂, hq₂, .of_steps (.head step_scope (harr _ hg)) harr₂⟩
  | ret => exact ⟨_, a₁, w₁, hq, .of_steps (.one step_scope) harr⟩
  | panic ch => exact ⟨_, a₁, w₁, hq, .of_steps (.one step_scope) harr⟩
  | outgrown => exact ⟨_, a₁, w₁, hq, .of_steps (.one step_scope) harr⟩
section
variable {w0 w w' : World} {base WB : Nat} {M : Sd} {r : List Part} {X : Wm}
theorem pg_add (h : Pg w0 w base WB M r X) {a v : Nat} (ha : a < 4294967296) (hv : v < 18446744073709551616) (hn : M.n ≤ 1000000000) :
    Calls Tryz.prog 135 #[Pw X.cB, .int .u32 a, .int .u64 v] w fun e w' => e = .returned (.int .u64 (S2.look M.L a : Nat)) ∧ ∃ X', Pg w0 w' base WB (M.acc 5 a ((S2.look M.L a + v) % 18446744073709551616)) r X' ∧ X'.cB = X.cB := by
  have e : X.L = M.L := congrArg Sd.L h.xm
  have e2 : X.n = M.n := congrArg Sd.n h.xm
  rw [← e]
  refine (S2.add_any w X.cB X.cM X.L X.n X.k X.a X.was X.is a v h.pw.cells ha hv (by omega)).mono ?_
  rintro e w' ⟨rfl, hl⟩
  exact ⟨rfl, h.left hl⟩
theorem pg_and (h : Pg w0 w base WB M r X) {a v : Nat} (ha : a < 4294967296) (hv : v < 18446744073709551616) (hn : M.n ≤ 1000000000) :
    Calls Tryz.prog 139 #[Pw X.cB, .int .u32 a, .int .u64 v] w fun e w' => e = .returned (.int .u64 (S2.look M.L a : Nat)) ∧ ∃ X', Pg w0 w' base WB (M.acc 6 a (S2.look M.L a &&& v)) r X' ∧ X'.cB = X.cB := by
  have e : X.L = M.L := congrArg Sd.L h.xm
  have e2 : X.n = M.n := congrArg Sd.n h.xm
  rw [← e]
  refine (S2.and_any w X.cB X.cM X.L X.n X.k X.a X.was X.is a v h.pw.cells ha hv (by omega)).mono ?_
  rintro e w' ⟨rfl, hl⟩
  exact ⟨rfl, h.left hl⟩
theorem pg_lk (h : Pg w0 w base WB M r X) : X.lk = M.lk := congrArg Sd.lk h.xm
theorem pg_seek (h : Pg w0 w base WB M r X) {x : Int} {o : Option Nat} (hx : S5.Num x o) :
    Calls Tryz.prog 140 #[Pw X.lB, .int .i64 x] w fun e w' => e = .returned (.int .i64 (((S5.seekO M.lk o).2 : Int) - 1)) ∧ ∃ X', Pg w0 w' base WB (M.link (S5.seekO M.lk o).1) r X' ∧ X'.lB = X.lB := by
  have e := pg_lk h
  rw [← e]
  refine (S5.seek_any h.pw.links hx).mono ?_
  rintro e w' ⟨rfl, hh, ht⟩
  exact ⟨rfl, h.links ⟨hh, ht⟩⟩
theorem pg_cut (h : Pg w0 w base WB M r X) {x y : Int} {a b : Option Nat} (hx : S5.Num x a) (hy : S5.Num y b) :
    Calls Tryz.prog 141 #[Pw X.lB, .int .i64 x, .int .i64 y] w fun e w' => e = .returned (.int .i64 (((S5.cutO M.lk a b).2 : Int) - 1)) ∧ ∃ X', Pg w0 w' base WB (M.link (S5.cutO M.lk a b).1) r X' ∧ X'.lB = X.lB := by
  have e := pg_lk h
  rw [← e]
  refine (S5.cut_any h.pw.links hx hy).mono ?_
  rintro e w' ⟨rfl, hh, ht⟩
  exact ⟨rfl, h.links ⟨hh, ht⟩⟩
theorem pg_at (h : Pg w0 w base WB M r X) {t : Nat} (ht : t < 64) :
    Calls Tryz.prog 70 #[Pw X.lB, .int .i64 (t : Int)] w fun e w' => e = .returned (S5.lnk M.lk t) ∧ Below w.heap.size w w' := by
  have e := pg_lk h
  rw [← e]
  exact S5.at_yes h.pw.links t ht
theorem pg_le (h : Pg w0 w base WB M r X) (i : Nat) : M.lk i ≤ 64 := by
  have e := pg_lk h
  rw [← e]
  exact h.pw.links.le i
end
def Fr.cs (K : Fr) : Array Value := #[.int .u8 (K.ln : Int), .int .u32 (K.a : Int), .bool K.l, .bool K.q, .int .i64 K.h, .int .i64 K.t]
def freeP (B : Nat) (K : Fr) : Part := blockP B (.cells K.cs 77)
structure Wf (w0 w : World) (base WB : Nat) (M : Sd) (r : List Part) (j B : Nat) (K : Fr) (X : Wm) : Prop where
  pg : Pg w0 w base WB M (r.set j (freeP B K)) X
  hj : j < r.length
section
variable {w0 w w' : World} {base WB : Nat} {M : Sd} {r : List Part} {j B : Nat} {K : Fr} {X : Wm}
theorem Wf.new (h : Wf w0 w base WB M r j B K X) (b : Below w.heap.size w w') : Wf w0 w' base WB M r j B K X := ⟨h.pg.new b, h.hj⟩
theorem Wf.part (h : Wf w0 w base WB M r j B K X) : (r.set j (freeP B K))[j]? = some (freeP B K) := List.getElem?_set_self h.hj
theorem Wf.blk (h : Wf w0 w base WB M r j B K X) : w.heap[B]? = some (.cells K.cs 77 (0, 0)) := h.pg.ps.ok _ _ (h.pg.part h.part)
theorem Wf.b0 (h : Wf w0 w base WB M r j B K X) : w.cell? ⟨B, 0, none⟩ = some (.int .u8 (K.ln : Int)) := cell_row h.blk 0
theorem Wf.b1 (h : Wf w0 w base WB M r j B K X) : w.cell? ⟨B, 1, none⟩ = some (.int .u32 (K.a : Int)) := cell_row h.blk 1
theorem Wf.b2 (h : Wf w0 w base WB M r j B K X) : w.cell? ⟨B, 2, none⟩ = some (.bool K.l) := cell_row h.blk 2
theorem Wf.b3 (h : Wf w0 w base WB M r j B K X) : w.cell? ⟨B, 3, none⟩ = some (.bool K.q) := cell_row h.blk 3
theorem Wf.b4 (h : Wf w0 w base WB M r j B K X) : w.cell? ⟨B, 4, none⟩ = some (.int .i64 K.h) := cell_row h.blk 4
theorem Wf.b5 (h : Wf w0 w base WB M r j B K X) : w.cell? ⟨B, 5, none⟩ = some (.int .i64 K.t) := cell_row h.blk 5
theorem Wf.fz (h : Wf w0 w base WB M r j B K X) (i : Nat) : w.frozen? ⟨B, i, none⟩ = false := froz_row h.blk i
theorem Wf.look (h : Wf w0 w base WB M r j B K X) (a : Nat) : S2.look M.L a < 18446744073709551616 := by
  have := S2.look_lt h.pg.pw.cells.good a
  rwa [show X.L = M.L from congrArg Sd.L h.pg.xm] at this
theorem Wf.put (h : Wf w0 w base WB M r j B K X) (K' : Fr) (hq : w'.heap[B]? = some (.cells K'.cs 77 (0, 0))) (t : Turns (fun k => k = B) w w') : Wf w0 w' base WB M r j B K' X := by
  have := h.pg.turn h.part (freeP B K') hq t (fun k e => .inl e)
  rw [List.set_set] at this
  exact ⟨this, h.hj⟩
theorem Wf.recast (h : Wf w0 w base WB M r j B K X) (K' : Fr) (e : K'.cs = K.cs) : Wf w0 w base WB M r j B K' X := by
  refine ⟨?_, h.hj⟩
  have := h.pg
  unfold freeP at this ⊢
  rw [e]; exact this
theorem Wf.word (h : Wf w0 w base WB M r j B K X) (l q : Bool) (hd : Int) (u : Nat) : Wf w0 (((w.setCell ⟨B, 2, none⟩ (.bool l)).setCell ⟨B, 3, none⟩ (.bool q)).setCell ⟨B, 4, none⟩ (.int .i64 hd)) base WB M r j B { K with l := l, q := q, h := hd, w := u } X :=
  h.put _ (set_blk (set_blk (set_blk h.blk 2 (.bool l) _ rfl) 3 (.bool q) _ rfl) 4 (.int .i64 hd) _ (by simp [Fr.cs]))
    ((((Turns.refl (fun k => k = B) w).setCell ⟨B, 2, none⟩ _ rfl).setCell ⟨B, 3, none⟩ _ rfl).setCell ⟨B, 4, none⟩ _ rfl)
theorem Wf.tail (h : Wf w0 w base WB M r j B K X) (t : Int) : Wf w0 (w.setCell ⟨B, 5, none⟩ (.int .i64 t)) base WB M r j B { K with t := t } X :=
  h.put _ (set_blk h.blk 5 (.int .i64 t) _ (by simp [Fr.cs])) ((Turns.refl (fun k => k = B) w).setCell ⟨B, 5, none⟩ _ rfl)
theorem Wf.line (h : Wf w0 w base WB M r j B K X) (n : Nat) : Wf w0 (w.setCell ⟨B, 0, none⟩ (.int .u8 (n : Int))) base WB M r j B { K with ln := n } X :=
  h.put _ (set_blk h.blk 0 (.int .u8 (n : Int)) _ (by simp [Fr.cs])) ((Turns.refl (fun k => k = B) w).setCell ⟨B, 0, none⟩ _ rfl)
theorem Wf.pushB (h : Wf w0 w base WB M r j B K X) (ob : Obj) : Wf w0 (w.alloc ob) base WB M (r ++ [blockP w.heap.size ob]) j B K X := by
  have hp := h.pg.ps.push (blockP w.heap.size ob) (below1 w ob) (heap_alloc_new w ob) (fun k e => Nat.le_of_eq (show k = w.heap.size from e).symm)
  rw [List.append_assoc] at hp
  refine ⟨⟨?_, h.pg.wB, h.pg.xm, h.pg.bl.alloc h.pg.size _⟩, by rw [List.length_append]; have := h.hj; simp; omega⟩
  rw [List.set_append_left _ _ h.hj]
  exact hp
theorem Wf.dropB {q : Part} (h : Wf w0 w base WB M (r ++ [q]) j B K X) (hj : j < r.length) : Wf w0 w base WB M r j B K X := by
  have hp := h.pg.ps
  rw [List.set_append_left _ _ hj, ← List.append_assoc] at hp
  exact ⟨⟨Parts.left hp, h.pg.wB, h.pg.xm, h.pg.bl⟩, hj⟩
theorem Wf.last {Q : Nat} {ob : Obj} (h : Wf w0 w base WB M (r ++ [blockP Q ob]) j B K X) (hj : j < r.length) : w.heap[Q]? = some ob := by
  have hp := h.pg.ps
  rw [List.set_append_left _ _ hj, ← List.append_assoc] at hp
  exact hp.ok _ (blockP Q ob) (by rw [List.getElem?_append_right (by rw [List.length_append, List.length_set]; exact Nat.le_refl _)]; simp)
theorem Wf.turnLast {Q : Nat} {ob : Obj} (h : Wf w0 w base WB M (r ++ [blockP Q ob]) j B K X) (hj : j < r.length) (ob' : Obj) (hq : w'.heap[Q]? = some ob') (t : Turns (fun k => k = Q) w w') : Wf w0 w' base WB M (r ++ [blockP Q ob']) j B K X := by
  have hi : ((r ++ [blockP Q ob]).set j (freeP B K))[r.length]? = some (blockP Q ob) := by
    rw [List.set_append_left _ _ hj, List.getElem?_append_right (by rw [List.length_set]; exact Nat.le_refl _), List.length_set, Nat.sub_self]; rfl
  have hp := h.pg.turn hi (blockP Q ob') hq t (fun k e => .inl e)
  refine ⟨?_, by rw [List.length_append]; simp; omega⟩
  have e : ((r ++ [blockP Q ob]).set j (freeP B K)).set r.length (blockP Q ob') = (r ++ [blockP Q ob']).set j (freeP B K) := by
    rw [List.set_append_left _ _ hj, List.set_append_left _ _ hj, List.set_append_right _ _ (by rw [List.length_set]; exact Nat.le_refl _), List.length_set, Nat.sub_self]; rfl
  rw [e] at hp
  exact hp
theorem done_f (q : Bool) (hd : Int) (c3 : w.cell? ⟨B, 3, none⟩ = some (.bool q)) (c4 : w.cell? ⟨B, 4, none⟩ = some (.int .i64 hd)) : Calls Tryz.prog 136 #[.pointer (some ⟨B, 2, none⟩)] w fun e w' => e = .returned (.bool (q || decide (hd = -1))) ∧ w = w' := by
  cases q with
  | true =>
    go_enter Tryz.func136, Tryz.ntmps136
    go_wp2_with fail
    go_ret
    exact ⟨rfl, rfl⟩
  | false =>
    by_cases e : hd = -1
    · subst e
      go_enter Tryz.func136, Tryz.ntmps136
      go_wp2_with fail
      go_ret
      exact ⟨rfl, rfl⟩
    · have h1 : (hd == -1) = false := by rw [beq_eq_false_iff_ne]; exact e
      rw [decide_eq_false e]
      clear e
      go_enter Tryz.func136, Tryz.ntmps136
      go_wp2_with fail
      go_ret
      exact ⟨rfl, rfl⟩
theorem new_free (a : Nat) (w : World) : Calls Tryz.prog 18 #[.int .u32 (a : Int)] w fun e w' => e = .returned (Pw w.heap.size) ∧ w' = w.alloc (.cells (fr0 a).cs 77) := by
  go_enter Tryz.func18, Tryz.ntmps18
  go_wp2_with fail
  go_ret
  exact ⟨rfl, rfl⟩
theorem over_f {n : Nat} (c0 : w.cell? ⟨B, 0, none⟩ = some (.int .u8 (n : Int))) : Calls Tryz.prog 21 #[Pw B] w fun e w' => e = .returned (.bool (decide (n = 0))) ∧ w = w' := by
  by_cases e : n = 0
  · subst e
    go_enter Tryz.func21, Tryz.ntmps21
    go_wp2_with fail
    go_ret
    exact ⟨rfl, rfl⟩
  · have h1 : ((n : Int) == 0) = false := by rw [beq_eq_false_iff_ne]; omega
    rw [decide_eq_false e]
    clear e
    go_enter Tryz.func21, Tryz.ntmps21
    go_wp2_with fail
    go_ret
    exact ⟨rfl, rfl⟩
end
end Go.Proofs.YtlflagjnlclffaaGreat.S14
namespace Go.Proofs.YtlflagjnlclffaaGreat.S14
set_option maxRecDepth 100000
set_option maxHeartbeats 16000000
open Go.Proofs.YtlflagjnlclffaaGreat Go.Proofs.YtlflagjnlclffaaGreat.S11 Go.Proofs.YtlflagjnlclffaaGreat.S12 Go.Proofs.YtlflagjnlclffaaGreat.S13
open Go.RowKit
section
variable {w0 w w' : World} {base WB : Nat} {M : Sd} {r : List Part} {j B : Nat} {K : Fr} {X : Wm}
theorem Wf.held {Q cb : Nat} {l2 q2 : Bool} {h2 : Int} (h : Wf w0 w base WB M (r ++ [blockP Q (.cells #[.bool l2, .bool q2, .int .i64 h2] 73)]) j B K X) (hj : j < r.length) (hc : X.cB = cb) :
    w.cell? ⟨WB, 0, none⟩ = some (Pw cb) ∧ w.cell? ⟨B, 1, none⟩ = some (.int .u32 (K.a : Int)) ∧ w.cell? ⟨B, 2, none⟩ = some (.bool K.l) ∧ w.cell? ⟨B, 3, none⟩ = some (.bool K.q) ∧ w.cell? ⟨B, 4, none⟩ = some (.int .i64 K.h) ∧ w.cell? ⟨Q, 0, none⟩ = some (.bool l2) ∧ w.cell? ⟨Q, 1, none⟩ = some (.bool q2) ∧ w.cell? ⟨Q, 2, none⟩ = some (.int .i64 h2) := by
  have hl := h.last hj
  subst hc
  exact ⟨h.pg.c.1, h.b1, h.b2, h.b3, h.b4, cell_row hl 0, cell_row hl 1, cell_row hl 2⟩
def Fr.cas (K : Fr) (x was : Nat) (l2 q2 : Bool) (h2 : Int) : Fr := if x = was then { K with l := l2, q := q2, h := h2 } else { K with l := S1.bitB x 0, q := S1.bitB x 1, h := S1.headN x }
theorem swapped_f (h : Wf w0 w base WB M r j B K X) (ha : K.a < 4294967296) (hn : M.n ≤ 1000000000) (hi : S1.isHead K.h) {was : Nat} (hw : S1.putU K.l K.q K.h = was) {l2 q2 : Bool} {h2 : Int} (hi2 : S1.isHead h2) :
    Calls Tryz.prog 138 #[Pw B, Pw WB, .agg #[.bool l2, .bool q2, .int .i64 h2]] w fun e w' => e = .returned (.bool (decide (S2.look M.L K.a = was))) ∧ ∃ X', Wf w0 w' base WB (M.acc 3 K.a (S2.casV (S2.look M.L K.a) was (S1.putU l2 q2 h2))) r j B (K.cas (S2.look M.L K.a) was l2 q2 h2) X' := by
  have hj := h.hj
  have hA := h.pushB (.cells #[.bool l2, .bool q2, .int .i64 h2] 73)
  obtain ⟨Q, hQ⟩ : ∃ Q, Q = w.heap.size := ⟨_, rfl⟩
  rw [← hQ] at hA
  have HA := Lib.hid hA; have HJ := Lib.hid hj; have HQ := Lib.hid hQ
  obtain ⟨cb, hcb⟩ : ∃ cb, X.cB = cb := ⟨_, rfl⟩
  have HCB := Lib.hid hcb
  have HPA := Lib.hid (fun W => S1.putU_any K.l K.q K.h hi W)
  have HPB := Lib.hid (fun W => S1.putU_any l2 q2 h2 hi2 W)
  obtain ⟨x, hx⟩ : ∃ x, x = S2.look M.L K.a := ⟨_, rfl⟩
  have hxl : x < 18446744073709551616 := by rw [hx]; exact h.look K.a
  have HAS := Lib.hid (fun W => S1.as_any x hxl W)
  obtain ⟨is, his⟩ : ∃ is, is = S1.putU l2 q2 h2 := ⟨_, rfl⟩
  have hcs : ∀ W X', Wf w0 W base WB M (r ++ [blockP Q (.cells #[.bool l2, .bool q2, .int .i64 h2] 73)]) j B K X' → X'.cB = cb → Calls Tryz.prog 158 #[Pw cb, .int .u32 (K.a : Int), .int .u64 (was : Int), .int .u64 (is : Int)] W fun e w' => e = .returned (.tuple #[.int .u64 (x : Int), .bool (decide (x = was))]) ∧ ∃ X5, Wf w0 w' base WB (M.acc 3 K.a (S2.casV x was is)) (r ++ [blockP Q (.cells #[.bool l2, .bool q2, .int .i64 h2] 73)]) j B K X5 ∧ X5.cB = cb := fun W X' hW hc => by
    subst hc
    rw [hx]
    refine (hW.pg.cas ha (by rw [his]; exact S1.putU_lt _ _ _) hn (u := was)).mono ?_
    rintro e w' ⟨rfl, X5, h5, hcb5⟩
    exact ⟨rfl, X5, ⟨h5, hW.hj⟩, hcb5⟩
  have HCS := Lib.hid hcs
  rw [hw] at HPA
  rw [← his] at HPB
  rw [← hx, ← his]
  clear h hj hA hQ hcb hi hi2 hw hx hxl his hcs ha hn
  go_enter Tryz.func138, Tryz.ntmps138
  go_upto_region 1 with (fail)
  rw [← HQ.out]
  generalize w.alloc (.cells #[.bool l2, .bool q2, .int .i64 h2] 73) = w1 at *
  refine wp_region_held_drew (S := fun w' => w'.cell? ⟨WB, 0, none⟩ = some (Pw cb) ∧ w'.cell? ⟨B, 1, none⟩ = some (.int .u32 (K.a : Int)) ∧ w'.cell? ⟨B, 2, none⟩ = some (.bool K.l) ∧ w'.cell? ⟨B, 3, none⟩ = some (.bool K.q) ∧ w'.cell? ⟨B, 4, none⟩ = some (.int .i64 K.h) ∧ w'.cell? ⟨Q, 0, none⟩ = some (.bool l2) ∧ w'.cell? ⟨Q, 1, none⟩ = some (.bool q2) ∧ w'.cell? ⟨Q, 2, none⟩ = some (.int .i64 h2)) (by kernel_rfl) ?_ (fun hHeld => ?_)
  · exact (HA.out.new (Below.refl _ _).drew).held HJ.out HCB.out
  refine tA 0 ⟨some 10, .move (.tmp 1), 33, "wordfrees.go:122", #[], none⟩ ?vsm1 ?rsm1
  (try simp only [Act.put, tC, tD, tE])
  refine tA 1 ⟨some 11, .nilCheck (.tmp 10), 0, "wordfrees.go:122", #[⟨0, .data⟩], none⟩ ?vsm2 ?rsm2
  (try simp only [Act.put, tC, tD, tE])
  refine tA 2 ⟨some 12, .fieldAddr 89 (.tmp 11) 0, 0, "wordfrees.go:122", #[⟨1, .data⟩], none⟩ ?vsm3 ?rsm3
  (try simp only [Act.put, tC, tD, tE])
  refine tA 3 ⟨some 13, .load 81 (.tmp 12), 81, "wordfrees.go:122", #[⟨2, .data⟩], none⟩ ?vsm4 ?rsm4
  (try simp only [Act.put, tC, tD, tE])
  refine tA 4 ⟨some 14, .move (.tmp 0), 63, "wordfrees.go:122", #[], none⟩ ?vsm5 ?rsm5
  (try simp only [Act.put, tC, tD, tE])
  refine tA 5 ⟨some 15, .nilCheck (.tmp 14), 0, "wordfrees.go:122", #[⟨4, .data⟩], none⟩ ?vsm6 ?rsm6
  (try simp only [Act.put, tC, tD, tE])
  refine tA 6 ⟨some 16, .fieldAddr 77 (.tmp 15) 1, 0, "wordfrees.go:122", #[⟨5, .data⟩], none⟩ ?vsm7 ?rsm7
  (try simp only [Act.put, tC, tD, tE])
  refine tA 7 ⟨some 17, .load 40 (.tmp 16), 40, "wordfrees.go:122", #[⟨6, .data⟩], none⟩ ?vsm8 ?rsm8
  (try simp only [Act.put, tC, tD, tE])
  refine tA 8 ⟨some 18, .move (.tmp 0), 63, "wordfrees.go:122", #[], none⟩ ?vsm9 ?rsm9
  (try simp only [Act.put, tC, tD, tE])
  refine tA 9 ⟨some 19, .nilCheck (.tmp 18), 0, "wordfrees.go:122", #[⟨8, .data⟩], none⟩ ?vsm10 ?rsm10
  (try simp only [Act.put, tC, tD, tE])
  refine tA 10 ⟨some 20, .fieldAddr 77 (.tmp 19) 2, 0, "wordfrees.go:122", #[⟨9, .data⟩], none⟩ ?vsm11 ?rsm11
  (try simp only [Act.put, tC, tD, tE])
  refine tA 11 ⟨some 21, .fieldAddr 75 (.tmp 20) 0, 0, "wordfrees.go:122", #[⟨10, .data⟩], none⟩ ?vsm12 ?rsm12
  (try simp only [Act.put, tC, tD, tE])
  refine tA 12 ⟨some 22, .load 73 (.tmp 21), 73, "wordfrees.go:122", #[⟨11, .data⟩], none⟩ ?vsm13 ?rsm13
  (try simp only [Act.put, tC, tD, tE])
  refine tA 14 ⟨some 24, .load 73 (.tmp 5), 73, "wordfrees.go:122", #[], none⟩ ?vsm14 ?rsm14
  (try simp only [Act.put, tC, tD, tE])
  refine wpAnyH_ready (rs := [13]) (by kernel_rfl) (by simp) ?_
  refine AllReadyH.cons (o := ⟨some 23, .call ⟨.value (.func 101), #[.tmp 22], #[73]⟩, 22, "wordfrees.go:122", #[⟨12, .data⟩], none⟩) rfl (fun Kq hKq => ?_) AllReadyH.nil
  go_simp
  (refine (HPA.out _).mono ?_; rintro e w3 ⟨rfl, hb3⟩; have H3 := Lib.hid ((HA.out.new (Below.refl _ _).drew).new hb3); clear hb3)
  refine hKq.out _ _ ?_ (fun hHeld => ?_)
  · exact H3.out.held HJ.out HCB.out
  clear hKq Kq
  (try simp only [Act.put, tC, tD, tE])
  refine wpAnyH_ready (rs := [15]) (by kernel_rfl) (by simp) ?_
  refine AllReadyH.cons (o := ⟨some 25, .call ⟨.value (.func 101), #[.tmp 24], #[73]⟩, 22, "wordfrees.go:122", #[⟨14, .data⟩, ⟨13, .chain⟩], none⟩) rfl (fun Kq hKq => ?_) AllReadyH.nil
  go_simp
  (refine (HPB.out _).mono ?_; rintro e w4 ⟨rfl, hb4⟩; have H4 := Lib.hid (H3.out.new hb4); clear hb4)
  refine hKq.out _ _ ?_ (fun hHeld => ?_)
  · exact H4.out.held HJ.out HCB.out
  clear hKq Kq
  (try simp only [Act.put, tC, tD, tE])
  refine wpAnyH_ready (rs := [16]) (by kernel_rfl) (by simp) ?_
  refine AllReadyH.cons (o := ⟨some 26, .call ⟨.value (.func 158), #[.tmp 13, .tmp 17, .tmp 23, .tmp 25], #[81, 40, 22, 22]⟩, 136, "wordfrees.go:122", #[⟨3, .data⟩, ⟨7, .data⟩, ⟨13, .data⟩, ⟨15, .data⟩, ⟨15, .chain⟩], none⟩) rfl (fun Kq hKq => ?_) AllReadyH.nil
  go_simp
  (refine (HCS.out w4 X H4.out HCB.out).mono ?_; rintro e w5 ⟨rfl, X5, h5, hcb5⟩; have H5 := Lib.hid h5; have HCB5 := Lib.hid hcb5; clear h5 hcb5)
  refine hKq.out _ _ ?_ (fun hHeld => ?_)
  · exact H5.out.held HJ.out HCB5.out
  clear hKq Kq
  (try simp only [Act.put, tC, tD, tE])
  refine tA 17 ⟨some 9, .move (.tmp 26), 136, "wordfrees.go:122", #[⟨16, .data⟩], none⟩ ?vsm15 ?rsm15
  (try simp only [Act.put, tC, tD, tE])
  refine tA 18 ⟨some 27, .extract (.tmp 9) 0, 22, "wordfrees.go:122", #[⟨17, .data⟩], none⟩ ?vsm16 ?rsm16
  (try simp only [Act.put, tC, tD, tE])
  refine tA 19 ⟨some 28, .extract (.tmp 9) 1, 4, "wordfrees.go:122", #[⟨17, .data⟩, ⟨20, .gcOnly .lateStores⟩], none⟩ ?vsm17 ?rsm17
  (try simp only [Act.put, tC, tD, tE])
  refine tA 20 ⟨some 7, .assign (.tmp 27), 22, "wordfrees.go:122", #[⟨18, .data⟩, ⟨16, .chain⟩, ⟨0, .phase⟩, ⟨1, .phase⟩, ⟨2, .phase⟩, ⟨3, .phase⟩, ⟨4, .phase⟩, ⟨5, .phase⟩, ⟨6, .phase⟩, ⟨7, .phase⟩, ⟨8, .phase⟩, ⟨9, .phase⟩, ⟨10, .phase⟩, ⟨11, .phase⟩, ⟨12, .phase⟩, ⟨13, .phase⟩, ⟨14, .phase⟩, ⟨15, .phase⟩, ⟨16, .phase⟩, ⟨17, .phase⟩, ⟨18, .phase⟩, ⟨19, .textOnly .lateStores⟩], none⟩ ?vsm18 ?rsm18
  (try simp only [Act.put, tC, tD, tE])
  refine tA 21 ⟨some 8, .assign (.tmp 28), 4, "wordfrees.go:122", #[⟨19, .data⟩, ⟨20, .chain⟩, ⟨0, .phase⟩, ⟨1, .phase⟩, ⟨2, .phase⟩, ⟨3, .phase⟩, ⟨4, .phase⟩, ⟨5, .phase⟩, ⟨6, .phase⟩, ⟨7, .phase⟩, ⟨8, .phase⟩, ⟨9, .phase⟩, ⟨10, .phase⟩, ⟨11, .phase⟩, ⟨12, .phase⟩, ⟨13, .phase⟩, ⟨14, .phase⟩, ⟨15, .phase⟩, ⟨16, .phase⟩, ⟨17, .phase⟩, ⟨18, .phase⟩, ⟨19, .phase⟩, ⟨20, .phase⟩], none⟩ ?vsm19 ?rsm19
  (try simp only [Act.put, tC, tD, tE])
  refine wpAnyH_done (by kernel_rfl) ?_ _
  clear hHeld HPA HPB HCS HA H3 H4
  obtain ⟨a1, a2, a3, a4, a5, a6, a7, a8⟩ := H5.out.held HJ.out HCB5.out
  have f2 := H5.out.fz 2; have f3 := H5.out.fz 3; have f4 := H5.out.fz 4
  by_cases e : x = was
  · have hd : decide (x = was) = true := decide_eq_true e
    have hk : K.cas x was l2 q2 h2 = { K with l := l2, q := q2, h := h2 } := if_pos e
    rw [hd]
    have HK := Lib.hid hk
    clear hk hd HAS
    go_wp2_with fail
    go_ret
    exact ⟨by rw [decide_eq_true e]; rfl, X5, by rw [HK.out]; exact (H5.out.word l2 q2 h2 K.w).dropB HJ.out⟩
  · have hd : decide (x = was) = false := decide_eq_false e
    have hk : K.cas x was l2 q2 h2 = { K with l := S1.bitB x 0, q := S1.bitB x 1, h := S1.headN x } := if_neg e
    rw [hd]
    have HK := Lib.hid hk
    unfold S1.asV at HAS
    obtain ⟨b0, hb0⟩ : ∃ b, b = S1.bitB x 0 := ⟨_, rfl⟩
    obtain ⟨b1, hb1⟩ : ∃ b, b = S1.bitB x 1 := ⟨_, rfl⟩
    obtain ⟨hd2, hhd⟩ : ∃ b, b = S1.headN x := ⟨_, rfl⟩
    rw [← hb0, ← hb1, ← hhd] at HAS HK
    clear hk hd hb0 hb1 hhd a1 a2 a3 a4 a5 a6 a7 a8 f2 f3 f4
    go_upto_region 5 with (fail)
    go_wp2_with (go_at_call 134; refine (HAS.out _).mono ?_; rintro e w6 ⟨rfl, hb6⟩; have H6 := Lib.hid (H5.out.new hb6); have b2 := H6.out.b2; have b3 := H6.out.b3; have b4 := H6.out.b4; have f2 := H6.out.fz 2; have f3 := H6.out.fz 3; have f4 := H6.out.fz 4; clear hb6)
    go_ret
    exact ⟨by rw [decide_eq_false e]; rfl, X5, by rw [HK.out]; exact (H6.out.word b0 b1 hd2 K.w).dropB HJ.out⟩
end
end Go.Proofs.YtlflagjnlclffaaGreat.S14
namespace Go.Proofs.YtlflagjnlclffaaGreat.S14
set_option maxRecDepth 100000
set_option maxHeartbeats 16000000
open Go.Proofs.YtlflagjnlclffaaGreat Go.Proofs.YtlflagjnlclffaaGreat.S11 Go.Proofs.YtlflagjnlclffaaGreat.S12 Go.Proofs.YtlflagjnlclffaaGreat.S13
open Go.RowKit
def Behind (w0 : World) (base WB : Nat) (M : Sd) (r : List Part) (j B : Nat) (K : Fr) (e : Ending) (w' : World) : Prop :=
  e = .returned (.int .u8 ((fstepK M K).ln : Int)) ∧ ∃ X', Wf w0 w' base WB (fstepM M K) r j B { fstepK M K with ln := K.ln } X'
def SeekF (w0 : World) (base WB : Nat) (M : Sd) (r : List Part) (j B : Nat) (K : Fr) (u : Nat) (e : Ending) (w' : World) : Prop :=
  e = .returned (.int .u8 ((seekL M.lk u).2.2 : Int)) ∧ ∃ X', Wf w0 w' base WB (M.link (seekL M.lk u).1) r j B { K with t := (seekL M.lk u).2.1 } X'
theorem seek_le (S : S5.Lk) (h : ∀ i, S i ≤ 64) : ∀ (n t : Nat), t < 64 → ∀ i, (S5.go n S t).1 i ≤ 64 := by
  intro n
  induction n generalizing S with
  | zero => intro t _ i; exact h i
  | succ n ih =>
    intro t ht i
    rw [S5.go]
    split
    · split
      · exact h i
      · refine ih _ (fun k => ?_) _ (by have := h (t * 3); omega) i
        unfold S5.upd
        split
        · omega
        · exact h k
    · exact h i
theorem seekO_le {S : S5.Lk} (h : ∀ i, S i ≤ 64) (u : Nat) : (S5.seekO S (hdO u)).2 ≤ 64 ∧ ∀ i, (S5.seekO S (hdO u)).1 i ≤ 64 := by
  unfold hdO
  split
  · rename_i hu
    have hg := seek_le S h 64 (u / 4 - 1) (by omega)
    show (S5.closeS _ (S5.go 64 S _)).2 ≤ 64 ∧ ∀ i, (S5.closeS _ (S5.go 64 S _)).1 i ≤ 64
    generalize S5.go 64 S (u / 4 - 1) = P at *
    obtain ⟨T, o⟩ := P
    cases o with
    | none => exact ⟨by show 0 ≤ 64; omega, hg⟩
    | some a =>
      refine ⟨hg _, fun i => ?_⟩
      show S5.upd T _ (T _) i ≤ 64
      unfold S5.upd
      split
      · exact hg _
      · exact hg i
  · exact ⟨by show 0 ≤ 64; omega, h⟩
theorem field_prev (a b c : Value) (w : World) : (Instr.field 172 (.agg #[a, b, c]) 1).run Tryz.prog w = .ok b w := by kernel_rfl
section
variable {w0 w w' : World} {base WB : Nat} {M : Sd} {r : List Part} {j B : Nat} {K : Fr} {X : Wm}
theorem Wf.cells (h : Wf w0 w base WB M r j B K X) : w.cell? ⟨WB, 0, none⟩ = some (Pw X.cB) ∧ w.cell? ⟨B, 1, none⟩ = some (.int .u32 (K.a : Int)) := ⟨h.pg.c.1, h.b1⟩
theorem beh1 (h : Wf w0 w base WB M r j B K X) (ok : FrOk M K) (hl : K.ln = 1) : Calls Tryz.prog 73 #[Pw B, Pw WB] w (Behind w0 base WB M r j B K) := by
  have hj := h.hj
  have c0 := h.b0
  rw [hl] at c0
  have c2 := h.b2; have c3 := h.b3; have c4 := h.b4
  have hA := h.pushB (.cells #[.bool K.l, .bool K.q, .int .i64 K.h] 73)
  obtain ⟨Q, hQ⟩ : ∃ Q, Q = w.heap.size := ⟨_, rfl⟩
  rw [← hQ] at hA
  have HA := Lib.hid hA; have HJ := Lib.hid hj; have HQ := Lib.hid hQ; have HOK := Lib.hid ok; have HL := Lib.hid hl
  clear h hj hA hQ ok hl
  go_enter Tryz.func73, Tryz.ntmps73
  go_wp2_with fail
  refine wp_scope_two rfl rfl ?_
  go_upto_region 3 with (fail)
  rw [← HQ.out]
  generalize w.alloc (.cells #[.bool K.l, .bool K.q, .int .i64 K.h] 73) = w1 at *
  clear c0 c2 c3 c4
  have c0 := HA.out.b0
  rw [HL.out] at c0
  obtain ⟨x, hx⟩ : ∃ x, x = S2.look M.L K.a := ⟨_, rfl⟩
  have hxl : x < 18446744073709551616 := by rw [hx]; exact HA.out.look K.a
  have HAS := Lib.hid (fun W => S1.as_any x hxl W)
  have had : Calls Tryz.prog 135 #[Pw X.cB, .int .u32 (K.a : Int), .int .u64 18446744073709551615] w1.drew fun e w' => e = .returned (.int .u64 (x : Int)) ∧ ∃ X', Pg w0 w' base WB (M.acc 5 K.a ((S2.look M.L K.a + 18446744073709551615) % 18446744073709551616)) ((r ++ [blockP Q (.cells #[.bool K.l, .bool K.q, .int .i64 K.h] 73)]).set j (freeP B K)) X' ∧ X'.cB = X.cB := by
    rw [hx]
    have h1 := pg_add (HA.out.new (Below.refl _ _).drew).pg HOK.out.a (v := 18446744073709551615) (by omega) HOK.out.n
    rw [show ((18446744073709551615 : Nat) : Int) = 18446744073709551615 from rfl] at h1
    exact h1
  have HAD := Lib.hid had
  have HX := Lib.hid hx
  unfold S1.asV at HAS
  obtain ⟨b0, hb0⟩ : ∃ b, b = S1.bitB x 0 := ⟨_, rfl⟩
  obtain ⟨b1, hb1⟩ : ∃ b, b = S1.bitB x 1 := ⟨_, rfl⟩
  obtain ⟨hd, hhd⟩ : ∃ b, b = S1.headN x := ⟨_, rfl⟩
  rw [← hb0, ← hb1, ← hhd] at HAS
  have HB := Lib.hid (And.intro hb0 (And.intro hb1 hhd))
  have HX0 := Lib.hid HA.out.cells
  clear had hx hxl hb0 hb1 hhd
  go_upto_region 7 with (fail)
  clear c0
  refine wp_region_held_drew (S := fun w' => w'.cell? ⟨WB, 0, none⟩ = some (Pw X.cB) ∧ w'.cell? ⟨B, 1, none⟩ = some (.int .u32 (K.a : Int))) (by kernel_rfl) ?_ (fun hHeld => ?_)
  · exact HX0.out
  refine tA 0 ⟨some 30, .move (.tmp 5), 269, "wordfrees.go:68", #[], none⟩ ?va1m1 ?ra1m1
  (try simp only [Act.put, tC, tD, tE])
  refine tA 1 ⟨some 31, .move (.tmp 1), 33, "wordfrees.go:68", #[], none⟩ ?va1m2 ?ra1m2
  (try simp only [Act.put, tC, tD, tE])
  refine tA 2 ⟨some 32, .nilCheck (.tmp 31), 0, "wordfrees.go:68", #[⟨1, .data⟩], none⟩ ?va1m3 ?ra1m3
  (try simp only [Act.put, tC, tD, tE])
  refine tA 3 ⟨some 33, .fieldAddr 89 (.tmp 32) 0, 0, "wordfrees.go:68", #[⟨2, .data⟩], none⟩ ?va1m4 ?ra1m4
  (try simp only [Act.put, tC, tD, tE])
  refine tA 4 ⟨some 34, .load 81 (.tmp 33), 81, "wordfrees.go:68", #[⟨3, .data⟩], none⟩ ?va1m5 ?ra1m5
  (try simp only [Act.put, tC, tD, tE])
  refine tA 5 ⟨some 35, .move (.tmp 0), 63, "wordfrees.go:68", #[], none⟩ ?va1m6 ?ra1m6
  (try simp only [Act.put, tC, tD, tE])
  refine tA 6 ⟨some 36, .nilCheck (.tmp 35), 0, "wordfrees.go:68", #[⟨5, .data⟩], none⟩ ?va1m7 ?ra1m7
  (try simp only [Act.put, tC, tD, tE])
  refine tA 7 ⟨some 37, .fieldAddr 77 (.tmp 36) 1, 0, "wordfrees.go:68", #[⟨6, .data⟩], none⟩ ?va1m8 ?ra1m8
  (try simp only [Act.put, tC, tD, tE])
  refine tA 8 ⟨some 38, .load 40 (.tmp 37), 40, "wordfrees.go:68", #[⟨7, .data⟩], none⟩ ?va1m9 ?ra1m9
  (try simp only [Act.put, tC, tD, tE])
  refine wpAnyH_ready (rs := [9]) (by kernel_rfl) (by simp) ?_
  refine AllReadyH.cons (o := ⟨some 39, .call ⟨.value (.func 135), #[.tmp 34, .tmp 38, .const (.int .u64 18446744073709551615)], #[81, 40, 22]⟩, 22, "wordfrees.go:68", #[⟨4, .data⟩, ⟨8, .data⟩], none⟩) rfl (fun Kq hKq => ?_) AllReadyH.nil
  go_simp
  (refine HAD.out.mono ?_; rintro e w3 ⟨rfl, X3, h3g, hcb3⟩; have H3 := Lib.hid (show Wf w0 w3 base WB (M.acc 5 K.a ((S2.look M.L K.a + 18446744073709551615) % 18446744073709551616)) (r ++ [blockP Q (.cells #[.bool K.l, .bool K.q, .int .i64 K.h] 73)]) j B K X3 from ⟨h3g, HA.out.hj⟩); have HCB := Lib.hid hcb3; clear h3g hcb3)
  refine hKq.out _ _ ?_ (fun hHeld => ?_)
  · (have q := H3.out.cells; rw [HCB.out] at q; exact q)
  clear hKq Kq
  (try simp only [Act.put, tC, tD, tE])
  refine wpAnyH_ready (rs := [10]) (by kernel_rfl) (by simp) ?_
  refine AllReadyH.cons (o := ⟨some 40, .call ⟨.value (.func 134), #[.tmp 39], #[22]⟩, 73, "wordfrees.go:68", #[⟨9, .data⟩, ⟨9, .chain⟩], none⟩) rfl (fun Kq hKq => ?_) AllReadyH.nil
  go_simp
  (refine (HAS.out _).mono ?_; rintro e w4 ⟨rfl, hb4⟩; have H4 := Lib.hid (H3.out.new hb4); clear hb4)
  refine hKq.out _ _ ?_ (fun hHeld => ?_)
  · (have q := H4.out.cells; rw [HCB.out] at q; exact q)
  clear hKq Kq
  (try simp only [Act.put, tC, tD, tE])
  refine tA 11 ⟨some 41, .nilCheck (.tmp 30), 0, "wordfrees.go:68", #[⟨0, .data⟩, ⟨0, .phase⟩, ⟨1, .phase⟩, ⟨2, .phase⟩, ⟨3, .phase⟩, ⟨4, .phase⟩, ⟨5, .phase⟩, ⟨6, .phase⟩, ⟨7, .phase⟩, ⟨8, .phase⟩, ⟨9, .phase⟩, ⟨10, .phase⟩], none⟩ ?va1m10 ?ra1m10
  (try simp only [Act.put, tC, tD, tE])
  refine tA 12 ⟨some 42, .fieldAddr 75 (.tmp 41) 0, 0, "wordfrees.go:68", #[⟨11, .data⟩, ⟨0, .phase⟩, ⟨1, .phase⟩, ⟨2, .phase⟩, ⟨3, .phase⟩, ⟨4, .phase⟩, ⟨5, .phase⟩, ⟨6, .phase⟩, ⟨7, .phase⟩, ⟨8, .phase⟩, ⟨9, .phase⟩, ⟨10, .phase⟩], none⟩ ?va1m11 ?ra1m11
  (try simp only [Act.put, tC, tD, tE])
  refine wpAnyH_ready (rs := [13]) (by kernel_rfl) (by simp) ?_
  refine AllReadyH.cons (o := ⟨none, .store 73 (.tmp 42) (.tmp 40), 0, "wordfrees.go:68", #[⟨12, .data⟩, ⟨10, .data⟩, ⟨10, .chain⟩, ⟨0, .phase⟩, ⟨1, .phase⟩, ⟨2, .phase⟩, ⟨3, .phase⟩, ⟨4, .phase⟩, ⟨5, .phase⟩, ⟨6, .phase⟩, ⟨7, .phase⟩, ⟨8, .phase⟩, ⟨9, .phase⟩, ⟨10, .phase⟩], none⟩) rfl (fun Kq hKq => ?_) AllReadyH.nil
  (have y2 := H4.out.b2; have y3 := H4.out.b3; have y4 := H4.out.b4; have f2 := H4.out.fz 2; have f3 := H4.out.fz 3; have f4 := H4.out.fz 4; go_simp; have h5 := H4.out.word b0 b1 hd K.w; have H5 := Lib.hid h5; clear y2 y3 y4 f2 f3 f4 h5; generalize ((w4.setCell ⟨B, 2, none⟩ (.bool b0)).setCell ⟨B, 3, none⟩ (.bool b1)).setCell ⟨B, 4, none⟩ (.int .i64 hd) = w5 at *)
  refine hKq.out _ _ ?_ (fun hHeld => ?_)
  · (have q := H5.out.cells; rw [HCB.out] at q; exact q)
  clear hKq Kq
  (try simp only [Act.put, tC, tD, tE])
  refine wpAnyH_done (by kernel_rfl) ?_ _
  clear hHeld
  have z3 := H5.out.b3; have z4 := H5.out.b4
  have hid : idle x = (b1 || decide (hd = -1)) := by unfold idle; rw [← HB.out.2.1, ← HB.out.2.2]
  have HDN := Lib.hid (done_f (w := w5) b1 hd z3 z4)
  have HID := Lib.hid hid
  clear hid z3 z4
  have hfin : Behind w0 base WB M r j B K (.returned (.int .u8 ((if idle x = true then 0 else 2 : Nat) : Int))) w5 := by
    unfold Behind
    rw [show fstepM M K = _ from by simp only [fstepM, HL.out]; rfl, show fstepK M K = _ from by simp only [fstepK, HL.out]; rfl, ← HX.out, ← HB.out.1, ← HB.out.2.1, ← HB.out.2.2]
    have h6 := H5.out.dropB HJ.out
    rw [← HX.out] at h6
    exact ⟨rfl, X3, h6⟩
  have HF := Lib.hid hfin
  clear hfin
  obtain ⟨id, hid⟩ : ∃ id, id = idle x := ⟨_, rfl⟩
  rw [← HID.out] at HDN
  rw [← hid] at HDN HF
  clear hid HID
  cases id with
  | true =>
    rw [if_pos rfl] at HF
    go_wp2_with (go_at_call 136; refine HDN.out.mono ?_; rintro e w6 ⟨rfl, rfl⟩)
    (try simp only [to2])
    go_ret
    exact HF.out
  | false =>
    rw [if_neg (by decide)] at HF
    go_wp2_with (go_at_call 136; refine HDN.out.mono ?_; rintro e w6 ⟨rfl, rfl⟩)
    (try simp only [to2])
    go_ret
    exact HF.out
end
end Go.Proofs.YtlflagjnlclffaaGreat.S14
namespace Go.Proofs.YtlflagjnlclffaaGreat.S14
set_option maxRecDepth 100000
set_option maxHeartbeats 16000000
open Go.Proofs.YtlflagjnlclffaaGreat Go.Proofs.YtlflagjnlclffaaGreat.S11 Go.Proofs.YtlflagjnlclffaaGreat.S12 Go.Proofs.YtlflagjnlclffaaGreat.S13
open Go.RowKit
section
variable {w0 w w' : World} {base WB : Nat} {M : Sd} {r : List Part} {j B : Nat} {K : Fr} {X : Wm}
theorem beh2 (h : Wf w0 w base WB M r j B K X) (ok : FrOk M K) (hl : K.ln = 2) : Calls Tryz.prog 73 #[Pw B, Pw WB] w (Behind w0 base WB M r j B K) := by
  have hj := h.hj
  have c0 := h.b0
  rw [hl] at c0
  have c2 := h.b2; have c3 := h.b3; have c4 := h.b4
  have hA := h.pushB (.cells #[.bool K.l, .bool K.q, .int .i64 K.h] 73)
  obtain ⟨Q, hQ⟩ : ∃ Q, Q = w.heap.size := ⟨_, rfl⟩
  rw [← hQ] at hA
  have HA := Lib.hid hA; have HJ := Lib.hid hj; have HQ := Lib.hid hQ; have HOK := Lib.hid ok; have HL := Lib.hid hl
  clear h hj hA hQ ok hl
  go_enter Tryz.func73, Tryz.ntmps73
  go_wp2_with fail
  refine wp_scope_two rfl rfl ?_
  go_upto_region 3 with (fail)
  rw [← HQ.out]
  generalize w.alloc (.cells #[.bool K.l, .bool K.q, .int .i64 K.h] 73) = w1 at *
  clear c0 c2 c3 c4
  have c0 := HA.out.b0
  rw [HL.out] at c0
  obtain ⟨x, hx⟩ : ∃ x, x = S2.look M.L K.a := ⟨_, rfl⟩
  have hxl : x < 18446744073709551616 := by rw [hx]; exact HA.out.look K.a
  have HAS := Lib.hid (fun W => S1.as_any x hxl W)
  have had : Calls Tryz.prog 137 #[Pw X.cB, .int .u32 (K.a : Int)] w1.drew fun e w' => e = .returned (.int .u64 (x : Int)) ∧ ∃ X', Pg w0 w' base WB (M.acc 1 K.a (S2.look M.L K.a)) ((r ++ [blockP Q (.cells #[.bool K.l, .bool K.q, .int .i64 K.h] 73)]).set j (freeP B K)) X' ∧ X'.cB = X.cB := by
    rw [hx]
    exact (HA.out.new (Below.refl _ _).drew).pg.load HOK.out.a HOK.out.n
  have HAD := Lib.hid had
  have HX := Lib.hid hx
  unfold S1.asV at HAS
  obtain ⟨b0, hb0⟩ : ∃ b, b = S1.bitB x 0 := ⟨_, rfl⟩
  obtain ⟨b1, hb1⟩ : ∃ b, b = S1.bitB x 1 := ⟨_, rfl⟩
  obtain ⟨hd, hhd⟩ : ∃ b, b = S1.headN x := ⟨_, rfl⟩
  rw [← hb0, ← hb1, ← hhd] at HAS
  have HB := Lib.hid (And.intro hb0 (And.intro hb1 hhd))
  have HX0 := Lib.hid HA.out.cells
  clear had hx hxl hb0 hb1 hhd
  go_upto_region 12 with (fail)
  clear c0
  refine wp_region_held_drew (S := fun w' => w'.cell? ⟨WB, 0, none⟩ = some (Pw X.cB) ∧ w'.cell? ⟨B, 1, none⟩ = some (.int .u32 (K.a : Int))) (by kernel_rfl) ?_ (fun hHeld => ?_)
  · exact HX0.out
  refine tA 0 ⟨some 47, .move (.tmp 5), 269, "wordfrees.go:74", #[], none⟩ ?va2m1 ?ra2m1
  (try simp only [Act.put, tC, tD, tE])
  refine tA 1 ⟨some 48, .move (.tmp 1), 33, "wordfrees.go:74", #[], none⟩ ?va2m2 ?ra2m2
  (try simp only [Act.put, tC, tD, tE])
  refine tA 2 ⟨some 49, .nilCheck (.tmp 48), 0, "wordfrees.go:74", #[⟨1, .data⟩], none⟩ ?va2m3 ?ra2m3
  (try simp only [Act.put, tC, tD, tE])
  refine tA 3 ⟨some 50, .fieldAddr 89 (.tmp 49) 0, 0, "wordfrees.go:74", #[⟨2, .data⟩], none⟩ ?va2m4 ?ra2m4
  (try simp only [Act.put, tC, tD, tE])
  refine tA 4 ⟨some 51, .load 81 (.tmp 50), 81, "wordfrees.go:74", #[⟨3, .data⟩], none⟩ ?va2m5 ?ra2m5
  (try simp only [Act.put, tC, tD, tE])
  refine tA 5 ⟨some 52, .move (.tmp 0), 63, "wordfrees.go:74", #[], none⟩ ?va2m6 ?ra2m6
  (try simp only [Act.put, tC, tD, tE])
  refine tA 6 ⟨some 53, .nilCheck (.tmp 52), 0, "wordfrees.go:74", #[⟨5, .data⟩], none⟩ ?va2m7 ?ra2m7
  (try simp only [Act.put, tC, tD, tE])
  refine tA 7 ⟨some 54, .fieldAddr 77 (.tmp 53) 1, 0, "wordfrees.go:74", #[⟨6, .data⟩], none⟩ ?va2m8 ?ra2m8
  (try simp only [Act.put, tC, tD, tE])
  refine tA 8 ⟨some 55, .load 40 (.tmp 54), 40, "wordfrees.go:74", #[⟨7, .data⟩], none⟩ ?va2m9 ?ra2m9
  (try simp only [Act.put, tC, tD, tE])
  refine wpAnyH_ready (rs := [9]) (by kernel_rfl) (by simp) ?_
  refine AllReadyH.cons (o := ⟨some 56, .call ⟨.value (.func 137), #[.tmp 51, .tmp 55], #[81, 40]⟩, 22, "wordfrees.go:74", #[⟨4, .data⟩, ⟨8, .data⟩], none⟩) rfl (fun Kq hKq => ?_) AllReadyH.nil
  go_simp
  (refine HAD.out.mono ?_; rintro e w3 ⟨rfl, X3, h3g, hcb3⟩; have H3 := Lib.hid (show Wf w0 w3 base WB (M.acc 1 K.a (S2.look M.L K.a)) (r ++ [blockP Q (.cells #[.bool K.l, .bool K.q, .int .i64 K.h] 73)]) j B K X3 from ⟨h3g, HA.out.hj⟩); have HCB := Lib.hid hcb3; clear h3g hcb3)
  refine hKq.out _ _ ?_ (fun hHeld => ?_)
  · (have q := H3.out.cells; rw [HCB.out] at q; exact q)
  clear hKq Kq
  (try simp only [Act.put, tC, tD, tE])
  refine wpAnyH_ready (rs := [10]) (by kernel_rfl) (by simp) ?_
  refine AllReadyH.cons (o := ⟨some 57, .call ⟨.value (.func 134), #[.tmp 56], #[22]⟩, 73, "wordfrees.go:74", #[⟨9, .data⟩, ⟨9, .chain⟩], none⟩) rfl (fun Kq hKq => ?_) AllReadyH.nil
  go_simp
  (refine (HAS.out _).mono ?_; rintro e w4 ⟨rfl, hb4⟩; have H4 := Lib.hid (H3.out.new hb4); clear hb4)
  refine hKq.out _ _ ?_ (fun hHeld => ?_)
  · (have q := H4.out.cells; rw [HCB.out] at q; exact q)
  clear hKq Kq
  (try simp only [Act.put, tC, tD, tE])
  refine tA 11 ⟨some 58, .nilCheck (.tmp 47), 0, "wordfrees.go:74", #[⟨0, .data⟩, ⟨0, .phase⟩, ⟨1, .phase⟩, ⟨2, .phase⟩, ⟨3, .phase⟩, ⟨4, .phase⟩, ⟨5, .phase⟩, ⟨6, .phase⟩, ⟨7, .phase⟩, ⟨8, .phase⟩, ⟨9, .phase⟩, ⟨10, .phase⟩], none⟩ ?va2m10 ?ra2m10
  (try simp only [Act.put, tC, tD, tE])
  refine tA 12 ⟨some 59, .fieldAddr 75 (.tmp 58) 0, 0, "wordfrees.go:74", #[⟨11, .data⟩, ⟨0, .phase⟩, ⟨1, .phase⟩, ⟨2, .phase⟩, ⟨3, .phase⟩, ⟨4, .phase⟩, ⟨5, .phase⟩, ⟨6, .phase⟩, ⟨7, .phase⟩, ⟨8, .phase⟩, ⟨9, .phase⟩, ⟨10, .phase⟩], none⟩ ?va2m11 ?ra2m11
  (try simp only [Act.put, tC, tD, tE])
  refine wpAnyH_ready (rs := [13]) (by kernel_rfl) (by simp) ?_
  refine AllReadyH.cons (o := ⟨none, .store 73 (.tmp 59) (.tmp 57), 0, "wordfrees.go:74", #[⟨12, .data⟩, ⟨10, .data⟩, ⟨10, .chain⟩, ⟨0, .phase⟩, ⟨1, .phase⟩, ⟨2, .phase⟩, ⟨3, .phase⟩, ⟨4, .phase⟩, ⟨5, .phase⟩, ⟨6, .phase⟩, ⟨7, .phase⟩, ⟨8, .phase⟩, ⟨9, .phase⟩, ⟨10, .phase⟩], none⟩) rfl (fun Kq hKq => ?_) AllReadyH.nil
  (have y2 := H4.out.b2; have y3 := H4.out.b3; have y4 := H4.out.b4; have f2 := H4.out.fz 2; have f3 := H4.out.fz 3; have f4 := H4.out.fz 4; go_simp; have h5 := H4.out.word b0 b1 hd x; have H5 := Lib.hid h5; clear y2 y3 y4 f2 f3 f4 h5; generalize ((w4.setCell ⟨B, 2, none⟩ (.bool b0)).setCell ⟨B, 3, none⟩ (.bool b1)).setCell ⟨B, 4, none⟩ (.int .i64 hd) = w5 at *)
  refine hKq.out _ _ ?_ (fun hHeld => ?_)
  · (have q := H5.out.cells; rw [HCB.out] at q; exact q)
  clear hKq Kq
  (try simp only [Act.put, tC, tD, tE])
  refine wpAnyH_done (by kernel_rfl) ?_ _
  clear hHeld
  have z3 := H5.out.b3; have z4 := H5.out.b4
  have hid : idle x = (b1 || decide (hd = -1)) := by unfold idle; rw [← HB.out.2.1, ← HB.out.2.2]
  have HDN := Lib.hid (done_f (w := w5) b1 hd z3 z4)
  have HID := Lib.hid hid
  clear hid z3 z4
  have hfin : Behind w0 base WB M r j B K (.returned (.int .u8 ((if idle x = true then 0 else 3 : Nat) : Int))) w5 := by
    unfold Behind
    rw [show fstepM M K = _ from by simp only [fstepM, HL.out]; rfl, show fstepK M K = _ from by simp only [fstepK, HL.out]; rfl, ← HX.out]
    have h6 := H5.out.dropB HJ.out
    rw [← HX.out, HB.out.1, HB.out.2.1, HB.out.2.2] at h6
    exact ⟨rfl, X3, h6⟩
  have HF := Lib.hid hfin
  clear hfin
  go_wp2_with fail
  obtain ⟨id, hid⟩ : ∃ id, id = idle x := ⟨_, rfl⟩
  rw [← HID.out] at HDN
  rw [← hid] at HDN HF
  clear hid HID
  go_step3
  refine Or.inl ⟨rfl, ?_⟩
  show Code.wp _ _ _ _ _
  cases id with
  | true =>
    rw [if_pos rfl] at HF
    go_wp2_with (go_at_call 136; refine HDN.out.mono ?_; rintro e w6 ⟨rfl, rfl⟩)
    (try simp only [Exit.noGoto])
    go_ret
    exact HF.out
  | false =>
    rw [if_neg (by decide)] at HF
    go_wp2_with (go_at_call 136; refine HDN.out.mono ?_; rintro e w6 ⟨rfl, rfl⟩)
    (try simp only [Exit.noGoto])
    go_ret
    exact HF.out
end
end Go.Proofs.YtlflagjnlclffaaGreat.S14
namespace Go.Proofs.YtlflagjnlclffaaGreat.S14
set_option maxRecDepth 100000
set_option maxHeartbeats 16000000
open Go.Proofs.YtlflagjnlclffaaGreat Go.Proofs.YtlflagjnlclffaaGreat.S11 Go.Proofs.YtlflagjnlclffaaGreat.S12 Go.Proofs.YtlflagjnlclffaaGreat.S13
open Go.RowKit
section
variable {w0 w w' : World} {base WB : Nat} {M : Sd} {r : List Part} {j B : Nat} {K : Fr} {X : Wm}
theorem beh3 (h : Wf w0 w base WB M r j B K X) (ok : FrOk M K) (hl : K.ln = 3) : Calls Tryz.prog 73 #[Pw B, Pw WB] w (Behind w0 base WB M r j B K) := by
  have hj := h.hj
  have c0 := h.b0
  rw [hl] at c0
  have c2 := h.b2; have c3 := h.b3; have c4 := h.b4
  have hA := h.pushB (.cells #[.bool K.l, .bool K.q, .int .i64 K.h] 73)
  obtain ⟨Q, hQ⟩ : ∃ Q, Q = w.heap.size := ⟨_, rfl⟩
  rw [← hQ] at hA
  have HA := Lib.hid hA; have HJ := Lib.hid hj; have HQ := Lib.hid hQ; have HOK := Lib.hid ok; have HL := Lib.hid hl
  clear h hj hA hQ ok hl
  go_enter Tryz.func73, Tryz.ntmps73
  go_wp2_with fail
  refine wp_scope_two rfl rfl ?_
  go_upto_region 3 with (fail)
  rw [← HQ.out]
  generalize w.alloc (.cells #[.bool K.l, .bool K.q, .int .i64 K.h] 73) = w1 at *
  clear c0 c2 c3 c4
  have c0 := HA.out.b0
  rw [HL.out] at c0
  obtain ⟨kl, kq, kh, kn⟩ := HOK.out.con (by rw [HL.out]; omega) (by rw [HL.out]; omega)
  have hput : S1.putU K.l K.q K.h = K.w := by rw [kl, kq, kh]; exact (word_put kn).1
  have hish : S1.isHead K.h := by rw [kh]; exact S1.head_is _
  have hl1 := HA.out.last HJ.out
  have g0 := cell_row hl1 0; have g1 := cell_row hl1 1; have g2 := cell_row hl1 2; have fz1 := froz_row hl1 1
  simp only [List.getElem?_toArray, List.getElem?_cons_zero, List.getElem?_cons_succ] at g0 g1 g2
  have h2 := HA.out.turnLast HJ.out (.cells #[.bool K.l, .bool true, .int .i64 K.h] 73) (set_blk hl1 1 (.bool true) _ (by simp)) ((Turns.refl (fun k => k = Q) w1).setCell ⟨Q, 1, none⟩ _ rfl)
  have H2 := Lib.hid h2
  clear h2 hl1
  go_upto_region 15 with (fail)
  generalize w1.setCell ⟨Q, 1, none⟩ (.bool true) = w2 at *
  clear g0 g1 g2 fz1 c0
  have hl1 := H2.out.last HJ.out
  have g0 := cell_row hl1 0; have g1 := cell_row hl1 1; have g2 := cell_row hl1 2
  simp only [List.getElem?_toArray, List.getElem?_cons_zero, List.getElem?_cons_succ] at g0 g1 g2
  clear hl1
  obtain ⟨x, hx⟩ : ∃ x, x = S2.look M.L K.a := ⟨_, rfl⟩
  have hsw : Calls Tryz.prog 138 #[Pw B, Pw WB, .agg #[.bool K.l, .bool true, .int .i64 K.h]] w2 fun e w' => e = .returned (.bool (decide (x = K.w))) ∧ ∃ X', Wf w0 w' base WB (M.acc 3 K.a (S2.casV x K.w (wq K.w true))) (r ++ [blockP Q (.cells #[.bool K.l, .bool true, .int .i64 K.h] 73)]) j B (K.cas x K.w K.l true K.h) X' := by
    have hs := swapped_f H2.out HOK.out.a HOK.out.n hish hput (l2 := K.l) (q2 := true) (h2 := K.h) hish
    rw [show S1.putU K.l true K.h = wq K.w true from by rw [kl, kh]; rfl, ← hx] at hs
    exact hs
  obtain ⟨M1, hM1⟩ : ∃ M1, M1 = M.acc 3 K.a (S2.casV x K.w (wq K.w true)) := ⟨_, rfl⟩
  rw [← hM1] at hsw
  have HM1 := Lib.hid hM1; have HX := Lib.hid hx
  have HCON := Lib.hid (And.intro kl (And.intro kq (And.intro kh kn)))
  have hlk : M1.lk = M.lk := by rw [hM1]; rfl
  have HLK := Lib.hid hlk
  clear hM1 hput hish kl kq kh kn hlk
  by_cases e : x = K.w
  · have hsw2 := hsw
    rw [decide_eq_true e, show K.cas x K.w K.l true K.h = { K with l := K.l, q := true, h := K.h } from if_pos e] at hsw2
    have HSW := Lib.hid hsw2; have HE := Lib.hid e
    clear hsw hsw2 hx e
    have hu : ({ K with l := K.l, q := true, h := K.h, w := wq K.w true } : Fr).l = S1.bitB (wq K.w true) 0 ∧ ({ K with l := K.l, q := true, h := K.h, w := wq K.w true } : Fr).h = S1.headN (wq K.w true) := ⟨by rw [(wq_says K.w true).1]; exact HCON.out.1, by rw [(wq_says K.w true).2.2]; exact HCON.out.2.2.1⟩
    have HU := Lib.hid hu
    have hsb : ∀ e w', SeekF w0 base WB M1 (r ++ [blockP Q (.cells #[.bool K.l, .bool true, .int .i64 K.h] 73)]) j B { K with l := K.l, q := true, h := K.h, w := wq K.w true } (wq K.w true) e w' → Behind w0 base WB M r j B K e w' := fun e w' h => by
      obtain ⟨rfl, X', h⟩ := h
      unfold Behind
      rw [show fstepM M K = _ from by simp only [fstepM, HL.out]; rfl, show fstepK M K = _ from by simp only [fstepK, HL.out]; rfl, ← HX.out, if_pos HE.out, if_pos HE.out, ← HM1.out]
      rw [HLK.out] at h ⊢
      exact ⟨rfl, X', h.dropB HJ.out⟩
    have HSB := Lib.hid hsb
    clear hu hsb
    go_wp2_with (go_at_call 138; refine HSW.out.mono ?_; rintro e w5 ⟨rfl, X5, h5⟩; have H5 := Lib.hid h5; clear h5)
    have H6' := Lib.hid (H5.out.recast { K with l := K.l, q := true, h := K.h, w := wq K.w true } rfl)
    clear H5
    go_step3
    refine Or.inr ⟨rfl, ?_⟩
    show Code.wp _ _ _ _ _
    obtain ⟨lv, hlv⟩ : ∃ b, b = S1.bitB (wq K.w true) 0 := ⟨_, rfl⟩
    obtain ⟨hv, hhv⟩ : ∃ b, b = S1.headN (wq K.w true) := ⟨_, rfl⟩
    obtain ⟨n2, hn2⟩ : ∃ n, n = (S5.seekO (M1).lk (hdO (wq K.w true))).2 := ⟨_, rfl⟩
    obtain ⟨S2, hS2⟩ : ∃ S, S = (S5.seekO (M1).lk (hdO (wq K.w true))).1 := ⟨_, rfl⟩
    have hle := seekO_le (S := (M1).lk) (fun i => pg_le H6'.out.pg i) (wq K.w true)
    rw [← hn2, ← hS2] at hle
    have hsk : Calls Tryz.prog 140 #[Pw X5.lB, .int .i64 hv] w5.drew fun e w' => e = .returned (.int .i64 ((n2 : Int) - 1)) ∧ ∃ X', Pg w0 w' base WB ((M1).link S2) ((r ++ [blockP Q (.cells #[.bool K.l, .bool true, .int .i64 K.h] 73)]).set j (freeP B ({ K with l := K.l, q := true, h := K.h, w := wq K.w true }))) X' ∧ X'.lB = X5.lB := by
      rw [hn2, hS2, hhv]
      exact pg_seek (H6'.out.new (Below.refl _ _).drew).pg (num_head (wq K.w true))
    have HSK := Lib.hid hsk
    have HLV := Lib.hid hlv; have HHV := Lib.hid hhv; have HN2 := Lib.hid hn2; have HS2 := Lib.hid hS2; have HLE := Lib.hid hle
    have e2 := H6'.out.b2; have e4 := H6'.out.b4; have e3 := H6'.out.pg.c.2.2.1; have e5 := H6'.out.b5
    rw [HU.out.1, ← hlv] at e2
    rw [HU.out.2, ← hhv] at e4
    clear hlv hhv hn2 hS2 hle hsk
    have HX9 := Lib.hid (And.intro e3 e4)
    go_upto_region 29 with (fail)
    refine wp_region_held_drew (S := fun w' => w'.cell? ⟨WB, 3, none⟩ = some (Pw X5.lB) ∧ w'.cell? ⟨B, 4, none⟩ = some (.int .i64 hv)) (by kernel_rfl) ?_ (fun hHeld => ?_)
    · exact HX9.out
    refine tA 0 ⟨some 96, .move (.tmp 5), 269, "wordfrees.go:106", #[], none⟩ ?vsm1 ?rsm1
    (try simp only [Act.put, tC, tD, tE])
    refine tA 1 ⟨some 97, .move (.tmp 1), 33, "wordfrees.go:106", #[], none⟩ ?vsm2 ?rsm2
    (try simp only [Act.put, tC, tD, tE])
    refine tA 2 ⟨some 98, .nilCheck (.tmp 97), 0, "wordfrees.go:106", #[⟨1, .data⟩], none⟩ ?vsm3 ?rsm3
    (try simp only [Act.put, tC, tD, tE])
    refine tA 3 ⟨some 99, .fieldAddr 89 (.tmp 98) 3, 0, "wordfrees.go:106", #[⟨2, .data⟩], none⟩ ?vsm4 ?rsm4
    (try simp only [Act.put, tC, tD, tE])
    refine tA 4 ⟨some 100, .load 84 (.tmp 99), 84, "wordfrees.go:106", #[⟨3, .data⟩], none⟩ ?vsm5 ?rsm5
    (try simp only [Act.put, tC, tD, tE])
    refine tA 5 ⟨some 101, .move (.tmp 5), 269, "wordfrees.go:106", #[], none⟩ ?vsm6 ?rsm6
    (try simp only [Act.put, tC, tD, tE])
    refine tA 6 ⟨some 102, .nilCheck (.tmp 101), 0, "wordfrees.go:106", #[⟨5, .data⟩], none⟩ ?vsm7 ?rsm7
    (try simp only [Act.put, tC, tD, tE])
    refine tA 7 ⟨some 103, .fieldAddr 75 (.tmp 102) 0, 0, "wordfrees.go:106", #[⟨6, .data⟩], none⟩ ?vsm8 ?rsm8
    (try simp only [Act.put, tC, tD, tE])
    refine tA 8 ⟨some 104, .fieldAddr 73 (.tmp 103) 2, 0, "wordfrees.go:106", #[⟨7, .data⟩], none⟩ ?vsm9 ?rsm9
    (try simp only [Act.put, tC, tD, tE])
    refine tA 9 ⟨some 105, .load 3 (.tmp 104), 3, "wordfrees.go:106", #[⟨8, .data⟩], none⟩ ?vsm10 ?rsm10
    (try simp only [Act.put, tC, tD, tE])
    refine wpAnyH_ready (rs := [10]) (by kernel_rfl) (by simp) ?_
    refine AllReadyH.cons (o := ⟨some 106, .call ⟨.value (.func 140), #[.tmp 100, .tmp 105], #[84, 3]⟩, 3, "wordfrees.go:106", #[⟨4, .data⟩, ⟨9, .data⟩], none⟩) rfl (fun Kq hKq => ?_) AllReadyH.nil
    go_simp
    (refine HSK.out.mono ?_; rintro e w6 ⟨rfl, X6, h6g, hlb6⟩; have H6 := Lib.hid (show Wf w0 w6 base WB ((M1).link S2) (r ++ [blockP Q (.cells #[.bool K.l, .bool true, .int .i64 K.h] 73)]) j B ({ K with l := K.l, q := true, h := K.h, w := wq K.w true }) X6 from ⟨h6g, H6'.out.hj⟩); have HLB := Lib.hid hlb6; clear h6g hlb6)
    refine hKq.out _ _ ?_ (fun hHeld => ?_)
    · (have q3 := H6.out.pg.c.2.2.1; have q4 := H6.out.b4; rw [HLB.out] at q3; refine ⟨q3, ?_⟩; rw [HHV.out, ← HU.out.2]; exact q4)
    clear hKq Kq
    (try simp only [Act.put, tC, tD, tE])
    refine tA 11 ⟨some 107, .nilCheck (.tmp 96), 0, "wordfrees.go:106", #[⟨0, .data⟩, ⟨0, .phase⟩, ⟨1, .phase⟩, ⟨2, .phase⟩, ⟨3, .phase⟩, ⟨4, .phase⟩, ⟨5, .phase⟩, ⟨6, .phase⟩, ⟨7, .phase⟩, ⟨8, .phase⟩, ⟨9, .phase⟩, ⟨10, .phase⟩], none⟩ ?vsm11 ?rsm11
    (try simp only [Act.put, tC, tD, tE])
    refine tA 12 ⟨some 108, .fieldAddr 75 (.tmp 107) 1, 0, "wordfrees.go:106", #[⟨11, .data⟩, ⟨0, .phase⟩, ⟨1, .phase⟩, ⟨2, .phase⟩, ⟨3, .phase⟩, ⟨4, .phase⟩, ⟨5, .phase⟩, ⟨6, .phase⟩, ⟨7, .phase⟩, ⟨8, .phase⟩, ⟨9, .phase⟩, ⟨10, .phase⟩], none⟩ ?vsm12 ?rsm12
    (try simp only [Act.put, tC, tD, tE])
    refine wpAnyH_ready (rs := [13]) (by kernel_rfl) (by simp) ?_
    refine AllReadyH.cons (o := ⟨none, .store 3 (.tmp 108) (.tmp 106), 0, "wordfrees.go:106", #[⟨12, .data⟩, ⟨10, .data⟩, ⟨10, .chain⟩, ⟨0, .phase⟩, ⟨1, .phase⟩, ⟨2, .phase⟩, ⟨3, .phase⟩, ⟨4, .phase⟩, ⟨5, .phase⟩, ⟨6, .phase⟩, ⟨7, .phase⟩, ⟨8, .phase⟩, ⟨9, .phase⟩, ⟨10, .phase⟩], none⟩) rfl (fun Kq hKq => ?_) AllReadyH.nil
    (have y5 := H6.out.b5; have f5 := H6.out.fz 5; go_simp; have h7 := H6.out.tail ((n2 : Int) - 1); have H7 := Lib.hid h7; clear y5 f5 h7; generalize w6.setCell ⟨B, 5, none⟩ (.int .i64 ((n2 : Int) - 1)) = w7 at *)
    refine hKq.out _ _ ?_ (fun hHeld => ?_)
    · (have q3 := H7.out.pg.c.2.2.1; have q4 := H7.out.b4; rw [HLB.out] at q3; refine ⟨q3, ?_⟩; rw [HHV.out, ← HU.out.2]; exact q4)
    clear hKq Kq
    (try simp only [Act.put, tC, tD, tE])
    refine wpAnyH_done (by kernel_rfl) ?_ _
    clear hHeld e2 e3 e4 e5 HSK
    have e5 := H7.out.b5; have e2 := H7.out.b2; have e4 := H7.out.b4; have e3 := H7.out.pg.c.2.2.1
    replace e2 : w7.cell? ⟨B, 2, none⟩ = some (.bool lv) := by rw [HLV.out, ← HU.out.1]; exact e2
    replace e4 : w7.cell? ⟨B, 4, none⟩ = some (.int .i64 hv) := by rw [HHV.out, ← HU.out.2]; exact e4
    have hleaf : ∀ (W : World) (S : S5.Lk) (t : Int) (n : Nat), (S, t, n) = seekL (M1).lk (wq K.w true) → (∃ X', Wf w0 W base WB ((M1).link S) (r ++ [blockP Q (.cells #[.bool K.l, .bool true, .int .i64 K.h] 73)]) j B { ({ K with l := K.l, q := true, h := K.h, w := wq K.w true } : Fr) with t := t } X') → Behind w0 base WB M r j B K (.returned (.int .u8 (n : Int))) W := fun W S t n hs ⟨X', hx⟩ => by
      refine HSB.out _ _ ⟨?_, X', ?_⟩
      · rw [← hs]
      · rw [← hs]; exact hx
    have HLF := Lib.hid hleaf
    clear hleaf
    cases n2 with
    | zero =>
      have e6 : w7.cell? ⟨B, 5, none⟩ = some (.int .i64 (-1)) := e5
      have hq : (S2, (-1 : Int), 0) = seekL (M1).lk (wq K.w true) := by unfold seekL; rw [if_pos HN2.out.symm, ← HS2.out]
      have HFIN := Lib.hid (HLF.out w7 _ _ _ hq ⟨X6, H7.out⟩)
      clear e5 hq HLF
      go_wp2_with fail
      (try simp only [Exit.noGoto])
      go_ret
      exact HFIN.out
    | succ m =>
      have em : ((m + 1 : Nat) : Int) - 1 = (m : Int) := by omega
      have hm := HLE.out.1
      rw [em] at e5
      have hne : ((m : Int) == -1) = false := by rw [beq_eq_false_iff_ne]; omega
      have hn0 : ¬ (S5.seekO (M1).lk (hdO (wq K.w true))).2 = 0 := by rw [← HN2.out]; omega
      have htl : (((S5.seekO (M1).lk (hdO (wq K.w true))).2 : Int) - 1) = (m : Int) := by rw [← HN2.out]; omega
      have hpr : (S5.seekO (M1).lk (hdO (wq K.w true))).2 - 1 = m := by rw [← HN2.out]; omega
      have h8 := H7.out
      rw [em] at h8
      have H8 := Lib.hid h8; have HM := Lib.hid (show m < 64 by omega); have HEQ := Lib.hid (And.intro hn0 (And.intro htl hpr))
      clear em hm hn0 htl hpr h8 H7
      cases lv with
      | true =>
        have hq : (S2, (m : Int), 4) = seekL (M1).lk (wq K.w true) := by unfold seekL; rw [if_neg HEQ.out.1, if_pos HLV.out.symm, HEQ.out.2.1, ← HS2.out]
        have HFIN := Lib.hid (HLF.out w7 _ _ _ hq ⟨X6, H8.out⟩)
        clear hq HLF
        go_wp2_with fail
        (try simp only [Exit.noGoto])
        go_ret
        exact HFIN.out
      | false =>
        obtain ⟨y0, y1, y2, hat0⟩ : ∃ y0 y1 y2 : Int, (Calls Tryz.prog 70 #[Pw X6.lB, .int .i64 (m : Int)] w7.drew fun e w' => e = .returned (.agg #[.int .i64 y0, .int .i64 y1, .int .i64 y2]) ∧ Below w7.drew.heap.size w7.drew w') ∧ y1 = (S2 (m * 3 + 1) : Int) - 1 := ⟨_, _, _, pg_at (H8.out.new (Below.refl _ _).drew).pg HM.out, rfl⟩
        have HAT := Lib.hid hat0.1; have HY1 := Lib.hid hat0.2
        have hfd : ∀ w : World, (Instr.field 172 (.agg #[.int .i64 y0, .int .i64 y1, .int .i64 y2]) 1).run Tryz.prog w = .ok (.int .i64 y1) w := fun w => field_prev _ _ _ w
        clear hat0
        by_cases hp : S2 (m * 3 + 1) = 0
        · have hy : y1 = -1 := by rw [HY1.out, hp]; rfl
          subst hy
          have hq : (S2, (m : Int), 5) = seekL (M1).lk (wq K.w true) := by unfold seekL; rw [if_neg HEQ.out.1, if_neg (by rw [← HLV.out]; decide), HEQ.out.2.2, HEQ.out.2.1, ← HS2.out, if_pos hp]
          have HFIN := Lib.hid (fun W (b : Below w7.heap.size w7 W) => HLF.out W _ _ _ hq ⟨X6, H8.out.new b⟩)
          clear hq HLF hp
          go_upto_region 34 with (fail)
          go_still_tail 8, (by kernel_rfl)
          change wpList _ _ _ _ _ w7.drew
          go_wp2_with (go_at_call 70; refine HAT.out.mono ?_; rintro e w8 ⟨rfl, hb8⟩; have HB8 := Lib.hid hb8; clear hb8)
          (try simp only [Exit.noGoto])
          go_ret
          exact HFIN.out _ (Below.trans (Below.refl _ _).drew HB8.out)
        · have hy : (y1 == -1) = false := by rw [HY1.out, beq_eq_false_iff_ne]; omega
          have hq : ((S5.cutO S2 (hdO (wq K.w true)) (some m)).1, (m : Int), 6) = seekL (M1).lk (wq K.w true) := by unfold seekL; rw [if_neg HEQ.out.1, if_neg (by rw [← HLV.out]; decide), HEQ.out.2.2, HEQ.out.2.1, ← HS2.out, if_neg hp]
          have HFIN := Lib.hid (fun W => HLF.out W _ _ _ hq)
          clear hq HLF hp
          go_upto_region 34 with (fail)
          go_still_tail 8, (by kernel_rfl)
          change wpList _ _ _ _ _ w7.drew
          go_upto_region 36 with (go_at_call 70; refine HAT.out.mono ?_; rintro e w8 ⟨rfl, hb8⟩; have H9 := Lib.hid (H8.out.new ((Below.refl _ _).drew.trans hb8)); clear hb8)
          clear e2 e3 e4 e5
          have e5 := H9.out.b5; have e4 := H9.out.b4; have e3 := H9.out.pg.c.2.2.1
          replace e4 : w8.cell? ⟨B, 4, none⟩ = some (.int .i64 hv) := by rw [HHV.out, ← HU.out.2]; exact e4
          have hct : Calls Tryz.prog 141 #[Pw X6.lB, .int .i64 hv, .int .i64 (m : Int)] w8.drew fun e w' => (∃ v, e = .returned (.int .i64 v)) ∧ ∃ X', Pg w0 w' base WB (((M1).link S2).link (S5.cutO S2 (hdO (wq K.w true)) (some m)).1) ((r ++ [blockP Q (.cells #[.bool K.l, .bool true, .int .i64 K.h] 73)]).set j (freeP B { ({ K with l := K.l, q := true, h := K.h, w := wq K.w true } : Fr) with t := (m : Int) })) X' ∧ X'.lB = X6.lB := by
            rw [HHV.out]
            exact (pg_cut (H9.out.new (Below.refl _ _).drew).pg (num_head (wq K.w true)) (show S5.Num (m : Int) (some m) from ⟨rfl, HM.out⟩)).mono (fun e w' h => ⟨⟨_, h.1⟩, h.2⟩)
          have HCT := Lib.hid hct
          clear hct
          go_still_tail 13, (by kernel_rfl)
          change wpList _ _ _ _ _ w8.drew
          go_wp2_with (go_at_call 141; refine HCT.out.mono ?_; rintro e w9 ⟨⟨cv, rfl⟩, X9, h9, hlb9⟩; have H10 := Lib.hid h9; clear h9 hlb9)
          (try simp only [Exit.noGoto])
          go_ret
          exact HFIN.out _ ⟨X9, H10.out, H9.out.hj⟩
  · have hsw2 := hsw
    rw [decide_eq_false e, show K.cas x K.w K.l true K.h = { K with l := S1.bitB x 0, q := S1.bitB x 1, h := S1.headN x } from if_neg e] at hsw2
    have HSW := Lib.hid hsw2; have HE := Lib.hid e
    clear hsw hsw2 hx e
    go_wp2_with (go_at_call 138; refine HSW.out.mono ?_; rintro e w5 ⟨rfl, X5, h5⟩; have H5 := Lib.hid h5; clear h5)
    have h6 := H5.out.recast (K.says x) rfl
    have H6 := Lib.hid h6
    have z3 := h6.b3; have z4 := h6.b4
    clear h6 H5
    have HDN := Lib.hid (done_f (w := w5) (S1.bitB x 1) (S1.headN x) z3 z4)
    have HID := Lib.hid (show idle x = (S1.bitB x 1 || decide (S1.headN x = -1)) from rfl)
    have hfin : Behind w0 base WB M r j B K (.returned (.int .u8 ((if idle x = true then 0 else 3 : Nat) : Int))) w5 := by
      unfold Behind
      rw [show fstepM M K = _ from by simp only [fstepM, HL.out]; rfl, show fstepK M K = _ from by simp only [fstepK, HL.out]; rfl, ← HX.out, if_neg HE.out, if_neg HE.out, ← HM1.out]
      exact ⟨rfl, X5, H6.out.dropB HJ.out⟩
    have HF := Lib.hid hfin
    clear hfin z3 z4
    obtain ⟨id, hid⟩ : ∃ id, id = idle x := ⟨_, rfl⟩
    rw [← HID.out] at HDN
    rw [← hid] at HDN HF
    clear hid HID
    go_step3
    refine Or.inl ⟨rfl, ?_⟩
    show Code.wp _ _ _ _ _
    cases id with
    | true =>
      rw [if_pos rfl] at HF
      go_wp2_with (go_at_call 136; refine HDN.out.mono ?_; rintro e w6 ⟨rfl, rfl⟩)
      (try simp only [Exit.noGoto])
      go_ret
      exact HF.out
    | false =>
      rw [if_neg (by decide)] at HF
      go_wp2_with (go_at_call 136; refine HDN.out.mono ?_; rintro e w6 ⟨rfl, rfl⟩)
      (try simp only [Exit.noGoto])
      go_ret
      exact HF.out
end
end Go.Proofs.YtlflagjnlclffaaGreat.S14
namespace Go.Proofs.YtlflagjnlclffaaGreat.S14
set_option maxRecDepth 100000
set_option maxHeartbeats 16000000
open Go.Proofs.YtlflagjnlclffaaGreat Go.Proofs.YtlflagjnlclffaaGreat.S11 Go.Proofs.YtlflagjnlclffaaGreat.S12 Go.Proofs.YtlflagjnlclffaaGreat.S13
open Go.RowKit
section
variable {w0 w w' : World} {base WB : Nat} {M : Sd} {r : List Part} {j B : Nat} {K : Fr} {X : Wm}
theorem beh4 (h : Wf w0 w base WB M r j B K X) (ok : FrOk M K) (hl : K.ln = 4) : Calls Tryz.prog 73 #[Pw B, Pw WB] w (Behind w0 base WB M r j B K) := by
  have hj := h.hj
  have c0 := h.b0
  rw [hl] at c0
  have c2 := h.b2; have c3 := h.b3; have c4 := h.b4
  have hA := h.pushB (.cells #[.bool K.l, .bool K.q, .int .i64 K.h] 73)
  obtain ⟨Q, hQ⟩ : ∃ Q, Q = w.heap.size := ⟨_, rfl⟩
  rw [← hQ] at hA
  have HA := Lib.hid hA; have HJ := Lib.hid hj; have HQ := Lib.hid hQ; have HOK := Lib.hid ok; have HL := Lib.hid hl
  clear h hj hA hQ ok hl
  go_enter Tryz.func73, Tryz.ntmps73
  go_wp2_with fail
  refine wp_scope_two rfl rfl ?_
  go_upto_region 3 with (fail)
  rw [← HQ.out]
  generalize w.alloc (.cells #[.bool K.l, .bool K.q, .int .i64 K.h] 73) = w1 at *
  clear c0 c2 c3 c4
  have c0 := HA.out.b0
  rw [HL.out] at c0
  obtain ⟨kl, kq, kh, kn⟩ := HOK.out.con (by rw [HL.out]; omega) (by rw [HL.out]; omega)
  have hput : S1.putU K.l K.q K.h = K.w := by rw [kl, kq, kh]; exact (word_put kn).1
  have hish : S1.isHead K.h := by rw [kh]; exact S1.head_is _
  have hl1 := HA.out.last HJ.out
  have g0 := cell_row hl1 0; have g1 := cell_row hl1 1; have g2 := cell_row hl1 2; have fz1 := froz_row hl1 1
  simp only [List.getElem?_toArray, List.getElem?_cons_zero, List.getElem?_cons_succ] at g0 g1 g2
  have h2 := HA.out.turnLast HJ.out (.cells #[.bool K.l, .bool false, .int .i64 K.h] 73) (set_blk hl1 1 (.bool false) _ (by simp)) ((Turns.refl (fun k => k = Q) w1).setCell ⟨Q, 1, none⟩ _ rfl)
  have H2 := Lib.hid h2
  clear h2 hl1
  go_upto_region 18 with (fail)
  generalize w1.setCell ⟨Q, 1, none⟩ (.bool false) = w2 at *
  clear g0 g1 g2 fz1 c0
  have hl1 := H2.out.last HJ.out
  have g0 := cell_row hl1 0; have g1 := cell_row hl1 1; have g2 := cell_row hl1 2
  simp only [List.getElem?_toArray, List.getElem?_cons_zero, List.getElem?_cons_succ] at g0 g1 g2
  clear hl1
  obtain ⟨x, hx⟩ : ∃ x, x = S2.look M.L K.a := ⟨_, rfl⟩
  have hsw : Calls Tryz.prog 138 #[Pw B, Pw WB, .agg #[.bool K.l, .bool false, .int .i64 K.h]] w2 fun e w' => e = .returned (.bool (decide (x = K.w))) ∧ ∃ X', Wf w0 w' base WB (M.acc 3 K.a (S2.casV x K.w (wq K.w false))) (r ++ [blockP Q (.cells #[.bool K.l, .bool false, .int .i64 K.h] 73)]) j B (K.cas x K.w K.l false K.h) X' := by
    have hs := swapped_f H2.out HOK.out.a HOK.out.n hish hput (l2 := K.l) (q2 := false) (h2 := K.h) hish
    rw [show S1.putU K.l false K.h = wq K.w false from by rw [kl, kh]; rfl, ← hx] at hs
    exact hs
  obtain ⟨M1, hM1⟩ : ∃ M1, M1 = M.acc 3 K.a (S2.casV x K.w (wq K.w false)) := ⟨_, rfl⟩
  rw [← hM1] at hsw
  have HM1 := Lib.hid hM1; have HX := Lib.hid hx
  have HCON := Lib.hid (And.intro kl (And.intro kq (And.intro kh kn)))
  have hlk : M1.lk = M.lk := by rw [hM1]; rfl
  have HLK := Lib.hid hlk
  clear hM1 hput hish kl kq kh kn hlk
  by_cases e : x = K.w
  · have hsw2 := hsw
    rw [decide_eq_true e, show K.cas x K.w K.l false K.h = { K with l := K.l, q := false, h := K.h } from if_pos e] at hsw2
    have HSW := Lib.hid hsw2; have HE := Lib.hid e
    clear hsw hsw2 hx e
    have hfin : ∀ w' X', Wf w0 w' base WB M1 (r ++ [blockP Q (.cells #[.bool K.l, .bool false, .int .i64 K.h] 73)]) j B { K with l := K.l, q := false, h := K.h } X' → Behind w0 base WB M r j B K (.returned (.int .u8 (0 : Int))) w' := fun w' X' h => by
      unfold Behind
      rw [show fstepM M K = _ from by simp only [fstepM, HL.out]; rfl, show fstepK M K = _ from by simp only [fstepK, HL.out]; rfl, ← HX.out, if_pos HE.out, if_pos HE.out, ← HM1.out]
      exact ⟨rfl, X', h.dropB HJ.out⟩
    have HF := Lib.hid hfin
    clear hfin
    go_wp2_with (go_at_call 138; refine HSW.out.mono ?_; rintro e w5 ⟨rfl, X5, h5⟩; have H5 := Lib.hid h5; clear h5)
    (try simp only [to2])
    go_ret
    exact HF.out _ _ H5.out
  · have hsw2 := hsw
    rw [decide_eq_false e, show K.cas x K.w K.l false K.h = { K with l := S1.bitB x 0, q := S1.bitB x 1, h := S1.headN x } from if_neg e] at hsw2
    have HSW := Lib.hid hsw2; have HE := Lib.hid e
    clear hsw hsw2 hx e
    have HU := Lib.hid (show (K.says x).l = S1.bitB x 0 ∧ (K.says x).h = S1.headN x from ⟨rfl, rfl⟩)
    have hsb : ∀ e w', SeekF w0 base WB M1 (r ++ [blockP Q (.cells #[.bool K.l, .bool false, .int .i64 K.h] 73)]) j B (K.says x) x e w' → Behind w0 base WB M r j B K e w' := fun e w' h => by
      obtain ⟨rfl, X', h⟩ := h
      unfold Behind
      rw [show fstepM M K = _ from by simp only [fstepM, HL.out]; rfl, show fstepK M K = _ from by simp only [fstepK, HL.out]; rfl, ← HX.out, if_neg HE.out, if_neg HE.out, ← HM1.out]
      rw [HLK.out] at h ⊢
      exact ⟨rfl, X', h.dropB HJ.out⟩
    have HSB := Lib.hid hsb
    clear hsb
    go_wp2_with (go_at_call 138; refine HSW.out.mono ?_; rintro e w5 ⟨rfl, X5, h5⟩; have H5 := Lib.hid h5; clear h5)
    have H6' := Lib.hid (H5.out.recast (K.says x) rfl)
    clear H5
    go_step3
    refine Or.inr ⟨rfl, ?_⟩
    show Code.wp _ _ _ _ _
    obtain ⟨lv, hlv⟩ : ∃ b, b = S1.bitB x 0 := ⟨_, rfl⟩
    obtain ⟨hv, hhv⟩ : ∃ b, b = S1.headN x := ⟨_, rfl⟩
    obtain ⟨n2, hn2⟩ : ∃ n, n = (S5.seekO (M1).lk (hdO x)).2 := ⟨_, rfl⟩
    obtain ⟨S2, hS2⟩ : ∃ S, S = (S5.seekO (M1).lk (hdO x)).1 := ⟨_, rfl⟩
    have hle := seekO_le (S := (M1).lk) (fun i => pg_le H6'.out.pg i) x
    rw [← hn2, ← hS2] at hle
    have hsk : Calls Tryz.prog 140 #[Pw X5.lB, .int .i64 hv] w5.drew fun e w' => e = .returned (.int .i64 ((n2 : Int) - 1)) ∧ ∃ X', Pg w0 w' base WB ((M1).link S2) ((r ++ [blockP Q (.cells #[.bool K.l, .bool false, .int .i64 K.h] 73)]).set j (freeP B (K.says x))) X' ∧ X'.lB = X5.lB := by
      rw [hn2, hS2, hhv]
      exact pg_seek (H6'.out.new (Below.refl _ _).drew).pg (num_head x)
    have HSK := Lib.hid hsk
    have HLV := Lib.hid hlv; have HHV := Lib.hid hhv; have HN2 := Lib.hid hn2; have HS2 := Lib.hid hS2; have HLE := Lib.hid hle
    have e2 := H6'.out.b2; have e4 := H6'.out.b4; have e3 := H6'.out.pg.c.2.2.1; have e5 := H6'.out.b5
    rw [HU.out.1, ← hlv] at e2
    rw [HU.out.2, ← hhv] at e4
    clear hlv hhv hn2 hS2 hle hsk
    have HX9 := Lib.hid (And.intro e3 e4)
    go_upto_region 29 with (fail)
    refine wp_region_held_drew (S := fun w' => w'.cell? ⟨WB, 3, none⟩ = some (Pw X5.lB) ∧ w'.cell? ⟨B, 4, none⟩ = some (.int .i64 hv)) (by kernel_rfl) ?_ (fun hHeld => ?_)
    · exact HX9.out
    refine tA 0 ⟨some 96, .move (.tmp 5), 269, "wordfrees.go:106", #[], none⟩ ?vsm1 ?rsm1
    (try simp only [Act.put, tC, tD, tE])
    refine tA 1 ⟨some 97, .move (.tmp 1), 33, "wordfrees.go:106", #[], none⟩ ?vsm2 ?rsm2
    (try simp only [Act.put, tC, tD, tE])
    refine tA 2 ⟨some 98, .nilCheck (.tmp 97), 0, "wordfrees.go:106", #[⟨1, .data⟩], none⟩ ?vsm3 ?rsm3
    (try simp only [Act.put, tC, tD, tE])
    refine tA 3 ⟨some 99, .fieldAddr 89 (.tmp 98) 3, 0, "wordfrees.go:106", #[⟨2, .data⟩], none⟩ ?vsm4 ?rsm4
    (try simp only [Act.put, tC, tD, tE])
    refine tA 4 ⟨some 100, .load 84 (.tmp 99), 84, "wordfrees.go:106", #[⟨3, .data⟩], none⟩ ?vsm5 ?rsm5
    (try simp only [Act.put, tC, tD, tE])
    refine tA 5 ⟨some 101, .move (.tmp 5), 269, "wordfrees.go:106", #[], none⟩ ?vsm6 ?rsm6
    (try simp only [Act.put, tC, tD, tE])
    refine tA 6 ⟨some 102, .nilCheck (.tmp 101), 0, "wordfrees.go:106", #[⟨5, .data⟩], none⟩ ?vsm7 ?rsm7
    (try simp only [Act.put, tC, tD, tE])
    refine tA 7 ⟨some 103, .fieldAddr 75 (.tmp 102) 0, 0, "wordfrees.go:106", #[⟨6, .data⟩], none⟩ ?vsm8 ?rsm8
    (try simp only [Act.put, tC, tD, tE])
    refine tA 8 ⟨some 104, .fieldAddr 73 (.tmp 103) 2, 0, "wordfrees.go:106", #[⟨7, .data⟩], none⟩ ?vsm9 ?rsm9
    (try simp only [Act.put, tC, tD, tE])
    refine tA 9 ⟨some 105, .load 3 (.tmp 104), 3, "wordfrees.go:106", #[⟨8, .data⟩], none⟩ ?vsm10 ?rsm10
    (try simp only [Act.put, tC, tD, tE])
    refine wpAnyH_ready (rs := [10]) (by kernel_rfl) (by simp) ?_
    refine AllReadyH.cons (o := ⟨some 106, .call ⟨.value (.func 140), #[.tmp 100, .tmp 105], #[84, 3]⟩, 3, "wordfrees.go:106", #[⟨4, .data⟩, ⟨9, .data⟩], none⟩) rfl (fun Kq hKq => ?_) AllReadyH.nil
    go_simp
    (refine HSK.out.mono ?_; rintro e w6 ⟨rfl, X6, h6g, hlb6⟩; have H6 := Lib.hid (show Wf w0 w6 base WB ((M1).link S2) (r ++ [blockP Q (.cells #[.bool K.l, .bool false, .int .i64 K.h] 73)]) j B (K.says x) X6 from ⟨h6g, H6'.out.hj⟩); have HLB := Lib.hid hlb6; clear h6g hlb6)
    refine hKq.out _ _ ?_ (fun hHeld => ?_)
    · (have q3 := H6.out.pg.c.2.2.1; have q4 := H6.out.b4; rw [HLB.out] at q3; refine ⟨q3, ?_⟩; rw [HHV.out, ← HU.out.2]; exact q4)
    clear hKq Kq
    (try simp only [Act.put, tC, tD, tE])
    refine tA 11 ⟨some 107, .nilCheck (.tmp 96), 0, "wordfrees.go:106", #[⟨0, .data⟩, ⟨0, .phase⟩, ⟨1, .phase⟩, ⟨2, .phase⟩, ⟨3, .phase⟩, ⟨4, .phase⟩, ⟨5, .phase⟩, ⟨6, .phase⟩, ⟨7, .phase⟩, ⟨8, .phase⟩, ⟨9, .phase⟩, ⟨10, .phase⟩], none⟩ ?vsm11 ?rsm11
    (try simp only [Act.put, tC, tD, tE])
    refine tA 12 ⟨some 108, .fieldAddr 75 (.tmp 107) 1, 0, "wordfrees.go:106", #[⟨11, .data⟩, ⟨0, .phase⟩, ⟨1, .phase⟩, ⟨2, .phase⟩, ⟨3, .phase⟩, ⟨4, .phase⟩, ⟨5, .phase⟩, ⟨6, .phase⟩, ⟨7, .phase⟩, ⟨8, .phase⟩, ⟨9, .phase⟩, ⟨10, .phase⟩], none⟩ ?vsm12 ?rsm12
    (try simp only [Act.put, tC, tD, tE])
    refine wpAnyH_ready (rs := [13]) (by kernel_rfl) (by simp) ?_
    refine AllReadyH.cons (o := ⟨none, .store 3 (.tmp 108) (.tmp 106), 0, "wordfrees.go:106", #[⟨12, .data⟩, ⟨10, .data⟩, ⟨10, .chain⟩, ⟨0, .phase⟩, ⟨1, .phase⟩, ⟨2, .phase⟩, ⟨3, .phase⟩, ⟨4, .phase⟩, ⟨5, .phase⟩, ⟨6, .phase⟩, ⟨7, .phase⟩, ⟨8, .phase⟩, ⟨9, .phase⟩, ⟨10, .phase⟩], none⟩) rfl (fun Kq hKq => ?_) AllReadyH.nil
    (have y5 := H6.out.b5; have f5 := H6.out.fz 5; go_simp; have h7 := H6.out.tail ((n2 : Int) - 1); have H7 := Lib.hid h7; clear y5 f5 h7; generalize w6.setCell ⟨B, 5, none⟩ (.int .i64 ((n2 : Int) - 1)) = w7 at *)
    refine hKq.out _ _ ?_ (fun hHeld => ?_)
    · (have q3 := H7.out.pg.c.2.2.1; have q4 := H7.out.b4; rw [HLB.out] at q3; refine ⟨q3, ?_⟩; rw [HHV.out, ← HU.out.2]; exact q4)
    clear hKq Kq
    (try simp only [Act.put, tC, tD, tE])
    refine wpAnyH_done (by kernel_rfl) ?_ _
    clear hHeld e2 e3 e4 e5 HSK
    have e5 := H7.out.b5; have e2 := H7.out.b2; have e4 := H7.out.b4; have e3 := H7.out.pg.c.2.2.1
    replace e2 : w7.cell? ⟨B, 2, none⟩ = some (.bool lv) := by rw [HLV.out, ← HU.out.1]; exact e2
    replace e4 : w7.cell? ⟨B, 4, none⟩ = some (.int .i64 hv) := by rw [HHV.out, ← HU.out.2]; exact e4
    have hleaf : ∀ (W : World) (S : S5.Lk) (t : Int) (n : Nat), (S, t, n) = seekL (M1).lk x → (∃ X', Wf w0 W base WB ((M1).link S) (r ++ [blockP Q (.cells #[.bool K.l, .bool false, .int .i64 K.h] 73)]) j B { (K.says x : Fr) with t := t } X') → Behind w0 base WB M r j B K (.returned (.int .u8 (n : Int))) W := fun W S t n hs ⟨X', hx⟩ => by
      refine HSB.out _ _ ⟨?_, X', ?_⟩
      · rw [← hs]
      · rw [← hs]; exact hx
    have HLF := Lib.hid hleaf
    clear hleaf
    cases n2 with
    | zero =>
      have e6 : w7.cell? ⟨B, 5, none⟩ = some (.int .i64 (-1)) := e5
      have hq : (S2, (-1 : Int), 0) = seekL (M1).lk x := by unfold seekL; rw [if_pos HN2.out.symm, ← HS2.out]
      have HFIN := Lib.hid (HLF.out w7 _ _ _ hq ⟨X6, H7.out⟩)
      clear e5 hq HLF
      go_wp2_with fail
      (try simp only [Exit.noGoto])
      go_ret
      exact HFIN.out
    | succ m =>
      have em : ((m + 1 : Nat) : Int) - 1 = (m : Int) := by omega
      have hm := HLE.out.1
      rw [em] at e5
      have hne : ((m : Int) == -1) = false := by rw [beq_eq_false_iff_ne]; omega
      have hn0 : ¬ (S5.seekO (M1).lk (hdO x)).2 = 0 := by rw [← HN2.out]; omega
      have htl : (((S5.seekO (M1).lk (hdO x)).2 : Int) - 1) = (m : Int) := by rw [← HN2.out]; omega
      have hpr : (S5.seekO (M1).lk (hdO x)).2 - 1 = m := by rw [← HN2.out]; omega
      have h8 := H7.out
      rw [em] at h8
      have H8 := Lib.hid h8; have HM := Lib.hid (show m < 64 by omega); have HEQ := Lib.hid (And.intro hn0 (And.intro htl hpr))
      clear em hm hn0 htl hpr h8 H7
      cases lv with
      | true =>
        have hq : (S2, (m : Int), 4) = seekL (M1).lk x := by unfold seekL; rw [if_neg HEQ.out.1, if_pos HLV.out.symm, HEQ.out.2.1, ← HS2.out]
        have HFIN := Lib.hid (HLF.out w7 _ _ _ hq ⟨X6, H8.out⟩)
        clear hq HLF
        go_wp2_with fail
        (try simp only [Exit.noGoto])
        go_ret
        exact HFIN.out
      | false =>
        obtain ⟨y0, y1, y2, hat0⟩ : ∃ y0 y1 y2 : Int, (Calls Tryz.prog 70 #[Pw X6.lB, .int .i64 (m : Int)] w7.drew fun e w' => e = .returned (.agg #[.int .i64 y0, .int .i64 y1, .int .i64 y2]) ∧ Below w7.drew.heap.size w7.drew w') ∧ y1 = (S2 (m * 3 + 1) : Int) - 1 := ⟨_, _, _, pg_at (H8.out.new (Below.refl _ _).drew).pg HM.out, rfl⟩
        have HAT := Lib.hid hat0.1; have HY1 := Lib.hid hat0.2
        have hfd : ∀ w : World, (Instr.field 172 (.agg #[.int .i64 y0, .int .i64 y1, .int .i64 y2]) 1).run Tryz.prog w = .ok (.int .i64 y1) w := fun w => field_prev _ _ _ w
        clear hat0
        by_cases hp : S2 (m * 3 + 1) = 0
        · have hy : y1 = -1 := by rw [HY1.out, hp]; rfl
          subst hy
          have hq : (S2, (m : Int), 5) = seekL (M1).lk x := by unfold seekL; rw [if_neg HEQ.out.1, if_neg (by rw [← HLV.out]; decide), HEQ.out.2.2, HEQ.out.2.1, ← HS2.out, if_pos hp]
          have HFIN := Lib.hid (fun W (b : Below w7.heap.size w7 W) => HLF.out W _ _ _ hq ⟨X6, H8.out.new b⟩)
          clear hq HLF hp
          go_upto_region 34 with (fail)
          go_still_tail 8, (by kernel_rfl)
          change wpList _ _ _ _ _ w7.drew
          go_wp2_with (go_at_call 70; refine HAT.out.mono ?_; rintro e w8 ⟨rfl, hb8⟩; have HB8 := Lib.hid hb8; clear hb8)
          (try simp only [Exit.noGoto])
          go_ret
          exact HFIN.out _ (Below.trans (Below.refl _ _).drew HB8.out)
        · have hy : (y1 == -1) = false := by rw [HY1.out, beq_eq_false_iff_ne]; omega
          have hq : ((S5.cutO S2 (hdO x) (some m)).1, (m : Int), 6) = seekL (M1).lk x := by unfold seekL; rw [if_neg HEQ.out.1, if_neg (by rw [← HLV.out]; decide), HEQ.out.2.2, HEQ.out.2.1, ← HS2.out, if_neg hp]
          have HFIN := Lib.hid (fun W => HLF.out W _ _ _ hq)
          clear hq HLF hp
          go_upto_region 34 with (fail)
          go_still_tail 8, (by kernel_rfl)
          change wpList _ _ _ _ _ w7.drew
          go_upto_region 36 with (go_at_call 70; refine HAT.out.mono ?_; rintro e w8 ⟨rfl, hb8⟩; have H9 := Lib.hid (H8.out.new ((Below.refl _ _).drew.trans hb8)); clear hb8)
          clear e2 e3 e4 e5
          have e5 := H9.out.b5; have e4 := H9.out.b4; have e3 := H9.out.pg.c.2.2.1
          replace e4 : w8.cell? ⟨B, 4, none⟩ = some (.int .i64 hv) := by rw [HHV.out, ← HU.out.2]; exact e4
          have hct : Calls Tryz.prog 141 #[Pw X6.lB, .int .i64 hv, .int .i64 (m : Int)] w8.drew fun e w' => (∃ v, e = .returned (.int .i64 v)) ∧ ∃ X', Pg w0 w' base WB (((M1).link S2).link (S5.cutO S2 (hdO x) (some m)).1) ((r ++ [blockP Q (.cells #[.bool K.l, .bool false, .int .i64 K.h] 73)]).set j (freeP B { (K.says x : Fr) with t := (m : Int) })) X' ∧ X'.lB = X6.lB := by
            rw [HHV.out]
            exact (pg_cut (H9.out.new (Below.refl _ _).drew).pg (num_head x) (show S5.Num (m : Int) (some m) from ⟨rfl, HM.out⟩)).mono (fun e w' h => ⟨⟨_, h.1⟩, h.2⟩)
          have HCT := Lib.hid hct
          clear hct
          go_still_tail 13, (by kernel_rfl)
          change wpList _ _ _ _ _ w8.drew
          go_wp2_with (go_at_call 141; refine HCT.out.mono ?_; rintro e w9 ⟨⟨cv, rfl⟩, X9, h9, hlb9⟩; have H10 := Lib.hid h9; clear h9 hlb9)
          (try simp only [Exit.noGoto])
          go_ret
          exact HFIN.out _ ⟨X9, H10.out, H9.out.hj⟩
end
end Go.Proofs.YtlflagjnlclffaaGreat.S14
namespace Go.Proofs.YtlflagjnlclffaaGreat.S14
set_option maxRecDepth 100000
set_option maxHeartbeats 16000000
open Go.Proofs.YtlflagjnlclffaaGreat Go.Proofs.YtlflagjnlclffaaGreat.S11 Go.Proofs.YtlflagjnlclffaaGreat.S12 Go.Proofs.YtlflagjnlclffaaGreat.S13
open Go.RowKit
section
variable {w0 w w' : World} {base WB : Nat} {M : Sd} {r : List Part} {j B : Nat} {K : Fr} {X : Wm}
theorem beh5 (h : Wf w0 w base WB M r j B K X) (ok : FrOk M K) (hl : K.ln = 5) : Calls Tryz.prog 73 #[Pw B, Pw WB] w (Behind w0 base WB M r j B K) := by
  have hj := h.hj
  have c0 := h.b0
  rw [hl] at c0
  have c2 := h.b2; have c3 := h.b3; have c4 := h.b4
  have hA := h.pushB (.cells #[.bool K.l, .bool K.q, .int .i64 K.h] 73)
  obtain ⟨Q, hQ⟩ : ∃ Q, Q = w.heap.size := ⟨_, rfl⟩
  rw [← hQ] at hA
  have HA := Lib.hid hA; have HJ := Lib.hid hj; have HQ := Lib.hid hQ; have HOK := Lib.hid ok; have HL := Lib.hid hl
  clear h hj hA hQ ok hl
  go_enter Tryz.func73, Tryz.ntmps73
  go_wp2_with fail
  refine wp_scope_two rfl rfl ?_
  go_upto_region 3 with (fail)
  rw [← HQ.out]
  generalize w.alloc (.cells #[.bool K.l, .bool K.q, .int .i64 K.h] 73) = w1 at *
  clear c0 c2 c3 c4
  have c0 := HA.out.b0
  rw [HL.out] at c0
  obtain ⟨kl, kq, kh, kn⟩ := HOK.out.con (by rw [HL.out]; omega) (by rw [HL.out]; omega)
  have hput : S1.putU K.l K.q K.h = K.w := by rw [kl, kq, kh]; exact (word_put kn).1
  have hish : S1.isHead K.h := by rw [kh]; exact S1.head_is _
  go_upto_region 21 with (fail)
  clear c0
  have H2 := Lib.hid HA.out
  obtain ⟨w2, hw2⟩ : ∃ w2, w2 = w1 := ⟨_, rfl⟩
  rw [← hw2] at H2 ⊢
  clear hw2
  obtain ⟨x, hx⟩ : ∃ x, x = S2.look M.L K.a := ⟨_, rfl⟩
  have hsw : Calls Tryz.prog 138 #[Pw B, Pw WB, .agg #[.bool false, .bool false, .int .i64 (-1)]] w2 fun e w' => e = .returned (.bool (decide (x = K.w))) ∧ ∃ X', Wf w0 w' base WB (M.acc 3 K.a (S2.casV x K.w (0))) (r ++ [blockP Q (.cells #[.bool K.l, .bool K.q, .int .i64 K.h] 73)]) j B (K.cas x K.w false false (-1)) X' := by
    have hs := swapped_f H2.out HOK.out.a HOK.out.n hish hput (l2 := false) (q2 := false) (h2 := (-1)) (by unfold S1.isHead; omega)
    rw [show S1.putU false false (-1) = 0 from by decide, ← hx] at hs
    exact hs
  obtain ⟨M1, hM1⟩ : ∃ M1, M1 = M.acc 3 K.a (S2.casV x K.w (0)) := ⟨_, rfl⟩
  rw [← hM1] at hsw
  have HM1 := Lib.hid hM1; have HX := Lib.hid hx
  have HCON := Lib.hid (And.intro kl (And.intro kq (And.intro kh kn)))
  have hlk : M1.lk = M.lk := by rw [hM1]; rfl
  have HLK := Lib.hid hlk
  clear hM1 hput hish kl kq kh kn hlk
  by_cases e : x = K.w
  · have hsw2 := hsw
    rw [decide_eq_true e, show K.cas x K.w false false (-1) = { K with l := false, q := false, h := (-1) } from if_pos e] at hsw2
    have HSW := Lib.hid hsw2; have HE := Lib.hid e
    clear hsw hsw2 hx e
    have hfin : ∀ w' X', Wf w0 w' base WB M1 (r ++ [blockP Q (.cells #[.bool K.l, .bool K.q, .int .i64 K.h] 73)]) j B { K with l := false, q := false, h := (-1) } X' → Behind w0 base WB M r j B K (.returned (.int .u8 (7 : Int))) w' := fun w' X' h => by
      unfold Behind
      rw [show fstepM M K = _ from by simp only [fstepM, HL.out]; rfl, show fstepK M K = _ from by simp only [fstepK, HL.out]; rfl, ← HX.out, if_pos HE.out, if_pos HE.out, ← HM1.out]
      exact ⟨rfl, X', h.dropB HJ.out⟩
    have HF := Lib.hid hfin
    clear hfin
    go_wp2_with (go_at_call 138; refine HSW.out.mono ?_; rintro e w5 ⟨rfl, X5, h5⟩; have H5 := Lib.hid h5; clear h5)
    (try simp only [to2])
    go_ret
    exact HF.out _ _ H5.out
  · have hsw2 := hsw
    rw [decide_eq_false e, show K.cas x K.w false false (-1) = { K with l := S1.bitB x 0, q := S1.bitB x 1, h := S1.headN x } from if_neg e] at hsw2
    have HSW := Lib.hid hsw2; have HE := Lib.hid e
    clear hsw hsw2 hx e
    have HU := Lib.hid (show (K.says x).l = S1.bitB x 0 ∧ (K.says x).h = S1.headN x from ⟨rfl, rfl⟩)
    have hsb : ∀ e w', SeekF w0 base WB M1 (r ++ [blockP Q (.cells #[.bool K.l, .bool K.q, .int .i64 K.h] 73)]) j B (K.says x) x e w' → Behind w0 base WB M r j B K e w' := fun e w' h => by
      obtain ⟨rfl, X', h⟩ := h
      unfold Behind
      rw [show fstepM M K = _ from by simp only [fstepM, HL.out]; rfl, show fstepK M K = _ from by simp only [fstepK, HL.out]; rfl, ← HX.out, if_neg HE.out, if_neg HE.out, ← HM1.out]
      rw [HLK.out] at h ⊢
      exact ⟨rfl, X', h.dropB HJ.out⟩
    have HSB := Lib.hid hsb
    clear hsb
    go_wp2_with (go_at_call 138; refine HSW.out.mono ?_; rintro e w5 ⟨rfl, X5, h5⟩; have H5 := Lib.hid h5; clear h5)
    have H6' := Lib.hid (H5.out.recast (K.says x) rfl)
    clear H5
    go_step3
    refine Or.inr ⟨rfl, ?_⟩
    show Code.wp _ _ _ _ _
    obtain ⟨lv, hlv⟩ : ∃ b, b = S1.bitB x 0 := ⟨_, rfl⟩
    obtain ⟨hv, hhv⟩ : ∃ b, b = S1.headN x := ⟨_, rfl⟩
    obtain ⟨n2, hn2⟩ : ∃ n, n = (S5.seekO (M1).lk (hdO x)).2 := ⟨_, rfl⟩
    obtain ⟨S2, hS2⟩ : ∃ S, S = (S5.seekO (M1).lk (hdO x)).1 := ⟨_, rfl⟩
    have hle := seekO_le (S := (M1).lk) (fun i => pg_le H6'.out.pg i) x
    rw [← hn2, ← hS2] at hle
    have hsk : Calls Tryz.prog 140 #[Pw X5.lB, .int .i64 hv] w5.drew fun e w' => e = .returned (.int .i64 ((n2 : Int) - 1)) ∧ ∃ X', Pg w0 w' base WB ((M1).link S2) ((r ++ [blockP Q (.cells #[.bool K.l, .bool K.q, .int .i64 K.h] 73)]).set j (freeP B (K.says x))) X' ∧ X'.lB = X5.lB := by
      rw [hn2, hS2, hhv]
      exact pg_seek (H6'.out.new (Below.refl _ _).drew).pg (num_head x)
    have HSK := Lib.hid hsk
    have HLV := Lib.hid hlv; have HHV := Lib.hid hhv; have HN2 := Lib.hid hn2; have HS2 := Lib.hid hS2; have HLE := Lib.hid hle
    have e2 := H6'.out.b2; have e4 := H6'.out.b4; have e3 := H6'.out.pg.c.2.2.1; have e5 := H6'.out.b5
    rw [HU.out.1, ← hlv] at e2
    rw [HU.out.2, ← hhv] at e4
    clear hlv hhv hn2 hS2 hle hsk
    have HX9 := Lib.hid (And.intro e3 e4)
    go_upto_region 29 with (fail)
    refine wp_region_held_drew (S := fun w' => w'.cell? ⟨WB, 3, none⟩ = some (Pw X5.lB) ∧ w'.cell? ⟨B, 4, none⟩ = some (.int .i64 hv)) (by kernel_rfl) ?_ (fun hHeld => ?_)
    · exact HX9.out
    refine tA 0 ⟨some 96, .move (.tmp 5), 269, "wordfrees.go:106", #[], none⟩ ?vsm1 ?rsm1
    (try simp only [Act.put, tC, tD, tE])
    refine tA 1 ⟨some 97, .move (.tmp 1), 33, "wordfrees.go:106", #[], none⟩ ?vsm2 ?rsm2
    (try simp only [Act.put, tC, tD, tE])
    refine tA 2 ⟨some 98, .nilCheck (.tmp 97), 0, "wordfrees.go:106", #[⟨1, .data⟩], none⟩ ?vsm3 ?rsm3
    (try simp only [Act.put, tC, tD, tE])
    refine tA 3 ⟨some 99, .fieldAddr 89 (.tmp 98) 3, 0, "wordfrees.go:106", #[⟨2, .data⟩], none⟩ ?vsm4 ?rsm4
    (try simp only [Act.put, tC, tD, tE])
    refine tA 4 ⟨some 100, .load 84 (.tmp 99), 84, "wordfrees.go:106", #[⟨3, .data⟩], none⟩ ?vsm5 ?rsm5
    (try simp only [Act.put, tC, tD, tE])
    refine tA 5 ⟨some 101, .move (.tmp 5), 269, "wordfrees.go:106", #[], none⟩ ?vsm6 ?rsm6
    (try simp only [Act.put, tC, tD, tE])
    refine tA 6 ⟨some 102, .nilCheck (.tmp 101), 0, "wordfrees.go:106", #[⟨5, .data⟩], none⟩ ?vsm7 ?rsm7
    (try simp only [Act.put, tC, tD, tE])
    refine tA 7 ⟨some 103, .fieldAddr 75 (.tmp 102) 0, 0, "wordfrees.go:106", #[⟨6, .data⟩], none⟩ ?vsm8 ?rsm8
    (try simp only [Act.put, tC, tD, tE])
    refine tA 8 ⟨some 104, .fieldAddr 73 (.tmp 103) 2, 0, "wordfrees.go:106", #[⟨7, .data⟩], none⟩ ?vsm9 ?rsm9
    (try simp only [Act.put, tC, tD, tE])
    refine tA 9 ⟨some 105, .load 3 (.tmp 104), 3, "wordfrees.go:106", #[⟨8, .data⟩], none⟩ ?vsm10 ?rsm10
    (try simp only [Act.put, tC, tD, tE])
    refine wpAnyH_ready (rs := [10]) (by kernel_rfl) (by simp) ?_
    refine AllReadyH.cons (o := ⟨some 106, .call ⟨.value (.func 140), #[.tmp 100, .tmp 105], #[84, 3]⟩, 3, "wordfrees.go:106", #[⟨4, .data⟩, ⟨9, .data⟩], none⟩) rfl (fun Kq hKq => ?_) AllReadyH.nil
    go_simp
    (refine HSK.out.mono ?_; rintro e w6 ⟨rfl, X6, h6g, hlb6⟩; have H6 := Lib.hid (show Wf w0 w6 base WB ((M1).link S2) (r ++ [blockP Q (.cells #[.bool K.l, .bool K.q, .int .i64 K.h] 73)]) j B (K.says x) X6 from ⟨h6g, H6'.out.hj⟩); have HLB := Lib.hid hlb6; clear h6g hlb6)
    refine hKq.out _ _ ?_ (fun hHeld => ?_)
    · (have q3 := H6.out.pg.c.2.2.1; have q4 := H6.out.b4; rw [HLB.out] at q3; refine ⟨q3, ?_⟩; rw [HHV.out, ← HU.out.2]; exact q4)
    clear hKq Kq
    (try simp only [Act.put, tC, tD, tE])
    refine tA 11 ⟨some 107, .nilCheck (.tmp 96), 0, "wordfrees.go:106", #[⟨0, .data⟩, ⟨0, .phase⟩, ⟨1, .phase⟩, ⟨2, .phase⟩, ⟨3, .phase⟩, ⟨4, .phase⟩, ⟨5, .phase⟩, ⟨6, .phase⟩, ⟨7, .phase⟩, ⟨8, .phase⟩, ⟨9, .phase⟩, ⟨10, .phase⟩], none⟩ ?vsm11 ?rsm11
    (try simp only [Act.put, tC, tD, tE])
    refine tA 12 ⟨some 108, .fieldAddr 75 (.tmp 107) 1, 0, "wordfrees.go:106", #[⟨11, .data⟩, ⟨0, .phase⟩, ⟨1, .phase⟩, ⟨2, .phase⟩, ⟨3, .phase⟩, ⟨4, .phase⟩, ⟨5, .phase⟩, ⟨6, .phase⟩, ⟨7, .phase⟩, ⟨8, .phase⟩, ⟨9, .phase⟩, ⟨10, .phase⟩], none⟩ ?vsm12 ?rsm12
    (try simp only [Act.put, tC, tD, tE])
    refine wpAnyH_ready (rs := [13]) (by kernel_rfl) (by simp) ?_
    refine AllReadyH.cons (o := ⟨none, .store 3 (.tmp 108) (.tmp 106), 0, "wordfrees.go:106", #[⟨12, .data⟩, ⟨10, .data⟩, ⟨10, .chain⟩, ⟨0, .phase⟩, ⟨1, .phase⟩, ⟨2, .phase⟩, ⟨3, .phase⟩, ⟨4, .phase⟩, ⟨5, .phase⟩, ⟨6, .phase⟩, ⟨7, .phase⟩, ⟨8, .phase⟩, ⟨9, .phase⟩, ⟨10, .phase⟩], none⟩) rfl (fun Kq hKq => ?_) AllReadyH.nil
    (have y5 := H6.out.b5; have f5 := H6.out.fz 5; go_simp; have h7 := H6.out.tail ((n2 : Int) - 1); have H7 := Lib.hid h7; clear y5 f5 h7; generalize w6.setCell ⟨B, 5, none⟩ (.int .i64 ((n2 : Int) - 1)) = w7 at *)
    refine hKq.out _ _ ?_ (fun hHeld => ?_)
    · (have q3 := H7.out.pg.c.2.2.1; have q4 := H7.out.b4; rw [HLB.out] at q3; refine ⟨q3, ?_⟩; rw [HHV.out, ← HU.out.2]; exact q4)
    clear hKq Kq
    (try simp only [Act.put, tC, tD, tE])
    refine wpAnyH_done (by kernel_rfl) ?_ _
    clear hHeld e2 e3 e4 e5 HSK
    have e5 := H7.out.b5; have e2 := H7.out.b2; have e4 := H7.out.b4; have e3 := H7.out.pg.c.2.2.1
    replace e2 : w7.cell? ⟨B, 2, none⟩ = some (.bool lv) := by rw [HLV.out, ← HU.out.1]; exact e2
    replace e4 : w7.cell? ⟨B, 4, none⟩ = some (.int .i64 hv) := by rw [HHV.out, ← HU.out.2]; exact e4
    have hleaf : ∀ (W : World) (S : S5.Lk) (t : Int) (n : Nat), (S, t, n) = seekL (M1).lk x → (∃ X', Wf w0 W base WB ((M1).link S) (r ++ [blockP Q (.cells #[.bool K.l, .bool K.q, .int .i64 K.h] 73)]) j B { (K.says x : Fr) with t := t } X') → Behind w0 base WB M r j B K (.returned (.int .u8 (n : Int))) W := fun W S t n hs ⟨X', hx⟩ => by
      refine HSB.out _ _ ⟨?_, X', ?_⟩
      · rw [← hs]
      · rw [← hs]; exact hx
    have HLF := Lib.hid hleaf
    clear hleaf
    cases n2 with
    | zero =>
      have e6 : w7.cell? ⟨B, 5, none⟩ = some (.int .i64 (-1)) := e5
      have hq : (S2, (-1 : Int), 0) = seekL (M1).lk x := by unfold seekL; rw [if_pos HN2.out.symm, ← HS2.out]
      have HFIN := Lib.hid (HLF.out w7 _ _ _ hq ⟨X6, H7.out⟩)
      clear e5 hq HLF
      go_wp2_with fail
      (try simp only [Exit.noGoto])
      go_ret
      exact HFIN.out
    | succ m =>
      have em : ((m + 1 : Nat) : Int) - 1 = (m : Int) := by omega
      have hm := HLE.out.1
      rw [em] at e5
      have hne : ((m : Int) == -1) = false := by rw [beq_eq_false_iff_ne]; omega
      have hn0 : ¬ (S5.seekO (M1).lk (hdO x)).2 = 0 := by rw [← HN2.out]; omega
      have htl : (((S5.seekO (M1).lk (hdO x)).2 : Int) - 1) = (m : Int) := by rw [← HN2.out]; omega
      have hpr : (S5.seekO (M1).lk (hdO x)).2 - 1 = m := by rw [← HN2.out]; omega
      have h8 := H7.out
      rw [em] at h8
      have H8 := Lib.hid h8; have HM := Lib.hid (show m < 64 by omega); have HEQ := Lib.hid (And.intro hn0 (And.intro htl hpr))
      clear em hm hn0 htl hpr h8 H7
      cases lv with
      | true =>
        have hq : (S2, (m : Int), 4) = seekL (M1).lk x := by unfold seekL; rw [if_neg HEQ.out.1, if_pos HLV.out.symm, HEQ.out.2.1, ← HS2.out]
        have HFIN := Lib.hid (HLF.out w7 _ _ _ hq ⟨X6, H8.out⟩)
        clear hq HLF
        go_wp2_with fail
        (try simp only [Exit.noGoto])
        go_ret
        exact HFIN.out
      | false =>
        obtain ⟨y0, y1, y2, hat0⟩ : ∃ y0 y1 y2 : Int, (Calls Tryz.prog 70 #[Pw X6.lB, .int .i64 (m : Int)] w7.drew fun e w' => e = .returned (.agg #[.int .i64 y0, .int .i64 y1, .int .i64 y2]) ∧ Below w7.drew.heap.size w7.drew w') ∧ y1 = (S2 (m * 3 + 1) : Int) - 1 := ⟨_, _, _, pg_at (H8.out.new (Below.refl _ _).drew).pg HM.out, rfl⟩
        have HAT := Lib.hid hat0.1; have HY1 := Lib.hid hat0.2
        have hfd : ∀ w : World, (Instr.field 172 (.agg #[.int .i64 y0, .int .i64 y1, .int .i64 y2]) 1).run Tryz.prog w = .ok (.int .i64 y1) w := fun w => field_prev _ _ _ w
        clear hat0
        by_cases hp : S2 (m * 3 + 1) = 0
        · have hy : y1 = -1 := by rw [HY1.out, hp]; rfl
          subst hy
          have hq : (S2, (m : Int), 5) = seekL (M1).lk x := by unfold seekL; rw [if_neg HEQ.out.1, if_neg (by rw [← HLV.out]; decide), HEQ.out.2.2, HEQ.out.2.1, ← HS2.out, if_pos hp]
          have HFIN := Lib.hid (fun W (b : Below w7.heap.size w7 W) => HLF.out W _ _ _ hq ⟨X6, H8.out.new b⟩)
          clear hq HLF hp
          go_upto_region 34 with (fail)
          go_still_tail 8, (by kernel_rfl)
          change wpList _ _ _ _ _ w7.drew
          go_wp2_with (go_at_call 70; refine HAT.out.mono ?_; rintro e w8 ⟨rfl, hb8⟩; have HB8 := Lib.hid hb8; clear hb8)
          (try simp only [Exit.noGoto])
          go_ret
          exact HFIN.out _ (Below.trans (Below.refl _ _).drew HB8.out)
        · have hy : (y1 == -1) = false := by rw [HY1.out, beq_eq_false_iff_ne]; omega
          have hq : ((S5.cutO S2 (hdO x) (some m)).1, (m : Int), 6) = seekL (M1).lk x := by unfold seekL; rw [if_neg HEQ.out.1, if_neg (by rw [← HLV.out]; decide), HEQ.out.2.2, HEQ.out.2.1, ← HS2.out, if_neg hp]
          have HFIN := Lib.hid (fun W => HLF.out W _ _ _ hq)
          clear hq HLF hp
          go_upto_region 34 with (fail)
          go_still_tail 8, (by kernel_rfl)
          change wpList _ _ _ _ _ w7.drew
          go_upto_region 36 with (go_at_call 70; refine HAT.out.mono ?_; rintro e w8 ⟨rfl, hb8⟩; have H9 := Lib.hid (H8.out.new ((Below.refl _ _).drew.trans hb8)); clear hb8)
          clear e2 e3 e4 e5
          have e5 := H9.out.b5; have e4 := H9.out.b4; have e3 := H9.out.pg.c.2.2.1
          replace e4 : w8.cell? ⟨B, 4, none⟩ = some (.int .i64 hv) := by rw [HHV.out, ← HU.out.2]; exact e4
          have hct : Calls Tryz.prog 141 #[Pw X6.lB, .int .i64 hv, .int .i64 (m : Int)] w8.drew fun e w' => (∃ v, e = .returned (.int .i64 v)) ∧ ∃ X', Pg w0 w' base WB (((M1).link S2).link (S5.cutO S2 (hdO x) (some m)).1) ((r ++ [blockP Q (.cells #[.bool K.l, .bool K.q, .int .i64 K.h] 73)]).set j (freeP B { (K.says x : Fr) with t := (m : Int) })) X' ∧ X'.lB = X6.lB := by
            rw [HHV.out]
            exact (pg_cut (H9.out.new (Below.refl _ _).drew).pg (num_head x) (show S5.Num (m : Int) (some m) from ⟨rfl, HM.out⟩)).mono (fun e w' h => ⟨⟨_, h.1⟩, h.2⟩)
          have HCT := Lib.hid hct
          clear hct
          go_still_tail 13, (by kernel_rfl)
          change wpList _ _ _ _ _ w8.drew
          go_wp2_with (go_at_call 141; refine HCT.out.mono ?_; rintro e w9 ⟨⟨cv, rfl⟩, X9, h9, hlb9⟩; have H10 := Lib.hid h9; clear h9 hlb9)
          (try simp only [Exit.noGoto])
          go_ret
          exact HFIN.out _ ⟨X9, H10.out, H9.out.hj⟩
end
end Go.Proofs.YtlflagjnlclffaaGreat.S14
namespace Go.Proofs.YtlflagjnlclffaaGreat.S14
set_option maxRecDepth 100000
set_option maxHeartbeats 16000000
open Go.Proofs.YtlflagjnlclffaaGreat Go.Proofs.YtlflagjnlclffaaGreat.S11 Go.Proofs.YtlflagjnlclffaaGreat.S12 Go.Proofs.YtlflagjnlclffaaGreat.S13
open Go.RowKit
section
variable {w0 w w' : World} {base WB : Nat} {M : Sd} {r : List Part} {j B : Nat} {K : Fr} {X : Wm}
theorem beh6 (h : Wf w0 w base WB M r j B K X) (ok : FrOk M K) (hl : K.ln = 6) : Calls Tryz.prog 73 #[Pw B, Pw WB] w (Behind w0 base WB M r j B K) := by
  have hj := h.hj
  have c0 := h.b0
  rw [hl] at c0
  have c2 := h.b2; have c3 := h.b3; have c4 := h.b4
  have hA := h.pushB (.cells #[.bool K.l, .bool K.q, .int .i64 K.h] 73)
  obtain ⟨Q, hQ⟩ : ∃ Q, Q = w.heap.size := ⟨_, rfl⟩
  rw [← hQ] at hA
  have HA := Lib.hid hA; have HJ := Lib.hid hj; have HQ := Lib.hid hQ; have HOK := Lib.hid ok; have HL := Lib.hid hl
  clear h hj hA hQ ok hl
  go_enter Tryz.func73, Tryz.ntmps73
  go_wp2_with fail
  refine wp_scope_two rfl rfl ?_
  go_upto_region 3 with (fail)
  rw [← HQ.out]
  generalize w.alloc (.cells #[.bool K.l, .bool K.q, .int .i64 K.h] 73) = w1 at *
  clear c0 c2 c3 c4
  have c0 := HA.out.b0
  rw [HL.out] at c0
  have hput : ∀ W, Calls Tryz.prog 101 #[.agg #[.bool false, .bool true, .int .i64 (-1)]] W fun e w' => e = .returned (.int .u64 2) ∧ Below W.heap.size W w' := fun W => by
    have := S1.putU_any false true (-1) (by unfold S1.isHead; omega) W
    rwa [show S1.putU false true (-1) = 2 by decide] at this
  have HPT := Lib.hid hput
  have hnd : ∀ W, Wf w0 W base WB M (r ++ [blockP Q (.cells #[.bool K.l, .bool K.q, .int .i64 K.h] 73)]) j B K X → Calls Tryz.prog 139 #[Pw X.cB, .int .u32 (K.a : Int), .int .u64 18446744073709551613] W fun e w' => (∃ v, e = .returned v) ∧ ∃ X', Wf w0 w' base WB (M.acc 6 K.a (S2.look M.L K.a &&& 18446744073709551613)) (r ++ [blockP Q (.cells #[.bool K.l, .bool K.q, .int .i64 K.h] 73)]) j B K X' ∧ X'.cB = X.cB := fun W hW => by
    have h1 := pg_and hW.pg HOK.out.a (v := 18446744073709551613) (by omega) HOK.out.n
    rw [show ((18446744073709551613 : Nat) : Int) = 18446744073709551613 from rfl] at h1
    exact h1.mono (fun e w' h => ⟨⟨_, h.1⟩, by obtain ⟨_, X', h2, h3⟩ := h; exact ⟨X', ⟨h2, hW.hj⟩, h3⟩⟩)
  have HND := Lib.hid hnd
  have hx0 := HA.out.cells
  have HX0 := Lib.hid hx0
  clear hput hnd
  go_upto_region 24 with (fail)
  clear c0
  refine wp_region_held_drew (S := fun w' => w'.cell? ⟨WB, 0, none⟩ = some (Pw X.cB) ∧ w'.cell? ⟨B, 1, none⟩ = some (.int .u32 (K.a : Int))) (by kernel_rfl) ?_ (fun hHeld => ?_)
  · exact HX0.out
  refine tA 0 ⟨some 82, .move (.tmp 1), 33, "wordfrees.go:94", #[], none⟩ ?vnm1 ?rnm1
  (try simp only [Act.put, tC, tD, tE])
  refine tA 1 ⟨some 83, .nilCheck (.tmp 82), 0, "wordfrees.go:94", #[⟨0, .data⟩], none⟩ ?vnm2 ?rnm2
  (try simp only [Act.put, tC, tD, tE])
  refine tA 2 ⟨some 84, .fieldAddr 89 (.tmp 83) 0, 0, "wordfrees.go:94", #[⟨1, .data⟩], none⟩ ?vnm3 ?rnm3
  (try simp only [Act.put, tC, tD, tE])
  refine tA 3 ⟨some 85, .load 81 (.tmp 84), 81, "wordfrees.go:94", #[⟨2, .data⟩], none⟩ ?vnm4 ?rnm4
  (try simp only [Act.put, tC, tD, tE])
  refine tA 4 ⟨some 86, .move (.tmp 0), 63, "wordfrees.go:94", #[], none⟩ ?vnm5 ?rnm5
  (try simp only [Act.put, tC, tD, tE])
  refine tA 5 ⟨some 87, .nilCheck (.tmp 86), 0, "wordfrees.go:94", #[⟨4, .data⟩], none⟩ ?vnm6 ?rnm6
  (try simp only [Act.put, tC, tD, tE])
  refine tA 6 ⟨some 88, .fieldAddr 77 (.tmp 87) 1, 0, "wordfrees.go:94", #[⟨5, .data⟩], none⟩ ?vnm7 ?rnm7
  (try simp only [Act.put, tC, tD, tE])
  refine tA 7 ⟨some 89, .load 40 (.tmp 88), 40, "wordfrees.go:94", #[⟨6, .data⟩], none⟩ ?vnm8 ?rnm8
  (try simp only [Act.put, tC, tD, tE])
  refine tA 8 ⟨some 90, .build 73 #[(1, .const (.bool true)), (2, .const (.int .i64 (-1)))], 73, "wordfrees.go:94", #[], none⟩ ?vnm9 ?rnm9
  (try simp only [Act.put, tC, tD, tE])
  refine wpAnyH_ready (rs := [9]) (by kernel_rfl) (by simp) ?_
  refine AllReadyH.cons (o := ⟨some 91, .call ⟨.value (.func 101), #[.tmp 90], #[73]⟩, 22, "wordfrees.go:94", #[⟨8, .data⟩], none⟩) rfl (fun Kq hKq => ?_) AllReadyH.nil
  go_simp
  (refine (HPT.out _).mono ?_; rintro e w4 ⟨rfl, hb4⟩; have H4 := Lib.hid ((HA.out.new (Below.refl _ _).drew).new hb4); clear hb4)
  refine hKq.out _ _ ?_ (fun hHeld => ?_)
  · exact H4.out.cells
  clear hKq Kq
  (try simp only [Act.put, tC, tD, tE])
  refine tA 10 ⟨some 92, .unOp .xor 22 (.tmp 91), 22, "wordfrees.go:94", #[⟨9, .data⟩], none⟩ ?vnm10 ?rnm10
  (try simp only [Act.put, tC, tD, tE])
  refine wpAnyH_ready (rs := [11]) (by kernel_rfl) (by simp) ?_
  refine AllReadyH.cons (o := ⟨some 93, .call ⟨.value (.func 139), #[.tmp 85, .tmp 89, .tmp 92], #[81, 40, 22]⟩, 22, "wordfrees.go:94", #[⟨3, .data⟩, ⟨7, .data⟩, ⟨10, .data⟩, ⟨9, .chain⟩], none⟩) rfl (fun Kq hKq => ?_) AllReadyH.nil
  go_simp
  (refine (HND.out w4 H4.out).mono ?_; rintro e w5 ⟨⟨av, rfl⟩, X5, h5, hcb5⟩; have H5 := Lib.hid h5; have HCB5 := Lib.hid hcb5; clear h5 hcb5)
  refine hKq.out _ _ ?_ (fun hHeld => ?_)
  · (have q := H5.out.cells; rw [HCB5.out] at q; exact q)
  clear hKq Kq
  (try simp only [Act.put, tC, tD, tE])
  refine wpAnyH_done (by kernel_rfl) ?_ _
  have hfin : Behind w0 base WB M r j B K (.returned (.int .u8 (7 : Int))) w5 := by
    unfold Behind
    rw [show fstepM M K = _ from by simp only [fstepM, HL.out]; rfl, show fstepK M K = _ from by simp only [fstepK, HL.out]; rfl]
    exact ⟨rfl, X5, H5.out.dropB HJ.out⟩
  have HF := Lib.hid hfin
  clear hfin hHeld hx0
  go_wp2_with fail
  (try simp only [to2])
  go_ret
  exact HF.out
end
end Go.Proofs.YtlflagjnlclffaaGreat.S14
namespace Go.Proofs.YtlflagjnlclffaaGreat.S14
set_option maxRecDepth 100000
set_option maxHeartbeats 16000000
open Go.Proofs.YtlflagjnlclffaaGreat Go.Proofs.YtlflagjnlclffaaGreat.S11 Go.Proofs.YtlflagjnlclffaaGreat.S12 Go.Proofs.YtlflagjnlclffaaGreat.S13
open Go.RowKit
section
variable {w0 w w' : World} {base WB : Nat} {M : Sd} {r : List Part} {j B : Nat} {K : Fr} {X : Wm}
theorem beh7 (h : Wf w0 w base WB M r j B K X) (ok : FrOk M K) (hl : K.ln = 7) : Calls Tryz.prog 73 #[Pw B, Pw WB] w (Behind w0 base WB M r j B K) := by
  have hj := h.hj
  have c0 := h.b0
  rw [hl] at c0
  have c2 := h.b2; have c3 := h.b3; have c4 := h.b4
  have hA := h.pushB (.cells #[.bool K.l, .bool K.q, .int .i64 K.h] 73)
  obtain ⟨Q, hQ⟩ : ∃ Q, Q = w.heap.size := ⟨_, rfl⟩
  rw [← hQ] at hA
  have HA := Lib.hid hA; have HJ := Lib.hid hj; have HQ := Lib.hid hQ; have HOK := Lib.hid ok; have HL := Lib.hid hl
  clear h hj hA hQ ok hl
  go_enter Tryz.func73, Tryz.ntmps73
  go_wp2_with fail
  refine wp_scope_two rfl rfl ?_
  go_upto_region 3 with (fail)
  rw [← HQ.out]
  generalize w.alloc (.cells #[.bool K.l, .bool K.q, .int .i64 K.h] 73) = w1 at *
  clear c0 c2 c3 c4
  have c0 := HA.out.b0
  rw [HL.out] at c0
  obtain ⟨t0, t1⟩ := HOK.out.t (by rw [HL.out]; omega)
  obtain ⟨tn, htn⟩ := Int.eq_ofNat_of_zero_le t0
  have htl : tn < 64 := by omega
  have HWD := Lib.hid (fun W => word_any tn htl W)
  have hun : ∀ W, Wf w0 W base WB M (r ++ [blockP Q (.cells #[.bool K.l, .bool K.q, .int .i64 K.h] 73)]) j B K X → Calls Tryz.prog 45 #[Pw X.pB, .int .i64 ((2 * tn + 1 : Nat) : Int)] W fun e w' => e = .returned (.tuple #[]) ∧ ∃ X', Wf w0 w' base WB (M.unpark (2 * tn + 1)) (r ++ [blockP Q (.cells #[.bool K.l, .bool K.q, .int .i64 K.h] 73)]) j B K X' ∧ X'.pB = X.pB := fun W hW =>
    (hW.pg.unpark HOK.out.pn (by omega)).mono (fun e w' h => ⟨h.1, by obtain ⟨_, X', h2, h3⟩ := h; exact ⟨X', ⟨h2, hW.hj⟩, h3⟩⟩)
  have HUN := Lib.hid hun
  have hx2 := HA.out.pg.c.2.1; have hx5 := HA.out.b5
  rw [htn] at hx5
  have HX0 := Lib.hid (And.intro hx2 hx5)
  have HTN := Lib.hid htn
  clear hun t0 t1 htn htl hx2 hx5
  go_upto_region 4 with (fail)
  clear c0
  refine wp_region_held_drew (S := fun w' => w'.cell? ⟨WB, 2, none⟩ = some (Pw X.pB) ∧ w'.cell? ⟨B, 5, none⟩ = some (.int .i64 (tn : Int))) (by kernel_rfl) ?_ (fun hHeld => ?_)
  · exact HX0.out
  refine tA 0 ⟨some 18, .move (.tmp 1), 33, "wordfrees.go:97", #[], none⟩ ?vum1 ?rum1
  (try simp only [Act.put, tC, tD, tE])
  refine tA 1 ⟨some 19, .nilCheck (.tmp 18), 0, "wordfrees.go:97", #[⟨0, .data⟩], none⟩ ?vum2 ?rum2
  (try simp only [Act.put, tC, tD, tE])
  refine tA 2 ⟨some 20, .fieldAddr 89 (.tmp 19) 2, 0, "wordfrees.go:97", #[⟨1, .data⟩], none⟩ ?vum3 ?rum3
  (try simp only [Act.put, tC, tD, tE])
  refine tA 3 ⟨some 21, .load 83 (.tmp 20), 83, "wordfrees.go:97", #[⟨2, .data⟩], none⟩ ?vum4 ?rum4
  (try simp only [Act.put, tC, tD, tE])
  refine tA 4 ⟨some 22, .move (.tmp 5), 269, "wordfrees.go:97", #[], none⟩ ?vum5 ?rum5
  (try simp only [Act.put, tC, tD, tE])
  refine tA 5 ⟨some 23, .nilCheck (.tmp 22), 0, "wordfrees.go:97", #[⟨4, .data⟩], none⟩ ?vum6 ?rum6
  (try simp only [Act.put, tC, tD, tE])
  refine tA 6 ⟨some 24, .fieldAddr 75 (.tmp 23) 1, 0, "wordfrees.go:97", #[⟨5, .data⟩], none⟩ ?vum7 ?rum7
  (try simp only [Act.put, tC, tD, tE])
  refine tA 7 ⟨some 25, .load 3 (.tmp 24), 3, "wordfrees.go:97", #[⟨6, .data⟩], none⟩ ?vum8 ?rum8
  (try simp only [Act.put, tC, tD, tE])
  refine wpAnyH_ready (rs := [8]) (by kernel_rfl) (by simp) ?_
  refine AllReadyH.cons (o := ⟨some 26, .call ⟨.value (.func 28), #[.tmp 25], #[3]⟩, 3, "wordfrees.go:97", #[⟨7, .data⟩], none⟩) rfl (fun Kq hKq => ?_) AllReadyH.nil
  go_simp
  (refine (HWD.out _).mono ?_; rintro e w4 ⟨rfl, rfl⟩)
  refine hKq.out _ _ ?_ (fun hHeld => ?_)
  · exact HX0.out
  clear hKq Kq
  (try simp only [Act.put, tC, tD, tE])
  refine wpAnyH_ready (rs := [9]) (by kernel_rfl) (by simp) ?_
  refine AllReadyH.cons (o := ⟨some 27, .call ⟨.value (.func 45), #[.tmp 21, .tmp 26], #[83, 3]⟩, 0, "wordfrees.go:97", #[⟨3, .data⟩, ⟨8, .data⟩, ⟨8, .chain⟩], none⟩) rfl (fun Kq hKq => ?_) AllReadyH.nil
  go_simp
  (refine (HUN.out _ (HA.out.new (Below.refl _ _).drew)).mono ?_; rintro e w5 ⟨rfl, X5, h5, hpb5⟩; have H5 := Lib.hid h5; have HPB5 := Lib.hid hpb5; clear h5 hpb5)
  refine hKq.out _ _ ?_ (fun hHeld => ?_)
  · (have q2 := H5.out.pg.c.2.1; have q5 := H5.out.b5; rw [HPB5.out] at q2; rw [HTN.out] at q5; exact ⟨q2, q5⟩)
  clear hKq Kq
  (try simp only [Act.put, tC, tD, tE])
  refine wpAnyH_done (by kernel_rfl) ?_ _
  have hfin : Behind w0 base WB M r j B K (.returned (.int .u8 (0 : Int))) w5 := by
    unfold Behind
    rw [show fstepM M K = _ from by simp only [fstepM, HL.out]; rfl, show fstepK M K = _ from by simp only [fstepK, HL.out]; rfl, show K.t.toNat = tn by rw [HTN.out]; rfl]
    exact ⟨rfl, X5, H5.out.dropB HJ.out⟩
  have HF := Lib.hid hfin
  clear hfin hHeld
  go_wp2_with fail
  (try simp only [to2])
  go_ret
  exact HF.out
end
end Go.Proofs.YtlflagjnlclffaaGreat.S14
namespace Go.Proofs.YtlflagjnlclffaaGreat.S14
open Go.Proofs.YtlflagjnlclffaaGreat Go.Proofs.YtlflagjnlclffaaGreat.S11 Go.Proofs.YtlflagjnlclffaaGreat.S12 Go.Proofs.YtlflagjnlclffaaGreat.S13
open Go.RowKit
structure FOk (K : Fr) : Prop where
  a : K.a < 4294967296
  w : K.w < 18446744073709551616
  con : 3 ≤ K.ln → K.ln ≤ 5 → K.l = S1.bitB K.w 0 ∧ K.q = S1.bitB K.w 1 ∧ K.h = S1.headN K.w ∧ S1.headN K.w ≠ -1
  t : 4 ≤ K.ln → 0 ≤ K.t ∧ K.t ≤ 63
  ln : K.ln ≤ 7
theorem FOk.ok {M : Sd} {K : Fr} (h : FOk K) (hn : M.n ≤ 1000000000) (hp : M.pn ≤ 1000000000) : FrOk M K := ⟨h.a, h.w, h.con, h.t, hn, hp⟩
theorem fok_new {a : Nat} (ha : a < 4294967296) : FOk (fr0 a) := ⟨ha, by show 0 < _; omega, fun h => absurd h (by show ¬ 3 ≤ 1; omega), fun h => absurd h (by show ¬ 4 ≤ 1; omega), by show 1 ≤ 7; omega⟩
theorem seekL_facts {S : S5.Lk} (h : ∀ i, S i ≤ 64) (u : Nat) : (seekL S u).2.2 = 0 ∨ ((4 ≤ (seekL S u).2.2 ∧ (seekL S u).2.2 ≤ 6) ∧ (0 ≤ (seekL S u).2.1 ∧ (seekL S u).2.1 ≤ 63) ∧ S1.headN u ≠ -1) := by
  have hle := (seekO_le h u).1
  by_cases h0 : (S5.seekO S (hdO u)).2 = 0
  · left; unfold seekL; rw [if_pos h0]
  · right
    have hh : S1.headN u ≠ -1 := by
      intro e
      apply h0
      have hn : hdO u = none := by
        unfold hdO
        unfold S1.headN at e
        split at e
        · omega
        · rename_i hu; rw [if_neg hu]
      rw [hn]; rfl
    refine ⟨?_, ?_, hh⟩
    · unfold seekL
      rw [if_neg h0]
      split
      · exact ⟨Nat.le_refl 4, by show 4 ≤ 6; omega⟩
      · split
        · exact ⟨by show 4 ≤ 5; omega, by show 5 ≤ 6; omega⟩
        · exact ⟨by show 4 ≤ 6; omega, Nat.le_refl 6⟩
    · have ht : (seekL S u).2.1 = ((S5.seekO S (hdO u)).2 : Int) - 1 := by
        unfold seekL
        rw [if_neg h0]
        split
        · rfl
        · split <;> rfl
      rw [ht]
      omega
theorem fok_look {K : Fr} (h : FOk K) {x : Nat} (hx : x < 18446744073709551616) : FOk ((K.says x).look) := by
  refine ⟨h.a, hx, fun h3 _ => ?_, fun h4 => ?_, ?_⟩
  · refine ⟨rfl, rfl, rfl, fun e => ?_⟩
    have e' : S1.headN x = -1 := e
    have hi : idle x = true := by unfold idle; rw [decide_eq_true e', Bool.or_true]
    have : ((K.says x).look).ln = 0 := by show (if idle x = true then 0 else 3) = 0; rw [if_pos hi]
    omega
  · exfalso
    have : ((K.says x).look).ln ≤ 3 := by show (if idle x = true then 0 else 3) ≤ 3; split <;> omega
    omega
  · have : ((K.says x).look).ln ≤ 3 := by show (if idle x = true then 0 else 3) ≤ 3; split <;> omega
    omega
theorem fok_seek {K : Fr} (ha : K.a < 4294967296) (hw : K.w < 18446744073709551616) (hc : K.l = S1.bitB K.w 0 ∧ K.q = S1.bitB K.w 1 ∧ K.h = S1.headN K.w) {S : S5.Lk} (hk : ∀ i, S i ≤ 64) : FOk (K.seek S) := by
  have hf := seekL_facts hk K.w
  have e1 : (K.seek S).ln = (seekL S K.w).2.2 := rfl
  have e2 : (K.seek S).t = (seekL S K.w).2.1 := rfl
  refine ⟨ha, hw, fun h3 _ => ?_, fun h4 => ?_, ?_⟩
  · rcases hf with h | ⟨_, _, h⟩
    · omega
    · exact ⟨hc.1, hc.2.1, hc.2.2, h⟩
  · rcases hf with h | ⟨_, h, _⟩
    · omega
    · rw [e2]; exact h
  · omega
theorem FOk.step {M : Sd} {K : Fr} (h : FOk K) (hl : ∀ a, S2.look M.L a < 18446744073709551616) (hk : ∀ i, M.lk i ≤ 64) : FOk (fstepK M K) := by
  have hx := hl K.a
  rcases (show K.ln = 0 ∨ K.ln = 1 ∨ K.ln = 2 ∨ K.ln = 3 ∨ K.ln = 4 ∨ K.ln = 5 ∨ K.ln = 6 ∨ K.ln = 7 by have := h.ln; omega) with e | e | e | e | e | e | e | e
  · have : fstepK M K = K := by unfold fstepK; rw [e]; rfl
    rw [this]; exact h
  · have : fstepK M K = { K with ln := if idle (S2.look M.L K.a) = true then 0 else 2, l := S1.bitB (S2.look M.L K.a) 0, q := S1.bitB (S2.look M.L K.a) 1, h := S1.headN (S2.look M.L K.a) } := by unfold fstepK; rw [e]; rfl
    rw [this]
    have h2 : (if idle (S2.look M.L K.a) = true then 0 else 2) ≤ 2 := by split <;> omega
    exact ⟨h.a, h.w, fun h3 _ => absurd h3 (by show ¬ 3 ≤ (if idle (S2.look M.L K.a) = true then 0 else 2); omega), fun h4 => absurd h4 (by show ¬ 4 ≤ (if idle (S2.look M.L K.a) = true then 0 else 2); omega), by show (if idle (S2.look M.L K.a) = true then 0 else 2) ≤ 7; omega⟩
  · have : fstepK M K = (K.says (S2.look M.L K.a)).look := by unfold fstepK; rw [e]; rfl
    rw [this]; exact fok_look h hx
  · obtain ⟨c1, c2, c3, c4⟩ := h.con (by omega) (by omega)
    by_cases hc : S2.look M.L K.a = K.w
    · have : fstepK M K = ({ K with q := true, w := wq K.w true } : Fr).seek M.lk := by unfold fstepK; rw [e]; exact if_pos hc
      rw [this]
      exact fok_seek (K := { K with q := true, w := wq K.w true }) h.a (wq_lt _ _) ⟨by rw [(wq_says K.w true).1]; exact c1, (wq_says K.w true).2.1.symm, by rw [(wq_says K.w true).2.2]; exact c3⟩ hk
    · have : fstepK M K = (K.says (S2.look M.L K.a)).look := by unfold fstepK; rw [e]; exact if_neg hc
      rw [this]; exact fok_look h hx
  · by_cases hc : S2.look M.L K.a = K.w
    · have : fstepK M K = { K with ln := 0, q := false } := by unfold fstepK; rw [e]; exact if_pos hc
      rw [this]
      exact ⟨h.a, h.w, fun h3 _ => absurd h3 (by show ¬ 3 ≤ 0; omega), fun h4 => absurd h4 (by show ¬ 4 ≤ 0; omega), by show 0 ≤ 7; omega⟩
    · have : fstepK M K = (K.says (S2.look M.L K.a)).seek M.lk := by unfold fstepK; rw [e]; exact if_neg hc
      rw [this]; exact fok_seek (K := K.says (S2.look M.L K.a)) h.a hx ⟨rfl, rfl, rfl⟩ hk
  · by_cases hc : S2.look M.L K.a = K.w
    · have : fstepK M K = { K with ln := 7, l := false, q := false, h := -1 } := by unfold fstepK; rw [e]; exact if_pos hc
      rw [this]
      exact ⟨h.a, h.w, fun _ h5 => absurd h5 (by show ¬ 7 ≤ 5; omega), fun _ => h.t (by omega), by show 7 ≤ 7; omega⟩
    · have : fstepK M K = (K.says (S2.look M.L K.a)).seek M.lk := by unfold fstepK; rw [e]; exact if_neg hc
      rw [this]; exact fok_seek (K := K.says (S2.look M.L K.a)) h.a hx ⟨rfl, rfl, rfl⟩ hk
  · have : fstepK M K = { K with ln := 7 } := by unfold fstepK; rw [e]; rfl
    rw [this]
    exact ⟨h.a, h.w, fun _ h5 => absurd h5 (by show ¬ 7 ≤ 5; omega), fun _ => h.t (by omega), by show 7 ≤ 7; omega⟩
  · have : fstepK M K = { K with ln := 0 } := by unfold fstepK; rw [e]; rfl
    rw [this]
    exact ⟨h.a, h.w, fun h3 _ => absurd h3 (by show ¬ 3 ≤ 0; omega), fun h4 => absurd h4 (by show ¬ 4 ≤ 0; omega), by show 0 ≤ 7; omega⟩
section
variable {w0 w w' : World} {base WB : Nat} {M : Sd} {r : List Part} {j B : Nat} {K : Fr} {X : Wm}
theorem beh_any (h : Wf w0 w base WB M r j B K X) (ok : FrOk M K) (h0 : K.ln ≠ 0) (h7 : K.ln ≤ 7) : Calls Tryz.prog 73 #[Pw B, Pw WB] w (Behind w0 base WB M r j B K) := by
  rcases (show K.ln = 1 ∨ K.ln = 2 ∨ K.ln = 3 ∨ K.ln = 4 ∨ K.ln = 5 ∨ K.ln = 6 ∨ K.ln = 7 by omega) with e | e | e | e | e | e | e
  · exact beh1 h ok e
  · exact beh2 h ok e
  · exact beh3 h ok e
  · exact beh4 h ok e
  · exact beh5 h ok e
  · exact beh6 h ok e
  · exact beh7 h ok e
theorem step_f (h : Wf w0 w base WB M r j B K X) (ok : FrOk M K) (h7 : K.ln ≤ 7) : Calls Tryz.prog 22 #[Pw B, Pw WB] w fun e w' => e = .returned (.bool (decide ((fstepK M K).ln = 0))) ∧ ∃ X', Wf w0 w' base WB (fstepM M K) r j B (fstepK M K) X' := by
  by_cases h0 : K.ln = 0
  · have e1 : fstepM M K = M := by unfold fstepM; rw [h0]; rfl
    have e2 : fstepK M K = K := by unfold fstepK; rw [h0]; rfl
    rw [e1, e2]
    have hov := over_f h.b0
    rw [decide_eq_true h0] at hov
    have HOV := Lib.hid hov
    have HE := Lib.hid (And.intro (decide_eq_true h0) h)
    clear hov h ok h0 h7 e1 e2
    go_enter Tryz.func22, Tryz.ntmps22
    go_upto_region 3 with (go_at_call 21; refine HOV.out.mono ?_; rintro e w2 ⟨rfl, rfl⟩)
    go_wp2_with (go_at_call 21; refine HOV.out.mono ?_; rintro e w2 ⟨rfl, rfl⟩)
    go_ret
    exact ⟨by rw [HE.out.1]; rfl, X, HE.out.2⟩
  · have hov := over_f h.b0
    rw [decide_eq_false h0] at hov
    have HOV := Lib.hid hov
    have HBH := Lib.hid (beh_any h ok h0 h7)
    clear hov h ok h0 h7
    obtain ⟨n, hn⟩ : ∃ n, n = (fstepK M K).ln := ⟨_, rfl⟩
    rw [← hn]
    have HN := Lib.hid hn
    clear hn
    go_enter Tryz.func22, Tryz.ntmps22
    go_upto_region 2 with (go_at_call 21; refine HOV.out.mono ?_; rintro e w2 ⟨rfl, rfl⟩)
    go_upto_region 3 with (go_at_call 73; refine HBH.out.mono ?_; rintro e w3 ⟨rfl, X3, h3⟩; have H3 := Lib.hid h3; have c0 := h3.b0; have f0 := h3.fz 0; clear h3)
    rw [← HN.out]
    have h4 := H3.out.line n
    generalize w3.setCell ⟨B, 0, none⟩ (.int .u8 (n : Int)) = w4 at *
    have h5 : Wf w0 w4 base WB (fstepM M K) r j B (fstepK M K) X3 := by
      have e : ({ ({ fstepK M K with ln := K.ln } : Fr) with ln := n } : Fr) = fstepK M K := by rw [HN.out]
      rw [e] at h4; exact h4
    have hov2 := over_f h5.b0
    rw [← HN.out] at hov2
    have HOV2 := Lib.hid hov2; have H5 := Lib.hid h5
    clear hov2 h4 h5 c0 f0 H3 HOV HBH
    go_wp2_with (go_at_call 21; refine HOV2.out.mono ?_; rintro e w5 ⟨rfl, rfl⟩)
    go_ret
    exact ⟨rfl, X3, H5.out⟩
end
end Go.Proofs.YtlflagjnlclffaaGreat.S14
namespace Go.Proofs.YtlflagjnlclffaaGreat.S14
open Go.Proofs.YtlflagjnlclffaaGreat Go.Proofs.YtlflagjnlclffaaGreat.S11 Go.Proofs.YtlflagjnlclffaaGreat.S12 Go.Proofs.YtlflagjnlclffaaGreat.S13
open Go.RowKit
section
variable {w0 w w' : World} {base RB : Nat} {M : Sd} {l r : List Part} {Y : Rm}
theorem rg_add (h : Rg w0 w base RB M l r Y) {a v : Nat} (ha : a < 4294967296) (hv : v < 18446744073709551616) (hn : M.n ≤ 1000000000) :
    Calls Tryz.prog 129 #[Pw RB, .int .u32 a, .int .u64 v] w fun e w' => e = .returned (.int .u64 (S2.look M.L a : Nat)) ∧ ∃ Y', Rg w0 w' base RB (M.acc 5 a ((S2.look M.L a + v) % 18446744073709551616)) l r Y' := by
  have e : Y.L = M.L := congrArg Sd.L h.ym
  have e2 : Y.n = M.n := congrArg Sd.n h.ym
  rw [← e]
  have hc := S2.radd_any w Y.rb Y.rB Y.rs Y.L Y.n Y.k Y.a Y.was Y.is a v h.rcells h.rb ha (by omega) hv
  have HC : Hid (Calls Tryz.prog 167 #[Pw Y.rB, .int .u32 a, .int .u64 v] w fun e w' => e = .returned (.int .u64 (S2.look Y.L a : Nat)) ∧ ∃ Y', Rg w0 w' base RB (M.acc 5 a ((S2.look Y.L a + v) % 18446744073709551616)) l r Y') := Lib.hid (hc.mono (by
    rintro e w' ⟨rfl, s', c, ho, t⟩
    obtain ⟨Y', h', _⟩ := h.acc c rfl rfl rfl (fun g hg => .inr (ho g hg)) (t.mono (fun k _ e => .inl e))
    exact ⟨rfl, Y', h'⟩))
  have c0 := h.c.1
  clear hc h e e2 ha hv hn
  generalize S2.look Y.L a = x at *
  go_enter Tryz.func129, Tryz.ntmps129
  go_wp2_with (go_at_call 167; refine HC.out.mono ?_; rintro e w1 ⟨rfl, hy⟩)
  go_ret
  exact ⟨rfl, hy⟩
theorem rg_and (h : Rg w0 w base RB M l r Y) {a v : Nat} (ha : a < 4294967296) (hv : v < 18446744073709551616) (hn : M.n ≤ 1000000000) :
    Calls Tryz.prog 133 #[Pw RB, .int .u32 a, .int .u64 v] w fun e w' => e = .returned (.int .u64 (S2.look M.L a : Nat)) ∧ ∃ Y', Rg w0 w' base RB (M.acc 6 a (S2.look M.L a &&& v)) l r Y' := by
  have e : Y.L = M.L := congrArg Sd.L h.ym
  have e2 : Y.n = M.n := congrArg Sd.n h.ym
  rw [← e]
  have hc := S2.rand_any w Y.rb Y.rB Y.rs Y.L Y.n Y.k Y.a Y.was Y.is a v h.rcells h.rb ha (by omega) hv
  have HC : Hid (Calls Tryz.prog 171 #[Pw Y.rB, .int .u32 a, .int .u64 v] w fun e w' => e = .returned (.int .u64 (S2.look Y.L a : Nat)) ∧ ∃ Y', Rg w0 w' base RB (M.acc 6 a (S2.look Y.L a &&& v)) l r Y') := Lib.hid (hc.mono (by
    rintro e w' ⟨rfl, s', c, ho, t⟩
    obtain ⟨Y', h', _⟩ := h.acc c rfl rfl rfl (fun g hg => .inr (ho g hg)) (t.mono (fun k _ e => .inl e))
    exact ⟨rfl, Y', h'⟩))
  have c0 := h.c.1
  clear hc h e e2 ha hv hn
  generalize S2.look Y.L a = x at *
  go_enter Tryz.func133, Tryz.ntmps133
  go_wp2_with (go_at_call 171; refine HC.out.mono ?_; rintro e w1 ⟨rfl, hy⟩)
  go_ret
  exact ⟨rfl, hy⟩
theorem rg_lk (h : Rg w0 w base RB M l r Y) : Y.lk = M.lk := congrArg Sd.lk h.ym
theorem rg_le (h : Rg w0 w base RB M l r Y) (i : Nat) : M.lk i ≤ 64 := by
  rw [← rg_lk h]; exact h.rlinks.le i
theorem rg_look (h : Rg w0 w base RB M l r Y) (a : Nat) : S2.look M.L a < 18446744073709551616 := by
  have := S2.look_lt h.rcells.good a
  rwa [show Y.L = M.L from congrArg Sd.L h.ym] at this
theorem rg_seek (h : Rg w0 w base RB M l r Y) {x : Int} {o : Option Nat} (hx : S5.Num x o) :
    Calls Tryz.prog 168 #[Pw RB, .int .i64 x] w fun e w' => e = .returned (.int .i64 (((S5.seekO M.lk o).2 : Int) - 1)) ∧ ∃ Y', Rg w0 w' base RB (M.link (S5.seekO M.lk o).1) l r Y' := by
  have HC : Hid (Calls Tryz.prog 187 #[Pw Y.lB, .int .i64 x] w fun e w' => e = .returned (.int .i64 (((S5.seekO M.lk o).2 : Int) - 1)) ∧ ∃ Y', Rg w0 w' base RB (M.link (S5.seekO M.lk o).1) l r Y') := Lib.hid (by
    rw [← rg_lk h]
    refine (S5.rseek_any h.rlinks hx).mono ?_
    rintro e w' ⟨rfl, hh, ht⟩
    obtain ⟨Y', h', _⟩ := h.links ⟨hh, ht⟩
    exact ⟨rfl, Y', h'⟩)
  have c0 := h.c.2.2.1
  clear h hx
  generalize ((S5.seekO M.lk o).2 : Int) - 1 = y at *
  go_enter Tryz.func168, Tryz.ntmps168
  go_wp2_with (go_at_call 187; refine HC.out.mono ?_; rintro e w1 ⟨rfl, hy⟩)
  go_ret
  exact ⟨rfl, hy⟩
theorem rg_cut (h : Rg w0 w base RB M l r Y) {x y : Int} {a b : Option Nat} (hx : S5.Num x a) (hy : S5.Num y b) :
    Calls Tryz.prog 170 #[Pw RB, .int .i64 x, .int .i64 y] w fun e w' => (∃ v, e = .returned v) ∧ ∃ Y', Rg w0 w' base RB (M.link (S5.cutO M.lk a b).1) l r Y' := by
  have HC : Hid (Calls Tryz.prog 189 #[Pw Y.lB, .int .i64 x, .int .i64 y] w fun e w' => e = .returned (.int .i64 (((S5.cutO M.lk a b).2 : Int) - 1)) ∧ ∃ Y', Rg w0 w' base RB (M.link (S5.cutO M.lk a b).1) l r Y') := Lib.hid (by
    rw [← rg_lk h]
    refine (S5.rcut_any h.rlinks hx hy).mono ?_
    rintro e w' ⟨rfl, hh, ht⟩
    obtain ⟨Y', h', _⟩ := h.links ⟨hh, ht⟩
    exact ⟨rfl, Y', h'⟩)
  have c0 := h.c.2.2.1
  clear h hx hy
  generalize ((S5.cutO M.lk a b).2 : Int) - 1 = z at *
  go_enter Tryz.func170, Tryz.ntmps170
  go_wp2_with (go_at_call 189; refine HC.out.mono ?_; rintro e w1 ⟨rfl, hy⟩)
  go_ret
  exact ⟨⟨_, rfl⟩, hy⟩
theorem rg_prev (h : Rg w0 w base RB M l r Y) {t : Nat} (ht : t < 64) :
    Calls Tryz.prog 169 #[Pw RB, .int .i64 (t : Int)] w fun e w' => e = .returned (.int .i64 ((M.lk (t * 3 + 1) : Int) - 1)) ∧ Below w.heap.size w w' := by
  have HC : Hid (Calls Tryz.prog 188 #[Pw Y.lB, .int .i64 (t : Int)] w fun e w' => e = .returned (.int .i64 ((M.lk (t * 3 + 1) : Int) - 1)) ∧ Below w.heap.size w w') := Lib.hid (by
    rw [← rg_lk h]
    exact S5.prev_any h.rlinks (o := some t) ⟨rfl, ht⟩)
  have c0 := h.c.2.2.1
  clear h ht
  generalize (M.lk (t * 3 + 1) : Int) - 1 = z at *
  go_enter Tryz.func169, Tryz.ntmps169
  go_wp2_with (go_at_call 188; refine HC.out.mono ?_; rintro e w1 ⟨rfl, hy⟩)
  go_ret
  exact ⟨rfl, hy⟩
end
def Fr.rs (K : Fr) : Array Value := #[.int .i64 (K.ln : Int), .int .u32 (K.a : Int), .int .u64 (K.w : Int), .int .i64 K.t]
def freeRP (B : Nat) (K : Fr) : Part := blockP B (.cells K.rs 176)
structure Wg (w0 w : World) (base RB : Nat) (M : Sd) (l r : List Part) (j B : Nat) (K : Fr) (Y : Rm) : Prop where
  pg : Rg w0 w base RB M l (r.set j (freeRP B K)) Y
  hj : j < r.length
section
variable {w0 w w' : World} {base RB : Nat} {M : Sd} {l r : List Part} {j B : Nat} {K : Fr} {Y : Rm}
theorem Wg.new (h : Wg w0 w base RB M l r j B K Y) (b : Below w.heap.size w w') : Wg w0 w' base RB M l r j B K Y := ⟨h.pg.new b, h.hj⟩
theorem Wg.part (h : Wg w0 w base RB M l r j B K Y) : (r.set j (freeRP B K))[j]? = some (freeRP B K) := List.getElem?_set_self h.hj
theorem Wg.blk (h : Wg w0 w base RB M l r j B K Y) : w.heap[B]? = some (.cells K.rs 176 (0, 0)) := h.pg.ps.ok _ _ (h.pg.part h.part)
theorem Wg.b0 (h : Wg w0 w base RB M l r j B K Y) : w.cell? ⟨B, 0, none⟩ = some (.int .i64 (K.ln : Int)) := cell_row h.blk 0
theorem Wg.b1 (h : Wg w0 w base RB M l r j B K Y) : w.cell? ⟨B, 1, none⟩ = some (.int .u32 (K.a : Int)) := cell_row h.blk 1
theorem Wg.b2 (h : Wg w0 w base RB M l r j B K Y) : w.cell? ⟨B, 2, none⟩ = some (.int .u64 (K.w : Int)) := cell_row h.blk 2
theorem Wg.b3 (h : Wg w0 w base RB M l r j B K Y) : w.cell? ⟨B, 3, none⟩ = some (.int .i64 K.t) := cell_row h.blk 3
theorem Wg.fz (h : Wg w0 w base RB M l r j B K Y) (i : Nat) : w.frozen? ⟨B, i, none⟩ = false := froz_row h.blk i
theorem Wg.put (h : Wg w0 w base RB M l r j B K Y) (K' : Fr) (hq : w'.heap[B]? = some (.cells K'.rs 176 (0, 0))) (t : Turns (fun k => k = B) w w') : Wg w0 w' base RB M l r j B K' Y := by
  have := h.pg.turn h.part (freeRP B K') hq t (fun k e => .inl e)
  rw [List.set_set] at this
  exact ⟨this, h.hj⟩
theorem Wg.recast (h : Wg w0 w base RB M l r j B K Y) (K' : Fr) (e : K'.rs = K.rs) : Wg w0 w base RB M l r j B K' Y := by
  refine ⟨?_, h.hj⟩
  have := h.pg
  unfold freeRP at this ⊢
  rw [e]; exact this
theorem Wg.line (h : Wg w0 w base RB M l r j B K Y) (n : Nat) : Wg w0 (w.setCell ⟨B, 0, none⟩ (.int .i64 (n : Int))) base RB M l r j B { K with ln := n } Y :=
  h.put _ (set_blk h.blk 0 (.int .i64 (n : Int)) _ (by simp [Fr.rs])) ((Turns.refl (fun k => k = B) w).setCell ⟨B, 0, none⟩ _ rfl)
theorem Wg.word (h : Wg w0 w base RB M l r j B K Y) (u : Nat) : Wg w0 (w.setCell ⟨B, 2, none⟩ (.int .u64 (u : Int))) base RB M l r j B { K with w := u } Y :=
  h.put _ (set_blk h.blk 2 (.int .u64 (u : Int)) _ (by simp [Fr.rs])) ((Turns.refl (fun k => k = B) w).setCell ⟨B, 2, none⟩ _ rfl)
theorem Wg.tail (h : Wg w0 w base RB M l r j B K Y) (t : Int) : Wg w0 (w.setCell ⟨B, 3, none⟩ (.int .i64 t)) base RB M l r j B { K with t := t } Y :=
  h.put _ (set_blk h.blk 3 (.int .i64 t) _ (by simp [Fr.rs])) ((Turns.refl (fun k => k = B) w).setCell ⟨B, 3, none⟩ _ rfl)
theorem Wg.pushB (h : Wg w0 w base RB M l r j B K Y) (ob : Obj) : Wg w0 (w.alloc ob) base RB M l (r ++ [blockP w.heap.size ob]) j B K Y := by
  have hp := h.pg.ps.push (blockP w.heap.size ob) (below1 w ob) (heap_alloc_new w ob) (fun k e => Nat.le_of_eq (show k = w.heap.size from e).symm)
  rw [List.append_assoc, List.append_assoc] at hp
  refine ⟨⟨?_, h.pg.rB, h.pg.ym, Nat.le_trans h.pg.rb (by simp), h.pg.bl.alloc h.pg.size _⟩, by rw [List.length_append]; have := h.hj; simp; omega⟩
  rw [List.set_append_left _ _ h.hj]
  exact hp
theorem Wg.dropB {q : Part} (h : Wg w0 w base RB M l (r ++ [q]) j B K Y) (hj : j < r.length) : Wg w0 w base RB M l r j B K Y := by
  have hp := h.pg.ps
  rw [List.set_append_left _ _ hj, ← List.append_assoc, ← List.append_assoc, List.append_assoc l] at hp
  exact ⟨⟨Parts.left hp, h.pg.rB, h.pg.ym, h.pg.rb, h.pg.bl⟩, hj⟩
theorem Wg.last {Q : Nat} {ob : Obj} (h : Wg w0 w base RB M l (r ++ [blockP Q ob]) j B K Y) (hj : j < r.length) : w.heap[Q]? = some ob := by
  refine h.pg.ps.ok _ (blockP Q ob) (h.pg.part (j := r.length) ?_)
  rw [List.set_append_left _ _ hj, List.getElem?_append_right (by rw [List.length_set]; exact Nat.le_refl _), List.length_set, Nat.sub_self]; rfl
end
end Go.Proofs.YtlflagjnlclffaaGreat.S14
namespace Go.Proofs.YtlflagjnlclffaaGreat.S14
set_option maxRecDepth 100000
set_option maxHeartbeats 16000000
open Go.Proofs.YtlflagjnlclffaaGreat Go.Proofs.YtlflagjnlclffaaGreat.S11 Go.Proofs.YtlflagjnlclffaaGreat.S12 Go.Proofs.YtlflagjnlclffaaGreat.S13
open Go.RowKit
theorem idle_r (u : Nat) (hu : u < 18446744073709551616) (w : World) : Calls Tryz.prog 128 #[.int .u64 (u : Int)] w fun e w' => e = .returned (.bool (idle u)) ∧ Below w.heap.size w w' := by
  have HAS := Lib.hid (fun W => S1.ras_any u hu W)
  unfold S1.asV at HAS
  obtain ⟨b0, hb0⟩ : ∃ x, x = S1.bitB u 0 := ⟨_, rfl⟩
  obtain ⟨b1, hb1⟩ : ∃ x, x = S1.bitB u 1 := ⟨_, rfl⟩
  obtain ⟨hd, hhd⟩ : ∃ x, x = S1.headN u := ⟨_, rfl⟩
  rw [← hb0, ← hb1, ← hhd] at HAS
  have hi : idle u = (b1 || decide (hd = -1)) := by unfold idle; rw [← hb1, ← hhd]
  rw [hi]
  clear hi hb0 hb1 hhd hu
  cases b1 with
  | true =>
    go_enter Tryz.func128, Tryz.ntmps128
    go_upto_region 2 with (go_at_call 47; refine (HAS.out _).mono ?_; rintro e w1 ⟨rfl, hb1⟩)
    have hq := heap_alloc_new w1 (.cells #[.bool b0, .bool true, .int .i64 hd] 134)
    have x1 := cell_row hq 1; have x2 := cell_row hq 2
    simp only [List.getElem?_toArray, List.getElem?_cons_zero, List.getElem?_cons_succ] at x1 x2
    have HB := Lib.hid (hb1.alloc hb1.size (.cells #[.bool b0, .bool true, .int .i64 hd] 134))
    generalize w1.alloc (.cells #[.bool b0, .bool true, .int .i64 hd] 134) = w2 at *
    clear hq hb1 HAS
    go_wp2_with fail
    go_ret
    exact ⟨rfl, HB.out⟩
  | false =>
    by_cases e : hd = -1
    · subst e
      go_enter Tryz.func128, Tryz.ntmps128
      go_upto_region 2 with (go_at_call 47; refine (HAS.out _).mono ?_; rintro e w1 ⟨rfl, hb1⟩)
      have hq := heap_alloc_new w1 (.cells #[.bool b0, .bool false, .int .i64 (-1)] 134)
      have x1 := cell_row hq 1; have x2 := cell_row hq 2
      simp only [List.getElem?_toArray, List.getElem?_cons_zero, List.getElem?_cons_succ] at x1 x2
      have HB := Lib.hid (hb1.alloc hb1.size (.cells #[.bool b0, .bool false, .int .i64 (-1)] 134))
      generalize w1.alloc (.cells #[.bool b0, .bool false, .int .i64 (-1)] 134) = w2 at *
      clear hq hb1 HAS
      go_wp2_with fail
      go_ret
      exact ⟨rfl, HB.out⟩
    · have hne : (hd == -1) = false := by rw [beq_eq_false_iff_ne]; exact e
      rw [decide_eq_false e]
      clear e
      go_enter Tryz.func128, Tryz.ntmps128
      go_upto_region 2 with (go_at_call 47; refine (HAS.out _).mono ?_; rintro e w1 ⟨rfl, hb1⟩)
      have hq := heap_alloc_new w1 (.cells #[.bool b0, .bool false, .int .i64 hd] 134)
      have x1 := cell_row hq 1; have x2 := cell_row hq 2
      simp only [List.getElem?_toArray, List.getElem?_cons_zero, List.getElem?_cons_succ] at x1 x2
      have HB := Lib.hid (hb1.alloc hb1.size (.cells #[.bool b0, .bool false, .int .i64 hd] 134))
      generalize w1.alloc (.cells #[.bool b0, .bool false, .int .i64 hd] 134) = w2 at *
      clear hq hb1 HAS
      go_wp2_with fail
      go_ret
      exact ⟨rfl, HB.out⟩
section
variable {w0 w w' : World} {base RB : Nat} {M : Sd} {l r : List Part} {j B : Nat} {K : Fr} {Y : Rm}
theorem look_r (h : Wg w0 w base RB M l r j B K Y) (hu : K.w < 18446744073709551616) : Calls Tryz.prog 130 #[Pw B] w fun e w' => e = .returned (.tuple #[]) ∧ Wg w0 w' base RB M l r j B K.look Y := by
  have c0 := h.b0; have f0 := h.fz 0
  have h1 := h.line 3
  have HI := Lib.hid (fun W => idle_r K.w hu W)
  have H1 := Lib.hid h1
  clear h hu h1
  obtain ⟨id, hid⟩ : ∃ id, id = idle K.w := ⟨_, rfl⟩
  rw [← hid] at HI
  have HID := Lib.hid hid
  clear hid
  go_enter Tryz.func130, Tryz.ntmps130
  go_upto_region 1 with (fail)
  generalize w.setCell ⟨B, 0, none⟩ (.int .i64 3) = w1 at *
  clear c0 f0
  have H1' : Hid (Wg w0 w1 base RB M l r j B { K with ln := 3 } Y) := H1
  have c2 := H1'.out.b2
  cases id with
  | true =>
    have hk : K.look = { K with ln := 0 } := by unfold Fr.look; rw [if_pos HID.out.symm]
    have HK := Lib.hid hk
    clear hk
    go_upto_region 2 with (go_at_call 128; refine (HI.out _).mono ?_; rintro e w2 ⟨rfl, hb2⟩)
    have h2 := H1'.out.new hb2
    have c0 := h2.b0; have f0 := h2.fz 0
    have h3 := h2.line 0
    have H3 := Lib.hid h3
    clear h2 h3 hb2 c2
    go_wp2_with fail
    go_end0
    exact ⟨rfl, by rw [HK.out]; exact H3.out⟩
  | false =>
    have hk : K.look = { K with ln := 3 } := by unfold Fr.look; rw [if_neg (by rw [← HID.out]; decide)]
    have HK := Lib.hid hk
    clear hk
    go_wp2_with (go_at_call 128; refine (HI.out _).mono ?_; rintro e w2 ⟨rfl, hb2⟩; have H2 := Lib.hid (H1'.out.new hb2); clear hb2)
    go_end0
    exact ⟨rfl, by rw [HK.out]; exact H2.out⟩
theorem queued_r (h : Wg w0 w base RB M l r j B K Y) (hu : K.w < 18446744073709551616) (b : Bool) : Calls Tryz.prog 131 #[Pw B, .bool b] w fun e w' => e = .returned (.int .u64 ((wq K.w b : Nat) : Int)) ∧ Below w.heap.size w w' := by
  have c2 := h.b2
  have HAS := Lib.hid (fun W => S1.ras_any K.w hu W)
  unfold S1.asV at HAS
  obtain ⟨b0, hb0⟩ : ∃ x, x = S1.bitB K.w 0 := ⟨_, rfl⟩
  obtain ⟨b1, hb1⟩ : ∃ x, x = S1.bitB K.w 1 := ⟨_, rfl⟩
  obtain ⟨hd, hhd⟩ : ∃ x, x = S1.headN K.w := ⟨_, rfl⟩
  rw [← hb0, ← hb1, ← hhd] at HAS
  have HPT : Hid (∀ W, Calls Tryz.prog 51 #[.agg #[.bool b0, .bool b, .int .i64 hd]] W fun e w' => e = .returned (.int .u64 ((wq K.w b : Nat) : Int)) ∧ Below W.heap.size W w') := Lib.hid (fun W => by
    have := S1.rputU_any b0 b hd (by rw [hhd]; exact S1.head_is _) W
    rwa [show S1.putU b0 b hd = wq K.w b by unfold wq; rw [hb0, hhd]] at this)
  clear h hu hb0 hb1 hhd
  generalize ((wq K.w b : Nat) : Int) = y at *
  go_enter Tryz.func131, Tryz.ntmps131
  go_upto_region 2 with (go_at_call 47; refine (HAS.out _).mono ?_; rintro e w1 ⟨rfl, hb1⟩)
  have hq := heap_alloc_new w1 (.cells #[.bool b0, .bool b1, .int .i64 hd] 134)
  have hlt : w.heap.size ≤ w1.heap.size := hb1.size
  have hb2 := hb1.alloc hb1.size (.cells #[.bool b0, .bool b1, .int .i64 hd] 134)
  generalize w1.alloc (.cells #[.bool b0, .bool b1, .int .i64 hd] 134) = w2 at *
  generalize w1.heap.size = Q at *
  have x1 := cell_row hq 1; have z1 := froz_row hq 1
  simp only [List.getElem?_toArray, List.getElem?_cons_zero, List.getElem?_cons_succ] at x1
  have hq3 := set_blk hq 1 (.bool b) #[.bool b0, .bool b, .int .i64 hd] (by simp)
  have hb3 := hb2.setCell (p := ⟨Q, 1, none⟩) hlt (.bool b)
  go_upto_region 3 with (fail)
  generalize w2.setCell ⟨Q, 1, none⟩ (.bool b) = w3 at *
  clear x1 z1 hq hb2 hlt c2 HAS hb1
  have x0 := cell_row hq3 0; have x1 := cell_row hq3 1; have x2 := cell_row hq3 2
  simp only [List.getElem?_toArray, List.getElem?_cons_zero, List.getElem?_cons_succ] at x0 x1 x2
  have HB := Lib.hid hb3
  clear hq3 hb3
  go_wp2_with (go_at_call 51; refine (HPT.out _).mono ?_; rintro e w4 ⟨rfl, hb4⟩; have HB4 := Lib.hid hb4; clear hb4)
  go_ret
  exact ⟨rfl, HB.out.trans (HB4.out.mono HB.out.size)⟩
def SeekG (w0 : World) (base RB : Nat) (M : Sd) (l r : List Part) (j B : Nat) (K : Fr) (w' : World) : Prop := ∃ Y', Wg w0 w' base RB (M.link (seekL M.lk K.w).1) l r j B (K.seek M.lk) Y'
theorem seek_r (h : Wg w0 w base RB M l r j B K Y) (hu : K.w < 18446744073709551616) : Calls Tryz.prog 132 #[Pw B, Pw RB] w fun e w' => e = .returned (.tuple #[]) ∧ SeekG w0 base RB M l r j B K w' := by
  have c2 := h.b2
  have HAS := Lib.hid (fun W => S1.ras_any K.w hu W)
  unfold S1.asV at HAS
  obtain ⟨b0, hb0⟩ : ∃ x, x = S1.bitB K.w 0 := ⟨_, rfl⟩
  obtain ⟨b1, hb1⟩ : ∃ x, x = S1.bitB K.w 1 := ⟨_, rfl⟩
  obtain ⟨hd, hhd⟩ : ∃ x, x = S1.headN K.w := ⟨_, rfl⟩
  rw [← hb0, ← hb1, ← hhd] at HAS
  have HT := Lib.hid (And.intro hb0 (And.intro hb1 hhd))
  have HW := Lib.hid h
  have HJ := Lib.hid h.hj
  clear h hu hb0 hb1 hhd
  obtain ⟨n2, hn2⟩ : ∃ n, n = (S5.seekO M.lk (hdO K.w)).2 := ⟨_, rfl⟩
  obtain ⟨S2, hS2⟩ : ∃ S, S = (S5.seekO M.lk (hdO K.w)).1 := ⟨_, rfl⟩
  have hle := (seekO_le (fun i => rg_le HW.out.pg i) K.w).1
  rw [← hn2] at hle
  have hsk : ∀ W, Wg w0 W base RB M l (r ++ [blockP w.heap.size (.cells #[.bool b0, .bool b1, .int .i64 hd] 134)]) j B K Y → True := fun _ _ => trivial
  have HN2 := Lib.hid hn2; have HS2 := Lib.hid hS2; have HLE := Lib.hid hle
  clear hn2 hS2 hle hsk
  go_enter Tryz.func132, Tryz.ntmps132
  go_upto_region 1 with (go_at_call 47; refine (HAS.out _).mono ?_; rintro e w1 ⟨rfl, hb1⟩)
  have h2 := (HW.out.new hb1).pushB (.cells #[.bool b0, .bool b1, .int .i64 hd] 134)
  generalize w1.alloc (.cells #[.bool b0, .bool b1, .int .i64 hd] 134) = w2 at *
  generalize w1.heap.size = Q at *
  have hl := h2.last HJ.out
  have x2 := cell_row hl 2
  simp only [List.getElem?_toArray, List.getElem?_cons_zero, List.getElem?_cons_succ] at x2
  have hsk : Calls Tryz.prog 168 #[Pw RB, .int .i64 hd] w2 fun e w' => e = .returned (.int .i64 ((n2 : Int) - 1)) ∧ ∃ Y', Rg w0 w' base RB (M.link S2) l ((r ++ [blockP Q (.cells #[.bool b0, .bool b1, .int .i64 hd] 134)]).set j (freeRP B K)) Y' := by
    have h2' := h2
    rw [HT.out.2.2] at h2'
    rw [HN2.out, HS2.out, HT.out.2.2]
    exact rg_seek h2'.pg (num_head K.w)
  have HSK := Lib.hid hsk; have H2 := Lib.hid h2
  clear hsk h2 hl hb1 c2 HAS
  go_upto_region 2 with (go_at_call 168; refine HSK.out.mono ?_; rintro e w3 ⟨rfl, Y3, h3g⟩; have H3 := Lib.hid (show Wg w0 w3 base RB (M.link S2) l (r ++ [blockP Q (.cells #[.bool b0, .bool b1, .int .i64 hd] 134)]) j B K Y3 from ⟨h3g, H2.out.hj⟩); have y3 := H3.out.b3; have f3 := H3.out.fz 3; clear h3g)
  have h4 := H3.out.tail ((n2 : Int) - 1)
  generalize w3.setCell ⟨B, 3, none⟩ (.int .i64 ((n2 : Int) - 1)) = w4 at *
  have H4 := Lib.hid h4
  clear h4 y3 f3 x2 HSK H3
  have e3 := H4.out.b3; have y0 := H4.out.b0; have f0 := H4.out.fz 0
  have hl := H4.out.last HJ.out
  have x0 := cell_row hl 0; have x2 := cell_row hl 2
  simp only [List.getElem?_toArray, List.getElem?_cons_zero, List.getElem?_cons_succ] at x0 x2
  clear hl
  have hleaf : ∀ (W : World) (Y' : Rm) (S : S5.Lk) (t : Int) (n : Nat), (S, t, n) = seekL M.lk K.w → Wg w0 W base RB (M.link S) l (r ++ [blockP Q (.cells #[.bool b0, .bool b1, .int .i64 hd] 134)]) j B { K with t := t, ln := n } Y' → SeekG w0 base RB M l r j B K W := fun W Y' S t n hs hx => by
    refine ⟨Y', ?_⟩
    unfold Fr.seek
    rw [← hs]
    exact hx.dropB HJ.out
  have HLF := Lib.hid hleaf
  clear hleaf
  cases n2 with
  | zero =>
    have e6 : w4.cell? ⟨B, 3, none⟩ = some (.int .i64 (-1)) := e3
    have hq : (S2, (-1 : Int), 0) = seekL M.lk K.w := by unfold seekL; rw [if_pos HN2.out.symm, ← HS2.out]
    have HFIN := Lib.hid (HLF.out _ Y3 _ _ _ hq (H4.out.line 0))
    clear e3 hq HLF
    go_wp2_with fail
    (try simp only [Exit.inBlock, Exit.then])
    refine bodyPost_ret (results_none rfl _ _ _) rfl ?_
    exact ⟨rfl, HFIN.out⟩
  | succ m =>
    have em : ((m + 1 : Nat) : Int) - 1 = (m : Int) := by omega
    have hm := HLE.out
    rw [em] at e3
    have hne : decide ((m : Int) < 0) = false := by rw [decide_eq_false_iff_not]; omega
    have hnn : ¬ (m : Int) < 0 := by omega
    have hn0 : ¬ (S5.seekO M.lk (hdO K.w)).2 = 0 := by rw [← HN2.out]; omega
    have htl : (((S5.seekO M.lk (hdO K.w)).2 : Int) - 1) = (m : Int) := by rw [← HN2.out]; omega
    have hpr : (S5.seekO M.lk (hdO K.w)).2 - 1 = m := by rw [← HN2.out]; omega
    have h8 := H4.out
    rw [em] at h8
    have H8 := Lib.hid h8; have HM := Lib.hid (show m < 64 by omega); have HEQ := Lib.hid (And.intro hn0 (And.intro htl hpr))
    clear em hm hn0 htl hpr h8 H4
    cases b0 with
    | true =>
      have hq : (S2, (m : Int), 4) = seekL M.lk K.w := by unfold seekL; rw [if_neg HEQ.out.1, if_pos HT.out.1.symm, HEQ.out.2.1, ← HS2.out]
      have HFIN := Lib.hid (HLF.out _ Y3 _ _ _ hq (H8.out.line 4))
      clear hq HLF
      go_wp2_with fail
      (try simp only [Exit.inBlock, Exit.then])
      refine bodyPost_ret (results_none rfl _ _ _) rfl ?_
      exact ⟨rfl, HFIN.out⟩
    | false =>
      obtain ⟨y1, hy1⟩ : ∃ y1 : Int, y1 = (S2 (m * 3 + 1) : Int) - 1 := ⟨_, rfl⟩
      have HPV : Hid (Calls Tryz.prog 169 #[Pw RB, .int .i64 (m : Int)] w4 fun e w' => e = .returned (.int .i64 y1) ∧ Below w4.heap.size w4 w') := Lib.hid (by
        rw [hy1]; exact rg_prev H8.out.pg HM.out)
      have HY1 := Lib.hid hy1
      clear hy1
      by_cases hp : S2 (m * 3 + 1) = 0
      · have hy : decide (y1 < 0) = true := by rw [HY1.out, hp]; decide
        have hyy : y1 < 0 := by rw [HY1.out, hp]; decide
        have hq : (S2, (m : Int), 5) = seekL M.lk K.w := by unfold seekL; rw [if_neg HEQ.out.1, if_neg (by rw [← HT.out.1]; decide), HEQ.out.2.2, HEQ.out.2.1, ← HS2.out, if_pos hp]
        have HFIN := Lib.hid (fun W (b : Below w4.heap.size w4 W) => HLF.out _ Y3 _ _ _ hq ((H8.out.new b).line 5))
        clear hq HLF hp
        go_upto_region 7 with (go_at_call 169; refine HPV.out.mono ?_; rintro e w5 ⟨rfl, hb5⟩)
        have h9 := H8.out.new hb5
        have HF := Lib.hid (HFIN.out w5 hb5)
        clear y0 f0
        have y0 := h9.b0; have f0 := h9.fz 0
        clear hb5 h9 HFIN e3 x0 x2
        go_wp2_with fail
        (try simp only [Exit.inBlock, Exit.then])
        refine bodyPost_ret (results_none rfl _ _ _) rfl ?_
        exact ⟨rfl, HF.out⟩
      · have hy : decide (y1 < 0) = false := by rw [HY1.out, decide_eq_false_iff_not]; omega
        have hyy : ¬ y1 < 0 := by rw [HY1.out]; omega
        have hq : ((S5.cutO S2 (hdO K.w) (some m)).1, (m : Int), 6) = seekL M.lk K.w := by unfold seekL; rw [if_neg HEQ.out.1, if_neg (by rw [← HT.out.1]; decide), HEQ.out.2.2, HEQ.out.2.1, ← HS2.out, if_neg hp]
        have HFIN := Lib.hid (fun W Y' => HLF.out W Y' _ _ _ hq)
        clear hq HLF hp
        go_upto_region 8 with (go_at_call 169; refine HPV.out.mono ?_; rintro e w5 ⟨rfl, hb5⟩)
        have h9 := H8.out.new hb5
        have H9 := Lib.hid h9
        clear hb5 h9 y0 f0 e3 x0 x2 hyy hy hne hnn
        have e3 := H9.out.b3
        have hl := H9.out.last HJ.out
        have x2 := cell_row hl 2
        simp only [List.getElem?_toArray, List.getElem?_cons_zero, List.getElem?_cons_succ] at x2
        have hct : Calls Tryz.prog 170 #[Pw RB, .int .i64 hd, .int .i64 (m : Int)] w5.drew fun e w' => (∃ v, e = .returned v) ∧ ∃ Y', Rg w0 w' base RB ((M.link S2).link (S5.cutO S2 (hdO K.w) (some m)).1) l ((r ++ [blockP Q (.cells #[.bool false, .bool b1, .int .i64 hd] 134)]).set j (freeRP B { K with t := (m : Int) })) Y' := by
          rw [HT.out.2.2]
          rw [HT.out.2.2] at H9
          exact rg_cut (H9.out.new (Below.refl _ _).drew).pg (num_head K.w) (show S5.Num (m : Int) (some m) from ⟨rfl, HM.out⟩)
        have HCT := Lib.hid hct
        clear hct hl
        go_still_tail 7, (by kernel_rfl)
        change wpList _ _ _ _ _ w5.drew
        go_upto_region 9 with (go_at_call 170; refine HCT.out.mono ?_; rintro e w9 ⟨⟨cv, rfl⟩, Y9, h9⟩; have H10 := Lib.hid (show Wg w0 w9 base RB ((M.link S2).link (S5.cutO S2 (hdO K.w) (some m)).1) l (r ++ [blockP Q (.cells #[.bool false, .bool b1, .int .i64 hd] 134)]) j B { K with t := (m : Int) } Y9 from ⟨h9, H9.out.hj⟩); clear h9)
        have y0 := H10.out.b0; have f0 := H10.out.fz 0
        have HF := Lib.hid (HFIN.out _ Y9 (H10.out.line 6))
        clear HFIN x2 e3
        go_wp2_with fail
        go_end0
        exact ⟨rfl, HF.out⟩
end
end Go.Proofs.YtlflagjnlclffaaGreat.S14
namespace Go.Proofs.YtlflagjnlclffaaGreat.S14
set_option maxRecDepth 100000
set_option maxHeartbeats 16000000
open Go.Proofs.YtlflagjnlclffaaGreat Go.Proofs.YtlflagjnlclffaaGreat.S11 Go.Proofs.YtlflagjnlclffaaGreat.S12 Go.Proofs.YtlflagjnlclffaaGreat.S13
open Go.RowKit
def SteppedG (w0 w' : World) (base RB : Nat) (M : Sd) (l r : List Part) (j B : Nat) (K : Fr) : Prop := ∃ Y', Wg w0 w' base RB (fstepM M K) l r j B (fstepK M K) Y'
theorem merge {S P : World → Prop} {G : Prop} (h2 : (∀ W, S W → P W) → G) (h1 : ∀ W, S W → P W) : G := h2 h1
section
variable {w0 w w' : World} {base RB : Nat} {M : Sd} {l r : List Part} {j B : Nat} {K : Fr} {Y : Rm}
theorem gstep0 (h : Wg w0 w base RB M l r j B K Y) (ok : FrOk M K) (hl : K.ln = 0) : Calls Tryz.prog 72 #[Pw B, Pw RB] w fun e w' => e = .returned (.tuple #[]) ∧ SteppedG w0 w' base RB M l r j B K := by
  have hf : SteppedG w0 w base RB M l r j B K := by
    unfold SteppedG
    rw [show fstepM M K = M from by simp only [fstepM, hl], show fstepK M K = K from by simp only [fstepK, hl]]
    exact ⟨Y, h⟩
  have HF := Lib.hid hf
  clear hf
  have c0 := h.b0; have z0 := h.fz 0
  rw [hl] at c0
  have H0 := Lib.hid h
  have HOK := Lib.hid ok
  clear h ok hl
  go_enter Tryz.func72, Tryz.ntmps72
  go_wp2_with fail
  go_end0
  exact ⟨rfl, HF.out⟩
theorem gstep1 (h : Wg w0 w base RB M l r j B K Y) (ok : FrOk M K) (hl : K.ln = 1) : Calls Tryz.prog 72 #[Pw B, Pw RB] w fun e w' => e = .returned (.tuple #[]) ∧ SteppedG w0 w' base RB M l r j B K := by
  obtain ⟨x, hx⟩ : ∃ x, x = S2.look M.L K.a := ⟨_, rfl⟩
  have HXL : Hid (x < 18446744073709551616) := Lib.hid (by rw [hx]; exact rg_look h.pg K.a)
  have HT : Hid (∀ W Y', idle x = true → Wg w0 W base RB (M.acc 5 K.a ((x + 18446744073709551615) % 18446744073709551616)) l r j B ({ K with ln := 0 }) Y' → SteppedG w0 W base RB M l r j B K) := Lib.hid (fun W Y' e h' => by
    unfold SteppedG
    rw [show fstepM M K = _ from by simp only [fstepM, hl]; rfl, show fstepK M K = _ from by simp only [fstepK, hl]; rfl, ← hx, if_pos e]
    exact ⟨Y', h'.recast _ (rfl)⟩)
  have HN : Hid (∀ W Y', idle x = false → Wg w0 W base RB (M.acc 5 K.a ((x + 18446744073709551615) % 18446744073709551616)) l r j B ({ K with ln := 2 }) Y' → SteppedG w0 W base RB M l r j B K) := Lib.hid (fun W Y' e h' => by
    unfold SteppedG
    rw [show fstepM M K = _ from by simp only [fstepM, hl]; rfl, show fstepK M K = _ from by simp only [fstepK, hl]; rfl, ← hx, if_neg (by rw [e]; decide)]
    exact ⟨Y', h'.recast _ (rfl)⟩)
  have HI := Lib.hid (fun W => idle_r x HXL.out W)
  have c0 := h.b0; have z0 := h.fz 0
  rw [hl] at c0
  have H0 := Lib.hid h
  have HOK := Lib.hid ok
  clear h ok hl
  go_enter Tryz.func72, Tryz.ntmps72
  go_upto_region 4 with (fail)
  have H1 := Lib.hid (H0.out.line 2)
  generalize w.setCell ⟨B, 0, none⟩ (.int .i64 2) = w1 at *
  have H1' : Hid (Wg w0 w1 base RB M l r j B { K with ln := 2 } Y) := H1
  clear c0 z0 H1
  have c1 := H1'.out.b1
  have had : Calls Tryz.prog 129 #[Pw RB, .int .u32 (K.a : Int), .int .u64 18446744073709551615] w1 fun e w' => e = .returned (.int .u64 (x : Int)) ∧ ∃ Y', Wg w0 w' base RB (M.acc 5 K.a ((x + 18446744073709551615) % 18446744073709551616)) l r j B { K with ln := 2 } Y' := by
    have h1 := rg_add H1'.out.pg HOK.out.a (v := 18446744073709551615) (by omega) HOK.out.n
    rw [show ((18446744073709551615 : Nat) : Int) = 18446744073709551615 from rfl, ← hx] at h1
    refine h1.mono ?_
    rintro e w' ⟨rfl, Y', h'⟩
    exact ⟨rfl, Y', h', H1'.out.hj⟩
  have HAD := Lib.hid had
  clear had hx
  obtain ⟨id, hid⟩ : ∃ id, id = idle x := ⟨_, rfl⟩
  rw [← hid] at HI HT HN
  clear hid
  cases id with
  | true =>
    go_upto_region 5 with (first | (go_at_call 128; refine (HI.out _).mono ?_; rintro e w3 ⟨rfl, hb3⟩) | (go_at_call 129; refine HAD.out.mono ?_; rintro e w2 ⟨rfl, Y2, h2⟩; have H2 := Lib.hid h2; clear h2))
    have H3 := Lib.hid (H2.out.new hb3)
    clear hb3
    have y0 := H3.out.b0; have f0 := H3.out.fz 0
    have H4 := Lib.hid (H3.out.line 0)
    go_wp2_with fail
    go_end0
    exact ⟨rfl, HT.out _ Y2 trivial H4.out⟩
  | false =>
    go_wp2_with (first | (go_at_call 128; refine (HI.out _).mono ?_; rintro e w3 ⟨rfl, hb3⟩; have H3 := Lib.hid (H2.out.new hb3); clear hb3) | (go_at_call 129; refine HAD.out.mono ?_; rintro e w2 ⟨rfl, Y2, h2⟩; have H2 := Lib.hid h2; clear h2))
    go_end0
    exact ⟨rfl, HN.out _ Y2 trivial H3.out⟩
theorem gstep2 (h : Wg w0 w base RB M l r j B K Y) (ok : FrOk M K) (hl : K.ln = 2) (hby : S2.Byt M.L) : Calls Tryz.prog 72 #[Pw B, Pw RB] w fun e w' => e = .returned (.tuple #[]) ∧ SteppedG w0 w' base RB M l r j B K := by
  obtain ⟨x, hx⟩ : ∃ x, x = S2.look M.L K.a := ⟨_, rfl⟩
  have HXL : Hid (x < 18446744073709551616) := Lib.hid (by rw [hx]; exact rg_look h.pg K.a)
  have HT : Hid (∀ W Y', Wg w0 W base RB (M.acc 1 K.a x) l r j B (({ K with w := x } : Fr).look) Y' → SteppedG w0 W base RB M l r j B K) := Lib.hid (fun W Y' h' => by
    unfold SteppedG
    rw [show fstepM M K = _ from by simp only [fstepM, hl]; rfl, show fstepK M K = _ from by simp only [fstepK, hl]; rfl, ← hx]
    exact ⟨Y', h'.recast _ (rfl)⟩)
  have hld : Calls Tryz.prog 52 #[Pw RB, .int .u32 (K.a : Int)] w fun e w' => e = .returned (.int .u64 (x : Int)) ∧ ∃ Y', Wg w0 w' base RB (M.acc 1 K.a x) l r j B K Y' := by
    have h1 := h.pg.load hby ok.a ok.n
    rw [← hx] at h1
    refine h1.mono ?_
    rintro e w' ⟨rfl, Y', h'⟩
    exact ⟨rfl, Y', h', h.hj⟩
  have HLD := Lib.hid hld
  have c1 := h.b1
  clear hld hx hby
  have c0 := h.b0; have z0 := h.fz 0
  rw [hl] at c0
  have H0 := Lib.hid h
  have HOK := Lib.hid ok
  clear h ok hl
  go_enter Tryz.func72, Tryz.ntmps72
  go_upto_region 8 with (go_at_call 52; refine HLD.out.mono ?_; rintro e w2 ⟨rfl, Y2, h2⟩; have y2 := h2.b2; have f2 := h2.fz 2; have H2 := Lib.hid h2; clear h2)
  have H3 := Lib.hid (H2.out.word x)
  generalize w2.setCell ⟨B, 2, none⟩ (.int .u64 (x : Int)) = w3 at *
  clear y2 f2 c0 c1 z0
  have HLK := Lib.hid (look_r H3.out HXL.out)
  go_wp2_with (go_at_call 130; refine HLK.out.mono ?_; rintro e w4 ⟨rfl, h4⟩; have H4 := Lib.hid h4; clear h4)
  go_end0
  exact ⟨rfl, HT.out _ Y2 H4.out⟩
theorem gstep6 (h : Wg w0 w base RB M l r j B K Y) (ok : FrOk M K) (hl : K.ln = 6) : Calls Tryz.prog 72 #[Pw B, Pw RB] w fun e w' => e = .returned (.tuple #[]) ∧ SteppedG w0 w' base RB M l r j B K := by
  obtain ⟨x, hx⟩ : ∃ x, x = S2.look M.L K.a := ⟨_, rfl⟩
  have HXL : Hid (x < 18446744073709551616) := Lib.hid (by rw [hx]; exact rg_look h.pg K.a)
  have HT : Hid (∀ W Y', Wg w0 W base RB (M.acc 6 K.a (x &&& 18446744073709551613)) l r j B ({ K with ln := 7 }) Y' → SteppedG w0 W base RB M l r j B K) := Lib.hid (fun W Y' h' => by
    unfold SteppedG
    rw [show fstepM M K = _ from by simp only [fstepM, hl]; rfl, show fstepK M K = _ from by simp only [fstepK, hl]; rfl, ← hx]
    exact ⟨Y', h'.recast _ (rfl)⟩)
  have had : Calls Tryz.prog 133 #[Pw RB, .int .u32 (K.a : Int), .int .u64 18446744073709551613] w fun e w' => e = .returned (.int .u64 (x : Int)) ∧ ∃ Y', Wg w0 w' base RB (M.acc 6 K.a (x &&& 18446744073709551613)) l r j B K Y' := by
    have h1 := rg_and h.pg ok.a (v := 18446744073709551613) (by omega) ok.n
    rw [show ((18446744073709551613 : Nat) : Int) = 18446744073709551613 from rfl, ← hx] at h1
    refine h1.mono ?_
    rintro e w' ⟨rfl, Y', h'⟩
    exact ⟨rfl, Y', h', h.hj⟩
  have HAD := Lib.hid had
  have c1 := h.b1
  clear had hx
  have c0 := h.b0; have z0 := h.fz 0
  rw [hl] at c0
  have H0 := Lib.hid h
  have HOK := Lib.hid ok
  clear h ok hl
  go_enter Tryz.func72, Tryz.ntmps72
  go_upto_region 28 with (go_at_call 133; refine HAD.out.mono ?_; rintro e w2 ⟨rfl, Y2, h2⟩; have y0 := h2.b0; have f0 := h2.fz 0; have H3 := Lib.hid (h2.line 7); clear h2)
  go_wp2_with fail
  go_end0
  exact ⟨rfl, HT.out _ Y2 H3.out⟩
theorem gstep7 (h : Wg w0 w base RB M l r j B K Y) (ok : FrOk M K) (hl : K.ln = 7) : Calls Tryz.prog 72 #[Pw B, Pw RB] w fun e w' => e = .returned (.tuple #[]) ∧ SteppedG w0 w' base RB M l r j B K := by
  have HT : Hid (∀ W Y', Wg w0 W base RB (M.unpark (2 * K.t.toNat + 1)) l r j B { K with ln := 0 } Y' → SteppedG w0 W base RB M l r j B K) := Lib.hid (fun W Y' h' => by
    unfold SteppedG
    rw [show fstepM M K = _ from by simp only [fstepM, hl]; rfl, show fstepK M K = _ from by simp only [fstepK, hl]; rfl]
    exact ⟨Y', h'.recast _ rfl⟩)
  have ht := ok.t (by omega)
  have e1 : wrap64 (2 * K.t) = 2 * K.t := by unfold wrap64; omega
  have e2 : wrap64 (2 * K.t + 1) = ((2 * K.t.toNat + 1 : Nat) : Int) := by unfold wrap64; omega
  have hun : Calls Tryz.prog 46 #[Pw RB, .int .i64 ((2 * K.t.toNat + 1 : Nat) : Int)] w fun e w' => e = .returned (.tuple #[]) ∧ ∃ Y', Wg w0 w' base RB (M.unpark (2 * K.t.toNat + 1)) l r j B K Y' := by
    refine (h.pg.unpark ok.pn (by omega)).mono ?_
    rintro e w' ⟨rfl, Y', h'⟩
    exact ⟨rfl, Y', h', h.hj⟩
  obtain ⟨y, hy⟩ : ∃ y : Int, y = ((2 * K.t.toNat + 1 : Nat) : Int) := ⟨_, rfl⟩
  rw [← hy] at hun e2
  clear hy
  have HUN := Lib.hid hun
  have c3 := h.b3
  clear hun ht
  have c0 := h.b0; have z0 := h.fz 0
  rw [hl] at c0
  have H0 := Lib.hid h
  have HOK := Lib.hid ok
  clear h ok hl
  go_enter Tryz.func72, Tryz.ntmps72
  go_upto_region 31 with (go_at_call 46; refine HUN.out.mono ?_; rintro e w2 ⟨rfl, Y2, h2⟩; have y0 := h2.b0; have f0 := h2.fz 0; have H3 := Lib.hid (h2.line 0); clear h2)
  go_wp2_with fail
  go_end0
  exact ⟨rfl, HT.out _ Y2 H3.out⟩
theorem gstep3 (h : Wg w0 w base RB M l r j B K Y) (ok : FrOk M K) (hl : K.ln = 3) : Calls Tryz.prog 72 #[Pw B, Pw RB] w fun e w' => e = .returned (.tuple #[]) ∧ SteppedG w0 w' base RB M l r j B K := by
  obtain ⟨x, hx⟩ : ∃ x, x = S2.look M.L K.a := ⟨_, rfl⟩
  have HXL : Hid (x < 18446744073709551616) := Lib.hid (by rw [hx]; exact rg_look h.pg K.a)
  have HT : Hid (∀ W, x = K.w → SeekG w0 base RB (M.acc 3 K.a (S2.casV x K.w (wq K.w true))) l r j B ({ K with w := wq K.w true }) W → SteppedG w0 W base RB M l r j B K) := Lib.hid (fun W e h' => by
    obtain ⟨Y', h'⟩ := h'
    unfold SteppedG
    rw [show fstepM M K = _ from by simp only [fstepM, hl]; rfl, show fstepK M K = _ from by simp only [fstepK, hl]; rfl, ← hx, if_pos e, if_pos e]
    exact ⟨Y', h'.recast _ rfl⟩)
  have HN : Hid (∀ W Y', ¬ x = K.w → Wg w0 W base RB (M.acc 3 K.a (S2.casV x K.w (wq K.w true))) l r j B (({ K with w := x } : Fr).look) Y' → SteppedG w0 W base RB M l r j B K) := Lib.hid (fun W Y' e h' => by
    unfold SteppedG
    rw [show fstepM M K = _ from by simp only [fstepM, hl]; rfl, show fstepK M K = _ from by simp only [fstepK, hl]; rfl, ← hx, if_neg e, if_neg e]
    exact ⟨Y', h'.recast _ (rfl)⟩)
  have HC : Hid (∀ W, Wg w0 W base RB M l r j B K Y → Calls Tryz.prog 49 #[Pw RB, .int .u32 (K.a : Int), .int .u64 (K.w : Int), .int .u64 ((wq K.w true : Nat) : Int)] W fun e w' => e = .returned (.tuple #[.int .u64 (x : Int), .bool (decide (x = K.w))]) ∧ ∃ Y', Wg w0 w' base RB (M.acc 3 K.a (S2.casV x K.w (wq K.w true))) l r j B K Y') := Lib.hid (fun W hW => by
    have := hW.pg.cas ok.a (u := K.w) (v := wq K.w true) (wq_lt _ _) ok.n
    rw [← hx] at this
    refine this.mono ?_
    rintro e w' ⟨rfl, Y', h'⟩
    exact ⟨rfl, Y', h', hW.hj⟩)
  have HQ := Lib.hid (queued_r h ok.w true)
  have HYL := Lib.hid (wq_lt K.w true)
  clear hx
  have c0 := h.b0; have z0 := h.fz 0
  rw [hl] at c0
  have H0 := Lib.hid h
  have HOK := Lib.hid ok
  clear h ok hl
  have c2 := H0.out.b2
  generalize wq K.w true = y at *
  go_enter Tryz.func72, Tryz.ntmps72
  go_upto_region 11 with (go_at_call 131; refine HQ.out.mono ?_; rintro e w1 ⟨rfl, hb1⟩)
  have HCW := Lib.hid ((H0.out.new hb1).new (Below.refl _ _).drew)
  clear c0 z0 hb1 c2
  refine wp_region_held_drew (S := fun w' => w'.cell? ⟨B, 1, none⟩ = some (.int .u32 (K.a : Int))) (by kernel_rfl) ?_ (fun hHeld => ?_)
  · exact HCW.out.b1
  refine tA 0 ⟨some 43, .move (.tmp 0), 64, "ref.go:76", #[], none⟩ ?vd11m1 ?rd11m1
  (try simp only [Act.put, tC, tD, tE])
  refine tA 1 ⟨some 44, .move (.tmp 1), 34, "ref.go:76", #[], none⟩ ?vd11m2 ?rd11m2
  (try simp only [Act.put, tC, tD, tE])
  refine tA 2 ⟨some 45, .move (.tmp 0), 64, "ref.go:76", #[], none⟩ ?vd11m3 ?rd11m3
  (try simp only [Act.put, tC, tD, tE])
  refine tA 3 ⟨some 46, .nilCheck (.tmp 45), 0, "ref.go:76", #[⟨2, .data⟩], none⟩ ?vd11m4 ?rd11m4
  (try simp only [Act.put, tC, tD, tE])
  refine tA 4 ⟨some 47, .fieldAddr 176 (.tmp 46) 1, 0, "ref.go:76", #[⟨3, .data⟩], none⟩ ?vd11m5 ?rd11m5
  (try simp only [Act.put, tC, tD, tE])
  refine tA 5 ⟨some 48, .load 40 (.tmp 47), 40, "ref.go:76", #[⟨4, .data⟩], none⟩ ?vd11m6 ?rd11m6
  (try simp only [Act.put, tC, tD, tE])
  refine tA 6 ⟨some 49, .move (.tmp 0), 64, "ref.go:76", #[], none⟩ ?vd11m7 ?rd11m7
  (try simp only [Act.put, tC, tD, tE])
  refine tA 7 ⟨some 50, .nilCheck (.tmp 49), 0, "ref.go:76", #[⟨6, .data⟩], none⟩ ?vd11m8 ?rd11m8
  (try simp only [Act.put, tC, tD, tE])
  refine tA 8 ⟨some 51, .fieldAddr 176 (.tmp 50) 2, 0, "ref.go:76", #[⟨7, .data⟩], none⟩ ?vd11m9 ?rd11m9
  (try simp only [Act.put, tC, tD, tE])
  refine tA 10 ⟨some 53, .move (.tmp 5), 22, "ref.go:76", #[], none⟩ ?vd11m10 ?rd11m10
  (try simp only [Act.put, tC, tD, tE])
  refine wpAnyH_ready (rs := [9]) (by kernel_rfl) (by simp) ?_
  refine AllReadyH.cons (o := ⟨some 52, .load 22 (.tmp 51), 22, "ref.go:76", #[⟨8, .data⟩], none⟩) rfl (fun Kq hKq => ?_) AllReadyH.nil
  (first | (have y2 := H3.out.b2; go_simp; clear y2) | (have y2 := HCW.out.b2; go_simp; clear y2))
  refine hKq.out _ _ ?_ (fun hHeld => ?_)
  · exact hHeld
  clear hKq Kq
  (try simp only [Act.put, tC, tD, tE])
  refine wpAnyH_ready (rs := [11]) (by kernel_rfl) (by simp) ?_
  refine AllReadyH.cons (o := ⟨some 54, .call ⟨.value (.func 49), #[.tmp 44, .tmp 48, .tmp 52, .tmp 53], #[34, 40, 22, 22]⟩, 136, "ref.go:76", #[⟨1, .data⟩, ⟨5, .data⟩, ⟨9, .data⟩, ⟨10, .data⟩], none⟩) rfl (fun Kq hKq => ?_) AllReadyH.nil
  go_simp
  (refine (HC.out _ HCW.out).mono ?_; rintro e w5 ⟨rfl, Y5, h5⟩; have H5 := Lib.hid h5; clear h5)
  refine hKq.out _ _ ?_ (fun hHeld => ?_)
  · exact H5.out.b1
  clear hKq Kq
  (try simp only [Act.put, tC, tD, tE])
  refine tA 12 ⟨some 42, .move (.tmp 54), 136, "ref.go:76", #[⟨11, .data⟩], none⟩ ?vd11m11 ?rd11m11
  (try simp only [Act.put, tC, tD, tE])
  refine tA 13 ⟨some 55, .extract (.tmp 42) 0, 22, "ref.go:76", #[⟨12, .data⟩], none⟩ ?vd11m12 ?rd11m12
  (try simp only [Act.put, tC, tD, tE])
  refine tA 14 ⟨some 56, .extract (.tmp 42) 1, 4, "ref.go:76", #[⟨12, .data⟩, ⟨17, .gcOnly .lateStores⟩], none⟩ ?vd11m13 ?rd11m13
  (try simp only [Act.put, tC, tD, tE])
  refine tA 15 ⟨some 57, .nilCheck (.tmp 43), 0, "ref.go:76", #[⟨0, .data⟩, ⟨0, .phase⟩, ⟨1, .phase⟩, ⟨2, .phase⟩, ⟨3, .phase⟩, ⟨4, .phase⟩, ⟨5, .phase⟩, ⟨6, .phase⟩, ⟨7, .phase⟩, ⟨8, .phase⟩, ⟨9, .phase⟩, ⟨10, .phase⟩, ⟨11, .phase⟩, ⟨12, .phase⟩, ⟨13, .phase⟩, ⟨14, .textOnly .lateStores⟩], none⟩ ?vd11m14 ?rd11m14
  (try simp only [Act.put, tC, tD, tE])
  refine tA 16 ⟨some 58, .fieldAddr 176 (.tmp 57) 2, 0, "ref.go:76", #[⟨15, .data⟩, ⟨0, .phase⟩, ⟨1, .phase⟩, ⟨2, .phase⟩, ⟨3, .phase⟩, ⟨4, .phase⟩, ⟨5, .phase⟩, ⟨6, .phase⟩, ⟨7, .phase⟩, ⟨8, .phase⟩, ⟨9, .phase⟩, ⟨10, .phase⟩, ⟨11, .phase⟩, ⟨12, .phase⟩, ⟨13, .phase⟩, ⟨14, .textOnly .lateStores⟩], none⟩ ?vd11m15 ?rd11m15
  (try simp only [Act.put, tC, tD, tE])
  refine wpAnyH_ready (rs := [17]) (by kernel_rfl) (by simp) ?_
  refine AllReadyH.cons (o := ⟨none, .store 22 (.tmp 58) (.tmp 55), 0, "ref.go:76", #[⟨16, .data⟩, ⟨13, .data⟩, ⟨11, .chain⟩, ⟨0, .phase⟩, ⟨1, .phase⟩, ⟨2, .phase⟩, ⟨3, .phase⟩, ⟨4, .phase⟩, ⟨5, .phase⟩, ⟨6, .phase⟩, ⟨7, .phase⟩, ⟨8, .phase⟩, ⟨9, .phase⟩, ⟨10, .phase⟩, ⟨11, .phase⟩, ⟨12, .phase⟩, ⟨13, .phase⟩, ⟨14, .textOnly .lateStores⟩], none⟩) rfl (fun Kq hKq => ?_) AllReadyH.nil
  (have y2 := H5.out.b2; have f2 := H5.out.fz 2; go_simp; have H6 := Lib.hid (H5.out.word x); clear y2 f2; generalize w5.setCell ⟨B, 2, none⟩ (.int .u64 (x : Int)) = w6 at *)
  refine hKq.out _ _ ?_ (fun hHeld => ?_)
  · exact H6.out.b1
  clear hKq Kq
  (try simp only [Act.put, tC, tD, tE])
  refine tA 18 ⟨some 4, .assign (.tmp 56), 4, "ref.go:76", #[⟨14, .data⟩, ⟨17, .chain⟩, ⟨0, .phase⟩, ⟨1, .phase⟩, ⟨2, .phase⟩, ⟨3, .phase⟩, ⟨4, .phase⟩, ⟨5, .phase⟩, ⟨6, .phase⟩, ⟨7, .phase⟩, ⟨8, .phase⟩, ⟨9, .phase⟩, ⟨10, .phase⟩, ⟨11, .phase⟩, ⟨12, .phase⟩, ⟨13, .phase⟩, ⟨14, .phase⟩, ⟨15, .phase⟩, ⟨16, .phase⟩, ⟨17, .phase⟩], none⟩ ?vd11m16 ?rd11m16
  (try simp only [Act.put, tC, tD, tE])
  refine wpAnyH_done (by kernel_rfl) ?_ _
  clear hHeld
  by_cases e : x = K.w
  · have hd1 : decide (x = K.w) = true := decide_eq_true e
    rw [hd1]
    have y2 := H6.out.b2; have f2 := H6.out.fz 2
    have H7 := Lib.hid (H6.out.word y)
    have HF := Lib.hid (fun W => HT.out W e)
    clear hd1 e
    go_upto_region 15 with (fail)
    generalize w6.setCell ⟨B, 2, none⟩ (.int .u64 (y : Int)) = w7 at *
    have HSK := Lib.hid (seek_r H7.out HYL.out)
    clear y2 f2
    go_wp2_with (go_at_call 132; refine HSK.out.mono ?_; rintro e w8 ⟨rfl, h8⟩; have H8 := Lib.hid h8; clear h8)
    go_end0
    exact ⟨rfl, HF.out _ H8.out⟩
  · have hd1 : decide (x = K.w) = false := decide_eq_false e
    rw [hd1]
    have HLK := Lib.hid (look_r H6.out HXL.out)
    have HF := Lib.hid (fun W Y' => HN.out W Y' e)
    clear hd1 e
    go_wp2_with (go_at_call 130; refine HLK.out.mono ?_; rintro e w7 ⟨rfl, h7⟩; have H7 := Lib.hid h7; clear h7)
    (try simp only [Exit.inBlock, Exit.then])
    refine bodyPost_ret (results_none rfl _ _ _) rfl ?_
    exact ⟨rfl, HF.out _ Y5 H7.out⟩
theorem gstep4 (h : Wg w0 w base RB M l r j B K Y) (ok : FrOk M K) (hl : K.ln = 4) : Calls Tryz.prog 72 #[Pw B, Pw RB] w fun e w' => e = .returned (.tuple #[]) ∧ SteppedG w0 w' base RB M l r j B K := by
  obtain ⟨x, hx⟩ : ∃ x, x = S2.look M.L K.a := ⟨_, rfl⟩
  have HXL : Hid (x < 18446744073709551616) := Lib.hid (by rw [hx]; exact rg_look h.pg K.a)
  have HT : Hid (∀ W Y', x = K.w → Wg w0 W base RB (M.acc 3 K.a (S2.casV x K.w (wq K.w false))) l r j B ({ K with w := x, ln := 0 }) Y' → SteppedG w0 W base RB M l r j B K) := Lib.hid (fun W Y' e h' => by
    unfold SteppedG
    rw [show fstepM M K = _ from by simp only [fstepM, hl]; rfl, show fstepK M K = _ from by simp only [fstepK, hl]; rfl, ← hx, if_pos e, if_pos e]
    exact ⟨Y', h'.recast _ (by rw [e]; rfl)⟩)
  have HN : Hid (∀ W, ¬ x = K.w → SeekG w0 base RB (M.acc 3 K.a (S2.casV x K.w (wq K.w false))) l r j B ({ K with w := x, ln := 0 }) W → SteppedG w0 W base RB M l r j B K) := Lib.hid (fun W e h' => by
    obtain ⟨Y', h'⟩ := h'
    unfold SteppedG
    rw [show fstepM M K = _ from by simp only [fstepM, hl]; rfl, show fstepK M K = _ from by simp only [fstepK, hl]; rfl, ← hx, if_neg e, if_neg e]
    exact ⟨Y', h'.recast _ rfl⟩)
  have HC : Hid (∀ W, Wg w0 W base RB M l r j B K Y → Calls Tryz.prog 49 #[Pw RB, .int .u32 (K.a : Int), .int .u64 (K.w : Int), .int .u64 ((wq K.w false : Nat) : Int)] W fun e w' => e = .returned (.tuple #[.int .u64 (x : Int), .bool (decide (x = K.w))]) ∧ ∃ Y', Wg w0 w' base RB (M.acc 3 K.a (S2.casV x K.w (wq K.w false))) l r j B K Y') := Lib.hid (fun W hW => by
    have := hW.pg.cas ok.a (u := K.w) (v := wq K.w false) (wq_lt _ _) ok.n
    rw [← hx] at this
    refine this.mono ?_
    rintro e w' ⟨rfl, Y', h'⟩
    exact ⟨rfl, Y', h', hW.hj⟩)
  have HQ := Lib.hid (queued_r (h.new (Below.refl _ _).drew) ok.w false)
  clear hx
  have c0 := h.b0; have z0 := h.fz 0
  rw [hl] at c0
  have H0 := Lib.hid h
  have HOK := Lib.hid ok
  clear h ok hl
  have HB := Lib.hid (H0.out.new (Below.refl _ _).drew)
  generalize wq K.w false = y at *
  go_enter Tryz.func72, Tryz.ntmps72
  go_upto_region 17 with (fail)
  clear c0 z0
  refine wp_region_held_drew (S := fun w' => w'.cell? ⟨B, 1, none⟩ = some (.int .u32 (K.a : Int))) (by kernel_rfl) ?_ (fun hHeld => ?_)
  · exact HB.out.b1
  refine tA 0 ⟨some 73, .move (.tmp 0), 64, "ref.go:84", #[], none⟩ ?vd17m1 ?rd17m1
  (try simp only [Act.put, tC, tD, tE])
  refine tA 1 ⟨some 74, .move (.tmp 1), 34, "ref.go:84", #[], none⟩ ?vd17m2 ?rd17m2
  (try simp only [Act.put, tC, tD, tE])
  refine tA 2 ⟨some 75, .move (.tmp 0), 64, "ref.go:84", #[], none⟩ ?vd17m3 ?rd17m3
  (try simp only [Act.put, tC, tD, tE])
  refine tA 3 ⟨some 76, .nilCheck (.tmp 75), 0, "ref.go:84", #[⟨2, .data⟩], none⟩ ?vd17m4 ?rd17m4
  (try simp only [Act.put, tC, tD, tE])
  refine tA 4 ⟨some 77, .fieldAddr 176 (.tmp 76) 1, 0, "ref.go:84", #[⟨3, .data⟩], none⟩ ?vd17m5 ?rd17m5
  (try simp only [Act.put, tC, tD, tE])
  refine tA 5 ⟨some 78, .load 40 (.tmp 77), 40, "ref.go:84", #[⟨4, .data⟩], none⟩ ?vd17m6 ?rd17m6
  (try simp only [Act.put, tC, tD, tE])
  refine tA 6 ⟨some 79, .move (.tmp 0), 64, "ref.go:84", #[], none⟩ ?vd17m7 ?rd17m7
  (try simp only [Act.put, tC, tD, tE])
  refine tA 7 ⟨some 80, .nilCheck (.tmp 79), 0, "ref.go:84", #[⟨6, .data⟩], none⟩ ?vd17m8 ?rd17m8
  (try simp only [Act.put, tC, tD, tE])
  refine tA 8 ⟨some 81, .fieldAddr 176 (.tmp 80) 2, 0, "ref.go:84", #[⟨7, .data⟩], none⟩ ?vd17m9 ?rd17m9
  (try simp only [Act.put, tC, tD, tE])
  refine tA 10 ⟨some 83, .move (.tmp 0), 64, "ref.go:84", #[], none⟩ ?vd17m10 ?rd17m10
  (try simp only [Act.put, tC, tD, tE])
  apply merge (S := fun W => Wg w0 W base RB M l r j B K Y ∧ W.cell? ⟨B, 1, none⟩ = some (.int .u32 (K.a : Int)))
  · intro REST
    refine wpAnyH_ready (rs := [9, 11]) (by kernel_rfl) (by simp) ?_
    refine AllReadyH.cons (o := ⟨some 82, .load 22 (.tmp 81), 22, "ref.go:84", #[⟨8, .data⟩], none⟩) rfl (fun Kq hKq => ?_) ?_
    · (first | (have y2 := H3.out.b2; go_simp; clear y2) | (have y2 := HB.out.b2; go_simp; clear y2))
      refine hKq.out _ _ ?_ (fun hHeld => ?_)
      · exact hHeld
      clear hKq Kq
      (try simp only [Act.put, tC, tD, tE])
      refine wpAnyH_ready (rs := [11]) (by kernel_rfl) (by simp) ?_
      refine AllReadyH.cons (o := ⟨some 84, .call ⟨.value (.func 131), #[.tmp 83, .const (.bool false)], #[64, 4]⟩, 22, "ref.go:84", #[⟨10, .data⟩], none⟩) rfl (fun Kq hKq => ?_) AllReadyH.nil
      go_simp
      (refine HQ.out.mono ?_; rintro e w3 ⟨rfl, hb3⟩; have H3 := Lib.hid (HB.out.new hb3); clear hb3)
      refine hKq.out _ _ ?_ (fun hHeld => ?_)
      · exact H3.out.b1
      clear hKq Kq
      (try simp only [Act.put, tC, tD, tE])
      exact REST _ ⟨H3.out, hHeld⟩
    refine AllReadyH.cons (o := ⟨some 84, .call ⟨.value (.func 131), #[.tmp 83, .const (.bool false)], #[64, 4]⟩, 22, "ref.go:84", #[⟨10, .data⟩], none⟩) rfl (fun Kq hKq => ?_) AllReadyH.nil
    go_simp
    (refine HQ.out.mono ?_; rintro e w3 ⟨rfl, hb3⟩; have H3 := Lib.hid (HB.out.new hb3); clear hb3)
    refine hKq.out _ _ ?_ (fun hHeld => ?_)
    · exact H3.out.b1
    clear hKq Kq
    (try simp only [Act.put, tC, tD, tE])
    refine wpAnyH_ready (rs := [9]) (by kernel_rfl) (by simp) ?_
    refine AllReadyH.cons (o := ⟨some 82, .load 22 (.tmp 81), 22, "ref.go:84", #[⟨8, .data⟩], none⟩) rfl (fun Kq hKq => ?_) AllReadyH.nil
    (first | (have y2 := H3.out.b2; go_simp; clear y2) | (have y2 := HB.out.b2; go_simp; clear y2))
    refine hKq.out _ _ ?_ (fun hHeld => ?_)
    · exact hHeld
    clear hKq Kq
    (try simp only [Act.put, tC, tD, tE])
    exact REST _ ⟨H3.out, hHeld⟩
  intro wRd1711 hT
  have hHeld := hT.2
  have HCW := Lib.hid hT.1
  clear hT
  refine wpAnyH_ready (rs := [12]) (by kernel_rfl) (by simp) ?_
  refine AllReadyH.cons (o := ⟨some 85, .call ⟨.value (.func 49), #[.tmp 74, .tmp 78, .tmp 82, .tmp 84], #[34, 40, 22, 22]⟩, 136, "ref.go:84", #[⟨1, .data⟩, ⟨5, .data⟩, ⟨9, .data⟩, ⟨11, .data⟩, ⟨11, .chain⟩], none⟩) rfl (fun Kq hKq => ?_) AllReadyH.nil
  go_simp
  (refine (HC.out _ HCW.out).mono ?_; rintro e w5 ⟨rfl, Y5, h5⟩; have H5 := Lib.hid h5; clear h5)
  refine hKq.out _ _ ?_ (fun hHeld => ?_)
  · exact H5.out.b1
  clear hKq Kq
  (try simp only [Act.put, tC, tD, tE])
  refine tA 13 ⟨some 72, .move (.tmp 85), 136, "ref.go:84", #[⟨12, .data⟩], none⟩ ?vd17m12 ?rd17m12
  (try simp only [Act.put, tC, tD, tE])
  refine tA 14 ⟨some 86, .extract (.tmp 72) 0, 22, "ref.go:84", #[⟨13, .data⟩], none⟩ ?vd17m13 ?rd17m13
  (try simp only [Act.put, tC, tD, tE])
  refine tA 15 ⟨some 87, .extract (.tmp 72) 1, 4, "ref.go:84", #[⟨13, .data⟩, ⟨18, .gcOnly .lateStores⟩], none⟩ ?vd17m14 ?rd17m14
  (try simp only [Act.put, tC, tD, tE])
  refine tA 16 ⟨some 88, .nilCheck (.tmp 73), 0, "ref.go:84", #[⟨0, .data⟩, ⟨0, .phase⟩, ⟨1, .phase⟩, ⟨2, .phase⟩, ⟨3, .phase⟩, ⟨4, .phase⟩, ⟨5, .phase⟩, ⟨6, .phase⟩, ⟨7, .phase⟩, ⟨8, .phase⟩, ⟨9, .phase⟩, ⟨10, .phase⟩, ⟨11, .phase⟩, ⟨12, .phase⟩, ⟨13, .phase⟩, ⟨14, .phase⟩, ⟨15, .textOnly .lateStores⟩], none⟩ ?vd17m15 ?rd17m15
  (try simp only [Act.put, tC, tD, tE])
  refine tA 17 ⟨some 89, .fieldAddr 176 (.tmp 88) 2, 0, "ref.go:84", #[⟨16, .data⟩, ⟨0, .phase⟩, ⟨1, .phase⟩, ⟨2, .phase⟩, ⟨3, .phase⟩, ⟨4, .phase⟩, ⟨5, .phase⟩, ⟨6, .phase⟩, ⟨7, .phase⟩, ⟨8, .phase⟩, ⟨9, .phase⟩, ⟨10, .phase⟩, ⟨11, .phase⟩, ⟨12, .phase⟩, ⟨13, .phase⟩, ⟨14, .phase⟩, ⟨15, .textOnly .lateStores⟩], none⟩ ?vd17m16 ?rd17m16
  (try simp only [Act.put, tC, tD, tE])
  refine wpAnyH_ready (rs := [18]) (by kernel_rfl) (by simp) ?_
  refine AllReadyH.cons (o := ⟨none, .store 22 (.tmp 89) (.tmp 86), 0, "ref.go:84", #[⟨17, .data⟩, ⟨14, .data⟩, ⟨12, .chain⟩, ⟨0, .phase⟩, ⟨1, .phase⟩, ⟨2, .phase⟩, ⟨3, .phase⟩, ⟨4, .phase⟩, ⟨5, .phase⟩, ⟨6, .phase⟩, ⟨7, .phase⟩, ⟨8, .phase⟩, ⟨9, .phase⟩, ⟨10, .phase⟩, ⟨11, .phase⟩, ⟨12, .phase⟩, ⟨13, .phase⟩, ⟨14, .phase⟩, ⟨15, .textOnly .lateStores⟩], none⟩) rfl (fun Kq hKq => ?_) AllReadyH.nil
  (have y2 := H5.out.b2; have f2 := H5.out.fz 2; go_simp; have H6 := Lib.hid (H5.out.word x); clear y2 f2; generalize w5.setCell ⟨B, 2, none⟩ (.int .u64 (x : Int)) = w6 at *)
  refine hKq.out _ _ ?_ (fun hHeld => ?_)
  · exact H6.out.b1
  clear hKq Kq
  (try simp only [Act.put, tC, tD, tE])
  refine tA 19 ⟨some 4, .assign (.tmp 87), 4, "ref.go:84", #[⟨15, .data⟩, ⟨18, .chain⟩, ⟨0, .phase⟩, ⟨1, .phase⟩, ⟨2, .phase⟩, ⟨3, .phase⟩, ⟨4, .phase⟩, ⟨5, .phase⟩, ⟨6, .phase⟩, ⟨7, .phase⟩, ⟨8, .phase⟩, ⟨9, .phase⟩, ⟨10, .phase⟩, ⟨11, .phase⟩, ⟨12, .phase⟩, ⟨13, .phase⟩, ⟨14, .phase⟩, ⟨15, .phase⟩, ⟨16, .phase⟩, ⟨17, .phase⟩, ⟨18, .phase⟩], none⟩ ?vd17m17 ?rd17m17
  (try simp only [Act.put, tC, tD, tE])
  refine wpAnyH_done (by kernel_rfl) ?_ _
  clear hHeld
  have y0 := H6.out.b0; have f0 := H6.out.fz 0
  have H7 := Lib.hid (H6.out.line 0)
  by_cases e : x = K.w
  · have hd1 : decide (x = K.w) = true := decide_eq_true e
    rw [hd1]
    have HF := Lib.hid (fun W Y' => HT.out W Y' e)
    clear hd1 e
    go_wp2_with fail
    go_end0
    exact ⟨rfl, HF.out _ Y5 H7.out⟩
  · have hd1 : decide (x = K.w) = false := decide_eq_false e
    rw [hd1]
    have HF := Lib.hid (fun W => HN.out W e)
    clear hd1 e
    go_upto_region 20 with (fail)
    generalize w6.setCell ⟨B, 0, none⟩ (.int .i64 0) = w7 at *
    have H7' : Hid (Wg w0 w7 base RB (M.acc 3 K.a (S2.casV x K.w y)) l r j B { K with w := x, ln := 0 } Y5) := H7
    have HSK := Lib.hid (seek_r H7'.out HXL.out)
    clear y0 f0
    go_wp2_with (go_at_call 132; refine HSK.out.mono ?_; rintro e w8 ⟨rfl, h8⟩; have H8 := Lib.hid h8; clear h8)
    go_end0
    exact ⟨rfl, HF.out _ H8.out⟩
theorem gstep5 (h : Wg w0 w base RB M l r j B K Y) (ok : FrOk M K) (hl : K.ln = 5) : Calls Tryz.prog 72 #[Pw B, Pw RB] w fun e w' => e = .returned (.tuple #[]) ∧ SteppedG w0 w' base RB M l r j B K := by
  obtain ⟨x, hx⟩ : ∃ x, x = S2.look M.L K.a := ⟨_, rfl⟩
  have HXL : Hid (x < 18446744073709551616) := Lib.hid (by rw [hx]; exact rg_look h.pg K.a)
  have HT : Hid (∀ W Y', x = K.w → Wg w0 W base RB (M.acc 3 K.a (S2.casV x K.w 0)) l r j B ({ K with w := x, ln := 7 }) Y' → SteppedG w0 W base RB M l r j B K) := Lib.hid (fun W Y' e h' => by
    unfold SteppedG
    rw [show fstepM M K = _ from by simp only [fstepM, hl]; rfl, show fstepK M K = _ from by simp only [fstepK, hl]; rfl, ← hx, if_pos e, if_pos e]
    exact ⟨Y', h'.recast _ (by rw [e]; rfl)⟩)
  have HN : Hid (∀ W, ¬ x = K.w → SeekG w0 base RB (M.acc 3 K.a (S2.casV x K.w 0)) l r j B ({ K with w := x, ln := 7 }) W → SteppedG w0 W base RB M l r j B K) := Lib.hid (fun W e h' => by
    obtain ⟨Y', h'⟩ := h'
    unfold SteppedG
    rw [show fstepM M K = _ from by simp only [fstepM, hl]; rfl, show fstepK M K = _ from by simp only [fstepK, hl]; rfl, ← hx, if_neg e, if_neg e]
    exact ⟨Y', h'.recast _ rfl⟩)
  have HC : Hid (∀ W, Wg w0 W base RB M l r j B K Y → Calls Tryz.prog 49 #[Pw RB, .int .u32 (K.a : Int), .int .u64 (K.w : Int), .int .u64 0] W fun e w' => e = .returned (.tuple #[.int .u64 (x : Int), .bool (decide (x = K.w))]) ∧ ∃ Y', Wg w0 w' base RB (M.acc 3 K.a (S2.casV x K.w 0)) l r j B K Y') := Lib.hid (fun W hW => by
    have := hW.pg.cas ok.a (u := K.w) (v := 0) (by decide) ok.n
    rw [← hx] at this
    refine this.mono ?_
    rintro e w' ⟨rfl, Y', h'⟩
    exact ⟨rfl, Y', h', hW.hj⟩)
  clear hx
  have c0 := h.b0; have z0 := h.fz 0
  rw [hl] at c0
  have H0 := Lib.hid h
  have HOK := Lib.hid ok
  clear h ok hl
  have HCW := Lib.hid (H0.out.new (Below.refl _ _).drew)
  go_enter Tryz.func72, Tryz.ntmps72
  go_upto_region 22 with (fail)
  clear c0 z0
  refine wp_region_held_drew (S := fun w' => w'.cell? ⟨B, 1, none⟩ = some (.int .u32 (K.a : Int))) (by kernel_rfl) ?_ (fun hHeld => ?_)
  · exact HCW.out.b1
  refine tA 0 ⟨some 101, .move (.tmp 0), 64, "ref.go:90", #[], none⟩ ?vd22m1 ?rd22m1
  (try simp only [Act.put, tC, tD, tE])
  refine tA 1 ⟨some 102, .move (.tmp 1), 34, "ref.go:90", #[], none⟩ ?vd22m2 ?rd22m2
  (try simp only [Act.put, tC, tD, tE])
  refine tA 2 ⟨some 103, .move (.tmp 0), 64, "ref.go:90", #[], none⟩ ?vd22m3 ?rd22m3
  (try simp only [Act.put, tC, tD, tE])
  refine tA 3 ⟨some 104, .nilCheck (.tmp 103), 0, "ref.go:90", #[⟨2, .data⟩], none⟩ ?vd22m4 ?rd22m4
  (try simp only [Act.put, tC, tD, tE])
  refine tA 4 ⟨some 105, .fieldAddr 176 (.tmp 104) 1, 0, "ref.go:90", #[⟨3, .data⟩], none⟩ ?vd22m5 ?rd22m5
  (try simp only [Act.put, tC, tD, tE])
  refine tA 5 ⟨some 106, .load 40 (.tmp 105), 40, "ref.go:90", #[⟨4, .data⟩], none⟩ ?vd22m6 ?rd22m6
  (try simp only [Act.put, tC, tD, tE])
  refine tA 6 ⟨some 107, .move (.tmp 0), 64, "ref.go:90", #[], none⟩ ?vd22m7 ?rd22m7
  (try simp only [Act.put, tC, tD, tE])
  refine tA 7 ⟨some 108, .nilCheck (.tmp 107), 0, "ref.go:90", #[⟨6, .data⟩], none⟩ ?vd22m8 ?rd22m8
  (try simp only [Act.put, tC, tD, tE])
  refine tA 8 ⟨some 109, .fieldAddr 176 (.tmp 108) 2, 0, "ref.go:90", #[⟨7, .data⟩], none⟩ ?vd22m9 ?rd22m9
  (try simp only [Act.put, tC, tD, tE])
  refine wpAnyH_ready (rs := [9]) (by kernel_rfl) (by simp) ?_
  refine AllReadyH.cons (o := ⟨some 110, .load 22 (.tmp 109), 22, "ref.go:90", #[⟨8, .data⟩], none⟩) rfl (fun Kq hKq => ?_) AllReadyH.nil
  (first | (have y2 := H3.out.b2; go_simp; clear y2) | (have y2 := HCW.out.b2; go_simp; clear y2))
  refine hKq.out _ _ ?_ (fun hHeld => ?_)
  · exact hHeld
  clear hKq Kq
  (try simp only [Act.put, tC, tD, tE])
  refine wpAnyH_ready (rs := [10]) (by kernel_rfl) (by simp) ?_
  refine AllReadyH.cons (o := ⟨some 111, .call ⟨.value (.func 49), #[.tmp 102, .tmp 106, .tmp 110, .const (.int .u64 0)], #[34, 40, 22, 22]⟩, 136, "ref.go:90", #[⟨1, .data⟩, ⟨5, .data⟩, ⟨9, .data⟩], none⟩) rfl (fun Kq hKq => ?_) AllReadyH.nil
  go_simp
  (refine (HC.out _ HCW.out).mono ?_; rintro e w5 ⟨rfl, Y5, h5⟩; have H5 := Lib.hid h5; clear h5)
  refine hKq.out _ _ ?_ (fun hHeld => ?_)
  · exact H5.out.b1
  clear hKq Kq
  (try simp only [Act.put, tC, tD, tE])
  refine tA 11 ⟨some 100, .move (.tmp 111), 136, "ref.go:90", #[⟨10, .data⟩], none⟩ ?vd22m10 ?rd22m10
  (try simp only [Act.put, tC, tD, tE])
  refine tA 12 ⟨some 112, .extract (.tmp 100) 0, 22, "ref.go:90", #[⟨11, .data⟩], none⟩ ?vd22m11 ?rd22m11
  (try simp only [Act.put, tC, tD, tE])
  refine tA 13 ⟨some 113, .extract (.tmp 100) 1, 4, "ref.go:90", #[⟨11, .data⟩, ⟨16, .gcOnly .lateStores⟩], none⟩ ?vd22m12 ?rd22m12
  (try simp only [Act.put, tC, tD, tE])
  refine tA 14 ⟨some 114, .nilCheck (.tmp 101), 0, "ref.go:90", #[⟨0, .data⟩, ⟨0, .phase⟩, ⟨1, .phase⟩, ⟨2, .phase⟩, ⟨3, .phase⟩, ⟨4, .phase⟩, ⟨5, .phase⟩, ⟨6, .phase⟩, ⟨7, .phase⟩, ⟨8, .phase⟩, ⟨9, .phase⟩, ⟨10, .phase⟩, ⟨11, .phase⟩, ⟨12, .phase⟩, ⟨13, .textOnly .lateStores⟩], none⟩ ?vd22m13 ?rd22m13
  (try simp only [Act.put, tC, tD, tE])
  refine tA 15 ⟨some 115, .fieldAddr 176 (.tmp 114) 2, 0, "ref.go:90", #[⟨14, .data⟩, ⟨0, .phase⟩, ⟨1, .phase⟩, ⟨2, .phase⟩, ⟨3, .phase⟩, ⟨4, .phase⟩, ⟨5, .phase⟩, ⟨6, .phase⟩, ⟨7, .phase⟩, ⟨8, .phase⟩, ⟨9, .phase⟩, ⟨10, .phase⟩, ⟨11, .phase⟩, ⟨12, .phase⟩, ⟨13, .textOnly .lateStores⟩], none⟩ ?vd22m14 ?rd22m14
  (try simp only [Act.put, tC, tD, tE])
  refine wpAnyH_ready (rs := [16]) (by kernel_rfl) (by simp) ?_
  refine AllReadyH.cons (o := ⟨none, .store 22 (.tmp 115) (.tmp 112), 0, "ref.go:90", #[⟨15, .data⟩, ⟨12, .data⟩, ⟨10, .chain⟩, ⟨0, .phase⟩, ⟨1, .phase⟩, ⟨2, .phase⟩, ⟨3, .phase⟩, ⟨4, .phase⟩, ⟨5, .phase⟩, ⟨6, .phase⟩, ⟨7, .phase⟩, ⟨8, .phase⟩, ⟨9, .phase⟩, ⟨10, .phase⟩, ⟨11, .phase⟩, ⟨12, .phase⟩, ⟨13, .textOnly .lateStores⟩], none⟩) rfl (fun Kq hKq => ?_) AllReadyH.nil
  (have y2 := H5.out.b2; have f2 := H5.out.fz 2; go_simp; have H6 := Lib.hid (H5.out.word x); clear y2 f2; generalize w5.setCell ⟨B, 2, none⟩ (.int .u64 (x : Int)) = w6 at *)
  refine hKq.out _ _ ?_ (fun hHeld => ?_)
  · exact H6.out.b1
  clear hKq Kq
  (try simp only [Act.put, tC, tD, tE])
  refine tA 17 ⟨some 4, .assign (.tmp 113), 4, "ref.go:90", #[⟨13, .data⟩, ⟨16, .chain⟩, ⟨0, .phase⟩, ⟨1, .phase⟩, ⟨2, .phase⟩, ⟨3, .phase⟩, ⟨4, .phase⟩, ⟨5, .phase⟩, ⟨6, .phase⟩, ⟨7, .phase⟩, ⟨8, .phase⟩, ⟨9, .phase⟩, ⟨10, .phase⟩, ⟨11, .phase⟩, ⟨12, .phase⟩, ⟨13, .phase⟩, ⟨14, .phase⟩, ⟨15, .phase⟩, ⟨16, .phase⟩], none⟩ ?vd22m15 ?rd22m15
  (try simp only [Act.put, tC, tD, tE])
  refine wpAnyH_done (by kernel_rfl) ?_ _
  clear hHeld
  have y0 := H6.out.b0; have f0 := H6.out.fz 0
  have H7 := Lib.hid (H6.out.line 7)
  by_cases e : x = K.w
  · have hd1 : decide (x = K.w) = true := decide_eq_true e
    rw [hd1]
    have HF := Lib.hid (fun W Y' => HT.out W Y' e)
    clear hd1 e
    go_wp2_with fail
    go_end0
    exact ⟨rfl, HF.out _ Y5 H7.out⟩
  · have hd1 : decide (x = K.w) = false := decide_eq_false e
    rw [hd1]
    have HF := Lib.hid (fun W => HN.out W e)
    clear hd1 e
    go_upto_region 25 with (fail)
    generalize w6.setCell ⟨B, 0, none⟩ (.int .i64 7) = w7 at *
    have H7' : Hid (Wg w0 w7 base RB (M.acc 3 K.a (S2.casV x K.w 0)) l r j B { K with w := x, ln := 7 } Y5) := H7
    have HSK := Lib.hid (seek_r H7'.out HXL.out)
    clear y0 f0
    go_wp2_with (go_at_call 132; refine HSK.out.mono ?_; rintro e w8 ⟨rfl, h8⟩; have H8 := Lib.hid h8; clear h8)
    go_end0
    exact ⟨rfl, HF.out _ H8.out⟩
theorem step_g (h : Wg w0 w base RB M l r j B K Y) (ok : FrOk M K) (h7 : K.ln ≤ 7) (hby : S2.Byt M.L) : Calls Tryz.prog 72 #[Pw B, Pw RB] w fun e w' => e = .returned (.tuple #[]) ∧ SteppedG w0 w' base RB M l r j B K := by
  have hk : K.ln = 0 ∨ K.ln = 1 ∨ K.ln = 2 ∨ K.ln = 3 ∨ K.ln = 4 ∨ K.ln = 5 ∨ K.ln = 6 ∨ K.ln = 7 := by omega
  rcases hk with hk | hk | hk | hk | hk | hk | hk | hk
  · exact gstep0 h ok hk
  · exact gstep1 h ok hk
  · exact gstep2 h ok hk hby
  · exact gstep3 h ok hk
  · exact gstep4 h ok hk
  · exact gstep5 h ok hk
  · exact gstep6 h ok hk
  · exact gstep7 h ok hk
end
end Go.Proofs.YtlflagjnlclffaaGreat.S14
