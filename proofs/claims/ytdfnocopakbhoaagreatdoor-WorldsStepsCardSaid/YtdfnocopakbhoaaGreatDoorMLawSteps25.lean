/- Texts of this seat, one behind the other. -/
import Derived.Test.YtdfnocopakbhoaaGreatDoorMLawSteps4
import Derived.Test.YtdfnocopakbhoaaGreatDoorMLawSteps24
import Derived.Lib.SmallJoins
import Derived.ProofKit
import Derived.OpenShut
import Derived.Deep.Slices
import Derived.Carry
namespace Go.Proofs.YtdfnocopakbhoaaGreatDoor
theorem laidOut : laidOutB Tryz.prog = true := by kernel_rfl
namespace S10
open Go.ChangeShapes Go.WideShapes Go.ChangeAt Go.RowKit Go.Deep
set_option maxRecDepth 100000
section
variable {H : Type} {enc : TypeId × Value → H} {W : World} {base : Nat} {sp : Nat → Bool} {held : Bool}
/-- One field of one cell, of a struct's cells. -/
theorem field_at {P : Program} {e : TypeId} {fs : Array Field} {fuel : Nat} {cs : List Value} {x : DataW H × List MemPlace} (he : P.underlying e = some (.struct fs)) (h : DataW.trod enc P W base sp held fuel e cs = some x)
    (j : Nat) (f : Field) (hj : fs[j]? = some f) (ho : f.offset = j) (h1 : P.cellsOf f.type = 1) (hc : j < P.cellsOf e) : ∃ v z m, cs[j]? = some v ∧ DataW.trod enc P W base sp held m f.type [v] = some z := by
  obtain ⟨xs, m, _, _, hlen, hxl, hf⟩ := DataW.trod_struct he h
  have hx := hf j f hj
  rw [ho, h1] at hx
  have hjx : j < xs.length := by rw [hxl]; exact (Array.getElem?_eq_some_iff.1 hj).1
  have hjc : j < cs.length := by omega
  have hd : (cs.drop j).take 1 = [cs[j]] := by rw [List.drop_eq_getElem_cons hjc]; rfl
  rw [hd, List.getElem?_eq_getElem hjx] at hx
  exact ⟨cs[j], xs[j], m, List.getElem?_eq_getElem hjc, hx⟩
theorem u_of {k : IntKind} {a : Int} (h0 : k.min = 0) (h : (Lit.int k a).wf = true) : ∃ n : Nat, a = n ∧ (n : Int) ≤ k.max := by
  simp [Lit.wf, h0] at h
  obtain ⟨n, rfl⟩ := Int.eq_ofNat_of_zero_le h.1
  exact ⟨n, rfl, h.2⟩
/-- A number's field. -/
theorem int_at {e t : TypeId} {k : IntKind} {fs : Array Field} {fuel : Nat} {cs : List Value} {x : DataW H × List MemPlace} (he : Tryz.prog.underlying e = some (.struct fs)) (h : DataW.trod enc Tryz.prog W base sp held fuel e cs = some x)
    (j : Nat) (f : Field) (hj : fs[j]? = some f) (ho : f.offset = j) (h1 : Tryz.prog.cellsOf f.type = 1) (hc : j < Tryz.prog.cellsOf e) (ht : f.type = t) (hu : Tryz.prog.underlying t = some (.int k)) : ∃ a : Int, cs[j]? = some (.int k a) ∧ (Lit.int k a).wf = true := by
  obtain ⟨v, z, m, hv, hz⟩ := field_at he h j f hj ho h1 hc
  rw [ht] at hz
  obtain ⟨a, e1, _, wa⟩ := DataW.trod_int hu hz
  simp at e1
  exact ⟨a, by rw [hv, e1], wa⟩
theorem num_at {e t : TypeId} {k : IntKind} {fs : Array Field} {fuel : Nat} {cs : List Value} {x : DataW H × List MemPlace} (he : Tryz.prog.underlying e = some (.struct fs)) (h : DataW.trod enc Tryz.prog W base sp held fuel e cs = some x)
    (j : Nat) (f : Field) (hj : fs[j]? = some f) (ho : f.offset = j) (h1 : Tryz.prog.cellsOf f.type = 1) (hc : j < Tryz.prog.cellsOf e) (ht : f.type = t) (hu : Tryz.prog.underlying t = some (.int k)) (h0 : k.min = 0) : ∃ n : Nat, cs[j]? = some (.int k n) ∧ (n : Int) ≤ k.max := by
  obtain ⟨a, e1, wa⟩ := int_at he h j f hj ho h1 hc ht hu
  obtain ⟨n, rfl, hn⟩ := u_of h0 wa
  exact ⟨n, e1, hn⟩
theorem spot_none {w : World} {a : Addr} {v : Value} (h : w.cell? a = some v) : a.spot = none := by
  unfold World.cell? at h
  cases hs : a.spot with
  | none => rfl
  | some s =>
    exfalso
    cases hb : w.heap[a.block]? with
    | none => simp [hb] at h
    | some x => cases x <;> simp [hb, hs] at h
theorem lies_ents {w : World} {g o : Nat} {D : List Ent} (h : ∀ i, i < D.length → w.cell? ⟨g, o + i * 3, none⟩ = some (.int .i64 D[i]!.t) ∧ w.cell? ⟨g, o + i * 3 + 1, none⟩ = some (.int .u32 D[i]!.k) ∧ w.cell? ⟨g, o + i * 3 + 2, none⟩ = some (.int .u64 D[i]!.z)) : Lies w g o (flat D) := fun j u e => by
  have hj := (List.getElem?_eq_some_iff.1 e).1
  rw [flat_len] at hj
  have hi : j / 3 < D.length := by omega
  obtain ⟨h0, h1, h2⟩ := h (j / 3) hi
  obtain ⟨f0, f1, f2⟩ := flat_get D (j / 3) hi
  have hr : j % 3 = 0 ∨ j % 3 = 1 ∨ j % 3 = 2 := by omega
  rcases hr with hr | hr | hr
  · rw [show j / 3 * 3 = j by omega] at h0 f0
    rw [f0] at e
    injection e with e
    rw [← e]; exact h0
  · rw [show j / 3 * 3 + 1 = j by omega] at f1
    rw [show o + j / 3 * 3 + 1 = o + j by omega] at h1
    rw [f1] at e
    injection e with e
    rw [← e]; exact h1
  · rw [show j / 3 * 3 + 2 = j by omega] at f2
    rw [show o + j / 3 * 3 + 2 = o + j by omega] at h2
    rw [f2] at e
    injection e with e
    rw [← e]; exact h2
/-- Entries that came in. -/
theorem open_ents {fuel : Nat} {cs : List Value} {x : DataW H × List MemPlace} (hf : DataW.trod enc Tryz.prog W 0 (fun _ => true) true fuel 136 cs = some x) :
    ∃ A c D, cs = [.slice A D.length c] ∧ D.length ≤ c ∧ c ≤ 9223372036854775807 ∧ Rd W W.heap.size A (flat D) ∧ Keys D := by
  rcases open_slice Tryz.underlying136 hf with ⟨hc, _⟩ | ⟨⟨lb, lo, spot⟩, len, cap, m, q, D, Pl, hc, _, hl, hm, hmm, _, hi⟩
  · exact ⟨none, 0, [], hc, Nat.le_refl _, by omega, Rd.nil, fun e he => by cases he⟩
  unfold maxLen at hm
  rcases Nat.eq_zero_or_pos len with rfl | hpos
  · exact ⟨_, cap, [], hc, hl, by omega, Rd.nil, fun e he => by cases he⟩
  have hnm : len ≤ m := by rw [hmm]; simp; exact hl
  have h5 : Tryz.prog.cellsOf 224 = 3 := by kernel_rfl
  have hs : spot = none := by
    obtain ⟨cs, hcs, ht⟩ := hi 0 (by omega)
    obtain ⟨_, hlen, hat⟩ := World.cells?_some hcs
    obtain ⟨k, c0, _⟩ := int_at (t := 3) (k := .i64) Tryz.underlying224 ht 0 _ rfl rfl (by kernel_rfl) (by rw [h5]; omega) rfl Tryz.underlying3
    rw [h5] at hat
    have g0 := (hat 0 (by omega)).trans c0
    have := spot_none g0
    simpa [Addr.add] using this
  subst hs
  have hall : ∀ i, i < len → ∃ y : Ent, (W.cell? ⟨lb, lo + i * 3, none⟩ = some (.int .i64 y.t) ∧ W.cell? ⟨lb, lo + i * 3 + 1, none⟩ = some (.int .u32 y.k) ∧ W.cell? ⟨lb, lo + i * 3 + 2, none⟩ = some (.int .u64 y.z)) ∧ ∃ k : Nat, y.k = (k : Int) ∧ k < 4294967296 := by
    intro i hin
    obtain ⟨cs, hcs, ht⟩ := hi i (by omega)
    obtain ⟨_, hlen, hat⟩ := World.cells?_some hcs
    obtain ⟨a, c0, _⟩ := int_at (t := 3) (k := .i64) Tryz.underlying224 ht 0 _ rfl rfl (by kernel_rfl) (by rw [h5]; omega) rfl Tryz.underlying3
    obtain ⟨b, c1, hb⟩ := num_at (t := 65) (k := .u32) Tryz.underlying224 ht 1 _ rfl rfl (by kernel_rfl) (by rw [h5]; omega) rfl Tryz.underlying65 rfl
    obtain ⟨z, c2, _⟩ := int_at (t := 22) (k := .u64) Tryz.underlying224 ht 2 _ rfl rfl (by kernel_rfl) (by rw [h5]; omega) rfl Tryz.underlying22
    rw [h5] at hat
    have g0 := (hat 0 (by omega)).trans c0
    have g1 := (hat 1 (by omega)).trans c1
    have g2 := (hat 2 (by omega)).trans c2
    rw [add_none, add_none] at g0 g1 g2
    rw [Nat.add_zero] at g0
    have hb' : (b : Int) ≤ 4294967295 := hb
    exact ⟨⟨a, b, z⟩, ⟨g0, g1, g2⟩, b, rfl, by omega⟩
  obtain ⟨Y, hY⟩ := choose_lt hall
  have hlD : ((List.range len).map Y).length = len := by simp
  refine ⟨some ⟨lb, lo, none⟩, cap, (List.range len).map Y, by rw [hlD]; exact hc, by omega, by omega, fun _ => ⟨lb, lo, rfl, World.block_lt_of_cell? W _ (hY 0 hpos).1.1, lies_ents fun i hi => ?_⟩, fun e he => ?_⟩
  · rw [hlD] at hi
    have : ((List.range len).map Y)[i]! = Y i := by rw [getElem!_pos _ i (by rw [hlD]; exact hi)]; simp
    rw [this]
    exact (hY i hi).1
  · obtain ⟨i, hi, rfl⟩ := List.mem_map.1 he
    exact (hY i (List.mem_range.1 hi)).2
theorem inI {a : Int} (h : (Lit.int .i64 a).wf = true) : InI a := by
  simp [Lit.wf, IntKind.min, IntKind.max, IntKind.bits, IntKind.signed] at h
  unfold InI; omega
end
end S10
namespace S3
open Go.ChangeShapes Go.WideShapes Go.ChangeAt Go.RowKit Go.Deep
theorem cells22 : Tryz.prog.cellsOf 22 = 1 := by kernel_rfl
section
variable {H : Type} {enc : TypeId × Value → H} {W : World}
theorem u64_of {a : Int} (h : (Lit.int .u64 a).wf = true) : ∃ n : Nat, a = n ∧ n ≤ 18446744073709551615 := by
  simp [Lit.wf, IntKind.min, IntKind.max, IntKind.bits, IntKind.signed] at h
  obtain ⟨n, rfl⟩ := Int.eq_ofNat_of_zero_le h.1
  exact ⟨n, rfl, by omega⟩
theorem spot_none {w : World} {a : Addr} {v : Value} (h : w.cell? a = some v) : a.spot = none := by
  unfold World.cell? at h
  cases hs : a.spot with
  | none => rfl
  | some s =>
    exfalso
    cases hb : w.heap[a.block]? with
    | none => simp [hb] at h
    | some x => cases x <;> simp [hb, hs] at h
theorem open_list {fuel : Nat} {cs : List Value} {x : DataW H × List MemPlace} (h : DataW.trod enc Tryz.prog W 0 (fun _ => true) true fuel 23 cs = some x) :
    ∃ A c L, cs = [.slice A L.length c] ∧ L.length ≤ c ∧ c ≤ 9223372036854775807 ∧ Rd W W.heap.size A L ∧ ∀ d ∈ L, d ≤ 18446744073709551615 := by
  rcases open_ints Tryz.underlying23 Tryz.underlying22 cells22 h with ⟨rfl, _⟩ | ⟨a, len, cap, zs, rfl, _, hl, hc, hzl, _, hcell, hwf⟩
  · exact ⟨none, 0, [], rfl, Nat.le_refl _, by omega, Rd.nil, by simp⟩
  · simp at hzl
    unfold maxLen at hc
    have hex : ∀ z ∈ zs.take len, ∃ n : Nat, z = n ∧ n ≤ 18446744073709551615 := fun z hz => u64_of (hwf z (List.mem_of_mem_take hz))
    have hlen : ((zs.take len).map Int.toNat).length = len := by simp; omega
    have hget : ∀ i, i < len → (((zs.take len).map Int.toNat)[i]! : Int) = zs.getD i 0 := fun i hi => by
      have h1 : i < ((zs.take len).map Int.toNat).length := by omega
      have h2 : i < zs.length := by omega
      rw [getElem!_pos _ i h1, List.getElem_map, List.getElem_take, List.getD_eq_getElem?_getD, List.getElem?_eq_getElem h2]
      obtain ⟨n, e, _⟩ := u64_of (hwf _ (List.getElem_mem h2))
      simp [e]
    refine ⟨some a, cap, (zs.take len).map Int.toNat, by rw [hlen], by omega, by omega, fun hp => ?_, fun d hd => ?_⟩
    · rw [hlen] at hp
      obtain ⟨b, o, spot⟩ := a
      have h0 := hcell 0 (by omega)
      have hs : spot = none := by
        have := spot_none h0
        simpa [Addr.add] using this
      subst hs
      refine ⟨b, o, rfl, ?_, fun i hi => ?_⟩
      · rw [add_none] at h0
        exact World.block_lt_of_cell? W _ h0
      · rw [hlen] at hi
        have h1 := hcell i (by omega)
        rw [add_none] at h1
        rw [h1]
        unfold uv
        rw [hget i hi]
    · obtain ⟨z, hz, rfl⟩ := List.mem_map.1 hd
      obtain ⟨n, rfl, hn⟩ := hex z hz
      simpa using hn
end
end S3
namespace S12
open Go.ChangeShapes Go.WideShapes Go.ChangeAt Go.RowKit Go.Deep
set_option maxRecDepth 100000
theorem nat_of {k : IntKind} {a : Int} {M : Nat} (h0 : k.min = 0) (h1 : k.max = (M : Int)) (h : (Lit.int k a).wf = true) : ∃ n : Nat, a = n ∧ n ≤ M := by
  obtain ⟨n, rfl, hn⟩ := S10.u_of h0 h
  exact ⟨n, rfl, by omega⟩
theorem u8_of {a : Int} (h : (Lit.int .u8 a).wf = true) : ∃ n : Nat, a = n ∧ n < 256 := by
  obtain ⟨n, e, hn⟩ := nat_of (M := 255) rfl rfl h
  exact ⟨n, e, by omega⟩
theorem u32_of {a : Int} (h : (Lit.int .u32 a).wf = true) : ∃ n : Nat, a = n ∧ n < 4294967296 := by
  obtain ⟨n, e, hn⟩ := nat_of (M := 4294967295) rfl rfl h
  exact ⟨n, e, by omega⟩
theorem u64_of {a : Int} (h : (Lit.int .u64 a).wf = true) : ∃ n : Nat, a = n ∧ n < 18446744073709551616 := by
  obtain ⟨n, e, hn⟩ := nat_of (M := 18446744073709551615) rfl rfl h
  exact ⟨n, e, by omega⟩
theorem sz65 : Tryz.prog.cellsOf 65 = 1 := by kernel_rfl
theorem sz22 : Tryz.prog.cellsOf 22 = 1 := by kernel_rfl
theorem sz67 : Tryz.prog.cellsOf 67 = 2 := by kernel_rfl
theorem store_cells {H : Type} {enc : TypeId × Value → H} {W : World} {fuel : Nat} {cs : List Value} {x : DataW H × List MemPlace} (h : DataW.trod enc Tryz.prog W 0 (fun _ => true) true fuel 67 cs = some x) :
    ∃ s0 s1, cs = [.int .u32 s0, .int .u64 s1] ∧ (Lit.int .u32 s0).wf = true ∧ (Lit.int .u64 s1).wf = true := by
  obtain ⟨xs, m, _, _, hlen, hxl, hf⟩ := DataW.trod_struct Tryz.underlying67 h
  rw [sz67] at hlen
  obtain ⟨a0, a1, rfl⟩ : ∃ a0 a1, cs = [a0, a1] := by
    match cs, hlen with
    | [a0, a1], _ => exact ⟨a0, a1, rfl⟩
  have sm : ∀ i, i < 2 → ∃ y, xs[i]? = some y := fun i hi => ⟨xs[i]'(by rw [hxl]; exact hi), List.getElem?_eq_getElem _⟩
  obtain ⟨y0, e0⟩ := sm 0 (by omega)
  have h0 : DataW.trod enc Tryz.prog W 0 (fun _ => true) true m 65 (List.take (Tryz.prog.cellsOf 65) [a0, a1]) = xs[0]? := hf 0 _ rfl
  rw [sz65, e0] at h0
  obtain ⟨y1, e1⟩ := sm 1 (by omega)
  have h1 : DataW.trod enc Tryz.prog W 0 (fun _ => true) true m 22 (List.take (Tryz.prog.cellsOf 22) [a1]) = xs[1]? := hf 1 _ rfl
  rw [sz22, e1] at h1
  obtain ⟨s0, q0, _, f0_0⟩ := DataW.trod_int Tryz.underlying65 h0
  simp at q0
  subst q0
  obtain ⟨s1, q1, _, f1_0⟩ := DataW.trod_int Tryz.underlying22 h1
  simp at q1
  subst q1
  exact ⟨s0, s1, rfl, f0_0, f1_0⟩
theorem store_open {H : Type} {enc : TypeId × Value → H} {W : World} {v : Value} {d : DataW H} {p : List MemPlace} {r : Reach} {b0 : Nat} (hv : Value.okWide Tryz.prog W r b0 67 v) (h : DataW.Trod enc Tryz.prog W 0 (fun _ => true) true 67 v d p) :
    ∃ s0 s1, v = .agg #[.int .u32 s0, .int .u64 s1] ∧ (Lit.int .u32 s0).wf = true ∧ (Lit.int .u64 s1).wf = true := by
  obtain ⟨cs, rfl, hsz⟩ := okWide_struct Tryz.underlying67 hv
  obtain ⟨fuel, ht⟩ := h
  obtain ⟨s0, s1, hc, f0, f1⟩ := store_cells ht
  refine ⟨s0, s1, ?_, f0, f1⟩
  obtain ⟨l⟩ := cs
  have e : l = _ := hc
  rw [e]
theorem sz3 : Tryz.prog.cellsOf 3 = 1 := by kernel_rfl
theorem sz69 : Tryz.prog.cellsOf 69 = 2 := by kernel_rfl
theorem place_cells {H : Type} {enc : TypeId × Value → H} {W : World} {fuel : Nat} {cs : List Value} {x : DataW H × List MemPlace} (h : DataW.trod enc Tryz.prog W 0 (fun _ => true) true fuel 69 cs = some x) :
    ∃ p0 p1, cs = [.int .i64 p0, .int .i64 p1] ∧ (Lit.int .i64 p0).wf = true ∧ (Lit.int .i64 p1).wf = true := by
  obtain ⟨xs, m, _, _, hlen, hxl, hf⟩ := DataW.trod_struct Tryz.underlying69 h
  rw [sz69] at hlen
  obtain ⟨a0, a1, rfl⟩ : ∃ a0 a1, cs = [a0, a1] := by
    match cs, hlen with
    | [a0, a1], _ => exact ⟨a0, a1, rfl⟩
  have sm : ∀ i, i < 2 → ∃ y, xs[i]? = some y := fun i hi => ⟨xs[i]'(by rw [hxl]; exact hi), List.getElem?_eq_getElem _⟩
  obtain ⟨y0, e0⟩ := sm 0 (by omega)
  have h0 : DataW.trod enc Tryz.prog W 0 (fun _ => true) true m 3 (List.take (Tryz.prog.cellsOf 3) [a0, a1]) = xs[0]? := hf 0 _ rfl
  rw [sz3, e0] at h0
  obtain ⟨y1, e1⟩ := sm 1 (by omega)
  have h1 : DataW.trod enc Tryz.prog W 0 (fun _ => true) true m 3 (List.take (Tryz.prog.cellsOf 3) [a1]) = xs[1]? := hf 1 _ rfl
  rw [sz3, e1] at h1
  obtain ⟨p0, q0, _, f0_0⟩ := DataW.trod_int Tryz.underlying3 h0
  simp at q0
  subst q0
  obtain ⟨p1, q1, _, f1_0⟩ := DataW.trod_int Tryz.underlying3 h1
  simp at q1
  subst q1
  exact ⟨p0, p1, rfl, f0_0, f1_0⟩
theorem place_open {H : Type} {enc : TypeId × Value → H} {W : World} {v : Value} {d : DataW H} {p : List MemPlace} {r : Reach} {b0 : Nat} (hv : Value.okWide Tryz.prog W r b0 69 v) (h : DataW.Trod enc Tryz.prog W 0 (fun _ => true) true 69 v d p) :
    ∃ p0 p1, v = .agg #[.int .i64 p0, .int .i64 p1] ∧ (Lit.int .i64 p0).wf = true ∧ (Lit.int .i64 p1).wf = true := by
  obtain ⟨cs, rfl, hsz⟩ := okWide_struct Tryz.underlying69 hv
  obtain ⟨fuel, ht⟩ := h
  obtain ⟨p0, p1, hc, f0, f1⟩ := place_cells ht
  refine ⟨p0, p1, ?_, f0, f1⟩
  obtain ⟨l⟩ := cs
  have e : l = _ := hc
  rw [e]
theorem sz5 : Tryz.prog.cellsOf 5 = 1 := by kernel_rfl
theorem sz71 : Tryz.prog.cellsOf 71 = 11 := by kernel_rfl
theorem act_cells {H : Type} {enc : TypeId × Value → H} {W : World} {fuel : Nat} {cs : List Value} {x : DataW H × List MemPlace} (h : DataW.trod enc Tryz.prog W 0 (fun _ => true) true fuel 71 cs = some x) :
    ∃ a0 a1 a2 a3 a4 a5 a6 a7 a8 a9 a10, cs = [.int .u8 a0, .int .i64 a1, .int .u8 a2, .int .u32 a3, .int .u64 a4, .int .i64 a5, .int .i64 a6, .int .i64 a7, .int .i64 a8, .int .u32 a9, .int .u64 a10] ∧ (Lit.int .u8 a0).wf = true ∧ (Lit.int .i64 a1).wf = true ∧ (Lit.int .u8 a2).wf = true ∧ (Lit.int .u32 a3).wf = true ∧ (Lit.int .u64 a4).wf = true ∧ (Lit.int .i64 a5).wf = true ∧ (Lit.int .i64 a6).wf = true ∧ (Lit.int .i64 a7).wf = true ∧ (Lit.int .i64 a8).wf = true ∧ (Lit.int .u32 a9).wf = true ∧ (Lit.int .u64 a10).wf = true := by
  obtain ⟨xs, m, _, _, hlen, hxl, hf⟩ := DataW.trod_struct Tryz.underlying71 h
  rw [sz71] at hlen
  obtain ⟨a0, a1, a2, a3, a4, a5, a6, a7, a8, a9, a10, rfl⟩ : ∃ a0 a1 a2 a3 a4 a5 a6 a7 a8 a9 a10, cs = [a0, a1, a2, a3, a4, a5, a6, a7, a8, a9, a10] := by
    match cs, hlen with
    | [a0, a1, a2, a3, a4, a5, a6, a7, a8, a9, a10], _ => exact ⟨a0, a1, a2, a3, a4, a5, a6, a7, a8, a9, a10, rfl⟩
  have sm : ∀ i, i < 9 → ∃ y, xs[i]? = some y := fun i hi => ⟨xs[i]'(by rw [hxl]; exact hi), List.getElem?_eq_getElem _⟩
  obtain ⟨y0, e0⟩ := sm 0 (by omega)
  have h0 : DataW.trod enc Tryz.prog W 0 (fun _ => true) true m 5 (List.take (Tryz.prog.cellsOf 5) [a0, a1, a2, a3, a4, a5, a6, a7, a8, a9, a10]) = xs[0]? := hf 0 _ rfl
  rw [sz5, e0] at h0
  obtain ⟨y1, e1⟩ := sm 1 (by omega)
  have h1 : DataW.trod enc Tryz.prog W 0 (fun _ => true) true m 3 (List.take (Tryz.prog.cellsOf 3) [a1, a2, a3, a4, a5, a6, a7, a8, a9, a10]) = xs[1]? := hf 1 _ rfl
  rw [sz3, e1] at h1
  obtain ⟨y2, e2⟩ := sm 2 (by omega)
  have h2 : DataW.trod enc Tryz.prog W 0 (fun _ => true) true m 5 (List.take (Tryz.prog.cellsOf 5) [a2, a3, a4, a5, a6, a7, a8, a9, a10]) = xs[2]? := hf 2 _ rfl
  rw [sz5, e2] at h2
  obtain ⟨y3, e3⟩ := sm 3 (by omega)
  have h3 : DataW.trod enc Tryz.prog W 0 (fun _ => true) true m 67 (List.take (Tryz.prog.cellsOf 67) [a3, a4, a5, a6, a7, a8, a9, a10]) = xs[3]? := hf 3 _ rfl
  rw [sz67, e3] at h3
  obtain ⟨y4, e4⟩ := sm 4 (by omega)
  have h4 : DataW.trod enc Tryz.prog W 0 (fun _ => true) true m 3 (List.take (Tryz.prog.cellsOf 3) [a5, a6, a7, a8, a9, a10]) = xs[4]? := hf 4 _ rfl
  rw [sz3, e4] at h4
  obtain ⟨y5, e5⟩ := sm 5 (by omega)
  have h5 : DataW.trod enc Tryz.prog W 0 (fun _ => true) true m 69 (List.take (Tryz.prog.cellsOf 69) [a6, a7, a8, a9, a10]) = xs[5]? := hf 5 _ rfl
  rw [sz69, e5] at h5
  obtain ⟨y6, e6⟩ := sm 6 (by omega)
  have h6 : DataW.trod enc Tryz.prog W 0 (fun _ => true) true m 3 (List.take (Tryz.prog.cellsOf 3) [a8, a9, a10]) = xs[6]? := hf 6 _ rfl
  rw [sz3, e6] at h6
  obtain ⟨y7, e7⟩ := sm 7 (by omega)
  have h7 : DataW.trod enc Tryz.prog W 0 (fun _ => true) true m 65 (List.take (Tryz.prog.cellsOf 65) [a9, a10]) = xs[7]? := hf 7 _ rfl
  rw [sz65, e7] at h7
  obtain ⟨y8, e8⟩ := sm 8 (by omega)
  have h8 : DataW.trod enc Tryz.prog W 0 (fun _ => true) true m 22 (List.take (Tryz.prog.cellsOf 22) [a10]) = xs[8]? := hf 8 _ rfl
  rw [sz22, e8] at h8
  obtain ⟨a0, q0, _, f0_0⟩ := DataW.trod_int Tryz.underlying5 h0
  simp at q0
  subst q0
  obtain ⟨a1, q1, _, f1_0⟩ := DataW.trod_int Tryz.underlying3 h1
  simp at q1
  subst q1
  obtain ⟨a2, q2, _, f2_0⟩ := DataW.trod_int Tryz.underlying5 h2
  simp at q2
  subst q2
  obtain ⟨a3, a4, q3, f3_0, f3_1⟩ := store_cells h3
  simp only [List.take, List.cons.injEq, and_true] at q3
  obtain ⟨rfl, rfl⟩ := q3
  obtain ⟨a5, q4, _, f4_0⟩ := DataW.trod_int Tryz.underlying3 h4
  simp at q4
  subst q4
  obtain ⟨a6, a7, q5, f5_0, f5_1⟩ := place_cells h5
  simp only [List.take, List.cons.injEq, and_true] at q5
  obtain ⟨rfl, rfl⟩ := q5
  obtain ⟨a8, q6, _, f6_0⟩ := DataW.trod_int Tryz.underlying3 h6
  simp at q6
  subst q6
  obtain ⟨a9, q7, _, f7_0⟩ := DataW.trod_int Tryz.underlying65 h7
  simp at q7
  subst q7
  obtain ⟨a10, q8, _, f8_0⟩ := DataW.trod_int Tryz.underlying22 h8
  simp at q8
  subst q8
  exact ⟨a0, a1, a2, a3, a4, a5, a6, a7, a8, a9, a10, rfl, f0_0, f1_0, f2_0, f3_0, f3_1, f4_0, f5_0, f5_1, f6_0, f7_0, f8_0⟩
theorem act_open {H : Type} {enc : TypeId × Value → H} {W : World} {v : Value} {d : DataW H} {p : List MemPlace} {r : Reach} {b0 : Nat} (hv : Value.okWide Tryz.prog W r b0 71 v) (h : DataW.Trod enc Tryz.prog W 0 (fun _ => true) true 71 v d p) :
    ∃ a0 a1 a2 a3 a4 a5 a6 a7 a8 a9 a10, v = .agg #[.int .u8 a0, .int .i64 a1, .int .u8 a2, .int .u32 a3, .int .u64 a4, .int .i64 a5, .int .i64 a6, .int .i64 a7, .int .i64 a8, .int .u32 a9, .int .u64 a10] ∧ (Lit.int .u8 a0).wf = true ∧ (Lit.int .i64 a1).wf = true ∧ (Lit.int .u8 a2).wf = true ∧ (Lit.int .u32 a3).wf = true ∧ (Lit.int .u64 a4).wf = true ∧ (Lit.int .i64 a5).wf = true ∧ (Lit.int .i64 a6).wf = true ∧ (Lit.int .i64 a7).wf = true ∧ (Lit.int .i64 a8).wf = true ∧ (Lit.int .u32 a9).wf = true ∧ (Lit.int .u64 a10).wf = true := by
  obtain ⟨cs, rfl, hsz⟩ := okWide_struct Tryz.underlying71 hv
  obtain ⟨fuel, ht⟩ := h
  obtain ⟨a0, a1, a2, a3, a4, a5, a6, a7, a8, a9, a10, hc, f0, f1, f2, f3, f4, f5, f6, f7, f8, f9, f10⟩ := act_cells ht
  refine ⟨a0, a1, a2, a3, a4, a5, a6, a7, a8, a9, a10, ?_, f0, f1, f2, f3, f4, f5, f6, f7, f8, f9, f10⟩
  obtain ⟨l⟩ := cs
  have e : l = _ := hc
  rw [e]
theorem sz138 : Tryz.prog.cellsOf 138 = 2 := by kernel_rfl
theorem timer_cells {H : Type} {enc : TypeId × Value → H} {W : World} {fuel : Nat} {cs : List Value} {x : DataW H × List MemPlace} (h : DataW.trod enc Tryz.prog W 0 (fun _ => true) true fuel 138 cs = some x) :
    ∃ t0 t1, cs = [.int .u64 t0, .int .u64 t1] ∧ (Lit.int .u64 t0).wf = true ∧ (Lit.int .u64 t1).wf = true := by
  obtain ⟨xs, m, _, _, hlen, hxl, hf⟩ := DataW.trod_struct Tryz.underlying138 h
  rw [sz138] at hlen
  obtain ⟨a0, a1, rfl⟩ : ∃ a0 a1, cs = [a0, a1] := by
    match cs, hlen with
    | [a0, a1], _ => exact ⟨a0, a1, rfl⟩
  have sm : ∀ i, i < 2 → ∃ y, xs[i]? = some y := fun i hi => ⟨xs[i]'(by rw [hxl]; exact hi), List.getElem?_eq_getElem _⟩
  obtain ⟨y0, e0⟩ := sm 0 (by omega)
  have h0 : DataW.trod enc Tryz.prog W 0 (fun _ => true) true m 22 (List.take (Tryz.prog.cellsOf 22) [a0, a1]) = xs[0]? := hf 0 _ rfl
  rw [sz22, e0] at h0
  obtain ⟨y1, e1⟩ := sm 1 (by omega)
  have h1 : DataW.trod enc Tryz.prog W 0 (fun _ => true) true m 22 (List.take (Tryz.prog.cellsOf 22) [a1]) = xs[1]? := hf 1 _ rfl
  rw [sz22, e1] at h1
  obtain ⟨t0, q0, _, f0_0⟩ := DataW.trod_int Tryz.underlying22 h0
  simp at q0
  subst q0
  obtain ⟨t1, q1, _, f1_0⟩ := DataW.trod_int Tryz.underlying22 h1
  simp at q1
  subst q1
  exact ⟨t0, t1, rfl, f0_0, f1_0⟩
theorem timer_open {H : Type} {enc : TypeId × Value → H} {W : World} {v : Value} {d : DataW H} {p : List MemPlace} {r : Reach} {b0 : Nat} (hv : Value.okWide Tryz.prog W r b0 138 v) (h : DataW.Trod enc Tryz.prog W 0 (fun _ => true) true 138 v d p) :
    ∃ t0 t1, v = .agg #[.int .u64 t0, .int .u64 t1] ∧ (Lit.int .u64 t0).wf = true ∧ (Lit.int .u64 t1).wf = true := by
  obtain ⟨cs, rfl, hsz⟩ := okWide_struct Tryz.underlying138 hv
  obtain ⟨fuel, ht⟩ := h
  obtain ⟨t0, t1, hc, f0, f1⟩ := timer_cells ht
  refine ⟨t0, t1, ?_, f0, f1⟩
  obtain ⟨l⟩ := cs
  have e : l = _ := hc
  rw [e]
theorem sz136 : Tryz.prog.cellsOf 136 = 1 := by kernel_rfl
theorem sz140 : Tryz.prog.cellsOf 140 = 5 := by kernel_rfl
theorem queued_cells {H : Type} {enc : TypeId × Value → H} {W : World} {fuel : Nat} {cs : List Value} {x : DataW H × List MemPlace} (h : DataW.trod enc Tryz.prog W 0 (fun _ => true) true fuel 140 cs = some x) :
    ∃ q0 q1 A c D q3 q4, cs = [.int .i64 q0, .int .i64 q1, .slice A D.length c, .int .u64 q3, .int .u64 q4] ∧ (Lit.int .i64 q0).wf = true ∧ (Lit.int .i64 q1).wf = true ∧ D.length ≤ c ∧ c ≤ 9223372036854775807 ∧ S10.Rd W W.heap.size A (S10.flat D) ∧ S10.Keys D ∧ (Lit.int .u64 q3).wf = true ∧ (Lit.int .u64 q4).wf = true := by
  obtain ⟨xs, m, _, _, hlen, hxl, hf⟩ := DataW.trod_struct Tryz.underlying140 h
  rw [sz140] at hlen
  obtain ⟨a0, a1, a2, a3, a4, rfl⟩ : ∃ a0 a1 a2 a3 a4, cs = [a0, a1, a2, a3, a4] := by
    match cs, hlen with
    | [a0, a1, a2, a3, a4], _ => exact ⟨a0, a1, a2, a3, a4, rfl⟩
  have sm : ∀ i, i < 3 → ∃ y, xs[i]? = some y := fun i hi => ⟨xs[i]'(by rw [hxl]; exact hi), List.getElem?_eq_getElem _⟩
  obtain ⟨y0, e0⟩ := sm 0 (by omega)
  have h0 : DataW.trod enc Tryz.prog W 0 (fun _ => true) true m 69 (List.take (Tryz.prog.cellsOf 69) [a0, a1, a2, a3, a4]) = xs[0]? := hf 0 _ rfl
  rw [sz69, e0] at h0
  obtain ⟨y1, e1⟩ := sm 1 (by omega)
  have h1 : DataW.trod enc Tryz.prog W 0 (fun _ => true) true m 136 (List.take (Tryz.prog.cellsOf 136) [a2, a3, a4]) = xs[1]? := hf 1 _ rfl
  rw [sz136, e1] at h1
  obtain ⟨y2, e2⟩ := sm 2 (by omega)
  have h2 : DataW.trod enc Tryz.prog W 0 (fun _ => true) true m 138 (List.take (Tryz.prog.cellsOf 138) [a3, a4]) = xs[2]? := hf 2 _ rfl
  rw [sz138, e2] at h2
  obtain ⟨q0, q1, q0, f0_0, f0_1⟩ := place_cells h0
  simp only [List.take, List.cons.injEq, and_true] at q0
  obtain ⟨rfl, rfl⟩ := q0
  obtain ⟨A, c, D, q1, f1_0, f1_1, f1_2, f1_3⟩ := S10.open_ents h1
  simp only [List.take, List.cons.injEq, and_true] at q1
  subst q1
  obtain ⟨q3, q4, q2, f2_0, f2_1⟩ := timer_cells h2
  simp only [List.take, List.cons.injEq, and_true] at q2
  obtain ⟨rfl, rfl⟩ := q2
  exact ⟨q0, q1, A, c, D, q3, q4, rfl, f0_0, f0_1, f1_0, f1_1, f1_2, f1_3, f2_0, f2_1⟩
theorem queued_open {H : Type} {enc : TypeId × Value → H} {W : World} {v : Value} {d : DataW H} {p : List MemPlace} {r : Reach} {b0 : Nat} (hv : Value.okWide Tryz.prog W r b0 140 v) (h : DataW.Trod enc Tryz.prog W 0 (fun _ => true) true 140 v d p) :
    ∃ q0 q1 A c D q3 q4, v = .agg #[.int .i64 q0, .int .i64 q1, .slice A D.length c, .int .u64 q3, .int .u64 q4] ∧ (Lit.int .i64 q0).wf = true ∧ (Lit.int .i64 q1).wf = true ∧ D.length ≤ c ∧ c ≤ 9223372036854775807 ∧ S10.Rd W W.heap.size A (S10.flat D) ∧ S10.Keys D ∧ (Lit.int .u64 q3).wf = true ∧ (Lit.int .u64 q4).wf = true := by
  obtain ⟨cs, rfl, hsz⟩ := okWide_struct Tryz.underlying140 hv
  obtain ⟨fuel, ht⟩ := h
  obtain ⟨q0, q1, A, c, D, q3, q4, hc, f0, f1, f2, f3, f4, f5, f6, f7⟩ := queued_cells ht
  refine ⟨q0, q1, A, c, D, q3, q4, ?_, f0, f1, f2, f3, f4, f5, f6, f7⟩
  obtain ⟨l⟩ := cs
  have e : l = _ := hc
  rw [e]
theorem stores_cells0 {H : Type} {enc : TypeId × Value → H} {W : World} {fuel : Nat} {cs : List Value} {x : DataW H × List MemPlace} (hf : DataW.trod enc Tryz.prog W 0 (fun _ => true) true fuel 58 cs = some x) :
    ∃ A n c, ∃ Y : Nat → Nat × Nat, cs = [.slice A n c] ∧ n ≤ 9223372036854775807 ∧ S2.WIn W W.heap.size A n (fun i => (Y i).1) (fun i => (Y i).2) ∧ S2.WOk n (fun i => (Y i).1) (fun i => (Y i).2) := by
  have y0 : Nat × Nat := (0, 0)
  have hne : Inhabited (Nat × Nat) := ⟨y0⟩
  rcases open_slice Tryz.underlying58 hf with ⟨hc, _⟩ | ⟨⟨lb, lo, spot⟩, len, cap, m, q, D, Pl, hc, _, hl, hm, hmm, _, hi⟩
  · exact ⟨none, 0, 0, fun _ => y0, hc, by omega, fun h => by omega, fun i hi => by omega⟩
  unfold maxLen at hm
  rcases Nat.eq_zero_or_pos len with rfl | hpos
  · exact ⟨_, 0, cap, fun _ => y0, hc, by omega, fun h => by omega, fun i hi => by omega⟩
  have hnm : len ≤ m := by rw [hmm]; simp; exact hl
  have hs : spot = none := by
    obtain ⟨cs, hcs, ht⟩ := hi 0 (by omega)
    obtain ⟨_, hlen, hat⟩ := World.cells?_some hcs
    obtain ⟨s0, s1, e, f0, f1⟩ := store_cells ht
    rw [sz67, e] at hat
    have g0 := hat 0 (by omega)
    have := S10.spot_none g0
    simpa [Addr.add] using this
  subst hs
  have hall : ∀ i, i < len → ∃ y : Nat × Nat, (W.cell? ⟨lb, lo + i * 2, none⟩ = some (.int .u32 (y.1 : Nat)) ∧ W.cell? ⟨lb, lo + i * 2 + 1, none⟩ = some (.int .u64 (y.2 : Nat))) ∧ y.1 < 4294967296 ∧ y.2 < 18446744073709551616 := by
    intro i hin
    obtain ⟨cs, hcs, ht⟩ := hi i (by omega)
    obtain ⟨_, hlen, hat⟩ := World.cells?_some hcs
    obtain ⟨s0, s1, e, f0, f1⟩ := store_cells ht
    rw [sz67, e] at hat
    have g0 := hat 0 (by omega)
    have g1 := hat 1 (by omega)
    rw [S10.add_none, S10.add_none] at g0 g1
    rw [Nat.add_zero] at g0
    obtain ⟨n0, rfl, b0⟩ := u32_of f0
    obtain ⟨n1, rfl, b1⟩ := u64_of f1
    exact ⟨(n0, n1), ⟨g0, g1⟩, b0, b1⟩
  obtain ⟨Y, hY⟩ := choose_lt hall
  exact ⟨_, len, cap, Y, hc, by omega, fun _ => ⟨lb, lo, rfl, World.block_lt_of_cell? W _ (hY 0 hpos).1.1, fun i hi => (hY i hi).1⟩, fun i hi => (hY i hi).2⟩
theorem stores_cells {H : Type} {enc : TypeId × Value → H} {W : World} {fuel : Nat} {cs : List Value} {x : DataW H × List MemPlace} (hf : DataW.trod enc Tryz.prog W 0 (fun _ => true) true fuel 58 cs = some x) :
    ∃ A n c SA SV, cs = [.slice A n c] ∧ n ≤ 9223372036854775807 ∧ S2.WIn W W.heap.size A n SA SV ∧ S2.WOk n SA SV := by
  obtain ⟨A, n, c, Y, h1, h2, h3, h4⟩ := stores_cells0 hf
  exact ⟨A, n, c, fun i => (Y i).1, fun i => (Y i).2, h1, h2, h3, h4⟩
theorem ints_cells {H : Type} {enc : TypeId × Value → H} {W : World} {fuel : Nat} {cs : List Value} {x : DataW H × List MemPlace} (hf : DataW.trod enc Tryz.prog W 0 (fun _ => true) true fuel 59 cs = some x) :
    ∃ A n c Y, cs = [.slice A n c] ∧ n ≤ 9223372036854775807 ∧ GIn W W.heap.size A n Y ∧ ∀ i, i < n → S10.InI (Y i) := by
  rcases open_ints Tryz.underlying59 Tryz.underlying3 sz3 hf with ⟨hc, _⟩ | ⟨⟨lb, lo, spot⟩, len, cap, zs, hc, _, hl, hm, hzl, _, hcell, hwf⟩
  · exact ⟨none, 0, 0, fun _ => 0, hc, by omega, fun h => by omega, fun i hi => by omega⟩
  simp at hzl
  unfold maxLen at hm
  refine ⟨_, len, cap, fun i => zs.getD i 0, hc, by omega, fun hp => ?_, fun i hi => ?_⟩
  · have h0 := hcell 0 (by omega)
    have hs : spot = none := by
      have := S10.spot_none h0
      simpa [Addr.add] using this
    subst hs
    refine ⟨lb, lo, rfl, ?_, fun i hi => ?_⟩
    · rw [S10.add_none] at h0
      exact World.block_lt_of_cell? W _ h0
    · have h1 := hcell i (by omega)
      rw [S10.add_none] at h1
      exact h1
  · have h2 : i < zs.length := by omega
    have e : zs.getD i 0 = zs[i] := by rw [List.getD_eq_getElem?_getD, List.getElem?_eq_getElem h2]; rfl
    show S10.InI (zs.getD i 0)
    rw [e]
    exact S10.inI (hwf _ (List.getElem_mem h2))
theorem queues_cells {H : Type} {enc : TypeId × Value → H} {W : World} {fuel : Nat} {cs : List Value} {x : DataW H × List MemPlace} (hf : DataW.trod enc Tryz.prog W 0 (fun _ => true) true fuel 60 cs = some x) :
    ∃ A n c, ∃ Y : Nat → Qu, cs = [.slice A n c] ∧ n ≤ 9223372036854775807 ∧ QIn W W.heap.size A n Y ∧ ∀ i, i < n → QOk W W.heap.size (Y i) := by
  have y0 : Qu := ⟨0, 0, none, 0, [], 0, 0⟩
  have hne : Inhabited (Qu) := ⟨y0⟩
  rcases open_slice Tryz.underlying60 hf with ⟨hc, _⟩ | ⟨⟨lb, lo, spot⟩, len, cap, m, q, D, Pl, hc, _, hl, hm, hmm, _, hi⟩
  · exact ⟨none, 0, 0, fun _ => y0, hc, by omega, fun h => by omega, fun i hi => by omega⟩
  unfold maxLen at hm
  rcases Nat.eq_zero_or_pos len with rfl | hpos
  · exact ⟨_, 0, cap, fun _ => y0, hc, by omega, fun h => by omega, fun i hi => by omega⟩
  have hnm : len ≤ m := by rw [hmm]; simp; exact hl
  have hs : spot = none := by
    obtain ⟨cs, hcs, ht⟩ := hi 0 (by omega)
    obtain ⟨_, hlen, hat⟩ := World.cells?_some hcs
    obtain ⟨q0, q1, A, c, D, q3, q4, e, f0, f1, f2, f3, f4, f5, f6, f7⟩ := queued_cells ht
    rw [sz140, e] at hat
    have g0 := hat 0 (by omega)
    have := S10.spot_none g0
    simpa [Addr.add] using this
  subst hs
  have hall : ∀ i, i < len → ∃ y : Qu, (W.cell? ⟨lb, lo + i * 5, none⟩ = some (.int .i64 y.b) ∧ W.cell? ⟨lb, lo + i * 5 + 1, none⟩ = some (.int .i64 y.i) ∧ W.cell? ⟨lb, lo + i * 5 + 2, none⟩ = some (.slice y.A y.D.length y.c) ∧ W.cell? ⟨lb, lo + i * 5 + 3, none⟩ = some (.int .u64 y.ta) ∧ W.cell? ⟨lb, lo + i * 5 + 4, none⟩ = some (.int .u64 y.tf)) ∧ QOk W W.heap.size y := by
    intro i hin
    obtain ⟨cs, hcs, ht⟩ := hi i (by omega)
    obtain ⟨_, hlen, hat⟩ := World.cells?_some hcs
    obtain ⟨q0, q1, A, c, D, q3, q4, e, f0, f1, f2, f3, f4, f5, f6, f7⟩ := queued_cells ht
    rw [sz140, e] at hat
    have g0 := hat 0 (by omega)
    have g1 := hat 1 (by omega)
    have g2 := hat 2 (by omega)
    have g3 := hat 3 (by omega)
    have g4 := hat 4 (by omega)
    rw [S10.add_none, S10.add_none] at g0 g1 g2 g3 g4
    rw [Nat.add_zero] at g0
    have hI := S10.inI f0
    exact ⟨⟨q0, q1, A, c, D, q3, q4⟩, ⟨g0, g1, g2, g3, g4⟩, ⟨hI, f2, f3, f4, f5⟩⟩
  obtain ⟨Y, hY⟩ := choose_lt hall
  exact ⟨_, len, cap, Y, hc, by omega, fun _ => ⟨lb, lo, rfl, World.block_lt_of_cell? W _ (hY 0 hpos).1.1, fun i hi => (hY i hi).1⟩, fun i hi => (hY i hi).2⟩
theorem acts_cells {H : Type} {enc : TypeId × Value → H} {W : World} {fuel : Nat} {cs : List Value} {x : DataW H × List MemPlace} (hf : DataW.trod enc Tryz.prog W 0 (fun _ => true) true fuel 63 cs = some x) :
    ∃ A n c, ∃ Y : Nat → Ac, cs = [.slice A n c] ∧ n ≤ 9223372036854775807 ∧ ActsIn W W.heap.size A n Y ∧ ∀ i, i < n → AcOk (Y i) := by
  have y0 : Ac := ⟨0, 0, 0, 0, 0, 0, 0, 0, 0, 0, 0⟩
  have hne : Inhabited (Ac) := ⟨y0⟩
  rcases open_slice Tryz.underlying63 hf with ⟨hc, _⟩ | ⟨⟨lb, lo, spot⟩, len, cap, m, q, D, Pl, hc, _, hl, hm, hmm, _, hi⟩
  · exact ⟨none, 0, 0, fun _ => y0, hc, by omega, fun h => by omega, fun i hi => by omega⟩
  unfold maxLen at hm
  rcases Nat.eq_zero_or_pos len with rfl | hpos
  · exact ⟨_, 0, cap, fun _ => y0, hc, by omega, fun h => by omega, fun i hi => by omega⟩
  have hnm : len ≤ m := by rw [hmm]; simp; exact hl
  have hs : spot = none := by
    obtain ⟨cs, hcs, ht⟩ := hi 0 (by omega)
    obtain ⟨_, hlen, hat⟩ := World.cells?_some hcs
    obtain ⟨a0, a1, a2, a3, a4, a5, a6, a7, a8, a9, a10, e, f0, f1, f2, f3, f4, f5, f6, f7, f8, f9, f10⟩ := act_cells ht
    rw [sz71, e] at hat
    have g0 := hat 0 (by omega)
    have := S10.spot_none g0
    simpa [Addr.add] using this
  subst hs
  have hall : ∀ i, i < len → ∃ y : Ac, (W.cell? ⟨lb, lo + i * 11, none⟩ = some (.int .u8 (y.K : Int)) ∧ W.cell? ⟨lb, lo + i * 11 + 1, none⟩ = some (.int .i64 y.t) ∧ W.cell? ⟨lb, lo + i * 11 + 2, none⟩ = some (.int .u8 (y.nt : Int)) ∧ W.cell? ⟨lb, lo + i * 11 + 3, none⟩ = some (.int .u32 (y.a : Int)) ∧ W.cell? ⟨lb, lo + i * 11 + 4, none⟩ = some (.int .u64 (y.v : Int)) ∧ W.cell? ⟨lb, lo + i * 11 + 5, none⟩ = some (.int .i64 y.pk) ∧ W.cell? ⟨lb, lo + i * 11 + 6, none⟩ = some (.int .i64 y.b) ∧ W.cell? ⟨lb, lo + i * 11 + 7, none⟩ = some (.int .i64 y.i) ∧ W.cell? ⟨lb, lo + i * 11 + 8, none⟩ = some (.int .i64 y.o) ∧ W.cell? ⟨lb, lo + i * 11 + 9, none⟩ = some (.int .u32 y.to_) ∧ W.cell? ⟨lb, lo + i * 11 + 10, none⟩ = some (.int .u64 (y.tk : Int))) ∧ AcOk y := by
    intro i hin
    obtain ⟨cs, hcs, ht⟩ := hi i (by omega)
    obtain ⟨_, hlen, hat⟩ := World.cells?_some hcs
    obtain ⟨a0, a1, a2, a3, a4, a5, a6, a7, a8, a9, a10, e, f0, f1, f2, f3, f4, f5, f6, f7, f8, f9, f10⟩ := act_cells ht
    rw [sz71, e] at hat
    have g0 := hat 0 (by omega)
    have g1 := hat 1 (by omega)
    have g2 := hat 2 (by omega)
    have g3 := hat 3 (by omega)
    have g4 := hat 4 (by omega)
    have g5 := hat 5 (by omega)
    have g6 := hat 6 (by omega)
    have g7 := hat 7 (by omega)
    have g8 := hat 8 (by omega)
    have g9 := hat 9 (by omega)
    have g10 := hat 10 (by omega)
    rw [S10.add_none, S10.add_none] at g0 g1 g2 g3 g4 g5 g6 g7 g8 g9 g10
    rw [Nat.add_zero] at g0
    obtain ⟨n0, rfl, b0⟩ := u8_of f0
    obtain ⟨n2, rfl, b2⟩ := u8_of f2
    obtain ⟨n3, rfl, b3⟩ := u32_of f3
    obtain ⟨n4, rfl, b4⟩ := u64_of f4
    obtain ⟨n10, rfl, b10⟩ := u64_of f10
    have hI := S10.inI f6
    exact ⟨⟨n0, a1, n2, n3, n4, a5, a6, a7, a8, a9, n10⟩, ⟨g0, g1, g2, g3, g4, g5, g6, g7, g8, g9, g10⟩, ⟨b0, b2, b3, b4, (show n10 ≤ 18446744073709551615 by omega), hI⟩⟩
  obtain ⟨Y, hY⟩ := choose_lt hall
  exact ⟨_, len, cap, Y, hc, by omega, fun _ => ⟨lb, lo, rfl, World.block_lt_of_cell? W _ (hY 0 hpos).1.1, fun i hi => (hY i hi).1⟩, fun i hi => (hY i hi).2⟩
theorem sz23 : Tryz.prog.cellsOf 23 = 1 := by kernel_rfl
theorem sz25 : Tryz.prog.cellsOf 25 = 3 := by kernel_rfl
theorem config_cells {H : Type} {enc : TypeId × Value → H} {W : World} {fuel : Nat} {cs : List Value} {x : DataW H × List MemPlace} (h : DataW.trod enc Tryz.prog W 0 (fun _ => true) true fuel 25 cs = some x) :
    ∃ c0 c1 dA dc D, cs = [.int .i64 c0, .int .u64 c1, .slice dA D.length dc] ∧ (Lit.int .i64 c0).wf = true ∧ (Lit.int .u64 c1).wf = true ∧ D.length ≤ dc ∧ dc ≤ 9223372036854775807 ∧ S3.Rd W W.heap.size dA D ∧ (∀ d ∈ D, d ≤ 18446744073709551615) := by
  obtain ⟨xs, m, _, _, hlen, hxl, hf⟩ := DataW.trod_struct Tryz.underlying25 h
  rw [sz25] at hlen
  obtain ⟨a0, a1, a2, rfl⟩ : ∃ a0 a1 a2, cs = [a0, a1, a2] := by
    match cs, hlen with
    | [a0, a1, a2], _ => exact ⟨a0, a1, a2, rfl⟩
  have sm : ∀ i, i < 3 → ∃ y, xs[i]? = some y := fun i hi => ⟨xs[i]'(by rw [hxl]; exact hi), List.getElem?_eq_getElem _⟩
  obtain ⟨y0, e0⟩ := sm 0 (by omega)
  have h0 : DataW.trod enc Tryz.prog W 0 (fun _ => true) true m 3 (List.take (Tryz.prog.cellsOf 3) [a0, a1, a2]) = xs[0]? := hf 0 _ rfl
  rw [sz3, e0] at h0
  obtain ⟨y1, e1⟩ := sm 1 (by omega)
  have h1 : DataW.trod enc Tryz.prog W 0 (fun _ => true) true m 22 (List.take (Tryz.prog.cellsOf 22) [a1, a2]) = xs[1]? := hf 1 _ rfl
  rw [sz22, e1] at h1
  obtain ⟨y2, e2⟩ := sm 2 (by omega)
  have h2 : DataW.trod enc Tryz.prog W 0 (fun _ => true) true m 23 (List.take (Tryz.prog.cellsOf 23) [a2]) = xs[2]? := hf 2 _ rfl
  rw [sz23, e2] at h2
  obtain ⟨c0, q0, _, f0_0⟩ := DataW.trod_int Tryz.underlying3 h0
  simp at q0
  subst q0
  obtain ⟨c1, q1, _, f1_0⟩ := DataW.trod_int Tryz.underlying22 h1
  simp at q1
  subst q1
  obtain ⟨dA, dc, D, q2, f2_0, f2_1, f2_2, f2_3⟩ := S3.open_list h2
  simp only [List.take, List.cons.injEq, and_true] at q2
  subst q2
  exact ⟨c0, c1, dA, dc, D, rfl, f0_0, f1_0, f2_0, f2_1, f2_2, f2_3⟩
theorem config_open {H : Type} {enc : TypeId × Value → H} {W : World} {v : Value} {d : DataW H} {p : List MemPlace} {r : Reach} {b0 : Nat} (hv : Value.okWide Tryz.prog W r b0 25 v) (h : DataW.Trod enc Tryz.prog W 0 (fun _ => true) true 25 v d p) :
    ∃ c0 c1 dA dc D, v = .agg #[.int .i64 c0, .int .u64 c1, .slice dA D.length dc] ∧ (Lit.int .i64 c0).wf = true ∧ (Lit.int .u64 c1).wf = true ∧ D.length ≤ dc ∧ dc ≤ 9223372036854775807 ∧ S3.Rd W W.heap.size dA D ∧ (∀ d ∈ D, d ≤ 18446744073709551615) := by
  obtain ⟨cs, rfl, hsz⟩ := okWide_struct Tryz.underlying25 hv
  obtain ⟨fuel, ht⟩ := h
  obtain ⟨c0, c1, dA, dc, D, hc, f0, f1, f2, f3, f4, f5⟩ := config_cells ht
  refine ⟨c0, c1, dA, dc, D, ?_, f0, f1, f2, f3, f4, f5⟩
  obtain ⟨l⟩ := cs
  have e : l = _ := hc
  rw [e]
theorem sz58 : Tryz.prog.cellsOf 58 = 1 := by kernel_rfl
theorem sz59 : Tryz.prog.cellsOf 59 = 1 := by kernel_rfl
theorem sz60 : Tryz.prog.cellsOf 60 = 1 := by kernel_rfl
theorem sz62 : Tryz.prog.cellsOf 62 = 7 := by kernel_rfl
theorem tfirst_cells {H : Type} {enc : TypeId × Value → H} {W : World} {fuel : Nat} {cs : List Value} {x : DataW H × List MemPlace} (h : DataW.trod enc Tryz.prog W 0 (fun _ => true) true fuel 62 cs = some x) :
    ∃ t0 t1 t2 t3 t4 sA sn sc SA SV gA gn gc GY qA qn qc QY t8, cs = [.int .i64 t0, .int .u64 t1, .slice t2 t4.length t3, .slice sA sn sc, .slice gA gn gc, .slice qA qn qc, .int .u64 t8] ∧ (Lit.int .i64 t0).wf = true ∧ (Lit.int .u64 t1).wf = true ∧ t4.length ≤ t3 ∧ t3 ≤ 9223372036854775807 ∧ S3.Rd W W.heap.size t2 t4 ∧ (∀ d ∈ t4, d ≤ 18446744073709551615) ∧ sn ≤ 9223372036854775807 ∧ S2.WIn W W.heap.size sA sn SA SV ∧ S2.WOk sn SA SV ∧ gn ≤ 9223372036854775807 ∧ GIn W W.heap.size gA gn GY ∧ (∀ i, i < gn → S10.InI (GY i)) ∧ qn ≤ 9223372036854775807 ∧ QIn W W.heap.size qA qn QY ∧ (∀ i, i < qn → QOk W W.heap.size (QY i)) ∧ (Lit.int .u64 t8).wf = true := by
  obtain ⟨xs, m, _, _, hlen, hxl, hf⟩ := DataW.trod_struct Tryz.underlying62 h
  rw [sz62] at hlen
  obtain ⟨a0, a1, a2, a3, a4, a5, a6, rfl⟩ : ∃ a0 a1 a2 a3 a4 a5 a6, cs = [a0, a1, a2, a3, a4, a5, a6] := by
    match cs, hlen with
    | [a0, a1, a2, a3, a4, a5, a6], _ => exact ⟨a0, a1, a2, a3, a4, a5, a6, rfl⟩
  have sm : ∀ i, i < 5 → ∃ y, xs[i]? = some y := fun i hi => ⟨xs[i]'(by rw [hxl]; exact hi), List.getElem?_eq_getElem _⟩
  obtain ⟨y0, e0⟩ := sm 0 (by omega)
  have h0 : DataW.trod enc Tryz.prog W 0 (fun _ => true) true m 25 (List.take (Tryz.prog.cellsOf 25) [a0, a1, a2, a3, a4, a5, a6]) = xs[0]? := hf 0 _ rfl
  rw [sz25, e0] at h0
  obtain ⟨y1, e1⟩ := sm 1 (by omega)
  have h1 : DataW.trod enc Tryz.prog W 0 (fun _ => true) true m 58 (List.take (Tryz.prog.cellsOf 58) [a3, a4, a5, a6]) = xs[1]? := hf 1 _ rfl
  rw [sz58, e1] at h1
  obtain ⟨y2, e2⟩ := sm 2 (by omega)
  have h2 : DataW.trod enc Tryz.prog W 0 (fun _ => true) true m 59 (List.take (Tryz.prog.cellsOf 59) [a4, a5, a6]) = xs[2]? := hf 2 _ rfl
  rw [sz59, e2] at h2
  obtain ⟨y3, e3⟩ := sm 3 (by omega)
  have h3 : DataW.trod enc Tryz.prog W 0 (fun _ => true) true m 60 (List.take (Tryz.prog.cellsOf 60) [a5, a6]) = xs[3]? := hf 3 _ rfl
  rw [sz60, e3] at h3
  obtain ⟨y4, e4⟩ := sm 4 (by omega)
  have h4 : DataW.trod enc Tryz.prog W 0 (fun _ => true) true m 22 (List.take (Tryz.prog.cellsOf 22) [a6]) = xs[4]? := hf 4 _ rfl
  rw [sz22, e4] at h4
  obtain ⟨t0, t1, t2, t3, t4, q0, f0_0, f0_1, f0_2, f0_3, f0_4, f0_5⟩ := config_cells h0
  simp only [List.take, List.cons.injEq, and_true] at q0
  obtain ⟨rfl, rfl, rfl⟩ := q0
  obtain ⟨sA, sn, sc, SA, SV, q1, f1_0, f1_1, f1_2⟩ := stores_cells h1
  simp only [List.take, List.cons.injEq, and_true] at q1
  subst q1
  obtain ⟨gA, gn, gc, GY, q2, f2_0, f2_1, f2_2⟩ := ints_cells h2
  simp only [List.take, List.cons.injEq, and_true] at q2
  subst q2
  obtain ⟨qA, qn, qc, QY, q3, f3_0, f3_1, f3_2⟩ := queues_cells h3
  simp only [List.take, List.cons.injEq, and_true] at q3
  subst q3
  obtain ⟨t8, q4, _, f4_0⟩ := DataW.trod_int Tryz.underlying22 h4
  simp at q4
  subst q4
  exact ⟨t0, t1, t2, t3, t4, sA, sn, sc, SA, SV, gA, gn, gc, GY, qA, qn, qc, QY, t8, rfl, f0_0, f0_1, f0_2, f0_3, f0_4, f0_5, f1_0, f1_1, f1_2, f2_0, f2_1, f2_2, f3_0, f3_1, f3_2, f4_0⟩
theorem tfirst_open {H : Type} {enc : TypeId × Value → H} {W : World} {v : Value} {d : DataW H} {p : List MemPlace} {r : Reach} {b0 : Nat} (hv : Value.okWide Tryz.prog W r b0 62 v) (h : DataW.Trod enc Tryz.prog W 0 (fun _ => true) true 62 v d p) :
    ∃ t0 t1 t2 t3 t4 sA sn sc SA SV gA gn gc GY qA qn qc QY t8, v = .agg #[.int .i64 t0, .int .u64 t1, .slice t2 t4.length t3, .slice sA sn sc, .slice gA gn gc, .slice qA qn qc, .int .u64 t8] ∧ (Lit.int .i64 t0).wf = true ∧ (Lit.int .u64 t1).wf = true ∧ t4.length ≤ t3 ∧ t3 ≤ 9223372036854775807 ∧ S3.Rd W W.heap.size t2 t4 ∧ (∀ d ∈ t4, d ≤ 18446744073709551615) ∧ sn ≤ 9223372036854775807 ∧ S2.WIn W W.heap.size sA sn SA SV ∧ S2.WOk sn SA SV ∧ gn ≤ 9223372036854775807 ∧ GIn W W.heap.size gA gn GY ∧ (∀ i, i < gn → S10.InI (GY i)) ∧ qn ≤ 9223372036854775807 ∧ QIn W W.heap.size qA qn QY ∧ (∀ i, i < qn → QOk W W.heap.size (QY i)) ∧ (Lit.int .u64 t8).wf = true := by
  obtain ⟨cs, rfl, hsz⟩ := okWide_struct Tryz.underlying62 hv
  obtain ⟨fuel, ht⟩ := h
  obtain ⟨t0, t1, t2, t3, t4, sA, sn, sc, SA, SV, gA, gn, gc, GY, qA, qn, qc, QY, t8, hc, f0, f1, f2, f3, f4, f5, f6, f7, f8, f9, f10, f11, f12, f13, f14, f15⟩ := tfirst_cells ht
  refine ⟨t0, t1, t2, t3, t4, sA, sn, sc, SA, SV, gA, gn, gc, GY, qA, qn, qc, QY, t8, ?_, f0, f1, f2, f3, f4, f5, f6, f7, f8, f9, f10, f11, f12, f13, f14, f15⟩
  obtain ⟨l⟩ := cs
  have e : l = _ := hc
  rw [e]
theorem acts_open {H : Type} {enc : TypeId × Value → H} {W : World} {v : Value} {d : DataW H} {p : List MemPlace} {r : Reach} {b0 : Nat} (hv : Value.okWide Tryz.prog W r b0 63 v) (h : DataW.Trod enc Tryz.prog W 0 (fun _ => true) true 63 v d p) :
    ∃ A n c Y, v = .slice A n c ∧ n ≤ 9223372036854775807 ∧ ActsIn W W.heap.size A n Y ∧ ∀ i, i < n → AcOk (Y i) := by
  obtain ⟨a0, len0, cap0, rfl⟩ := okWide_slice Tryz.underlying63 hv
  obtain ⟨fuel, hf⟩ := h
  obtain ⟨A, n, c, Y, e, h1⟩ := acts_cells hf
  simp [Value.cells] at e
  obtain ⟨rfl, rfl, rfl⟩ := e
  exact ⟨_, _, _, Y, rfl, h1⟩
end S12
end Go.Proofs.YtdfnocopakbhoaaGreatDoor
