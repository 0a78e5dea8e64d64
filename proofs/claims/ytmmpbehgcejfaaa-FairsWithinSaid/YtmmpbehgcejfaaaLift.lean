/- What comes in, opened: numbers, timers, pairs of numbers, lists of them. -/
import Derived.Test.YtmmpbehgcejfaaaRows
import Derived.Test.YtmmpbehgcejfaaaC1
import Derived.Test.YtmmpbehgcejfaaaD1
import Derived.Lib.SmallJoins
import Derived.ProofKit
import Derived.OpenShut
import Derived.Deep.Slices
import Derived.Carry
namespace Go.Proofs.Ytmmpbehgcejfaaa
open Go.ChangeShapes Go.WideShapes Go.ChangeAt Go.RowKit Go.Deep

theorem own : ownKnob Try.prog.godebug = none := by kernel_rfl
theorem laidOut : laidOutB Try.prog = true := by kernel_rfl
section
variable {H : Type} {enc : TypeId × Value → H} {W : World}
theorem u64_of {a : Int} (h : (Lit.int .u64 a).wf = true) : ∃ n : Nat, a = n ∧ n ≤ 18446744073709551615 := by
  simp [Lit.wf, IntKind.min, IntKind.max, IntKind.bits, IntKind.signed] at h
  obtain ⟨n, rfl⟩ := Int.eq_ofNat_of_zero_le h.1
  exact ⟨n, rfl, by omega⟩
theorem open_u64 {v : Value} {d : DataW H} {p : List MemPlace} {r : Reach} {b0 : Nat} (hv : Value.okWide Try.prog W r b0 22 v) (h : DataW.Trod enc Try.prog W 0 (fun _ => true) true 22 v d p) : ∃ n : Nat, v = .int .u64 n ∧ n ≤ 18446744073709551615 := by
  obtain ⟨a, rfl, _, _, wa⟩ := open_int Try.underlying22 hv h
  obtain ⟨n, rfl, hn⟩ := u64_of wa
  exact ⟨n, rfl, hn⟩
theorem cells22 : Try.prog.cellsOf 22 = 1 := by kernel_rfl
theorem cells24 : Try.prog.cellsOf 24 = 2 := by kernel_rfl
theorem cells38 : Try.prog.cellsOf 38 = 2 := by kernel_rfl
/-- Two numbers' cells, of an array. -/
theorem pair_cells {fuel : Nat} {cs : List Value} {x : DataW H × List MemPlace} (h : DataW.trod enc Try.prog W 0 (fun _ => true) true fuel 38 cs = some x) : ∃ a b : Nat, cs = [.int .u64 a, .int .u64 b] ∧ a ≤ 18446744073709551615 ∧ b ≤ 18446744073709551615 := by
  obtain ⟨xs, m, _, _, hlen, hxl, hf⟩ := DataW.trod_array Try.underlying38 h
  rw [cells38] at hlen
  obtain ⟨a, b, rfl⟩ : ∃ a b, cs = [a, b] := by
    match cs, hlen with
    | [a, b], _ => exact ⟨a, b, rfl⟩
  have sm : ∀ i, i < 2 → ∃ y, xs[i]? = some y := fun i hi => ⟨xs[i]'(by rw [hxl]; exact hi), List.getElem?_eq_getElem _⟩
  obtain ⟨y0, e0⟩ := sm 0 (by omega)
  obtain ⟨y1, e1⟩ := sm 1 (by omega)
  have h0 := hf 0 (by omega)
  have h1 := hf 1 (by omega)
  rw [cells22, e0] at h0
  rw [cells22, e1] at h1
  obtain ⟨u, eu, _, wu⟩ := DataW.trod_int Try.underlying22 h0
  obtain ⟨v, ev, _, wv⟩ := DataW.trod_int Try.underlying22 h1
  simp at eu ev
  subst eu ev
  obtain ⟨n, rfl, hn⟩ := u64_of wu
  obtain ⟨k, rfl, hk⟩ := u64_of wv
  exact ⟨n, k, rfl, hn, hk⟩
/-- A timer's cells. -/
theorem timer_cells {fuel : Nat} {cs : List Value} {x : DataW H × List MemPlace} (h : DataW.trod enc Try.prog W 0 (fun _ => true) true fuel 24 cs = some x) : ∃ a b : Nat, cs = [.int .u64 a, .int .u64 b] ∧ a ≤ 18446744073709551615 ∧ b ≤ 18446744073709551615 := by
  obtain ⟨xs, m, _, _, hlen, hxl, hf⟩ := DataW.trod_struct Try.underlying24 h
  rw [cells24] at hlen
  obtain ⟨a, b, rfl⟩ : ∃ a b, cs = [a, b] := by
    match cs, hlen with
    | [a, b], _ => exact ⟨a, b, rfl⟩
  have sm : ∀ i, i < 2 → ∃ y, xs[i]? = some y := fun i hi => ⟨xs[i]'(by rw [hxl]; exact hi), List.getElem?_eq_getElem _⟩
  obtain ⟨y0, e0⟩ := sm 0 (by omega)
  obtain ⟨y1, e1⟩ := sm 1 (by omega)
  have h0 : DataW.trod enc Try.prog W 0 (fun _ => true) true m 22 (List.take (Try.prog.cellsOf 22) [a, b]) = xs[0]? := hf 0 _ rfl
  have h1 : DataW.trod enc Try.prog W 0 (fun _ => true) true m 22 (List.take (Try.prog.cellsOf 22) [b]) = xs[1]? := hf 1 _ rfl
  rw [cells22, e0] at h0
  rw [cells22, e1] at h1
  obtain ⟨u, eu, _, wu⟩ := DataW.trod_int Try.underlying22 h0
  obtain ⟨v, ev, _, wv⟩ := DataW.trod_int Try.underlying22 h1
  simp at eu ev
  subst eu ev
  obtain ⟨n, rfl, hn⟩ := u64_of wu
  obtain ⟨k, rfl, hk⟩ := u64_of wv
  exact ⟨n, k, rfl, hn, hk⟩
theorem okWide_array {n : Nat} {e t : TypeId} {r : Reach} {b0 : Nat} {v : Value} (ht : Try.prog.underlying t = some (.array n e)) (h : Value.okWide Try.prog W r b0 t v) : ∃ cs, v = .agg cs ∧ cs.size = Try.prog.cellsOf t := by
  simp only [Value.okWide, ht] at h
  obtain ⟨cs, h1, h2, _⟩ := h
  exact ⟨cs, h1, h2⟩
theorem open_pair {v : Value} {d : DataW H} {p : List MemPlace} {r : Reach} {b0 : Nat} (hv : Value.okWide Try.prog W r b0 38 v) (h : DataW.Trod enc Try.prog W 0 (fun _ => true) true 38 v d p) :
    ∃ a b : Nat, v = .agg #[.int .u64 a, .int .u64 b] ∧ a ≤ 18446744073709551615 ∧ b ≤ 18446744073709551615 := by
  obtain ⟨cs, rfl, hsz⟩ := okWide_array Try.underlying38 hv
  obtain ⟨fuel, ht⟩ := h
  obtain ⟨a, b, e, ha, hb⟩ := pair_cells ht
  obtain ⟨l⟩ := cs
  have e' : l = _ := e
  exact ⟨a, b, by rw [e'], ha, hb⟩
theorem open_timer {v : Value} {d : DataW H} {p : List MemPlace} {r : Reach} {b0 : Nat} (hv : Value.okWide Try.prog W r b0 24 v) (h : DataW.Trod enc Try.prog W 0 (fun _ => true) true 24 v d p) :
    ∃ a b : Nat, v = .agg #[.int .u64 a, .int .u64 b] ∧ a ≤ 18446744073709551615 ∧ b ≤ 18446744073709551615 := by
  obtain ⟨cs, rfl, hsz⟩ := okWide_struct Try.underlying24 hv
  obtain ⟨fuel, ht⟩ := h
  obtain ⟨a, b, e, ha, hb⟩ := timer_cells ht
  obtain ⟨l⟩ := cs
  have e' : l = _ := e
  exact ⟨a, b, by rw [e'], ha, hb⟩
theorem spot_none {w : World} {a : Addr} {v : Value} (h : w.cell? a = some v) : a.spot = none := by
  unfold World.cell? at h
  cases hs : a.spot with
  | none => rfl
  | some s =>
    exfalso
    cases hb : w.heap[a.block]? with
    | none => simp [hb] at h
    | some x => cases x <;> simp [hb, hs] at h
theorem add_none (b o i : Nat) : (⟨b, o, none⟩ : Addr).add i = ⟨b, o + i, none⟩ := by unfold Addr.add; split <;> simp_all
theorem open_pairs {v : Value} {d : DataW H} {p : List MemPlace} {r : Reach} {b0 : Nat} (hv : Value.okWide Try.prog W r b0 37 v) (h : DataW.Trod enc Try.prog W 0 (fun _ => true) true 37 v d p) :
    ∃ A n c L, v = .slice A n c ∧ n = List.length L ∧ Rd W W.heap.size A L ∧ ∀ d ∈ L, d.1 ≤ 18446744073709551615 ∧ d.2 ≤ 18446744073709551615 := by
  obtain ⟨a0, len, cap, rfl⟩ := okWide_slice Try.underlying37 hv
  obtain ⟨fuel, hf⟩ := h
  rcases open_slice Try.underlying37 hf with ⟨hc, _⟩ | ⟨⟨lb, lo, spot⟩, n, c, m, q, D, Pl, hc, _, hl, hm, hmm, _, hi⟩
  · simp [Value.cells] at hc
    obtain ⟨rfl, rfl, rfl⟩ := hc
    exact ⟨_, _, _, [], rfl, rfl, fun h => by simp at h, by simp⟩
  simp [Value.cells] at hc
  obtain ⟨rfl, rfl, rfl⟩ := hc
  rcases Nat.eq_zero_or_pos len with rfl | hpos
  · exact ⟨_, _, _, [], rfl, rfl, fun h => by simp at h, by simp⟩
  have hnm : len ≤ m := by rw [hmm]; simp; exact hl
  have hs : spot = none := by
    obtain ⟨cs, hcs, ht⟩ := hi 0 (by omega)
    obtain ⟨_, hlen, hat⟩ := World.cells?_some hcs
    obtain ⟨a, b, e, _⟩ := pair_cells ht
    rw [cells38] at hat
    have g0 := hat 0 (by omega)
    rw [e] at g0
    have := spot_none g0
    simpa [Addr.add] using this
  subst hs
  have hall : ∀ i, i < len → ∃ y : Nat × Nat, (W.cell? ⟨lb, lo + i * 2, none⟩ = some (.int .u64 y.1) ∧ W.cell? ⟨lb, lo + i * 2 + 1, none⟩ = some (.int .u64 y.2)) ∧ y.1 ≤ 18446744073709551615 ∧ y.2 ≤ 18446744073709551615 := by
    intro i hin
    obtain ⟨cs, hcs, ht⟩ := hi i (by omega)
    obtain ⟨_, hlen, hat⟩ := World.cells?_some hcs
    obtain ⟨a, b, e, rest⟩ := pair_cells ht
    rw [cells38, e] at hat
    have g0 := hat 0 (by omega)
    have g1 := hat 1 (by omega)
    rw [add_none, add_none] at g0 g1
    rw [Nat.add_zero] at g0
    exact ⟨(a, b), ⟨g0, g1⟩, rest⟩
  obtain ⟨Y, hY⟩ := choose_lt hall
  have hlen : ((List.range len).map Y).length = len := by simp
  have hget : ∀ i, i < len → ((List.range len).map Y)[i]! = Y i := fun i hi => by
    rw [getElem!_pos _ i (by rw [hlen]; exact hi), List.getElem_map, List.getElem_range]
  refine ⟨_, _, _, (List.range len).map Y, rfl, hlen.symm, fun _ => ⟨lb, lo, rfl, World.block_lt_of_cell? W _ (hY 0 hpos).1.1, fun i hi => ?_⟩, fun d hd => ?_⟩
  · rw [hlen] at hi
    rw [hget i hi]
    exact (hY i hi).1
  · obtain ⟨i, hi, rfl⟩ := List.mem_map.1 hd
    exact (hY i (List.mem_range.1 hi)).2
end
end Go.Proofs.Ytmmpbehgcejfaaa
