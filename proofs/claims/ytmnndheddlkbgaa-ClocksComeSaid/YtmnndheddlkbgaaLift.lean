/- What comes in, opened: numbers, lists of them, deadlines, acts. -/
import Derived.Test.YtmnndheddlkbgaaRows
import Derived.Test.YtmnndheddlkbgaaA1
import Derived.Lib.SmallJoins
import Derived.ProofKit
import Derived.OpenShut
import Derived.Deep.Slices
import Derived.Carry
namespace Go.Proofs.Ytmnndheddlkbgaa
open Go.ChangeShapes Go.WideShapes Go.ChangeAt Go.RowKit Go.Deep

theorem own : ownKnob Try.prog.godebug = none := by kernel_rfl
theorem laidOut : laidOutB Try.prog = true := by kernel_rfl
theorem cells23 : Try.prog.cellsOf 23 = 1 := by kernel_rfl
section
variable {H : Type} {enc : TypeId × Value → H} {W : World}
theorem u64_of {a : Int} (h : (Lit.int .u64 a).wf = true) : ∃ n : Nat, a = n ∧ n ≤ 18446744073709551615 := by
  simp [Lit.wf, IntKind.min, IntKind.max, IntKind.bits, IntKind.signed] at h
  obtain ⟨n, rfl⟩ := Int.eq_ofNat_of_zero_le h.1
  exact ⟨n, rfl, by omega⟩
theorem open_u64 {v : Value} {d : DataW H} {p : List MemPlace} {r : Reach} {b0 : Nat} (hv : Value.okWide Try.prog W r b0 23 v) (h : DataW.Trod enc Try.prog W 0 (fun _ => true) true 23 v d p) : ∃ n : Nat, v = .int .u64 n ∧ n ≤ 18446744073709551615 := by
  obtain ⟨a, rfl, _, _, wa⟩ := open_int Try.underlying23 hv h
  obtain ⟨n, rfl, hn⟩ := u64_of wa
  exact ⟨n, rfl, hn⟩
theorem spot_none {w : World} {a : Addr} {v : Value} (h : w.cell? a = some v) : a.spot = none := by
  unfold World.cell? at h
  cases hs : a.spot with
  | none => rfl
  | some s =>
    exfalso
    cases hb : w.heap[a.block]? with
    | none => simp [hb] at h
    | some x => cases x <;> simp [hb, hs] at h
theorem open_list {fuel : Nat} {cs : List Value} {x : DataW H × List MemPlace} (h : DataW.trod enc Try.prog W 0 (fun _ => true) true fuel 22 cs = some x) :
    ∃ A c L, cs = [.slice A L.length c] ∧ L.length ≤ c ∧ c ≤ 9223372036854775807 ∧ Rd W W.heap.size A L ∧ ∀ d ∈ L, d ≤ 18446744073709551615 := by
  rcases open_ints Try.underlying22 Try.underlying23 cells23 h with ⟨rfl, _⟩ | ⟨a, len, cap, zs, rfl, _, hl, hc, hzl, _, hcell, hwf⟩
  · exact ⟨none, 0, [], rfl, Nat.le_refl _, by omega, Rd.nil, by simp⟩
  · simp at hzl
    unfold maxLen at hc
    have hex : ∀ z ∈ zs.take len, ∃ n : Nat, z = n ∧ n ≤ 18446744073709551615 := fun z hz => u64_of (hwf z (List.mem_of_mem_take hz))
    have hlen : ((zs.take len).map Int.toNat).length = len := by simp; omega
    have hget : ∀ i, i < len → (((zs.take len).map Int.toNat)[i]! : Int) = zs.getD i 0 := fun i hi => by
      have h1 : i < ((zs.take len).map Int.toNat).length := by omega
      have h2 : i < zs.length := by omega
      rw [getElem!_pos _ i h1, List.getElem_map, List.getElem_take, List.getD_eq_getElem?_getD, List.getElem?_eq_getElem h2]
      obtain ⟨n, e, _⟩ := u64_of (hwf _ (List.getElem_mem h2))
      simp [e]
    refine ⟨some a, cap, (zs.take len).map Int.toNat, by rw [hlen], by omega, by omega, fun hp => ?_, fun d hd => ?_⟩
    · rw [hlen] at hp
      obtain ⟨b, o, spot⟩ := a
      have h0 := hcell 0 (by omega)
      have hs : spot = none := by
        have := spot_none h0
        simpa [Addr.add] using this
      subst hs
      refine ⟨b, o, rfl, ?_, fun i hi => ?_⟩
      · rw [add_none] at h0
        exact World.block_lt_of_cell? W _ h0
      · rw [hlen] at hi
        have h1 := hcell i (by omega)
        rw [add_none] at h1
        rw [h1]
        unfold uv
        rw [hget i hi]
    · obtain ⟨z, hz, rfl⟩ := List.mem_map.1 hd
      obtain ⟨n, rfl, hn⟩ := hex z hz
      simpa using hn
theorem open_u64s {v : Value} {d : DataW H} {p : List MemPlace} {r : Reach} {b0 : Nat} (hv : Value.okWide Try.prog W r b0 22 v) (h : DataW.Trod enc Try.prog W 0 (fun _ => true) true 22 v d p) :
    ∃ A c L, v = .slice A L.length c ∧ L.length ≤ c ∧ c ≤ 9223372036854775807 ∧ Rd W W.heap.size A L ∧ ∀ d ∈ L, d ≤ 18446744073709551615 := by
  obtain ⟨a, len, cap, rfl⟩ := okWide_slice Try.underlying22 hv
  obtain ⟨fuel, hf⟩ := h
  obtain ⟨A, c, L, e, h1⟩ := open_list hf
  simp [Value.cells] at e
  obtain ⟨rfl, rfl, rfl⟩ := e
  exact ⟨_, _, L, rfl, h1⟩
end
end Go.Proofs.Ytmnndheddlkbgaa
