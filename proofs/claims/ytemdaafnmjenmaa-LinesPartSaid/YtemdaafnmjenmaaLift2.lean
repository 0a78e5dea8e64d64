/- What comes in, opened: bytes. -/
import Derived.Test.YtemdaafnmjenmaaLift
namespace Go.Proofs.Ytemdaafnmjenmaa
open Go.ChangeShapes Go.WideShapes Go.ChangeAt Go.RowKit Go.Deep
section
variable {H : Type} {enc : TypeId × Value → H} {W : World}
theorem byte_of {a : Int} (h : (Lit.int .u8 a).wf = true) : ∃ n : Nat, a = n ∧ n < 256 := by
  obtain ⟨b0, b1⟩ : 0 ≤ a ∧ a < 256 := by simp [Lit.wf, IntKind.min, IntKind.max, IntKind.bits, IntKind.signed] at h; omega
  obtain ⟨n, rfl⟩ := Int.eq_ofNat_of_zero_le b0
  exact ⟨n, rfl, by omega⟩
theorem cells5 : Try.prog.cellsOf 5 = 1 := by kernel_rfl
theorem open_list8 {fuel : Nat} {cs : List Value} {x : DataW H × List MemPlace} (h : DataW.trod enc Try.prog W 0 (fun _ => true) true fuel 47 cs = some x) :
    ∃ (A : Option Addr) (n c : Nat) (cl : List Nat), cs = [.slice A n c] ∧ n = cl.length ∧ n ≤ 9223372036854775807 ∧ Rd W W.heap.size A (cl.map bv) ∧ ∀ x ∈ cl, x < 256 := by
  rcases open_ints Try.underlying47 Try.underlying5 cells5 h with ⟨rfl, _⟩ | ⟨a, len, cap, zs, rfl, _, hl, hc, hzl, _, hcell, hwf⟩
  · exact ⟨none, 0, 0, [], rfl, rfl, by omega, Rd.nil, by simp⟩
  · simp at hzl
    unfold maxLen at hc
    have hex : ∀ z ∈ zs.take len, ∃ n : Nat, z = n ∧ n < 256 := fun z hz => byte_of (hwf z (List.mem_of_mem_take hz))
    have hlen : ((zs.take len).map Int.toNat).length = len := by simp; omega
    refine ⟨some a, len, cap, (zs.take len).map Int.toNat, rfl, hlen.symm, by omega, fun hp => ?_, fun d hd => ?_⟩
    · rw [List.length_map, hlen] at hp
      obtain ⟨b, o, spot⟩ := a
      have h0 := hcell 0 (by omega)
      have hs : spot = none := by
        have := spot_none h0
        simpa [Addr.add] using this
      subst hs
      refine ⟨b, o, rfl, ?_, fun i u e => ?_⟩
      · rw [add_none] at h0
        exact World.block_lt_of_cell? W _ h0
      · have hi := (List.getElem?_eq_some_iff.1 e).1
        rw [List.length_map, hlen] at hi
        have h1 := hcell i (by omega)
        rw [add_none] at h1
        rw [h1]
        have h2 : i < zs.length := by omega
        rw [List.getElem?_map, List.getElem?_map, List.getElem?_take_of_lt hi, List.getElem?_eq_getElem h2] at e
        simp at e
        obtain ⟨m, em, _⟩ := byte_of (hwf _ (List.getElem_mem h2))
        have hz : zs.getD i 0 = zs[i] := by rw [List.getD_eq_getElem?_getD, List.getElem?_eq_getElem h2]; rfl
        rw [← e, hz, em]
        simp [bv]
    · obtain ⟨z, hz, rfl⟩ := List.mem_map.1 hd
      obtain ⟨n, rfl, hn⟩ := hex z hz
      simpa using hn
/-- Bytes that came in. -/
theorem open_bytes {v : Value} {d : DataW H} {p : List MemPlace} {r : Reach} {b0 : Nat} (hv : Value.okWide Try.prog W r b0 47 v) (h : DataW.Trod enc Try.prog W 0 (fun _ => true) true 47 v d p) :
    ∃ (A : Option Addr) (n c : Nat) (cl : List Nat), v = .slice A n c ∧ n = cl.length ∧ n ≤ 9223372036854775807 ∧ Rd W W.heap.size A (cl.map bv) ∧ ∀ x ∈ cl, x < 256 := by
  obtain ⟨a0, len, cap, rfl⟩ := okWide_slice Try.underlying47 hv
  obtain ⟨fuel, hf⟩ := h
  obtain ⟨A, n, c, cl, e, h1⟩ := open_list8 hf
  simp [Value.cells] at e
  obtain ⟨rfl, rfl, rfl⟩ := e
  exact ⟨_, _, _, cl, rfl, h1⟩
end
end Go.Proofs.Ytemdaafnmjenmaa
