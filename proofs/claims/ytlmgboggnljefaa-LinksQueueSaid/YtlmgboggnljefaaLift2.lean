/- What comes in, opened: bytes. -/
import Derived.Test.YtlmgboggnljefaaLift
import Derived.Test.YtlmgboggnljefaaQ3
namespace Go.Proofs.Ytlmgboggnljefaa
open Go.ChangeShapes Go.WideShapes Go.ChangeAt Go.RowKit Go.Deep
section
variable {H : Type} {enc : TypeId × Value → H} {W : World}
theorem byte_of {a : Int} (h : (Lit.int .u8 a).wf = true) : ∃ n : Nat, a = n ∧ n < 256 := by
  obtain ⟨b0, b1⟩ : 0 ≤ a ∧ a < 256 := by simp [Lit.wf, IntKind.min, IntKind.max, IntKind.bits, IntKind.signed] at h; omega
  obtain ⟨n, rfl⟩ := Int.eq_ofNat_of_zero_le b0
  exact ⟨n, rfl, by omega⟩
theorem cells5 : Try.prog.cellsOf 5 = 1 := by kernel_rfl
/-- Bytes that came in. -/
theorem open_u8s {v : Value} {d : DataW H} {p : List MemPlace} {r : Reach} {b0 : Nat} (hv : Value.okWide Try.prog W r b0 48 v) (h : DataW.Trod enc Try.prog W 0 (fun _ => true) true 48 v d p) :
    ∃ A n c b, v = .slice A n c ∧ n ≤ maxLen ∧ BytesIn W W.heap.size A n b := by
  obtain ⟨a0, len, cap, rfl⟩ := okWide_slice Try.underlying48 hv
  obtain ⟨fuel, hf⟩ := h
  rcases open_ints Try.underlying48 Try.underlying5 cells5 hf with ⟨hc, _⟩ | ⟨a, len', cap', zs, hc, _, hl, hcm, hzl, _, hcell, hwf⟩
  · simp [Value.cells] at hc
    obtain ⟨rfl, rfl, rfl⟩ := hc
    exact ⟨_, _, _, fun _ => 0, rfl, Nat.zero_le _, fun h => absurd h (by omega)⟩
  · simp [Value.cells] at hc
    obtain ⟨rfl, rfl, rfl⟩ := hc
    simp at hzl
    refine ⟨_, len, cap, fun i => (zs.getD i 0).toNat, rfl, by omega, fun hp => ?_⟩
    obtain ⟨lb, lo, spot⟩ := a
    have h0 := hcell 0 (by omega)
    have hs : spot = none := by
      have := spot_none h0
      simpa [Addr.add] using this
    subst hs
    refine ⟨lb, lo, rfl, ?_, fun i hi => ?_⟩
    · rw [add_none] at h0
      exact World.block_lt_of_cell? W _ h0
    · have h1 := hcell i (by omega)
      rw [add_none] at h1
      have h2 : i < zs.length := by omega
      have hz : zs.getD i 0 = zs[i] := by rw [List.getD_eq_getElem?_getD, List.getElem?_eq_getElem h2]; rfl
      obtain ⟨m, e, hm⟩ := byte_of (hwf _ (List.getElem_mem h2))
      show W.cell? _ = some (.int .u8 (((zs.getD i 0).toNat : Nat) : Int)) ∧ (zs.getD i 0).toNat < 256
      rw [hz, e] at h1 ⊢
      exact ⟨h1, hm⟩
end
end Go.Proofs.Ytlmgboggnljefaa
