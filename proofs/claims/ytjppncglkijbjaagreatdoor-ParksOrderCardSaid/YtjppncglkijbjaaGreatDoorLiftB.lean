/- What comes in, opened: bytes, a word. -/
import Derived.Test.YtjppncglkijbjaaGreatDoorB46
import Derived.Deep.Slices
set_option linter.unusedVariables false
set_option linter.unusedSimpArgs false
namespace Go.Proofs.YtjppncglkijbjaaGreatDoor.S19
open Go.Proofs.YtjppncglkijbjaaGreatDoor Go.ChangeShapes Go.WideShapes Go.ChangeAt Go.RowKit Go.Deep
theorem szB8 : Tryz.prog.cellsOf 5 = 1 := by kernel_rfl
theorem spot_none {w : World} {a : Addr} {v : Value} (h : w.cell? a = some v) : a.spot = none := by
  unfold World.cell? at h
  cases hs : a.spot with
  | none => rfl
  | some s =>
    exfalso
    cases hb : w.heap[a.block]? with
    | none => simp [hb] at h
    | some x => cases x <;> simp [hb, hs] at h
theorem addB_none (b o i : Nat) : (⟨b, o, none⟩ : Addr).add i = ⟨b, o + i, none⟩ := by unfold Addr.add; split <;> simp_all
set_option maxRecDepth 100000 in
/-- Bytes that came in. -/
theorem bytes_open {H : Type} {enc : TypeId × Value → H} {W : World} {v : Value} {d : DataW H} {p : List MemPlace} {r : Reach} {b0 : Nat} (hv : Value.okWide Tryz.prog W r b0 22 v) (h : DataW.Trod enc Tryz.prog W 0 (fun _ => true) true 22 v d p) :
    ∃ (A : Option Addr) (n c : Nat) (L : Nat → Nat), v = .slice A n c ∧ (0 < n → ∃ g o, A = some ⟨g, o, none⟩ ∧ g < W.heap.size ∧ ∀ i, i < n → L i < 256 ∧ W.cell? ⟨g, o + i, none⟩ = some (.int .u8 (L i : Int))) := by
  obtain ⟨a0, len0, cap0, rfl⟩ := okWide_slice Tryz.underlying22 hv
  obtain ⟨fuel, hf⟩ := h
  rcases open_ints Tryz.underlying22 Tryz.underlying5 szB8 hf with ⟨hc, _⟩ | ⟨⟨lb, lo, spot⟩, len, cap, zs, hc, _, hl, hm, hzl, _, hcell, hwf⟩
  · simp [Value.cells] at hc
    obtain ⟨rfl, rfl, rfl⟩ := hc
    exact ⟨none, 0, 0, fun _ => 0, rfl, fun h => by omega⟩
  · simp [Value.cells] at hc
    obtain ⟨rfl, rfl, rfl⟩ := hc
    simp at hzl
    unfold maxLen at hm
    refine ⟨_, len0, cap0, fun i => (zs.getD i 0).toNat, rfl, fun hp => ?_⟩
    have h0 := hcell 0 (by omega)
    have hs : spot = none := by
      have := spot_none h0
      simpa [Addr.add] using this
    subst hs
    refine ⟨lb, lo, rfl, ?_, fun i hi => ?_⟩
    · rw [addB_none] at h0
      exact World.block_lt_of_cell? W _ h0
    · have h1 := hcell i (by omega)
      rw [addB_none] at h1
      have h2 : i < zs.length := by omega
      have e : zs.getD i 0 = zs[i] := by rw [List.getD_eq_getElem?_getD, List.getElem?_eq_getElem h2]; rfl
      have hw : (Lit.int .u8 (zs.getD i 0)).wf = true := by rw [e]; exact hwf _ (List.getElem_mem h2)
      have hb : 0 ≤ zs.getD i 0 ∧ zs.getD i 0 ≤ 255 := by
        simp [Lit.wf, IntKind.min, IntKind.max, IntKind.bits, IntKind.signed] at hw
        simpa using hw
      refine ⟨by show (zs.getD i 0).toNat < 256; omega, ?_⟩
      have e3 : (((zs.getD i 0).toNat : Nat) : Int) = zs.getD i 0 := Int.toNat_of_nonneg hb.1
      show W.cell? ⟨lb, lo + i, none⟩ = some (.int .u8 (((zs.getD i 0).toNat : Nat) : Int))
      rw [e3]
      exact h1
set_option maxRecDepth 100000 in
theorem u64_open {H : Type} {enc : TypeId × Value → H} {W : World} {v : Value} {d : DataW H} {p : List MemPlace} {r : Reach} {b0 : Nat} (hv : Value.okWide Tryz.prog W r b0 23 v) (h : DataW.Trod enc Tryz.prog W 0 (fun _ => true) true 23 v d p) : ∃ n : Nat, v = .int .u64 n ∧ n < 18446744073709551616 := by
  obtain ⟨a, rfl, _, _, wa⟩ := open_int Tryz.underlying23 hv h
  obtain ⟨n, rfl, hn⟩ := S18.nat_of (M := 18446744073709551615) rfl rfl wa
  exact ⟨n, rfl, by omega⟩
end Go.Proofs.YtjppncglkijbjaaGreatDoor.S19
