/- What comes in, opened: bytes. -/
import Derived.Test.YthafnphpcdbnlaaGreatRows
import Derived.Test.YthafnphpcdbnlaaGreatS15Rf
import Derived.Lib.SmallJoins
import Derived.ProofKit
import Derived.OpenShut
import Derived.Deep.Slices
import Derived.Carry
namespace Go.Proofs.YthafnphpcdbnlaaGreat
open Go.ChangeShapes Go.WideShapes Go.ChangeAt Go.RowKit Go.Deep
set_option linter.unusedVariables false
set_option linter.unusedSimpArgs false

theorem own : ownKnob Tryz.prog.godebug = none := by kernel_rfl
theorem laidOut : laidOutB Tryz.prog = true := by kernel_rfl
theorem sz5 : Tryz.prog.cellsOf 5 = 1 := by kernel_rfl
theorem spot_none {w : World} {a : Addr} {v : Value} (h : w.cell? a = some v) : a.spot = none := by
  unfold World.cell? at h
  cases hs : a.spot with
  | none => rfl
  | some s =>
    exfalso
    cases hb : w.heap[a.block]? with
    | none => simp [hb] at h
    | some x => cases x <;> simp [hb, hs] at h
theorem add_none (b o i : Nat) : (⟨b, o, none⟩ : Addr).add i = ⟨b, o + i, none⟩ := by unfold Addr.add; split <;> simp_all
set_option maxRecDepth 100000 in
/-- Bytes that came in. -/
theorem bytes_open {H : Type} {enc : TypeId × Value → H} {W : World} {v : Value} {d : DataW H} {p : List MemPlace} {r : Reach} {b0 : Nat} (hv : Value.okWide Tryz.prog W r b0 22 v) (h : DataW.Trod enc Tryz.prog W 0 (fun _ => true) true 22 v d p) :
    ∃ (A : Option Addr) (n c : Nat) (L : Nat → Nat), v = .slice A n c ∧ (0 < n → ∃ g o, A = some ⟨g, o, none⟩ ∧ g < W.heap.size ∧ ∀ i, i < n → L i < 256 ∧ W.cell? ⟨g, o + i, none⟩ = some (.int .u8 (L i : Int))) := by
  obtain ⟨a0, len0, cap0, rfl⟩ := okWide_slice Tryz.underlying22 hv
  obtain ⟨fuel, hf⟩ := h
  rcases open_ints Tryz.underlying22 Tryz.underlying5 sz5 hf with ⟨hc, _⟩ | ⟨⟨lb, lo, spot⟩, len, cap, zs, hc, _, hl, hm, hzl, _, hcell, hwf⟩
  · simp [Value.cells] at hc
    obtain ⟨rfl, rfl, rfl⟩ := hc
    exact ⟨none, 0, 0, fun _ => 0, rfl, fun h => by omega⟩
  · simp [Value.cells] at hc
    obtain ⟨rfl, rfl, rfl⟩ := hc
    simp at hzl
    unfold maxLen at hm
    refine ⟨_, len0, cap0, fun i => (zs.getD i 0).toNat, rfl, fun hp => ?_⟩
    have h0 := hcell 0 (by omega)
    have hs : spot = none := by
      have := spot_none h0
      simpa [Addr.add] using this
    subst hs
    refine ⟨lb, lo, rfl, ?_, fun i hi => ?_⟩
    · rw [add_none] at h0
      exact World.block_lt_of_cell? W _ h0
    · have h1 := hcell i (by omega)
      rw [add_none] at h1
      have h2 : i < zs.length := by omega
      have e : zs.getD i 0 = zs[i] := by rw [List.getD_eq_getElem?_getD, List.getElem?_eq_getElem h2]; rfl
      have hw : (Lit.int .u8 (zs.getD i 0)).wf = true := by rw [e]; exact hwf _ (List.getElem_mem h2)
      have hb : 0 ≤ zs.getD i 0 ∧ zs.getD i 0 ≤ 255 := by
        simp [Lit.wf, IntKind.min, IntKind.max, IntKind.bits, IntKind.signed] at hw
        simpa using hw
      refine ⟨by show (zs.getD i 0).toNat < 256; omega, ?_⟩
      have e3 : (((zs.getD i 0).toNat : Nat) : Int) = zs.getD i 0 := Int.toNat_of_nonneg hb.1
      show W.cell? ⟨lb, lo + i, none⟩ = some (.int .u8 (((zs.getD i 0).toNat : Nat) : Int))
      rw [e3]
      exact h1
section
variable {H : Type} {enc : TypeId × Value → H} {W : World}
set_option maxRecDepth 100000 in
theorem okWide_array {n : Nat} {e t : TypeId} {r : Reach} {b0 : Nat} {v : Value} (ht : Tryz.prog.underlying t = some (.array n e)) (h : Value.okWide Tryz.prog W r b0 t v) : ∃ cs, v = .agg cs ∧ cs.size = Tryz.prog.cellsOf t := by
  simp only [Value.okWide, ht] at h
  obtain ⟨cs, h1, h2, _⟩ := h
  exact ⟨cs, h1, h2⟩
set_option maxRecDepth 100000 in
/-- One number of an array. -/
theorem elem_at {n : Nat} {t e : TypeId} {k : IntKind} {M fuel : Nat} {cs : List Value} {x : DataW H × List MemPlace} (ht : Tryz.prog.underlying t = some (.array n e)) (he : Tryz.prog.underlying e = some (.int k)) (h0 : k.min = 0) (h1 : k.max = (M : Int)) (hc : Tryz.prog.cellsOf e = 1) (hl : Tryz.prog.cellsOf t = n)
    (h : DataW.trod enc Tryz.prog W 0 (fun _ => true) true fuel t cs = some x) (j : Nat) (hj : j < n) : ∃ a : Nat, cs[j]? = some (.int k a) ∧ a ≤ M := by
  obtain ⟨xs, m, _, _, hlen, hxl, hf⟩ := DataW.trod_array ht h
  have hx := hf j hj
  rw [hc, Nat.mul_one] at hx
  have hjc : j < cs.length := by rw [hlen, hl]; exact hj
  have hd : (cs.drop j).take 1 = [cs[j]] := by rw [List.drop_eq_getElem_cons hjc]; rfl
  rw [hd, List.getElem?_eq_getElem (by rw [hxl]; exact hj)] at hx
  obtain ⟨a, e1, _, wa⟩ := DataW.trod_int he hx
  simp at e1
  simp [Lit.wf, h0, h1] at wa
  obtain ⟨n, rfl⟩ := Int.eq_ofNat_of_zero_le wa.1
  exact ⟨n, by rw [List.getElem?_eq_getElem hjc, e1], by omega⟩
end
set_option maxRecDepth 100000 in
/-- Five numbers of 16 bits. -/
theorem open_five {H : Type} {enc : TypeId × Value → H} {W : World} {v : Value} {d : DataW H} {p : List MemPlace} {r : Reach} {b0 : Nat} (hv : Value.okWide Tryz.prog W r b0 24 v) (h : DataW.Trod enc Tryz.prog W 0 (fun _ => true) true 24 v d p) :
    ∃ K : Nat → Nat, v = .agg #[.int .u16 (K 0 : Int), .int .u16 (K 1 : Int), .int .u16 (K 2 : Int), .int .u16 (K 3 : Int), .int .u16 (K 4 : Int)] ∧ ∀ j, j < 5 → K j < 65536 := by
  obtain ⟨cs, rfl, hsz⟩ := okWide_array Tryz.underlying24 hv
  obtain ⟨fuel, hf⟩ := h
  have h4 : Tryz.prog.cellsOf 24 = 5 := by kernel_rfl
  have h1 : Tryz.prog.cellsOf 23 = 1 := by kernel_rfl
  rw [h4] at hsz
  have el := fun j hj => elem_at (M := 65535) Tryz.underlying24 Tryz.underlying23 rfl rfl h1 h4 hf j hj
  obtain ⟨a0, c0, b0⟩ := el 0 (by omega)
  obtain ⟨a1, c1, b1⟩ := el 1 (by omega)
  obtain ⟨a2, c2, b2⟩ := el 2 (by omega)
  obtain ⟨a3, c3, b3⟩ := el 3 (by omega)
  obtain ⟨a4, c4, b4⟩ := el 4 (by omega)
  refine ⟨fun j => if j = 0 then a0 else if j = 1 then a1 else if j = 2 then a2 else if j = 3 then a3 else a4, ?_, fun j hj => ?_⟩
  · obtain ⟨l⟩ := cs
    match l, hsz with
    | [x0, x1, x2, x3, x4], _ =>
      simp [Value.cells] at c0 c1 c2 c3 c4
      rw [c0, c1, c2, c3, c4]
      rfl
  · show (if j = 0 then a0 else if j = 1 then a1 else if j = 2 then a2 else if j = 3 then a3 else a4) < 65536
    split
    · omega
    · split
      · omega
      · split
        · omega
        · split <;> omega
end Go.Proofs.YthafnphpcdbnlaaGreat
