/- What comes in, opened: two numbers of 16 bits. -/
import Derived.Test.YtdfokceecnmocaaRows
import Derived.Test.YtdfokceecnmocaaS16K
import Derived.Lib.SmallJoins
import Derived.ProofKit
import Derived.OpenShut
import Derived.Deep.Slices
import Derived.Carry
set_option linter.unusedVariables false
set_option linter.unusedSimpArgs false
namespace Go.Proofs.Ytdfokceecnmocaa
open Go.ChangeShapes Go.WideShapes Go.ChangeAt Go.RowKit Go.Deep

theorem own : ownKnob Try.prog.godebug = none := by kernel_rfl
theorem laidOut : laidOutB Try.prog = true := by kernel_rfl
section
variable {H : Type} {enc : TypeId × Value → H} {W : World}
set_option maxRecDepth 100000 in
theorem okWide_array {n : Nat} {e t : TypeId} {r : Reach} {b0 : Nat} {v : Value} (ht : Try.prog.underlying t = some (.array n e)) (h : Value.okWide Try.prog W r b0 t v) : ∃ cs, v = .agg cs ∧ cs.size = Try.prog.cellsOf t := by
  simp only [Value.okWide, ht] at h
  obtain ⟨cs, h1, h2, _⟩ := h
  exact ⟨cs, h1, h2⟩
set_option maxRecDepth 100000 in
/-- One number of an array's. -/
theorem elem_at {n : Nat} {t e : TypeId} {k : IntKind} {M fuel : Nat} {cs : List Value} {x : DataW H × List MemPlace} (ht : Try.prog.underlying t = some (.array n e)) (he : Try.prog.underlying e = some (.int k)) (h0 : k.min = 0) (h1 : k.max = (M : Int)) (hc : Try.prog.cellsOf e = 1) (hl : Try.prog.cellsOf t = n)
    (h : DataW.trod enc Try.prog W 0 (fun _ => true) true fuel t cs = some x) (j : Nat) (hj : j < n) : ∃ a : Nat, cs[j]? = some (.int k a) ∧ a ≤ M := by
  obtain ⟨xs, m, _, _, hlen, hxl, hf⟩ := DataW.trod_array ht h
  have hx := hf j hj
  rw [hc, Nat.mul_one] at hx
  have hjc : j < cs.length := by rw [hlen, hl]; exact hj
  have hd : (cs.drop j).take 1 = [cs[j]] := by rw [List.drop_eq_getElem_cons hjc]; rfl
  rw [hd, List.getElem?_eq_getElem (by rw [hxl]; exact hj)] at hx
  obtain ⟨a, e1, _, wa⟩ := DataW.trod_int he hx
  simp at e1
  simp [Lit.wf, h0, h1] at wa
  obtain ⟨n, rfl⟩ := Int.eq_ofNat_of_zero_le wa.1
  exact ⟨n, by rw [List.getElem?_eq_getElem hjc, e1], by omega⟩
set_option maxRecDepth 100000 in
/-- Two numbers. -/
theorem open_two {v : Value} {d : DataW H} {p : List MemPlace} {r : Reach} {b0 : Nat} (hv : Value.okWide Try.prog W r b0 55 v) (h : DataW.Trod enc Try.prog W 0 (fun _ => true) true 55 v d p) :
    ∃ x0 x1 : Nat, v = .agg #[.int .u16 x0, .int .u16 x1] ∧ x0 < 65536 ∧ x1 < 65536 := by
  obtain ⟨cs, rfl, hsz⟩ := okWide_array Try.underlying55 hv
  obtain ⟨fuel, hf⟩ := h
  have h4 : Try.prog.cellsOf 55 = 2 := by kernel_rfl
  have h1 : Try.prog.cellsOf 22 = 1 := by kernel_rfl
  rw [h4] at hsz
  have el := fun j hj => elem_at (M := 65535) Try.underlying55 Try.underlying22 rfl rfl h1 h4 hf j hj
  obtain ⟨a0, c0, b0⟩ := el 0 (by omega)
  obtain ⟨a1, c1, b1⟩ := el 1 (by omega)
  refine ⟨a0, a1, ?_, by omega, by omega⟩
  obtain ⟨l⟩ := cs
  match l, hsz with
  | [x0, x1], _ =>
    simp [Value.cells] at c0 c1
    rw [c0, c1]
end
end Go.Proofs.Ytdfokceecnmocaa
