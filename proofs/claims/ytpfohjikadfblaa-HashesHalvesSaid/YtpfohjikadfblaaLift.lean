/- What comes in, opened: addresses, four bytes, a number of 16 bits. -/
import Derived.Test.YtpfohjikadfblaaRows
import Derived.Test.YtpfohjikadfblaaA5
import Derived.Lib.SmallJoins
import Derived.ProofKit
import Derived.OpenShut
import Derived.Deep.Slices
import Derived.Carry
namespace Go.Proofs.Ytpfohjikadfblaa
open Go.ChangeShapes Go.WideShapes Go.ChangeAt Go.RowKit Go.Deep

theorem own : ownKnob Try.prog.godebug = none := by kernel_rfl
theorem laidOut : laidOutB Try.prog = true := by kernel_rfl
section
variable {H : Type} {enc : TypeId × Value → H} {W : World}
/-- A number that is none below 0. -/
theorem open_nat {t : TypeId} {k : IntKind} {M : Nat} {v : Value} {d : DataW H} {p : List MemPlace} {r : Reach} {b0 : Nat} (ht : Try.prog.underlying t = some (.int k)) (h0 : k.min = 0) (h1 : k.max = (M : Int)) (hv : Value.okWide Try.prog W r b0 t v) (h : DataW.Trod enc Try.prog W 0 (fun _ => true) true t v d p) :
    ∃ n : Nat, v = .int k n ∧ n ≤ M := by
  obtain ⟨a, rfl, _, _, wa⟩ := open_int ht hv h
  simp [Lit.wf, h0, h1] at wa
  obtain ⟨n, rfl⟩ := Int.eq_ofNat_of_zero_le wa.1
  exact ⟨n, rfl, by omega⟩
theorem okWide_array {n : Nat} {e t : TypeId} {r : Reach} {b0 : Nat} {v : Value} (ht : Try.prog.underlying t = some (.array n e)) (h : Value.okWide Try.prog W r b0 t v) : ∃ cs, v = .agg cs ∧ cs.size = Try.prog.cellsOf t := by
  simp only [Value.okWide, ht] at h
  obtain ⟨cs, h1, h2, _⟩ := h
  exact ⟨cs, h1, h2⟩
/-- One number of an array's. -/
theorem elem_at {n : Nat} {t e : TypeId} {k : IntKind} {M fuel : Nat} {cs : List Value} {x : DataW H × List MemPlace} (ht : Try.prog.underlying t = some (.array n e)) (he : Try.prog.underlying e = some (.int k)) (h0 : k.min = 0) (h1 : k.max = (M : Int)) (hc : Try.prog.cellsOf e = 1) (hl : Try.prog.cellsOf t = n)
    (h : DataW.trod enc Try.prog W 0 (fun _ => true) true fuel t cs = some x) (j : Nat) (hj : j < n) : ∃ a : Nat, cs[j]? = some (.int k a) ∧ a ≤ M := by
  obtain ⟨xs, m, _, _, hlen, hxl, hf⟩ := DataW.trod_array ht h
  have hx := hf j hj
  rw [hc, Nat.mul_one] at hx
  have hjc : j < cs.length := by rw [hlen, hl]; exact hj
  have hd : (cs.drop j).take 1 = [cs[j]] := by rw [List.drop_eq_getElem_cons hjc]; rfl
  rw [hd, List.getElem?_eq_getElem (by rw [hxl]; exact hj)] at hx
  obtain ⟨a, e1, _, wa⟩ := DataW.trod_int he hx
  simp at e1
  simp [Lit.wf, h0, h1] at wa
  obtain ⟨n, rfl⟩ := Int.eq_ofNat_of_zero_le wa.1
  exact ⟨n, by rw [List.getElem?_eq_getElem hjc, e1], by omega⟩
/-- Four bytes. -/
theorem open_four {v : Value} {d : DataW H} {p : List MemPlace} {r : Reach} {b0 : Nat} (hv : Value.okWide Try.prog W r b0 28 v) (h : DataW.Trod enc Try.prog W 0 (fun _ => true) true 28 v d p) :
    ∃ x0 x1 x2 x3 : Nat, v = .agg #[.int .u8 x0, .int .u8 x1, .int .u8 x2, .int .u8 x3] ∧ x0 < 256 ∧ x1 < 256 ∧ x2 < 256 ∧ x3 < 256 := by
  obtain ⟨cs, rfl, hsz⟩ := okWide_array Try.underlying28 hv
  obtain ⟨fuel, hf⟩ := h
  have h4 : Try.prog.cellsOf 28 = 4 := by kernel_rfl
  have h1 : Try.prog.cellsOf 5 = 1 := by kernel_rfl
  rw [h4] at hsz
  have el := fun j hj => elem_at (M := 255) Try.underlying28 Try.underlying5 rfl rfl h1 h4 hf j hj
  obtain ⟨a0, c0, b0⟩ := el 0 (by omega)
  obtain ⟨a1, c1, b1⟩ := el 1 (by omega)
  obtain ⟨a2, c2, b2⟩ := el 2 (by omega)
  obtain ⟨a3, c3, b3⟩ := el 3 (by omega)
  refine ⟨a0, a1, a2, a3, ?_, by omega, by omega, by omega, by omega⟩
  obtain ⟨l⟩ := cs
  match l, hsz with
  | [x0, x1, x2, x3], _ =>
    simp [Value.cells] at c0 c1 c2 c3
    rw [c0, c1, c2, c3]
end
end Go.Proofs.Ytpfohjikadfblaa
