/- What comes in, opened: what is asked of a queue. -/
import Derived.Test.YtemdaafnmjenmaaLift2
namespace Go.Proofs.Ytemdaafnmjenmaa
open Go.ChangeShapes Go.WideShapes Go.ChangeAt Go.RowKit Go.Deep
section
variable {H : Type} {enc : TypeId × Value → H} {W : World}
theorem open_asked {v : Value} {d : DataW H} {p : List MemPlace} {r : Reach} {b0 : Nat} (hv : Value.okWide Try.prog W r b0 49 v) (h : DataW.Trod enc Try.prog W 0 (fun _ => true) true 49 v d p) :
    ∃ (most : Int) (C : Option Addr) (nb cb : Nat) (kt : Int) (cl : List Nat), v = .agg #[.int .i64 most, .slice C nb cb, .int .u32 kt] ∧ (-9223372036854775808 ≤ most ∧ most ≤ 9223372036854775807) ∧ nb = cl.length ∧ nb ≤ 9223372036854775807 ∧ Rd W W.heap.size C (cl.map bv) ∧ ∀ x ∈ cl, x < 256 := by
  obtain ⟨cs, rfl, hsz⟩ := okWide_struct Try.underlying49 hv
  obtain ⟨fuel, ht⟩ := h
  have h5 : Try.prog.cellsOf 49 = 3 := by kernel_rfl
  rw [h5] at hsz
  obtain ⟨most, c0, wm⟩ := int_at (t := 3) (k := .i64) Try.underlying49 ht 0 _ rfl rfl (by kernel_rfl) (by rw [h5]; omega) rfl Try.underlying3
  obtain ⟨u, z, m, c1, hz⟩ := field_at Try.underlying49 ht 1 _ rfl rfl (by kernel_rfl) (by rw [h5]; omega)
  obtain ⟨kt, c2, _⟩ := int_at (t := 24) (k := .u32) Try.underlying49 ht 2 _ rfl rfl (by kernel_rfl) (by rw [h5]; omega) rfl Try.underlying24
  obtain ⟨C, nb, cb, cl, e, h1, h2, h3, h4⟩ := open_list8 hz
  simp at e
  subst e
  have hb : -9223372036854775808 ≤ most ∧ most ≤ 9223372036854775807 := by
    simp [Lit.wf, IntKind.min, IntKind.max, IntKind.bits, IntKind.signed] at wm; omega
  refine ⟨most, C, nb, cb, kt, cl, ?_, hb, h1, h2, h3, h4⟩
  obtain ⟨l⟩ := cs
  match l, hsz with
  | [x0, x1, x2], _ =>
    simp [Value.cells] at c0 c1 c2
    rw [c0, c1, c2]
end
end Go.Proofs.Ytemdaafnmjenmaa
