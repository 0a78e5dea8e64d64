/-
CellsVoid: no cells tell nothing, and keep nothing; cells that no call made are new ones. No condition.
-/
import Derived.Test.YtikjlmlbbjbcmaaLift
import Derived.Test.YtikjlmlbbjbcmaaF2
namespace Go.Proofs.Ytikjlmlbbjbcmaa.cellsVoid
open Go.ChangeShapes Go.WideShapes Go.ChangeAt Go.RowKit
set_option linter.unusedVariables false

/-- An act that comes in by value. -/
theorem open_act {H : Type} {enc : TypeId × Value → H} {W : World} {r : Reach} {b0 : Nat} {v : Value} {d : DataW H} {p : List MemPlace} (hv : Value.okWide Try.prog W r b0 39 v) (h : DataW.Trod enc Try.prog W 0 (fun _ => true) true 39 v d p) :
    ∃ (k a w u : Nat) (b : Bool), v = .agg #[.int .u8 k, .int .u32 a, .int .u64 w, .int .u64 u, .bool b] ∧ a < 4294967296 ∧ w < 18446744073709551616 := by
  obtain ⟨cs, rfl, hsz⟩ := okWide_struct Try.underlying39 hv
  obtain ⟨fuel, ht⟩ := h
  have h5 : Try.prog.cellsOf 39 = 5 := by kernel_rfl
  rw [h5] at hsz
  obtain ⟨k, c0, _⟩ := num_at (t := 5) (k := .u8) Try.underlying39 ht 0 _ rfl rfl (by kernel_rfl) (by rw [h5]; omega) rfl Try.underlying5 rfl
  obtain ⟨a, c1, b1⟩ := num_at (t := 27) (k := .u32) Try.underlying39 ht 1 _ rfl rfl (by kernel_rfl) (by rw [h5]; omega) rfl Try.underlying27 rfl
  obtain ⟨v, c2, b2⟩ := num_at (t := 28) (k := .u64) Try.underlying39 ht 2 _ rfl rfl (by kernel_rfl) (by rw [h5]; omega) rfl Try.underlying28 rfl
  obtain ⟨u, c3, _⟩ := num_at (t := 28) (k := .u64) Try.underlying39 ht 3 _ rfl rfl (by kernel_rfl) (by rw [h5]; omega) rfl Try.underlying28 rfl
  obtain ⟨x, z, mm, c4, hz⟩ := field_at Try.underlying39 ht 4 _ rfl rfl (by kernel_rfl) (by rw [h5]; omega)
  obtain ⟨rr, e4, _⟩ := DataW.trod_bool Try.underlying4 hz
  simp at e4
  subst e4
  simp [IntKind.max, IntKind.bits, IntKind.signed] at b1 b2
  refine ⟨k, a, v, u, rr, ?_, by omega, by omega⟩
  obtain ⟨l⟩ := cs
  match l, hsz with
  | [x0, x1, x2, x3, x4], _ =>
    simp [Value.cells] at c0 c1 c2 c3 c4
    rw [c0, c1, c2, c3, c4]
set_option maxRecDepth 100000 in
theorem lifted (os : Os) (started : os.Started) (H : Type) (enc : TypeId × Value → H) :
    ReturnsInHanded {} Try.checked os 4 .any (Rows.cellsVoidSpec.pre6 enc Try.prog Try.f4 Rows.cellsVoidRow.domain false) (Rows.cellsVoidSpec.post enc Try.prog Try.f4 false true false false) := by
  refine returnsInHanded_of_change (C := Try.checked) own started (by kernel_rfl) Try.func4
    (ChangeSpec.witness6 (enc := enc) (C := Try.checked) false ⟨#[], #[.agg #[.int .u8 0, .int .u32 0, .int .u64 0, .int .u64 0, .bool false]], []⟩ 8 (by kernel_rfl) (by kernel_rfl) (by kernel_rfl) (by kernel_rfl)) ?_
  intro W base args ds gs before hval0 hW hcnd _
  have hval : ∀ (j : Nat) t v, Try.f4.params[j]? = some t → args[j]? = some v → Value.okWide Try.prog W .any base t v := hval0
  have hW' := hW
  obtain ⟨p, q, hA0, hV, rfl, hfz, hnd⟩ := hW
  have hA : DataW.TrodAll enc Try.prog W 0 (fun _ => true) true Try.f4.params.toList args.toList ds p := hA0
  rw [Try.params4] at hA hval
  obtain ⟨v0, vs0, d0, ds0, p0, q0, hargs, rfl, rfl, h0, r0⟩ := trodAll_cons hA
  obtain ⟨rfl, rfl, rfl⟩ := trodAll_nil r0
  obtain rfl : args = #[v0] := by cases args; simp_all
  obtain ⟨rfl, rfl⟩ := trodVars_none hV
  obtain ⟨k, a, v, u, b, rfl, ha, hv⟩ := open_act (hval 0 39 v0 rfl rfl) h0
  clear hA0 hval0
  simp only [List.append_nil] at hW'
  have hlt : ∀ x ∈ p0, x.block < W.heap.size := fun x hx => by simpa using hW'.lt x hx
  refine (law_void k a v u b ha hv W).mono fun e W' ⟨he, hg⟩ => ?_
  subst he
  exact ⟨_, rfl, _, _, _, [], p0, [], hW', trodAll_mk1 (shut_bool Try.underlying4 _), trodAll_mk1 (Below.trod laidOut (by kernel_rfl) (of_decide_eq_true (by kernel_rfl)) h0 hg hlt), rfl, hg.frame _, fun h => by cases h⟩

theorem over : Rows.cellsVoidRow.holds Try.pinned (OpenSpec.ofChange Rows.cellsVoidSpec) :=
  OpenClaim.holds_of_wide 4 Try.f4 rfl rfl rfl rfl rfl rfl rfl ⟨rfl, rfl, rfl, rfl, rfl⟩ rfl rfl rfl rfl rfl (by kernel_rfl) Try.func4 (by kernel_rfl)
    (of_decide_eq_true (by kernel_rfl)) (by unfold Func.isWrapper; first | (rw [if_pos (by decide +kernel)]; kernel_rfl) | (rw [if_neg (by decide +kernel)]; exact ⟨rfl, rfl⟩))
    (fun os started H enc _ => lifted os started H enc)
theorem proved : Rows.CellsVoidSaid := over
#print axioms proved
end Go.Proofs.Ytikjlmlbbjbcmaa.cellsVoid
