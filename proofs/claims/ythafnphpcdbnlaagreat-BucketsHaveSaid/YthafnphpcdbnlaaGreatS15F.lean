/- A way's step: scopes with one label; an Enter, or an Own, beside a world. -/
import Derived.Test.YthafnphpcdbnlaaGreatS15E
import Derived.LoopN
set_option linter.unusedVariables false
set_option linter.unusedSimpArgs false
namespace Go.Proofs.YthafnphpcdbnlaaGreat.S15
open Go.Proofs.YthafnphpcdbnlaaGreat Go.Proofs.YthafnphpcdbnlaaGreat.S11 Go.Proofs.YthafnphpcdbnlaaGreat.S12 Go.Proofs.YthafnphpcdbnlaaGreat.S13 Go.Proofs.YthafnphpcdbnlaaGreat.S14
open Go.RowKit

/-- A scope in which the run goes to its label once: what comes behind it is walked at the goto. -/
def to1 (J0 : Act → World → Prop) (Q : Exit → Act → World → Prop) : Exit → Act → World → Prop
  | .goto l, a, w => l = 0 ∧ J0 a w
  | e, a, w => Q e a w
theorem wp_scope_one {P : Program} {a : Act} {w : World} {Q : Exit → Act → World → Prop} {c r0 : Code} (hf0 : findLabel c 0 = some r0)
    (first : c.wp P (to1 (fun a w => r0.wp P (Exit.noGoto Q) a w) Q) a w) : (Code.scope c).wp P Q a w := by
  intro b k cs
  have key : ∀ (rest : Code) (a : Act) (w : World) (l : Nat), gotoIn l (.inScope c :: k) = some (.code rest :: .inScope c :: k) → rest.wp P (Exit.noGoto Q) a w →
      ∃ e a' w', Q e a' w' ∧ Arrives P (lone (b.at a (.code rest :: .inScope c :: k)) cs w) b k cs e a' w' := by
    intro rest a w l hg h
    obtain ⟨e, a₁, w₁, hq, harr⟩ := h b (.inScope c :: k) cs
    cases e with
    | normal => exact ⟨.normal, a₁, w₁, hq, Steps.trans harr (.one step_inScope)⟩
    | exit id => exact ⟨.exit id, a₁, w₁, hq, fun k' hk => harr k' (by simp [exitTo, hk])⟩
    | goto l' => exact hq.elim
    | ret => exact ⟨_, a₁, w₁, hq, harr⟩
    | panic ch => exact ⟨_, a₁, w₁, hq, harr⟩
    | outgrown => exact ⟨_, a₁, w₁, hq, harr⟩
  obtain ⟨e, a₁, w₁, hq, harr⟩ := first b (.inScope c :: k) cs
  cases e with
  | normal => exact ⟨.normal, a₁, w₁, hq, .head step_scope (Steps.trans harr (.one step_inScope))⟩
  | exit id => exact ⟨.exit id, a₁, w₁, hq, fun k' hk => .head step_scope (harr k' (by simp [exitTo, hk]))⟩
  | goto l =>
    obtain ⟨rfl, h⟩ := hq
    have hg : gotoIn 0 (.inScope c :: k) = some (.code r0 :: .inScope c :: k) := by simp [gotoIn, hf0]
    obtain ⟨e₂, a₂, w₂, hq₂, harr₂⟩ := key _ _ _ 0 hg h
    exact ⟨e₂, a₂, w₂, hq₂, .of_steps (.head step_scope (harr _ hg)) harr₂⟩
  | ret => exact ⟨_, a₁, w₁, hq, .of_steps (.one step_scope) harr⟩
  | panic ch => exact ⟨_, a₁, w₁, hq, .of_steps (.one step_scope) harr⟩
  | outgrown => exact ⟨_, a₁, w₁, hq, .of_steps (.one step_scope) harr⟩
theorem m_rstep (B : Nat) (w : World) : (method 324 115 (.agg #[Pw B]) "layby/buckets.step").run Tryz.prog w = .ok (99, .agg #[Pw B]) w := by kernel_rfl
theorem m_astep (B : Nat) (w : World) : (method 324 120 (.agg #[Pw B]) "layby/buckets.step").run Tryz.prog w = .ok (117, .agg #[Pw B]) w := by kernel_rfl
theorem m_tstep (w : World) : (method 324 119 (.agg #[]) "layby/buckets.step").run Tryz.prog w = .ok (100, .agg #[]) w := by kernel_rfl
theorem m_lstep (w : World) : (method 324 121 (.agg #[]) "layby/buckets.step").run Tryz.prog w = .ok (100, .agg #[]) w := by kernel_rfl
theorem m_rbeg (B : Nat) (w : World) : (method 324 115 (.agg #[Pw B]) "layby/buckets.begin").run Tryz.prog w = .ok (98, .agg #[Pw B]) w := by kernel_rfl
theorem m_abeg (B : Nat) (w : World) : (method 324 120 (.agg #[Pw B]) "layby/buckets.begin").run Tryz.prog w = .ok (116, .agg #[Pw B]) w := by kernel_rfl
theorem m_tbeg (w : World) : (method 324 119 (.agg #[]) "layby/buckets.begin").run Tryz.prog w = .ok (101, .agg #[]) w := by kernel_rfl
theorem m_lbeg (w : World) : (method 324 121 (.agg #[]) "layby/buckets.begin").run Tryz.prog w = .ok (118, .agg #[]) w := by kernel_rfl
section
variable {w0 w w' : World} {base WB : Nat} {M : Sd} {r : List Part} {j u U : Nat} {o : Bool} {t kw tw : Nat} {Z : Wb} {X : Wm}
/-- Cells of a way that its step reads. -/
theorem Wy.pcell (h : Wy w0 w base WB M r j o t kw tw Z X) (i : Nat) (v : Value) (e : (partsV o Z.KB Z.TB)[i]? = some v) : w.cell? ⟨Z.PB, i, none⟩ = some v := by
  obtain ⟨T, hp⟩ := h.at.p
  rw [cell_row hp]; exact e
end
end Go.Proofs.YthafnphpcdbnlaaGreat.S15
