/-
CellsPlay: whatever stands at first, whatever accesses are made, what each one tells, and all that the cells tell behind it, are the document's; what is told is new memory. No condition.
-/
import Derived.Test.YtikjlmlbbjbcmaaLift
import Derived.Test.YtikjlmlbbjbcmaaG4
namespace Go.Proofs.Ytikjlmlbbjbcmaa.cellsPlay
open Go.ChangeShapes Go.WideShapes Go.ChangeAt Go.RowKit Go.Deep
set_option linter.unusedVariables false

/-- Words that came in. -/
theorem open_words {H : Type} {enc : TypeId × Value → H} {W : World} {v : Value} {d : DataW H} {p : List MemPlace} {r : Reach} {b0 : Nat} (hv : Value.okWide Try.prog W r b0 22 v) (h : DataW.Trod enc Try.prog W 0 (fun _ => true) true 22 v d p) :
    ∃ a0 n c A V, v = .slice a0 n c ∧ n ≤ maxLen ∧ WOk n A V ∧ WIn W W.heap.size a0 n A V := by
  obtain ⟨a0, len, cap, rfl⟩ := okWide_slice Try.underlying22 hv
  obtain ⟨fuel, hf⟩ := h
  rcases open_slice Try.underlying22 hf with ⟨hc, _⟩ | ⟨⟨lb, lo, spot⟩, n, c, m, q, D, Pl, hc, _, hl, hm, hmm, _, hi⟩
  · simp [Value.cells] at hc
    obtain ⟨rfl, rfl, rfl⟩ := hc
    exact ⟨_, _, _, fun _ => 0, fun _ => 0, rfl, Nat.zero_le _, fun i hi => by omega, fun h => by omega⟩
  simp [Value.cells] at hc
  obtain ⟨rfl, rfl, rfl⟩ := hc
  rcases Nat.eq_zero_or_pos len with rfl | hpos
  · exact ⟨_, _, _, fun _ => 0, fun _ => 0, rfl, Nat.zero_le _, fun i hi => by omega, fun h => by omega⟩
  have hnm : len ≤ m := by rw [hmm]; simp; exact hl
  have h2 : Try.prog.cellsOf 30 = 2 := by kernel_rfl
  have hs : spot = none := by
    obtain ⟨cs, hcs, ht⟩ := hi 0 (by omega)
    obtain ⟨_, hlen, hat⟩ := World.cells?_some hcs
    obtain ⟨k, c0, _⟩ := num_at (t := 27) (k := .u32) Try.underlying30 ht 0 _ rfl rfl (by kernel_rfl) (by rw [h2]; omega) rfl Try.underlying27 rfl
    rw [h2] at hat
    have g0 := (hat 0 (by omega)).trans c0
    have := spot_none g0
    simpa [Addr.add] using this
  subst hs
  have hall : ∀ i, i < len → ∃ y : (Nat × Nat), (y.1 < 4294967296 ∧ y.2 < 18446744073709551616) ∧ W.cell? ⟨lb, lo + i * 2, none⟩ = some (.int .u32 y.1) ∧ W.cell? ⟨lb, lo + i * 2 + 1, none⟩ = some (.int .u64 y.2) := by
    intro i hin
    obtain ⟨cs, hcs, ht⟩ := hi i (by omega)
    obtain ⟨_, hlen, hat⟩ := World.cells?_some hcs
    obtain ⟨a, c1, b1⟩ := num_at (t := 27) (k := .u32) Try.underlying30 ht 0 _ rfl rfl (by kernel_rfl) (by rw [h2]; omega) rfl Try.underlying27 rfl
    obtain ⟨v, c2, b2⟩ := num_at (t := 28) (k := .u64) Try.underlying30 ht 1 _ rfl rfl (by kernel_rfl) (by rw [h2]; omega) rfl Try.underlying28 rfl
    rw [h2] at hat
    have g0 := (hat 0 (by omega)).trans c1
    have g1 := (hat 1 (by omega)).trans c2
    rw [add_none, add_none] at g0 g1
    rw [Nat.add_zero] at g0
    simp [IntKind.max, IntKind.bits, IntKind.signed] at b1 b2
    exact ⟨(a, v), ⟨by show a < _; omega, by show v < _; omega⟩, g0, g1⟩
  obtain ⟨Y, hY⟩ := choose_lt hall
  exact ⟨_, len, cap, fun i => (Y i).1, fun i => (Y i).2, rfl, by omega, fun i hi => (hY i hi).1, fun _ => ⟨lb, lo, rfl, World.block_lt_of_cell? W _ (hY 0 hpos).2.1, fun i hi => (hY i hi).2⟩⟩
set_option maxRecDepth 100000 in
theorem lifted (os : Os) (started : os.Started) (H : Type) (enc : TypeId × Value → H) :
    ReturnsInHanded {} Try.checked os 3 .any (Rows.cellsPlaySpec.pre6 enc Try.prog Try.f3 Rows.cellsPlayRow.domain false) (Rows.cellsPlaySpec.post enc Try.prog Try.f3 false true false false) := by
  refine returnsInHanded_of_change (C := Try.checked) own started (by kernel_rfl) Try.func3
    (ChangeSpec.witness6 (enc := enc) (C := Try.checked) false ⟨#[], #[.slice none 0 0, .slice none 0 0], []⟩ 8 (by kernel_rfl) (by kernel_rfl) (by kernel_rfl) (by kernel_rfl)) ?_
  intro W base args ds gs before hval0 hW hcnd _
  have hval : ∀ (j : Nat) t v, Try.f3.params[j]? = some t → args[j]? = some v → Value.okWide Try.prog W .any base t v := hval0
  have hW' := hW
  obtain ⟨p, q, hA0, hV, rfl, hfz, hnd⟩ := hW
  have hA : DataW.TrodAll enc Try.prog W 0 (fun _ => true) true Try.f3.params.toList args.toList ds p := hA0
  rw [Try.params3] at hA hval
  obtain ⟨v0, vs0, d0, ds0, p0, q0, hargs, rfl, rfl, h0, r0⟩ := trodAll_cons hA
  obtain ⟨v1, vs1, d1, ds1, p1, q1, rfl, rfl, rfl, h1, r1⟩ := trodAll_cons r0
  obtain ⟨rfl, rfl, rfl⟩ := trodAll_nil r1
  obtain rfl : args = #[v0, v1] := by cases args; simp_all
  obtain ⟨rfl, rfl⟩ := trodVars_none hV
  obtain ⟨a0, n, c, A, V, rfl, hn, hok, hin⟩ := open_words (hval 0 22 v0 rfl rfl) h0
  have ho := open_acts (hval 1 23 v1 rfl rfl) h1
  clear hA0 hval0
  simp only [List.append_nil] at hW'
  have hlt0 : ∀ x ∈ p0, x.block < W.heap.size := fun x hx => hW'.lt x (by simp [hx])
  have hlt1 : ∀ x ∈ p1, x.block < W.heap.size := fun x hx => hW'.lt x (by simp [hx])
  unfold maxLen at hn
  have hwalk : Calls Try.prog 3 #[.slice a0 n c, v1] W fun e w' => e = .returned (.bool true) ∧ Below W.heap.size W w' := by
    rcases ho with ⟨a1, c2, rfl⟩ | ⟨lb, lo, n2, c2, rfl, hpos, hn2, hlb, K, A2, V2, U, R, ha⟩
    · by_cases h100 : n ≤ 100
      · exact law_play a0 a1 n c 0 c2 A V (fun _ => 0) (fun _ => 0) (fun _ => 0) (fun _ => 0) (fun _ => false) h100 (by omega) hok (fun i hi => by omega) W hin (fun h => by omega)
      · exact law_play_big a0 a1 n c 0 c2 (by omega) (by omega) (.inl (by omega)) W
    · unfold maxLen at hn2
      by_cases hs : n ≤ 100 ∧ n2 ≤ 200
      · exact law_play a0 (some ⟨lb, lo, none⟩) n c n2 c2 A V K A2 V2 U R hs.1 hs.2 hok (fun i hi => ⟨(ha.a i hi).2, (ha.v i hi).2⟩) W hin (fun _ => ⟨lb, lo, rfl, hlb, fun i hi => ⟨(ha.k i hi).1, (ha.a i hi).1, (ha.v i hi).1, (ha.u i hi).1, ha.r i hi⟩⟩)
      · exact law_play_big a0 _ n c n2 c2 (by omega) (by omega) (by omega) W
  refine hwalk.mono fun e W' ⟨he, hg⟩ => ?_
  subst he
  exact ⟨_, rfl, _, _, _, [], p0 ++ p1, [], hW', trodAll_mk1 (shut_bool Try.underlying4 _), trodAll_cons_mk (Below.trod laidOut (by kernel_rfl) (of_decide_eq_true (by kernel_rfl)) h0 hg hlt0) (trodAll_mk1 (Below.trod laidOut (by kernel_rfl) (of_decide_eq_true (by kernel_rfl)) h1 hg hlt1)), rfl, hg.frame _, fun h => by cases h⟩

theorem over : Rows.cellsPlayRow.holds Try.pinned (OpenSpec.ofChange Rows.cellsPlaySpec) :=
  OpenClaim.holds_of_wide 3 Try.f3 rfl rfl rfl rfl rfl rfl rfl ⟨rfl, rfl, rfl, rfl, rfl⟩ rfl rfl rfl rfl rfl (by kernel_rfl) Try.func3 (by kernel_rfl)
    (of_decide_eq_true (by kernel_rfl)) (by unfold Func.isWrapper; first | (rw [if_pos (by decide +kernel)]; kernel_rfl) | (rw [if_neg (by decide +kernel)]; exact ⟨rfl, rfl⟩))
    (fun os started H enc _ => lifted os started H enc)
theorem proved : Rows.CellsPlaySaid := over
#print axioms proved
end Go.Proofs.Ytikjlmlbbjbcmaa.cellsPlay
