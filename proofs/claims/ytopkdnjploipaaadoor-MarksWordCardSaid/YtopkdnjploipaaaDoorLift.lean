/- What the rows' condition on the tables gives the walks, and the start that meets it. -/
import Derived.Test.YtopkdnjploipaaaDoorRows
import Derived.Test.YtopkdnjploipaaaDoorTie
import Derived.Test.YtopkdnjploipaaaDoorCards
import Derived.Test.YtopkdnjploipaaaDoorL1
import Derived.Test.YtopkdnjploipaaaDoorWf
import Derived.Lib.SmallJoins
import Derived.ProofKit
import Derived.LaidMore
import Derived.OpenShut
import Derived.Stop.Joined
import Derived.SevenTiedAt
namespace Go.Proofs.YtopkdnjploipaaaDoor
open Go.ChangeShapes Go.WideShapes Go.ChangeAt Go.RowKit Go.Lib

theorem own : ownKnob Tryd.prog.godebug = none := by kernel_rfl
abbrev L4 : List (String × DataW Unit) := [("math/bits.deBruijn32tab", Rows.laid_math_bits_deBruijn32tab), ("math/bits.deBruijn64tab", Rows.laid_math_bits_deBruijn64tab), ("internal/strconv.uint64pow10", Rows.laid_internal_strconv_uint64pow10), ("layby/marks.namedBits", Rows.laid_layby_marks_namedBits)]
theorem door_met (os : Os) (args : Array Value) : laidMetH Tryd.prog L4 ((World.doorLaid Tryd.prog 400 os).forCall (fun _ _ => 0) ⟨#[], args, []⟩).memory :=
  laidMetH_of_parts3 (fuel := 8) (laidMet_of_run' 8 (by kernel_rfl) (by kernel_rfl)) (by kernel_rfl) (by kernel_rfl)
/-- One listed variable's cell, off its datum. -/
theorem laid_cell {n : String} {d : DataW Unit} {W : World} {g t : Nat} (hg : Tryd.prog.globalNamed n = some g) (ht : (Tryd.prog.globals[g]?).map (·.type) = some t) :
    ∀ (l : List (String × DataW Unit)) (ps : List MemPlace), DataW.LaidVars Tryd.prog W l ps → (n, d) ∈ l →
    ∃ (cs : Array Value) (fuel : Nat) (p : List MemPlace), W.var? Tryd.prog n = some cs ∧ DataW.trod (fun _ => ()) Tryd.prog W 0 (fun _ => true) false fuel t cs.toList = some (d, p) ∧ ∀ k o v, litAt Tryd.prog k t d o = some v → cs[o]? = some v
  | [], _, _, h => by cases h
  | (n', d') :: r, ps, hL, h => by
    obtain ⟨g', t', cs, fuel, p, q, hg', ht', hv, hd, hr, _⟩ := hL
    rcases List.mem_cons.1 h with h | h
    · cases h
      obtain rfl := Option.some.inj (hg.symm.trans hg')
      obtain rfl := Option.some.inj (ht.symm.trans ht')
      exact ⟨cs, fuel, p, hv, hd, fun k o v hl => by
        have := litAt_cell k fuel t cs.toList d p o v hd hl
        simpa using this⟩
    · exact laid_cell hg ht r q hr h
theorem of_laid {W : World} (h : laidMetH Tryd.prog L4 W) : Tabs W := by
  rw [MakeChecks.laidMetH_plain _ _ _ (by kernel_rfl)] at h
  obtain ⟨ps, hL, _⟩ := h
  have gN : Tryd.prog.globalNamed "layby/marks.namedBits" = some 0 := by kernel_rfl
  obtain ⟨cs, _, _, hv, _, hc⟩ := laid_cell (n := "layby/marks.namedBits") (d := Rows.laid_layby_marks_namedBits) (g := 0) (t := 49) gN (by kernel_rfl) L4 ps hL (by simp)
  have cell : ∀ o v, litAt Tryd.prog 6 49 (Rows.laid_layby_marks_namedBits (H := Unit)) o = some v → W.cell? ⟨0, o, none⟩ = some v := fun o v hl => by
    rw [World.var?_cell gN hv o]; exact hc 6 o v hl
  have gP : Tryd.prog.globalNamed "internal/strconv.uint64pow10" = some 1 := by kernel_rfl
  obtain ⟨cp, fp, pp, hvp, hdp, _⟩ := laid_cell (n := "internal/strconv.uint64pow10") (d := Rows.laid_internal_strconv_uint64pow10) (g := 1) (t := 74) gP (by kernel_rfl) L4 ps hL (by simp)
  have row : ∀ (o : Nat) (M : Nat → Int) (S : Nat → ByteArray),
      litAt Tryd.prog 6 49 (Rows.laid_layby_marks_namedBits (H := Unit)) o = some (.int .u64 (M 0)) → litAt Tryd.prog 6 49 (Rows.laid_layby_marks_namedBits (H := Unit)) (o + 1) = some (.string (S 0)) →
      litAt Tryd.prog 6 49 (Rows.laid_layby_marks_namedBits (H := Unit)) (o + 2) = some (.int .u64 (M 1)) → litAt Tryd.prog 6 49 (Rows.laid_layby_marks_namedBits (H := Unit)) (o + 3) = some (.string (S 1)) →
      litAt Tryd.prog 6 49 (Rows.laid_layby_marks_namedBits (H := Unit)) (o + 4) = some (.int .u64 (M 2)) → litAt Tryd.prog 6 49 (Rows.laid_layby_marks_namedBits (H := Unit)) (o + 5) = some (.string (S 2)) →
      litAt Tryd.prog 6 49 (Rows.laid_layby_marks_namedBits (H := Unit)) (o + 6) = some (.int .u64 (M 3)) → litAt Tryd.prog 6 49 (Rows.laid_layby_marks_namedBits (H := Unit)) (o + 7) = some (.string (S 3)) → RowAt W o M S := by
    intro o M S a0 b0 a1 b1 a2 b2 a3 b3
    constructor
    · intro k hk
      have hkc : k = 0 ∨ k = 1 ∨ k = 2 ∨ k = 3 := by omega
      rcases hkc with rfl | rfl | rfl | rfl
      · exact cell _ _ a0
      · exact cell _ _ a1
      · exact cell _ _ a2
      · exact cell _ _ a3
    · intro k hk
      have hkc : k = 0 ∨ k = 1 ∨ k = 2 ∨ k = 3 := by omega
      rcases hkc with rfl | rfl | rfl | rfl
      · exact cell _ _ b0
      · exact cell _ _ b1
      · exact cell _ _ b2
      · exact cell _ _ b3
  have r0 : RowAt W 0 m2 sMu := row 0 m2 sMu (by kernel_rfl) (by kernel_rfl) (by kernel_rfl) (by kernel_rfl) (by kernel_rfl) (by kernel_rfl) (by kernel_rfl) (by kernel_rfl)
  have r1 : RowAt W 8 m4 sRw := row 8 m4 sRw (by kernel_rfl) (by kernel_rfl) (by kernel_rfl) (by kernel_rfl) (by kernel_rfl) (by kernel_rfl) (by kernel_rfl) (by kernel_rfl)
  have r2 : RowAt W 16 m4 sOn := row 16 m4 sOn (by kernel_rfl) (by kernel_rfl) (by kernel_rfl) (by kernel_rfl) (by kernel_rfl) (by kernel_rfl) (by kernel_rfl) (by kernel_rfl)
  refine ⟨r0, r1, r2, ?_, ?_⟩
  · have := r0.1 0 (by omega)
    rcases Nat.eq_zero_or_pos W.heap.size with h | h
    · unfold World.cell? at this
      rw [Array.getElem?_eq_none (by simp [h])] at this
      simp at this
    · exact h
  · have e := cells_of_tab (k := .u64) (zs := pow10Tab) (n := 20) (e := 24) Tryd.underlying74 Tryd.underlying24 (by kernel_rfl) (by kernel_rfl) (hdp.trans (by rfl))
    unfold TabIs
    rw [hvp, ← e]
theorem cells23 : Tryd.prog.cellsOf 23 = 3 := by kernel_rfl
/-- A word that comes in. -/
theorem open_word {H : Type} {enc : TypeId × Value → H} {W : World} {r : Reach} {b0 base : Nat} {sp : Nat → Bool} {held : Bool} {v : Value} {d : DataW H} {p : List MemPlace}
    (hv : Value.okWide Tryd.prog W r b0 23 v) (h : DataW.Trod enc Tryd.prog W base sp held 23 v d p) :
    ∃ (l q : Bool) (n : Int), v = .agg #[.bool l, .bool q, .int .i64 n] ∧ p = [] ∧ (Lit.int .i64 n).wf = true ∧ ∀ W' b s hd, DataW.Trod enc Tryd.prog W' b s hd 23 (.agg #[.bool l, .bool q, .int .i64 n]) d [] := by
  obtain ⟨c0, c1, c2, y0, y1, y2, m, rfl, rfl, rfl, hy0, hy1, hy2⟩ := Go.Joins.open_agg3 Tryd.underlying23 (by kernel_rfl) cells23 hv h
  obtain ⟨l, e0, rfl⟩ := DataW.trod_bool Tryd.underlying4 hy0
  obtain ⟨q, e1, rfl⟩ := DataW.trod_bool Tryd.underlying4 hy1
  obtain ⟨n, e2, rfl, wn⟩ := DataW.trod_int Tryd.underlying3 hy2
  simp at e0 e1 e2
  subst e0 e1 e2
  refine ⟨l, q, n, rfl, rfl, wn, fun W' b s hd => ?_⟩
  exact Go.Joins.shut_agg3 (y0 := (.lit (.bool l), [])) (y1 := (.lit (.bool q), [])) (y2 := (.lit (.int .i64 n), [])) Tryd.underlying23 (by kernel_rfl) cells23 ⟨1, by simp [DataW.trod, Tryd.underlying4]⟩ ⟨1, by simp [DataW.trod, Tryd.underlying4]⟩ ⟨1, by simp [DataW.trod, Tryd.underlying3, wn]⟩
end Go.Proofs.YtopkdnjploipaaaDoor
