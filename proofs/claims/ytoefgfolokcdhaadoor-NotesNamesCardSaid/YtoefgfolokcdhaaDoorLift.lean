/- What the rows' condition on the table gives the walks, the start that meets it, and arguments that come in. -/
import Derived.Test.YtoefgfolokcdhaaDoorRows
import Derived.Test.YtoefgfolokcdhaaDoorTie
import Derived.Test.YtoefgfolokcdhaaDoorCards
import Derived.Test.YtoefgfolokcdhaaDoorL1
import Derived.Test.YtoefgfolokcdhaaDoorA3
import Derived.Lib.SmallJoins
import Derived.ProofKit
import Derived.LaidMore
import Derived.OpenShut
import Derived.Stop.Joined
import Derived.SevenTiedAt
namespace Go.Proofs.YtoefgfolokcdhaaDoor
open Go.ChangeShapes Go.WideShapes Go.ChangeAt Go.RowKit Go.Lib

theorem own : ownKnob Tryd.prog.godebug = none := by kernel_rfl
abbrev L4 : List (String × DataW Unit) := [("layby/notes.names", Rows.laid_layby_notes_names)]
theorem door_met (os : Os) (args : Array Value) : laidMetH Tryd.prog L4 ((World.doorLaid Tryd.prog 400 os).forCall (fun _ _ => 0) ⟨#[], args, []⟩).memory :=
  laidMetH_of_parts3 (fuel := 8) (laidMet_of_run' 8 (by kernel_rfl) (by kernel_rfl)) (by kernel_rfl) (by kernel_rfl)
/-- One listed variable's cell, off its datum. -/
theorem laid_cell {n : String} {d : DataW Unit} {W : World} {g t : Nat} (hg : Tryd.prog.globalNamed n = some g) (ht : (Tryd.prog.globals[g]?).map (·.type) = some t) :
    ∀ (l : List (String × DataW Unit)) (ps : List MemPlace), DataW.LaidVars Tryd.prog W l ps → (n, d) ∈ l →
    ∃ (cs : Array Value) (fuel : Nat) (p : List MemPlace), W.var? Tryd.prog n = some cs ∧ DataW.trod (fun _ => ()) Tryd.prog W 0 (fun _ => true) false fuel t cs.toList = some (d, p) ∧ ∀ k o v, litAt Tryd.prog k t d o = some v → cs[o]? = some v
  | [], _, _, h => by cases h
  | (n', d') :: r, ps, hL, h => by
    obtain ⟨g', t', cs, fuel, p, q, hg', ht', hv, hd, hr, _⟩ := hL
    rcases List.mem_cons.1 h with h | h
    · cases h
      obtain rfl := Option.some.inj (hg.symm.trans hg')
      obtain rfl := Option.some.inj (ht.symm.trans ht')
      exact ⟨cs, fuel, p, hv, hd, fun k o v hl => by
        have := litAt_cell k fuel t cs.toList d p o v hd hl
        simpa using this⟩
    · exact laid_cell hg ht r q hr h
theorem lit_names : ∀ (k : Nat) (_ : k < 38), litAt Tryd.prog 6 57 (Rows.laid_layby_notes_names (H := Unit)) k = some (.string (nmS k))
  | 0, _ => by kernel_rfl
  | 1, _ => by kernel_rfl
  | 2, _ => by kernel_rfl
  | 3, _ => by kernel_rfl
  | 4, _ => by kernel_rfl
  | 5, _ => by kernel_rfl
  | 6, _ => by kernel_rfl
  | 7, _ => by kernel_rfl
  | 8, _ => by kernel_rfl
  | 9, _ => by kernel_rfl
  | 10, _ => by kernel_rfl
  | 11, _ => by kernel_rfl
  | 12, _ => by kernel_rfl
  | 13, _ => by kernel_rfl
  | 14, _ => by kernel_rfl
  | 15, _ => by kernel_rfl
  | 16, _ => by kernel_rfl
  | 17, _ => by kernel_rfl
  | 18, _ => by kernel_rfl
  | 19, _ => by kernel_rfl
  | 20, _ => by kernel_rfl
  | 21, _ => by kernel_rfl
  | 22, _ => by kernel_rfl
  | 23, _ => by kernel_rfl
  | 24, _ => by kernel_rfl
  | 25, _ => by kernel_rfl
  | 26, _ => by kernel_rfl
  | 27, _ => by kernel_rfl
  | 28, _ => by kernel_rfl
  | 29, _ => by kernel_rfl
  | 30, _ => by kernel_rfl
  | 31, _ => by kernel_rfl
  | 32, _ => by kernel_rfl
  | 33, _ => by kernel_rfl
  | 34, _ => by kernel_rfl
  | 35, _ => by kernel_rfl
  | 36, _ => by kernel_rfl
  | 37, _ => by kernel_rfl
  | k + 38, h => by omega
theorem of_laid {W : World} (h : laidMetH Tryd.prog L4 W) : Tab W := by
  rw [MakeChecks.laidMetH_plain _ _ _ (by kernel_rfl)] at h
  obtain ⟨ps, hL, _⟩ := h
  have gN : Tryd.prog.globalNamed "layby/notes.names" = some 0 := by kernel_rfl
  obtain ⟨cs, _, _, hv, _, hc⟩ := laid_cell (n := "layby/notes.names") (d := Rows.laid_layby_notes_names) (g := 0) (t := 57) gN (by kernel_rfl) L4 ps hL (by simp)
  have cell : ∀ o v, litAt Tryd.prog 6 57 (Rows.laid_layby_notes_names (H := Unit)) o = some v → W.cell? ⟨0, o, none⟩ = some v := fun o v hl => by
    rw [World.var?_cell gN hv o]; exact hc 6 o v hl
  refine ⟨?_, fun k hk => cell _ _ (lit_names k hk)⟩
  have := cell _ _ (lit_names 0 (by omega))
  rcases Nat.eq_zero_or_pos W.heap.size with h | h
  · unfold World.cell? at this
    rw [Array.getElem?_eq_none (by simp [h])] at this
    simp at this
  · exact h
end Go.Proofs.YtoefgfolokcdhaaDoor
