/- A set's tables, looked for: table, Has, at; a list copied. -/
import Derived.Test.YtaajgnpfndljoaaGreatS10T1
import Derived.Maps.OwnSet
set_option linter.unusedVariables false
set_option linter.unusedSimpArgs false
namespace Go.Proofs.YtaajgnpfndljoaaGreat.S10
open Go.Proofs.YtaajgnpfndljoaaGreat
open Go.RowKit

theorem table_any {w : World} {s : Value} {F : Int → Value} (h : Sv w s F) {b : Int} (hb : InI b) : Calls Tryz.prog 20 #[s, .int .i64 b] w fun e w' => e = .returned (F b) ∧ w = w' := by
  rcases h with ⟨rfl, hF⟩ | ⟨sb, rfl, ⟨hc, hF⟩ | ⟨mb, n, hc, hm⟩⟩
  · rw [hF b]
    clear hF
    go_enter Tryz.func20, Tryz.ntmps20
    go_wp2_with fail
    go_ret
    exact ⟨rfl, rfl⟩
  · rw [hF b]
    clear hF
    have hl : (Instr.lookup 96 (.map none) (.int .i64 b) false).run Tryz.prog w = .ok nilS w := Go.Maps.look_nil false key3 Tryz.underlying96 (zero69 w) (keyB hb)
    go_enter Tryz.func20, Tryz.ntmps20
    go_wp2_with fail
    go_ret
    exact ⟨rfl, rfl⟩
  · have hl := hm.look hb
    generalize F b = v at hl
    clear hm
    go_enter Tryz.func20, Tryz.ntmps20
    go_wp2_with fail
    go_ret
    exact ⟨rfl, rfl⟩
theorem has_any {w : World} {s : Value} {F : Int → Value} (h : Sv w s F) {b : Int} (hb : InI b) {A : Option Addr} {m c : Nat} (hF : F b = .slice A m c) : Calls Tryz.prog 12 #[s, .int .i64 b] w fun e w' => e = .returned (.bool (decide (0 < m))) ∧ w = w' := by
  have HT := Lib.hid (table_any h hb)
  rw [hF] at HT
  clear h hF
  go_enter Tryz.func12, Tryz.ntmps12
  go_wp2_with (go_at_call 20; refine HT.out.mono ?_; rintro e w' ⟨rfl, rfl⟩)
  go_ret
  exact ⟨by simp, rfl⟩
theorem at_no {w : World} {s : Value} {F : Int → Value} (h : Sv w s F) {b i : Int} (hb : InI b) {A : Option Addr} {m c : Nat} (hF : F b = .slice A m c) (hi : i < 0 ∨ (m : Int) ≤ i) :
    Calls Tryz.prog 21 #[s, .agg #[.int .i64 b, .int .i64 i]] w fun e w' => e = .returned (.pointer none) ∧ Below w.heap.size w w' := by
  have HT := Lib.hid (fun o => table_any (h.below (below1 w o)) hb)
  rw [hF] at HT
  clear h hF
  by_cases h0 : i < 0
  · have e0 : decide (i < 0) = true := by simpa using h0
    go_enter Tryz.func21, Tryz.ntmps21
    go_wp2_with (go_at_call 20; refine (HT.out _).mono ?_; rintro e w' ⟨rfl, rfl⟩)
    go_ret
    exact ⟨rfl, below1 w _⟩
  · have e0 : decide (i < 0) = false := by simpa using h0
    have e1 : decide ((m : Int) ≤ i) = true := by simp; omega
    go_enter Tryz.func21, Tryz.ntmps21
    go_wp2_with (go_at_call 20; refine (HT.out _).mono ?_; rintro e w' ⟨rfl, rfl⟩)
    go_ret
    exact ⟨rfl, below1 w _⟩
theorem at_yes {w : World} {s : Value} {F : Int → Value} (h : Sv w s F) {b : Int} {i : Nat} (hb : InI b) {g o m c : Nat} (hF : F b = .slice (some ⟨g, o, none⟩) m c) (hi : i < m) :
    Calls Tryz.prog 21 #[s, .agg #[.int .i64 b, .int .i64 (i : Int)]] w fun e w' => e = .returned (.pointer (some ⟨g, o + i * 3, none⟩)) ∧ Below w.heap.size w w' := by
  have HT := Lib.hid (fun o => table_any (h.below (below1 w o)) hb)
  rw [hF] at HT
  clear h hF
  have e0 : decide ((i : Int) < 0) = false := by simp
  have e1 : decide ((m : Int) ≤ (i : Int)) = false := by simp; omega
  have e2 : ¬ m ≤ i := by omega
  go_enter Tryz.func21, Tryz.ntmps21
  go_wp2_with (go_at_call 20; refine (HT.out _).mono ?_; rintro e w' ⟨rfl, rfl⟩)
  go_ret
  exact ⟨rfl, below1 w _⟩
end Go.Proofs.YtaajgnpfndljoaaGreat.S10
