/- Lists of acts that come in, opened. -/
import Derived.Test.YtmnndheddlkbgaaLift2
import Derived.Test.YtmnndheddlkbgaaF2
namespace Go.Proofs.Ytmnndheddlkbgaa
open Go.ChangeShapes Go.WideShapes Go.ChangeAt Go.RowKit Go.Deep

section
variable {H : Type} {enc : TypeId × Value → H} {W : World}
theorem open_acts {v : Value} {d : DataW H} {p : List MemPlace} {r : Reach} {b0 : Nat} (hv : Value.okWide Try.prog W r b0 24 v) (h : DataW.Trod enc Try.prog W 0 (fun _ => true) true 24 v d p) :
    ∃ A n c a, v = .slice A n c ∧ n ≤ 9223372036854775807 ∧ ActsIn W W.heap.size A n a ∧ ActsOk W W.heap.size n a := by
  obtain ⟨a0, len, cap, rfl⟩ := okWide_slice Try.underlying24 hv
  obtain ⟨fuel, hf⟩ := h
  rcases open_slice Try.underlying24 hf with ⟨hc, _⟩ | ⟨⟨lb, lo, spot⟩, n, c, m, q, D, Pl, hc, _, hl, hm, hmm, _, hi⟩
  · simp [Value.cells] at hc
    obtain ⟨rfl, rfl, rfl⟩ := hc
    exact ⟨_, _, _, ⟨fun _ => 0, fun _ => 0, fun _ => 0, fun _ => false, fun _ => none, fun _ => 0, fun _ => []⟩, rfl, by omega, fun h => by omega, fun i hi => by omega⟩
  simp [Value.cells] at hc
  obtain ⟨rfl, rfl, rfl⟩ := hc
  unfold maxLen at hm
  rcases Nat.eq_zero_or_pos len with rfl | hpos
  · exact ⟨_, _, _, ⟨fun _ => 0, fun _ => 0, fun _ => 0, fun _ => false, fun _ => none, fun _ => 0, fun _ => []⟩, rfl, by omega, fun h => by omega, fun i hi => by omega⟩
  have hnm : len ≤ m := by rw [hmm]; simp; exact hl
  have hs : spot = none := by
    obtain ⟨cs, hcs, ht⟩ := hi 0 (by omega)
    obtain ⟨_, hlen, hat⟩ := World.cells?_some hcs
    obtain ⟨K, N, U, on, A, cc, L, e, _⟩ := act_cells ht
    rw [cells33] at hat
    have g0 := hat 0 (by omega)
    rw [e] at g0
    have := spot_none g0
    simpa [Addr.add] using this
  subst hs
  have hall : ∀ i, i < len → ∃ y : (Nat × Nat × Nat × Bool × Option Addr × Nat × List Nat), (W.cell? ⟨lb, lo + i * 5, none⟩ = some (.int .u8 y.1) ∧ W.cell? ⟨lb, lo + i * 5 + 1, none⟩ = some (.int .u64 y.2.1) ∧ W.cell? ⟨lb, lo + i * 5 + 2, none⟩ = some (.bool y.2.2.2.1) ∧ W.cell? ⟨lb, lo + i * 5 + 3, none⟩ = some (.int .u64 y.2.2.1) ∧ W.cell? ⟨lb, lo + i * 5 + 4, none⟩ = some (.slice y.2.2.2.2.1 y.2.2.2.2.2.2.length y.2.2.2.2.2.1)) ∧
      (y.1 < 256 ∧ y.2.1 ≤ 18446744073709551615 ∧ y.2.2.2.2.2.2.length ≤ y.2.2.2.2.2.1 ∧ y.2.2.2.2.2.1 ≤ 9223372036854775807 ∧ Rd W W.heap.size y.2.2.2.2.1 y.2.2.2.2.2.2 ∧ ∀ d ∈ y.2.2.2.2.2.2, d ≤ 18446744073709551615) := by
    intro i hin
    obtain ⟨cs, hcs, ht⟩ := hi i (by omega)
    obtain ⟨_, hlen, hat⟩ := World.cells?_some hcs
    obtain ⟨K, N, U, on, A, cc, L, e, rest⟩ := act_cells ht
    rw [cells33, e] at hat
    have g0 := hat 0 (by omega)
    have g1 := hat 1 (by omega)
    have g2 := hat 2 (by omega)
    have g3 := hat 3 (by omega)
    have g4 := hat 4 (by omega)
    rw [add_none, add_none] at g0 g1 g2 g3 g4
    rw [Nat.add_zero] at g0
    exact ⟨(K, N, U, on, A, cc, L), ⟨g0, g1, g2, g3, g4⟩, rest⟩
  obtain ⟨Y, hY⟩ := choose_lt hall
  exact ⟨_, len, cap, ⟨fun i => (Y i).1, fun i => (Y i).2.1, fun i => (Y i).2.2.1, fun i => (Y i).2.2.2.1, fun i => (Y i).2.2.2.2.1, fun i => (Y i).2.2.2.2.2.1, fun i => (Y i).2.2.2.2.2.2⟩, rfl, by omega,
    fun _ => ⟨lb, lo, rfl, World.block_lt_of_cell? W _ (hY 0 hpos).1.1, fun i hi => (hY i hi).1⟩, fun i hi => (hY i hi).2⟩
end
theorem law_play_big (p p2 : Option Addr) (n c n2 c2 most : Nat) (hn : n ≤ 9223372036854775807) (hn2 : n2 ≤ 9223372036854775807) (hbig : 300 < n ∨ 100 < n2) (w : World) :
    Calls Try.prog 3 #[.slice p n c, .int .u64 most, .slice p2 n2 c2] w fun e w' => e = .returned (.bool true) ∧ Below w.heap.size w w' := by
  have ql := lives_any
  have QL := Lib.hid ql
  clear ql
  by_cases h1 : 300 < n
  · clear hbig
    have g1 : decide ((300 : Int) < (n : Int)) = true := by simp; omega
    go_enter Try.func3, Try.ntmps3
    go_wp2_with fail
    refine (QL.out _).mono ?_
    rintro e w2 ⟨rfl, b2⟩
    have B2 := Lib.hid b2; clear b2
    go_wp2_with fail
    go_ret
    exact ⟨rfl, B2.out⟩
  · have h2 : 100 < n2 := by omega
    clear hbig
    have g1 : decide ((300 : Int) < (n : Int)) = false := by simp; omega
    have g2 : decide ((100 : Int) < (n2 : Int)) = true := by simp; omega
    go_enter Try.func3, Try.ntmps3
    go_wp2_with fail
    refine (QL.out _).mono ?_
    rintro e w2 ⟨rfl, b2⟩
    have B2 := Lib.hid b2; clear b2
    go_wp2_with fail
    go_ret
    exact ⟨rfl, B2.out⟩
end Go.Proofs.Ytmnndheddlkbgaa
