import Derived.Test.YtopkdnjploipaaaDoorW9
namespace Go.Proofs.YtopkdnjploipaaaDoor
open Go.RowKit Go.Sort Go.Lib

theorem other_any (l q : Bool) (h : Int) (w : World) :
    Calls Tryd.prog 10 #[.agg #[.bool l, .bool q, .int .i64 h]] w fun e w' => e = .returned (.agg #[.bool l, .bool q, .int .i64 h]) ∧ Below w.heap.size w w' := by
  go_enter Tryd.func10, Tryd.ntmps10
  go_wp2
  refine bodyPost_ret (v := .agg #[.bool l, .bool q, .int .i64 h]) (by simp [results, Tryd.results10, go_sem]) rfl ⟨rfl, ?_⟩
  exact ((Below.refl _ _).alloc (Nat.le_refl _) _).alloc (by simp) _
set_option maxHeartbeats 400000 in
theorem ras_any (u : Nat) (hu : u < 18446744073709551616) (w : World) :
    Calls Tryd.prog 12 #[.int .u64 u] w fun e w' => e = .returned (asV u) ∧ Below w.heap.size w w' := by
  have k0 := fun W => bit_any u 0 (by omega) hu W
  have k1 := fun W => bit_any u 1 (by omega) hu W
  unfold asV headN
  generalize bitB u 0 = x0 at *
  generalize bitB u 1 = x1 at *
  have K0 := Lib.hid k0
  have K1 := Lib.hid k1
  clear k0 k1
  by_cases h2 : u / 4 ≤ 64
  · by_cases h1 : 1 ≤ u / 4
    · rw [if_pos ⟨h1, h2⟩]
      go_enter Tryd.func12, Tryd.ntmps12
      go_wp2_with fail
      refine (K0.out _).mono ?_
      rintro e w1 ⟨rfl, rfl⟩
      go_wp2_with fail
      refine (K1.out _).mono ?_
      rintro e w1 ⟨rfl, rfl⟩
      go_wp2
      refine bodyPost_ret (v := .agg #[.bool x0, .bool x1, .int .i64 _]) (by simp [results, Tryd.results12, go_sem]; rfl) rfl ⟨?_, ?_⟩
      · simp
      · exact ((Below.refl _ _).alloc (Nat.le_refl _) _)
    · rw [if_neg (by omega)]
      have h0 : (u : Int) / 4 = 0 := by omega
      go_enter Tryd.func12, Tryd.ntmps12
      go_wp2_with fail
      refine (K0.out _).mono ?_
      rintro e w1 ⟨rfl, rfl⟩
      go_wp2_with fail
      refine (K1.out _).mono ?_
      rintro e w1 ⟨rfl, rfl⟩
      go_wp2
      refine bodyPost_ret (v := .agg #[.bool x0, .bool x1, .int .i64 _]) (by simp [results, Tryd.results12, go_sem]; rfl) rfl ⟨?_, ?_⟩
      · simp
      · exact ((Below.refl _ _).alloc (Nat.le_refl _) _)
  · rw [if_neg (by omega)]
    have h2' : (64 : Int) < (u : Int) / 4 := by omega
    go_enter Tryd.func12, Tryd.ntmps12
    go_wp2_with fail
    refine (K0.out _).mono ?_
    rintro e w1 ⟨rfl, rfl⟩
    go_wp2_with fail
    refine (K1.out _).mono ?_
    rintro e w1 ⟨rfl, rfl⟩
    go_wp2
    refine bodyPost_ret (v := .agg #[.bool x0, .bool x1, .int .i64 _]) (by simp [results, Tryd.results12, go_sem]; rfl) rfl ⟨?_, ?_⟩
    · simp
    · exact ((Below.refl _ _).alloc (Nat.le_refl _) _)
theorem rreaders (u : Nat) (w : World) (h1 : u < 18446744073709551616) :
    Calls Tryd.prog 15 #[.int .u64 u] w fun e w' => e = .returned (.int .u64 ((u / 16 : Nat) : Int)) ∧ w = w' := by
  go_enter Tryd.func15, Tryd.ntmps15
  go_wp2
  go_ret
  exact ⟨rfl, rfl⟩
def mayB (u : Nat) : Bool := !(bitB u 2 && (bitB u 3 || decide (u / 16 = 0))) && (bitB u 3 || !bitB u 1)
end Go.Proofs.YtopkdnjploipaaaDoor
