import Derived.Test.YtopkdnjploipaaaDoorWa
import Derived.Deep.RegionWith
namespace Go.Proofs.YtopkdnjploipaaaDoor
open Go.RowKit Go.Sort Go.Lib
set_option maxHeartbeats 1000000 in
theorem may_any (u : Nat) (hu : u < 18446744073709551616) (w : World) :
    Calls Tryd.prog 16 #[.int .u64 u] w fun e w' => e = .returned (.bool (mayB u)) ∧ w = w' := by
  have p1 : bits .and .u64 (u : Int) 2 = ((u / 2 % 2 * 2 : Nat) : Int) := and_pow u 1 hu (by decide)
  have p2 : bits .and .u64 (u : Int) 4 = ((u / 4 % 2 * 4 : Nat) : Int) := and_pow u 2 hu (by decide)
  have p3 : bits .and .u64 (u : Int) 8 = ((u / 8 % 2 * 8 : Nat) : Int) := and_pow u 3 hu (by decide)
  have c1 : u / 2 % 2 = 0 ∨ u / 2 % 2 = 1 := by omega
  have c2 : u / 4 % 2 = 0 ∨ u / 4 % 2 = 1 := by omega
  have c3 : u / 8 % 2 = 0 ∨ u / 8 % 2 = 1 := by omega
  have hrd := fun W => readersN u W hu
  unfold mayB
  have q1 := bitB_eq u 1 2 rfl _ rfl
  have q2 := bitB_eq u 2 4 rfl _ rfl
  have q3 := bitB_eq u 3 8 rfl _ rfl
  generalize u / 16 = r at *
  have HR := Lib.hid hrd
  clear hrd
  rcases c1 with c1 | c1 <;> rcases c2 with c2 | c2 <;> rcases c3 with c3 | c3 <;> by_cases hr : r = 0
  all_goals
    rw [c1] at p1 q1
    rw [c2] at p2 q2
    rw [c3] at p3 q3
    simp at p1 p2 p3 q1 q2 q3
    rw [q1, q2, q3]
    first | subst hr | skip
    simp
    try have hr' : ((r : Int) == 0) = false := by rw [beq_eq_false_iff_ne]; omega
    clear q1 q2 q3 c1 c2 c3
    go_enter Tryd.func16, Tryd.ntmps16
    go_wp2_with (go_at_call 14; refine (HR.out _).mono ?_; rintro e w' ⟨rfl, rfl⟩)
    go_ret
    first | exact ⟨rfl, rfl⟩ | exact ⟨by simp [hr], rfl⟩
set_option maxHeartbeats 1000000 in
theorem rmay_any (u : Nat) (hu : u < 18446744073709551616) (w : World) :
    Calls Tryd.prog 17 #[.int .u64 u] w fun e w' => e = .returned (.bool (mayB u)) ∧ w = w' := by
  have k1 : ∀ W, Calls Tryd.prog 24 #[.int .u64 u, .int .i64 1] W fun e w' => e = .returned (.bool (bitB u 1)) ∧ W = w' := fun W => bit_any u 1 (by omega) hu W
  have k2 : ∀ W, Calls Tryd.prog 24 #[.int .u64 u, .int .i64 2] W fun e w' => e = .returned (.bool (bitB u 2)) ∧ W = w' := fun W => bit_any u 2 (by omega) hu W
  have k3 : ∀ W, Calls Tryd.prog 24 #[.int .u64 u, .int .i64 3] W fun e w' => e = .returned (.bool (bitB u 3)) ∧ W = w' := fun W => bit_any u 3 (by omega) hu W
  have hrd := fun W => rreaders u W hu
  unfold mayB
  generalize bitB u 1 = x1 at *
  generalize bitB u 2 = x2 at *
  generalize bitB u 3 = x3 at *
  generalize u / 16 = r at *
  have K1 := Lib.hid k1
  have K2 := Lib.hid k2
  have K3 := Lib.hid k3
  have HR := Lib.hid hrd
  clear k1 k2 k3 hrd
  cases x1 <;> cases x2 <;> cases x3 <;> by_cases hr : r = 0
  all_goals
    first | subst hr | skip
    simp
    try have hr' : ((r : Int) == 0) = false := by rw [beq_eq_false_iff_ne]; omega
    go_enter Tryd.func17, Tryd.ntmps17
    go_wp2_with (first
      | (go_at_call 15; refine (HR.out _).mono ?_; rintro e w' ⟨rfl, rfl⟩)
      | (go_at_call_of 24 (Value.int IntKind.i64 2); refine (K2.out _).mono ?_; rintro e w' ⟨rfl, rfl⟩)
      | (go_at_call_of 24 (Value.int IntKind.i64 3); refine (K3.out _).mono ?_; rintro e w' ⟨rfl, rfl⟩)
      | (go_at_call_of 24 (Value.int IntKind.i64 1); refine (K1.out _).mono ?_; rintro e w' ⟨rfl, rfl⟩))
    go_ret
    first | exact ⟨rfl, rfl⟩ | exact ⟨by simp [hr], rfl⟩
end Go.Proofs.YtopkdnjploipaaaDoor
