/- Hashes: is it a table, its size, an address' hash, a bucket's lock. -/
import Derived.Test.YtcdoklgjicfkmaaProg
import Derived.WalkKit
import Derived.LoopTactic
import Derived.Outline
import Derived.Lib.Hide
import Derived.WalkSpells
namespace Go.Proofs.Ytcdoklgjicfkmaa
open Go.RowKit

def tabB (b : Int) : Bool := decide (2 ≤ b) && decide (b ≤ 8)
theorem tab_no {b : Int} (h : b < 2 ∨ 8 < b) : tabB b = false := by
  unfold tabB
  rcases h with h | h
  · rw [decide_eq_false (by omega), Bool.false_and]
  · rw [decide_eq_false (p := b ≤ 8) (by omega), Bool.and_false]
theorem tab_yes {b : Int} (h : 2 ≤ b) (g : b ≤ 8) : tabB b = true := by
  unfold tabB
  rw [decide_eq_true h, decide_eq_true g]; rfl
theorem is_any (b : Int) (w : World) : Calls Try.prog 46 #[.int .i64 b] w fun e w' => e = .returned (.bool (tabB b)) ∧ w = w' := by
  unfold tabB
  by_cases h : 2 ≤ b
  · rw [decide_eq_true h, Bool.true_and]
    go_enter Try.func46, Try.ntmps46
    go_wp2
    go_ret
    exact ⟨rfl, rfl⟩
  · rw [decide_eq_false h, Bool.false_and]
    have h' : b < 2 := by omega
    go_enter Try.func46, Try.ntmps46
    go_wp2
    go_ret
    exact ⟨rfl, rfl⟩
/-- How many buckets a table has. -/
def sizeN (b : Int) : Nat := if 2 ≤ b ∧ b ≤ 8 then 2 ^ b.toNat else 0
theorem seven {b : Int} (h : 2 ≤ b) (g : b ≤ 8) : b = 2 ∨ b = 3 ∨ b = 4 ∨ b = 5 ∨ b = 6 ∨ b = 7 ∨ b = 8 := by omega
theorem size_no (b : Int) (h : b < 2 ∨ 8 < b) (w : World) : Calls Try.prog 23 #[.int .i64 b] w fun e w' => e = .returned (.int .i64 0) ∧ w = w' := by
  have q := is_any b w
  rw [tab_no h] at q
  have Q := Lib.hid q
  clear q h
  go_enter Try.func23, Try.ntmps23
  go_wp2_with fail
  refine Q.out.mono ?_
  rintro e w' ⟨rfl, rfl⟩
  go_wp2_with fail
  go_ret
  exact ⟨rfl, rfl⟩
theorem size_at (b : Int) (n : Int) (h : 2 ≤ b) (g : b ≤ 8) (hn : n = ((2 ^ b.toNat : Nat) : Int)) (w : World) : Calls Try.prog 23 #[.int .i64 b] w fun e w' => e = .returned (.int .i64 n) ∧ w = w' := by
  have q := is_any b w
  rw [tab_yes h g] at q
  have Q := Lib.hid q
  clear q
  rcases seven h g with rfl | rfl | rfl | rfl | rfl | rfl | rfl
  all_goals
    subst hn
    clear h g
    go_enter Try.func23, Try.ntmps23
    go_wp2_with fail
    refine Q.out.mono ?_
    rintro e w' ⟨rfl, rfl⟩
    go_wp2_with fail
    go_ret
    exact ⟨rfl, rfl⟩
theorem size_any (b : Int) (w : World) : Calls Try.prog 23 #[.int .i64 b] w fun e w' => e = .returned (.int .i64 (sizeN b : Nat)) ∧ w = w' := by
  by_cases h : 2 ≤ b ∧ b ≤ 8
  · refine size_at b _ h.1 h.2 ?_ w
    unfold sizeN
    rw [if_pos h]
  · have := size_no b (by omega) w
    unfold sizeN
    rw [if_neg h]
    exact this
end Go.Proofs.Ytcdoklgjicfkmaa
