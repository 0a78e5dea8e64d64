/- Sums of ticks, draws that are brought, the first of a list; a copy. -/
import Derived.Test.YtmnndheddlkbgaaA1
import Derived.Laws.CopyOwn
import Derived.Laws.MakeOwn
namespace Go.Proofs.Ytmnndheddlkbgaa
open Go.RowKit

def sat (a b : Nat) : Nat := if a + b ≤ 18446744073709551615 then a + b else 18446744073709551615
theorem sat_le (a b : Nat) : sat a b ≤ 18446744073709551615 := by unfold sat; split <;> omega
theorem ret_u64 {a b : Nat} (h : a = b) : Ending.returned (.int .u64 a) = Ending.returned (.int .u64 b) := by rw [h]
theorem ret_int {k : IntKind} {a b : Int} (h : a = b) : Ending.returned (.int k a) = .returned (.int k b) := by rw [h]
theorem sum_any (a b : Nat) (ha : a ≤ 18446744073709551615) (hb : b ≤ 18446744073709551615) (w : World) : Calls Try.prog 23 #[.int .u64 a, .int .u64 b] w fun e w' => e = .returned (.int .u64 (sat a b : Nat)) ∧ w = w' := by
  unfold sat
  by_cases h : a + b ≤ 18446744073709551615
  · rw [if_pos h]
    go_enter Try.func23, Try.ntmps23
    go_wp2
    go_ret
    exact ⟨rfl, rfl⟩
  · rw [if_neg h]
    go_enter Try.func23, Try.ntmps23
    go_wp2
    go_ret
    exact ⟨ret_int (by omega), rfl⟩
theorem plus_any (a b : Nat) (ha : a ≤ 18446744073709551615) (hb : b ≤ 18446744073709551615) (w : World) : Calls Try.prog 24 #[.int .u64 a, .int .u64 b] w fun e w' => e = .returned (.int .u64 (sat a b : Nat)) ∧ w = w' := by
  unfold sat
  by_cases h : a + b ≤ 18446744073709551615
  · rw [if_pos h]
    go_enter Try.func24, Try.ntmps24
    go_wp2
    go_ret
    exact ⟨rfl, rfl⟩
  · rw [if_neg h]
    go_enter Try.func24, Try.ntmps24
    go_wp2
    go_ret
    exact ⟨rfl, rfl⟩
/-- A draw that is brought to most at most. -/
def brt (d most : Nat) : Nat := d % (most + 1)
theorem brought_any (d most : Nat) (hd : d ≤ 18446744073709551615) (hm : most ≤ 18446744073709551615) (w : World) : Calls Try.prog 25 #[.int .u64 d, .int .u64 most] w fun e w' => e = .returned (.int .u64 (brt d most : Nat)) ∧ w = w' := by
  unfold brt
  by_cases h : most = 18446744073709551615
  · have e : d % (most + 1) = d := Nat.mod_eq_of_lt (by omega)
    rw [e]
    have t : ((most : Int) == 18446744073709551615) = true := by rw [beq_iff_eq]; omega
    clear e h
    go_enter Try.func25, Try.ntmps25
    go_wp2
    go_ret
    exact ⟨rfl, rfl⟩
  · have t : ((most : Int) == 18446744073709551615) = false := by rw [beq_eq_false_iff_ne]; omega
    have t2 : ((most : Int) + 1 == 0) = false := by rw [beq_eq_false_iff_ne]; omega
    have b : (most : Int) + 1 ≤ 18446744073709551615 := by omega
    clear h
    go_enter Try.func25, Try.ntmps25
    go_wp2
    go_ret
    exact ⟨rfl, rfl⟩
theorem first_any (A : Option Addr) (n c k : Nat) (hn : n ≤ c) (hc : c ≤ 9223372036854775807) (hk : k ≤ 9223372036854775807) (w : World) : Calls Try.prog 22 #[.slice A n c, .int .i64 k] w fun e w' => e = .returned (.slice A (min n k) c) ∧ w = w' := by
  by_cases h : n ≤ k
  · rw [Nat.min_eq_left h]
    go_enter Try.func22, Try.ntmps22
    go_wp2
    go_ret
    exact ⟨rfl, rfl⟩
  · rw [Nat.min_eq_right (by omega)]
    go_enter Try.func22, Try.ntmps22
    go_wp2
    go_ret
    exact ⟨rfl, rfl⟩
end Go.Proofs.Ytmnndheddlkbgaa
