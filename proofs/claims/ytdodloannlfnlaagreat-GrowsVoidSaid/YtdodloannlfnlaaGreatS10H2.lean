/- Hashes: an address' hash, a bucket's lock. -/
import Derived.Test.YtdodloannlfnlaaGreatE27
set_option linter.unusedVariables false
set_option linter.unusedSimpArgs false
namespace Go.Proofs.YtdodloannlfnlaaGreat.S10
open Go.Proofs.YtdodloannlfnlaaGreat
open Go.RowKit

theorem hash_no (a : Nat) (b : Int) (h : b < 2 ∨ 8 < b) (w : World) : Calls Tryz.prog 95 #[.int .u32 a, .int .i64 b] w fun e w' => e = .returned (.int .i64 (-1)) ∧ w = w' := by
  have q := is_any b w
  rw [tab_no h] at q
  have Q := Lib.hid q
  clear q h
  go_enter Tryz.func95, Tryz.ntmps95
  go_wp2_with fail
  refine Q.out.mono ?_
  rintro e w' ⟨rfl, rfl⟩
  go_wp2_with fail
  go_ret
  exact ⟨rfl, rfl⟩
def hashZ (a : Nat) (b : Int) : Int := if 2 ≤ b ∧ b ≤ 8 then (hsh a b.toNat : Nat) else -1
theorem size_le (b : Int) : sizeN b ≤ 256 := by
  unfold sizeN
  split
  · rename_i h
    calc 2 ^ b.toNat ≤ 2 ^ 8 := Nat.pow_le_pow_right (by omega) (by omega)
      _ = 256 := rfl
  · omega
theorem hash_any (a : Nat) (b : Int) (ha : a < 4294967296) (w : World) : Calls Tryz.prog 95 #[.int .u32 a, .int .i64 b] w fun e w' => e = .returned (.int .i64 (hashZ a b)) ∧ w = w' := by
  unfold hashZ
  by_cases h : 2 ≤ b ∧ b ≤ 8
  · obtain ⟨n, rfl⟩ := Int.eq_ofNat_of_zero_le (show 0 ≤ b by omega)
    rw [if_pos h]
    exact hash_yes a n ha (by omega) (by omega) w
  · rw [if_neg h]
    exact hash_no a b (by omega) w
def lockZ (b i : Int) : Int := if i < 0 ∨ (sizeN b : Int) ≤ i then 0 else 256 + ((sizeN b : Int) + i)
theorem lock_any (b i : Int) (w : World) : Calls Tryz.prog 167 #[.int .i64 b, .int .i64 i] w fun e w' => e = .returned (.int .u32 (lockZ b i)) ∧ w = w' := by
  have q := size_any b w
  have hn := size_le b
  unfold lockZ
  generalize sizeN b = n at *
  have Q := Lib.hid q
  clear q
  by_cases h0 : i < 0
  · rw [if_pos (Or.inl h0)]
    go_enter Tryz.func167, Tryz.ntmps167
    go_wp2_with fail
    refine Q.out.mono ?_
    rintro e w' ⟨rfl, rfl⟩
    go_wp2_with fail
    go_ret
    exact ⟨rfl, rfl⟩
  · by_cases h1 : (n : Int) ≤ i
    · rw [if_pos (Or.inr h1)]
      go_enter Tryz.func167, Tryz.ntmps167
      go_wp2_with fail
      refine Q.out.mono ?_
      rintro e w' ⟨rfl, rfl⟩
      go_wp2_with fail
      go_ret
      exact ⟨rfl, rfl⟩
    · rw [if_neg (by omega)]
      have h2 : 0 ≤ i := by omega
      have h3 : i < (n : Int) := by omega
      clear h1 h0
      go_enter Tryz.func167, Tryz.ntmps167
      go_wp2_with fail
      refine Q.out.mono ?_
      rintro e w' ⟨rfl, rfl⟩
      go_wp2_with fail
      go_ret
      exact ⟨rfl, rfl⟩
end Go.Proofs.YtdodloannlfnlaaGreat.S10
namespace Go.Proofs.YtdodloannlfnlaaGreat.S2
open Go.Maps
open Go.Proofs.YtdodloannlfnlaaGreat
theorem look_strike_other {a b : Nat} (h : b ≠ a) (L : LL) : look (strike a L) b = look L b := by
  unfold look strike
  rw [find_filter_keep (f := fun p : Nat × Nat => p.1 == b) (g := fun p : Nat × Nat => p.1 != a)]
  intro p hp
  simp at *
  omega
theorem look_ins_other {a b : Nat} (v : Nat) (h : b ≠ a) : ∀ L : LL, look (ins a v L) b = look L b
  | [] => by simp [look, ins, Ne.symm h]
  | q :: r => by
    unfold ins
    split
    · simp [look, Ne.symm h]
    · have ih := look_ins_other v h r
      unfold look at *
      rw [List.find?_cons, List.find?_cons]
      cases q.1 == b
      · exact ih
      · rfl
theorem look_put_other {a b : Nat} (v : Nat) (h : b ≠ a) (L : LL) : look (putL L a v) b = look L b := by
  unfold putL
  split
  · exact look_strike_other h L
  · rw [look_ins_other v h, look_strike_other h]
end Go.Proofs.YtdodloannlfnlaaGreat.S2
namespace Go.Proofs.YtdodloannlfnlaaGreat.S13
open Go.Proofs.YtdodloannlfnlaaGreat Go.RowKit
theorem meth_step (a : Addr) (w : World) : (method 422 281 (.pointer (some a)) "Step").run Tryz.prog w = .ok (193, .pointer (some a)) w := by kernel_rfl
end Go.Proofs.YtdodloannlfnlaaGreat.S13
