/- Hashes: whose lock stands at an address; the bits for some threads. -/
import Derived.Test.YtpfohjikadfblaaA2
import Derived.Deep.LoopGhost
import Derived.Deep.RegionWith
namespace Go.Proofs.Ytpfohjikadfblaa
open Go.RowKit

/-- Whose lock stands at an address: its table's bits, and its bucket. -/
def ofB (a : Nat) : Int := if a < 260 then -1 else if a < 264 then 2 else if a < 272 then 3 else if a < 288 then 4 else if a < 320 then 5 else if a < 384 then 6 else if a < 512 then 7 else if a < 768 then 8 else -1
def ofI (a : Nat) : Int := if a < 260 then -1 else if a < 264 then a - 260 else if a < 272 then a - 264 else if a < 288 then a - 272 else if a < 320 then a - 288 else if a < 384 then a - 320 else if a < 512 then a - 384 else if a < 768 then a - 512 else -1
set_option maxHeartbeats 2000000 in
set_option maxRecDepth 20000 in
theorem of_any (a : Nat) (ha : a < 4294967296) (w : World) : Calls Try.prog 9 #[.int .u32 a] w fun e w' => e = .returned (.tuple #[.int .i64 (ofB a), .int .i64 (ofI a)]) ∧ w = w' := by
  have l0 := lock_any 2 0 w
  rw [show lockZ 2 0 = 260 by decide] at l0
  have s0 := size_any 2 w
  rw [show sizeN 2 = 4 by decide] at s0
  have L0 := Lib.hid l0
  have S0 := Lib.hid s0
  clear l0 s0
  have l1 := lock_any 3 0 w
  rw [show lockZ 3 0 = 264 by decide] at l1
  have s1 := size_any 3 w
  rw [show sizeN 3 = 8 by decide] at s1
  have L1 := Lib.hid l1
  have S1 := Lib.hid s1
  clear l1 s1
  have l2 := lock_any 4 0 w
  rw [show lockZ 4 0 = 272 by decide] at l2
  have s2 := size_any 4 w
  rw [show sizeN 4 = 16 by decide] at s2
  have L2 := Lib.hid l2
  have S2 := Lib.hid s2
  clear l2 s2
  have l3 := lock_any 5 0 w
  rw [show lockZ 5 0 = 288 by decide] at l3
  have s3 := size_any 5 w
  rw [show sizeN 5 = 32 by decide] at s3
  have L3 := Lib.hid l3
  have S3 := Lib.hid s3
  clear l3 s3
  have l4 := lock_any 6 0 w
  rw [show lockZ 6 0 = 320 by decide] at l4
  have s4 := size_any 6 w
  rw [show sizeN 6 = 64 by decide] at s4
  have L4 := Lib.hid l4
  have S4 := Lib.hid s4
  clear l4 s4
  have l5 := lock_any 7 0 w
  rw [show lockZ 7 0 = 384 by decide] at l5
  have s5 := size_any 7 w
  rw [show sizeN 7 = 128 by decide] at s5
  have L5 := Lib.hid l5
  have S5 := Lib.hid s5
  clear l5 s5
  have l6 := lock_any 8 0 w
  rw [show lockZ 8 0 = 512 by decide] at l6
  have s6 := size_any 8 w
  rw [show sizeN 8 = 256 by decide] at s6
  have L6 := Lib.hid l6
  have S6 := Lib.hid s6
  clear l6 s6
  go_enter Try.func9, Try.ntmps9
  go_wp2_with fail
  go_loopg [2, 6] 7 (fun q s2 s6 wx => ∃ (k : Nat) (x : Int), k ≤ 7 ∧ q = 7 - k ∧ s2 = .int .i64 x ∧ s6 = .int .i64 (k : Int) ∧ w = wx ∧ (a < 260 ∨ 256 + 2 ^ (k + 2) ≤ a))
  case atStart => exact ⟨0, 0, by omega, rfl, rfl, rfl, rfl, by omega⟩
  case round =>
    obtain ⟨k, x, hk, rfl, rfl, rfl, rfl, hj⟩ := hrel
    have hk' : k = 0 ∨ k = 1 ∨ k = 2 ∨ k = 3 ∨ k = 4 ∨ k = 5 ∨ k = 6 ∨ k = 7 := by omega
    rcases hk' with rfl | rfl | rfl | rfl | rfl | rfl | rfl | rfl
    · by_cases h1 : 260 ≤ a
      · by_cases h2 : a < 264
        · have e1 : ofB a = 2 := by unfold ofB; simp only [Nat.reduceAdd, Nat.reducePow] at hj; repeat (first | rw [if_pos (by omega)] | rw [if_neg (by omega)])
          have e2 : ofI a = (a : Int) - 260 := by unfold ofI; simp only [Nat.reduceAdd, Nat.reducePow] at hj; repeat (first | rw [if_pos (by omega)] | rw [if_neg (by omega)])
          have E1 := Lib.hid e1; have E2 := Lib.hid e2
          clear e1 e2 hj hk
          go_wp2_with fail
          refine L0.out.mono ?_
          rintro e w' ⟨rfl, rfl⟩
          go_wp2_with fail
          refine S0.out.mono ?_
          rintro e w' ⟨rfl, rfl⟩
          go_wp2_with fail
          go_ret2
          rw [E1.out, E2.out]
          exact ⟨rfl, rfl⟩
        · clear hj hk
          go_wp2_with fail
          refine L0.out.mono ?_
          rintro e w' ⟨rfl, rfl⟩
          go_wp2_with fail
          refine S0.out.mono ?_
          rintro e w' ⟨rfl, rfl⟩
          go_wp2_with fail
          go_roundg 6
          case measure => omega
          case rel => exact ⟨1, _, by omega, rfl, rfl, rfl, rfl, Or.inr (by omega)⟩
      · have h3 : a < 260 := by omega
        clear hj hk
        go_wp2_with fail
        refine L0.out.mono ?_
        rintro e w' ⟨rfl, rfl⟩
        go_wp2_with fail
        go_roundg 6
        case measure => omega
        case rel => exact ⟨1, _, by omega, rfl, rfl, rfl, rfl, Or.inl h3⟩
    · by_cases h1 : 264 ≤ a
      · by_cases h2 : a < 272
        · have e1 : ofB a = 3 := by unfold ofB; simp only [Nat.reduceAdd, Nat.reducePow] at hj; repeat (first | rw [if_pos (by omega)] | rw [if_neg (by omega)])
          have e2 : ofI a = (a : Int) - 264 := by unfold ofI; simp only [Nat.reduceAdd, Nat.reducePow] at hj; repeat (first | rw [if_pos (by omega)] | rw [if_neg (by omega)])
          have E1 := Lib.hid e1; have E2 := Lib.hid e2
          clear e1 e2 hj hk
          go_wp2_with fail
          refine L1.out.mono ?_
          rintro e w' ⟨rfl, rfl⟩
          go_wp2_with fail
          refine S1.out.mono ?_
          rintro e w' ⟨rfl, rfl⟩
          go_wp2_with fail
          go_ret2
          rw [E1.out, E2.out]
          exact ⟨rfl, rfl⟩
        · clear hj hk
          go_wp2_with fail
          refine L1.out.mono ?_
          rintro e w' ⟨rfl, rfl⟩
          go_wp2_with fail
          refine S1.out.mono ?_
          rintro e w' ⟨rfl, rfl⟩
          go_wp2_with fail
          go_roundg 5
          case measure => omega
          case rel => exact ⟨2, _, by omega, rfl, rfl, rfl, rfl, Or.inr (by omega)⟩
      · have h3 : a < 260 := by omega
        clear hj hk
        go_wp2_with fail
        refine L1.out.mono ?_
        rintro e w' ⟨rfl, rfl⟩
        go_wp2_with fail
        go_roundg 5
        case measure => omega
        case rel => exact ⟨2, _, by omega, rfl, rfl, rfl, rfl, Or.inl h3⟩
    · by_cases h1 : 272 ≤ a
      · by_cases h2 : a < 288
        · have e1 : ofB a = 4 := by unfold ofB; simp only [Nat.reduceAdd, Nat.reducePow] at hj; repeat (first | rw [if_pos (by omega)] | rw [if_neg (by omega)])
          have e2 : ofI a = (a : Int) - 272 := by unfold ofI; simp only [Nat.reduceAdd, Nat.reducePow] at hj; repeat (first | rw [if_pos (by omega)] | rw [if_neg (by omega)])
          have E1 := Lib.hid e1; have E2 := Lib.hid e2
          clear e1 e2 hj hk
          go_wp2_with fail
          refine L2.out.mono ?_
          rintro e w' ⟨rfl, rfl⟩
          go_wp2_with fail
          refine S2.out.mono ?_
          rintro e w' ⟨rfl, rfl⟩
          go_wp2_with fail
          go_ret2
          rw [E1.out, E2.out]
          exact ⟨rfl, rfl⟩
        · clear hj hk
          go_wp2_with fail
          refine L2.out.mono ?_
          rintro e w' ⟨rfl, rfl⟩
          go_wp2_with fail
          refine S2.out.mono ?_
          rintro e w' ⟨rfl, rfl⟩
          go_wp2_with fail
          go_roundg 4
          case measure => omega
          case rel => exact ⟨3, _, by omega, rfl, rfl, rfl, rfl, Or.inr (by omega)⟩
      · have h3 : a < 260 := by omega
        clear hj hk
        go_wp2_with fail
        refine L2.out.mono ?_
        rintro e w' ⟨rfl, rfl⟩
        go_wp2_with fail
        go_roundg 4
        case measure => omega
        case rel => exact ⟨3, _, by omega, rfl, rfl, rfl, rfl, Or.inl h3⟩
    · by_cases h1 : 288 ≤ a
      · by_cases h2 : a < 320
        · have e1 : ofB a = 5 := by unfold ofB; simp only [Nat.reduceAdd, Nat.reducePow] at hj; repeat (first | rw [if_pos (by omega)] | rw [if_neg (by omega)])
          have e2 : ofI a = (a : Int) - 288 := by unfold ofI; simp only [Nat.reduceAdd, Nat.reducePow] at hj; repeat (first | rw [if_pos (by omega)] | rw [if_neg (by omega)])
          have E1 := Lib.hid e1; have E2 := Lib.hid e2
          clear e1 e2 hj hk
          go_wp2_with fail
          refine L3.out.mono ?_
          rintro e w' ⟨rfl, rfl⟩
          go_wp2_with fail
          refine S3.out.mono ?_
          rintro e w' ⟨rfl, rfl⟩
          go_wp2_with fail
          go_ret2
          rw [E1.out, E2.out]
          exact ⟨rfl, rfl⟩
        · clear hj hk
          go_wp2_with fail
          refine L3.out.mono ?_
          rintro e w' ⟨rfl, rfl⟩
          go_wp2_with fail
          refine S3.out.mono ?_
          rintro e w' ⟨rfl, rfl⟩
          go_wp2_with fail
          go_roundg 3
          case measure => omega
          case rel => exact ⟨4, _, by omega, rfl, rfl, rfl, rfl, Or.inr (by omega)⟩
      · have h3 : a < 260 := by omega
        clear hj hk
        go_wp2_with fail
        refine L3.out.mono ?_
        rintro e w' ⟨rfl, rfl⟩
        go_wp2_with fail
        go_roundg 3
        case measure => omega
        case rel => exact ⟨4, _, by omega, rfl, rfl, rfl, rfl, Or.inl h3⟩
    · by_cases h1 : 320 ≤ a
      · by_cases h2 : a < 384
        · have e1 : ofB a = 6 := by unfold ofB; simp only [Nat.reduceAdd, Nat.reducePow] at hj; repeat (first | rw [if_pos (by omega)] | rw [if_neg (by omega)])
          have e2 : ofI a = (a : Int) - 320 := by unfold ofI; simp only [Nat.reduceAdd, Nat.reducePow] at hj; repeat (first | rw [if_pos (by omega)] | rw [if_neg (by omega)])
          have E1 := Lib.hid e1; have E2 := Lib.hid e2
          clear e1 e2 hj hk
          go_wp2_with fail
          refine L4.out.mono ?_
          rintro e w' ⟨rfl, rfl⟩
          go_wp2_with fail
          refine S4.out.mono ?_
          rintro e w' ⟨rfl, rfl⟩
          go_wp2_with fail
          go_ret2
          rw [E1.out, E2.out]
          exact ⟨rfl, rfl⟩
        · clear hj hk
          go_wp2_with fail
          refine L4.out.mono ?_
          rintro e w' ⟨rfl, rfl⟩
          go_wp2_with fail
          refine S4.out.mono ?_
          rintro e w' ⟨rfl, rfl⟩
          go_wp2_with fail
          go_roundg 2
          case measure => omega
          case rel => exact ⟨5, _, by omega, rfl, rfl, rfl, rfl, Or.inr (by omega)⟩
      · have h3 : a < 260 := by omega
        clear hj hk
        go_wp2_with fail
        refine L4.out.mono ?_
        rintro e w' ⟨rfl, rfl⟩
        go_wp2_with fail
        go_roundg 2
        case measure => omega
        case rel => exact ⟨5, _, by omega, rfl, rfl, rfl, rfl, Or.inl h3⟩
    · by_cases h1 : 384 ≤ a
      · by_cases h2 : a < 512
        · have e1 : ofB a = 7 := by unfold ofB; simp only [Nat.reduceAdd, Nat.reducePow] at hj; repeat (first | rw [if_pos (by omega)] | rw [if_neg (by omega)])
          have e2 : ofI a = (a : Int) - 384 := by unfold ofI; simp only [Nat.reduceAdd, Nat.reducePow] at hj; repeat (first | rw [if_pos (by omega)] | rw [if_neg (by omega)])
          have E1 := Lib.hid e1; have E2 := Lib.hid e2
          clear e1 e2 hj hk
          go_wp2_with fail
          refine L5.out.mono ?_
          rintro e w' ⟨rfl, rfl⟩
          go_wp2_with fail
          refine S5.out.mono ?_
          rintro e w' ⟨rfl, rfl⟩
          go_wp2_with fail
          go_ret2
          rw [E1.out, E2.out]
          exact ⟨rfl, rfl⟩
        · clear hj hk
          go_wp2_with fail
          refine L5.out.mono ?_
          rintro e w' ⟨rfl, rfl⟩
          go_wp2_with fail
          refine S5.out.mono ?_
          rintro e w' ⟨rfl, rfl⟩
          go_wp2_with fail
          go_roundg 1
          case measure => omega
          case rel => exact ⟨6, _, by omega, rfl, rfl, rfl, rfl, Or.inr (by omega)⟩
      · have h3 : a < 260 := by omega
        clear hj hk
        go_wp2_with fail
        refine L5.out.mono ?_
        rintro e w' ⟨rfl, rfl⟩
        go_wp2_with fail
        go_roundg 1
        case measure => omega
        case rel => exact ⟨6, _, by omega, rfl, rfl, rfl, rfl, Or.inl h3⟩
    · by_cases h1 : 512 ≤ a
      · by_cases h2 : a < 768
        · have e1 : ofB a = 8 := by unfold ofB; simp only [Nat.reduceAdd, Nat.reducePow] at hj; repeat (first | rw [if_pos (by omega)] | rw [if_neg (by omega)])
          have e2 : ofI a = (a : Int) - 512 := by unfold ofI; simp only [Nat.reduceAdd, Nat.reducePow] at hj; repeat (first | rw [if_pos (by omega)] | rw [if_neg (by omega)])
          have E1 := Lib.hid e1; have E2 := Lib.hid e2
          clear e1 e2 hj hk
          go_wp2_with fail
          refine L6.out.mono ?_
          rintro e w' ⟨rfl, rfl⟩
          go_wp2_with fail
          refine S6.out.mono ?_
          rintro e w' ⟨rfl, rfl⟩
          go_wp2_with fail
          go_ret2
          rw [E1.out, E2.out]
          exact ⟨rfl, rfl⟩
        · clear hj hk
          go_wp2_with fail
          refine L6.out.mono ?_
          rintro e w' ⟨rfl, rfl⟩
          go_wp2_with fail
          refine S6.out.mono ?_
          rintro e w' ⟨rfl, rfl⟩
          go_wp2_with fail
          go_roundg 0
          case measure => omega
          case rel => exact ⟨7, _, by omega, rfl, rfl, rfl, rfl, Or.inr (by omega)⟩
      · have h3 : a < 260 := by omega
        clear hj hk
        go_wp2_with fail
        refine L6.out.mono ?_
        rintro e w' ⟨rfl, rfl⟩
        go_wp2_with fail
        go_roundg 0
        case measure => omega
        case rel => exact ⟨7, _, by omega, rfl, rfl, rfl, rfl, Or.inl h3⟩
    · have e1 : ofB a = -1 := by unfold ofB; simp only [Nat.reduceAdd, Nat.reducePow] at hj; rcases hj with hj | hj <;> repeat (first | rw [if_pos (by omega)] | rw [if_neg (by omega)])
      have e2 : ofI a = -1 := by unfold ofI; simp only [Nat.reduceAdd, Nat.reducePow] at hj; rcases hj with hj | hj <;> repeat (first | rw [if_pos (by omega)] | rw [if_neg (by omega)])
      have E1 := Lib.hid e1; have E2 := Lib.hid e2
      clear e1 e2 hj hk
      go_wp2_with fail
      go_ret2
      rw [E1.out, E2.out]
      exact ⟨rfl, rfl⟩
end Go.Proofs.Ytpfohjikadfblaa
