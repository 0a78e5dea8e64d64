/- Hashes: the bits for some threads; the chapter's examples. -/
import Derived.Test.YtpfohjikadfblaaA2
import Derived.Deep.LoopGhost
import Derived.Deep.RegionWith
namespace Go.Proofs.Ytpfohjikadfblaa
open Go.RowKit

/-- The bits of a table for some threads. -/
def bitsZ (t : Int) : Int := if t ≤ 1 then 2 else if t ≤ 2 then 3 else if t ≤ 5 then 4 else if t ≤ 10 then 5 else if t ≤ 21 then 6 else if t ≤ 42 then 7 else 8
set_option maxHeartbeats 2000000 in
set_option maxRecDepth 20000 in
theorem bits_any (t : Int) (w : World) : Calls Try.prog 11 #[.int .i64 t] w fun e w' => e = .returned (.int .i64 (bitsZ t)) ∧ w = w' := by
  have s0 := size_any 2 w
  rw [show sizeN 2 = 4 by decide] at s0
  have S0 := Lib.hid s0
  clear s0
  have s1 := size_any 3 w
  rw [show sizeN 3 = 8 by decide] at s1
  have S1 := Lib.hid s1
  clear s1
  have s2 := size_any 4 w
  rw [show sizeN 4 = 16 by decide] at s2
  have S2 := Lib.hid s2
  clear s2
  have s3 := size_any 5 w
  rw [show sizeN 5 = 32 by decide] at s3
  have S3 := Lib.hid s3
  clear s3
  have s4 := size_any 6 w
  rw [show sizeN 6 = 64 by decide] at s4
  have S4 := Lib.hid s4
  clear s4
  have s5 := size_any 7 w
  rw [show sizeN 7 = 128 by decide] at s5
  have S5 := Lib.hid s5
  clear s5
  have s6 := size_any 8 w
  rw [show sizeN 8 = 256 by decide] at s6
  have S6 := Lib.hid s6
  clear s6
  go_enter Try.func11, Try.ntmps11
  go_wp2_with fail
  go_loopg [5] 7 (fun q s5 wx => ∃ k : Nat, k ≤ 7 ∧ q = 7 - k ∧ s5 = .int .i64 (k : Int) ∧ w = wx ∧ (k = 0 ∨ ((2 ^ (k + 1) / 3 : Nat) : Int) < t))
  case atStart => exact ⟨0, by omega, rfl, rfl, rfl, Or.inl rfl⟩
  case round =>
    obtain ⟨k, hk, rfl, rfl, rfl, hj⟩ := hrel
    have hk' : k = 0 ∨ k = 1 ∨ k = 2 ∨ k = 3 ∨ k = 4 ∨ k = 5 ∨ k = 6 ∨ k = 7 := by omega
    rcases hk' with rfl | rfl | rfl | rfl | rfl | rfl | rfl | rfl
    all_goals simp only [Nat.reduceAdd, Nat.reducePow, Nat.reduceDiv] at hj
    · by_cases h1 : t ≤ 1
      · have e1 : bitsZ t = 2 := by unfold bitsZ; repeat (first | rw [if_pos (by omega)] | rw [if_neg (by omega)])
        have E1 := Lib.hid e1
        clear e1 hj hk
        go_wp2_with fail
        refine S0.out.mono ?_
        rintro e w' ⟨rfl, rfl⟩
        go_wp2_with fail
        go_ret
        rw [E1.out]
        exact ⟨rfl, rfl⟩
      · clear hj hk
        go_wp2_with fail
        refine S0.out.mono ?_
        rintro e w' ⟨rfl, rfl⟩
        go_wp2_with fail
        go_roundg 6
        case measure => omega
        case rel => exact ⟨1, by omega, rfl, rfl, rfl, Or.inr (by omega)⟩
    · by_cases h1 : t ≤ 2
      · have e1 : bitsZ t = 3 := by unfold bitsZ; repeat (first | rw [if_pos (by omega)] | rw [if_neg (by omega)])
        have E1 := Lib.hid e1
        clear e1 hj hk
        go_wp2_with fail
        refine S1.out.mono ?_
        rintro e w' ⟨rfl, rfl⟩
        go_wp2_with fail
        go_ret
        rw [E1.out]
        exact ⟨rfl, rfl⟩
      · clear hj hk
        go_wp2_with fail
        refine S1.out.mono ?_
        rintro e w' ⟨rfl, rfl⟩
        go_wp2_with fail
        go_roundg 5
        case measure => omega
        case rel => exact ⟨2, by omega, rfl, rfl, rfl, Or.inr (by omega)⟩
    · by_cases h1 : t ≤ 5
      · have e1 : bitsZ t = 4 := by unfold bitsZ; repeat (first | rw [if_pos (by omega)] | rw [if_neg (by omega)])
        have E1 := Lib.hid e1
        clear e1 hj hk
        go_wp2_with fail
        refine S2.out.mono ?_
        rintro e w' ⟨rfl, rfl⟩
        go_wp2_with fail
        go_ret
        rw [E1.out]
        exact ⟨rfl, rfl⟩
      · clear hj hk
        go_wp2_with fail
        refine S2.out.mono ?_
        rintro e w' ⟨rfl, rfl⟩
        go_wp2_with fail
        go_roundg 4
        case measure => omega
        case rel => exact ⟨3, by omega, rfl, rfl, rfl, Or.inr (by omega)⟩
    · by_cases h1 : t ≤ 10
      · have e1 : bitsZ t = 5 := by unfold bitsZ; repeat (first | rw [if_pos (by omega)] | rw [if_neg (by omega)])
        have E1 := Lib.hid e1
        clear e1 hj hk
        go_wp2_with fail
        refine S3.out.mono ?_
        rintro e w' ⟨rfl, rfl⟩
        go_wp2_with fail
        go_ret
        rw [E1.out]
        exact ⟨rfl, rfl⟩
      · clear hj hk
        go_wp2_with fail
        refine S3.out.mono ?_
        rintro e w' ⟨rfl, rfl⟩
        go_wp2_with fail
        go_roundg 3
        case measure => omega
        case rel => exact ⟨4, by omega, rfl, rfl, rfl, Or.inr (by omega)⟩
    · by_cases h1 : t ≤ 21
      · have e1 : bitsZ t = 6 := by unfold bitsZ; repeat (first | rw [if_pos (by omega)] | rw [if_neg (by omega)])
        have E1 := Lib.hid e1
        clear e1 hj hk
        go_wp2_with fail
        refine S4.out.mono ?_
        rintro e w' ⟨rfl, rfl⟩
        go_wp2_with fail
        go_ret
        rw [E1.out]
        exact ⟨rfl, rfl⟩
      · clear hj hk
        go_wp2_with fail
        refine S4.out.mono ?_
        rintro e w' ⟨rfl, rfl⟩
        go_wp2_with fail
        go_roundg 2
        case measure => omega
        case rel => exact ⟨5, by omega, rfl, rfl, rfl, Or.inr (by omega)⟩
    · by_cases h1 : t ≤ 42
      · have e1 : bitsZ t = 7 := by unfold bitsZ; repeat (first | rw [if_pos (by omega)] | rw [if_neg (by omega)])
        have E1 := Lib.hid e1
        clear e1 hj hk
        go_wp2_with fail
        refine S5.out.mono ?_
        rintro e w' ⟨rfl, rfl⟩
        go_wp2_with fail
        go_ret
        rw [E1.out]
        exact ⟨rfl, rfl⟩
      · clear hj hk
        go_wp2_with fail
        refine S5.out.mono ?_
        rintro e w' ⟨rfl, rfl⟩
        go_wp2_with fail
        go_roundg 1
        case measure => omega
        case rel => exact ⟨6, by omega, rfl, rfl, rfl, Or.inr (by omega)⟩
    · by_cases h1 : t ≤ 85
      · have e1 : bitsZ t = 8 := by unfold bitsZ; repeat (first | rw [if_pos (by omega)] | rw [if_neg (by omega)])
        have E1 := Lib.hid e1
        clear e1 hj hk
        go_wp2_with fail
        refine S6.out.mono ?_
        rintro e w' ⟨rfl, rfl⟩
        go_wp2_with fail
        go_ret
        rw [E1.out]
        exact ⟨rfl, rfl⟩
      · clear hj hk
        go_wp2_with fail
        refine S6.out.mono ?_
        rintro e w' ⟨rfl, rfl⟩
        go_wp2_with fail
        go_roundg 0
        case measure => omega
        case rel => exact ⟨7, by omega, rfl, rfl, rfl, Or.inr (by omega)⟩
    · have e1 : bitsZ t = 8 := by unfold bitsZ; repeat (first | rw [if_pos (by omega)] | rw [if_neg (by omega)])
      have E1 := Lib.hid e1
      clear e1 hj hk
      go_wp2_with fail
      go_ret
      rw [E1.out]
      exact ⟨rfl, rfl⟩
end Go.Proofs.Ytpfohjikadfblaa
