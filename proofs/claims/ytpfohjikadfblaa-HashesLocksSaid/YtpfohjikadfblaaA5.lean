/- Hashes: the chapter's examples; HashesHalves; HashesLocks. -/
import Derived.Test.YtpfohjikadfblaaA3
import Derived.Test.YtpfohjikadfblaaA4
namespace Go.Proofs.Ytpfohjikadfblaa
open Go.RowKit

theorem lives_any (w : World) : Calls Try.prog 7 #[] w fun e w' => e = .returned (.bool true) ∧ w = w' := by
  have h1 := of_any 511 (by omega) w
  have h2 := of_any 767 (by omega) w
  have h3 := hash_any 0 2 (by omega) w
  have h4 := bits_any 1 w
  have h5 := bits_any 2 w
  have h6 := bits_any 64 w
  have h7 := size_any 8 w
  have h8 := lock_any 2 3 w
  rw [show ofB 511 = 7 by decide, show ofI 511 = 127 by decide] at h1
  rw [show ofB 767 = 8 by decide, show ofI 767 = 255 by decide] at h2
  rw [show hashZ 0 2 = 0 by decide] at h3
  rw [show bitsZ 1 = 2 by decide] at h4
  rw [show bitsZ 2 = 3 by decide] at h5
  rw [show bitsZ 64 = 8 by decide] at h6
  rw [show sizeN 8 = 256 by decide] at h7
  rw [show lockZ 2 3 = 263 by decide] at h8
  have H1 := Lib.hid h1; have H2 := Lib.hid h2; have H3 := Lib.hid h3; have H4 := Lib.hid h4
  have H5 := Lib.hid h5; have H6 := Lib.hid h6; have H7 := Lib.hid h7; have H8 := Lib.hid h8
  clear h1 h2 h3 h4 h5 h6 h7 h8
  go_enter Try.func7, Try.ntmps7
  go_wp2_with fail
  refine H1.out.mono ?_
  rintro e w' ⟨rfl, rfl⟩
  go_wp2_with fail
  refine H2.out.mono ?_
  rintro e w' ⟨rfl, rfl⟩
  go_wp2_with fail
  refine H3.out.mono ?_
  rintro e w' ⟨rfl, rfl⟩
  go_wp2_with fail
  refine H4.out.mono ?_
  rintro e w' ⟨rfl, rfl⟩
  go_wp2_with fail
  refine H5.out.mono ?_
  rintro e w' ⟨rfl, rfl⟩
  go_wp2_with fail
  refine H6.out.mono ?_
  rintro e w' ⟨rfl, rfl⟩
  go_wp2_with fail
  refine H7.out.mono ?_
  rintro e w' ⟨rfl, rfl⟩
  go_wp2_with fail
  refine H8.out.mono ?_
  rintro e w' ⟨rfl, rfl⟩
  go_wp2_with fail
  go_ret
  exact ⟨rfl, rfl⟩
/-- A hash function, as far as the law asks. -/
theorem hash_kit (w : World) : ∃ h : Nat → Nat → Nat, (∀ a k : Nat, a < 4294967296 → 2 ≤ k → k ≤ 8 → Calls Try.prog 5 #[.int .u32 a, .int .i64 k] w fun e w' => e = .returned (.int .i64 (h a k : Nat)) ∧ w = w') ∧ (∀ a b : Nat, b ≤ 64 → h a b < 2 ^ b) ∧ ∀ a b : Nat, b < 64 → h a (b + 1) / 2 = h a b :=
  ⟨hsh, fun a k ha h g => hash_yes a k ha h g w, hsh_lt, hsh_half⟩
set_option maxHeartbeats 2000000 in
set_option maxRecDepth 20000 in
theorem law_halves (a b : Nat) (ha : a < 4294967296) (hb : b < 4294967296) (w : World) : Calls Try.prog 3 #[.int .u32 a, .int .u32 b] w fun e w' => e = .returned (.bool true) ∧ w = w' := by
  obtain ⟨hsh, hh, hsh_lt, hsh_half⟩ := hash_kit w
  have hs := fun b => size_any b w
  have hl := lives_any w
  have HH := Lib.hid hh; have HS := Lib.hid hs; have HL := Lib.hid hl
  clear hh hs hl
  go_enter Try.func3, Try.ntmps3
  go_wp2_with fail
  go_loopg [5] 7 (fun q s5 wx => ∃ k : Nat, 2 ≤ k ∧ k ≤ 9 ∧ q = 9 - k ∧ s5 = .int .i64 (k : Int) ∧ w = wx)
  case atStart => exact ⟨2, by omega, by omega, rfl, rfl, rfl⟩
  case round =>
    obtain ⟨k, hk, hk', rfl, rfl, rfl⟩ := hrel
    by_cases h9 : k ≤ 8
    · have e0 : sizeN (k : Int) = 2 ^ k := by unfold sizeN; rw [if_pos (by omega)]; rfl
      have c0 := HH.out a k ha hk h9
      have c1 := HS.out k
      have c2 := HH.out b k hb hk h9
      have l0 := hsh_lt a k (by omega)
      rw [e0] at c1
      by_cases h8 : k = 8
      · subst h8
        generalize hsh a 8 = p at *
        have l1 : (p : Int) < 256 := by omega
        have C0 := Lib.hid c0; have C1 := Lib.hid c1
        clear c0 c1 c2 e0 l0 hk hk' h9
        go_wp2_with fail
        refine C0.out.mono ?_
        rintro e w' ⟨rfl, rfl⟩
        go_wp2_with fail
        refine C1.out.mono ?_
        rintro e w' ⟨rfl, rfl⟩
        go_wp2_with fail
        refine HL.out.mono ?_
        rintro e w' ⟨rfl, rfl⟩
        go_wp2_with fail
        go_ret
        exact ⟨rfl, rfl⟩
      · have c3 := HH.out a (k + 1) ha (by omega) (by omega)
        have c4 := HH.out b (k + 1) hb (by omega) (by omega)
        have d1 := hsh_half a k (by omega)
        have d2 := hsh_half b k (by omega)
        generalize hsh a k = p at *
        generalize hsh b k = r at *
        generalize hsh a (k + 1) = q at *
        generalize hsh b (k + 1) = s at *
        rw [show ((k + 1 : Nat) : Int) = (k : Int) + 1 by omega] at c3 c4
        have lz : 2 ^ k ≤ 256 := by
          calc 2 ^ k ≤ 2 ^ 8 := Nat.pow_le_pow_right (by omega) (by omega)
            _ = 256 := rfl
        generalize 2 ^ k = z at *
        have lp : (p : Int) < 256 := by omega
        have lq : (q : Int) < 512 := by omega
        have l1 : (p : Int) < (z : Int) := by omega
        have l2 : ((k : Int) == 8) = false := by rw [beq_eq_false_iff_ne]; omega
        have l3 : (q : Int) / 2 = (p : Int) := by omega
        have C0 := Lib.hid c0; have C1 := Lib.hid c1; have C2 := Lib.hid c2; have C3 := Lib.hid c3; have C4 := Lib.hid c4
        clear c0 c1 c2 c3 c4 e0
        by_cases hr : r = p
        · subst hr
          clear d1 d2 l0 h8
          go_wp2_with fail
          refine C0.out.mono ?_
          rintro e w' ⟨rfl, rfl⟩
          go_wp2_with fail
          refine C1.out.mono ?_
          rintro e w' ⟨rfl, rfl⟩
          go_wp2_with fail
          refine C3.out.mono ?_
          rintro e w' ⟨rfl, rfl⟩
          go_wp2_with fail
          refine C2.out.mono ?_
          rintro e w' ⟨rfl, rfl⟩
          go_wp2_with fail
          go_roundg (9 - (k + 1))
          case measure => omega
          case rel => exact ⟨k + 1, by omega, by omega, rfl, by go_num, rfl⟩
        · have l4 : ((r : Int) != (p : Int)) = true := by rw [bne_iff_ne]; omega
          have l5 : ((s : Int) == (q : Int)) = false := by rw [beq_eq_false_iff_ne]; omega
          clear d1 d2 l0 h8 hr
          go_wp2_with fail
          refine C0.out.mono ?_
          rintro e w' ⟨rfl, rfl⟩
          go_wp2_with fail
          refine C1.out.mono ?_
          rintro e w' ⟨rfl, rfl⟩
          go_wp2_with fail
          refine C3.out.mono ?_
          rintro e w' ⟨rfl, rfl⟩
          go_wp2_with fail
          refine C2.out.mono ?_
          rintro e w' ⟨rfl, rfl⟩
          go_wp2_with fail
          refine C4.out.mono ?_
          rintro e w' ⟨rfl, rfl⟩
          go_wp2_with fail
          go_roundg (9 - (k + 1))
          case measure => omega
          case rel => exact ⟨k + 1, by omega, by omega, rfl, by go_num, rfl⟩
    · obtain rfl : k = 9 := by omega
      clear h9 hk hk'
      go_wp2_with fail
      refine HL.out.mono ?_
      rintro e w' ⟨rfl, rfl⟩
      go_wp2_with fail
      go_ret
      exact ⟨rfl, rfl⟩
end Go.Proofs.Ytpfohjikadfblaa
