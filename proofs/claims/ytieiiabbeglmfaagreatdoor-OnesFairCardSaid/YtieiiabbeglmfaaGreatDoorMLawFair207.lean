/- Texts of this seat, one behind the other. -/
import Derived.Test.YtieiiabbeglmfaaGreatDoorMLawFair206
import Derived.Test.YtieiiabbeglmfaaGreatDoorProg
import Derived.WalkKit
import Derived.LoopTactic
import Derived.Outline
import Derived.Lib.Hide
import Derived.Deep.RegionWith
import Derived.Laws.Bits64b
set_option linter.unusedVariables false
set_option linter.unusedSimpArgs false
set_option linter.unusedVariables false
set_option linter.unusedSimpArgs false
namespace Go.Proofs.YtieiiabbeglmfaaGreatDoor.S2
open Go.Proofs.YtieiiabbeglmfaaGreatDoor
open Go.RowKit
theorem one_any (f a : Nat) (hf : f = 1024 ∨ f = 1120) (ha : a < 4294967296) (w : World) :
    Calls Tryz.prog 200 #[.int .u32 f, .int .u32 a] w fun e w' => e = .returned (.bool (oneB f a)) ∧ w = w' := by
  unfold oneB
  by_cases h1 : f ≤ a
  · by_cases h2 : a < f + 32
    · by_cases h3 : (a - f) % 4 = 0
      · have e1 : decide (f ≤ a) = true := by simpa using h1
        have e2 : decide (a < f + 32) = true := by simpa using h2
        have e3 : decide ((a - f) % 4 = 0) = true := by simpa using h3
        rw [e1, e2, e3]
        have H3 : (((a : Int) - (f : Int)) % 4 == 0) = true := by rw [beq_iff_eq]; omega
        clear e1 e2 e3 h3
        have g1 : decide ((f : Int) ≤ (a : Int)) = true := by simp; omega
        have g2 : decide ((a : Int) < (f : Int) + 32) = true := by simp; omega
        have b1 : (f : Int) ≤ 1120 := by omega
        have b0 : (1024 : Int) ≤ f := by omega
        have b2 : (a : Int) < 1152 := by omega
        have b3 : 0 ≤ (a : Int) - f := by omega
        clear hf
        go_enter Tryz.func200, Tryz.ntmps200
        go_wp2
        go_ret
        exact ⟨rfl, rfl⟩
      · have e1 : decide (f ≤ a) = true := by simpa using h1
        have e2 : decide (a < f + 32) = true := by simpa using h2
        have e3 : decide ((a - f) % 4 = 0) = false := by simpa using h3
        rw [e1, e2, e3]
        have H3 : (((a : Int) - (f : Int)) % 4 == 0) = false := by rw [beq_eq_false_iff_ne]; omega
        clear e1 e2 e3 h3
        have g1 : decide ((f : Int) ≤ (a : Int)) = true := by simp; omega
        have g2 : decide ((a : Int) < (f : Int) + 32) = true := by simp; omega
        have b1 : (f : Int) ≤ 1120 := by omega
        have b0 : (1024 : Int) ≤ f := by omega
        have b2 : (a : Int) < 1152 := by omega
        have b3 : 0 ≤ (a : Int) - f := by omega
        clear hf
        go_enter Tryz.func200, Tryz.ntmps200
        go_wp2
        go_ret
        exact ⟨rfl, rfl⟩
    · have e2 : decide (a < f + 32) = false := by simpa using h2
      rw [e2]
      simp only [Bool.and_false, Bool.false_and]
      have g1 : decide ((f : Int) ≤ (a : Int)) = true := by simp; omega
      have g2 : decide ((a : Int) < (f : Int) + 32) = false := by simp; omega
      have b1 : (f : Int) ≤ 1120 := by omega
      have b0 : (1024 : Int) ≤ f := by omega
      clear hf e2
      go_enter Tryz.func200, Tryz.ntmps200
      go_wp2
      go_ret
      exact ⟨rfl, rfl⟩
  · have e2 : decide (f ≤ a) = false := by simpa using h1
    rw [e2]
    simp only [Bool.and_false, Bool.false_and]
    have g1 : decide ((f : Int) ≤ (a : Int)) = false := by simp; omega
    have b1 : (f : Int) ≤ 1120 := by omega
    have b0 : (1024 : Int) ≤ f := by omega
    clear hf e2
    go_enter Tryz.func200, Tryz.ntmps200
    go_wp2
    go_ret
    exact ⟨rfl, rfl⟩
theorem byte_any (a : Nat) (ha : a < 4294967296) (w : World) :
    Calls Tryz.prog 175 #[.int .u32 a] w fun e w' => e = .returned (.bool (byteB a)) ∧ w = w' := by
  have h1 := fun W => one_any 1024 a (.inl rfl) ha W
  have h2 := fun W => one_any 1120 a (.inr rfl) ha W
  unfold byteB
  have H1 := Lib.hid h1
  have H2 := Lib.hid h2
  clear h1 h2
  generalize oneB 1024 a = x at *
  generalize oneB 1120 a = y at *
  cases x
  all_goals
    go_enter Tryz.func175, Tryz.ntmps175
    go_wp2_with (first
      | (go_at_call_of 200 (Value.int IntKind.u32 1024); refine (H1.out _).mono ?_; rintro e w' ⟨rfl, rfl⟩)
      | (go_at_call_of 200 (Value.int IntKind.u32 1120); refine (H2.out _).mono ?_; rintro e w' ⟨rfl, rfl⟩))
    go_ret
    exact ⟨by simp, rfl⟩
theorem and_255 (v : Nat) (h : v < 18446744073709551616) : bits .and .u64 (v : Int) 255 = ((v % 256 : Nat) : Int) := by
  have e : bits .and .u64 (v : Int) ((255 : Nat) : Int) = ((v &&& 255 : Nat) : Int) := bits_and_u64_nat v 255 h (by omega)
  rw [show (255 : Int) = ((255 : Nat) : Int) from rfl]
  rw [e, show (255 : Nat) = 2 ^ 8 - 1 from rfl, Nat.and_two_pow_sub_one_eq_mod]
theorem brought_any (a v : Nat) (ha : a < 4294967296) (hv : v < 18446744073709551616) (w : World) :
    Calls Tryz.prog 140 #[.int .u32 a, .int .u64 v] w fun e w' => e = .returned (.int .u64 (bring a v : Nat)) ∧ w = w' := by
  have h1 := fun W => byte_any a ha W
  have h2 := and_255 v hv
  unfold bring
  have H1 := Lib.hid h1
  clear h1
  generalize byteB a = x at *
  cases x
  all_goals
    go_enter Tryz.func140, Tryz.ntmps140
    go_wp2_with (first
      | (go_at_call 175; refine (H1.out _).mono ?_; rintro e w' ⟨rfl, rfl⟩))
    go_ret
    exact ⟨by simp, rfl⟩
end Go.Proofs.YtieiiabbeglmfaaGreatDoor.S2
