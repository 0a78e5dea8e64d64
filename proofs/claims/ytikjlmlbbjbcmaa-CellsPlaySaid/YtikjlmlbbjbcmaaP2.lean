/- Bits, plain: and-not, complement, what comes back. -/
import Derived.Test.YtikjlmlbbjbcmaaP0
import Derived.WalkKit
import Derived.Laws.Bits64b
namespace Go.Proofs.Ytikjlmlbbjbcmaa
def cpl (d : Nat) : Nat := 18446744073709551615 - d
def negN (d : Nat) : Nat := (18446744073709551616 - d) % 18446744073709551616
theorem wrap_neg (d : Nat) (hd : d < 18446744073709551616) : IntKind.u64.wrap (-(d : Int)) = (negN d : Nat) := by
  unfold negN
  simp [IntKind.wrap, IntKind.bits, IntKind.signed]
  omega
theorem wrap_one (z : Nat) : IntKind.u64.wrap ((z : Int) + 1) = ((z + 1) % 18446744073709551616 : Nat) := by
  simp [IntKind.wrap, IntKind.bits, IntKind.signed]
theorem bv_not (d : Nat) (hd : d < 18446744073709551616) : (~~~(BitVec.ofNat 64 d)).toNat = cpl d := by
  rw [BitVec.toNat_not, BitVec.toNat_ofNat, Nat.mod_eq_of_lt hd]
  rfl
theorem andNot_nat (z d : Nat) (hz : z < 18446744073709551616) (hd : d < 18446744073709551616) : bits .andNot .u64 (z : Int) (d : Int) = ((z &&& cpl d : Nat) : Int) := by
  have e1 : bits .andNot .u64 (z : Int) (d : Int) = IntKind.u64.wrap ((BitVec.ofInt 64 (z : Int) &&& ~~~(BitVec.ofInt 64 (d : Int))).toNat : Int) := rfl
  rw [e1, IntKind.wrap_u64, BitVec.ofInt_natCast, BitVec.ofInt_natCast, BitVec.toNat_and, bv_not d hd, BitVec.toNat_ofNat, Nat.mod_eq_of_lt hz]
  have := Nat.and_le_left (n := z) (m := cpl d)
  omega
theorem cpl_lt (d : Nat) : cpl d < 18446744073709551616 := by unfold cpl; omega
theorem test_cpl (d i : Nat) (hd : d < 18446744073709551616) : (cpl d).testBit i = (decide (i < 64) && !d.testBit i) := by
  have h := Nat.testBit_two_pow_sub_succ (x := d) (n := 64) hd i
  rw [← h]
  congr 1
  unfold cpl
  simp only [Nat.reducePow]
  omega
theorem xor_cpl (d : Nat) (hd : d < 18446744073709551616) : 18446744073709551615 ^^^ d = cpl d := by
  apply Nat.eq_of_testBit_eq
  intro i
  rw [Nat.testBit_xor, test_cpl d i hd, show (18446744073709551615 : Nat) = 2 ^ 64 - 1 from rfl, Nat.testBit_two_pow_sub_one]
  by_cases h : i < 64
  · simp [h]
  · have : d.testBit i = false := Nat.testBit_lt_two_pow (Nat.lt_of_lt_of_le hd (Nat.pow_le_pow_right (n := 2) (by omega) (by omega : 64 ≤ i)))
    simp [h, this]
theorem bits_not (d : Nat) (hd : d < 18446744073709551616) : bits .xor .u64 IntKind.u64.max (d : Int) = ((cpl d : Nat) : Int) := by
  rw [show IntKind.u64.max = ((18446744073709551615 : Nat) : Int) from rfl]
  rw [← xor_cpl d hd]
  exact bits_xor_u64_nat 18446744073709551615 d (by omega) hd
theorem and_back (z d : Nat) (hd : d < 18446744073709551616) : (z ||| d) &&& cpl d = z &&& cpl d := by
  apply Nat.eq_of_testBit_eq
  intro i
  rw [Nat.testBit_and, Nat.testBit_and, Nat.testBit_or, test_cpl d i hd]
  cases z.testBit i <;> cases d.testBit i <;> simp
theorem and_back8 (z d : Nat) (hz : z < 256) (hd : d < 18446744073709551616) : ((z ||| d) % 256 &&& cpl d) % 256 = z &&& cpl d := by
  apply Nat.eq_of_testBit_eq
  intro i
  rw [show (256 : Nat) = 2 ^ 8 from rfl, Nat.testBit_mod_two_pow, Nat.testBit_and, Nat.testBit_mod_two_pow, Nat.testBit_and, Nat.testBit_or, test_cpl d i hd]
  by_cases h : i < 8
  · have : i < 64 := by omega
    cases z.testBit i <;> cases d.testBit i <;> simp [h, this]
  · have : z.testBit i = false := Nat.testBit_lt_two_pow (Nat.lt_of_lt_of_le hz (Nat.pow_le_pow_right (n := 2) (by omega) (by omega : 8 ≤ i)))
    simp [h, this]
theorem bring_bring (a v : Nat) : bring a (bring a v) = bring a v := by unfold bring; split <;> omega
theorem bring_back (a v d : Nat) (hd : d < 18446744073709551616) : bring a (bring a (bring a v ||| d) &&& cpl d) = bring a v &&& cpl d := by
  unfold bring
  split
  · exact and_back8 _ d (by omega) hd
  · exact and_back v d hd
theorem bring_neg (a v d : Nat) (hv : v < 18446744073709551616) (_hd : d < 18446744073709551616) : bring a ((bring a ((bring a v + d) % 18446744073709551616) + negN d) % 18446744073709551616) = bring a v := by
  unfold bring negN
  split <;> omega
end Go.Proofs.Ytikjlmlbbjbcmaa
