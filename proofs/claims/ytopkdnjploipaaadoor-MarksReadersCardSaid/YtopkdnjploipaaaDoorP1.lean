import Derived.WalkKit
import Derived.Laws.Bits64b
namespace Go.Proofs.YtopkdnjploipaaaDoor
theorem nand_pow (x i : Nat) : x &&& 2 ^ i = x / 2 ^ i % 2 * 2 ^ i := by
  have ht := @Nat.testBit_eq_decide_div_mod_eq i x
  apply Nat.eq_of_testBit_eq
  intro j
  rw [Nat.testBit_and, Nat.testBit_two_pow]
  have h : x / 2 ^ i % 2 = 0 ∨ x / 2 ^ i % 2 = 1 := by omega
  by_cases hj : i = j
  · subst hj
    rcases h with h | h
    · rw [h] at ht ⊢; simp at ht ⊢; exact ht
    · rw [h] at ht ⊢; simp at ht ⊢; exact ht
  · rcases h with h | h
    · rw [h]; simp [hj]
    · rw [h, Nat.one_mul, Nat.testBit_two_pow]; simp [hj]
theorem and_pow (x i : Nat) (hx : x < 18446744073709551616) (hi : 2 ^ i < 18446744073709551616) : bits .and .u64 (x : Int) ((2 ^ i : Nat) : Int) = ((x / 2 ^ i % 2 * 2 ^ i : Nat) : Int) := by
  rw [bits_and_u64_nat x (2 ^ i) hx hi, nand_pow]
theorem bool_split (a b : Bool) : ((a && b) && (a && !b)) = false := by cases a <;> cases b <;> rfl
theorem bool_join (a b : Bool) : ((a && b) || (a && !b)) = a := by cases a <;> cases b <;> rfl
theorem bv_disj (x m : BitVec 64) : (x &&& m) &&& (x &&& ~~~m) = 0#64 := by
  apply BitVec.eq_of_getElem_eq
  intro i hi
  rw [BitVec.getElem_and, BitVec.getElem_and, BitVec.getElem_and, BitVec.getElem_not, bool_split]
  simp
theorem bv_join (x m : BitVec 64) : (x &&& m) ||| (x &&& ~~~m) = x := by
  apply BitVec.eq_of_getElem_eq
  intro i hi
  rw [BitVec.getElem_or, BitVec.getElem_and, BitVec.getElem_and, BitVec.getElem_not, bool_join]
theorem andNot_eq (x m : Nat) (hx : x < 18446744073709551616) (_hm : m < 18446744073709551616) : bits .andNot .u64 (x : Int) (m : Int) = (x : Int) - bits .and .u64 (x : Int) (m : Int) := by
  have h0 : (BitVec.ofNat 64 x &&& BitVec.ofNat 64 m) + (BitVec.ofNat 64 x &&& ~~~(BitVec.ofNat 64 m)) = BitVec.ofNat 64 x := by
    rw [BitVec.add_eq_or_of_and_eq_zero _ _ (bv_disj _ _), bv_join]
  have h1 := congrArg BitVec.toNat h0
  rw [BitVec.toNat_add_of_and_eq_zero (bv_disj _ _), BitVec.toNat_ofNat, Nat.mod_eq_of_lt hx] at h1
  have e1 : bits .andNot .u64 (x : Int) (m : Int) = IntKind.u64.wrap ((BitVec.ofInt 64 (x : Int) &&& ~~~(BitVec.ofInt 64 (m : Int))).toNat : Int) := rfl
  have e2 : bits .and .u64 (x : Int) (m : Int) = IntKind.u64.wrap ((BitVec.ofInt 64 (x : Int) &&& (BitVec.ofInt 64 (m : Int))).toNat : Int) := rfl
  rw [e1, e2, IntKind.wrap_u64, IntKind.wrap_u64, BitVec.ofInt_natCast, BitVec.ofInt_natCast]
  generalize (BitVec.ofNat 64 x &&& BitVec.ofNat 64 m).toNat = p at *
  generalize (BitVec.ofNat 64 x &&& ~~~(BitVec.ofNat 64 m)).toNat = q at *
  omega
end Go.Proofs.YtopkdnjploipaaaDoor
