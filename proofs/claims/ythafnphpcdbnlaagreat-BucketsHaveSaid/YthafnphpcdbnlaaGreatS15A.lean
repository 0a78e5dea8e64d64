/- An Enter, and an Own: their lines, and what a step does (plain). -/
import Derived.Test.YthafnphpcdbnlaaGreatS10H2
set_option linter.unusedVariables false
set_option linter.unusedSimpArgs false
namespace Go.Proofs.YthafnphpcdbnlaaGreat.S15
open Go.Proofs.YthafnphpcdbnlaaGreat Go.Proofs.YthafnphpcdbnlaaGreat.S11 Go.Proofs.YthafnphpcdbnlaaGreat.S12 Go.Proofs.YthafnphpcdbnlaaGreat.S13 Go.Proofs.YthafnphpcdbnlaaGreat.S14
open Go.RowKit

/-- The bits of a word. -/
def bitsN (u : Nat) : Nat := if 2 ≤ u ∧ u ≤ 8 then u else 2
theorem bits_in (u : Nat) : 2 ≤ bitsN u ∧ bitsN u ≤ 8 := by unfold bitsN; split <;> omega
/-- The bucket of a key, by a word. -/
def bktN (key u : Nat) : Nat := S10.hsh key (bitsN u)
theorem bkt_lt (key u : Nat) : bktN key u < 2 ^ bitsN u := S10.hsh_lt key (bitsN u) (by have := bits_in u; omega)
theorem bkt_hash (key u : Nat) : S10.hashZ key (bitsN u : Nat) = ((bktN key u : Nat) : Int) := by
  have := bits_in u
  unfold S10.hashZ
  rw [if_pos (by omega)]; rfl
/-- Its lock. -/
def lokN (key u : Nat) : Nat := 256 + (2 ^ bitsN u + bktN key u)
theorem size_bits (u : Nat) : S10.sizeN (bitsN u : Nat) = 2 ^ bitsN u := by
  have := bits_in u
  unfold S10.sizeN
  rw [if_pos (by omega)]; rfl
theorem lok_lock (key u : Nat) : S10.lockZ (bitsN u : Nat) (bktN key u : Nat) = ((lokN key u : Nat) : Int) := by
  have h := bkt_lt key u
  unfold S10.lockZ lokN
  rw [size_bits]
  rw [if_neg (by omega)]
  omega
theorem pow_in (u : Nat) : 4 ≤ 2 ^ bitsN u ∧ 2 ^ bitsN u ≤ 256 := by
  have h := bits_in u
  rcases (show bitsN u = 2 ∨ bitsN u = 3 ∨ bitsN u = 4 ∨ bitsN u = 5 ∨ bitsN u = 6 ∨ bitsN u = 7 ∨ bitsN u = 8 by omega) with e | e | e | e | e | e | e <;> rw [e] <;> decide
theorem lok_in (key u : Nat) : 260 ≤ lokN key u ∧ lokN key u < 768 := by
  have := bkt_lt key u
  have := pow_in u
  unfold lokN
  omega
/-- An Enter, or an Own: which, its line, its thread, its words as they were found; the lock, or the Free, that is under way. -/
structure En where
  ow : Bool
  ln : Nat
  t : Nat
  kw : Nat
  tw : Nat
  K : Lk
  F : Fr
def en0 (t key : Nat) : En := ⟨false, 2, t, key, 0, lk0, fr0 0⟩
def ow0 (t : Nat) : En := ⟨true, 1, t, 0, 0, lk0, fr0 0⟩
/-- The address of the lock that it asks for. -/
def En.a (E : En) : Nat := lokN (E.kw % 4294967296) E.tw
theorem En.a_in (E : En) : 260 ≤ E.a ∧ E.a < 768 := lok_in _ _
/-- A step: what the world is behind it, what the Enter. -/
def enM (M : Sd) (E : En) : Sd :=
  match E.ln with
  | 1 => M.acc 1 (64 + E.t) (S2.look M.L (64 + E.t))
  | 2 => M.acc 1 0 (S2.look M.L 0)
  | 3 => stepM M E.K
  | 4 => M.acc 1 0 (S2.look M.L 0)
  | 5 => M.acc 1 (64 + E.t) (S2.look M.L (64 + E.t))
  | 6 => fstepM M E.F
  | _ => M
def enE (M : Sd) (E : En) : En :=
  match E.ln with
  | 1 => { E with kw := S2.look M.L (64 + E.t) % 4294967296, ln := 2 }
  | 2 => { E with tw := S2.look M.L 0, ln := 3, K := lk1 E.t (lokN (E.kw % 4294967296) (S2.look M.L 0)) }
  | 3 => { E with K := stepK M E.K, ln := if (stepK M E.K).ln = 0 then 4 else 3 }
  | 4 => if S2.look M.L 0 = E.tw then { E with ln := if E.ow then 5 else 0 } else { E with ln := 6, F := fr0 E.a }
  | 5 => if S2.look M.L (64 + E.t) % 4294967296 = E.kw then { E with ln := 0 } else { E with ln := 6, F := fr0 E.a }
  | 6 => { E with F := fstepK M E.F, ln := if (fstepK M E.F).ln = 0 then (if E.ow then 1 else 2) else 6 }
  | _ => E
/-- Which part is next. -/
def En.at (E : En) : Nat :=
  if E.ow then (match E.ln with | 1 => 0 | 2 => 1 | 3 => 2 | 4 => 3 | 5 => 4 | 6 => 5 | _ => 6)
  else (match E.ln with | 2 => 0 | 3 => 1 | 4 => 2 | 6 => 3 | _ => 4)
/-- What holds of it. -/
structure EnOk (E : En) : Prop where
  ln : E.ln ≤ 6
  en : E.ow = false → E.ln ≠ 1 ∧ E.ln ≠ 5
  t : E.t < 64
  kw : E.kw < 18446744073709551616
  tw : E.tw < 18446744073709551616
  k6 : E.K.ln ≤ 6
  kt : E.K.t < 64
  ka : E.K.a < 4294967296
  ks : E.K.st < 18446744073709551616
  kp : 0 ≤ E.K.sp ∧ E.K.sp ≤ 16
  f : FOk E.F
end Go.Proofs.YthafnphpcdbnlaaGreat.S15
