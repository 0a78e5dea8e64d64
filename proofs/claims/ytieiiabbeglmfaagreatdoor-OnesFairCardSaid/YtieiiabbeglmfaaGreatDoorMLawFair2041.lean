/- Texts of this seat, one behind the other. -/
import Derived.Test.YtieiiabbeglmfaaGreatDoorMLawFair2040
set_option linter.unusedVariables false
set_option linter.unusedSimpArgs false
set_option linter.unusedVariables false
set_option linter.unusedSimpArgs false
set_option linter.unusedVariables false
set_option linter.unusedSimpArgs false
namespace Go.Proofs.YtieiiabbeglmfaaGreatDoor.S18
set_option maxRecDepth 100000
set_option maxHeartbeats 16000000
open Go.Proofs.YtieiiabbeglmfaaGreatDoor Go.Proofs.YtieiiabbeglmfaaGreatDoor.S11 Go.Proofs.YtieiiabbeglmfaaGreatDoor.S12 Go.Proofs.YtieiiabbeglmfaaGreatDoor.S13 Go.Proofs.YtieiiabbeglmfaaGreatDoor.S14 Go.Proofs.YtieiiabbeglmfaaGreatDoor.S15 Go.Proofs.YtieiiabbeglmfaaGreatDoor.S16
open Go.RowKit
structure Pa where
  ln : Nat
  D : Pd
  pb : Nat
  pi : Nat
  E : En
  F : Fr
  ky : Nat
  o : Nat
def pa0 (D : Pd) : Pa := ⟨1, D, 0, 0, en0 D.t D.k, fr0 0, 0, 0⟩
def plA (pb pi : Nat) : Nat := (S10.lockZ (pb : Int) (pi : Int)).toNat
theorem plA_eq (pb pi : Nat) : S10.lockZ (pb : Int) (pi : Int) = (plA pb pi : Int) := by
  unfold plA S10.lockZ
  split <;> omega
theorem plA_lt (pb pi : Nat) : plA pb pi < 4294967296 := by
  have hs := S10.size_le (pb : Int)
  unfold plA S10.lockZ
  split <;> omega
theorem plA_lok (key u : Nat) : plA (bitsN u) (bktN key u) = lokN key u := by
  unfold plA
  rw [lok_lock]; rfl
def lookM (M : Sd) : Option Ck → Sd
  | some c => M.acc 1 c.a (S2.look M.L c.a)
  | none => M
def clrM (M : Sd) : Option Ck → Sd
  | some c => M.acc 6 c.a (S2.look M.L c.a &&& S2.cpl c.clr)
  | none => M
def lookE (M : Sd) (P : Pa) : Option Ck → Pa
  | some c => if c.holds (S2.look M.L c.a) then { P with ln := 4 } else { P with ln := 3, F := fr0 (plA P.pb P.pi) }
  | none => P
def paM (M : Sd) (P : Pa) : Sd :=
  match P.ln with
  | 1 => enM M P.E
  | 2 => lookM M P.D.hk
  | 3 => fstepM M P.F
  | 4 => M.acc 2 (64 + P.D.t) P.D.k
  | 5 => queM M P.D (P.pb : Int) P.pi
  | 6 => fstepM M P.F
  | 8 => if P.D.on then M.until (2 * P.D.t) P.D.at' else M.park (2 * P.D.t)
  | 9 => enM M P.E
  | 10 => if (M.pf (2 * P.D.t)).p then M.late (2 * P.D.t) else goneM (M.late (2 * P.D.t)) P.D.t (P.pb : Int) P.pi P.ky
  | 11 => fstepM M P.F
  | 12 => clrM M P.D.hk
  | 13 => fstepM M P.F
  | _ => M
def slpG (M : Sd) (D : Pd) : Nat := if D.on then S4.untilO (M.pf (2 * D.t)) D.at' M.T else if (M.pf (2 * D.t)).p then 1 else 0
def lateE (P : Pa) (ls : Bool) : Option Ck → Pa
  | some c => if ls = true ∧ ¬ c.clr = 0 then { P with ln := 12 } else { P with ln := 13, F := fr0 (plA P.pb P.pi) }
  | none => { P with ln := 13, F := fr0 (plA P.pb P.pi) }
def paE (M : Sd) (P : Pa) : Pa :=
  match P.ln with
  | 1 => if (enE M P.E).ln = 0 then { P with E := enE M P.E, pb := bitsN (enE M P.E).tw, pi := bktN (enE M P.E).kw (enE M P.E).tw, ln := if P.D.hk.isSome then 2 else 4 } else { P with E := enE M P.E }
  | 2 => lookE M P P.D.hk
  | 3 => if (fstepK M P.F).ln = 0 then { P with ln := 0, o := 1 } else { P with F := fstepK M P.F }
  | 4 => { P with ln := 5 }
  | 5 => { P with ln := 6, F := fr0 (plA P.pb P.pi) }
  | 6 => if (fstepK M P.F).ln = 0 then { P with ln := 8 } else { P with F := fstepK M P.F }
  | 8 => if slpG M P.D = 0 then P else if slpG M P.D = 2 then { P with ln := 9, E := ow0 P.D.t } else { P with ln := 0, o := 2 }
  | 9 => if (enE M P.E).ln = 0 then { P with E := enE M P.E, pb := bitsN (enE M P.E).tw, pi := bktN (enE M P.E).kw (enE M P.E).tw, ky := (enE M P.E).kw, ln := 10 } else { P with E := enE M P.E }
  | 10 => if (M.pf (2 * P.D.t)).p then { P with ln := 11, F := fr0 (plA P.pb P.pi) } else lateE P (goneB (M.late (2 * P.D.t)) P.D.t (P.pb : Int) P.pi P.ky) P.D.hk
  | 11 => if (fstepK M P.F).ln = 0 then { P with ln := 0, o := 2 } else { P with F := fstepK M P.F }
  | 12 => { P with ln := 13, F := fr0 (plA P.pb P.pi) }
  | 13 => if (fstepK M P.F).ln = 0 then { P with ln := 0, o := 3 } else { P with F := fstepK M P.F }
  | _ => P
structure PaOk (P : Pa) : Prop where
  ln : P.ln ≤ 13
  l7 : P.ln ≠ 7
  t : P.D.t < 64
  k : P.D.k < 4294967296
  hk : ∀ c, P.D.hk = some c → c.a < 4294967296 ∧ c.all < 18446744073709551616 ∧ c.any < 18446744073709551616 ∧ c.clr < 18446744073709551616
  l2 : P.ln = 2 ∨ P.ln = 12 → P.D.hk.isSome = true
  e : EnOk P.E
  e1 : P.ln = 1 → P.E.ow = false
  e9 : P.ln = 9 → P.E.ow = true
  ek : P.E.kw < 4294967296
  f : FOk P.F
  pb : P.pb ≤ 8
  o : P.ln ≠ 0 → P.o = 0
theorem ok_pa {D : Pd} (ht : D.t < 64) (hk : D.k < 4294967296) (hc : ∀ c, D.hk = some c → c.a < 4294967296 ∧ c.all < 18446744073709551616 ∧ c.any < 18446744073709551616 ∧ c.clr < 18446744073709551616) : PaOk (pa0 D) :=
  ⟨by show 1 ≤ 13; omega, by show 1 ≠ 7; omega, ht, hk, hc, fun h => by rcases h with h | h <;> exact absurd h (by show ¬ 1 = _; omega), ok_en ht (by omega), fun _ => rfl, fun h => absurd h (by show ¬ 1 = 9; omega), hk, fok_new (by omega), Nat.zero_le _, fun _ => rfl⟩
theorem enE_kw {M : Sd} {E : En} (h : E.kw < 4294967296) : (enE M E).kw < 4294967296 := by
  unfold enE
  split <;> (try split) <;> first | exact h | (show S2.look M.L (64 + E.t) % 4294967296 < _; omega)
theorem PaOk.step {M : Sd} {P : Pa} (h : PaOk P) (ms : 0 ≤ M.sp ∧ M.sp ≤ 16) (hl : ∀ a, S2.look M.L a < 18446744073709551616) (hk : ∀ i, M.lk i ≤ 64) : PaOk (paE M P) := by
  obtain ⟨ln, D, pb, pi, E, F, ky, o⟩ := P
  have hln : ln ≤ 13 := h.ln
  have h7 : ln ≠ 7 := h.l7
  have hfa := plA_lt pb pi
  have hfr := fok_new hfa
  have hbits := fun u => (bits_in u).2
  rcases (show ln = 0 ∨ ln = 1 ∨ ln = 2 ∨ ln = 3 ∨ ln = 4 ∨ ln = 5 ∨ ln = 6 ∨ ln = 8 ∨ ln = 9 ∨ ln = 10 ∨ ln = 11 ∨ ln = 12 ∨ ln = 13 by omega) with rfl | rfl | rfl | rfl | rfl | rfl | rfl | rfl | rfl | rfl | rfl | rfl | rfl
  · exact h
  · have hE := h.e.step ms hl hk
    have hK : (enE M E).kw < 4294967296 := enE_kw h.ek
    have hO : (enE M E).ow = false := (enE_ow M E).1.trans (h.e1 rfl)
    show PaOk (if (enE M E).ln = 0 then _ else _)
    by_cases h0 : (enE M E).ln = 0
    · rw [if_pos h0]
      obtain ⟨nx, hnx, h2⟩ : ∃ nx, (if D.hk.isSome = true then 2 else 4) = nx ∧ ((nx = 2 ∧ D.hk.isSome = true) ∨ nx = 4) := by cases hh : D.hk.isSome <;> simp
      show PaOk ⟨if D.hk.isSome = true then 2 else 4, D, bitsN (enE M E).tw, bktN (enE M E).kw (enE M E).tw, enE M E, F, ky, o⟩
      rw [hnx]
      exact ⟨by show nx ≤ 13; omega, by show nx ≠ 7; omega, h.t, h.k, h.hk, fun e => by
        show D.hk.isSome = true
        have e' : nx = 2 ∨ nx = 12 := e
        rcases h2 with h2 | h2
        · exact h2.2
        · omega, hE, fun e => by (have e' : nx = 1 := e); omega, fun e => by (have e' : nx = 9 := e); omega, hK, h.f, hbits _, fun _ => h.o (by show 1 ≠ 0; omega)⟩
    · rw [if_neg h0]
      exact ⟨by show 1 ≤ 13; omega, by show 1 ≠ 7; omega, h.t, h.k, h.hk, fun e => by rcases e with e | e <;> exact absurd e (by show ¬ 1 = _; omega), hE, fun _ => hO, fun e => absurd e (by show ¬ 1 = 9; omega), hK, h.f, h.pb, fun _ => h.o (by show 1 ≠ 0; omega)⟩
  · have ho : o = 0 := h.o (by show 2 ≠ 0; omega)
    obtain ⟨c, hh⟩ : ∃ c, D.hk = some c := Option.isSome_iff_exists.1 (h.l2 (.inl rfl))
    have e : paE M ⟨2, D, pb, pi, E, F, ky, o⟩ = if c.holds (S2.look M.L c.a) then ⟨4, D, pb, pi, E, F, ky, o⟩ else ⟨3, D, pb, pi, E, fr0 (plA pb pi), ky, o⟩ := by
      show lookE M ⟨2, D, pb, pi, E, F, ky, o⟩ D.hk = _
      rw [hh]; rfl
    rw [e]
    split
    · exact ⟨by show 4 ≤ 13; omega, by show 4 ≠ 7; omega, h.t, h.k, h.hk, fun e => by rcases e with e | e <;> exact absurd e (by show ¬ 4 = _; omega), h.e, fun e => absurd e (by show ¬ 4 = 1; omega), fun e => absurd e (by show ¬ 4 = 9; omega), h.ek, h.f, h.pb, fun _ => ho⟩
    · exact ⟨by show 3 ≤ 13; omega, by show 3 ≠ 7; omega, h.t, h.k, h.hk, fun e => by rcases e with e | e <;> exact absurd e (by show ¬ 3 = _; omega), h.e, fun e => absurd e (by show ¬ 3 = 1; omega), fun e => absurd e (by show ¬ 3 = 9; omega), h.ek, hfr, h.pb, fun _ => ho⟩
  · have ho : o = 0 := h.o (by show 3 ≠ 0; omega)
    show PaOk (if (fstepK M F).ln = 0 then _ else _)
    by_cases h0 : (fstepK M F).ln = 0
    · rw [if_pos h0]
      exact ⟨by show 0 ≤ 13; omega, by show 0 ≠ 7; omega, h.t, h.k, h.hk, fun e => by rcases e with e | e <;> exact absurd e (by show ¬ 0 = _; omega), h.e, fun e => absurd e (by show ¬ 0 = 1; omega), fun e => absurd e (by show ¬ 0 = 9; omega), h.ek, h.f, h.pb, fun e => absurd rfl e⟩
    · rw [if_neg h0]
      exact ⟨by show 3 ≤ 13; omega, by show 3 ≠ 7; omega, h.t, h.k, h.hk, fun e => by rcases e with e | e <;> exact absurd e (by show ¬ 3 = _; omega), h.e, fun e => absurd e (by show ¬ 3 = 1; omega), fun e => absurd e (by show ¬ 3 = 9; omega), h.ek, h.f.step hl hk, h.pb, fun _ => ho⟩
  · have ho : o = 0 := h.o (by show 4 ≠ 0; omega)
    exact ⟨by show 5 ≤ 13; omega, by show 5 ≠ 7; omega, h.t, h.k, h.hk, fun e => by rcases e with e | e <;> exact absurd e (by show ¬ 5 = _; omega), h.e, fun e => absurd e (by show ¬ 5 = 1; omega), fun e => absurd e (by show ¬ 5 = 9; omega), h.ek, h.f, h.pb, fun _ => ho⟩
  · have ho : o = 0 := h.o (by show 5 ≠ 0; omega)
    exact ⟨by show 6 ≤ 13; omega, by show 6 ≠ 7; omega, h.t, h.k, h.hk, fun e => by rcases e with e | e <;> exact absurd e (by show ¬ 6 = _; omega), h.e, fun e => absurd e (by show ¬ 6 = 1; omega), fun e => absurd e (by show ¬ 6 = 9; omega), h.ek, hfr, h.pb, fun _ => ho⟩
  · have ho : o = 0 := h.o (by show 6 ≠ 0; omega)
    show PaOk (if (fstepK M F).ln = 0 then _ else _)
    by_cases h0 : (fstepK M F).ln = 0
    · rw [if_pos h0]
      exact ⟨by show 8 ≤ 13; omega, by show 8 ≠ 7; omega, h.t, h.k, h.hk, fun e => by rcases e with e | e <;> exact absurd e (by show ¬ 8 = _; omega), h.e, fun e => absurd e (by show ¬ 8 = 1; omega), fun e => absurd e (by show ¬ 8 = 9; omega), h.ek, h.f, h.pb, fun e => ho⟩
    · rw [if_neg h0]
      exact ⟨by show 6 ≤ 13; omega, by show 6 ≠ 7; omega, h.t, h.k, h.hk, fun e => by rcases e with e | e <;> exact absurd e (by show ¬ 6 = _; omega), h.e, fun e => absurd e (by show ¬ 6 = 1; omega), fun e => absurd e (by show ¬ 6 = 9; omega), h.ek, h.f.step hl hk, h.pb, fun _ => ho⟩
  · have ho : o = 0 := h.o (by show 8 ≠ 0; omega)
    show PaOk (if slpG M D = 0 then _ else if slpG M D = 2 then _ else _)
    by_cases h0 : slpG M D = 0
    · rw [if_pos h0]; exact h
    · rw [if_neg h0]
      by_cases h2 : slpG M D = 2
      · rw [if_pos h2]
        exact ⟨by show 9 ≤ 13; omega, by show 9 ≠ 7; omega, h.t, h.k, h.hk, fun e => by rcases e with e | e <;> exact absurd e (by show ¬ 9 = _; omega), ok_ow h.t, fun e => absurd e (by show ¬ 9 = 1; omega), fun _ => rfl, by show 0 < 4294967296; omega, h.f, h.pb, fun _ => ho⟩
      · rw [if_neg h2]
        exact ⟨by show 0 ≤ 13; omega, by show 0 ≠ 7; omega, h.t, h.k, h.hk, fun e => by rcases e with e | e <;> exact absurd e (by show ¬ 0 = _; omega), h.e, fun e => absurd e (by show ¬ 0 = 1; omega), fun e => absurd e (by show ¬ 0 = 9; omega), h.ek, h.f, h.pb, fun e => absurd rfl e⟩
  · have ho : o = 0 := h.o (by show 9 ≠ 0; omega)
    have hE := h.e.step ms hl hk
    have hK : (enE M E).kw < 4294967296 := enE_kw h.ek
    have hO : (enE M E).ow = true := (enE_ow M E).1.trans (h.e9 rfl)
    show PaOk (if (enE M E).ln = 0 then _ else _)
    by_cases h0 : (enE M E).ln = 0
    · rw [if_pos h0]
      exact ⟨by show 10 ≤ 13; omega, by show 10 ≠ 7; omega, h.t, h.k, h.hk, fun e => by rcases e with e | e <;> exact absurd e (by show ¬ 10 = _; omega), hE, fun e => absurd e (by show ¬ 10 = 1; omega), fun e => absurd e (by show ¬ 10 = 9; omega), hK, h.f, hbits _, fun _ => ho⟩
    · rw [if_neg h0]
      exact ⟨by show 9 ≤ 13; omega, by show 9 ≠ 7; omega, h.t, h.k, h.hk, fun e => by rcases e with e | e <;> exact absurd e (by show ¬ 9 = _; omega), hE, fun e => absurd e (by show ¬ 9 = 1; omega), fun _ => hO, hK, h.f, h.pb, fun _ => ho⟩
  · have ho : o = 0 := h.o (by show 10 ≠ 0; omega)
    have h13 : PaOk ⟨13, D, pb, pi, E, fr0 (plA pb pi), ky, o⟩ := ⟨by show 13 ≤ 13; omega, by show 13 ≠ 7; omega, h.t, h.k, h.hk, fun e => by rcases e with e | e <;> exact absurd e (by show ¬ 13 = _; omega), h.e, fun e => absurd e (by show ¬ 13 = 1; omega), fun e => absurd e (by show ¬ 13 = 9; omega), h.ek, hfr, h.pb, fun _ => ho⟩
    show PaOk (if (M.pf (2 * D.t)).p then _ else _)
    split
    · exact ⟨by show 11 ≤ 13; omega, by show 11 ≠ 7; omega, h.t, h.k, h.hk, fun e => by rcases e with e | e <;> exact absurd e (by show ¬ 11 = _; omega), h.e, fun e => absurd e (by show ¬ 11 = 1; omega), fun e => absurd e (by show ¬ 11 = 9; omega), h.ek, hfr, h.pb, fun _ => ho⟩
    · show PaOk (lateE ⟨10, D, pb, pi, E, F, ky, o⟩ (goneB (M.late (2 * D.t)) D.t (pb : Int) pi ky) D.hk)
      generalize goneB (M.late (2 * D.t)) D.t (pb : Int) pi ky = ls
      have hq : ∀ q, q = D.hk → PaOk (lateE ⟨10, D, pb, pi, E, F, ky, o⟩ ls q) := fun q hq => by
        cases q with
        | none => exact h13
        | some c =>
          show PaOk (if ls = true ∧ ¬ c.clr = 0 then _ else _)
          split
          · exact ⟨by show 12 ≤ 13; omega, by show 12 ≠ 7; omega, h.t, h.k, h.hk, fun _ => by show D.hk.isSome = true; rw [← hq]; rfl, h.e, fun e => absurd e (by show ¬ 12 = 1; omega), fun e => absurd e (by show ¬ 12 = 9; omega), h.ek, h.f, h.pb, fun _ => ho⟩
          · exact h13
      exact hq _ rfl
  · have ho : o = 0 := h.o (by show 11 ≠ 0; omega)
    show PaOk (if (fstepK M F).ln = 0 then _ else _)
    by_cases h0 : (fstepK M F).ln = 0
    · rw [if_pos h0]
      exact ⟨by show 0 ≤ 13; omega, by show 0 ≠ 7; omega, h.t, h.k, h.hk, fun e => by rcases e with e | e <;> exact absurd e (by show ¬ 0 = _; omega), h.e, fun e => absurd e (by show ¬ 0 = 1; omega), fun e => absurd e (by show ¬ 0 = 9; omega), h.ek, h.f, h.pb, fun e => absurd rfl e⟩
    · rw [if_neg h0]
      exact ⟨by show 11 ≤ 13; omega, by show 11 ≠ 7; omega, h.t, h.k, h.hk, fun e => by rcases e with e | e <;> exact absurd e (by show ¬ 11 = _; omega), h.e, fun e => absurd e (by show ¬ 11 = 1; omega), fun e => absurd e (by show ¬ 11 = 9; omega), h.ek, h.f.step hl hk, h.pb, fun _ => ho⟩
  · have ho : o = 0 := h.o (by show 12 ≠ 0; omega)
    exact ⟨by show 13 ≤ 13; omega, by show 13 ≠ 7; omega, h.t, h.k, h.hk, fun e => by rcases e with e | e <;> exact absurd e (by show ¬ 13 = _; omega), h.e, fun e => absurd e (by show ¬ 13 = 1; omega), fun e => absurd e (by show ¬ 13 = 9; omega), h.ek, hfr, h.pb, fun _ => ho⟩
  · have ho : o = 0 := h.o (by show 13 ≠ 0; omega)
    show PaOk (if (fstepK M F).ln = 0 then _ else _)
    by_cases h0 : (fstepK M F).ln = 0
    · rw [if_pos h0]
      exact ⟨by show 0 ≤ 13; omega, by show 0 ≠ 7; omega, h.t, h.k, h.hk, fun e => by rcases e with e | e <;> exact absurd e (by show ¬ 0 = _; omega), h.e, fun e => absurd e (by show ¬ 0 = 1; omega), fun e => absurd e (by show ¬ 0 = 9; omega), h.ek, h.f, h.pb, fun e => absurd rfl e⟩
    · rw [if_neg h0]
      exact ⟨by show 13 ≤ 13; omega, by show 13 ≠ 7; omega, h.t, h.k, h.hk, fun e => by rcases e with e | e <;> exact absurd e (by show ¬ 13 = _; omega), h.e, fun e => absurd e (by show ¬ 13 = 1; omega), fun e => absurd e (by show ¬ 13 = 9; omega), h.ek, h.f.step hl hk, h.pb, fun _ => ho⟩
def Shape (P : Pa) (B : Nat) (r : List Part) (e u : Nat) (l : Rows) : Prop :=
  match P.ln with
  | 1 => ∃ Z XB VB, l = [(B, pkO P.D P.pb P.pi (.iface 70 (Pw Z.B)) (fnV 101 #[] #[Pw VB, Pw XB]) 0), (XB, xO B), (VB, .cells #[Pw Z.B] 70 (0, 0))] ∧ EwS r e u P.E Z
  | 2 => ∃ c XB CB LB LX VB, P.D.hk = some c ∧ l = [(B, pkO P.D P.pb P.pi (.iface 440 (Pw LB)) (fnV 157 #[] #[Pw VB, Pw XB]) 0), (XB, xO B), (CB, ckO c), (LB, lookO c CB LX false 0), (LX, .cells #[Pw LB] 440 (0, 0)), (VB, .cells #[.iface 440 (Pw LB)] 314 (0, 0))]
  | 3 => ∃ U XB OB, l = [(B, pkO P.D P.pb P.pi (.iface 73 (Pw U)) (fnV 189 #[] #[Pw XB, Pw OB]) 0), (XB, xO B), (OB, .cells #[.int .u8 ((1 : Nat) : Int)] 50 (0, 0))] ∧ r[u]? = some (freeP U P.F)
  | 4 => ∃ XB NB, l = [(B, pkO P.D P.pb P.pi (.iface 372 (Pw NB)) (fnV 187 #[Pw B] #[]) 0), (XB, xO B), (NB, oneO (.func 186) #[] #[Pw XB] false)]
  | 5 => ∃ XB NB, l = [(B, pkO P.D P.pb P.pi (.iface 372 (Pw NB)) (fnV 219 #[] #[Pw XB]) 0), (XB, xO B), (NB, oneO (.func 214) #[] #[Pw XB] false)]
  | 6 => ∃ U, l = [(B, pkO P.D P.pb P.pi (.iface 73 (Pw U)) (fnV 220 #[Pw B] #[]) 0)] ∧ r[u]? = some (freeP U P.F)
  | 8 => ∃ SB XB VB, l = [(B, pkO P.D P.pb P.pi (.iface 215 (Pw SB)) (fnV 258 #[] #[Pw VB, Pw XB]) 0), (XB, xO B), (VB, .cells #[Pw SB] 215 (0, 0)), (SB, slpO P.D.t P.D.on P.D.at' 0)]
  | 9 => ∃ Z XB VB, l = [(B, pkO P.D P.pb P.pi (.iface 411 (Pw Z.B)) (fnV 264 #[] #[Pw VB, Pw XB]) 0), (XB, xO B), (VB, .cells #[Pw Z.B] 411 (0, 0))] ∧ EwS r e u P.E Z
  | 10 => ∃ XB KB LB QB NB, l = [(B, pkO P.D P.pb P.pi (.iface 372 (Pw NB)) (fnV 270 #[] #[Pw LB, Pw XB, Pw KB, Pw QB]) 0), (XB, xO B), (KB, .cells #[.int .u32 (P.ky : Int)] 35 (0, 0)), (LB, .cells #[.bool false] 4 (0, 0)), (QB, .cells #[.bool false] 4 (0, 0)), (NB, oneO (.func 267) #[] #[Pw XB, Pw LB, Pw KB, Pw QB] false)]
  | 11 => ∃ U XB OB, l = [(B, pkO P.D P.pb P.pi (.iface 73 (Pw U)) (fnV 189 #[] #[Pw XB, Pw OB]) 0), (XB, xO B), (OB, .cells #[.int .u8 ((2 : Nat) : Int)] 50 (0, 0))] ∧ r[u]? = some (freeP U P.F)
  | 12 => ∃ c XB CB NB, P.D.hk = some c ∧ l = [(B, pkO P.D P.pb P.pi (.iface 372 (Pw NB)) (fnV 273 #[] #[Pw XB]) 0), (XB, xO B), (CB, ckO c), (NB, oneO (.func 311) #[] #[Pw CB] false)]
  | 13 => ∃ U XB OB, l = [(B, pkO P.D P.pb P.pi (.iface 73 (Pw U)) (fnV 189 #[] #[Pw XB, Pw OB]) 0), (XB, xO B), (OB, .cells #[.int .u8 ((3 : Nat) : Int)] 50 (0, 0))] ∧ r[u]? = some (freeP U P.F)
  | _ => l = [(B, pkO P.D P.pb P.pi .nilIface .nilFunc P.o)]
structure PaW (w0 w : World) (base WB : Nat) (M : Sd) (r : List Part) (j e u : Nat) (P : Pa) (B : Nat) (X : Wm) : Prop where
  je : j ≠ e
  ju : j ≠ u
  eu : e ≠ u
  he : e < r.length
  hu : u < r.length
  at' : ∃ l, Wq w0 w base WB M r j l X ∧ Shape P B r e u l
def PaS (w0 w' : World) (base WB : Nat) (M : Sd) (r : List Part) (j e u : Nat) (P : Pa) (B : Nat) : Prop :=
  ∃ q1 q2 X', PaW w0 w' base WB (paM M P) ((r.set e q1).set u q2) j e u (paE M P) B X'
end Go.Proofs.YtieiiabbeglmfaaGreatDoor.S18
set_option linter.unusedVariables false
set_option linter.unusedSimpArgs false
namespace Go.Proofs.YtieiiabbeglmfaaGreatDoor.S18
set_option maxRecDepth 100000
set_option maxHeartbeats 16000000
open Go.Proofs.YtieiiabbeglmfaaGreatDoor Go.Proofs.YtieiiabbeglmfaaGreatDoor.S11 Go.Proofs.YtieiiabbeglmfaaGreatDoor.S12 Go.Proofs.YtieiiabbeglmfaaGreatDoor.S13 Go.Proofs.YtieiiabbeglmfaaGreatDoor.S14 Go.Proofs.YtieiiabbeglmfaaGreatDoor.S15 Go.Proofs.YtieiiabbeglmfaaGreatDoor.S16
open Go.RowKit
theorem same_at' {r : List Part} {u : Nat} (hu : u < r.length) : ∃ q, r.set u q = r := ⟨r[u], List.set_getElem_self hu⟩
section
variable {w0 w w' : World} {base WB : Nat} {M M' : Sd} {r r' : List Part} {j e u B : Nat} {l l' : Rows} {X X' : Wm} {P P' : Pa} {q q1 : Part}
theorem PaW.new (h : PaW w0 w base WB M r j e u P B X) (b : Below w.heap.size w w') : PaW w0 w' base WB M r j e u P B X := by
  obtain ⟨l, hw, hs⟩ := h.at'
  exact ⟨h.je, h.ju, h.eu, h.he, h.hu, l, hw.new b, hs⟩
theorem PaW.mkW (h : PaW w0 w base WB M r j e u P B X) (hl : r'.length = r.length) (hw : Wq w0 w' base WB M' r' j l' X') (hs : Shape P' B r' e u l') : PaW w0 w' base WB M' r' j e u P' B X' :=
  ⟨h.je, h.ju, h.eu, by rw [hl]; exact h.he, by rw [hl]; exact h.hu, l', hw, hs⟩
theorem PaS.none' (hM : paM M P = M') (hE : paE M P = P') (h : PaW w0 w' base WB M' r j e u P' B X') : PaS w0 w' base WB M r j e u P B := by
  obtain ⟨q1, e1⟩ := same_at' h.he
  obtain ⟨q2, e2⟩ := same_at' h.hu
  exact ⟨q1, q2, X', by rw [e1, e2, hM, hE]; exact h⟩
theorem PaS.atu (hM : paM M P = M') (hE : paE M P = P') (h : PaW w0 w' base WB M' (r.set u q) j e u P' B X') : PaS w0 w' base WB M r j e u P B := by
  have he : e < r.length := by have := h.he; rwa [List.length_set] at this
  obtain ⟨q1, e1⟩ := same_at' he
  exact ⟨q1, q, X', by rw [e1, hM, hE]; exact h⟩
theorem PaS.ate (hM : paM M P = M') (hE : paE M P = P') (h : PaW w0 w' base WB M' (r.set e q) j e u P' B X') : PaS w0 w' base WB M r j e u P B := by
  obtain ⟨q2, e2⟩ := same_at' h.hu
  exact ⟨q, q2, X', by rw [e2, hM, hE]; exact h⟩
theorem PaS.both (hM : paM M P = M') (hE : paE M P = P') (h : PaW w0 w' base WB M' ((r.set u q).set e q1) j e u P' B X') : PaS w0 w' base WB M r j e u P B :=
  ⟨q1, q, X', by rw [hM, hE, List.set_comm _ _ h.eu]; exact h⟩
theorem PaW.over (h : PaW w0 w base WB M r j e u P B X) (h13 : P.ln ≤ 13) (h7 : P.ln ≠ 7) : Calls Tryz.prog 81 #[Pw B] w fun e w' => e = .returned (.bool (decide (P.ln = 0))) ∧ w = w' := by
  obtain ⟨l, hw, hs⟩ := h.at'
  obtain ⟨ln, D, pb, pi, E, F, ky, o⟩ := P
  have hln : ln ≤ 13 := h13
  have hl7 : ln ≠ 7 := h7
  rcases (show ln = 0 ∨ ln = 1 ∨ ln = 2 ∨ ln = 3 ∨ ln = 4 ∨ ln = 5 ∨ ln = 6 ∨ ln = 8 ∨ ln = 9 ∨ ln = 10 ∨ ln = 11 ∨ ln = 12 ∨ ln = 13 by omega) with rfl | rfl | rfl | rfl | rfl | rfl | rfl | rfl | rfl | rfl | rfl | rfl | rfl
  · obtain rfl := hs; exact over_yes (cell_row (hw.blk 0 rfl) 8)
  · obtain ⟨Z, XB, VB, rfl, _⟩ := hs; exact over_no ⟨_, _, cell_row (hw.blk 0 rfl) 8⟩
  · obtain ⟨c, XB, CB, LB, LX, VB, _, rfl⟩ := hs; exact over_no ⟨_, _, cell_row (hw.blk 0 rfl) 8⟩
  · obtain ⟨U, XB, OB, rfl, _⟩ := hs; exact over_no ⟨_, _, cell_row (hw.blk 0 rfl) 8⟩
  · obtain ⟨XB, NB, rfl⟩ := hs; exact over_no ⟨_, _, cell_row (hw.blk 0 rfl) 8⟩
  · obtain ⟨XB, NB, rfl⟩ := hs; exact over_no ⟨_, _, cell_row (hw.blk 0 rfl) 8⟩
  · obtain ⟨U, rfl, _⟩ := hs; exact over_no ⟨_, _, cell_row (hw.blk 0 rfl) 8⟩
  · obtain ⟨SB, XB, VB, rfl⟩ := hs; exact over_no ⟨_, _, cell_row (hw.blk 0 rfl) 8⟩
  · obtain ⟨Z, XB, VB, rfl, _⟩ := hs; exact over_no ⟨_, _, cell_row (hw.blk 0 rfl) 8⟩
  · obtain ⟨XB, KB, LB, QB, NB, rfl⟩ := hs; exact over_no ⟨_, _, cell_row (hw.blk 0 rfl) 8⟩
  · obtain ⟨U, XB, OB, rfl, _⟩ := hs; exact over_no ⟨_, _, cell_row (hw.blk 0 rfl) 8⟩
  · obtain ⟨c, XB, CB, NB, _, rfl⟩ := hs; exact over_no ⟨_, _, cell_row (hw.blk 0 rfl) 8⟩
  · obtain ⟨U, XB, OB, rfl, _⟩ := hs; exact over_no ⟨_, _, cell_row (hw.blk 0 rfl) 8⟩
theorem PaW.has (h : PaW w0 w base WB M r j e u P B X) (h13 : P.ln ≤ 13) (h7 : P.ln ≠ 7) (h0 : P.ln ≠ 0) : HasPart w B := by
  obtain ⟨l, hw, hs⟩ := h.at'
  obtain ⟨ln, D, pb, pi, E, F, ky, o⟩ := P
  have hln : ln ≤ 13 := h13
  have hl7 : ln ≠ 7 := h7
  have hl0 : ln ≠ 0 := h0
  rcases (show ln = 1 ∨ ln = 2 ∨ ln = 3 ∨ ln = 4 ∨ ln = 5 ∨ ln = 6 ∨ ln = 8 ∨ ln = 9 ∨ ln = 10 ∨ ln = 11 ∨ ln = 12 ∨ ln = 13 by omega) with rfl | rfl | rfl | rfl | rfl | rfl | rfl | rfl | rfl | rfl | rfl | rfl
  · obtain ⟨Z, XB, VB, rfl, _⟩ := hs; exact ⟨_, _, cell_row (hw.blk 0 rfl) 8⟩
  · obtain ⟨c, XB, CB, LB, LX, VB, _, rfl⟩ := hs; exact ⟨_, _, cell_row (hw.blk 0 rfl) 8⟩
  · obtain ⟨U, XB, OB, rfl, _⟩ := hs; exact ⟨_, _, cell_row (hw.blk 0 rfl) 8⟩
  · obtain ⟨XB, NB, rfl⟩ := hs; exact ⟨_, _, cell_row (hw.blk 0 rfl) 8⟩
  · obtain ⟨XB, NB, rfl⟩ := hs; exact ⟨_, _, cell_row (hw.blk 0 rfl) 8⟩
  · obtain ⟨U, rfl, _⟩ := hs; exact ⟨_, _, cell_row (hw.blk 0 rfl) 8⟩
  · obtain ⟨SB, XB, VB, rfl⟩ := hs; exact ⟨_, _, cell_row (hw.blk 0 rfl) 8⟩
  · obtain ⟨Z, XB, VB, rfl, _⟩ := hs; exact ⟨_, _, cell_row (hw.blk 0 rfl) 8⟩
  · obtain ⟨XB, KB, LB, QB, NB, rfl⟩ := hs; exact ⟨_, _, cell_row (hw.blk 0 rfl) 8⟩
  · obtain ⟨U, XB, OB, rfl, _⟩ := hs; exact ⟨_, _, cell_row (hw.blk 0 rfl) 8⟩
  · obtain ⟨c, XB, CB, NB, _, rfl⟩ := hs; exact ⟨_, _, cell_row (hw.blk 0 rfl) 8⟩
  · obtain ⟨U, XB, OB, rfl, _⟩ := hs; exact ⟨_, _, cell_row (hw.blk 0 rfl) 8⟩
theorem PaS.over (ok : PaOk (paE M P)) (h : PaS w0 w base WB M r j e u P B) : Calls Tryz.prog 81 #[Pw B] w fun e w' => e = .returned (.bool (decide ((paE M P).ln = 0))) ∧ w = w' := by
  obtain ⟨q1, q2, X', h'⟩ := h
  exact h'.over ok.ln ok.l7
theorem PaS.has (ok : PaOk (paE M P)) (h0 : (paE M P).ln ≠ 0) (h : PaS w0 w base WB M r j e u P B) : HasPart w B := by
  obtain ⟨q1, q2, X', h'⟩ := h
  exact h'.has ok.ln ok.l7 h0
end
section
variable {w0 w w' : World} {base WB : Nat} {M : Sd} {r : List Part} {j e u B : Nat} {X : Wm} {D : Pd} {pb pi ky o : Nat} {E : En} {F : Fr}
theorem pl_0 (h : PaW w0 w base WB M r j e u ⟨0, D, pb, pi, E, F, ky, o⟩ B X) (ok : PaOk ⟨0, D, pb, pi, E, F, ky, o⟩) (okE : PaOk (paE M ⟨0, D, pb, pi, E, F, ky, o⟩)) (ms : 0 ≤ M.sp ∧ M.sp ≤ 16) (hn : M.n ≤ 800000000) (hp : M.pn ≤ 800000000) : Calls Tryz.prog 31 #[Pw B, Pw WB] w fun e' w' => e' = .returned (.bool (decide ((paE M ⟨0, D, pb, pi, E, F, ky, o⟩).ln = 0))) ∧ PaS w0 w' base WB M r j e u ⟨0, D, pb, pi, E, F, ky, o⟩ B := by
  have hov := h.over ok.ln ok.l7
  have hfin : PaS w0 w base WB M r j e u ⟨0, D, pb, pi, E, F, ky, o⟩ B := PaS.none' rfl rfl h
  have HOV := Lib.hid hov; have HF := Lib.hid hfin
  have hd : decide ((paE M ⟨0, D, pb, pi, E, F, ky, o⟩).ln = 0) = true := rfl
  rw [hd]
  have hd2 : decide ((⟨0, D, pb, pi, E, F, ky, o⟩ : Pa).ln = 0) = true := rfl
  rw [hd2] at HOV
  clear h ok okE ms hn hp hov hfin hd hd2
  go_enter Tryz.func31, Tryz.ntmps31
  go_wp2_with (go_at_call 81; refine HOV.out.mono ?_; rintro e' w1 ⟨rfl, rfl⟩)
  go_ret
  exact ⟨rfl, HF.out⟩
theorem pl_1 (h : PaW w0 w base WB M r j e u ⟨1, D, pb, pi, E, F, ky, o⟩ B X) (ok : PaOk ⟨1, D, pb, pi, E, F, ky, o⟩) (okE : PaOk (paE M ⟨1, D, pb, pi, E, F, ky, o⟩)) (ms : 0 ≤ M.sp ∧ M.sp ≤ 16) (hn : M.n ≤ 800000000) (hp : M.pn ≤ 800000000) : Calls Tryz.prog 31 #[Pw B, Pw WB] w fun e' w' => e' = .returned (.bool (decide ((paE M ⟨1, D, pb, pi, E, F, ky, o⟩).ln = 0))) ∧ PaS w0 w' base WB M r j e u ⟨1, D, pb, pi, E, F, ky, o⟩ B := by
  obtain ⟨l, hw, Z, XB, VB, rfl, hs⟩ := h.at'
  have hst := wq_estep hw hs h.je h.ju ok.e ms (by omega) (by omega)
  have hE1 : paM M ⟨1, D, pb, pi, E, F, ky, o⟩ = enM M E := rfl
  by_cases h0 : (enE M E).ln = 0
  · rw [decide_eq_true h0] at hst
    have hkw : (enE M E).kw < 4294967296 := enE_kw ok.ek
    have how : (enE M E).ow = false := (enE_ow M E).1.trans (ok.e1 rfl)
    refine doneE_ENTER1 (U := Z.B) (c0 := VB) (c1 := XB) (Q1 := fun W => WayStep w0 W base WB M r j e u _ E Z) (Q := fun W => PaS w0 W base WB M r j e u ⟨1, D, pb, pi, E, F, ky, o⟩ B) (ov := decide ((paE M ⟨1, D, pb, pi, E, F, ky, o⟩).ln = 0)) (cell_row (hw.blk 0 rfl) 8) hst (fun W hW => ?_) (fun W hW => PaS.over okE hW)
    obtain ⟨q, Z', X', eB, hw', hs'⟩ := hW
    refine ⟨cell_row (hw'.blk 0 rfl) 9, ?_⟩
    have hv2 : [(B, pkO D pb pi (.iface 70 (Pw Z.B)) (fnV 101 #[] #[Pw VB, Pw XB]) 0), (XB, xO B), (VB, Obj.cells #[Pw Z.B] 70 (0, 0))][2]? = some (VB, Obj.cells #[Pw Z'.B] 70 (0, 0)) := by rw [eB]; rfl
    have hlen : ((r.set u q).set e (way (enE M E) Z')).length = r.length := by rw [List.length_set, List.length_set]
    refine enter1_ (kv := 2) (kx := 1) hw' hs' h.je h.ju h0 how hkw rfl hv2 rfl (Q := fun W => PaS w0 W base WB M r j e u ⟨1, D, pb, pi, E, F, ky, o⟩ B) (fun W2 hW2 => ?_)
    obtain ⟨t, k, z, on, at_, hk⟩ := D
    cases hk with
    | none =>
      have hE2 : paE M ⟨1, ⟨t, k, z, on, at_, none⟩, pb, pi, E, F, ky, o⟩ = ⟨4, ⟨t, k, z, on, at_, none⟩, bitsN (enE M E).tw, bktN (enE M E).kw (enE M E).tw, enE M E, F, ky, o⟩ := if_pos h0
      refine (validate_p hW2 rfl).mono ?_
      rintro e' w2 ⟨rfl, XB2, NB, h2⟩
      exact ⟨rfl, PaS.both hE1 hE2 (h.mkW hlen h2 ⟨XB2, NB, rfl⟩)⟩
    | some c =>
      obtain ⟨ca, cl, cn, cc⟩ := c
      have hE2 : paE M ⟨1, ⟨t, k, z, on, at_, some ⟨ca, cl, cn, cc⟩⟩, pb, pi, E, F, ky, o⟩ = ⟨2, ⟨t, k, z, on, at_, some ⟨ca, cl, cn, cc⟩⟩, bitsN (enE M E).tw, bktN (enE M E).kw (enE M E).tw, enE M E, F, ky, o⟩ := if_pos h0
      refine (validate_c hW2 rfl).mono ?_
      rintro e' w2 ⟨rfl, XB2, CB, LB, LX, VB2, h2⟩
      exact ⟨rfl, PaS.both hE1 hE2 (h.mkW hlen h2 ⟨⟨ca, cl, cn, cc⟩, XB2, CB, LB, LX, VB2, rfl, rfl⟩)⟩
  · rw [decide_eq_false h0] at hst
    have hE2 : paE M ⟨1, D, pb, pi, E, F, ky, o⟩ = ⟨1, D, pb, pi, enE M E, F, ky, o⟩ := if_neg h0
    have hd : decide ((paE M ⟨1, D, pb, pi, E, F, ky, o⟩).ln = 0) = false := by rw [hE2]; rfl
    have hne : (paE M ⟨1, D, pb, pi, E, F, ky, o⟩).ln ≠ 0 := of_decide_eq_false hd
    rw [hd]
    refine moreE (U := Z.B) (Q := fun W => PaS w0 W base WB M r j e u ⟨1, D, pb, pi, E, F, ky, o⟩ B) (cell_row (hw.blk 0 rfl) 8) (hst.mono ?_) (fun W hW => PaS.has okE hne hW)
    rintro e' w2 ⟨rfl, q, Z', X', eB, hw', hs'⟩
    have hlen : ((r.set u q).set e (way (enE M E) Z')).length = r.length := by rw [List.length_set, List.length_set]
    exact ⟨rfl, PaS.both hE1 hE2 (h.mkW hlen hw' ⟨Z', XB, VB, by rw [eB], hs'⟩)⟩
theorem pl_9 (h : PaW w0 w base WB M r j e u ⟨9, D, pb, pi, E, F, ky, o⟩ B X) (ok : PaOk ⟨9, D, pb, pi, E, F, ky, o⟩) (okE : PaOk (paE M ⟨9, D, pb, pi, E, F, ky, o⟩)) (ms : 0 ≤ M.sp ∧ M.sp ≤ 16) (hn : M.n ≤ 800000000) (hp : M.pn ≤ 800000000) : Calls Tryz.prog 31 #[Pw B, Pw WB] w fun e' w' => e' = .returned (.bool (decide ((paE M ⟨9, D, pb, pi, E, F, ky, o⟩).ln = 0))) ∧ PaS w0 w' base WB M r j e u ⟨9, D, pb, pi, E, F, ky, o⟩ B := by
  obtain ⟨l, hw, Z, XB, VB, rfl, hs⟩ := h.at'
  have hst := wq_ostep hw hs h.je h.ju ok.e ms (by omega) (by omega)
  have hE1 : paM M ⟨9, D, pb, pi, E, F, ky, o⟩ = enM M E := rfl
  by_cases h0 : (enE M E).ln = 0
  · rw [decide_eq_true h0] at hst
    have hkw : (enE M E).kw < 4294967296 := enE_kw ok.ek
    have how : (enE M E).ow = true := (enE_ow M E).1.trans (ok.e9 rfl)
    refine doneW_OWN1 (U := Z.B) (c0 := VB) (c1 := XB) (Q1 := fun W => WayStep w0 W base WB M r j e u _ E Z) (Q := fun W => PaS w0 W base WB M r j e u ⟨9, D, pb, pi, E, F, ky, o⟩ B) (ov := decide ((paE M ⟨9, D, pb, pi, E, F, ky, o⟩).ln = 0)) (cell_row (hw.blk 0 rfl) 8) hst (fun W hW => ?_) (fun W hW => PaS.over okE hW)
    obtain ⟨q, Z', X', eB, hw', hs'⟩ := hW
    refine ⟨cell_row (hw'.blk 0 rfl) 9, ?_⟩
    have hv2 : [(B, pkO D pb pi (.iface 411 (Pw Z.B)) (fnV 264 #[] #[Pw VB, Pw XB]) 0), (XB, xO B), (VB, Obj.cells #[Pw Z.B] 411 (0, 0))][2]? = some (VB, Obj.cells #[Pw Z'.B] 411 (0, 0)) := by rw [eB]; rfl
    have hlen : ((r.set u q).set e (way (enE M E) Z')).length = r.length := by rw [List.length_set, List.length_set]
    have hE2 : paE M ⟨9, D, pb, pi, E, F, ky, o⟩ = ⟨10, D, bitsN (enE M E).tw, bktN (enE M E).kw (enE M E).tw, enE M E, F, (enE M E).kw, o⟩ := if_pos h0
    refine (own1_ (kv := 2) (kx := 1) hw' hs' h.je h.ju h0 how hkw rfl hv2 rfl).mono ?_
    rintro e' w2 ⟨rfl, XB2, KB, LB, QB, NB, h2⟩
    exact ⟨rfl, PaS.both hE1 hE2 (h.mkW hlen h2 ⟨XB2, KB, LB, QB, NB, rfl⟩)⟩
  · rw [decide_eq_false h0] at hst
    have hE2 : paE M ⟨9, D, pb, pi, E, F, ky, o⟩ = ⟨9, D, pb, pi, enE M E, F, ky, o⟩ := if_neg h0
    have hd : decide ((paE M ⟨9, D, pb, pi, E, F, ky, o⟩).ln = 0) = false := by rw [hE2]; rfl
    have hne : (paE M ⟨9, D, pb, pi, E, F, ky, o⟩).ln ≠ 0 := of_decide_eq_false hd
    rw [hd]
    refine moreW (U := Z.B) (Q := fun W => PaS w0 W base WB M r j e u ⟨9, D, pb, pi, E, F, ky, o⟩ B) (cell_row (hw.blk 0 rfl) 8) (hst.mono ?_) (fun W hW => PaS.has okE hne hW)
    rintro e' w2 ⟨rfl, q, Z', X', eB, hw', hs'⟩
    have hlen : ((r.set u q).set e (way (enE M E) Z')).length = r.length := by rw [List.length_set, List.length_set]
    exact ⟨rfl, PaS.both hE1 hE2 (h.mkW hlen hw' ⟨Z', XB, VB, by rw [eB], hs'⟩)⟩
theorem pl_3 (h : PaW w0 w base WB M r j e u ⟨3, D, pb, pi, E, F, ky, o⟩ B X) (ok : PaOk ⟨3, D, pb, pi, E, F, ky, o⟩) (okE : PaOk (paE M ⟨3, D, pb, pi, E, F, ky, o⟩)) (ms : 0 ≤ M.sp ∧ M.sp ≤ 16) (hn : M.n ≤ 800000000) (hp : M.pn ≤ 800000000) : Calls Tryz.prog 31 #[Pw B, Pw WB] w fun e' w' => e' = .returned (.bool (decide ((paE M ⟨3, D, pb, pi, E, F, ky, o⟩).ln = 0))) ∧ PaS w0 w' base WB M r j e u ⟨3, D, pb, pi, E, F, ky, o⟩ B := by
  obtain ⟨l, hw, U, XB, OB, rfl, hr⟩ := h.at'
  have hst := fstep_ hw h.ju hr (ok.f.ok (by omega) (by omega)) ok.f.ln
  have hE1 : paM M ⟨3, D, pb, pi, E, F, ky, o⟩ = fstepM M F := rfl
  have hlen : (r.set u (freeP U (fstepK M F))).length = r.length := List.length_set
  by_cases h0 : (fstepK M F).ln = 0
  · rw [decide_eq_true h0] at hst
    have hE2 : paE M ⟨3, D, pb, pi, E, F, ky, o⟩ = ⟨0, D, pb, pi, E, F, ky, 1⟩ := if_pos h0
    refine doneF_LEAVE1 (U := U) (c0 := XB) (c1 := OB) (Q1 := fun W => ∃ X', Wq w0 W base WB (fstepM M F) (r.set u (freeP U (fstepK M F))) j _ X') (Q := fun W => PaS w0 W base WB M r j e u ⟨3, D, pb, pi, E, F, ky, o⟩ B) (ov := decide ((paE M ⟨3, D, pb, pi, E, F, ky, o⟩).ln = 0)) (cell_row (hw.blk 0 rfl) 8) hst (fun W hW => ?_) (fun W hW => PaS.over okE hW)
    obtain ⟨X', hw'⟩ := hW
    refine ⟨cell_row (hw'.blk 0 rfl) 9, (leave1_ (kx := 1) (ko := 2) (n := 1) hw' rfl rfl rfl).mono ?_⟩
    rintro e' w2 ⟨rfl, h2⟩
    have h3 : Wq w0 w2 base WB (fstepM M F) (r.set u (freeP U (fstepK M F))) j [(B, pkO D pb pi .nilIface .nilFunc 1)] X' := h2.only (fun x hx => by rw [List.mem_singleton] at hx; rw [hx]; exact List.mem_cons_self) (by simp)
    exact ⟨rfl, PaS.atu hE1 hE2 (h.mkW hlen h3 rfl)⟩
  · rw [decide_eq_false h0] at hst
    have hE2 : paE M ⟨3, D, pb, pi, E, F, ky, o⟩ = ⟨3, D, pb, pi, E, fstepK M F, ky, o⟩ := if_neg h0
    have hd : decide ((paE M ⟨3, D, pb, pi, E, F, ky, o⟩).ln = 0) = false := by rw [hE2]; rfl
    have hne : (paE M ⟨3, D, pb, pi, E, F, ky, o⟩).ln ≠ 0 := of_decide_eq_false hd
    rw [hd]
    refine moreF (U := U) (Q := fun W => PaS w0 W base WB M r j e u ⟨3, D, pb, pi, E, F, ky, o⟩ B) (cell_row (hw.blk 0 rfl) 8) (hst.mono ?_) (fun W hW => PaS.has okE hne hW)
    rintro e' w2 ⟨rfl, X', hw'⟩
    exact ⟨rfl, PaS.atu hE1 hE2 (h.mkW hlen hw' ⟨U, XB, OB, rfl, List.getElem?_set_self h.hu⟩)⟩
theorem pl_11 (h : PaW w0 w base WB M r j e u ⟨11, D, pb, pi, E, F, ky, o⟩ B X) (ok : PaOk ⟨11, D, pb, pi, E, F, ky, o⟩) (okE : PaOk (paE M ⟨11, D, pb, pi, E, F, ky, o⟩)) (ms : 0 ≤ M.sp ∧ M.sp ≤ 16) (hn : M.n ≤ 800000000) (hp : M.pn ≤ 800000000) : Calls Tryz.prog 31 #[Pw B, Pw WB] w fun e' w' => e' = .returned (.bool (decide ((paE M ⟨11, D, pb, pi, E, F, ky, o⟩).ln = 0))) ∧ PaS w0 w' base WB M r j e u ⟨11, D, pb, pi, E, F, ky, o⟩ B := by
  obtain ⟨l, hw, U, XB, OB, rfl, hr⟩ := h.at'
  have hst := fstep_ hw h.ju hr (ok.f.ok (by omega) (by omega)) ok.f.ln
  have hE1 : paM M ⟨11, D, pb, pi, E, F, ky, o⟩ = fstepM M F := rfl
  have hlen : (r.set u (freeP U (fstepK M F))).length = r.length := List.length_set
  by_cases h0 : (fstepK M F).ln = 0
  · rw [decide_eq_true h0] at hst
    have hE2 : paE M ⟨11, D, pb, pi, E, F, ky, o⟩ = ⟨0, D, pb, pi, E, F, ky, 2⟩ := if_pos h0
    refine doneF_LEAVE1 (U := U) (c0 := XB) (c1 := OB) (Q1 := fun W => ∃ X', Wq w0 W base WB (fstepM M F) (r.set u (freeP U (fstepK M F))) j _ X') (Q := fun W => PaS w0 W base WB M r j e u ⟨11, D, pb, pi, E, F, ky, o⟩ B) (ov := decide ((paE M ⟨11, D, pb, pi, E, F, ky, o⟩).ln = 0)) (cell_row (hw.blk 0 rfl) 8) hst (fun W hW => ?_) (fun W hW => PaS.over okE hW)
    obtain ⟨X', hw'⟩ := hW
    refine ⟨cell_row (hw'.blk 0 rfl) 9, (leave1_ (kx := 1) (ko := 2) (n := 2) hw' rfl rfl rfl).mono ?_⟩
    rintro e' w2 ⟨rfl, h2⟩
    have h3 : Wq w0 w2 base WB (fstepM M F) (r.set u (freeP U (fstepK M F))) j [(B, pkO D pb pi .nilIface .nilFunc 2)] X' := h2.only (fun x hx => by rw [List.mem_singleton] at hx; rw [hx]; exact List.mem_cons_self) (by simp)
    exact ⟨rfl, PaS.atu hE1 hE2 (h.mkW hlen h3 rfl)⟩
  · rw [decide_eq_false h0] at hst
    have hE2 : paE M ⟨11, D, pb, pi, E, F, ky, o⟩ = ⟨11, D, pb, pi, E, fstepK M F, ky, o⟩ := if_neg h0
    have hd : decide ((paE M ⟨11, D, pb, pi, E, F, ky, o⟩).ln = 0) = false := by rw [hE2]; rfl
    have hne : (paE M ⟨11, D, pb, pi, E, F, ky, o⟩).ln ≠ 0 := of_decide_eq_false hd
    rw [hd]
    refine moreF (U := U) (Q := fun W => PaS w0 W base WB M r j e u ⟨11, D, pb, pi, E, F, ky, o⟩ B) (cell_row (hw.blk 0 rfl) 8) (hst.mono ?_) (fun W hW => PaS.has okE hne hW)
    rintro e' w2 ⟨rfl, X', hw'⟩
    exact ⟨rfl, PaS.atu hE1 hE2 (h.mkW hlen hw' ⟨U, XB, OB, rfl, List.getElem?_set_self h.hu⟩)⟩
theorem pl_13 (h : PaW w0 w base WB M r j e u ⟨13, D, pb, pi, E, F, ky, o⟩ B X) (ok : PaOk ⟨13, D, pb, pi, E, F, ky, o⟩) (okE : PaOk (paE M ⟨13, D, pb, pi, E, F, ky, o⟩)) (ms : 0 ≤ M.sp ∧ M.sp ≤ 16) (hn : M.n ≤ 800000000) (hp : M.pn ≤ 800000000) : Calls Tryz.prog 31 #[Pw B, Pw WB] w fun e' w' => e' = .returned (.bool (decide ((paE M ⟨13, D, pb, pi, E, F, ky, o⟩).ln = 0))) ∧ PaS w0 w' base WB M r j e u ⟨13, D, pb, pi, E, F, ky, o⟩ B := by
  obtain ⟨l, hw, U, XB, OB, rfl, hr⟩ := h.at'
  have hst := fstep_ hw h.ju hr (ok.f.ok (by omega) (by omega)) ok.f.ln
  have hE1 : paM M ⟨13, D, pb, pi, E, F, ky, o⟩ = fstepM M F := rfl
  have hlen : (r.set u (freeP U (fstepK M F))).length = r.length := List.length_set
  by_cases h0 : (fstepK M F).ln = 0
  · rw [decide_eq_true h0] at hst
    have hE2 : paE M ⟨13, D, pb, pi, E, F, ky, o⟩ = ⟨0, D, pb, pi, E, F, ky, 3⟩ := if_pos h0
    refine doneF_LEAVE1 (U := U) (c0 := XB) (c1 := OB) (Q1 := fun W => ∃ X', Wq w0 W base WB (fstepM M F) (r.set u (freeP U (fstepK M F))) j _ X') (Q := fun W => PaS w0 W base WB M r j e u ⟨13, D, pb, pi, E, F, ky, o⟩ B) (ov := decide ((paE M ⟨13, D, pb, pi, E, F, ky, o⟩).ln = 0)) (cell_row (hw.blk 0 rfl) 8) hst (fun W hW => ?_) (fun W hW => PaS.over okE hW)
    obtain ⟨X', hw'⟩ := hW
    refine ⟨cell_row (hw'.blk 0 rfl) 9, (leave1_ (kx := 1) (ko := 2) (n := 3) hw' rfl rfl rfl).mono ?_⟩
    rintro e' w2 ⟨rfl, h2⟩
    have h3 : Wq w0 w2 base WB (fstepM M F) (r.set u (freeP U (fstepK M F))) j [(B, pkO D pb pi .nilIface .nilFunc 3)] X' := h2.only (fun x hx => by rw [List.mem_singleton] at hx; rw [hx]; exact List.mem_cons_self) (by simp)
    exact ⟨rfl, PaS.atu hE1 hE2 (h.mkW hlen h3 rfl)⟩
  · rw [decide_eq_false h0] at hst
    have hE2 : paE M ⟨13, D, pb, pi, E, F, ky, o⟩ = ⟨13, D, pb, pi, E, fstepK M F, ky, o⟩ := if_neg h0
    have hd : decide ((paE M ⟨13, D, pb, pi, E, F, ky, o⟩).ln = 0) = false := by rw [hE2]; rfl
    have hne : (paE M ⟨13, D, pb, pi, E, F, ky, o⟩).ln ≠ 0 := of_decide_eq_false hd
    rw [hd]
    refine moreF (U := U) (Q := fun W => PaS w0 W base WB M r j e u ⟨13, D, pb, pi, E, F, ky, o⟩ B) (cell_row (hw.blk 0 rfl) 8) (hst.mono ?_) (fun W hW => PaS.has okE hne hW)
    rintro e' w2 ⟨rfl, X', hw'⟩
    exact ⟨rfl, PaS.atu hE1 hE2 (h.mkW hlen hw' ⟨U, XB, OB, rfl, List.getElem?_set_self h.hu⟩)⟩
theorem pl_6 (h : PaW w0 w base WB M r j e u ⟨6, D, pb, pi, E, F, ky, o⟩ B X) (ok : PaOk ⟨6, D, pb, pi, E, F, ky, o⟩) (okE : PaOk (paE M ⟨6, D, pb, pi, E, F, ky, o⟩)) (ms : 0 ≤ M.sp ∧ M.sp ≤ 16) (hn : M.n ≤ 800000000) (hp : M.pn ≤ 800000000) : Calls Tryz.prog 31 #[Pw B, Pw WB] w fun e' w' => e' = .returned (.bool (decide ((paE M ⟨6, D, pb, pi, E, F, ky, o⟩).ln = 0))) ∧ PaS w0 w' base WB M r j e u ⟨6, D, pb, pi, E, F, ky, o⟩ B := by
  obtain ⟨l, hw, U, rfl, hr⟩ := h.at'
  have hst := fstep_ hw h.ju hr (ok.f.ok (by omega) (by omega)) ok.f.ln
  have hE1 : paM M ⟨6, D, pb, pi, E, F, ky, o⟩ = fstepM M F := rfl
  have hlen : (r.set u (freeP U (fstepK M F))).length = r.length := List.length_set
  by_cases h0 : (fstepK M F).ln = 0
  · rw [decide_eq_true h0] at hst
    have hE2 : paE M ⟨6, D, pb, pi, E, F, ky, o⟩ = ⟨8, D, pb, pi, E, F, ky, o⟩ := if_pos h0
    refine doneF_BEFORE (U := U) (Q1 := fun W => ∃ X', Wq w0 W base WB (fstepM M F) (r.set u (freeP U (fstepK M F))) j _ X') (Q := fun W => PaS w0 W base WB M r j e u ⟨6, D, pb, pi, E, F, ky, o⟩ B) (ov := decide ((paE M ⟨6, D, pb, pi, E, F, ky, o⟩).ln = 0)) (cell_row (hw.blk 0 rfl) 8) hst (fun W hW => ?_) (fun W hW => PaS.over okE hW)
    obtain ⟨X', hw'⟩ := hW
    refine ⟨cell_row (hw'.blk 0 rfl) 9, (before_ hw' rfl ok.t).mono ?_⟩
    rintro e' w2 ⟨rfl, SB, XB, VB, h2⟩
    exact ⟨rfl, PaS.atu hE1 hE2 (h.mkW hlen h2 ⟨SB, XB, VB, rfl⟩)⟩
  · rw [decide_eq_false h0] at hst
    have hE2 : paE M ⟨6, D, pb, pi, E, F, ky, o⟩ = ⟨6, D, pb, pi, E, fstepK M F, ky, o⟩ := if_neg h0
    have hd : decide ((paE M ⟨6, D, pb, pi, E, F, ky, o⟩).ln = 0) = false := by rw [hE2]; rfl
    have hne : (paE M ⟨6, D, pb, pi, E, F, ky, o⟩).ln ≠ 0 := of_decide_eq_false hd
    rw [hd]
    refine moreF (U := U) (Q := fun W => PaS w0 W base WB M r j e u ⟨6, D, pb, pi, E, F, ky, o⟩ B) (cell_row (hw.blk 0 rfl) 8) (hst.mono ?_) (fun W hW => PaS.has okE hne hW)
    rintro e' w2 ⟨rfl, X', hw'⟩
    exact ⟨rfl, PaS.atu hE1 hE2 (h.mkW hlen hw' ⟨U, rfl, List.getElem?_set_self h.hu⟩)⟩
end
end Go.Proofs.YtieiiabbeglmfaaGreatDoor.S18
