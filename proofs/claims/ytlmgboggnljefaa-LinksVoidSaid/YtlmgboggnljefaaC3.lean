/- Both sets side by side; both tell the same. -/
import Derived.Test.YtlmgboggnljefaaC2
namespace Go.Proofs.Ytlmgboggnljefaa
open Go.RowKit

/-- One more than what At tells, of a thread, or of what is none. -/
def ga (S : Lk) (k : Nat) : Option Nat → Nat
  | some t => S (t * 3 + k)
  | none => 0
theorem ga_le {w : World} {B : Nat} {S : Lk} (h : Has w B S) (k : Nat) (o : Option Nat) : ga S k o ≤ 64 := by
  cases o with
  | none => exact Nat.zero_le _
  | some t => exact h.le _
theorem at_any {w : World} {B : Nat} {S : Lk} (h : Has w B S) {x : Int} {o : Option Nat} (hx : Num x o) : Calls Try.prog 12 #[Pt B, .int .i64 x] w fun e w' => e = .returned (.agg #[.int .i64 ((ga S 0 o : Int) - 1), .int .i64 ((ga S 1 o : Int) - 1), .int .i64 ((ga S 2 o : Int) - 1)]) ∧ Below w.heap.size w w' := by
  cases o with
  | none => exact at_no x hx
  | some t => obtain ⟨rfl, ht⟩ := hx; exact at_yes h t ht
theorem rat_any {w : World} {B : Nat} {S : Lk} (h : Has w B S) {x : Int} {o : Option Nat} (hx : Num x o) : Calls Try.prog 18 #[Pt B, .int .i64 x] w fun e w' => e = .returned (.tuple #[.int .i64 ((ga S 0 o : Int) - 1), .int .i64 ((ga S 1 o : Int) - 1), .int .i64 ((ga S 2 o : Int) - 1)]) ∧ Below w.heap.size w w' := by
  cases o with
  | none => exact (rat_no x hx).mono fun e w' ⟨he, hw⟩ => ⟨he, hw ▸ Below.refl _ _⟩
  | some t => obtain ⟨rfl, ht⟩ := hx; exact rat_yes h t ht
/-- Both sets: the program's with links S, the document's with links T. -/
structure Duo (w : World) (B R : Nat) (S T : Lk) : Prop where
  hb : Has w B S
  hr : Has w R T
  ne : B ≠ R
section
variable {w w' : World} {B R : Nat} {S T S' : Lk} {x y : Int} {o p : Option Nat}
theorem Duo.new (h : Duo w B R S T) (b : Below w.heap.size w w') : Duo w' B R S T := ⟨h.hb.new b, h.hr.new b, h.ne⟩
theorem Duo.left (h : Duo w B R S T) (s : Sets w w' B S') : Duo w' B R S' T := ⟨s.1, h.hr.kept s.2 (fun e => h.ne e.symm), h.ne⟩
theorem Duo.right (h : Duo w B R S T) (s : Sets w w' R S') : Duo w' B R S S' := ⟨h.hb.kept s.2 h.ne, s.1, h.ne⟩
theorem duo_push (h : Duo w B R S T) (hx : Num x o) (hy : Num y p) : Calls Try.prog 11 #[Pt B, .int .i64 x, .int .i64 y] w fun e w' => e = .returned (.tuple #[]) ∧ Duo w' B R (pushS S o p) T ∧ Turns (fun k => k = B) w w' :=
  (push_any h.hb hx hy).mono fun e w' ⟨he, s⟩ => ⟨he, h.left s, s.2⟩
theorem duo_rpush (h : Duo w B R S T) (hx : Num x o) (hy : Num y p) : Calls Try.prog 15 #[Pt R, .int .i64 x, .int .i64 y] w fun e w' => e = .returned (.tuple #[]) ∧ Duo w' B R S (pushS T o p) ∧ Turns (fun k => k = R) w w' :=
  (rpush_any h.hr hx hy).mono fun e w' ⟨he, s⟩ => ⟨he, h.right s, s.2⟩
theorem duo_seek (h : Duo w B R S T) (hx : Num x o) : Calls Try.prog 13 #[Pt B, .int .i64 x] w fun e w' => e = .returned (.int .i64 (((seekO S o).2 : Int) - 1)) ∧ Duo w' B R (seekO S o).1 T ∧ Turns (fun k => k = B) w w' :=
  (seek_any h.hb hx).mono fun e w' ⟨he, s, t⟩ => ⟨he, h.left ⟨s, t⟩, t⟩
theorem duo_rseek (h : Duo w B R S T) (hx : Num x o) : Calls Try.prog 16 #[Pt R, .int .i64 x] w fun e w' => e = .returned (.int .i64 (((seekO T o).2 : Int) - 1)) ∧ Duo w' B R S (seekO T o).1 ∧ Turns (fun k => k = R) w w' :=
  (rseek_any h.hr hx).mono fun e w' ⟨he, s, t⟩ => ⟨he, h.right ⟨s, t⟩, t⟩
theorem duo_cut (h : Duo w B R S T) (hx : Num x o) (hy : Num y p) : Calls Try.prog 14 #[Pt B, .int .i64 x, .int .i64 y] w fun e w' => e = .returned (.int .i64 (((cutO S o p).2 : Int) - 1)) ∧ Duo w' B R (cutO S o p).1 T ∧ Turns (fun k => k = B) w w' :=
  (cut_any h.hb hx hy).mono fun e w' ⟨he, s, t⟩ => ⟨he, h.left ⟨s, t⟩, t⟩
theorem duo_rcut (h : Duo w B R S T) (hx : Num x o) (hy : Num y p) : Calls Try.prog 17 #[Pt R, .int .i64 x, .int .i64 y] w fun e w' => e = .returned (.int .i64 (((cutO T o p).2 : Int) - 1)) ∧ Duo w' B R S (cutO T o p).1 ∧ Turns (fun k => k = R) w w' :=
  (rcut_any h.hr hx hy).mono fun e w' ⟨he, s, t⟩ => ⟨he, h.right ⟨s, t⟩, t⟩
theorem same_any (h : Duo w B R S S) : Calls Try.prog 10 #[Pt B, Pt R] w fun e w' => e = .returned (.bool true) ∧ Below w.heap.size w w' := by
  have H := Lib.hid h
  clear h
  go_enter Try.func10, Try.ntmps10
  go_wp2_with fail
  go_loopg [5] 68 (fun q s5 wx => ∃ k : Nat, k ≤ 68 ∧ q = 68 - k ∧ s5 = .int .i64 ((k : Int) - 2) ∧ Below w.heap.size w wx)
  case atStart => exact ⟨0, by omega, rfl, rfl, Below.refl _ _⟩
  case round =>
    obtain ⟨k, hk, rfl, rfl, hb⟩ := hrel
    have BB := Lib.hid hb
    clear hb
    by_cases hk2 : k < 68
    · obtain ⟨o, ho⟩ := num_any ((k : Int) - 2)
      have hr := fun wz (hz : Below w.heap.size w wz) => rat_any (H.out.new hz).hr ho
      have ha := fun wz (hz : Below w.heap.size w wz) => at_any (H.out.new hz).hb ho
      have HR := Lib.hid hr; have HA := Lib.hid ha
      clear hr ha ho
      generalize ((ga S 0 o : Int) - 1) = a at *
      generalize ((ga S 1 o : Int) - 1) = b at *
      generalize ((ga S 2 o : Int) - 1) = c at *
      have q := neq38 a b c a b c
      simp only [beq_self_eq_true, Bool.and_self, Bool.not_true] at q
      go_wp2_with fail
      refine (HR.out _ BB.out).mono ?_
      rintro e w1 ⟨rfl, hb1⟩
      have B1 := Lib.hid (BB.out.trans (hb1.mono BB.out.size))
      clear hb1
      go_wp2_with fail
      refine (HA.out _ B1.out).mono ?_
      rintro e w2 ⟨rfl, hb2⟩
      have B2 := Lib.hid (B1.out.trans (hb2.mono B1.out.size))
      clear hb2
      go_wp2_with fail
      go_roundg (68 - (k + 1))
      case measure => omega
      case rel => exact ⟨k + 1, by omega, rfl, by rw [show ((k + 1 : Nat) : Int) - 2 = (k : Int) - 2 + 1 by omega], B2.out⟩
    · obtain rfl : k = 68 := by omega
      go_wp2_with fail
      go_ret
      exact ⟨rfl, BB.out⟩
end
end Go.Proofs.Ytlmgboggnljefaa
