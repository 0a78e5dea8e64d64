/- Texts of this seat, one behind the other. -/
import Derived.Test.YthafnphpcdbnlaaGreatDoorMLawNew18
import Derived.WalkMore
import Derived.ScopeJumps
import Derived.RegionTactic
import Derived.StillTailTactics
set_option linter.unusedVariables false
set_option linter.unusedSimpArgs false
set_option linter.unusedVariables false
set_option linter.unusedSimpArgs false
namespace Go.Proofs.YthafnphpcdbnlaaGreatDoor.S5
open Go.Proofs.YthafnphpcdbnlaaGreatDoor
open Go.RowKit

/-- The way to the tail, so many steps at most: the links then, and where it ends; none: there was no next one. -/
def go : Nat → Lk → Nat → Lk × Option Nat
  | 0, S, a => (S, some a)
  | n + 1, S, a => if S (a * 3 + 2) = 0 then (if S (a * 3) = 0 then (S, none) else go n (upd S ((S (a * 3) - 1) * 3 + 1) (a + 1)) (S (a * 3) - 1)) else (S, some a)
/-- What Seek leaves, and one more than what it tells. -/
def closeS (t : Nat) : Lk × Option Nat → Lk × Nat
  | (S, none) => (S, 0)
  | (S, some a) => (upd S (t * 3 + 2) (S (a * 3 + 2)), S (a * 3 + 2))
def seekS (S : Lk) (t : Nat) : Lk × Nat := closeS t (go 64 S t)
/-- What a seek ends as. -/
def Sought (w : World) (B : Nat) (R : Lk × Nat) (e : Ending) (w' : World) : Prop := e = .returned (.int .i64 ((R.2 : Int) - 1)) ∧ Has w' B R.1 ∧ Turns (fun k => k = B) w w'
theorem go_stop {S : Lk} {a : Nat} (n : Nat) (h : S (a * 3 + 2) ≠ 0 ∨ n = 0) : go n S a = (S, some a) := by
  cases n with
  | zero => rfl
  | succ n => rw [go, if_neg (by omega)]
theorem go_none {S : Lk} {a : Nat} (n : Nat) (h : S (a * 3 + 2) = 0) (h0 : S (a * 3) = 0) : go (n + 1) S a = (S, none) := by
  rw [go, if_pos h, if_pos h0]
theorem go_on {S : Lk} {a x : Nat} (n : Nat) (h : S (a * 3 + 2) = 0) (h0 : S (a * 3) = x + 1) : go (n + 1) S a = go n (upd S (x * 3 + 1) (a + 1)) x := by
  rw [go, if_pos h, if_neg (by omega), h0, Nat.add_sub_cancel]
def Jump (w : World) (B : Nat) (S : Lk) (t : Nat) (a' : Act) (w' : World) : Prop :=
  ∃ (n g at_ : Nat) (S' : Lk) (u7 u12 u13 u14 u15 u16 u17 u18 u19 u20 u21 u22 u23 u24 u25 u26 u27 u28 u29 u30 u31 u32 u33 u34 u35 u36 u37 u38 u39 u40 u41 u42 u43 u44 u45 : Value), a' = { tmps := #[Pt B, .int .i64 (t : Int), undef, undef, .int .i64 0, .int .i64 (at_ : Int), .int .i64 (g : Int), u7, Pt B, .int .i64 (t : Int), .bool true, .bool false, u12, u13, u14, u15, u16, u17, u18, u19, u20, u21, u22, u23, u24, u25, u26, u27, u28, u29, u30, u31, u32, u33, u34, u35, u36, u37, u38, u39, u40, u41, u42, u43, u44, u45, undef, undef, undef, undef, undef, undef, undef, undef, undef, undef, undef, undef, undef, undef, undef, undef, undef, undef, undef, undef, undef], defers := [] } ∧ g + n = 64 ∧ at_ < 64 ∧ Has w' B S' ∧ go n S' at_ = go 64 S t ∧ Turns (fun k => k = B) w w'
theorem Has.read {w : World} {B : Nat} {S : Lk} (h : Has w B S) {i v : Nat} (hi : i < 192) (e : S i = v) : w.cell? ⟨B, i, none⟩ = some (.int .i64 (v : Nat)) := by rw [← e]; exact h.cell i hi
theorem Sought.mk {w0 w : World} {B t a x : Nat} {S : Lk} {e : Ending} {w' : World} {P : Lk × Option Nat} (ha : a < 64) (ht : t < 64) (h : Has w B S) (ht0 : Turns (fun k => k = B) w0 w) (hg : P = (S, some a)) (hx : S (a * 3 + 2) = x) (he : e = .returned (.int .i64 ((x : Int) - 1))) (hw : w' = w.setCell ⟨B, t * 3 + 2, none⟩ (.int .i64 (x : Nat)) ∨ w' = (w.setCell ⟨B, t * 3 + 2, none⟩ (.int .i64 (x : Nat))).drew) :
    Sought w0 B (closeS t P) e w' := by
  subst hg
  subst hx
  have h1 := h.set (i := t * 3 + 2) (by omega) (h.le (a * 3 + 2))
  have t1 := ht0.setCell ⟨B, t * 3 + 2, none⟩ (.int .i64 (S (a * 3 + 2) : Nat)) rfl
  rcases hw with rfl | rfl
  · exact ⟨he, h1, t1⟩
  · exact ⟨he, h1.drew, t1.drew⟩
theorem Sought.none {w0 w : World} {B t : Nat} {S : Lk} {P : Lk × Option Nat} (h : Has w B S) (ht0 : Turns (fun k => k = B) w0 w) (hg : P = (S, Option.none)) : Sought w0 B (closeS t P) (.returned (.int .i64 (-1))) w := by
  subst hg
  exact ⟨rfl, h, ht0⟩
end Go.Proofs.YthafnphpcdbnlaaGreatDoor.S5
set_option linter.unusedVariables false
set_option linter.unusedSimpArgs false
namespace Go.Proofs.YthafnphpcdbnlaaGreatDoor.S5
open Go.Proofs.YthafnphpcdbnlaaGreatDoor
open Go.RowKit

def seekO (S : Lk) : Option Nat → Lk × Nat
  | some t => seekS S t
  | none => (S, 0)
def cutO (S : Lk) : Option Nat → Option Nat → Lk × Nat
  | some h, some t => (if S (t * 3 + 1) = 0 then S else upd S (h * 3 + 2) (S (t * 3 + 1)), S (t * 3 + 1))
  | _, _ => (S, 0)
theorem cut_zero {S : Lk} {t u : Nat} (h : S (u * 3 + 1) = 0) : cutO S (some t) (some u) = (S, 0) := by rw [cutO, if_pos h, h]
theorem cut_pos {S : Lk} {t u : Nat} (h : S (u * 3 + 1) ≠ 0) : cutO S (some t) (some u) = (upd S (t * 3 + 2) (S (u * 3 + 1)), S (u * 3 + 1)) := by rw [cutO, if_neg h]
end Go.Proofs.YthafnphpcdbnlaaGreatDoor.S5
set_option linter.unusedVariables false
set_option linter.unusedSimpArgs false
namespace Go.Proofs.YthafnphpcdbnlaaGreatDoor.S5
open Go.Proofs.YthafnphpcdbnlaaGreatDoor
open Go.RowKit

theorem Has.same {w : World} {B : Nat} {S T : Lk} (h : Has w B S) (e : ∀ i, S i = T i) : Has w B T := by
  have : S = T := funext e
  rw [← this]; exact h
def lnk3 (S : Lk) (t : Nat) : Value := .tuple #[.int .i64 ((S (t * 3) : Int) - 1), .int .i64 ((S (t * 3 + 1) : Int) - 1), .int .i64 ((S (t * 3 + 2) : Int) - 1)]
def nolnk3 : Value := .tuple #[.int .i64 (-1), .int .i64 (-1), .int .i64 (-1)]
theorem below0 (w : World) : Below w.heap.size w w.drew := ⟨rfl, rfl, rfl, Nat.le_refl _, fun _ _ => rfl⟩
theorem rat_yes {w : World} {B : Nat} {S : Lk} (h : Has w B S) (t : Nat) (ht : t < 64) : Calls Tryz.prog 35 #[Pt B, .int .i64 (t : Int)] w fun e w' => e = .returned (lnk3 S t) ∧ Below w.heap.size w w' := by
  unfold lnk3
  have hh := is_yes t ht
  have c0 := h.cell (t * 3) (by omega)
  have c1 := h.cell (t * 3 + 1) (by omega)
  have c2 := h.cell (t * 3 + 2) (by omega)
  have l0 := h.le (t * 3)
  have l1 := h.le (t * 3 + 1)
  have l2 := h.le (t * 3 + 2)
  have HH := Lib.hid hh
  clear hh h
  generalize S (t * 3) = x at *
  generalize S (t * 3 + 1) = y at *
  generalize S (t * 3 + 2) = z at *
  go_enter Tryz.func35, Tryz.ntmps35
  go_wp2_with fail
  refine (HH.out _).mono ?_
  rintro e w' ⟨rfl, rfl⟩
  go_wp2_with fail
  go_region
  all_goals
    go_wp2_with fail
    go_ret3
    exact ⟨rfl, below0 w⟩
theorem rat_no {w : World} {B : Nat} (x : Int) (hx : notT x) : Calls Tryz.prog 35 #[Pt B, .int .i64 x] w fun e w' => e = .returned nolnk3 ∧ w = w' := by
  unfold nolnk3
  have hh := is_no x hx
  have HH := Lib.hid hh
  clear hh
  go_enter Tryz.func35, Tryz.ntmps35
  go_wp2_with fail
  refine (HH.out _).mono ?_
  rintro e w' ⟨rfl, rfl⟩
  go_wp2_with fail
  go_ret3
  exact ⟨rfl, rfl⟩
theorem put3_put3 (S : Lk) (t a b c x y z : Nat) (i : Nat) : put3 (put3 S t a b c) t x y z i = put3 S t x y z i := by
  unfold put3 upd
  by_cases e2 : i = t * 3 + 2
  · simp only [if_pos e2]
  · by_cases e1 : i = t * 3 + 1
    · simp only [if_neg e2, if_pos e1]
    · by_cases e0 : i = t * 3
      · simp only [if_neg e2, if_neg e1, if_pos e0]
      · simp only [if_neg e2, if_neg e1, if_neg e0]
end Go.Proofs.YthafnphpcdbnlaaGreatDoor.S5
set_option linter.unusedVariables false
set_option linter.unusedSimpArgs false
namespace Go.Proofs.YthafnphpcdbnlaaGreatDoor.S5
open Go.Proofs.YthafnphpcdbnlaaGreatDoor
open Go.RowKit

end Go.Proofs.YthafnphpcdbnlaaGreatDoor.S5
set_option linter.unusedVariables false
set_option linter.unusedSimpArgs false
namespace Go.Proofs.YthafnphpcdbnlaaGreatDoor.S5
open Go.Proofs.YthafnphpcdbnlaaGreatDoor
open Go.RowKit

def prevO (S : Lk) : Option Nat → Nat
  | some t => S (t * 3 + 1)
  | none => 0
theorem cutO_zero {S : Lk} {a b : Option Nat} (h : prevO S b = 0 ∨ a = none) : cutO S a b = (S, 0) := by
  cases a with
  | none => cases b <;> rfl
  | some t =>
    cases b with
    | none => rfl
    | some u => exact cut_zero (h.resolve_right (fun e => by cases e))
theorem turns_new {w w' : World} (P : Nat → Prop) (b : Below w.heap.size w w') : Turns P w w' := Turns.of_below b
end Go.Proofs.YthafnphpcdbnlaaGreatDoor.S5
set_option linter.unusedVariables false
set_option linter.unusedSimpArgs false
namespace Go.Proofs.YthafnphpcdbnlaaGreatDoor.S5
open Go.Proofs.YthafnphpcdbnlaaGreatDoor
open Go.RowKit
def Z192 : Array Value := Array.replicate 192 (.int .i64 0)
theorem zero46 (w : World) : (zeroValue 141).run Tryz.prog w = .ok (.agg Z192) w := by kernel_rfl
theorem zero31 (w : World) : (zeroValue 89).run Tryz.prog w = .ok (.agg Z192) w := by kernel_rfl
/-- No links. -/
def S0 : Lk := fun _ => 0
theorem cell_row {w : World} {B : Nat} {cs : Array Value} {T : TypeId} (h : w.heap[B]? = some (.cells cs T (0, 0))) (o : Nat) : w.cell? ⟨B, o, none⟩ = cs[o]? := by
  simp [World.cell?, h]
theorem froz_row {w : World} {B : Nat} {cs : Array Value} {T : TypeId} (h : w.heap[B]? = some (.cells cs T (0, 0))) (o : Nat) : w.frozen? ⟨B, o, none⟩ = false := by
  simp [World.frozen?, h]
theorem z192 {i : Nat} (hi : i < 192) : Z192[i]? = some (.int .i64 0) := by
  unfold Z192
  rw [Array.getElem?_replicate, if_pos hi]
theorem has_row {w : World} {B : Nat} {T : TypeId} (hb : w.heap[B]? = some (.cells Z192 T (0, 0))) : Has w B S0 :=
  ⟨(Array.getElem?_eq_some_iff.1 hb).1, fun i hi => (cell_row hb i).trans (z192 hi), fun i _ => froz_row hb i, fun _ => Nat.zero_le _⟩
theorem has_zero (w : World) (T : TypeId) : Has (w.alloc (.cells Z192 T)) w.heap.size S0 := has_row (heap_alloc_new w _)
theorem new_any (w : World) : Calls Tryz.prog 21 #[] w fun e w' => e = .returned (Pt w.heap.size) ∧ Has w' w.heap.size S0 ∧ Below w.heap.size w w' := by
  have z := zero46
  go_enter Tryz.func21, Tryz.ntmps21
  go_wp2_with fail
  go_ret
  exact ⟨rfl, has_zero w 141, below1 w _⟩
section
variable {w : World} {B : Nat} {S S' : Lk} {x y v : Int} {o p : Option Nat} {r : Nat}
end
def E1 : Lk := pushS S0 (some 4) none
def E2 : Lk := pushS E1 (some 2) (some 4)
def E3 : Lk := pushS E2 (some 7) (some 2)
def E4 : Lk := (seekO E3 (some 7)).1
def E5 : Lk := (cutO E4 (some 7) (some 4)).1
def E6 : Lk := (seekO E5 (some 7)).1
def E7 : Lk := (cutO E6 (some 7) (some 2)).1
def E8 : Lk := (cutO E7 (some 7) (some 7)).1
theorem r4 : (seekO E3 (some 7)).2 = 5 := by kernel_rfl
theorem r5 : (cutO E4 (some 7) (some 4)).2 = 3 := by kernel_rfl
theorem r6 : (seekO E5 (some 7)).2 = 3 := by kernel_rfl
theorem r7 : (cutO E6 (some 7) (some 2)).2 = 8 := by kernel_rfl
theorem r8 : (cutO E7 (some 7) (some 7)).2 = 0 := by kernel_rfl
theorem l4 : lnk E4 4 = .agg #[.int .i64 (-1), .int .i64 2, .int .i64 4] := by kernel_rfl
theorem at_lit {w : World} {B : Nat} {S : Lk} {v : Value} (h : Has w B S) (t : Nat) (ht : t < 64) (e : lnk S t = v) : Calls Tryz.prog 36 #[Pt B, .int .i64 (t : Int)] w fun e w' => e = .returned v ∧ Below w.heap.size w w' := by
  subst e; exact at_yes h t ht
theorem nm (t : Nat) (h : t < 64) : Num (t : Int) (some t) := ⟨rfl, h⟩
theorem nm1 : Num (-1) none := by unfold Num notT; omega
end Go.Proofs.YthafnphpcdbnlaaGreatDoor.S5
