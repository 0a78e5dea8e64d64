/- Seek and Cut of the program, whatever is handed in. -/
import Derived.Test.YtlmgboggnljefaaA3
namespace Go.Proofs.Ytlmgboggnljefaa
open Go.RowKit

theorem seek_no {w : World} {B : Nat} (x : Int) (hx : notT x) : Calls Try.prog 13 #[Pt B, .int .i64 x] w fun e w' => e = .returned (.int .i64 (-1)) ∧ w = w' := by
  have hh := has_no B x hx
  have HH := Lib.hid hh
  clear hh
  go_enter Try.func13, Try.ntmps13
  go_wp2_with fail
  go_step3
  go_wp2_with fail
  refine (HH.out _).mono ?_
  rintro e w' ⟨rfl, rfl⟩
  go_wp2_with fail
  rw [Exit.noGoto_ret]
  go_ret
  exact ⟨rfl, rfl⟩
theorem seek_nil {w : World} (x : Int) : Calls Try.prog 13 #[.pointer none, .int .i64 x] w fun e w' => e = .returned (.int .i64 (-1)) ∧ w = w' := by
  have hh := has_nil x
  have HH := Lib.hid hh
  clear hh
  go_enter Try.func13, Try.ntmps13
  go_wp2_with fail
  go_step3
  go_wp2_with fail
  refine (HH.out _).mono ?_
  rintro e w' ⟨rfl, rfl⟩
  go_wp2_with fail
  rw [Exit.noGoto_ret]
  go_ret
  exact ⟨rfl, rfl⟩
def seekO (S : Lk) : Option Nat → Lk × Nat
  | some t => seekS S t
  | none => (S, 0)
theorem seek_any {w : World} {B : Nat} {S : Lk} (h : Has w B S) {x : Int} {o : Option Nat} (hx : Num x o) : Calls Try.prog 13 #[Pt B, .int .i64 x] w (Sought w B (seekO S o)) := by
  cases o with
  | none => exact (seek_no x hx).mono fun e w' ⟨he, hw⟩ => by subst hw; exact ⟨he, h, Turns.refl _ _⟩
  | some t => obtain ⟨rfl, ht⟩ := hx; exact seek_yes h t ht
def cutO (S : Lk) : Option Nat → Option Nat → Lk × Nat
  | some h, some t => (if S (t * 3 + 1) = 0 then S else upd S (h * 3 + 2) (S (t * 3 + 1)), S (t * 3 + 1))
  | _, _ => (S, 0)
theorem cut_nil {w : World} (x y : Int) : Calls Try.prog 14 #[.pointer none, .int .i64 x, .int .i64 y] w fun e w' => e = .returned (.int .i64 (-1)) ∧ w = w' := by
  have hh := has_nil x
  have HH := Lib.hid hh
  clear hh
  go_enter Try.func14, Try.ntmps14
  go_wp2_with fail
  refine (HH.out _).mono ?_
  rintro e w' ⟨rfl, rfl⟩
  go_wp2_with fail
  go_ret
  exact ⟨rfl, rfl⟩
theorem cut_no1 {w : World} {B : Nat} (x y : Int) (hx : notT x) : Calls Try.prog 14 #[Pt B, .int .i64 x, .int .i64 y] w fun e w' => e = .returned (.int .i64 (-1)) ∧ w = w' := by
  have hh := has_no B x hx
  have HH := Lib.hid hh
  clear hh
  go_enter Try.func14, Try.ntmps14
  go_wp2_with fail
  refine (HH.out _).mono ?_
  rintro e w' ⟨rfl, rfl⟩
  go_wp2_with fail
  go_ret
  exact ⟨rfl, rfl⟩
theorem cut_no2 {w : World} {B : Nat} (t : Nat) (y : Int) (ht : t < 64) (hy : notT y) : Calls Try.prog 14 #[Pt B, .int .i64 (t : Int), .int .i64 y] w fun e w' => e = .returned (.int .i64 (-1)) ∧ w = w' := by
  have hh := has_yes B t ht
  have h2 := has_no B y hy
  have HH := Lib.hid hh; have H2 := Lib.hid h2
  clear hh h2
  go_enter Try.func14, Try.ntmps14
  go_wp2_with fail
  refine (HH.out _).mono ?_
  rintro e w' ⟨rfl, rfl⟩
  go_wp2_with fail
  refine (H2.out _).mono ?_
  rintro e w' ⟨rfl, rfl⟩
  go_wp2_with fail
  go_ret
  exact ⟨rfl, rfl⟩
theorem cut_zero {S : Lk} {t u : Nat} (h : S (u * 3 + 1) = 0) : cutO S (some t) (some u) = (S, 0) := by rw [cutO, if_pos h, h]
theorem cut_pos {S : Lk} {t u : Nat} (h : S (u * 3 + 1) ≠ 0) : cutO S (some t) (some u) = (upd S (t * 3 + 2) (S (u * 3 + 1)), S (u * 3 + 1)) := by rw [cutO, if_neg h]
theorem cut_yes {w : World} {B : Nat} {S : Lk} (h : Has w B S) (t u : Nat) (ht : t < 64) (hu : u < 64) : Calls Try.prog 14 #[Pt B, .int .i64 (t : Int), .int .i64 (u : Int)] w (Sought w B (cutO S (some t) (some u))) := by
  have hh := has_yes B t ht
  have h2 := has_yes B u hu
  have c1 := h.cell (u * 3 + 1) (by omega)
  have c2 := h.cell (t * 3 + 2) (by omega)
  have f2 := h.froz (t * 3 + 2) (by omega)
  have l1 := h.le (u * 3 + 1)
  have HH := Lib.hid hh; have H2 := Lib.hid h2; have H := Lib.hid h
  clear hh h2 h
  obtain ⟨x, hx⟩ : ∃ x, S (u * 3 + 1) = x := ⟨_, rfl⟩
  rw [hx] at c1 l1
  have HX := Lib.hid hx
  clear hx
  by_cases hx0 : x = 0
  · subst hx0
    go_enter Try.func14, Try.ntmps14
    go_wp2_with fail
    refine (HH.out _).mono ?_
    rintro e w' ⟨rfl, rfl⟩
    go_wp2_with fail
    refine (H2.out _).mono ?_
    rintro e w' ⟨rfl, rfl⟩
    go_wp2_with fail
    go_ret
    rw [cut_zero HX.out]
    exact ⟨rfl, H.out, Turns.refl _ _⟩
  · have e1 : ((x : Int) == 0) = false := by rw [beq_eq_false_iff_ne]; omega
    go_enter Try.func14, Try.ntmps14
    go_wp2_with fail
    refine (HH.out _).mono ?_
    rintro e w' ⟨rfl, rfl⟩
    go_wp2_with fail
    refine (H2.out _).mono ?_
    rintro e w' ⟨rfl, rfl⟩
    go_wp2_with fail
    go_ret
    rw [cut_pos (by rw [HX.out]; exact hx0), HX.out]
    exact ⟨rfl, H.out.set (by omega) l1, (Turns.refl _ _).setCell _ _ rfl⟩
theorem cut_any {w : World} {B : Nat} {S : Lk} (h : Has w B S) {x y : Int} {a b : Option Nat} (hx : Num x a) (hy : Num y b) : Calls Try.prog 14 #[Pt B, .int .i64 x, .int .i64 y] w (Sought w B (cutO S a b)) := by
  cases a with
  | none => exact (cut_no1 x y hx).mono fun e w' ⟨he, hw⟩ => by subst hw; cases b <;> exact ⟨he, h, Turns.refl _ _⟩
  | some t =>
    obtain ⟨rfl, ht⟩ := hx
    cases b with
    | none => exact (cut_no2 t y ht hy).mono fun e w' ⟨he, hw⟩ => by subst hw; exact ⟨he, h, Turns.refl _ _⟩
    | some u => obtain ⟨rfl, hu⟩ := hy; exact cut_yes h t u ht hu
end Go.Proofs.Ytlmgboggnljefaa
