/- The small calls of both sets: at, push. -/
import Derived.Test.YtlmgboggnljefaaA1
namespace Go.Proofs.Ytlmgboggnljefaa
open Go.RowKit

/-- A thread's link, as it is told. -/
def lnk (S : Lk) (t : Nat) : Value := .agg #[.int .i64 ((S (t * 3) : Int) - 1), .int .i64 ((S (t * 3 + 1) : Int) - 1), .int .i64 ((S (t * 3 + 2) : Int) - 1)]
def nolnk : Value := .agg #[.int .i64 (-1), .int .i64 (-1), .int .i64 (-1)]
theorem below1 (w : World) (o : Obj) : Below w.heap.size w (w.alloc o) := (Below.refl _ _).alloc (Nat.le_refl _) _
theorem below2 (w : World) (o p : Obj) : Below w.heap.size w ((w.alloc o).alloc p) := (below1 w o).alloc (by simp) _
theorem at_yes {w : World} {B : Nat} {S : Lk} (h : Has w B S) (t : Nat) (ht : t < 64) : Calls Try.prog 12 #[Pt B, .int .i64 (t : Int)] w fun e w' => e = .returned (lnk S t) ∧ Below w.heap.size w w' := by
  unfold lnk
  have hh := has_yes B t ht
  have c0 := h.cell (t * 3) (by omega)
  have c1 := h.cell (t * 3 + 1) (by omega)
  have c2 := h.cell (t * 3 + 2) (by omega)
  have l0 := h.le (t * 3)
  have l1 := h.le (t * 3 + 1)
  have l2 := h.le (t * 3 + 2)
  have hlt := h.lt
  have HH := Lib.hid hh
  clear hh h
  generalize S (t * 3) = x at *
  generalize S (t * 3 + 1) = y at *
  generalize S (t * 3 + 2) = z at *
  go_enter Try.func12, Try.ntmps12
  go_wp2_with (first
    | (go_at_call 19; refine (HH.out _).mono ?_; rintro e w' ⟨rfl, rfl⟩))
  exact bodyPost_ret (v := .agg #[.int .i64 ((x : Int) - 1), .int .i64 ((y : Int) - 1), .int .i64 ((z : Int) - 1)]) (by simp [results, Try.results12, go_sem]) rfl ⟨rfl, below2 w _ _⟩
theorem at_no {w : World} {B : Nat} (x : Int) (hx : notT x) : Calls Try.prog 12 #[Pt B, .int .i64 x] w fun e w' => e = .returned nolnk ∧ Below w.heap.size w w' := by
  unfold nolnk
  have hh := has_no B x hx
  have HH := Lib.hid hh
  clear hh
  go_enter Try.func12, Try.ntmps12
  go_wp2_with (first
    | (go_at_call 19; refine (HH.out _).mono ?_; rintro e w' ⟨rfl, rfl⟩))
  exact bodyPost_ret (v := .agg #[.int .i64 (-1), .int .i64 (-1), .int .i64 (-1)]) (by simp [results, Try.results12, go_sem]) rfl ⟨rfl, below1 w _⟩
theorem at_nil {w : World} (x : Int) : Calls Try.prog 12 #[.pointer none, .int .i64 x] w fun e w' => e = .returned nolnk ∧ Below w.heap.size w w' := by
  unfold nolnk
  have hh := has_nil x
  have HH := Lib.hid hh
  clear hh
  go_enter Try.func12, Try.ntmps12
  go_wp2_with (first
    | (go_at_call 19; refine (HH.out _).mono ?_; rintro e w' ⟨rfl, rfl⟩))
  exact bodyPost_ret (v := .agg #[.int .i64 (-1), .int .i64 (-1), .int .i64 (-1)]) (by simp [results, Try.results12, go_sem]) rfl ⟨rfl, below1 w _⟩
def put3 (S : Lk) (t a b c : Nat) : Lk := upd (upd (upd S (t * 3) a) (t * 3 + 1) b) (t * 3 + 2) c
theorem Has.put3 {w : World} {B : Nat} {S : Lk} (h : Has w B S) {t a b c : Nat} (ht : t < 64) (ha : a ≤ 64) (hb : b ≤ 64) (hc : c ≤ 64) :
    Has (((w.setCell ⟨B, t * 3, none⟩ (.int .i64 (a : Nat))).setCell ⟨B, t * 3 + 1, none⟩ (.int .i64 (b : Nat))).setCell ⟨B, t * 3 + 2, none⟩ (.int .i64 (c : Nat))) B (Ytlmgboggnljefaa.put3 S t a b c) :=
  ((h.set (by omega) ha).set (by omega) hb).set (by omega) hc
theorem turns3 (w : World) (B i j k : Nat) (x y z : Value) : Turns (fun b => b = B) w (((w.setCell ⟨B, i, none⟩ x).setCell ⟨B, j, none⟩ y).setCell ⟨B, k, none⟩ z) :=
  (((Turns.refl (fun b => b = B) w).setCell ⟨B, i, none⟩ x rfl).setCell ⟨B, j, none⟩ y rfl).setCell ⟨B, k, none⟩ z rfl
def pushed (S : Lk) (t : Nat) : Option Nat → Lk
  | some h => put3 S t (h + 1) 0 0
  | none => put3 S t 0 0 (t + 1)
/-- What is no thread, or a thread, as a number. -/
def Num (x : Int) : Option Nat → Prop
  | some t => x = (t : Int) ∧ t < 64
  | none => notT x
theorem num_any (x : Int) : ∃ o, Num x o := by
  by_cases h : 0 ≤ x ∧ x < 64
  · exact ⟨some x.toNat, by unfold Num; omega⟩
  · exact ⟨none, h⟩
theorem has_any (B : Nat) {x : Int} {o : Option Nat} (h : Num x o) (w : World) : Calls Try.prog 19 #[Pt B, .int .i64 x] w fun e w' => e = .returned (.bool o.isSome) ∧ w = w' := by
  cases o with
  | none => exact has_no B x h w
  | some t => obtain ⟨rfl, ht⟩ := h; exact has_yes B t ht w
theorem is_any {x : Int} {o : Option Nat} (h : Num x o) (w : World) : Calls Try.prog 20 #[.int .i64 x] w fun e w' => e = .returned (.bool o.isSome) ∧ w = w' := by
  cases o with
  | none => exact is_no x h w
  | some t => obtain ⟨rfl, ht⟩ := h; exact is_yes t ht w
theorem cast1 (t : Nat) : ((t + 1 : Nat) : Int) = (t : Int) + 1 := by omega
theorem cast0 : ((0 : Nat) : Int) = 0 := rfl
theorem push_some {w : World} {B : Nat} {S : Lk} (h : Has w B S) (t hd : Nat) (ht : t < 64) (hh : hd < 64) : Calls Try.prog 11 #[Pt B, .int .i64 (t : Int), .int .i64 (hd : Int)] w fun e w' => e = .returned (.tuple #[]) ∧ Has w' B (pushed S t (some hd)) ∧ Turns (fun k => k = B) w w' := by
  have h1 := has_yes B t ht
  have h2 := has_yes B hd hh
  have c0 := h.cell (t * 3) (by omega)
  have c1 := h.cell (t * 3 + 1) (by omega)
  have c2 := h.cell (t * 3 + 2) (by omega)
  have f0 := h.froz (t * 3) (by omega)
  have f1 := h.froz (t * 3 + 1) (by omega)
  have f2 := h.froz (t * 3 + 2) (by omega)
  have hp := h.put3 (t := t) (a := hd + 1) (b := 0) (c := 0) ht (by omega) (by omega) (by omega)
  rw [cast1, cast0] at hp
  have H1 := Lib.hid h1; have H2 := Lib.hid h2; have HP := Lib.hid hp
  clear h1 h2 hp h
  generalize S (t * 3) = x at *
  generalize S (t * 3 + 1) = y at *
  generalize S (t * 3 + 2) = z at *
  go_enter Try.func11, Try.ntmps11
  go_wp2_with fail
  refine (H1.out _).mono ?_
  rintro e w' ⟨rfl, rfl⟩
  go_wp2_with fail
  refine (H2.out _).mono ?_
  rintro e w' ⟨rfl, rfl⟩
  go_wp2_with fail
  (try simp only [Exit.inBlock, Exit.then]); refine bodyPost_ret (results_none rfl _ _ _) rfl ?_
  exact ⟨rfl, HP.out, turns3 _ _ _ _ _ _ _ _⟩
theorem push_none {w : World} {B : Nat} {S : Lk} (h : Has w B S) (t : Nat) (x : Int) (ht : t < 64) (hx : notT x) : Calls Try.prog 11 #[Pt B, .int .i64 (t : Int), .int .i64 x] w fun e w' => e = .returned (.tuple #[]) ∧ Has w' B (pushed S t none) ∧ Turns (fun k => k = B) w w' := by
  have h1 := has_yes B t ht
  have h2 := has_no B x hx
  have c0 := h.cell (t * 3) (by omega)
  have c1 := h.cell (t * 3 + 1) (by omega)
  have c2 := h.cell (t * 3 + 2) (by omega)
  have f0 := h.froz (t * 3) (by omega)
  have f1 := h.froz (t * 3 + 1) (by omega)
  have f2 := h.froz (t * 3 + 2) (by omega)
  have hp := h.put3 (t := t) (a := 0) (b := 0) (c := t + 1) ht (by omega) (by omega) (by omega)
  rw [cast1, cast0] at hp
  have H1 := Lib.hid h1; have H2 := Lib.hid h2; have HP := Lib.hid hp
  clear h1 h2 hp h
  generalize S (t * 3) = x' at *
  generalize S (t * 3 + 1) = y at *
  generalize S (t * 3 + 2) = z at *
  go_enter Try.func11, Try.ntmps11
  go_wp2_with fail
  refine (H1.out _).mono ?_
  rintro e w' ⟨rfl, rfl⟩
  go_wp2_with fail
  refine (H2.out _).mono ?_
  rintro e w' ⟨rfl, rfl⟩
  go_wp2_with fail
  go_end0
  exact ⟨rfl, HP.out, turns3 _ _ _ _ _ _ _ _⟩
theorem push_no {w : World} {B : Nat} (x y : Int) (hx : notT x) : Calls Try.prog 11 #[Pt B, .int .i64 x, .int .i64 y] w fun e w' => e = .returned (.tuple #[]) ∧ w = w' := by
  have h1 := has_no B x hx
  have H1 := Lib.hid h1
  clear h1
  go_enter Try.func11, Try.ntmps11
  go_wp2_with fail
  refine (H1.out _).mono ?_
  rintro e w' ⟨rfl, rfl⟩
  go_wp2_with fail
  (try simp only [Exit.inBlock, Exit.then]); refine bodyPost_ret (results_none rfl _ _ _) rfl ?_
  exact ⟨rfl, rfl⟩
theorem push_nil {w : World} (x y : Int) : Calls Try.prog 11 #[.pointer none, .int .i64 x, .int .i64 y] w fun e w' => e = .returned (.tuple #[]) ∧ w = w' := by
  have h1 := has_nil x
  have H1 := Lib.hid h1
  clear h1
  go_enter Try.func11, Try.ntmps11
  go_wp2_with fail
  refine (H1.out _).mono ?_
  rintro e w' ⟨rfl, rfl⟩
  go_wp2_with fail
  (try simp only [Exit.inBlock, Exit.then]); refine bodyPost_ret (results_none rfl _ _ _) rfl ?_
  exact ⟨rfl, rfl⟩
/-- What a push leaves. -/
def pushS (S : Lk) (t h : Option Nat) : Lk := match t with
  | some t => pushed S t h
  | none => S
def Sets (w w' : World) (B : Nat) (S : Lk) : Prop := Has w' B S ∧ Turns (fun k => k = B) w w'
theorem push_any {w : World} {B : Nat} {S : Lk} (h : Has w B S) {x y : Int} {t hd : Option Nat} (hx : Num x t) (hy : Num y hd) : Calls Try.prog 11 #[Pt B, .int .i64 x, .int .i64 y] w fun e w' => e = .returned (.tuple #[]) ∧ Sets w w' B (pushS S t hd) := by
  cases t with
  | none => exact (push_no x y hx).mono fun e w' ⟨he, hw⟩ => ⟨he, by subst hw; exact ⟨h, Turns.refl _ _⟩⟩
  | some t =>
    obtain ⟨rfl, ht⟩ := hx
    cases hd with
    | none => exact (push_none h t y ht hy).mono fun e w' ⟨he, h1, h2⟩ => ⟨he, h1, h2⟩
    | some d => obtain ⟨rfl, hd⟩ := hy; exact (push_some h t d ht hd).mono fun e w' ⟨he, h1, h2⟩ => ⟨he, h1, h2⟩
end Go.Proofs.Ytlmgboggnljefaa
