/- Texts of this seat, one behind the other. -/
import Derived.Test.YtlflagjnlclffaaGreatMLawPlay1313
import Derived.WalkMore
import Derived.ScopeJumps
import Derived.RegionTactic
import Derived.StillTailTactics
set_option linter.unusedVariables false
set_option linter.unusedSimpArgs false
namespace Go.Proofs.YtlflagjnlclffaaGreat.S5
open Go.Proofs.YtlflagjnlclffaaGreat
open Go.RowKit

end Go.Proofs.YtlflagjnlclffaaGreat.S5
namespace Go.Proofs.YtlflagjnlclffaaGreat.S5
open Go.Proofs.YtlflagjnlclffaaGreat
open Go.RowKit

end Go.Proofs.YtlflagjnlclffaaGreat.S5
namespace Go.Proofs.YtlflagjnlclffaaGreat.S5
open Go.Proofs.YtlflagjnlclffaaGreat
open Go.RowKit

theorem Has.same {w : World} {B : Nat} {S T : Lk} (h : Has w B S) (e : ∀ i, S i = T i) : Has w B T := by
  have : S = T := funext e
  rw [← this]; exact h
def lnk3 (S : Lk) (t : Nat) : Value := .tuple #[.int .i64 ((S (t * 3) : Int) - 1), .int .i64 ((S (t * 3 + 1) : Int) - 1), .int .i64 ((S (t * 3 + 2) : Int) - 1)]
theorem below0 (w : World) : Below w.heap.size w w.drew := ⟨rfl, rfl, rfl, Nat.le_refl _, fun _ _ => rfl⟩
theorem rat_yes {w : World} {B : Nat} {S : Lk} (h : Has w B S) (t : Nat) (ht : t < 64) : Calls Tryz.prog 69 #[Pt B, .int .i64 (t : Int)] w fun e w' => e = .returned (lnk3 S t) ∧ Below w.heap.size w w' := by
  unfold lnk3
  have hh := is_yes t ht
  have c0 := h.cell (t * 3) (by omega)
  have c1 := h.cell (t * 3 + 1) (by omega)
  have c2 := h.cell (t * 3 + 2) (by omega)
  have l0 := h.le (t * 3)
  have l1 := h.le (t * 3 + 1)
  have l2 := h.le (t * 3 + 2)
  have HH := Lib.hid hh
  clear hh h
  generalize S (t * 3) = x at *
  generalize S (t * 3 + 1) = y at *
  generalize S (t * 3 + 2) = z at *
  go_enter Tryz.func69, Tryz.ntmps69
  go_wp2_with fail
  refine (HH.out _).mono ?_
  rintro e w' ⟨rfl, rfl⟩
  go_wp2_with fail
  go_region
  all_goals
    go_wp2_with fail
    go_ret3
    exact ⟨rfl, below0 w⟩
theorem put3_put3 (S : Lk) (t a b c x y z : Nat) (i : Nat) : put3 (put3 S t a b c) t x y z i = put3 S t x y z i := by
  unfold put3 upd
  by_cases e2 : i = t * 3 + 2
  · simp only [if_pos e2]
  · by_cases e1 : i = t * 3 + 1
    · simp only [if_neg e2, if_pos e1]
    · by_cases e0 : i = t * 3
      · simp only [if_neg e2, if_neg e1, if_pos e0]
      · simp only [if_neg e2, if_neg e1, if_neg e0]
theorem rpush_no {w : World} {B : Nat} (x y : Int) (hx : notT x) : Calls Tryz.prog 112 #[Pt B, .int .i64 x, .int .i64 y] w fun e w' => e = .returned (.tuple #[]) ∧ w = w' := by
  have h1 := is_no x hx
  have H1 := Lib.hid h1
  clear h1
  go_enter Tryz.func112, Tryz.ntmps112
  go_wp2_with fail
  refine (H1.out _).mono ?_
  rintro e w' ⟨rfl, rfl⟩
  go_wp2_with fail
  (try simp only [Exit.inBlock, Exit.then]); refine bodyPost_ret (results_none rfl _ _ _) rfl ?_
  exact ⟨rfl, rfl⟩
theorem rpush_none {w : World} {B : Nat} {S : Lk} (h : Has w B S) (t : Nat) (x : Int) (ht : t < 64) (hx : notT x) : Calls Tryz.prog 112 #[Pt B, .int .i64 (t : Int), .int .i64 x] w fun e w' => e = .returned (.tuple #[]) ∧ Sets w w' B (pushed S t none) := by
  have h1 := is_yes t ht
  have h2 := is_no x hx
  have c0 := h.cell (t * 3) (by omega)
  have c1 := h.cell (t * 3 + 1) (by omega)
  have c2 := h.cell (t * 3 + 2) (by omega)
  have f0 := h.froz (t * 3) (by omega)
  have f1 := h.froz (t * 3 + 1) (by omega)
  have f2 := h.froz (t * 3 + 2) (by omega)
  have hp := h.put3 (t := t) (a := 0) (b := 0) (c := t + 1) ht (by omega) (by omega) (by omega)
  rw [cast1, cast0] at hp
  have H1 := Lib.hid h1; have H2 := Lib.hid h2; have HP := Lib.hid hp
  clear h1 h2 hp h
  generalize S (t * 3) = x' at *
  generalize S (t * 3 + 1) = y at *
  generalize S (t * 3 + 2) = z at *
  go_enter Tryz.func112, Tryz.ntmps112
  go_wp2_with fail
  refine (H1.out _).mono ?_
  rintro e w' ⟨rfl, rfl⟩
  go_wp2_with fail
  refine (H2.out _).mono ?_
  rintro e w' ⟨rfl, rfl⟩
  go_wp2_with fail
  go_end0
  exact ⟨rfl, HP.out, turns3 _ _ _ _ _ _ _ _⟩
theorem rpush_some {w : World} {B : Nat} {S : Lk} (h : Has w B S) (t hd : Nat) (ht : t < 64) (hh : hd < 64) : Calls Tryz.prog 112 #[Pt B, .int .i64 (t : Int), .int .i64 (hd : Int)] w fun e w' => e = .returned (.tuple #[]) ∧ Sets w w' B (pushed S t (some hd)) := by
  have h1 := is_yes t ht
  have h2 := is_yes hd hh
  have c0 := h.cell (t * 3) (by omega)
  have c1 := h.cell (t * 3 + 1) (by omega)
  have c2 := h.cell (t * 3 + 2) (by omega)
  have f0 := h.froz (t * 3) (by omega)
  have f1 := h.froz (t * 3 + 1) (by omega)
  have f2 := h.froz (t * 3 + 2) (by omega)
  have hp := h.put3 (t := t) (a := 0) (b := 0) (c := t + 1) ht (by omega) (by omega) (by omega)
  rw [cast1, cast0] at hp
  have h9 := turns3 w B (t * 3) (t * 3 + 1) (t * 3 + 2) (.int .i64 0) (.int .i64 0) (.int .i64 ((t : Int) + 1))
  have H1 := Lib.hid h1; have H2 := Lib.hid h2; have HP := Lib.hid hp; have H9 := Lib.hid h9
  clear h1 h2 hp h h9
  generalize S (t * 3) = x' at *
  generalize S (t * 3 + 1) = y at *
  generalize S (t * 3 + 2) = z at *
  go_enter Tryz.func112, Tryz.ntmps112
  go_wp2_with fail
  refine (H1.out _).mono ?_
  rintro e w' ⟨rfl, rfl⟩
  go_wp2_with fail
  generalize ((w.setCell { block := B, off := t * 3 } (Value.int IntKind.i64 0)).setCell { block := B, off := t * 3 + 1 } (Value.int IntKind.i64 0)).setCell { block := B, off := t * 3 + 2 } (Value.int IntKind.i64 ((t : Int) + 1)) = wb at *
  clear c0 c1 c2 f0 f1 f2
  refine (H2.out _).mono ?_
  rintro e w' ⟨rfl, rfl⟩
  have h := HP.out
  have c0 := h.cell (t * 3) (by omega)
  have c1 := h.cell (t * 3 + 1) (by omega)
  have c2 := h.cell (t * 3 + 2) (by omega)
  have f0 := h.froz (t * 3) (by omega)
  have f1 := h.froz (t * 3 + 1) (by omega)
  have f2 := h.froz (t * 3 + 2) (by omega)
  have hq := h.put3 (t := t) (a := hd + 1) (b := 0) (c := 0) ht (by omega) (by omega) (by omega)
  rw [cast1, cast0] at hq
  have HQ := Lib.hid (hq.same (put3_put3 _ _ _ _ _ _ _ _))
  clear hq h
  generalize put3 S t 0 0 (t + 1) (t * 3) = x' at *
  generalize put3 S t 0 0 (t + 1) (t * 3 + 1) = y at *
  generalize put3 S t 0 0 (t + 1) (t * 3 + 2) = z at *
  go_wp2_with fail
  go_end0
  exact ⟨rfl, HQ.out, H9.out.trans (turns3 _ B _ _ _ _ _ _) (fun _ _ e => e)⟩
theorem rpush_any {w : World} {B : Nat} {S : Lk} (h : Has w B S) {x y : Int} {t hd : Option Nat} (hx : Num x t) (hy : Num y hd) : Calls Tryz.prog 112 #[Pt B, .int .i64 x, .int .i64 y] w fun e w' => e = .returned (.tuple #[]) ∧ Sets w w' B (pushS S t hd) := by
  cases t with
  | none => exact (rpush_no x y hx).mono fun e w' ⟨he, hw⟩ => ⟨he, by subst hw; exact ⟨h, Turns.refl _ _⟩⟩
  | some t =>
    obtain ⟨rfl, ht⟩ := hx
    cases hd with
    | none => exact rpush_none h t y ht hy
    | some d => obtain ⟨rfl, hd⟩ := hy; exact rpush_some h t d ht hd
end Go.Proofs.YtlflagjnlclffaaGreat.S5
namespace Go.Proofs.YtlflagjnlclffaaGreat.S5
open Go.Proofs.YtlflagjnlclffaaGreat
open Go.RowKit

end Go.Proofs.YtlflagjnlclffaaGreat.S5
namespace Go.Proofs.YtlflagjnlclffaaGreat.S5
open Go.Proofs.YtlflagjnlclffaaGreat
open Go.RowKit

end Go.Proofs.YtlflagjnlclffaaGreat.S5
namespace Go.Proofs.YtlflagjnlclffaaGreat.S5
open Go.Proofs.YtlflagjnlclffaaGreat
open Go.RowKit
def Z192 : Array Value := Array.replicate 192 (.int .i64 0)
theorem zero46 (w : World) : (zeroValue 267).run Tryz.prog w = .ok (.agg Z192) w := by kernel_rfl
def S0 : Lk := fun _ => 0
theorem cell_row {w : World} {B : Nat} {cs : Array Value} {T : TypeId} (h : w.heap[B]? = some (.cells cs T (0, 0))) (o : Nat) : w.cell? ⟨B, o, none⟩ = cs[o]? := by
  simp [World.cell?, h]
theorem froz_row {w : World} {B : Nat} {cs : Array Value} {T : TypeId} (h : w.heap[B]? = some (.cells cs T (0, 0))) (o : Nat) : w.frozen? ⟨B, o, none⟩ = false := by
  simp [World.frozen?, h]
theorem z192 {i : Nat} (hi : i < 192) : Z192[i]? = some (.int .i64 0) := by
  unfold Z192
  rw [Array.getElem?_replicate, if_pos hi]
theorem has_row {w : World} {B : Nat} {T : TypeId} (hb : w.heap[B]? = some (.cells Z192 T (0, 0))) : Has w B S0 :=
  ⟨(Array.getElem?_eq_some_iff.1 hb).1, fun i hi => (cell_row hb i).trans (z192 hi), fun i _ => froz_row hb i, fun _ => Nat.zero_le _⟩
theorem has_zero (w : World) (T : TypeId) : Has (w.alloc (.cells Z192 T)) w.heap.size S0 := has_row (heap_alloc_new w _)
theorem new_any (w : World) : Calls Tryz.prog 83 #[] w fun e w' => e = .returned (Pt w.heap.size) ∧ Has w' w.heap.size S0 ∧ Below w.heap.size w w' := by
  have z := zero46
  go_enter Tryz.func83, Tryz.ntmps83
  go_wp2_with fail
  go_ret
  exact ⟨rfl, has_zero w 267, below1 w _⟩
section
variable {w : World} {B : Nat} {S S' : Lk} {x y v : Int} {o p : Option Nat} {r : Nat}
end
theorem nm (t : Nat) (h : t < 64) : Num (t : Int) (some t) := ⟨rfl, h⟩
theorem nm1 : Num (-1) none := by unfold Num notT; omega
end Go.Proofs.YtlflagjnlclffaaGreat.S5
