/- A new set; the chapter's examples. -/
import Derived.Test.YtlmgboggnljefaaB3
import Derived.Laws.Rows
namespace Go.Proofs.Ytlmgboggnljefaa
open Go.RowKit
def Z192 : Array Value := Array.replicate 192 (.int .i64 0)
theorem zero46 (w : World) : (zeroValue 46).run Try.prog w = .ok (.agg Z192) w := by kernel_rfl
theorem zero31 (w : World) : (zeroValue 31).run Try.prog w = .ok (.agg Z192) w := by kernel_rfl
/-- No links. -/
def S0 : Lk := fun _ => 0
theorem cell_row {w : World} {B : Nat} {cs : Array Value} {T : TypeId} (h : w.heap[B]? = some (.cells cs T (0, 0))) (o : Nat) : w.cell? ⟨B, o, none⟩ = cs[o]? := by
  simp [World.cell?, h]
theorem froz_row {w : World} {B : Nat} {cs : Array Value} {T : TypeId} (h : w.heap[B]? = some (.cells cs T (0, 0))) (o : Nat) : w.frozen? ⟨B, o, none⟩ = false := by
  simp [World.frozen?, h]
theorem z192 {i : Nat} (hi : i < 192) : Z192[i]? = some (.int .i64 0) := by
  unfold Z192
  rw [Array.getElem?_replicate, if_pos hi]
theorem has_row {w : World} {B : Nat} {T : TypeId} (hb : w.heap[B]? = some (.cells Z192 T (0, 0))) : Has w B S0 :=
  ⟨(Array.getElem?_eq_some_iff.1 hb).1, fun i hi => (cell_row hb i).trans (z192 hi), fun i _ => froz_row hb i, fun _ => Nat.zero_le _⟩
theorem has_zero (w : World) (T : TypeId) : Has (w.alloc (.cells Z192 T)) w.heap.size S0 := has_row (heap_alloc_new w _)
theorem new_any (w : World) : Calls Try.prog 8 #[] w fun e w' => e = .returned (Pt w.heap.size) ∧ Has w' w.heap.size S0 ∧ Below w.heap.size w w' := by
  have z := zero46
  go_enter Try.func8, Try.ntmps8
  go_wp2_with fail
  go_ret
  exact ⟨rfl, has_zero w 46, below1 w _⟩
section
variable {w : World} {B : Nat} {S S' : Lk} {x y v : Int} {o p : Option Nat} {r : Nat}
theorem push_lit (h : Has w B S) (hx : Num x o) (hy : Num y p) (e : pushS S o p = S') : Calls Try.prog 11 #[Pt B, .int .i64 x, .int .i64 y] w fun e w' => e = .returned (.tuple #[]) ∧ Sets w w' B S' := by
  subst e; exact push_any h hx hy
theorem seek_lit (h : Has w B S) (hx : Num x o) (e : (seekO S o).1 = S') (hr : (seekO S o).2 = r) (hv : (r : Int) - 1 = v) : Calls Try.prog 13 #[Pt B, .int .i64 x] w fun e w' => e = .returned (.int .i64 v) ∧ Sets w w' B S' := by
  subst e; subst hr; subst hv; exact (seek_any h hx).mono fun e w' ⟨he, h1, h2⟩ => ⟨he, h1, h2⟩
theorem cut_lit (h : Has w B S) (hx : Num x o) (hy : Num y p) (e : (cutO S o p).1 = S') (hr : (cutO S o p).2 = r) (hv : (r : Int) - 1 = v) : Calls Try.prog 14 #[Pt B, .int .i64 x, .int .i64 y] w fun e w' => e = .returned (.int .i64 v) ∧ Sets w w' B S' := by
  subst e; subst hr; subst hv; exact (cut_any h hx hy).mono fun e w' ⟨he, h1, h2⟩ => ⟨he, h1, h2⟩
end
def E1 : Lk := pushS S0 (some 4) none
def E2 : Lk := pushS E1 (some 2) (some 4)
def E3 : Lk := pushS E2 (some 7) (some 2)
def E4 : Lk := (seekO E3 (some 7)).1
def E5 : Lk := (cutO E4 (some 7) (some 4)).1
def E6 : Lk := (seekO E5 (some 7)).1
def E7 : Lk := (cutO E6 (some 7) (some 2)).1
def E8 : Lk := (cutO E7 (some 7) (some 7)).1
theorem r4 : (seekO E3 (some 7)).2 = 5 := by kernel_rfl
theorem r5 : (cutO E4 (some 7) (some 4)).2 = 3 := by kernel_rfl
theorem r6 : (seekO E5 (some 7)).2 = 3 := by kernel_rfl
theorem r7 : (cutO E6 (some 7) (some 2)).2 = 8 := by kernel_rfl
theorem r8 : (cutO E7 (some 7) (some 7)).2 = 0 := by kernel_rfl
theorem l4 : lnk E4 4 = .agg #[.int .i64 (-1), .int .i64 2, .int .i64 4] := by kernel_rfl
theorem at_lit {w : World} {B : Nat} {S : Lk} {v : Value} (h : Has w B S) (t : Nat) (ht : t < 64) (e : lnk S t = v) : Calls Try.prog 12 #[Pt B, .int .i64 (t : Int)] w fun e w' => e = .returned v ∧ Below w.heap.size w w' := by
  subst e; exact at_yes h t ht
theorem nm (t : Nat) (h : t < 64) : Num (t : Int) (some t) := ⟨rfl, h⟩
theorem nm1 : Num (-1) none := by unfold Num notT; omega
end Go.Proofs.Ytlmgboggnljefaa
