/- The chapter's examples. -/
import Derived.Test.YtlmgboggnljefaaC1
namespace Go.Proofs.Ytlmgboggnljefaa
open Go.RowKit

theorem eq38 (a b c x y z : Int) (w : World) : (binOp .eql 38 (.agg #[.int .i64 a, .int .i64 b, .int .i64 c]) (.agg #[.int .i64 x, .int .i64 y, .int .i64 z])).run Try.prog w = .ok (.bool ((a == x) && ((b == y) && (c == z)))) w := by
  simp [go_sem, Try.underlying38]
  by_cases h1 : a = x <;> by_cases h2 : b = y <;> by_cases h3 : c = z <;> simp [h1, h2, h3]
theorem neq38 (a b c x y z : Int) (w : World) : (binOp .neq 38 (.agg #[.int .i64 a, .int .i64 b, .int .i64 c]) (.agg #[.int .i64 x, .int .i64 y, .int .i64 z])).run Try.prog w = .ok (.bool (!((a == x) && ((b == y) && (c == z))))) w := by
  simp [go_sem, Try.underlying38]
  by_cases h1 : a = x <;> by_cases h2 : b = y <;> by_cases h3 : c = z <;> simp [h1, h2, h3]
/-- A set of a call's own: it lies from base on, and nothing ahead of base has turned. -/
structure Own (w0 w : World) (B : Nat) (S : Lk) : Prop where
  has : Has w B S
  ge : w0.heap.size ≤ B
  below : Below w0.heap.size w0 w
theorem Own.next {w0 w w' : World} {B : Nat} {S S' : Lk} (h : Own w0 w B S) (s : Sets w w' B S') : Own w0 w' B S' :=
  ⟨s.1, h.ge, h.below.trans (s.2.below h.below.size (fun k hk e => by have := h.ge; omega))⟩
theorem Own.new {w0 w w' : World} {B : Nat} {S : Lk} (h : Own w0 w B S) (b : Below w.heap.size w w') : Own w0 w' B S :=
  ⟨h.has.new b, h.ge, h.below.trans (b.mono h.below.size)⟩
theorem Own.drew {w0 w : World} {B : Nat} {S : Lk} (h : Own w0 w B S) : Own w0 w.drew B S := h.new (below0 w)
theorem Turns.cellRow {P : Nat → Prop} {w w' : World} {g : Nat} {o : Obj} (t : Turns P w w') (h : w.heap[g]? = some o) (hn : ¬ P g) : w'.heap[g]? = some o :=
  (t.block g (Array.getElem?_eq_some_iff.1 h).1 hn).trans h
theorem lives_any (w : World) : Calls Try.prog 7 #[] w fun e w' => e = .returned (.bool true) ∧ Below w.heap.size w w' := by
  have hnew := new_any w
  have HN := Lib.hid hnew
  clear hnew
  go_enter Try.func7, Try.ntmps7
  go_wp2_with fail
  refine HN.out.mono ?_
  rintro e w1 ⟨rfl, h1, b1⟩
  have O1 := Lib.hid (Own.mk h1 (Nat.le_refl _) b1)
  clear h1 b1
  generalize w.heap.size = B at *
  go_wp2_with fail
  refine (push_lit (S' := E1) O1.out.has (nm 4 (by decide)) nm1 rfl).mono ?_
  rintro e w2 ⟨rfl, s2⟩
  have O2 := Lib.hid (O1.out.next s2)
  clear s2
  go_wp2_with fail
  refine (push_lit (S' := E2) O2.out.has (nm 2 (by decide)) (nm 4 (by decide)) rfl).mono ?_
  rintro e w3 ⟨rfl, s3⟩
  have O3 := Lib.hid (O2.out.next s3)
  clear s3
  go_wp2_with fail
  refine (push_lit (S' := E3) O3.out.has (nm 7 (by decide)) (nm 2 (by decide)) rfl).mono ?_
  rintro e w4 ⟨rfl, s4⟩
  have O4 := Lib.hid (O3.out.next s4)
  clear s4
  go_wp2_with fail
  refine (seek_lit (S' := E4) (v := 4) O4.out.has (nm 7 (by decide)) rfl r4 (by decide)).mono ?_
  rintro e w5 ⟨rfl, s5⟩
  have O5 := Lib.hid (O4.out.next s5)
  clear s5
  go_wp2_with fail
  refine (at_lit O5.out.has 4 (by decide) l4).mono ?_
  rintro e w6 ⟨rfl, b6⟩
  have O6 := Lib.hid (O5.out.new b6)
  clear b6
  have o7 := O6.out.new (below1 w6 (.cells #[.int .i64 (-1), .int .i64 2, .int .i64 4] 38))
  have g7 := heap_alloc_new w6 (.cells #[.int .i64 (-1), .int .i64 2, .int .i64 4] 38)
  have hg := O6.out.has.lt
  have O7 := Lib.hid o7; have G7 := Lib.hid g7
  clear o7 g7
  go_wp2_with fail
  generalize w6.alloc (.cells #[.int .i64 (-1), .int .i64 2, .int .i64 4] 38) = w7 at *
  generalize w6.heap.size = g at *
  refine (cut_lit (S' := E5) (v := 2) O7.out.has (nm 7 (by decide)) (nm 4 (by decide)) rfl r5 (by decide)).mono ?_
  rintro e w8 ⟨rfl, s8⟩
  have O8 := Lib.hid (O7.out.next s8); have G8 := Lib.hid (s8.2.cellRow G7.out (by omega))
  clear s8
  go_wp2_with fail
  refine (seek_lit (S' := E6) (v := 2) O8.out.has (nm 7 (by decide)) rfl r6 (by decide)).mono ?_
  rintro e w9 ⟨rfl, s9⟩
  have O9 := Lib.hid (O8.out.next s9); have G9 := Lib.hid (s9.2.cellRow G8.out (by omega))
  clear s9
  go_wp2_with fail
  refine (cut_lit (S' := E7) (v := 7) O9.out.has (nm 7 (by decide)) (nm 2 (by decide)) rfl r7 (by decide)).mono ?_
  rintro e wa ⟨rfl, sa⟩
  have OA := Lib.hid (O9.out.next sa); have GA := Lib.hid (sa.2.cellRow G9.out (by omega))
  clear sa
  have c0 : wa.cell? ⟨g, 0, none⟩ = some (.int .i64 (-1)) := cell_row GA.out 0
  have c1 : wa.cell? ⟨g, 1, none⟩ = some (.int .i64 2) := cell_row GA.out 1
  have c2 : wa.cell? ⟨g, 2, none⟩ = some (.int .i64 4) := cell_row GA.out 2
  have q := eq38 (-1) 2 4 (-1) 2 4
  go_wp2_with fail
  refine (cut_lit (S' := E8) (v := -1) OA.out.has (nm 7 (by decide)) (nm 7 (by decide)) rfl r8 (by decide)).mono ?_
  rintro e wb ⟨rfl, sb⟩
  have OB := Lib.hid (OA.out.next sb)
  clear sb
  go_wp2_with fail
  go_ret
  exact ⟨rfl, OB.out.below⟩
end Go.Proofs.Ytlmgboggnljefaa
