/- New of an Enter and an Own; what was got. -/
import Derived.Test.YthafnphpcdbnlaaGreatS15J
set_option linter.unusedVariables false
set_option linter.unusedSimpArgs false
namespace Go.Proofs.YthafnphpcdbnlaaGreat.S15
open Go.Proofs.YthafnphpcdbnlaaGreat Go.Proofs.YthafnphpcdbnlaaGreat.S11 Go.Proofs.YthafnphpcdbnlaaGreat.S12 Go.Proofs.YthafnphpcdbnlaaGreat.S13 Go.Proofs.YthafnphpcdbnlaaGreat.S14
open Go.RowKit

/-- One that begins: in new blocks. -/
def NewE (w w' : World) (o : Bool) (t kw : Nat) (v : Value) : Prop :=
  ∃ Z : Wb, v = Pw Z.B ∧ WayAt w' o t kw 0 Z ∧ Below w.heap.size w w' ∧ Z.i = 0 ∧ Z.st = false ∧ (w.heap.size ≤ Z.B ∧ w.heap.size ≤ Z.PB ∧ w.heap.size ≤ Z.KB ∧ w.heap.size ≤ Z.TB)
theorem alloc_lt {w : World} {ob : Obj} {B : Nat} (h : B < w.heap.size) : (w.alloc ob).heap[B]? = w.heap[B]? := Below.heap_alloc _ _ _ h
theorem alloc_size (w : World) (ob : Obj) : (w.alloc ob).heap.size = w.heap.size + 1 := by simp
theorem alloc_at {w : World} {ob : Obj} {B : Nat} (h : B = w.heap.size) : (w.alloc ob).heap[B]? = some ob := by
  subst h
  exact heap_alloc_new w ob
set_option maxRecDepth 100000 in
set_option maxHeartbeats 4000000 in
theorem new_enter (t key : Nat) (ht : t < 64) (hk : key < 4294967296) (w : World) : Calls Tryz.prog 14 #[.int .i64 (t : Int), .int .u32 (key : Int)] w fun e w' => ∃ v, e = .returned v ∧ NewE w w' false t key v := by
  have hit := fun W => isT_any (t : Int) W
  rw [decide_eq_true (show 0 ≤ (t : Int) ∧ (t : Int) < 64 by omega)] at hit
  have HIT := Lib.hid hit
  have e1 : IntKind.u64.wrap (key : Int) = (key : Int) := by rw [IntKind.wrap_u64]; omega
  clear hit ht hk
  go_enter Tryz.func14, Tryz.ntmps14
  go_upto_region 4 with (go_at_call 39; refine (HIT.out _).mono ?_; rintro e w1 ⟨rfl, rfl⟩)
  go_wp2_with fail
  go_ret
  refine ⟨_, rfl, ⟨w.heap.size + 1 + 1 + 1, w.heap.size + 1 + 1, w.heap.size, w.heap.size + 1, 0, false, 0, 0, .nilIface⟩, rfl, ⟨?_, ⟨169, ?_⟩, ?_, ?_, ?_⟩, ?_, rfl, rfl, ⟨?_, ?_, ?_, ?_⟩⟩
  · exact alloc_at (by simp only [alloc_size])
  · rw [alloc_lt (by simp only [alloc_size]; omega)]
    exact alloc_at (by simp only [alloc_size])
  · rw [alloc_lt (by simp only [alloc_size]; omega), alloc_lt (by simp only [alloc_size]; omega), alloc_lt (by simp only [alloc_size]; omega)]
    exact heap_alloc_new _ _
  · rw [alloc_lt (by simp only [alloc_size]; omega), alloc_lt (by simp only [alloc_size]; omega)]
    exact alloc_at (by simp only [alloc_size])
  · show w.heap.size ≠ w.heap.size + 1; omega
  · exact (((below1 w _).alloc (by simp only [alloc_size]; omega) _).alloc (by simp only [alloc_size]; omega) _).alloc (by simp only [alloc_size]; omega) _
  · show w.heap.size ≤ w.heap.size + 1 + 1 + 1; omega
  · show w.heap.size ≤ w.heap.size + 1 + 1; omega
  · exact Nat.le_refl _
  · show w.heap.size ≤ w.heap.size + 1; omega
set_option maxRecDepth 100000 in
set_option maxHeartbeats 4000000 in
theorem new_own (t : Nat) (ht : t < 64) (w : World) : Calls Tryz.prog 27 #[.int .i64 (t : Int)] w fun e w' => ∃ v, e = .returned v ∧ NewE w w' true t 0 v := by
  have hit := fun W => isT_any (t : Int) W
  rw [decide_eq_true (show 0 ≤ (t : Int) ∧ (t : Int) < 64 by omega)] at hit
  have HIT := Lib.hid hit
  have e1 : IntKind.u32.wrap (t : Int) = (t : Int) := by rw [IntKind.wrap_u32]; omega
  obtain ⟨a, ha⟩ : ∃ a, a = 64 + t := ⟨_, rfl⟩
  have e2 : IntKind.u32.wrap (64 + (t : Int)) = ((a : Nat) : Int) := by rw [IntKind.wrap_u32]; omega
  have HA := Lib.hid ha
  clear hit ht ha
  go_enter Tryz.func27, Tryz.ntmps27
  go_upto_region 4 with (go_at_call 39; refine (HIT.out _).mono ?_; rintro e w1 ⟨rfl, rfl⟩)
  go_wp2_with fail
  go_ret
  have hk : kyA true t = a := HA.out.symm
  refine ⟨_, rfl, ⟨w.heap.size + 1 + 1 + 1, w.heap.size + 1 + 1, w.heap.size, w.heap.size + 1, 0, false, 0, 0, .nilIface⟩, rfl, ⟨?_, ⟨169, ?_⟩, ?_, ?_, ?_⟩, ?_, rfl, rfl, ⟨?_, ?_, ?_, ?_⟩⟩
  · exact alloc_at (by simp only [alloc_size])
  · rw [alloc_lt (by simp only [alloc_size]; omega)]
    exact alloc_at (by simp only [alloc_size])
  · rw [alloc_lt (by simp only [alloc_size]; omega), alloc_lt (by simp only [alloc_size]; omega), alloc_lt (by simp only [alloc_size]; omega), hk]
    exact heap_alloc_new _ _
  · rw [alloc_lt (by simp only [alloc_size]; omega), alloc_lt (by simp only [alloc_size]; omega)]
    exact alloc_at (by simp only [alloc_size])
  · show w.heap.size ≠ w.heap.size + 1; omega
  · exact (((below1 w _).alloc (by simp only [alloc_size]; omega) _).alloc (by simp only [alloc_size]; omega) _).alloc (by simp only [alloc_size]; omega) _
  · show w.heap.size ≤ w.heap.size + 1 + 1 + 1; omega
  · show w.heap.size ≤ w.heap.size + 1 + 1; omega
  · exact Nat.le_refl _
  · show w.heap.size ≤ w.heap.size + 1; omega
/-- Nothing, as a thing beside others. -/
def noP : Part where
  ok _ := True
  fp _ := False
  lt _ _ _ e := e.elim
  kept _ _ _ _ _ _ := trivial
section
variable {w0 w w' : World} {base WB : Nat} {M : Sd} {r : List Part} {j u U : Nat} {o : Bool} {t kw tw : Nat} {Z : Wb} {X : Wm} {E : En}
theorem Pg.push1 (h : Pg w0 w base WB M r X) (q : Part) (b : Below w.heap.size w w') (hq : q.ok w') (hf : ∀ k, q.fp k → w.heap.size ≤ k) : Pg w0 w' base WB M (r ++ [q]) X := by
  have hp := h.ps.push q b hq hf
  rw [List.append_assoc] at hp
  exact ⟨hp, h.wB, h.xm, h.bl.trans (b.mono h.ps.size)⟩
/-- One that begins, beside the world. -/
theorem Pg.enter (h : Pg w0 w base WB M r X) {v : Value} (hn : NewE w w' o t kw v) : ∃ Z : Wb, v = Pw Z.B ∧ Z.i = 0 ∧ Z.st = false ∧ Wy w0 w' base WB M (r ++ [noP, noP]) r.length o t kw 0 Z X := by
  obtain ⟨Z, rfl, ha, hb, hi, hs, h1, h2, h3, h4⟩ := hn
  refine ⟨Z, rfl, hi, hs, ?_, by rw [List.length_append]; show r.length < r.length + 2; omega⟩
  have g1 := Pg.push1 h (wayP o t kw 0 Z) hb ha (fun k hk => by
    rcases hk with rfl | rfl | rfl | rfl
    · exact h1
    · exact h2
    · exact h3
    · exact h4)
  have g2 := Pg.push1 g1 noP (Below.refl _ _) trivial (fun k e => e.elim)
  rw [List.append_assoc] at g2
  rw [List.set_append_right _ _ (Nat.le_refl _), Nat.sub_self]
  exact g2
theorem Wy.begins (h : Wy w0 w base WB M (r ++ [noP, noP]) r.length o t kw tw Z X) (hi : Z.i = 0) (hs : Z.st = false) {E : En} (e1 : E.ow = o) (e2 : E.t = t) (e3 : E.kw = kw) (e4 : E.tw = tw) (el : E.ln = if o then 1 else 2) : Ew w0 w base WB M (r ++ [noP, noP]) r.length (r.length + 1) E Z X := by
  obtain ⟨o', ln, t', kw', tw', K, F⟩ := E
  have e1' : o' = o := e1
  have e2' : t' = t := e2
  have e3' : kw' = kw := e3
  have e4' : tw' = tw := e4
  have el' : ln = if o then 1 else 2 := el
  subst e1' e2' e3' e4' el'
  cases o'
  · exact ⟨h, by omega, by rw [List.length_append]; show r.length + 1 < r.length + 2; omega, hi, hs, fun e => absurd e (by show ¬ 2 = 3; omega), fun e => absurd e (by show ¬ 2 = 6; omega), fun e => absurd e (by show ¬ (3 ≤ 2 ∨ 2 = 0); omega)⟩
  · exact ⟨h, by omega, by rw [List.length_append]; show r.length + 1 < r.length + 2; omega, hi, hs, fun e => absurd e (by show ¬ 1 = 3; omega), fun e => absurd e (by show ¬ 1 = 6; omega), fun e => absurd e (by show ¬ (3 ≤ 1 ∨ 1 = 0); omega)⟩
end
end Go.Proofs.YthafnphpcdbnlaaGreat.S15
