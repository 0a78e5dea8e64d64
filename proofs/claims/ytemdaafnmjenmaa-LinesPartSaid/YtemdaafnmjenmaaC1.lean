/- Clip, Grow from nothing, Concat of two. -/
import Derived.Test.YtemdaafnmjenmaaB5
import Derived.Lib.AppendZerosOnto
import Derived.Lib.Walk
namespace Go.Proofs.Ytemdaafnmjenmaa
open Go.RowKit

theorem clip_any (A : Option Addr) (n cap : Nat) (w : World) (h : n ≤ cap) (hc : cap ≤ 9223372036854775807) : Calls Try.prog 35 #[.slice A n cap] w fun e w' => e = .returned (.slice A n n) ∧ w = w' := by
  go_enter Try.func35, Try.ntmps35
  go_wp2
  go_ret
  exact ⟨by simp, rfl⟩
theorem grow_zero (w : World) : Calls Try.prog 37 #[.slice none 0 0, .int .i64 ((0 : Nat) : Int)] w fun e w' => ∃ s, e = .returned s ∧ Row w' w.heap.size 3 s 0 [] ∧ Below w.heap.size w w' := by
  go_enter Try.func37, Try.ntmps37
  go_wp2
  go_ret
  exact ⟨_, rfl, row_nil _ _ _, Below.refl _ _⟩
theorem row_zeros (w : World) (cc : Nat) (h : cc ≤ maxLen) (k : Nat) (hk : k ≤ cc) : Row (w.alloc (.cells (Builtin.zeroCells #[Value.int .i64 0, .int .u32 0, .int .u64 0] k ++ Builtin.zeroCells #[Value.int .i64 0, .int .u32 0, .int .u64 0] (cc - k)) 36)).drew w.heap.size 3 (.slice (some ⟨w.heap.size, 0, none⟩) 0 cc) 0 [] := by
  refine ⟨_, cc, rfl, by simp, Nat.zero_le _, h, (fun e => by cases e), fun ad e => ?_⟩
  cases e
  have hnew := heap_alloc_new w (.cells (Builtin.zeroCells #[Value.int .i64 0, .int .u32 0, .int .u64 0] k ++ Builtin.zeroCells #[Value.int .i64 0, .int .u32 0, .int .u64 0] (cc - k)) 36)
  refine ⟨w.heap.size, 0, rfl, Nat.le_refl _, by simp, fun j u e => by simp at e, fun j hj => ⟨?_, froz_row (w := (w.alloc _).drew) hnew _⟩⟩
  rw [cell_row (w := (w.alloc _).drew) hnew, Nat.zero_add]
  have hs : (Builtin.zeroCells #[Value.int .i64 0, .int .u32 0, .int .u64 0] k ++ Builtin.zeroCells #[Value.int .i64 0, .int .u32 0, .int .u64 0] (cc - k)).size = cc * 3 := by
    rw [Array.size_append, size_zeroCells, size_zeroCells]
    simp
    omega
  rw [Array.getElem?_eq_getElem (by rw [hs]; exact hj)]; rfl
set_option maxHeartbeats 1000000 in
theorem grow_some (w : World) (m : Nat) (h0 : 0 < m) (hm : m ≤ 10000) : Calls Try.prog 37 #[.slice none 0 0, .int .i64 (m : Int)] w fun e w' => ∃ s, e = .returned s ∧ Row w' w.heap.size 3 s 0 [] ∧ Below w.heap.size w w' := by
  obtain ⟨i, hi, hz, hsz, hby⟩ := lay36.info
  have hrz : ∀ ty, (Builtin.append_ #[22, 3] ty #[.slice none 0 0, .int .i64 (m : Int)]).run Try.prog w =
      .ok (.slice (some ⟨w.heap.size, 0, none⟩) m (grownCap w m 0 36)) (w.drew.alloc (.cells (([] : List Value).toArray ++ Builtin.zeroCells (Value.agg #[.int .i64 0, .int .u32 0, .int .u64 0]).cells m ++ Builtin.zeroCells (Value.agg #[.int .i64 0, .int .u32 0, .int .u64 0]).cells (grownCap w m 0 36 - m)) 36)) := fun ty => by
    have h := Lib.run_append_grow_zeros w 22 3 ty 36 i _ .i64 .i64 Try.underlying22 Try.underlying3 hi hz none 0 0 [] (run_firstCells_none w.drew i.size 0 0 0) m h0 (by rw [hsz]; omega) (by omega) (by omega)
      (by rw [hby]; omega) (growslice_fits (by omega) (by rw [hby]; omega))
    simpa only [Nat.zero_add] using h
  have hG := grownCap_ge w m 0 36
  have hG2 := grownCap_le_maxLen w m 0 36 (by unfold maxLen; omega)
  generalize grownCap w m 0 36 = G at *
  have hrow := row_zeros w G hG2 m hG
  have HROW := Lib.hid hrow
  unfold maxLen at hG2
  clear hrow hi hz
  go_enter Try.func37, Try.ntmps37
  go_wp2_with (at_builtin; refine Lib.wpList_append_run _ rfl _ _ _ _ rfl _ _ rfl rfl _ _ (hrz _) ?_)
  go_ret
  exact ⟨.slice (some ⟨w.heap.size, 0, none⟩) 0 G, rfl, HROW.out, (below1 w _).drew⟩
theorem grow_any (w : World) (m : Nat) (hm : m ≤ 10000) : Calls Try.prog 37 #[.slice none 0 0, .int .i64 (m : Int)] w fun e w' => ∃ s, e = .returned s ∧ Row w' w.heap.size 3 s 0 [] ∧ Below w.heap.size w w' := by
  rcases Nat.eq_zero_or_pos m with rfl | h
  · exact grow_zero w
  · exact grow_some w m h hm
set_option maxHeartbeats 2000000 in
theorem concat_any {w : World} {b1 b2 B : Nat} {A A2 : Option Addr} {D E : List Ent} {c c2 : Nat} (hB : w.heap[B]? = some (.cells #[.slice A D.length c, .slice A2 E.length c2] 22 (0, 0))) (hr1 : Rd w b1 A (flat D)) (hr2 : Rd w b2 A2 (flat E)) (hb1 : b1 ≤ w.heap.size) (hb2 : b2 ≤ w.heap.size) (hD : D.length ≤ 2000) (hE : E.length ≤ 2000) :
    Calls Try.prog 36 #[.slice (some ⟨B, 0, none⟩) 2 2] w fun e w' => ∃ s, e = .returned s ∧ RowE w' w.heap.size s (D ++ E) ∧ Below w.heap.size w w' := by
  have hBl : B < w.heap.size := (Array.getElem?_eq_some_iff.1 hB).1
  have x0 : w.cell? ⟨B, 0, none⟩ = some (.slice A D.length c) := cell_row hB 0
  have x1 : w.cell? ⟨B, 1, none⟩ = some (.slice A2 E.length c2) := cell_row hB 1
  have hg := grow_any w (D.length + E.length) (by omega)
  rw [show ((D.length + E.length : Nat) : Int) = (D.length : Int) + (E.length : Int) by omega] at hg
  have HG := Lib.hid hg; have H1 := Lib.hid hr1; have H2 := Lib.hid hr2; have HS1 := Lib.hid hb1; have HS2 := Lib.hid hb2; have HX0 := Lib.hid x0; have HX1 := Lib.hid x1
  have hl1 := flat_len D
  have hl2 := flat_len E
  have HL1 := Lib.hid hl1; have HL2 := Lib.hid hl2
  clear hg hr1 hr2 hb1 hb2 hB hl1 hl2
  go_enter Try.func36, Try.ntmps36
  go_wp2_with fail
  refine wp_loop_rounds 3 ?_
  rw [rounds_succ]
  go_wp2_with fail
  rw [rounds_succ]
  go_wp2_with fail
  rw [rounds_succ]
  go_wp2_with fail
  refine HG.out.mono ?_
  rintro e w1 ⟨s1, rfl, hr1, hb1⟩
  have HR1 := Lib.hid hr1; have HB1 := Lib.hid hb1
  have y0 : w1.cell? ⟨B, 0, none⟩ = some (.slice A D.length c) := (hb1.cell (p := ⟨B, 0, none⟩) hBl).trans HX0.out
  have y1 : w1.cell? ⟨B, 1, none⟩ = some (.slice A2 E.length c2) := (hb1.cell (p := ⟨B, 1, none⟩) hBl).trans HX1.out
  clear hr1 hb1 x0 x1
  go_wp2_with fail
  refine wp_loop_rounds 3 ?_
  rw [rounds_succ]
  go_wp2_with (at_builtin; refine wpList_append_row lay36 rfl _ _ rfl rfl HR1.out (fun u hu => by cases hu) HB1.out.size c rfl (H1.out.below HB1.out HS1.out) (flat_len D) (flat_one' _) (by omega) ?_; intro v2 w2 hr2 ht2 _; (rw [Nat.zero_add, List.nil_append] at hr2); (have hb2 := HR1.out.below_of ht2 HB1.out.size); (have z1 : w2.cell? ⟨B, 1, none⟩ = some (.slice A2 E.length c2) := (hb2.cell (p := ⟨B, 1, none⟩) hBl).trans y1); (have HR2 := Lib.hid hr2); (have HB2 := Lib.hid hb2); (clear hr2 ht2 hb2 y1))
  rw [rounds_succ]
  go_wp2_with (at_builtin; refine wpList_append_row lay36 rfl _ _ rfl rfl HR2.out (flat_one' _) (Nat.le_trans HB1.out.size HB2.out.size) c2 rfl (H2.out.below (HB1.out.trans HB2.out) HS2.out) (flat_len E) (flat_one' _) (by omega) ?_; intro v3 w3 hr3 ht3 _; (have HR3 := Lib.hid hr3); (have HT3 := Lib.hid ht3); (clear hr3 ht3))
  rw [rounds_succ]
  go_wp2_with fail
  go_ret
  refine ⟨_, rfl, ?_, (HB1.out.trans HB2.out).trans (HR2.out.below_of HT3.out (Nat.le_trans HB1.out.size HB2.out.size))⟩
  show Row w3 _ 3 _ (D ++ E).length _
  rw [List.length_append, flat_app]
  exact HR3.out
end Go.Proofs.Ytemdaafnmjenmaa
