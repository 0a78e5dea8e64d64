/- Texts of this seat, one behind the other. -/
import Derived.Test.YthafnphpcdbnlaaGreatE17
import Derived.Deep.CutBlock
import Derived.Laws.EntriesVeiled
set_option linter.unusedVariables false
set_option linter.unusedSimpArgs false
namespace Go.Proofs.YthafnphpcdbnlaaGreat.S13
open Go.Proofs.YthafnphpcdbnlaaGreat Go.Proofs.YthafnphpcdbnlaaGreat.S11 Go.Proofs.YthafnphpcdbnlaaGreat.S12
open Go.RowKit

section
variable {w0 w w' : World} {base WB : Nat} {M : Sd} {r : List Part} {j B : Nat} {K : Lk} {X : Wm}
/-- A block more beside them, a block less. -/
theorem Wl.pushB (h : Wl w0 w base WB M r j B K X) (ob : Obj) : Wl w0 (w.alloc ob) base WB M (r ++ [blockP w.heap.size ob]) j B K X := by
  have hp := h.pg.ps.push (blockP w.heap.size ob) (below1 w ob) (heap_alloc_new w ob) (fun k e => Nat.le_of_eq (show k = w.heap.size from e).symm)
  rw [List.append_assoc] at hp
  refine ⟨⟨?_, h.pg.wB, h.pg.xm, h.pg.bl.alloc h.pg.size _⟩, by rw [List.length_append]; have := h.hj; simp; omega⟩
  rw [List.set_append_left _ _ h.hj]
  exact hp
theorem Wl.dropB {q : Part} (h : Wl w0 w base WB M (r ++ [q]) j B K X) (hj : j < r.length) : Wl w0 w base WB M r j B K X := by
  have hp := h.pg.ps
  rw [List.set_append_left _ _ hj, ← List.append_assoc] at hp
  exact ⟨⟨Parts.left hp, h.pg.wB, h.pg.xm, h.pg.bl⟩, hj⟩
theorem Wl.last {Q : Nat} {ob : Obj} (h : Wl w0 w base WB M (r ++ [blockP Q ob]) j B K X) (hj : j < r.length) : w.heap[Q]? = some ob := by
  have hp := h.pg.ps
  rw [List.set_append_left _ _ hj, ← List.append_assoc] at hp
  refine hp.ok (X.parts ++ r.set j (lockP B K)).length (blockP Q ob) ?_
  rw [List.getElem?_append_right (Nat.le_refl _), Nat.sub_self]; rfl
theorem begin_l (h : Wl w0 w base WB M r j B K X) : Calls Tryz.prog 104 #[.pointer (some ⟨B, 2, none⟩), Pw WB] w fun e w' => e = .returned (.tuple #[]) ∧ Wl w0 w' base WB M r j B { K with sp := M.sp } X := by
  have h1 := h.put { K with sp := 0 } (set_blk h.blk 2 (.int .i64 0) _ (by simp [Lk.cs])) ((Turns.refl (fun k => k = B) w).setCell ⟨B, 2, none⟩ _ rfl)
  have h2 := h1.put { K with sp := M.sp } (set_blk h1.blk 2 (.int .i64 M.sp) _ (by simp [Lk.cs])) ((Turns.refl (fun k => k = B) _).setCell ⟨B, 2, none⟩ _ rfl)
  have c2 := h.b2; have z2 := h.fz 2; have d2 := h1.b2; have y2 := h1.fz 2
  have d6 := h1.pg.c.2.2.2
  have H2 := Lib.hid h2
  clear h h1 h2
  go_enter Tryz.func104, Tryz.ntmps104
  go_wp2_with fail
  go_end0
  exact ⟨rfl, H2.out⟩
theorem spin_l (h : Wl w0 w base WB M r j B K X) (hs : K.sp ≤ 9223372036854775807) : Calls Tryz.prog 108 #[.pointer (some ⟨B, 2, none⟩)] w fun e w' => e = .returned (.bool (decide (0 < K.sp))) ∧ Wl w0 w' base WB M r j B { K with sp := if 0 < K.sp then K.sp - 1 else K.sp } X := by
  have c2 := h.b2; have z2 := h.fz 2
  by_cases h0 : 0 < K.sp
  · rw [decide_eq_true h0, if_pos h0]
    have h1 := h.put { K with sp := K.sp - 1 } (set_blk h.blk 2 (.int .i64 (K.sp - 1)) _ (by simp [Lk.cs])) ((Turns.refl (fun k => k = B) w).setCell ⟨B, 2, none⟩ _ rfl)
    have hd : decide (K.sp ≤ 0) = false := by rw [decide_eq_false_iff_not]; omega
    have hw : wrap64 (K.sp - 1) = K.sp - 1 := by unfold wrap64; omega
    have H1 := Lib.hid h1
    clear h h0 hs h1
    generalize K.sp = v at *
    go_enter Tryz.func108, Tryz.ntmps108
    go_wp2_with fail
    go_ret
    exact ⟨rfl, H1.out⟩
  · rw [decide_eq_false h0, if_neg h0]
    have hd : decide (K.sp ≤ 0) = true := by rw [decide_eq_true_iff]; omega
    have H1 := Lib.hid h
    clear h h0 hs
    go_enter Tryz.func108, Tryz.ntmps108
    go_wp2_with fail
    go_ret
    exact ⟨rfl, H1.out⟩
set_option maxRecDepth 100000 in
set_option maxHeartbeats 4000000 in
theorem turn_l (h : Wl w0 w base WB M r j B K X) (h6 : K.ln ≠ 6) (hs : K.sp ≤ 9223372036854775807) {u : Nat} (hu : u < 18446744073709551616) :
    Calls Tryz.prog 106 #[askV K.t K.a, Pw B, .int .u64 (u : Int)] w fun e w' => e = .returned (.tuple #[]) ∧ Wl w0 w' base WB M r j B (K.turn u) X := by
  have hj := h.hj
  have hA := h.pushB (.cells #[.int .i64 (K.t : Int), .int .u32 (K.a : Int)] 211)
  obtain ⟨Q, hQ⟩ : ∃ Q, Q = w.heap.size := ⟨_, rfl⟩
  rw [← hQ] at hA
  have h1 := hA.put { K with st := u } (set_blk hA.blk 1 (.int .u64 (u : Int)) _ (by simp [Lk.cs])) ((Turns.refl (fun k => k = B) _).setCell ⟨B, 1, none⟩ _ rfl)
  have d1 := hA.b1; have y1 := hA.fz 1
  have HAS := Lib.hid (fun W => S1.as_any u hu W)
  have H1 := Lib.hid h1; have HJ := Lib.hid hj; have HQ := Lib.hid hQ
  clear h hA h1 hQ hj
  go_enter Tryz.func106, Tryz.ntmps106
  go_upto_region 1 with (fail)
  rw [← HQ.out]
  go_upto_region 2 with (fail)
  generalize (w.alloc (.cells #[.int .i64 (K.t : Int), .int .u32 (K.a : Int)] 211)).setCell ⟨B, 1, none⟩ (.int .u64 (u : Int)) = w1 at *
  clear d1 y1
  unfold S1.asV at HAS
  have HB := Lib.hid (show S1.bitB u 0 = S1.bitB u 0 from rfl)
  obtain ⟨b0, hb0⟩ : ∃ x, x = S1.bitB u 0 := ⟨_, rfl⟩
  obtain ⟨hd, hhd⟩ : ∃ x, x = S1.headN u := ⟨_, rfl⟩
  rw [← hb0, ← hhd] at HAS
  have HT := Lib.hid (And.intro hb0 hhd)
  clear HB hb0 hhd
  go_upto_block 0 with (go_at_call 52; refine (HAS.out _).mono ?_; rintro e w2 ⟨rfl, hb2⟩)
  have hw3 := heap_alloc_new w2 (.cells #[.bool b0, .bool (S1.bitB u 1), .int .i64 hd] 81)
  have h3 := H1.out.new (hb2.trans ((below1 w2 (.cells #[.bool b0, .bool (S1.bitB u 1), .int .i64 hd] 81)).mono hb2.size))
  generalize w2.alloc (.cells #[.bool b0, .bool (S1.bitB u 1), .int .i64 hd] 81) = w3 at *
  generalize w2.heap.size = Qs at *
  have x0 := cell_row hw3 0; have x2 := cell_row hw3 2
  have hl := h3.last HJ.out
  have k0 := cell_row hl 0; have k1 := cell_row hl 1
  simp only [List.getElem?_toArray, List.getElem?_cons_zero, List.getElem?_cons_succ] at x0 x2 k0 k1
  have c0 := h3.b0; have z0 := h3.fz 0
  have HSP := Lib.hid (spin_l h3 hs)
  have fin : ∀ (W : World) (ln : Nat) (sp : Int) (V : Value), Wl w0 W base WB M (r ++ [blockP Q (.cells #[.int .i64 (K.t : Int), .int .u32 (K.a : Int)] 211)]) j B { K with st := u, sp := sp } X → ln ≠ 6 → nxV K.t K.a ln = V → Wl w0 (W.setCell ⟨B, 0, none⟩ V) base WB M r j B { K with st := u, sp := sp, ln := ln } X := fun W ln sp V hW hl hV =>
    (hW.put { K with st := u, sp := sp, ln := ln } (set_blk hW.blk 0 V _ (by simp [Lk.cs, hV, hl, h6])) ((Turns.refl (fun k => k = B) _).setCell ⟨B, 0, none⟩ _ rfl)).dropB HJ.out
  have HFIN := Lib.hid fin; have H3 := Lib.hid h3
  clear fin h3 hl hw3 hb2 HAS H1
  cases b0 with
  | false =>
    have ht : K.turn u = { K with st := u, ln := 2 } := by unfold Lk.turn; rw [← HT.out.1, if_pos rfl]
    have HTN := Lib.hid ht
    clear ht HT HSP
    go_wp2_with fail
    go_end0
    exact ⟨rfl, by rw [HTN.out]; exact HFIN.out _ 2 K.sp _ H3.out (by decide) rfl⟩
  | true =>
    by_cases hh : hd = -1
    · subst hh
      by_cases hsp : 0 < K.sp
      · have ht : K.turn u = { K with st := u, ln := 3, sp := K.sp - 1 } := by unfold Lk.turn; rw [← HT.out.1, if_neg (by decide), if_pos HT.out.2.symm, if_pos hsp]
        have HTN := Lib.hid ht
        rw [decide_eq_true hsp, if_pos hsp] at HSP
        clear ht HT hsp hs
        go_wp2_with (go_at_call 108; refine HSP.out.mono ?_; rintro e w4 ⟨rfl, h4⟩; (have c0 := h4.b0; have z0 := h4.fz 0; have hl := h4.last HJ.out; have k0 := cell_row hl 0; have k1 := cell_row hl 1; simp only [List.getElem?_toArray, List.getElem?_cons_zero, List.getElem?_cons_succ] at k0 k1; have H4 := Lib.hid h4; clear hl h4))
        go_end0
        exact ⟨rfl, by rw [HTN.out]; exact HFIN.out _ 3 (K.sp - 1) _ H4.out (by decide) rfl⟩
      · have ht : K.turn u = { K with st := u, ln := 4 } := by unfold Lk.turn; rw [← HT.out.1, if_neg (by decide), if_pos HT.out.2.symm, if_neg hsp]
        have HTN := Lib.hid ht
        rw [decide_eq_false hsp, if_neg hsp] at HSP
        clear ht HT hsp hs
        go_wp2_with (go_at_call 108; refine HSP.out.mono ?_; rintro e w4 ⟨rfl, h4⟩; (have c0 := h4.b0; have z0 := h4.fz 0; have hl := h4.last HJ.out; have k0 := cell_row hl 0; have k1 := cell_row hl 1; simp only [List.getElem?_toArray, List.getElem?_cons_zero, List.getElem?_cons_succ] at k0 k1; have H4 := Lib.hid h4; clear hl h4))
        go_end0
        exact ⟨rfl, by rw [HTN.out]; exact HFIN.out _ 4 K.sp _ H4.out (by decide) rfl⟩
    · have ht : K.turn u = { K with st := u, ln := 4 } := by unfold Lk.turn; rw [← HT.out.1, if_neg (by decide), if_neg (fun e => hh (HT.out.2.trans e))]
      have HTN := Lib.hid ht
      have hne : (hd == -1) = false := by rw [beq_eq_false_iff_ne]; exact hh
      clear ht HT hh HSP
      go_wp2_with fail
      go_end0
      exact ⟨rfl, by rw [HTN.out]; exact HFIN.out _ 4 K.sp _ H3.out (by decide) rfl⟩
end
end Go.Proofs.YthafnphpcdbnlaaGreat.S13
namespace Go.Proofs.YthafnphpcdbnlaaGreat.S13
open Go.Proofs.YthafnphpcdbnlaaGreat Go.Proofs.YthafnphpcdbnlaaGreat.S11 Go.Proofs.YthafnphpcdbnlaaGreat.S12
open Go.RowKit

/-- A lock, and a world, behind a CAS that wants 'was'. -/
def Lk.cas (K : Lk) (x was : Nat) (K' : Lk) : Lk := if x = was then K' else K.turn x
section
variable {w0 w w' : World} {base WB : Nat} {M : Sd} {r : List Part} {j B : Nat} {K : Lk} {X : Wm}
theorem Wl.look (h : Wl w0 w base WB M r j B K X) (a : Nat) : S2.look M.L a < 18446744073709551616 := by
  have := S2.look_lt h.pg.pw.cells.good a
  rwa [show X.L = M.L from congrArg Sd.L h.pg.xm] at this
set_option maxRecDepth 100000 in
set_option maxHeartbeats 4000000 in
theorem swap_l (h : Wl w0 w base WB M r j B K X) (h6 : K.ln ≠ 6) (hs : K.sp ≤ 9223372036854775807) (ha : K.a < 4294967296) (hn : M.n ≤ 1000000000) {was is : Nat} (his : is < 18446744073709551616) :
    Calls Tryz.prog 105 #[askV K.t K.a, Pw B, Pw WB, .int .u64 (was : Int), .int .u64 (is : Int)] w fun e w' => e = .returned (.bool (decide (S2.look M.L K.a = was))) ∧ ∃ X', Wl w0 w' base WB (M.acc 3 K.a (S2.casV (S2.look M.L K.a) was is)) r j B (K.cas (S2.look M.L K.a) was K) X' := by
  have hj := h.hj
  have hA := h.pushB (.cells #[.int .i64 (K.t : Int), .int .u32 (K.a : Int)] 211)
  have k0 := cell_row (heap_alloc_new w (.cells #[.int .i64 (K.t : Int), .int .u32 (K.a : Int)] 211)) 0; have k1 := cell_row (heap_alloc_new w (.cells #[.int .i64 (K.t : Int), .int .u32 (K.a : Int)] 211)) 1
  simp only [List.getElem?_toArray, List.getElem?_cons_zero, List.getElem?_cons_succ] at k0 k1
  obtain ⟨Q, hQ⟩ : ∃ Q, Q = w.heap.size := ⟨_, rfl⟩
  rw [← hQ] at hA k0 k1
  have HA := Lib.hid hA; have HJ := Lib.hid hj; have HQ := Lib.hid hQ
  have q0 := HA.out.pg.c.1
  have HC := Lib.hid ((HA.out.new (Below.refl _ _).drew).pg.cas ha his hn (u := was))
  obtain ⟨x, hx⟩ : ∃ x, x = S2.look M.L K.a := ⟨_, rfl⟩
  have hxl : x < 18446744073709551616 := by rw [hx]; exact HA.out.look K.a
  rw [← hx] at HC ⊢
  have HX := Lib.hid hxl
  clear hx hxl his
  clear h hj hQ
  go_enter Tryz.func105, Tryz.ntmps105
  go_upto_region 1 with (fail)
  rw [← HQ.out]
  generalize w.alloc (.cells #[.int .i64 (K.t : Int), .int .u32 (K.a : Int)] 211) = w1 at *
  refine wp_region_held_drew (S := fun w' => w'.cell? ⟨WB, 0, none⟩ = some (Pw X.cB) ∧ w'.cell? ⟨Q, 1, none⟩ = some (.int .u32 (K.a : Int))) (by kernel_rfl) ?_ (fun hHeld => ?_)
  · exact ⟨q0, k1⟩
  refine wpAnyH_take (i := 0) (oi := ({ dst := some 14, op := Op.move (Operand.tmp 2), type := 25, pos := "wordlocks.go:108", after := #[], guard := none } : Oper)) (v := ?vsm1) rfl (by kernel_rfl) (by kernel_rfl) (by kernel_rfl) (fun _ _ _ h => h) (Or.inl ⟨by rfl, fun w hSw => ?hysm1⟩) (by assumption) ?rsm1
  case hysm1 => (try dsimp only at hSw); go_simp; (try with_reducible rfl)
  (try simp only [Act.put, List.setIfInBounds_toArray, List.set_cons_zero, List.set_cons_succ])
  refine wpAnyH_take (i := 1) (oi := ({ dst := some 15, op := Op.nilCheck (Operand.tmp 14), type := 0, pos := "wordlocks.go:108", after := #[{ on := 0, ground := Ground.data }], guard := none } : Oper)) (v := ?vsm2) rfl (by kernel_rfl) (by kernel_rfl) (by kernel_rfl) (fun _ _ _ h => h) (Or.inl ⟨by rfl, fun w hSw => ?hysm2⟩) (by assumption) ?rsm2
  case hysm2 => (try dsimp only at hSw); go_simp; (try with_reducible rfl)
  (try simp only [Act.put, List.setIfInBounds_toArray, List.set_cons_zero, List.set_cons_succ])
  refine wpAnyH_take (i := 2) (oi := ({ dst := some 16, op := Op.fieldAddr 45 (Operand.tmp 15) 0, type := 0, pos := "wordlocks.go:108", after := #[{ on := 1, ground := Ground.data }], guard := none } : Oper)) (v := ?vsm3) rfl (by kernel_rfl) (by kernel_rfl) (by kernel_rfl) (fun _ _ _ h => h) (Or.inl ⟨by rfl, fun w hSw => ?hysm3⟩) (by assumption) ?rsm3
  case hysm3 => (try dsimp only at hSw); go_simp; (try with_reducible rfl)
  (try simp only [Act.put, List.setIfInBounds_toArray, List.set_cons_zero, List.set_cons_succ])
  refine wpAnyH_take (i := 3) (oi := ({ dst := some 17, op := Op.load 37 (Operand.tmp 16), type := 37, pos := "wordlocks.go:108", after := #[{ on := 2, ground := Ground.data }], guard := none } : Oper)) (v := ?vsm4) rfl (by kernel_rfl) (by kernel_rfl) (by kernel_rfl) (fun _ _ _ h => h) (Or.inl ⟨by rfl, fun w hSw => ?hysm4⟩) (by assumption) ?rsm4
  case hysm4 => (try dsimp only at hSw); go_simp; (try with_reducible rfl)
  (try simp only [Act.put, List.setIfInBounds_toArray, List.set_cons_zero, List.set_cons_succ])
  refine wpAnyH_take (i := 4) (oi := ({ dst := some 18, op := Op.fieldAddr 211 (Operand.tmp 5) 1, type := 0, pos := "wordlocks.go:108", after := #[], guard := none } : Oper)) (v := ?vsm5) rfl (by kernel_rfl) (by kernel_rfl) (by kernel_rfl) (fun _ _ _ h => h) (Or.inl ⟨by rfl, fun w hSw => ?hysm5⟩) (by assumption) ?rsm5
  case hysm5 => (try dsimp only at hSw); go_simp; (try with_reducible rfl)
  (try simp only [Act.put, List.setIfInBounds_toArray, List.set_cons_zero, List.set_cons_succ])
  refine wpAnyH_take (i := 5) (oi := ({ dst := some 19, op := Op.load 30 (Operand.tmp 18), type := 30, pos := "wordlocks.go:108", after := #[{ on := 4, ground := Ground.data }], guard := none } : Oper)) (v := ?vsm6) rfl (by kernel_rfl) (by kernel_rfl) (by kernel_rfl) (fun _ _ _ h => h) (Or.inl ⟨by rfl, fun w hSw => ?hysm6⟩) (by assumption) ?rsm6
  case hysm6 => (try dsimp only at hSw); go_simp; (try with_reducible rfl)
  (try simp only [Act.put, List.setIfInBounds_toArray, List.set_cons_zero, List.set_cons_succ])
  refine wpAnyH_take (i := 6) (oi := ({ dst := some 20, op := Op.move (Operand.tmp 3), type := 36, pos := "wordlocks.go:108", after := #[], guard := none } : Oper)) (v := ?vsm7) rfl (by kernel_rfl) (by kernel_rfl) (by kernel_rfl) (fun _ _ _ h => h) (Or.inl ⟨by rfl, fun w hSw => ?hysm7⟩) (by assumption) ?rsm7
  case hysm7 => (try dsimp only at hSw); go_simp; (try with_reducible rfl)
  (try simp only [Act.put, List.setIfInBounds_toArray, List.set_cons_zero, List.set_cons_succ])
  refine wpAnyH_take (i := 7) (oi := ({ dst := some 21, op := Op.move (Operand.tmp 4), type := 36, pos := "wordlocks.go:108", after := #[], guard := none } : Oper)) (v := ?vsm8) rfl (by kernel_rfl) (by kernel_rfl) (by kernel_rfl) (fun _ _ _ h => h) (Or.inl ⟨by rfl, fun w hSw => ?hysm8⟩) (by assumption) ?rsm8
  case hysm8 => (try dsimp only at hSw); go_simp; (try with_reducible rfl)
  (try simp only [Act.put, List.setIfInBounds_toArray, List.set_cons_zero, List.set_cons_succ])
  refine wpAnyH_ready (rs := [8]) (by kernel_rfl) (by simp) ?_
  refine AllReadyH.cons (o := ({ dst := some 22, op := Op.call { callee := Callee.value (Operand.func 68), args := #[Operand.tmp 17, Operand.tmp 19, Operand.tmp 20, Operand.tmp 21], argTypes := #[37, 30, 36, 36] }, type := 181, pos := "wordlocks.go:108", after := #[{ on := 3, ground := Ground.data }, { on := 5, ground := Ground.data }, { on := 6, ground := Ground.data }, { on := 7, ground := Ground.data }], guard := none } : Oper)) rfl (fun Kq hKq => ?_) AllReadyH.nil
  go_simp
  (refine HC.out.mono ?_; rintro e w3 ⟨rfl, X3, h3g, hcB⟩; have h3 : Wl w0 w3 base WB (M.acc 3 K.a (S2.casV x was is)) (r ++ [blockP Q (.cells #[.int .i64 (K.t : Int), .int .u32 (K.a : Int)] 211)]) j B K X3 := ⟨h3g, HA.out.hj⟩; have q3 := h3.pg.c.1; rw [hcB] at q3; have hl := h3.last HJ.out; have k1' := cell_row hl 1; simp only [List.getElem?_toArray, List.getElem?_cons_zero, List.getElem?_cons_succ] at k1')
  refine hKq.out _ _ ?_ (fun hHeld => ?_)
  · exact ⟨q3, k1'⟩
  clear hKq Kq
  (try simp only [Act.put, List.setIfInBounds_toArray, List.set_cons_zero, List.set_cons_succ])
  refine wpAnyH_take (i := 9) (oi := ({ dst := some 13, op := Op.move (Operand.tmp 22), type := 181, pos := "wordlocks.go:108", after := #[{ on := 8, ground := Ground.data }], guard := none } : Oper)) (v := ?vsm9) rfl (by kernel_rfl) (by kernel_rfl) (by kernel_rfl) (fun _ _ _ h => h) (Or.inl ⟨by rfl, fun w hSw => ?hysm9⟩) (by assumption) ?rsm9
  case hysm9 => (try dsimp only at hSw); go_simp; (try with_reducible rfl)
  (try simp only [Act.put, List.setIfInBounds_toArray, List.set_cons_zero, List.set_cons_succ])
  refine wpAnyH_take (i := 10) (oi := ({ dst := some 23, op := Op.extract (Operand.tmp 13) 0, type := 36, pos := "wordlocks.go:108", after := #[{ on := 9, ground := Ground.data }], guard := none } : Oper)) (v := ?vsm10) rfl (by kernel_rfl) (by kernel_rfl) (by kernel_rfl) (fun _ _ _ h => h) (Or.inl ⟨by rfl, fun w hSw => ?hysm10⟩) (by assumption) ?rsm10
  case hysm10 => (try dsimp only at hSw); go_simp; (try with_reducible rfl)
  (try simp only [Act.put, List.setIfInBounds_toArray, List.set_cons_zero, List.set_cons_succ])
  refine wpAnyH_take (i := 11) (oi := ({ dst := some 24, op := Op.extract (Operand.tmp 13) 1, type := 4, pos := "wordlocks.go:108", after := #[{ on := 9, ground := Ground.data }, { on := 12, ground := Ground.gcOnly Departure.lateStores }], guard := none } : Oper)) (v := ?vsm11) rfl (by kernel_rfl) (by kernel_rfl) (by kernel_rfl) (fun _ _ _ h => h) (Or.inl ⟨by rfl, fun w hSw => ?hysm11⟩) (by assumption) ?rsm11
  case hysm11 => (try dsimp only at hSw); go_simp; (try with_reducible rfl)
  (try simp only [Act.put, List.setIfInBounds_toArray, List.set_cons_zero, List.set_cons_succ])
  refine wpAnyH_take (i := 12) (oi := ({ dst := some 11, op := Op.assign (Operand.tmp 23), type := 36, pos := "wordlocks.go:108", after := #[{ on := 10, ground := Ground.data }, { on := 8, ground := Ground.chain }, { on := 0, ground := Ground.phase }, { on := 1, ground := Ground.phase }, { on := 2, ground := Ground.phase }, { on := 3, ground := Ground.phase }, { on := 4, ground := Ground.phase }, { on := 5, ground := Ground.phase }, { on := 6, ground := Ground.phase }, { on := 7, ground := Ground.phase }, { on := 8, ground := Ground.phase }, { on := 9, ground := Ground.phase }, { on := 10, ground := Ground.phase }, { on := 11, ground := Ground.textOnly Departure.lateStores }], guard := none } : Oper)) (v := ?vsm12) rfl (by kernel_rfl) (by kernel_rfl) (by kernel_rfl) (fun _ _ _ h => h) (Or.inl ⟨by rfl, fun w hSw => ?hysm12⟩) (by assumption) ?rsm12
  case hysm12 => (try dsimp only at hSw); go_simp; (try with_reducible rfl)
  (try simp only [Act.put, List.setIfInBounds_toArray, List.set_cons_zero, List.set_cons_succ])
  refine wpAnyH_take (i := 13) (oi := ({ dst := some 12, op := Op.assign (Operand.tmp 24), type := 4, pos := "wordlocks.go:108", after := #[{ on := 11, ground := Ground.data }, { on := 12, ground := Ground.chain }, { on := 0, ground := Ground.phase }, { on := 1, ground := Ground.phase }, { on := 2, ground := Ground.phase }, { on := 3, ground := Ground.phase }, { on := 4, ground := Ground.phase }, { on := 5, ground := Ground.phase }, { on := 6, ground := Ground.phase }, { on := 7, ground := Ground.phase }, { on := 8, ground := Ground.phase }, { on := 9, ground := Ground.phase }, { on := 10, ground := Ground.phase }, { on := 11, ground := Ground.phase }, { on := 12, ground := Ground.phase }], guard := none } : Oper)) (v := ?vsm13) rfl (by kernel_rfl) (by kernel_rfl) (by kernel_rfl) (fun _ _ _ h => h) (Or.inl ⟨by rfl, fun w hSw => ?hysm13⟩) (by assumption) ?rsm13
  case hysm13 => (try dsimp only at hSw); go_simp; (try with_reducible rfl)
  (try simp only [Act.put, List.setIfInBounds_toArray, List.set_cons_zero, List.set_cons_succ])
  refine wpAnyH_done (by kernel_rfl) ?_ _
  have HTN := Lib.hid (turn_l h3 h6 hs HX.out)
  have H3 := Lib.hid h3
  clear hHeld h3 h3g HC q0 hA k0 k1
  have hl := H3.out.last HJ.out; have k0 := cell_row hl 0; have k1 := cell_row hl 1; simp only [List.getElem?_toArray, List.getElem?_cons_zero, List.getElem?_cons_succ] at k0 k1
  clear hl
  by_cases e : x = was
  · have hd : decide (x = was) = true := decide_eq_true e
    have hk : K.cas x was K = K := if_pos e
    rw [hd]
    have HK := Lib.hid hk
    clear hk hd HTN
    go_wp2_with fail
    go_ret
    exact ⟨by rw [decide_eq_true e]; rfl, X3, by rw [HK.out]; exact H3.out.dropB HJ.out⟩
  · have hd : decide (x = was) = false := decide_eq_false e
    have hk : K.cas x was K = K.turn x := if_neg e
    rw [hd]
    have HK := Lib.hid hk
    clear hk hd
    go_wp2_with (go_at_call 106; refine HTN.out.mono ?_; rintro e w4 ⟨rfl, h4⟩; (have H4 := Lib.hid h4; clear h4))
    go_ret
    exact ⟨by rw [decide_eq_false e]; rfl, X3, by rw [HK.out]; exact H4.out.dropB HJ.out⟩
theorem Wl.next (h : Wl w0 w base WB M r j B K X) (h6 : K.ln ≠ 6) (ln : Nat) (hl : ln ≠ 6) (V : Value) (hV : nxV K.t K.a ln = V) : Wl w0 (w.setCell ⟨B, 0, none⟩ V) base WB M r j B { K with ln := ln } X :=
  h.put { K with ln := ln } (set_blk h.blk 0 V _ (by simp [Lk.cs, hV, hl, h6])) ((Turns.refl (fun k => k = B) _).setCell ⟨B, 0, none⟩ _ rfl)
theorem Wl.next2 (h : Wl w0 w base WB M r j B K X) (ln : Nat) (V : Value) (hV : nxV K.t K.a ln = V) (b : Bool) (hb : decide (ln = 6) = b) : Wl w0 ((w.setCell ⟨B, 0, none⟩ V).setCell ⟨B, 3, none⟩ (.bool b)) base WB M r j B { K with ln := ln } X :=
  h.put { K with ln := ln } (set_blk (set_blk h.blk 0 V _ rfl) 3 (.bool b) _ (by simp [Lk.cs, hV, ← hb])) (((Turns.refl (fun k => k = B) _).setCell ⟨B, 0, none⟩ _ rfl).setCell ⟨B, 3, none⟩ _ rfl)
end
/-- Of what is found as the head: a thread, or none. -/
def hdO (u : Nat) : Option Nat := if 1 ≤ u / 4 ∧ u / 4 ≤ 64 then some (u / 4 - 1) else none
theorem num_head (u : Nat) : S5.Num (S1.headN u) (hdO u) := by
  unfold S1.headN hdO
  by_cases h : 1 ≤ u / 4 ∧ u / 4 ≤ 64
  · rw [if_pos h, if_pos h]
    refine ⟨?_, ?_⟩ <;> omega
  · rw [if_neg h, if_neg h]
    exact S5.nm1
/-- A step: what the world is behind it, what the lock. -/
def stepM (M : Sd) (K : Lk) : Sd :=
  match K.ln with
  | 1 => M.acc 3 K.a (S2.casV (S2.look M.L K.a) 0 1)
  | 2 => M.acc 3 K.a (S2.casV (S2.look M.L K.a) K.st (S1.putU true (S1.bitB K.st 1) (S1.headN K.st)))
  | 3 => M.acc 1 K.a (S2.look M.L K.a)
  | 4 => (M.prep (2 * K.t + 1)).link (S5.pushS M.lk (some K.t) (hdO K.st))
  | 5 => M.acc 3 K.a (S2.casV (S2.look M.L K.a) K.st (S1.putU (S1.bitB K.st 0) (S1.bitB K.st 1) K.t))
  | 6 => M.park (2 * K.t + 1)
  | _ => M
def stepK (M : Sd) (K : Lk) : Lk :=
  match K.ln with
  | 1 => ({ K with sp := M.sp } : Lk).cas (S2.look M.L K.a) 0 { K with sp := M.sp, ln := 0 }
  | 2 => K.cas (S2.look M.L K.a) K.st { K with ln := 0 }
  | 3 => K.turn (S2.look M.L K.a)
  | 4 => { K with ln := 5 }
  | 5 => K.cas (S2.look M.L K.a) K.st { K with ln := 6 }
  | 6 => if (M.pf (2 * K.t + 1)).p then { K with ln := 3, sp := M.sp } else K
  | _ => K
/-- What a step leaves. -/
def Stepped (w0 w' : World) (base WB : Nat) (M : Sd) (r : List Part) (j B : Nat) (K : Lk) : Prop := ∃ X', Wl w0 w' base WB (stepM M K) r j B (stepK M K) X'
/-- What holds of a lock and its world. -/
structure LkOk (M : Sd) (K : Lk) : Prop where
  t : K.t < 64
  a : K.a < 4294967296
  st : K.st < 18446744073709551616
  sp : 0 ≤ K.sp ∧ K.sp ≤ 16
  ms : 0 ≤ M.sp ∧ M.sp ≤ 16
  n : M.n ≤ 1000000000
  pn : M.pn ≤ 1000000000
section
variable {w0 w w' : World} {base WB : Nat} {M : Sd} {r : List Part} {j B : Nat} {K : Lk} {X : Wm}
set_option maxRecDepth 100000 in
set_option maxHeartbeats 4000000 in
theorem first_l (h : Wl w0 w base WB M r j B K X) (ok : LkOk M K) (hl : K.ln = 1) : Calls Tryz.prog 103 #[askV K.t K.a, Pw B, Pw WB] w fun e w' => e = .returned (.tuple #[]) ∧ Stepped w0 w' base WB M r j B K := by
  have hM : stepM M K = M.acc 3 K.a (S2.casV (S2.look M.L K.a) 0 1) := by simp only [stepM, hl]
  have hK : stepK M K = ({ K with sp := M.sp } : Lk).cas (S2.look M.L K.a) 0 { K with sp := M.sp, ln := 0 } := by simp only [stepK, hl]
  unfold Stepped
  rw [hM, hK]
  have HPT : Hid (∀ W, Calls Tryz.prog 58 #[.agg #[.bool true, .bool false, .int .i64 (-1)]] W fun e w' => e = .returned (.int .u64 1) ∧ Below W.heap.size W w') := Lib.hid (fun W => by
    have := S1.putU_any true false (-1) (by unfold S1.isHead; omega) W
    rwa [S1.putU_one] at this)
  have hj := h.hj
  have hA := h.pushB (.cells #[.int .i64 (K.t : Int), .int .u32 (K.a : Int)] 211)
  have k0 := cell_row (heap_alloc_new w (.cells #[.int .i64 (K.t : Int), .int .u32 (K.a : Int)] 211)) 0; have k1 := cell_row (heap_alloc_new w (.cells #[.int .i64 (K.t : Int), .int .u32 (K.a : Int)] 211)) 1
  simp only [List.getElem?_toArray, List.getElem?_cons_zero, List.getElem?_cons_succ] at k0 k1
  obtain ⟨Q, hQ⟩ : ∃ Q, Q = w.heap.size := ⟨_, rfl⟩
  rw [← hQ] at hA k0 k1
  have HA := Lib.hid hA; have HJ := Lib.hid hj; have HQ := Lib.hid hQ
  have HBG := Lib.hid (begin_l hA)
  obtain ⟨x, hx⟩ : ∃ x, x = S2.look M.L K.a := ⟨_, rfl⟩
  have hsw : ∀ W, Wl w0 W base WB M (r ++ [blockP Q (.cells #[.int .i64 (K.t : Int), .int .u32 (K.a : Int)] 211)]) j B { K with sp := M.sp } X → Calls Tryz.prog 105 #[askV K.t K.a, Pw B, Pw WB, .int .u64 0, .int .u64 1] W fun e w' => e = .returned (.bool (decide (x = 0))) ∧ ∃ X', Wl w0 w' base WB (M.acc 3 K.a (S2.casV x 0 1)) (r ++ [blockP Q (.cells #[.int .i64 (K.t : Int), .int .u32 (K.a : Int)] 211)]) j B (({ K with sp := M.sp } : Lk).cas x 0 { K with sp := M.sp }) X' := fun W hW => by
    rw [hx]
    exact swap_l hW (by show K.ln ≠ 6; omega) (by show M.sp ≤ _; have := ok.ms; omega) ok.a ok.n (was := 0) (is := 1) (by omega)
  rw [← hx]
  have HSWW := Lib.hid hsw
  have H6 : Hid (K.ln ≠ 6) := Lib.hid (by omega)
  clear hsw hx ok hl hM hK
  clear h hj hQ
  go_enter Tryz.func103, Tryz.ntmps103
  go_upto_region 1 with (fail)
  rw [← HQ.out]
  generalize w.alloc (.cells #[.int .i64 (K.t : Int), .int .u32 (K.a : Int)] 211) = w1 at *
  go_upto_region 2 with (go_at_call 104; refine HBG.out.mono ?_; rintro e w3 ⟨rfl, h3⟩)
  have hl := h3.last HJ.out; have k0 := cell_row hl 0; have k1 := cell_row hl 1; simp only [List.getElem?_toArray, List.getElem?_cons_zero, List.getElem?_cons_succ] at k0 k1
  have H3 := Lib.hid h3
  clear hl h3 HBG hA
  refine wp_region_held_drew (S := fun w' => w'.cell? ⟨Q, 0, none⟩ = some (.int .i64 (K.t : Int)) ∧ w'.cell? ⟨Q, 1, none⟩ = some (.int .u32 (K.a : Int))) (by kernel_rfl) ?_ (fun hHeld => ?_)
  · exact ⟨k0, k1⟩
  refine wpAnyH_take (i := 0) (oi := ({ dst := some 11, op := Op.load 211 (Operand.tmp 3), type := 211, pos := "wordlocks.go:62", after := #[], guard := none } : Oper)) (v := ?vfm1) rfl (by kernel_rfl) (by kernel_rfl) (by kernel_rfl) (fun _ _ _ h => h) (Or.inl ⟨by rfl, fun w hSw => ?hyfm1⟩) (by assumption) ?rfm1
  case hyfm1 => (try dsimp only at hSw); go_simp; (try with_reducible rfl)
  (try simp only [Act.put, List.setIfInBounds_toArray, List.set_cons_zero, List.set_cons_succ])
  refine wpAnyH_take (i := 1) (oi := ({ dst := some 12, op := Op.move (Operand.tmp 1), type := 202, pos := "wordlocks.go:62", after := #[], guard := none } : Oper)) (v := ?vfm2) rfl (by kernel_rfl) (by kernel_rfl) (by kernel_rfl) (fun _ _ _ h => h) (Or.inl ⟨by rfl, fun w hSw => ?hyfm2⟩) (by assumption) ?rfm2
  case hyfm2 => (try dsimp only at hSw); go_simp; (try with_reducible rfl)
  (try simp only [Act.put, List.setIfInBounds_toArray, List.set_cons_zero, List.set_cons_succ])
  refine wpAnyH_take (i := 2) (oi := ({ dst := some 13, op := Op.move (Operand.tmp 2), type := 25, pos := "wordlocks.go:62", after := #[], guard := none } : Oper)) (v := ?vfm3) rfl (by kernel_rfl) (by kernel_rfl) (by kernel_rfl) (fun _ _ _ h => h) (Or.inl ⟨by rfl, fun w hSw => ?hyfm3⟩) (by assumption) ?rfm3
  case hyfm3 => (try dsimp only at hSw); go_simp; (try with_reducible rfl)
  (try simp only [Act.put, List.setIfInBounds_toArray, List.set_cons_zero, List.set_cons_succ])
  refine wpAnyH_take (i := 3) (oi := ({ dst := some 14, op := Op.build 81 #[(0, Operand.const (Value.bool true)), (2, Operand.const (Value.int IntKind.i64 (-1)))], type := 81, pos := "wordlocks.go:62", after := #[], guard := none } : Oper)) (v := ?vfm4) rfl (by kernel_rfl) (by kernel_rfl) (by kernel_rfl) (fun _ _ _ h => h) (Or.inl ⟨by rfl, fun w hSw => ?hyfm4⟩) (by assumption) ?rfm4
  case hyfm4 => (try dsimp only at hSw); go_simp; (try with_reducible rfl)
  (try simp only [Act.put, List.setIfInBounds_toArray, List.set_cons_zero, List.set_cons_succ])
  refine wpAnyH_ready (rs := [4]) (by kernel_rfl) (by simp) ?_
  refine AllReadyH.cons (o := ({ dst := some 15, op := Op.call { callee := Callee.value (Operand.func 58), args := #[Operand.tmp 14], argTypes := #[81] }, type := 36, pos := "wordlocks.go:62", after := #[{ on := 3, ground := Ground.data }], guard := none } : Oper)) rfl (fun Kq hKq => ?_) AllReadyH.nil
  go_simp
  (refine (HPT.out _).mono ?_; rintro e w4 ⟨rfl, hb4⟩; (have HSW := Lib.hid (HSWW.out w4 ((H3.out.new (Below.refl _ _).drew).new hb4))))
  refine hKq.out _ _ ?_ (fun hHeld => ?_)
  · exact ⟨bcell hb4 hHeld.1, bcell hb4 hHeld.2⟩
  clear hKq Kq
  (try simp only [Act.put, List.setIfInBounds_toArray, List.set_cons_zero, List.set_cons_succ])
  refine wpAnyH_ready (rs := [5]) (by kernel_rfl) (by simp) ?_
  refine AllReadyH.cons (o := ({ dst := some 16, op := Op.call { callee := Callee.value (Operand.func 105), args := #[Operand.tmp 11, Operand.tmp 12, Operand.tmp 13, Operand.const (Value.int IntKind.u64 0), Operand.tmp 15], argTypes := #[211, 202, 25, 36, 36] }, type := 4, pos := "wordlocks.go:62", after := #[{ on := 0, ground := Ground.data }, { on := 1, ground := Ground.data }, { on := 2, ground := Ground.data }, { on := 4, ground := Ground.data }, { on := 4, ground := Ground.chain }], guard := none } : Oper)) rfl (fun Kq hKq => ?_) AllReadyH.nil
  go_simp
  (refine HSW.out.mono ?_; rintro e w5 ⟨rfl, X5, h5⟩)
  refine hKq.out _ _ ?_ (fun hHeld => ?_)
  · (have hl := h5.last HJ.out; exact ⟨cell_row hl 0, cell_row hl 1⟩)
  clear hKq Kq
  (try simp only [Act.put, List.setIfInBounds_toArray, List.set_cons_zero, List.set_cons_succ])
  refine wpAnyH_done (by kernel_rfl) ?_ _
  clear hHeld k0 k1
  go_upto_if 16 with fail
  by_cases e : x = 0
  · rw [decide_eq_true e]
    have hk : ({ K with sp := M.sp } : Lk).cas x 0 { K with sp := M.sp, ln := 0 } = { K with sp := M.sp, ln := 0 } := if_pos e
    have hk2 : ({ K with sp := M.sp } : Lk).cas x 0 { K with sp := M.sp } = { K with sp := M.sp } := if_pos e
    rw [hk2] at h5
    have c0 := h5.b0; have z0 := h5.fz 0
    have HK := Lib.hid hk; have H5 := Lib.hid h5
    clear hk hk2 e h5 HSW HSWW
    go_wp2_with fail
    go_end0
    exact ⟨rfl, X5, by rw [HK.out]; exact (H5.out.next H6.out 0 (by decide) .nilFunc rfl).dropB HJ.out⟩
  · rw [decide_eq_false e]
    have hk : ({ K with sp := M.sp } : Lk).cas x 0 { K with sp := M.sp, ln := 0 } = ({ K with sp := M.sp } : Lk).cas x 0 { K with sp := M.sp } := (if_neg e).trans (if_neg e).symm
    have HK := Lib.hid hk; have H5 := Lib.hid h5
    clear hk e h5 HSW HSWW
    go_wp2_with fail
    go_end0
    exact ⟨rfl, X5, by rw [HK.out]; exact H5.out.dropB HJ.out⟩
end
end Go.Proofs.YthafnphpcdbnlaaGreat.S13
namespace Go.Proofs.YthafnphpcdbnlaaGreat.S13
open Go.Proofs.YthafnphpcdbnlaaGreat Go.Proofs.YthafnphpcdbnlaaGreat.S11 Go.Proofs.YthafnphpcdbnlaaGreat.S12
open Go.RowKit

section
variable {w0 w w' : World} {base WB : Nat} {M : Sd} {r : List Part} {j B : Nat} {K : Lk} {X : Wm}
theorem Wl.turnLast {Q : Nat} {ob : Obj} (h : Wl w0 w base WB M (r ++ [blockP Q ob]) j B K X) (hj : j < r.length) (ob' : Obj) (hq : w'.heap[Q]? = some ob') (t : Turns (fun k => k = Q) w w') : Wl w0 w' base WB M (r ++ [blockP Q ob']) j B K X := by
  have e : ∀ q : Part, (r ++ [q]).set j (lockP B K) = r.set j (lockP B K) ++ [q] := fun q => List.set_append_left _ _ hj
  have hi : ((r ++ [blockP Q ob]).set j (lockP B K))[r.length]? = some (blockP Q ob) := by
    rw [e, List.getElem?_append_right (by rw [List.length_set]; exact Nat.le_refl _), List.length_set, Nat.sub_self]; rfl
  have := h.pg.turn hi (blockP Q ob') hq t (fun k e => .inl e)
  rw [e, List.set_append_right _ _ (by rw [List.length_set]; exact Nat.le_refl _), List.length_set, Nat.sub_self] at this
  refine ⟨?_, by rw [List.length_append]; simp; omega⟩
  rw [e]
  exact this
set_option maxRecDepth 100000 in
set_option maxHeartbeats 4000000 in
theorem take_l (h : Wl w0 w base WB M r j B K X) (ok : LkOk M K) (hl : K.ln = 2) : Calls Tryz.prog 107 #[askV K.t K.a, Pw B, Pw WB] w fun e w' => e = .returned (.tuple #[]) ∧ Stepped w0 w' base WB M r j B K := by
  unfold Stepped
  rw [show stepM M K = _ from by simp only [stepM, hl]; rfl, show stepK M K = _ from by simp only [stepK, hl]; rfl]
  have hj := h.hj
  have hA := h.pushB (.cells #[.int .i64 (K.t : Int), .int .u32 (K.a : Int)] 211)
  have k0 := cell_row (heap_alloc_new w (.cells #[.int .i64 (K.t : Int), .int .u32 (K.a : Int)] 211)) 0; have k1 := cell_row (heap_alloc_new w (.cells #[.int .i64 (K.t : Int), .int .u32 (K.a : Int)] 211)) 1
  simp only [List.getElem?_toArray, List.getElem?_cons_zero, List.getElem?_cons_succ] at k0 k1
  obtain ⟨Q, hQ⟩ : ∃ Q, Q = w.heap.size := ⟨_, rfl⟩
  rw [← hQ] at hA k0 k1
  have HA := Lib.hid hA; have HJ := Lib.hid hj; have HQ := Lib.hid hQ
  obtain ⟨b0, hb0⟩ : ∃ x, x = S1.bitB K.st 0 := ⟨_, rfl⟩
  obtain ⟨b1, hb1⟩ : ∃ x, x = S1.bitB K.st 1 := ⟨_, rfl⟩
  obtain ⟨hd, hhd⟩ : ∃ x, x = S1.headN K.st := ⟨_, rfl⟩
  have HAS : Hid (∀ W, Calls Tryz.prog 52 #[.int .u64 (K.st : Int)] W fun e w' => e = .returned (.agg #[.bool b0, .bool b1, .int .i64 hd]) ∧ Below W.heap.size W w') := Lib.hid (fun W => by
    have := S1.as_any K.st ok.st W
    unfold S1.asV at this
    rw [← hb0, ← hb1, ← hhd] at this
    exact this)
  obtain ⟨x, hx⟩ : ∃ x, x = S2.look M.L K.a := ⟨_, rfl⟩
  obtain ⟨v, hv⟩ : ∃ x, x = S1.putU true (S1.bitB K.st 1) (S1.headN K.st) := ⟨_, rfl⟩
  have hvl : v < 18446744073709551616 := by rw [hv]; exact S1.putU_lt _ _ _
  have hsw : ∀ W r', Wl w0 W base WB M r' j B K X → Calls Tryz.prog 105 #[askV K.t K.a, Pw B, Pw WB, .int .u64 (K.st : Int), .int .u64 (v : Int)] W fun e w' => e = .returned (.bool (decide (x = K.st))) ∧ ∃ X', Wl w0 w' base WB (M.acc 3 K.a (S2.casV x K.st v)) r' j B (K.cas x K.st K) X' := fun W r' hW => by
    rw [hx]
    exact swap_l hW (by omega) (by have := ok.sp; omega) ok.a ok.n hvl
  have HPT : Hid (∀ W, Calls Tryz.prog 58 #[.agg #[Value.bool true, Value.bool b1, Value.int .i64 hd]] W fun e w' => e = .returned (.int .u64 (v : Int)) ∧ Below W.heap.size W w') := Lib.hid (fun W => by
    have := S1.putU_any true b1 hd (by rw [hhd]; exact S1.head_is _) W
    rw [hb1, hhd, ← hv] at this
    rw [hb1, hhd]
    exact this)
  rw [← hv, ← hx]
  have HSWW := Lib.hid hsw
  have H6 : Hid (K.ln ≠ 6) := Lib.hid (by omega)
  clear hsw hx hv hvl ok hl hb0 hb1 hhd
  clear h hj hQ
  go_enter Tryz.func107, Tryz.ntmps107
  go_upto_region 1 with (fail)
  rw [← HQ.out]
  generalize w.alloc (.cells #[.int .i64 (K.t : Int), .int .u32 (K.a : Int)] 211) = w1 at *
  have c1 := HA.out.b1
  clear hA
  go_upto_region 2 with (go_at_call 52; refine (HAS.out _).mono ?_; rintro e w2 ⟨rfl, hb2⟩)
  have h3a := (HA.out.new hb2).pushB (.cells #[Value.bool b0, Value.bool b1, Value.int .i64 hd] 81)
  have HJ2 : Hid (j < (r ++ [blockP Q (.cells #[.int .i64 (K.t : Int), .int .u32 (K.a : Int)] 211)]).length) := Lib.hid (by rw [List.length_append]; have := HJ.out; omega)
  have hn := heap_alloc_new w2 (.cells #[Value.bool b0, Value.bool b1, Value.int .i64 hd] 81)
  have s0 := cell_row hn 0; have s1 := cell_row hn 1; have s2 := cell_row hn 2
  have f0 := froz_row hn 0
  have k0 := bcell (hb2.trans ((below1 w2 (.cells #[Value.bool b0, Value.bool b1, Value.int .i64 hd] 81)).mono hb2.size)) k0; have k1 := bcell (hb2.trans ((below1 w2 (.cells #[Value.bool b0, Value.bool b1, Value.int .i64 hd] 81)).mono hb2.size)) k1
  simp only [List.getElem?_toArray, List.getElem?_cons_zero, List.getElem?_cons_succ] at s0 s1 s2
  obtain ⟨Qs, hQs⟩ : ∃ x, x = w2.heap.size := ⟨_, rfl⟩
  rw [← hQs] at h3a hn s0 s1 s2 f0 ⊢
  have h3 := h3a.turnLast HJ2.out (.cells #[Value.bool true, Value.bool b1, Value.int .i64 hd] 81) (set_blk hn 0 (.bool true) _ (by simp)) ((Turns.refl (fun k => k = Qs) _).setCell ⟨Qs, 0, none⟩ _ rfl)
  have H3 := Lib.hid h3
  clear h3 h3a hQs hn c1
  generalize w2.alloc (.cells #[Value.bool b0, Value.bool b1, Value.int .i64 hd] 81) = w2' at *
  go_upto_region 3 with (fail)
  generalize w2'.setCell ⟨Qs, 0, none⟩ (.bool true) = w3 at *
  have hl2 := H3.out.last HJ2.out
  have hlb := (H3.out.dropB HJ2.out).last HJ.out
  have c1 : w3.drew.cell? ⟨B, 1, none⟩ = some (.int .u64 (K.st : Int)) := H3.out.b1
  have HF : Hid ((fun w' => w'.cell? ⟨Q, 0, none⟩ = some (.int .i64 (K.t : Int)) ∧ w'.cell? ⟨Q, 1, none⟩ = some (.int .u32 (K.a : Int)) ∧ w'.cell? ⟨Qs, 0, none⟩ = some (Value.bool true) ∧ w'.cell? ⟨Qs, 1, none⟩ = some (Value.bool b1) ∧ w'.cell? ⟨Qs, 2, none⟩ = some (Value.int .i64 hd)) w3.drew) := Lib.hid ⟨cell_row hlb 0, cell_row hlb 1, cell_row hl2 0, cell_row hl2 1, cell_row hl2 2⟩
  clear hl2 hlb k0 k1 s0 s1 s2 f0 HAS hb2
  refine wp_region_held_drew (S := fun w' => w'.cell? ⟨Q, 0, none⟩ = some (.int .i64 (K.t : Int)) ∧ w'.cell? ⟨Q, 1, none⟩ = some (.int .u32 (K.a : Int)) ∧ w'.cell? ⟨Qs, 0, none⟩ = some (Value.bool true) ∧ w'.cell? ⟨Qs, 1, none⟩ = some (Value.bool b1) ∧ w'.cell? ⟨Qs, 2, none⟩ = some (Value.int .i64 hd)) (by kernel_rfl) ?_ (fun hHeld => ?_)
  · exact HF.out
  refine wpAnyH_take (i := 0) (oi := ({ dst := some 13, op := Op.load 211 (Operand.tmp 3), type := 211, pos := "wordlocks.go:71", after := #[], guard := none } : Oper)) (v := ?vtx1) rfl (by kernel_rfl) (by kernel_rfl) (by kernel_rfl) (fun _ _ _ h => h) (Or.inl ⟨by rfl, fun w hSw => ?hytx1⟩) (by assumption) ?rtx1
  case hytx1 => (try dsimp only at hSw); go_simp; (try with_reducible rfl)
  (try simp only [Act.put, List.setIfInBounds_toArray, List.set_cons_zero, List.set_cons_succ])
  refine wpAnyH_take (i := 1) (oi := ({ dst := some 14, op := Op.move (Operand.tmp 1), type := 202, pos := "wordlocks.go:71", after := #[], guard := none } : Oper)) (v := ?vtx2) rfl (by kernel_rfl) (by kernel_rfl) (by kernel_rfl) (fun _ _ _ h => h) (Or.inl ⟨by rfl, fun w hSw => ?hytx2⟩) (by assumption) ?rtx2
  case hytx2 => (try dsimp only at hSw); go_simp; (try with_reducible rfl)
  (try simp only [Act.put, List.setIfInBounds_toArray, List.set_cons_zero, List.set_cons_succ])
  refine wpAnyH_take (i := 2) (oi := ({ dst := some 15, op := Op.move (Operand.tmp 2), type := 25, pos := "wordlocks.go:71", after := #[], guard := none } : Oper)) (v := ?vtx3) rfl (by kernel_rfl) (by kernel_rfl) (by kernel_rfl) (fun _ _ _ h => h) (Or.inl ⟨by rfl, fun w hSw => ?hytx3⟩) (by assumption) ?rtx3
  case hytx3 => (try dsimp only at hSw); go_simp; (try with_reducible rfl)
  (try simp only [Act.put, List.setIfInBounds_toArray, List.set_cons_zero, List.set_cons_succ])
  refine wpAnyH_take (i := 3) (oi := ({ dst := some 16, op := Op.move (Operand.tmp 1), type := 202, pos := "wordlocks.go:71", after := #[], guard := none } : Oper)) (v := ?vtx4) rfl (by kernel_rfl) (by kernel_rfl) (by kernel_rfl) (fun _ _ _ h => h) (Or.inl ⟨by rfl, fun w hSw => ?hytx4⟩) (by assumption) ?rtx4
  case hytx4 => (try dsimp only at hSw); go_simp; (try with_reducible rfl)
  (try simp only [Act.put, List.setIfInBounds_toArray, List.set_cons_zero, List.set_cons_succ])
  refine wpAnyH_take (i := 4) (oi := ({ dst := some 17, op := Op.nilCheck (Operand.tmp 16), type := 0, pos := "wordlocks.go:71", after := #[{ on := 3, ground := Ground.data }], guard := none } : Oper)) (v := ?vtx5) rfl (by kernel_rfl) (by kernel_rfl) (by kernel_rfl) (fun _ _ _ h => h) (Or.inl ⟨by rfl, fun w hSw => ?hytx5⟩) (by assumption) ?rtx5
  case hytx5 => (try dsimp only at hSw); go_simp; (try with_reducible rfl)
  (try simp only [Act.put, List.setIfInBounds_toArray, List.set_cons_zero, List.set_cons_succ])
  refine wpAnyH_take (i := 5) (oi := ({ dst := some 18, op := Op.fieldAddr 209 (Operand.tmp 17) 1, type := 0, pos := "wordlocks.go:71", after := #[{ on := 4, ground := Ground.data }], guard := none } : Oper)) (v := ?vtx6) rfl (by kernel_rfl) (by kernel_rfl) (by kernel_rfl) (fun _ _ _ h => h) (Or.inl ⟨by rfl, fun w hSw => ?hytx6⟩) (by assumption) ?rtx6
  case hytx6 => (try dsimp only at hSw); go_simp; (try with_reducible rfl)
  (try simp only [Act.put, List.setIfInBounds_toArray, List.set_cons_zero, List.set_cons_succ])
  refine wpAnyH_take (i := 7) (oi := ({ dst := some 20, op := Op.load 81 (Operand.tmp 6), type := 81, pos := "wordlocks.go:71", after := #[], guard := none } : Oper)) (v := ?vtx7) rfl (by kernel_rfl) (by kernel_rfl) (by kernel_rfl) (fun _ _ _ h => h) (Or.inl ⟨by rfl, fun w hSw => ?hytx7⟩) (by assumption) ?rtx7
  case hytx7 => (try dsimp only at hSw); go_simp; (try with_reducible rfl)
  (try simp only [Act.put, List.setIfInBounds_toArray, List.set_cons_zero, List.set_cons_succ])
  refine wpAnyH_ready (rs := [6, 8]) (by kernel_rfl) (by simp) ?_
  refine AllReadyH.cons (o := ({ dst := some 19, op := Op.load 36 (Operand.tmp 18), type := 36, pos := "wordlocks.go:71", after := #[{ on := 5, ground := Ground.data }], guard := none } : Oper)) rfl (fun Kq hKq => ?_) ?_
  · go_simp
    refine hKq.out _ _ ?_ (fun hHeld => ?_)
    · exact hHeld
    clear hKq Kq
    (try simp only [Act.put, List.setIfInBounds_toArray, List.set_cons_zero, List.set_cons_succ])
    refine wpAnyH_ready (rs := [8]) (by kernel_rfl) (by simp) ?_
    refine AllReadyH.cons (o := ({ dst := some 21, op := Op.call { callee := Callee.value (Operand.func 58), args := #[Operand.tmp 20], argTypes := #[81] }, type := 36, pos := "wordlocks.go:71", after := #[{ on := 7, ground := Ground.data }], guard := none } : Oper)) rfl (fun Kq hKq => ?_) AllReadyH.nil
    go_simp
    (refine (HPT.out _).mono ?_; rintro e w4 ⟨rfl, hb4⟩; have c1 := bcell hb4 c1; have HSW := Lib.hid (HSWW.out w4 _ ((H3.out.new (Below.refl _ _).drew).new hb4)))
    refine hKq.out _ _ ?_ (fun hHeld => ?_)
    · exact ⟨bcell hb4 hHeld.1, bcell hb4 hHeld.2.1, bcell hb4 hHeld.2.2.1, bcell hb4 hHeld.2.2.2.1, bcell hb4 hHeld.2.2.2.2⟩
    clear hKq Kq
    (try simp only [Act.put, List.setIfInBounds_toArray, List.set_cons_zero, List.set_cons_succ])
    refine wpAnyH_ready (rs := [9]) (by kernel_rfl) (by simp) ?_
    refine AllReadyH.cons (o := ({ dst := some 22, op := Op.call { callee := Callee.value (Operand.func 105), args := #[Operand.tmp 13, Operand.tmp 14, Operand.tmp 15, Operand.tmp 19, Operand.tmp 21], argTypes := #[211, 202, 25, 36, 36] }, type := 4, pos := "wordlocks.go:71", after := #[{ on := 0, ground := Ground.data }, { on := 1, ground := Ground.data }, { on := 2, ground := Ground.data }, { on := 6, ground := Ground.data }, { on := 8, ground := Ground.data }, { on := 8, ground := Ground.chain }], guard := none } : Oper)) rfl (fun Kq hKq => ?_) AllReadyH.nil
    go_simp
    (refine HSW.out.mono ?_; rintro e w5 ⟨rfl, X5, h5⟩)
    refine hKq.out _ _ ?_ (fun hHeld => ?_)
    · (have hl := (h5.dropB HJ2.out).last HJ.out; have hl2 := h5.last HJ2.out; exact ⟨cell_row hl 0, cell_row hl 1, cell_row hl2 0, cell_row hl2 1, cell_row hl2 2⟩)
    clear hKq Kq
    (try simp only [Act.put, List.setIfInBounds_toArray, List.set_cons_zero, List.set_cons_succ])
    refine wpAnyH_done (by kernel_rfl) ?_ _
    have h7 := (h5.dropB HJ2.out)
    have hl := h7.last HJ.out
    have k0 := cell_row hl 0; have k1 := cell_row hl 1
    simp only [List.getElem?_toArray, List.getElem?_cons_zero, List.getElem?_cons_succ] at k0 k1
    clear hl hHeld c1 h5
    go_upto_if 22 with fail
    by_cases e : x = K.st
    · rw [decide_eq_true e]
      have hk2 : K.cas x K.st K = K := if_pos e
      rw [hk2] at h7
      have c0 := h7.b0; have z0 := h7.fz 0; have c3 := h7.b3; have z3 := h7.fz 3
      have HK := Lib.hid (show K.cas x K.st { K with ln := 0 } = { K with ln := 0 } from if_pos e); have H5 := Lib.hid h7
      clear hk2 e h7 HSW HSWW
      go_wp2_with fail
      go_end0
      exact ⟨rfl, X5, by rw [HK.out]; exact (H5.out.next H6.out 0 (by decide) .nilFunc rfl).dropB HJ.out⟩
    · rw [decide_eq_false e]
      have HK := Lib.hid (show K.cas x K.st { K with ln := 0 } = K.cas x K.st K from (if_neg e).trans (if_neg e).symm); have H5 := Lib.hid h7
      clear e h7 HSW HSWW
      go_wp2_with fail
      go_end0
      exact ⟨rfl, X5, by rw [HK.out]; exact H5.out.dropB HJ.out⟩
  refine AllReadyH.cons (o := ({ dst := some 21, op := Op.call { callee := Callee.value (Operand.func 58), args := #[Operand.tmp 20], argTypes := #[81] }, type := 36, pos := "wordlocks.go:71", after := #[{ on := 7, ground := Ground.data }], guard := none } : Oper)) rfl (fun Kq hKq => ?_) AllReadyH.nil
  go_simp
  (refine (HPT.out _).mono ?_; rintro e w4 ⟨rfl, hb4⟩; have c1 := bcell hb4 c1; have HSW := Lib.hid (HSWW.out w4 _ ((H3.out.new (Below.refl _ _).drew).new hb4)))
  refine hKq.out _ _ ?_ (fun hHeld => ?_)
  · exact ⟨bcell hb4 hHeld.1, bcell hb4 hHeld.2.1, bcell hb4 hHeld.2.2.1, bcell hb4 hHeld.2.2.2.1, bcell hb4 hHeld.2.2.2.2⟩
  clear hKq Kq
  (try simp only [Act.put, List.setIfInBounds_toArray, List.set_cons_zero, List.set_cons_succ])
  refine wpAnyH_ready (rs := [6]) (by kernel_rfl) (by simp) ?_
  refine AllReadyH.cons (o := ({ dst := some 19, op := Op.load 36 (Operand.tmp 18), type := 36, pos := "wordlocks.go:71", after := #[{ on := 5, ground := Ground.data }], guard := none } : Oper)) rfl (fun Kq hKq => ?_) AllReadyH.nil
  go_simp
  refine hKq.out _ _ ?_ (fun hHeld => ?_)
  · exact hHeld
  clear hKq Kq
  (try simp only [Act.put, List.setIfInBounds_toArray, List.set_cons_zero, List.set_cons_succ])
  refine wpAnyH_ready (rs := [9]) (by kernel_rfl) (by simp) ?_
  refine AllReadyH.cons (o := ({ dst := some 22, op := Op.call { callee := Callee.value (Operand.func 105), args := #[Operand.tmp 13, Operand.tmp 14, Operand.tmp 15, Operand.tmp 19, Operand.tmp 21], argTypes := #[211, 202, 25, 36, 36] }, type := 4, pos := "wordlocks.go:71", after := #[{ on := 0, ground := Ground.data }, { on := 1, ground := Ground.data }, { on := 2, ground := Ground.data }, { on := 6, ground := Ground.data }, { on := 8, ground := Ground.data }, { on := 8, ground := Ground.chain }], guard := none } : Oper)) rfl (fun Kq hKq => ?_) AllReadyH.nil
  go_simp
  (refine HSW.out.mono ?_; rintro e w5 ⟨rfl, X5, h5⟩)
  refine hKq.out _ _ ?_ (fun hHeld => ?_)
  · (have hl := (h5.dropB HJ2.out).last HJ.out; have hl2 := h5.last HJ2.out; exact ⟨cell_row hl 0, cell_row hl 1, cell_row hl2 0, cell_row hl2 1, cell_row hl2 2⟩)
  clear hKq Kq
  (try simp only [Act.put, List.setIfInBounds_toArray, List.set_cons_zero, List.set_cons_succ])
  refine wpAnyH_done (by kernel_rfl) ?_ _
  have h7 := (h5.dropB HJ2.out)
  have hl := h7.last HJ.out
  have k0 := cell_row hl 0; have k1 := cell_row hl 1
  simp only [List.getElem?_toArray, List.getElem?_cons_zero, List.getElem?_cons_succ] at k0 k1
  clear hl hHeld c1 h5
  go_upto_if 22 with fail
  by_cases e : x = K.st
  · rw [decide_eq_true e]
    have hk2 : K.cas x K.st K = K := if_pos e
    rw [hk2] at h7
    have c0 := h7.b0; have z0 := h7.fz 0; have c3 := h7.b3; have z3 := h7.fz 3
    have HK := Lib.hid (show K.cas x K.st { K with ln := 0 } = { K with ln := 0 } from if_pos e); have H5 := Lib.hid h7
    clear hk2 e h7 HSW HSWW
    go_wp2_with fail
    go_end0
    exact ⟨rfl, X5, by rw [HK.out]; exact (H5.out.next H6.out 0 (by decide) .nilFunc rfl).dropB HJ.out⟩
  · rw [decide_eq_false e]
    have HK := Lib.hid (show K.cas x K.st { K with ln := 0 } = K.cas x K.st K from (if_neg e).trans (if_neg e).symm); have H5 := Lib.hid h7
    clear e h7 HSW HSWW
    go_wp2_with fail
    go_end0
    exact ⟨rfl, X5, by rw [HK.out]; exact H5.out.dropB HJ.out⟩
set_option maxRecDepth 100000 in
set_option maxHeartbeats 4000000 in
theorem queue_l (h : Wl w0 w base WB M r j B K X) (ok : LkOk M K) (hl : K.ln = 5) : Calls Tryz.prog 112 #[askV K.t K.a, Pw B, Pw WB] w fun e w' => e = .returned (.tuple #[]) ∧ Stepped w0 w' base WB M r j B K := by
  unfold Stepped
  rw [show stepM M K = _ from by simp only [stepM, hl]; rfl, show stepK M K = _ from by simp only [stepK, hl]; rfl]
  have hj := h.hj
  have hA := h.pushB (.cells #[.int .i64 (K.t : Int), .int .u32 (K.a : Int)] 211)
  have k0 := cell_row (heap_alloc_new w (.cells #[.int .i64 (K.t : Int), .int .u32 (K.a : Int)] 211)) 0; have k1 := cell_row (heap_alloc_new w (.cells #[.int .i64 (K.t : Int), .int .u32 (K.a : Int)] 211)) 1
  simp only [List.getElem?_toArray, List.getElem?_cons_zero, List.getElem?_cons_succ] at k0 k1
  obtain ⟨Q, hQ⟩ : ∃ Q, Q = w.heap.size := ⟨_, rfl⟩
  rw [← hQ] at hA k0 k1
  have HA := Lib.hid hA; have HJ := Lib.hid hj; have HQ := Lib.hid hQ
  obtain ⟨b0, hb0⟩ : ∃ x, x = S1.bitB K.st 0 := ⟨_, rfl⟩
  obtain ⟨b1, hb1⟩ : ∃ x, x = S1.bitB K.st 1 := ⟨_, rfl⟩
  obtain ⟨hd, hhd⟩ : ∃ x, x = S1.headN K.st := ⟨_, rfl⟩
  have HAS : Hid (∀ W, Calls Tryz.prog 52 #[.int .u64 (K.st : Int)] W fun e w' => e = .returned (.agg #[.bool b0, .bool b1, .int .i64 hd]) ∧ Below W.heap.size W w') := Lib.hid (fun W => by
    have := S1.as_any K.st ok.st W
    unfold S1.asV at this
    rw [← hb0, ← hb1, ← hhd] at this
    exact this)
  obtain ⟨x, hx⟩ : ∃ x, x = S2.look M.L K.a := ⟨_, rfl⟩
  obtain ⟨v, hv⟩ : ∃ x, x = S1.putU (S1.bitB K.st 0) (S1.bitB K.st 1) K.t := ⟨_, rfl⟩
  have hvl : v < 18446744073709551616 := by rw [hv]; exact S1.putU_lt _ _ _
  have hsw : ∀ W r', Wl w0 W base WB M r' j B K X → Calls Tryz.prog 105 #[askV K.t K.a, Pw B, Pw WB, .int .u64 (K.st : Int), .int .u64 (v : Int)] W fun e w' => e = .returned (.bool (decide (x = K.st))) ∧ ∃ X', Wl w0 w' base WB (M.acc 3 K.a (S2.casV x K.st v)) r' j B (K.cas x K.st K) X' := fun W r' hW => by
    rw [hx]
    exact swap_l hW (by omega) (by have := ok.sp; omega) ok.a ok.n hvl
  have HPT : Hid (∀ W, Calls Tryz.prog 58 #[.agg #[Value.bool b0, Value.bool b1, Value.int .i64 (K.t : Int)]] W fun e w' => e = .returned (.int .u64 (v : Int)) ∧ Below W.heap.size W w') := Lib.hid (fun W => by
    have := S1.putU_any b0 b1 (K.t : Int) (by unfold S1.isHead; have := ok.t; omega) W
    rw [hb0, hb1, ← hv] at this
    rw [hb0, hb1]
    exact this)
  rw [← hv, ← hx]
  have HSWW := Lib.hid hsw
  have H6 : Hid (K.ln ≠ 6) := Lib.hid (by omega)
  clear hsw hx hv hvl ok hl hb0 hb1 hhd
  clear h hj hQ
  go_enter Tryz.func112, Tryz.ntmps112
  go_upto_region 1 with (fail)
  rw [← HQ.out]
  generalize w.alloc (.cells #[.int .i64 (K.t : Int), .int .u32 (K.a : Int)] 211) = w1 at *
  have c1 := HA.out.b1
  clear hA
  go_upto_region 2 with (go_at_call 52; refine (HAS.out _).mono ?_; rintro e w2 ⟨rfl, hb2⟩)
  have h3a := (HA.out.new hb2).pushB (.cells #[Value.bool b0, Value.bool b1, Value.int .i64 hd] 81)
  have HJ2 : Hid (j < (r ++ [blockP Q (.cells #[.int .i64 (K.t : Int), .int .u32 (K.a : Int)] 211)]).length) := Lib.hid (by rw [List.length_append]; have := HJ.out; omega)
  have hn := heap_alloc_new w2 (.cells #[Value.bool b0, Value.bool b1, Value.int .i64 hd] 81)
  have s0 := cell_row hn 0; have s1 := cell_row hn 1; have s2 := cell_row hn 2
  have f0 := froz_row hn 2
  have k0 := bcell (hb2.trans ((below1 w2 (.cells #[Value.bool b0, Value.bool b1, Value.int .i64 hd] 81)).mono hb2.size)) k0; have k1 := bcell (hb2.trans ((below1 w2 (.cells #[Value.bool b0, Value.bool b1, Value.int .i64 hd] 81)).mono hb2.size)) k1
  simp only [List.getElem?_toArray, List.getElem?_cons_zero, List.getElem?_cons_succ] at s0 s1 s2
  obtain ⟨Qs, hQs⟩ : ∃ x, x = w2.heap.size := ⟨_, rfl⟩
  rw [← hQs] at h3a hn s0 s1 s2 f0 ⊢
  have h3 := h3a.turnLast HJ2.out (.cells #[Value.bool b0, Value.bool b1, Value.int .i64 (K.t : Int)] 81) (set_blk hn 2 (.int .i64 (K.t : Int)) _ (by simp)) ((Turns.refl (fun k => k = Qs) _).setCell ⟨Qs, 2, none⟩ _ rfl)
  have H3 := Lib.hid h3
  clear h3 h3a hQs hn c1
  generalize w2.alloc (.cells #[Value.bool b0, Value.bool b1, Value.int .i64 hd] 81) = w2' at *
  go_upto_region 3 with (fail)
  generalize w2'.setCell ⟨Qs, 2, none⟩ (.int .i64 (K.t : Int)) = w3 at *
  have hl2 := H3.out.last HJ2.out
  have hlb := (H3.out.dropB HJ2.out).last HJ.out
  have c1 : w3.drew.cell? ⟨B, 1, none⟩ = some (.int .u64 (K.st : Int)) := H3.out.b1
  have HF : Hid ((fun w' => w'.cell? ⟨Q, 0, none⟩ = some (.int .i64 (K.t : Int)) ∧ w'.cell? ⟨Q, 1, none⟩ = some (.int .u32 (K.a : Int)) ∧ w'.cell? ⟨Qs, 0, none⟩ = some (Value.bool b0) ∧ w'.cell? ⟨Qs, 1, none⟩ = some (Value.bool b1) ∧ w'.cell? ⟨Qs, 2, none⟩ = some (Value.int .i64 (K.t : Int))) w3.drew) := Lib.hid ⟨cell_row hlb 0, cell_row hlb 1, cell_row hl2 0, cell_row hl2 1, cell_row hl2 2⟩
  clear hl2 hlb k0 k1 s0 s1 s2 f0 HAS hb2
  refine wp_region_held_drew (S := fun w' => w'.cell? ⟨Q, 0, none⟩ = some (.int .i64 (K.t : Int)) ∧ w'.cell? ⟨Q, 1, none⟩ = some (.int .u32 (K.a : Int)) ∧ w'.cell? ⟨Qs, 0, none⟩ = some (Value.bool b0) ∧ w'.cell? ⟨Qs, 1, none⟩ = some (Value.bool b1) ∧ w'.cell? ⟨Qs, 2, none⟩ = some (Value.int .i64 (K.t : Int))) (by kernel_rfl) ?_ (fun hHeld => ?_)
  · exact HF.out
  refine wpAnyH_take (i := 0) (oi := ({ dst := some 15, op := Op.load 211 (Operand.tmp 3), type := 211, pos := "wordlocks.go:92", after := #[], guard := none } : Oper)) (v := ?vqx1) rfl (by kernel_rfl) (by kernel_rfl) (by kernel_rfl) (fun _ _ _ h => h) (Or.inl ⟨by rfl, fun w hSw => ?hyqx1⟩) (by assumption) ?rqx1
  case hyqx1 => (try dsimp only at hSw); go_simp; (try with_reducible rfl)
  (try simp only [Act.put, List.setIfInBounds_toArray, List.set_cons_zero, List.set_cons_succ])
  refine wpAnyH_take (i := 1) (oi := ({ dst := some 16, op := Op.move (Operand.tmp 1), type := 202, pos := "wordlocks.go:92", after := #[], guard := none } : Oper)) (v := ?vqx2) rfl (by kernel_rfl) (by kernel_rfl) (by kernel_rfl) (fun _ _ _ h => h) (Or.inl ⟨by rfl, fun w hSw => ?hyqx2⟩) (by assumption) ?rqx2
  case hyqx2 => (try dsimp only at hSw); go_simp; (try with_reducible rfl)
  (try simp only [Act.put, List.setIfInBounds_toArray, List.set_cons_zero, List.set_cons_succ])
  refine wpAnyH_take (i := 2) (oi := ({ dst := some 17, op := Op.move (Operand.tmp 2), type := 25, pos := "wordlocks.go:92", after := #[], guard := none } : Oper)) (v := ?vqx3) rfl (by kernel_rfl) (by kernel_rfl) (by kernel_rfl) (fun _ _ _ h => h) (Or.inl ⟨by rfl, fun w hSw => ?hyqx3⟩) (by assumption) ?rqx3
  case hyqx3 => (try dsimp only at hSw); go_simp; (try with_reducible rfl)
  (try simp only [Act.put, List.setIfInBounds_toArray, List.set_cons_zero, List.set_cons_succ])
  refine wpAnyH_take (i := 3) (oi := ({ dst := some 18, op := Op.move (Operand.tmp 1), type := 202, pos := "wordlocks.go:92", after := #[], guard := none } : Oper)) (v := ?vqx4) rfl (by kernel_rfl) (by kernel_rfl) (by kernel_rfl) (fun _ _ _ h => h) (Or.inl ⟨by rfl, fun w hSw => ?hyqx4⟩) (by assumption) ?rqx4
  case hyqx4 => (try dsimp only at hSw); go_simp; (try with_reducible rfl)
  (try simp only [Act.put, List.setIfInBounds_toArray, List.set_cons_zero, List.set_cons_succ])
  refine wpAnyH_take (i := 4) (oi := ({ dst := some 19, op := Op.nilCheck (Operand.tmp 18), type := 0, pos := "wordlocks.go:92", after := #[{ on := 3, ground := Ground.data }], guard := none } : Oper)) (v := ?vqx5) rfl (by kernel_rfl) (by kernel_rfl) (by kernel_rfl) (fun _ _ _ h => h) (Or.inl ⟨by rfl, fun w hSw => ?hyqx5⟩) (by assumption) ?rqx5
  case hyqx5 => (try dsimp only at hSw); go_simp; (try with_reducible rfl)
  (try simp only [Act.put, List.setIfInBounds_toArray, List.set_cons_zero, List.set_cons_succ])
  refine wpAnyH_take (i := 5) (oi := ({ dst := some 20, op := Op.fieldAddr 209 (Operand.tmp 19) 1, type := 0, pos := "wordlocks.go:92", after := #[{ on := 4, ground := Ground.data }], guard := none } : Oper)) (v := ?vqx6) rfl (by kernel_rfl) (by kernel_rfl) (by kernel_rfl) (fun _ _ _ h => h) (Or.inl ⟨by rfl, fun w hSw => ?hyqx6⟩) (by assumption) ?rqx6
  case hyqx6 => (try dsimp only at hSw); go_simp; (try with_reducible rfl)
  (try simp only [Act.put, List.setIfInBounds_toArray, List.set_cons_zero, List.set_cons_succ])
  refine wpAnyH_take (i := 7) (oi := ({ dst := some 22, op := Op.load 81 (Operand.tmp 6), type := 81, pos := "wordlocks.go:92", after := #[], guard := none } : Oper)) (v := ?vqx7) rfl (by kernel_rfl) (by kernel_rfl) (by kernel_rfl) (fun _ _ _ h => h) (Or.inl ⟨by rfl, fun w hSw => ?hyqx7⟩) (by assumption) ?rqx7
  case hyqx7 => (try dsimp only at hSw); go_simp; (try with_reducible rfl)
  (try simp only [Act.put, List.setIfInBounds_toArray, List.set_cons_zero, List.set_cons_succ])
  refine wpAnyH_ready (rs := [6, 8]) (by kernel_rfl) (by simp) ?_
  refine AllReadyH.cons (o := ({ dst := some 21, op := Op.load 36 (Operand.tmp 20), type := 36, pos := "wordlocks.go:92", after := #[{ on := 5, ground := Ground.data }], guard := none } : Oper)) rfl (fun Kq hKq => ?_) ?_
  · go_simp
    refine hKq.out _ _ ?_ (fun hHeld => ?_)
    · exact hHeld
    clear hKq Kq
    (try simp only [Act.put, List.setIfInBounds_toArray, List.set_cons_zero, List.set_cons_succ])
    refine wpAnyH_ready (rs := [8]) (by kernel_rfl) (by simp) ?_
    refine AllReadyH.cons (o := ({ dst := some 23, op := Op.call { callee := Callee.value (Operand.func 58), args := #[Operand.tmp 22], argTypes := #[81] }, type := 36, pos := "wordlocks.go:92", after := #[{ on := 7, ground := Ground.data }], guard := none } : Oper)) rfl (fun Kq hKq => ?_) AllReadyH.nil
    go_simp
    (refine (HPT.out _).mono ?_; rintro e w4 ⟨rfl, hb4⟩; have c1 := bcell hb4 c1; have HSW := Lib.hid (HSWW.out w4 _ ((H3.out.new (Below.refl _ _).drew).new hb4)))
    refine hKq.out _ _ ?_ (fun hHeld => ?_)
    · exact ⟨bcell hb4 hHeld.1, bcell hb4 hHeld.2.1, bcell hb4 hHeld.2.2.1, bcell hb4 hHeld.2.2.2.1, bcell hb4 hHeld.2.2.2.2⟩
    clear hKq Kq
    (try simp only [Act.put, List.setIfInBounds_toArray, List.set_cons_zero, List.set_cons_succ])
    refine wpAnyH_ready (rs := [9]) (by kernel_rfl) (by simp) ?_
    refine AllReadyH.cons (o := ({ dst := some 24, op := Op.call { callee := Callee.value (Operand.func 105), args := #[Operand.tmp 15, Operand.tmp 16, Operand.tmp 17, Operand.tmp 21, Operand.tmp 23], argTypes := #[211, 202, 25, 36, 36] }, type := 4, pos := "wordlocks.go:92", after := #[{ on := 0, ground := Ground.data }, { on := 1, ground := Ground.data }, { on := 2, ground := Ground.data }, { on := 6, ground := Ground.data }, { on := 8, ground := Ground.data }, { on := 8, ground := Ground.chain }], guard := none } : Oper)) rfl (fun Kq hKq => ?_) AllReadyH.nil
    go_simp
    (refine HSW.out.mono ?_; rintro e w5 ⟨rfl, X5, h5⟩)
    refine hKq.out _ _ ?_ (fun hHeld => ?_)
    · (have hl := (h5.dropB HJ2.out).last HJ.out; have hl2 := h5.last HJ2.out; exact ⟨cell_row hl 0, cell_row hl 1, cell_row hl2 0, cell_row hl2 1, cell_row hl2 2⟩)
    clear hKq Kq
    (try simp only [Act.put, List.setIfInBounds_toArray, List.set_cons_zero, List.set_cons_succ])
    refine wpAnyH_done (by kernel_rfl) ?_ _
    have h7 := (h5.dropB HJ2.out)
    have hl := h7.last HJ.out
    have k0 := cell_row hl 0; have k1 := cell_row hl 1
    simp only [List.getElem?_toArray, List.getElem?_cons_zero, List.getElem?_cons_succ] at k0 k1
    clear hl hHeld c1 h5
    go_upto_if 24 with fail
    by_cases e : x = K.st
    · rw [decide_eq_true e]
      have hk2 : K.cas x K.st K = K := if_pos e
      rw [hk2] at h7
      have c0 := h7.b0; have z0 := h7.fz 0; have c3 := h7.b3; have z3 := h7.fz 3
      have HK := Lib.hid (show K.cas x K.st { K with ln := 6 } = { K with ln := 6 } from if_pos e); have H5 := Lib.hid h7
      clear hk2 e h7 HSW HSWW
      go_wp2_with fail
      go_end0
      exact ⟨rfl, X5, by rw [HK.out]; exact (H5.out.next2 6 _ rfl true rfl).dropB HJ.out⟩
    · rw [decide_eq_false e]
      have HK := Lib.hid (show K.cas x K.st { K with ln := 6 } = K.cas x K.st K from (if_neg e).trans (if_neg e).symm); have H5 := Lib.hid h7
      clear e h7 HSW HSWW
      go_wp2_with fail
      go_end0
      exact ⟨rfl, X5, by rw [HK.out]; exact H5.out.dropB HJ.out⟩
  refine AllReadyH.cons (o := ({ dst := some 23, op := Op.call { callee := Callee.value (Operand.func 58), args := #[Operand.tmp 22], argTypes := #[81] }, type := 36, pos := "wordlocks.go:92", after := #[{ on := 7, ground := Ground.data }], guard := none } : Oper)) rfl (fun Kq hKq => ?_) AllReadyH.nil
  go_simp
  (refine (HPT.out _).mono ?_; rintro e w4 ⟨rfl, hb4⟩; have c1 := bcell hb4 c1; have HSW := Lib.hid (HSWW.out w4 _ ((H3.out.new (Below.refl _ _).drew).new hb4)))
  refine hKq.out _ _ ?_ (fun hHeld => ?_)
  · exact ⟨bcell hb4 hHeld.1, bcell hb4 hHeld.2.1, bcell hb4 hHeld.2.2.1, bcell hb4 hHeld.2.2.2.1, bcell hb4 hHeld.2.2.2.2⟩
  clear hKq Kq
  (try simp only [Act.put, List.setIfInBounds_toArray, List.set_cons_zero, List.set_cons_succ])
  refine wpAnyH_ready (rs := [6]) (by kernel_rfl) (by simp) ?_
  refine AllReadyH.cons (o := ({ dst := some 21, op := Op.load 36 (Operand.tmp 20), type := 36, pos := "wordlocks.go:92", after := #[{ on := 5, ground := Ground.data }], guard := none } : Oper)) rfl (fun Kq hKq => ?_) AllReadyH.nil
  go_simp
  refine hKq.out _ _ ?_ (fun hHeld => ?_)
  · exact hHeld
  clear hKq Kq
  (try simp only [Act.put, List.setIfInBounds_toArray, List.set_cons_zero, List.set_cons_succ])
  refine wpAnyH_ready (rs := [9]) (by kernel_rfl) (by simp) ?_
  refine AllReadyH.cons (o := ({ dst := some 24, op := Op.call { callee := Callee.value (Operand.func 105), args := #[Operand.tmp 15, Operand.tmp 16, Operand.tmp 17, Operand.tmp 21, Operand.tmp 23], argTypes := #[211, 202, 25, 36, 36] }, type := 4, pos := "wordlocks.go:92", after := #[{ on := 0, ground := Ground.data }, { on := 1, ground := Ground.data }, { on := 2, ground := Ground.data }, { on := 6, ground := Ground.data }, { on := 8, ground := Ground.data }, { on := 8, ground := Ground.chain }], guard := none } : Oper)) rfl (fun Kq hKq => ?_) AllReadyH.nil
  go_simp
  (refine HSW.out.mono ?_; rintro e w5 ⟨rfl, X5, h5⟩)
  refine hKq.out _ _ ?_ (fun hHeld => ?_)
  · (have hl := (h5.dropB HJ2.out).last HJ.out; have hl2 := h5.last HJ2.out; exact ⟨cell_row hl 0, cell_row hl 1, cell_row hl2 0, cell_row hl2 1, cell_row hl2 2⟩)
  clear hKq Kq
  (try simp only [Act.put, List.setIfInBounds_toArray, List.set_cons_zero, List.set_cons_succ])
  refine wpAnyH_done (by kernel_rfl) ?_ _
  have h7 := (h5.dropB HJ2.out)
  have hl := h7.last HJ.out
  have k0 := cell_row hl 0; have k1 := cell_row hl 1
  simp only [List.getElem?_toArray, List.getElem?_cons_zero, List.getElem?_cons_succ] at k0 k1
  clear hl hHeld c1 h5
  go_upto_if 24 with fail
  by_cases e : x = K.st
  · rw [decide_eq_true e]
    have hk2 : K.cas x K.st K = K := if_pos e
    rw [hk2] at h7
    have c0 := h7.b0; have z0 := h7.fz 0; have c3 := h7.b3; have z3 := h7.fz 3
    have HK := Lib.hid (show K.cas x K.st { K with ln := 6 } = { K with ln := 6 } from if_pos e); have H5 := Lib.hid h7
    clear hk2 e h7 HSW HSWW
    go_wp2_with fail
    go_end0
    exact ⟨rfl, X5, by rw [HK.out]; exact (H5.out.next2 6 _ rfl true rfl).dropB HJ.out⟩
  · rw [decide_eq_false e]
    have HK := Lib.hid (show K.cas x K.st { K with ln := 6 } = K.cas x K.st K from (if_neg e).trans (if_neg e).symm); have H5 := Lib.hid h7
    clear e h7 HSW HSWW
    go_wp2_with fail
    go_end0
    exact ⟨rfl, X5, by rw [HK.out]; exact H5.out.dropB HJ.out⟩
end
end Go.Proofs.YthafnphpcdbnlaaGreat.S13
namespace Go.Proofs.YthafnphpcdbnlaaGreat.S13
open Go.Proofs.YthafnphpcdbnlaaGreat Go.Proofs.YthafnphpcdbnlaaGreat.S11 Go.Proofs.YthafnphpcdbnlaaGreat.S12
open Go.RowKit

theorem field_hd (a b : Bool) (h : Int) (w : World) : (Instr.field 81 (.agg #[.bool a, .bool b, .int .i64 h]) 2).run Tryz.prog w = .ok (.int .i64 h) w := by kernel_rfl

section
variable {w0 w w' : World} {base WB : Nat} {M : Sd} {r : List Part} {j B : Nat} {K : Lk} {X : Wm}
set_option maxRecDepth 100000 in
set_option maxHeartbeats 4000000 in
theorem look_l (h : Wl w0 w base WB M r j B K X) (ok : LkOk M K) (hl : K.ln = 3) : Calls Tryz.prog 109 #[askV K.t K.a, Pw B, Pw WB] w fun e w' => e = .returned (.tuple #[]) ∧ Stepped w0 w' base WB M r j B K := by
  unfold Stepped
  rw [show stepM M K = _ from by simp only [stepM, hl]; rfl, show stepK M K = _ from by simp only [stepK, hl]; rfl]
  have hj := h.hj
  have hA := h.pushB (.cells #[.int .i64 (K.t : Int), .int .u32 (K.a : Int)] 211)
  have k0 := cell_row (heap_alloc_new w (.cells #[.int .i64 (K.t : Int), .int .u32 (K.a : Int)] 211)) 0; have k1 := cell_row (heap_alloc_new w (.cells #[.int .i64 (K.t : Int), .int .u32 (K.a : Int)] 211)) 1
  simp only [List.getElem?_toArray, List.getElem?_cons_zero, List.getElem?_cons_succ] at k0 k1
  obtain ⟨Q, hQ⟩ : ∃ Q, Q = w.heap.size := ⟨_, rfl⟩
  rw [← hQ] at hA k0 k1
  have HA := Lib.hid hA; have HJ := Lib.hid hj; have HQ := Lib.hid hQ
  obtain ⟨x, hx⟩ : ∃ x, x = S2.look M.L K.a := ⟨_, rfl⟩
  have hxl : x < 18446744073709551616 := by rw [hx]; exact hA.look K.a
  have HC := Lib.hid ((hA.new (Below.refl _ _).drew).pg.load ok.a ok.n)
  rw [← hx] at HC ⊢
  have HTT : Hid (∀ W M' X', Wl w0 W base WB M' (r ++ [blockP Q (.cells #[.int .i64 (K.t : Int), .int .u32 (K.a : Int)] 211)]) j B K X' → Calls Tryz.prog 106 #[askV K.t K.a, Pw B, .int .u64 (x : Int)] W fun e w' => e = .returned (.tuple #[]) ∧ Wl w0 w' base WB M' (r ++ [blockP Q (.cells #[.int .i64 (K.t : Int), .int .u32 (K.a : Int)] 211)]) j B (K.turn x) X') := Lib.hid (fun W M' X' hW => turn_l hW (by omega) (by have := ok.sp; omega) hxl)
  clear hx hxl ok hl
  clear h hj hQ
  go_enter Tryz.func109, Tryz.ntmps109
  go_upto_region 1 with (fail)
  rw [← HQ.out]
  generalize w.alloc (.cells #[.int .i64 (K.t : Int), .int .u32 (K.a : Int)] 211) = w1 at *
  have HF : Hid ((fun w' => w'.cell? ⟨Q, 0, none⟩ = some (.int .i64 (K.t : Int)) ∧ w'.cell? ⟨Q, 1, none⟩ = some (.int .u32 (K.a : Int)) ∧ w'.cell? ⟨WB, 0, none⟩ = some (Pw X.cB)) w1.drew) := Lib.hid ⟨k0, k1, HA.out.pg.c.1⟩
  clear hA
  refine wp_region_held_drew (S := fun w' => w'.cell? ⟨Q, 0, none⟩ = some (.int .i64 (K.t : Int)) ∧ w'.cell? ⟨Q, 1, none⟩ = some (.int .u32 (K.a : Int)) ∧ w'.cell? ⟨WB, 0, none⟩ = some (Pw X.cB)) (by kernel_rfl) ?_ (fun hHeld => ?_)
  · exact HF.out
  refine wpAnyH_take (i := 0) (oi := ({ dst := some 6, op := Op.load 211 (Operand.tmp 3), type := 211, pos := "wordlocks.go:78", after := #[], guard := none } : Oper)) (v := ?vkm1) rfl (by kernel_rfl) (by kernel_rfl) (by kernel_rfl) (fun _ _ _ h => h) (Or.inl ⟨by rfl, fun w hSw => ?hykm1⟩) (by assumption) ?rkm1
  case hykm1 => (try dsimp only at hSw); go_simp; (try with_reducible rfl)
  (try simp only [Act.put, List.setIfInBounds_toArray, List.set_cons_zero, List.set_cons_succ])
  refine wpAnyH_take (i := 1) (oi := ({ dst := some 7, op := Op.move (Operand.tmp 1), type := 202, pos := "wordlocks.go:78", after := #[], guard := none } : Oper)) (v := ?vkm2) rfl (by kernel_rfl) (by kernel_rfl) (by kernel_rfl) (fun _ _ _ h => h) (Or.inl ⟨by rfl, fun w hSw => ?hykm2⟩) (by assumption) ?rkm2
  case hykm2 => (try dsimp only at hSw); go_simp; (try with_reducible rfl)
  (try simp only [Act.put, List.setIfInBounds_toArray, List.set_cons_zero, List.set_cons_succ])
  refine wpAnyH_take (i := 2) (oi := ({ dst := some 8, op := Op.move (Operand.tmp 2), type := 25, pos := "wordlocks.go:78", after := #[], guard := none } : Oper)) (v := ?vkm3) rfl (by kernel_rfl) (by kernel_rfl) (by kernel_rfl) (fun _ _ _ h => h) (Or.inl ⟨by rfl, fun w hSw => ?hykm3⟩) (by assumption) ?rkm3
  case hykm3 => (try dsimp only at hSw); go_simp; (try with_reducible rfl)
  (try simp only [Act.put, List.setIfInBounds_toArray, List.set_cons_zero, List.set_cons_succ])
  refine wpAnyH_take (i := 3) (oi := ({ dst := some 9, op := Op.nilCheck (Operand.tmp 8), type := 0, pos := "wordlocks.go:78", after := #[{ on := 2, ground := Ground.data }], guard := none } : Oper)) (v := ?vkm4) rfl (by kernel_rfl) (by kernel_rfl) (by kernel_rfl) (fun _ _ _ h => h) (Or.inl ⟨by rfl, fun w hSw => ?hykm4⟩) (by assumption) ?rkm4
  case hykm4 => (try dsimp only at hSw); go_simp; (try with_reducible rfl)
  (try simp only [Act.put, List.setIfInBounds_toArray, List.set_cons_zero, List.set_cons_succ])
  refine wpAnyH_take (i := 4) (oi := ({ dst := some 10, op := Op.fieldAddr 45 (Operand.tmp 9) 0, type := 0, pos := "wordlocks.go:78", after := #[{ on := 3, ground := Ground.data }], guard := none } : Oper)) (v := ?vkm5) rfl (by kernel_rfl) (by kernel_rfl) (by kernel_rfl) (fun _ _ _ h => h) (Or.inl ⟨by rfl, fun w hSw => ?hykm5⟩) (by assumption) ?rkm5
  case hykm5 => (try dsimp only at hSw); go_simp; (try with_reducible rfl)
  (try simp only [Act.put, List.setIfInBounds_toArray, List.set_cons_zero, List.set_cons_succ])
  refine wpAnyH_take (i := 5) (oi := ({ dst := some 11, op := Op.load 37 (Operand.tmp 10), type := 37, pos := "wordlocks.go:78", after := #[{ on := 4, ground := Ground.data }], guard := none } : Oper)) (v := ?vkm6) rfl (by kernel_rfl) (by kernel_rfl) (by kernel_rfl) (fun _ _ _ h => h) (Or.inl ⟨by rfl, fun w hSw => ?hykm6⟩) (by assumption) ?rkm6
  case hykm6 => (try dsimp only at hSw); go_simp; (try with_reducible rfl)
  (try simp only [Act.put, List.setIfInBounds_toArray, List.set_cons_zero, List.set_cons_succ])
  refine wpAnyH_take (i := 6) (oi := ({ dst := some 12, op := Op.fieldAddr 211 (Operand.tmp 3) 1, type := 0, pos := "wordlocks.go:78", after := #[], guard := none } : Oper)) (v := ?vkm7) rfl (by kernel_rfl) (by kernel_rfl) (by kernel_rfl) (fun _ _ _ h => h) (Or.inl ⟨by rfl, fun w hSw => ?hykm7⟩) (by assumption) ?rkm7
  case hykm7 => (try dsimp only at hSw); go_simp; (try with_reducible rfl)
  (try simp only [Act.put, List.setIfInBounds_toArray, List.set_cons_zero, List.set_cons_succ])
  refine wpAnyH_take (i := 7) (oi := ({ dst := some 13, op := Op.load 30 (Operand.tmp 12), type := 30, pos := "wordlocks.go:78", after := #[{ on := 6, ground := Ground.data }], guard := none } : Oper)) (v := ?vkm8) rfl (by kernel_rfl) (by kernel_rfl) (by kernel_rfl) (fun _ _ _ h => h) (Or.inl ⟨by rfl, fun w hSw => ?hykm8⟩) (by assumption) ?rkm8
  case hykm8 => (try dsimp only at hSw); go_simp; (try with_reducible rfl)
  (try simp only [Act.put, List.setIfInBounds_toArray, List.set_cons_zero, List.set_cons_succ])
  refine wpAnyH_ready (rs := [8]) (by kernel_rfl) (by simp) ?_
  refine AllReadyH.cons (o := ({ dst := some 14, op := Op.call { callee := Callee.value (Operand.func 55), args := #[Operand.tmp 11, Operand.tmp 13], argTypes := #[37, 30] }, type := 36, pos := "wordlocks.go:78", after := #[{ on := 5, ground := Ground.data }, { on := 7, ground := Ground.data }], guard := none } : Oper)) rfl (fun Kq hKq => ?_) AllReadyH.nil
  go_simp
  (refine HC.out.mono ?_; rintro e w3 ⟨rfl, X3, h3g, hcB⟩; have h3 : Wl w0 w3 base WB (M.acc 1 K.a x) (r ++ [blockP Q (.cells #[.int .i64 (K.t : Int), .int .u32 (K.a : Int)] 211)]) j B K X3 := ⟨h3g, HA.out.hj⟩; have HTN := Lib.hid (HTT.out _ _ _ h3); have q3 := h3.pg.c.1; rw [hcB] at q3; have hl := h3.last HJ.out; have HCB := Lib.hid hcB)
  refine hKq.out _ _ ?_ (fun hHeld => ?_)
  · exact ⟨cell_row hl 0, cell_row hl 1, q3⟩
  clear hKq Kq
  (try simp only [Act.put, List.setIfInBounds_toArray, List.set_cons_zero, List.set_cons_succ])
  refine wpAnyH_ready (rs := [9]) (by kernel_rfl) (by simp) ?_
  refine AllReadyH.cons (o := ({ dst := some 15, op := Op.call { callee := Callee.value (Operand.func 106), args := #[Operand.tmp 6, Operand.tmp 7, Operand.tmp 14], argTypes := #[211, 202, 36] }, type := 0, pos := "wordlocks.go:78", after := #[{ on := 0, ground := Ground.data }, { on := 1, ground := Ground.data }, { on := 8, ground := Ground.data }, { on := 8, ground := Ground.chain }], guard := none } : Oper)) rfl (fun Kq hKq => ?_) AllReadyH.nil
  go_simp
  (refine HTN.out.mono ?_; rintro e w4 ⟨rfl, h4⟩; have q4 := h4.pg.c.1; rw [HCB.out] at q4; have hl4 := h4.last HJ.out)
  refine hKq.out _ _ ?_ (fun hHeld => ?_)
  · exact ⟨cell_row hl4 0, cell_row hl4 1, q4⟩
  clear hKq Kq
  (try simp only [Act.put, List.setIfInBounds_toArray, List.set_cons_zero, List.set_cons_succ])
  refine wpAnyH_done (by kernel_rfl) ?_ _
  have H4 := Lib.hid h4
  clear hHeld q3 hl q4 hl4 h3 h3g h4 hcB
  go_wp2_with fail
  go_end0
  exact ⟨rfl, X3, H4.out.dropB HJ.out⟩
set_option maxRecDepth 100000 in
set_option maxHeartbeats 4000000 in
theorem prepare_l (h : Wl w0 w base WB M r j B K X) (ok : LkOk M K) (hl : K.ln = 4) : Calls Tryz.prog 110 #[askV K.t K.a, Pw B, Pw WB] w fun e w' => e = .returned (.tuple #[]) ∧ Stepped w0 w' base WB M r j B K := by
  unfold Stepped
  rw [show stepM M K = _ from by simp only [stepM, hl]; rfl, show stepK M K = _ from by simp only [stepK, hl]; rfl]
  have hj := h.hj
  have hA := h.pushB (.cells #[.int .i64 (K.t : Int), .int .u32 (K.a : Int)] 211)
  have k0 := cell_row (heap_alloc_new w (.cells #[.int .i64 (K.t : Int), .int .u32 (K.a : Int)] 211)) 0; have k1 := cell_row (heap_alloc_new w (.cells #[.int .i64 (K.t : Int), .int .u32 (K.a : Int)] 211)) 1
  simp only [List.getElem?_toArray, List.getElem?_cons_zero, List.getElem?_cons_succ] at k0 k1
  obtain ⟨Q, hQ⟩ : ∃ Q, Q = w.heap.size := ⟨_, rfl⟩
  rw [← hQ] at hA k0 k1
  have HA := Lib.hid hA; have HJ := Lib.hid hj; have HQ := Lib.hid hQ
  obtain ⟨b0, hb0⟩ : ∃ x, x = S1.bitB K.st 0 := ⟨_, rfl⟩
  obtain ⟨b1, hb1⟩ : ∃ x, x = S1.bitB K.st 1 := ⟨_, rfl⟩
  obtain ⟨hd, hhd⟩ : ∃ x, x = S1.headN K.st := ⟨_, rfl⟩
  have HAS : Hid (∀ W, Calls Tryz.prog 52 #[.int .u64 (K.st : Int)] W fun e w' => e = .returned (.agg #[.bool b0, .bool b1, .int .i64 hd]) ∧ Below W.heap.size W w') := Lib.hid (fun W => by
    have := S1.as_any K.st ok.st W
    unfold S1.asV at this
    rw [← hb0, ← hb1, ← hhd] at this
    exact this)
  have HT := Lib.hid (fun W => word_any K.t ok.t W)
  have HC := Lib.hid ((hA.new (Below.refl _ _).drew).pg.prep ok.pn (i := 2 * K.t + 1) (by have := ok.t; omega))
  have hnt : S5.Num (K.t : Int) (some K.t) := S5.nm K.t ok.t
  have hnh := num_head K.st
  rw [← hhd] at hnh
  have HPU : Hid (∀ W X', Pg w0 W base WB (M.prep (2 * K.t + 1)) ((r ++ [blockP Q (.cells #[.int .i64 (K.t : Int), .int .u32 (K.a : Int)] 211)]).set j (lockP B K)) X' → Calls Tryz.prog 94 #[Pw X'.lB, .int .i64 (K.t : Int), .int .i64 hd] W fun e w' => e = .returned (.tuple #[]) ∧ ∃ X'', Pg w0 w' base WB ((M.prep (2 * K.t + 1)).link (S5.pushS (M.prep (2 * K.t + 1)).lk (some K.t) (hdO K.st))) ((r ++ [blockP Q (.cells #[.int .i64 (K.t : Int), .int .u32 (K.a : Int)] 211)]).set j (lockP B K)) X'' ∧ X''.lB = X'.lB) := Lib.hid (fun W X' hW => hW.push hnt hnh)
  have HH6 : Hid (K.ln ≠ 6) := Lib.hid (by omega)
  clear ok hl hb0 hb1 hhd hnt hnh
  clear h hj hQ
  go_enter Tryz.func110, Tryz.ntmps110
  go_upto_region 1 with (fail)
  rw [← HQ.out]
  generalize w.alloc (.cells #[.int .i64 (K.t : Int), .int .u32 (K.a : Int)] 211) = w1 at *
  have HF : Hid ((fun w' => w'.cell? ⟨Q, 0, none⟩ = some (.int .i64 (K.t : Int)) ∧ w'.cell? ⟨WB, 2, none⟩ = some (Pw X.pB)) w1.drew) := Lib.hid ⟨k0, HA.out.pg.c.2.1⟩
  clear hA
  refine wp_region_held_drew (S := fun w' => w'.cell? ⟨Q, 0, none⟩ = some (.int .i64 (K.t : Int)) ∧ w'.cell? ⟨WB, 2, none⟩ = some (Pw X.pB)) (by kernel_rfl) ?_ (fun hHeld => ?_)
  · exact HF.out
  refine wpAnyH_take (i := 0) (oi := ({ dst := some 6, op := Op.move (Operand.tmp 2), type := 25, pos := "wordlocks.go:83", after := #[], guard := none } : Oper)) (v := ?vpm1) rfl (by kernel_rfl) (by kernel_rfl) (by kernel_rfl) (fun _ _ _ h => h) (Or.inl ⟨by rfl, fun w hSw => ?hypm1⟩) (by assumption) ?rpm1
  case hypm1 => (try dsimp only at hSw); go_simp; (try with_reducible rfl)
  (try simp only [Act.put, List.setIfInBounds_toArray, List.set_cons_zero, List.set_cons_succ])
  refine wpAnyH_take (i := 1) (oi := ({ dst := some 7, op := Op.nilCheck (Operand.tmp 6), type := 0, pos := "wordlocks.go:83", after := #[{ on := 0, ground := Ground.data }], guard := none } : Oper)) (v := ?vpm2) rfl (by kernel_rfl) (by kernel_rfl) (by kernel_rfl) (fun _ _ _ h => h) (Or.inl ⟨by rfl, fun w hSw => ?hypm2⟩) (by assumption) ?rpm2
  case hypm2 => (try dsimp only at hSw); go_simp; (try with_reducible rfl)
  (try simp only [Act.put, List.setIfInBounds_toArray, List.set_cons_zero, List.set_cons_succ])
  refine wpAnyH_take (i := 2) (oi := ({ dst := some 8, op := Op.fieldAddr 45 (Operand.tmp 7) 2, type := 0, pos := "wordlocks.go:83", after := #[{ on := 1, ground := Ground.data }], guard := none } : Oper)) (v := ?vpm3) rfl (by kernel_rfl) (by kernel_rfl) (by kernel_rfl) (fun _ _ _ h => h) (Or.inl ⟨by rfl, fun w hSw => ?hypm3⟩) (by assumption) ?rpm3
  case hypm3 => (try dsimp only at hSw); go_simp; (try with_reducible rfl)
  (try simp only [Act.put, List.setIfInBounds_toArray, List.set_cons_zero, List.set_cons_succ])
  refine wpAnyH_take (i := 3) (oi := ({ dst := some 9, op := Op.load 39 (Operand.tmp 8), type := 39, pos := "wordlocks.go:83", after := #[{ on := 2, ground := Ground.data }], guard := none } : Oper)) (v := ?vpm4) rfl (by kernel_rfl) (by kernel_rfl) (by kernel_rfl) (fun _ _ _ h => h) (Or.inl ⟨by rfl, fun w hSw => ?hypm4⟩) (by assumption) ?rpm4
  case hypm4 => (try dsimp only at hSw); go_simp; (try with_reducible rfl)
  (try simp only [Act.put, List.setIfInBounds_toArray, List.set_cons_zero, List.set_cons_succ])
  refine wpAnyH_take (i := 4) (oi := ({ dst := some 10, op := Op.fieldAddr 211 (Operand.tmp 3) 0, type := 0, pos := "wordlocks.go:83", after := #[], guard := none } : Oper)) (v := ?vpm5) rfl (by kernel_rfl) (by kernel_rfl) (by kernel_rfl) (fun _ _ _ h => h) (Or.inl ⟨by rfl, fun w hSw => ?hypm5⟩) (by assumption) ?rpm5
  case hypm5 => (try dsimp only at hSw); go_simp; (try with_reducible rfl)
  (try simp only [Act.put, List.setIfInBounds_toArray, List.set_cons_zero, List.set_cons_succ])
  refine wpAnyH_take (i := 5) (oi := ({ dst := some 11, op := Op.load 3 (Operand.tmp 10), type := 3, pos := "wordlocks.go:83", after := #[{ on := 4, ground := Ground.data }], guard := none } : Oper)) (v := ?vpm6) rfl (by kernel_rfl) (by kernel_rfl) (by kernel_rfl) (fun _ _ _ h => h) (Or.inl ⟨by rfl, fun w hSw => ?hypm6⟩) (by assumption) ?rpm6
  case hypm6 => (try dsimp only at hSw); go_simp; (try with_reducible rfl)
  (try simp only [Act.put, List.setIfInBounds_toArray, List.set_cons_zero, List.set_cons_succ])
  refine wpAnyH_ready (rs := [6]) (by kernel_rfl) (by simp) ?_
  refine AllReadyH.cons (o := ({ dst := some 12, op := Op.call { callee := Callee.value (Operand.func 60), args := #[Operand.tmp 11], argTypes := #[3] }, type := 3, pos := "wordlocks.go:83", after := #[{ on := 5, ground := Ground.data }], guard := none } : Oper)) rfl (fun Kq hKq => ?_) AllReadyH.nil
  go_simp
  (refine (HT.out _).mono ?_; rintro e w2 ⟨rfl, rfl⟩)
  refine hKq.out _ _ ?_ (fun hHeld => ?_)
  · exact hHeld
  clear hKq Kq
  (try simp only [Act.put, List.setIfInBounds_toArray, List.set_cons_zero, List.set_cons_succ])
  refine wpAnyH_ready (rs := [7]) (by kernel_rfl) (by simp) ?_
  refine AllReadyH.cons (o := ({ dst := some 13, op := Op.call { callee := Callee.value (Operand.func 111), args := #[Operand.tmp 9, Operand.tmp 12], argTypes := #[39, 3] }, type := 0, pos := "wordlocks.go:83", after := #[{ on := 3, ground := Ground.data }, { on := 6, ground := Ground.data }, { on := 6, ground := Ground.chain }], guard := none } : Oper)) rfl (fun Kq hKq => ?_) AllReadyH.nil
  go_simp
  (refine HC.out.mono ?_; rintro e w3 ⟨rfl, X3, h3g, hpB⟩; have h3 : Wl w0 w3 base WB (M.prep (2 * K.t + 1)) (r ++ [blockP Q (.cells #[.int .i64 (K.t : Int), .int .u32 (K.a : Int)] 211)]) j B K X3 := ⟨h3g, HA.out.hj⟩; have q3 := h3.pg.c.2.1; rw [hpB] at q3; have hl := h3.last HJ.out)
  refine hKq.out _ _ ?_ (fun hHeld => ?_)
  · exact ⟨cell_row hl 0, q3⟩
  clear hKq Kq
  (try simp only [Act.put, List.setIfInBounds_toArray, List.set_cons_zero, List.set_cons_succ])
  refine wpAnyH_done (by kernel_rfl) ?_ _
  clear HF
  have HF : Hid ((fun w' => w'.cell? ⟨Q, 0, none⟩ = some (.int .i64 (K.t : Int)) ∧ w'.cell? ⟨WB, 3, none⟩ = some (Pw X3.lB) ∧ w'.cell? ⟨B, 1, none⟩ = some (.int .u64 (K.st : Int))) w3.drew) := Lib.hid ⟨cell_row hl 0, h3.pg.c.2.2.1, h3.b1⟩
  have H3 := Lib.hid h3
  have hfd := field_hd b0 b1 hd
  clear hHeld q3 hl h3 h3g hpB k0 k1
  go_upto_region 2 with (fail)
  refine wp_region_held_drew (S := fun w' => w'.cell? ⟨Q, 0, none⟩ = some (.int .i64 (K.t : Int)) ∧ w'.cell? ⟨WB, 3, none⟩ = some (Pw X3.lB) ∧ w'.cell? ⟨B, 1, none⟩ = some (.int .u64 (K.st : Int))) (by kernel_rfl) ?_ (fun hHeld => ?_)
  · exact HF.out
  refine wpAnyH_take (i := 0) (oi := ({ dst := some 14, op := Op.move (Operand.tmp 2), type := 25, pos := "wordlocks.go:84", after := #[], guard := none } : Oper)) (v := ?vqm1) rfl (by kernel_rfl) (by kernel_rfl) (by kernel_rfl) (fun _ _ _ h => h) (Or.inl ⟨by rfl, fun w hSw => ?hyqm1⟩) (by assumption) ?rqm1
  case hyqm1 => (try dsimp only at hSw); go_simp; (try with_reducible rfl)
  (try simp only [Act.put, List.setIfInBounds_toArray, List.set_cons_zero, List.set_cons_succ])
  refine wpAnyH_take (i := 1) (oi := ({ dst := some 15, op := Op.nilCheck (Operand.tmp 14), type := 0, pos := "wordlocks.go:84", after := #[{ on := 0, ground := Ground.data }], guard := none } : Oper)) (v := ?vqm2) rfl (by kernel_rfl) (by kernel_rfl) (by kernel_rfl) (fun _ _ _ h => h) (Or.inl ⟨by rfl, fun w hSw => ?hyqm2⟩) (by assumption) ?rqm2
  case hyqm2 => (try dsimp only at hSw); go_simp; (try with_reducible rfl)
  (try simp only [Act.put, List.setIfInBounds_toArray, List.set_cons_zero, List.set_cons_succ])
  refine wpAnyH_take (i := 2) (oi := ({ dst := some 16, op := Op.fieldAddr 45 (Operand.tmp 15) 3, type := 0, pos := "wordlocks.go:84", after := #[{ on := 1, ground := Ground.data }], guard := none } : Oper)) (v := ?vqm3) rfl (by kernel_rfl) (by kernel_rfl) (by kernel_rfl) (fun _ _ _ h => h) (Or.inl ⟨by rfl, fun w hSw => ?hyqm3⟩) (by assumption) ?rqm3
  case hyqm3 => (try dsimp only at hSw); go_simp; (try with_reducible rfl)
  (try simp only [Act.put, List.setIfInBounds_toArray, List.set_cons_zero, List.set_cons_succ])
  refine wpAnyH_take (i := 3) (oi := ({ dst := some 17, op := Op.load 40 (Operand.tmp 16), type := 40, pos := "wordlocks.go:84", after := #[{ on := 2, ground := Ground.data }], guard := none } : Oper)) (v := ?vqm4) rfl (by kernel_rfl) (by kernel_rfl) (by kernel_rfl) (fun _ _ _ h => h) (Or.inl ⟨by rfl, fun w hSw => ?hyqm4⟩) (by assumption) ?rqm4
  case hyqm4 => (try dsimp only at hSw); go_simp; (try with_reducible rfl)
  (try simp only [Act.put, List.setIfInBounds_toArray, List.set_cons_zero, List.set_cons_succ])
  refine wpAnyH_take (i := 4) (oi := ({ dst := some 18, op := Op.fieldAddr 211 (Operand.tmp 3) 0, type := 0, pos := "wordlocks.go:84", after := #[], guard := none } : Oper)) (v := ?vqm5) rfl (by kernel_rfl) (by kernel_rfl) (by kernel_rfl) (fun _ _ _ h => h) (Or.inl ⟨by rfl, fun w hSw => ?hyqm5⟩) (by assumption) ?rqm5
  case hyqm5 => (try dsimp only at hSw); go_simp; (try with_reducible rfl)
  (try simp only [Act.put, List.setIfInBounds_toArray, List.set_cons_zero, List.set_cons_succ])
  refine wpAnyH_take (i := 5) (oi := ({ dst := some 19, op := Op.load 3 (Operand.tmp 18), type := 3, pos := "wordlocks.go:84", after := #[{ on := 4, ground := Ground.data }], guard := none } : Oper)) (v := ?vqm6) rfl (by kernel_rfl) (by kernel_rfl) (by kernel_rfl) (fun _ _ _ h => h) (Or.inl ⟨by rfl, fun w hSw => ?hyqm6⟩) (by assumption) ?rqm6
  case hyqm6 => (try dsimp only at hSw); go_simp; (try with_reducible rfl)
  (try simp only [Act.put, List.setIfInBounds_toArray, List.set_cons_zero, List.set_cons_succ])
  refine wpAnyH_take (i := 6) (oi := ({ dst := some 20, op := Op.move (Operand.tmp 1), type := 202, pos := "wordlocks.go:84", after := #[], guard := none } : Oper)) (v := ?vqm7) rfl (by kernel_rfl) (by kernel_rfl) (by kernel_rfl) (fun _ _ _ h => h) (Or.inl ⟨by rfl, fun w hSw => ?hyqm7⟩) (by assumption) ?rqm7
  case hyqm7 => (try dsimp only at hSw); go_simp; (try with_reducible rfl)
  (try simp only [Act.put, List.setIfInBounds_toArray, List.set_cons_zero, List.set_cons_succ])
  refine wpAnyH_take (i := 7) (oi := ({ dst := some 21, op := Op.nilCheck (Operand.tmp 20), type := 0, pos := "wordlocks.go:84", after := #[{ on := 6, ground := Ground.data }], guard := none } : Oper)) (v := ?vqm8) rfl (by kernel_rfl) (by kernel_rfl) (by kernel_rfl) (fun _ _ _ h => h) (Or.inl ⟨by rfl, fun w hSw => ?hyqm8⟩) (by assumption) ?rqm8
  case hyqm8 => (try dsimp only at hSw); go_simp; (try with_reducible rfl)
  (try simp only [Act.put, List.setIfInBounds_toArray, List.set_cons_zero, List.set_cons_succ])
  refine wpAnyH_take (i := 8) (oi := ({ dst := some 22, op := Op.fieldAddr 209 (Operand.tmp 21) 1, type := 0, pos := "wordlocks.go:84", after := #[{ on := 7, ground := Ground.data }], guard := none } : Oper)) (v := ?vqm9) rfl (by kernel_rfl) (by kernel_rfl) (by kernel_rfl) (fun _ _ _ h => h) (Or.inl ⟨by rfl, fun w hSw => ?hyqm9⟩) (by assumption) ?rqm9
  case hyqm9 => (try dsimp only at hSw); go_simp; (try with_reducible rfl)
  (try simp only [Act.put, List.setIfInBounds_toArray, List.set_cons_zero, List.set_cons_succ])
  refine wpAnyH_take (i := 9) (oi := ({ dst := some 23, op := Op.load 36 (Operand.tmp 22), type := 36, pos := "wordlocks.go:84", after := #[{ on := 8, ground := Ground.data }], guard := none } : Oper)) (v := ?vqm10) rfl (by kernel_rfl) (by kernel_rfl) (by kernel_rfl) (fun _ _ _ h => h) (Or.inl ⟨by rfl, fun w hSw => ?hyqm10⟩) (by assumption) ?rqm10
  case hyqm10 => (try dsimp only at hSw); go_simp; (try with_reducible rfl)
  (try simp only [Act.put, List.setIfInBounds_toArray, List.set_cons_zero, List.set_cons_succ])
  refine wpAnyH_ready (rs := [10]) (by kernel_rfl) (by simp) ?_
  refine AllReadyH.cons (o := ({ dst := some 24, op := Op.call { callee := Callee.value (Operand.func 52), args := #[Operand.tmp 23], argTypes := #[36] }, type := 81, pos := "wordlocks.go:84", after := #[{ on := 9, ground := Ground.data }], guard := none } : Oper)) rfl (fun Kq hKq => ?_) AllReadyH.nil
  go_simp
  (refine (HAS.out _).mono ?_; rintro e w4 ⟨rfl, hb4⟩; have HPQ := Lib.hid (HPU.out w4 X3 ((H3.out.new (Below.refl _ _).drew).new hb4).pg))
  refine hKq.out _ _ ?_ (fun hHeld => ?_)
  · exact ⟨bcell hb4 hHeld.1, bcell hb4 hHeld.2.1, bcell hb4 hHeld.2.2⟩
  clear hKq Kq
  (try simp only [Act.put, List.setIfInBounds_toArray, List.set_cons_zero, List.set_cons_succ])
  refine wpAnyH_take (i := 11) (oi := ({ dst := some 25, op := Op.field 81 (Operand.tmp 24) 2, type := 3, pos := "wordlocks.go:84", after := #[{ on := 10, ground := Ground.data }], guard := none } : Oper)) (v := ?vqm11) rfl (by kernel_rfl) (by kernel_rfl) (by kernel_rfl) (fun _ _ _ h => h) (Or.inl ⟨by rfl, fun w hSw => ?hyqm11⟩) (by assumption) ?rqm11
  case hyqm11 => (try dsimp only at hSw); go_simp; (try with_reducible rfl)
  (try simp only [Act.put, List.setIfInBounds_toArray, List.set_cons_zero, List.set_cons_succ])
  refine wpAnyH_ready (rs := [12]) (by kernel_rfl) (by simp) ?_
  refine AllReadyH.cons (o := ({ dst := some 26, op := Op.call { callee := Callee.value (Operand.func 94), args := #[Operand.tmp 17, Operand.tmp 19, Operand.tmp 25], argTypes := #[40, 3, 3] }, type := 0, pos := "wordlocks.go:84", after := #[{ on := 3, ground := Ground.data }, { on := 5, ground := Ground.data }, { on := 11, ground := Ground.data }, { on := 10, ground := Ground.chain }], guard := none } : Oper)) rfl (fun Kq hKq => ?_) AllReadyH.nil
  go_simp
  (refine HPQ.out.mono ?_; rintro e w5 ⟨rfl, X5, h5g, hlB⟩; have h5 : Wl w0 w5 base WB ((M.prep (2 * K.t + 1)).link (S5.pushS (M.prep (2 * K.t + 1)).lk (some K.t) (hdO K.st))) (r ++ [blockP Q (.cells #[.int .i64 (K.t : Int), .int .u32 (K.a : Int)] 211)]) j B K X5 := ⟨h5g, HA.out.hj⟩; have q5 := h5.pg.c.2.2.1; rw [hlB] at q5; have hl5 := h5.last HJ.out; have b5 := h5.b1)
  refine hKq.out _ _ ?_ (fun hHeld => ?_)
  · exact ⟨cell_row hl5 0, q5, b5⟩
  clear hKq Kq
  (try simp only [Act.put, List.setIfInBounds_toArray, List.set_cons_zero, List.set_cons_succ])
  refine wpAnyH_done (by kernel_rfl) ?_ _
  have k0 := cell_row hl5 0; have k1 := cell_row hl5 1
  simp only [List.getElem?_toArray, List.getElem?_cons_zero, List.getElem?_cons_succ] at k0 k1
  have c0 := h5.b0; have z0 := h5.fz 0
  have H5 := Lib.hid h5
  clear hHeld q5 hl5 b5 h5 h5g hlB hb4 HF
  go_wp2_with fail
  go_end0
  exact ⟨rfl, X5, (H5.out.next HH6.out 5 (by decide) _ rfl).dropB HJ.out⟩
set_option maxRecDepth 100000 in
set_option maxHeartbeats 4000000 in
theorem park_l (h : Wl w0 w base WB M r j B K X) (ok : LkOk M K) (hl : K.ln = 6) : Calls Tryz.prog 113 #[askV K.t K.a, Pw B, Pw WB] w fun e w' => e = .returned (.tuple #[]) ∧ Stepped w0 w' base WB M r j B K := by
  unfold Stepped
  rw [show stepM M K = _ from by simp only [stepM, hl]; rfl, show stepK M K = _ from by simp only [stepK, hl]; rfl]
  have hj := h.hj
  have hA := h.pushB (.cells #[.int .i64 (K.t : Int), .int .u32 (K.a : Int)] 211)
  have k0 := cell_row (heap_alloc_new w (.cells #[.int .i64 (K.t : Int), .int .u32 (K.a : Int)] 211)) 0; have k1 := cell_row (heap_alloc_new w (.cells #[.int .i64 (K.t : Int), .int .u32 (K.a : Int)] 211)) 1
  simp only [List.getElem?_toArray, List.getElem?_cons_zero, List.getElem?_cons_succ] at k0 k1
  obtain ⟨Q, hQ⟩ : ∃ Q, Q = w.heap.size := ⟨_, rfl⟩
  rw [← hQ] at hA k0 k1
  have HA := Lib.hid hA; have HJ := Lib.hid hj; have HQ := Lib.hid hQ
  obtain ⟨g, hg⟩ : ∃ g, g = (M.pf (2 * K.t + 1)).p := ⟨_, rfl⟩
  have HT := Lib.hid (fun W => word_any K.t ok.t W)
  have HC := Lib.hid ((hA.new (Below.refl _ _).drew).pg.park ok.pn (i := 2 * K.t + 1) (by have := ok.t; omega))
  rw [← hg] at HC ⊢
  have H6 := Lib.hid hl
  clear ok hl hg
  clear h hj hQ
  go_enter Tryz.func113, Tryz.ntmps113
  go_upto_region 1 with (fail)
  rw [← HQ.out]
  generalize w.alloc (.cells #[.int .i64 (K.t : Int), .int .u32 (K.a : Int)] 211) = w1 at *
  have HF : Hid ((fun w' => w'.cell? ⟨Q, 0, none⟩ = some (.int .i64 (K.t : Int)) ∧ w'.cell? ⟨WB, 2, none⟩ = some (Pw X.pB)) w1.drew) := Lib.hid ⟨k0, HA.out.pg.c.2.1⟩
  clear hA
  cases g
  · refine wp_region_held_drew (S := fun w' => w'.cell? ⟨Q, 0, none⟩ = some (.int .i64 (K.t : Int)) ∧ w'.cell? ⟨WB, 2, none⟩ = some (Pw X.pB)) (by kernel_rfl) ?_ (fun hHeld => ?_)
    · exact HF.out
    refine wpAnyH_take (i := 0) (oi := ({ dst := some 6, op := Op.move (Operand.tmp 2), type := 25, pos := "wordlocks.go:99", after := #[], guard := none } : Oper)) (v := ?vum1) rfl (by kernel_rfl) (by kernel_rfl) (by kernel_rfl) (fun _ _ _ h => h) (Or.inl ⟨by rfl, fun w hSw => ?hyum1⟩) (by assumption) ?rum1
    case hyum1 => (try dsimp only at hSw); go_simp; (try with_reducible rfl)
    (try simp only [Act.put, List.setIfInBounds_toArray, List.set_cons_zero, List.set_cons_succ])
    refine wpAnyH_take (i := 1) (oi := ({ dst := some 7, op := Op.nilCheck (Operand.tmp 6), type := 0, pos := "wordlocks.go:99", after := #[{ on := 0, ground := Ground.data }], guard := none } : Oper)) (v := ?vum2) rfl (by kernel_rfl) (by kernel_rfl) (by kernel_rfl) (fun _ _ _ h => h) (Or.inl ⟨by rfl, fun w hSw => ?hyum2⟩) (by assumption) ?rum2
    case hyum2 => (try dsimp only at hSw); go_simp; (try with_reducible rfl)
    (try simp only [Act.put, List.setIfInBounds_toArray, List.set_cons_zero, List.set_cons_succ])
    refine wpAnyH_take (i := 2) (oi := ({ dst := some 8, op := Op.fieldAddr 45 (Operand.tmp 7) 2, type := 0, pos := "wordlocks.go:99", after := #[{ on := 1, ground := Ground.data }], guard := none } : Oper)) (v := ?vum3) rfl (by kernel_rfl) (by kernel_rfl) (by kernel_rfl) (fun _ _ _ h => h) (Or.inl ⟨by rfl, fun w hSw => ?hyum3⟩) (by assumption) ?rum3
    case hyum3 => (try dsimp only at hSw); go_simp; (try with_reducible rfl)
    (try simp only [Act.put, List.setIfInBounds_toArray, List.set_cons_zero, List.set_cons_succ])
    refine wpAnyH_take (i := 3) (oi := ({ dst := some 9, op := Op.load 39 (Operand.tmp 8), type := 39, pos := "wordlocks.go:99", after := #[{ on := 2, ground := Ground.data }], guard := none } : Oper)) (v := ?vum4) rfl (by kernel_rfl) (by kernel_rfl) (by kernel_rfl) (fun _ _ _ h => h) (Or.inl ⟨by rfl, fun w hSw => ?hyum4⟩) (by assumption) ?rum4
    case hyum4 => (try dsimp only at hSw); go_simp; (try with_reducible rfl)
    (try simp only [Act.put, List.setIfInBounds_toArray, List.set_cons_zero, List.set_cons_succ])
    refine wpAnyH_take (i := 4) (oi := ({ dst := some 10, op := Op.fieldAddr 211 (Operand.tmp 3) 0, type := 0, pos := "wordlocks.go:99", after := #[], guard := none } : Oper)) (v := ?vum5) rfl (by kernel_rfl) (by kernel_rfl) (by kernel_rfl) (fun _ _ _ h => h) (Or.inl ⟨by rfl, fun w hSw => ?hyum5⟩) (by assumption) ?rum5
    case hyum5 => (try dsimp only at hSw); go_simp; (try with_reducible rfl)
    (try simp only [Act.put, List.setIfInBounds_toArray, List.set_cons_zero, List.set_cons_succ])
    refine wpAnyH_take (i := 5) (oi := ({ dst := some 11, op := Op.load 3 (Operand.tmp 10), type := 3, pos := "wordlocks.go:99", after := #[{ on := 4, ground := Ground.data }], guard := none } : Oper)) (v := ?vum6) rfl (by kernel_rfl) (by kernel_rfl) (by kernel_rfl) (fun _ _ _ h => h) (Or.inl ⟨by rfl, fun w hSw => ?hyum6⟩) (by assumption) ?rum6
    case hyum6 => (try dsimp only at hSw); go_simp; (try with_reducible rfl)
    (try simp only [Act.put, List.setIfInBounds_toArray, List.set_cons_zero, List.set_cons_succ])
    refine wpAnyH_ready (rs := [6]) (by kernel_rfl) (by simp) ?_
    refine AllReadyH.cons (o := ({ dst := some 12, op := Op.call { callee := Callee.value (Operand.func 60), args := #[Operand.tmp 11], argTypes := #[3] }, type := 3, pos := "wordlocks.go:99", after := #[{ on := 5, ground := Ground.data }], guard := none } : Oper)) rfl (fun Kq hKq => ?_) AllReadyH.nil
    go_simp
    (refine (HT.out _).mono ?_; rintro e w2 ⟨rfl, rfl⟩)
    refine hKq.out _ _ ?_ (fun hHeld => ?_)
    · exact hHeld
    clear hKq Kq
    (try simp only [Act.put, List.setIfInBounds_toArray, List.set_cons_zero, List.set_cons_succ])
    refine wpAnyH_ready (rs := [7]) (by kernel_rfl) (by simp) ?_
    refine AllReadyH.cons (o := ({ dst := some 13, op := Op.call { callee := Callee.value (Operand.func 114), args := #[Operand.tmp 9, Operand.tmp 12], argTypes := #[39, 3] }, type := 215, pos := "wordlocks.go:99", after := #[{ on := 3, ground := Ground.data }, { on := 6, ground := Ground.data }, { on := 6, ground := Ground.chain }], guard := none } : Oper)) rfl (fun Kq hKq => ?_) AllReadyH.nil
    go_simp
    (refine HC.out.mono ?_; rintro e w3 ⟨rfl, X3, h3g, hpB⟩; have h3 : Wl w0 w3 base WB (M.park (2 * K.t + 1)) (r ++ [blockP Q (.cells #[.int .i64 (K.t : Int), .int .u32 (K.a : Int)] 211)]) j B K X3 := ⟨h3g, HA.out.hj⟩; have q3 := h3.pg.c.2.1; rw [hpB] at q3; have hl := h3.last HJ.out)
    refine hKq.out _ _ ?_ (fun hHeld => ?_)
    · exact ⟨cell_row hl 0, q3⟩
    clear hKq Kq
    (try simp only [Act.put, List.setIfInBounds_toArray, List.set_cons_zero, List.set_cons_succ])
    refine wpAnyH_take (i := 8) (oi := ({ dst := some 14, op := Op.binOp BinOp.neq 215 (Operand.tmp 13) (Operand.const (Value.int IntKind.u8 1)) 215, type := 4, pos := "wordlocks.go:99", after := #[{ on := 7, ground := Ground.data }], guard := none } : Oper)) (v := ?vum7) rfl (by kernel_rfl) (by kernel_rfl) (by kernel_rfl) (fun _ _ _ h => h) (Or.inl ⟨by rfl, fun w hSw => ?hyum7⟩) (by assumption) ?rum7
    case hyum7 => (try dsimp only at hSw); go_simp; (try with_reducible rfl)
    (try simp only [Act.put, List.setIfInBounds_toArray, List.set_cons_zero, List.set_cons_succ])
    refine wpAnyH_done (by kernel_rfl) ?_ _
    have H3 := Lib.hid h3
    clear hHeld q3 hl h3 h3g hpB HF k0 k1
    go_wp2_with fail
    (try simp only [Exit.inBlock, Exit.then])
    refine bodyPost_ret (results_none rfl _ _ _) rfl ⟨rfl, X3, H3.out.dropB HJ.out⟩
  · refine wp_region_held_drew (S := fun w' => w'.cell? ⟨Q, 0, none⟩ = some (.int .i64 (K.t : Int)) ∧ w'.cell? ⟨WB, 2, none⟩ = some (Pw X.pB)) (by kernel_rfl) ?_ (fun hHeld => ?_)
    · exact HF.out
    refine wpAnyH_take (i := 0) (oi := ({ dst := some 6, op := Op.move (Operand.tmp 2), type := 25, pos := "wordlocks.go:99", after := #[], guard := none } : Oper)) (v := ?vvm1) rfl (by kernel_rfl) (by kernel_rfl) (by kernel_rfl) (fun _ _ _ h => h) (Or.inl ⟨by rfl, fun w hSw => ?hyvm1⟩) (by assumption) ?rvm1
    case hyvm1 => (try dsimp only at hSw); go_simp; (try with_reducible rfl)
    (try simp only [Act.put, List.setIfInBounds_toArray, List.set_cons_zero, List.set_cons_succ])
    refine wpAnyH_take (i := 1) (oi := ({ dst := some 7, op := Op.nilCheck (Operand.tmp 6), type := 0, pos := "wordlocks.go:99", after := #[{ on := 0, ground := Ground.data }], guard := none } : Oper)) (v := ?vvm2) rfl (by kernel_rfl) (by kernel_rfl) (by kernel_rfl) (fun _ _ _ h => h) (Or.inl ⟨by rfl, fun w hSw => ?hyvm2⟩) (by assumption) ?rvm2
    case hyvm2 => (try dsimp only at hSw); go_simp; (try with_reducible rfl)
    (try simp only [Act.put, List.setIfInBounds_toArray, List.set_cons_zero, List.set_cons_succ])
    refine wpAnyH_take (i := 2) (oi := ({ dst := some 8, op := Op.fieldAddr 45 (Operand.tmp 7) 2, type := 0, pos := "wordlocks.go:99", after := #[{ on := 1, ground := Ground.data }], guard := none } : Oper)) (v := ?vvm3) rfl (by kernel_rfl) (by kernel_rfl) (by kernel_rfl) (fun _ _ _ h => h) (Or.inl ⟨by rfl, fun w hSw => ?hyvm3⟩) (by assumption) ?rvm3
    case hyvm3 => (try dsimp only at hSw); go_simp; (try with_reducible rfl)
    (try simp only [Act.put, List.setIfInBounds_toArray, List.set_cons_zero, List.set_cons_succ])
    refine wpAnyH_take (i := 3) (oi := ({ dst := some 9, op := Op.load 39 (Operand.tmp 8), type := 39, pos := "wordlocks.go:99", after := #[{ on := 2, ground := Ground.data }], guard := none } : Oper)) (v := ?vvm4) rfl (by kernel_rfl) (by kernel_rfl) (by kernel_rfl) (fun _ _ _ h => h) (Or.inl ⟨by rfl, fun w hSw => ?hyvm4⟩) (by assumption) ?rvm4
    case hyvm4 => (try dsimp only at hSw); go_simp; (try with_reducible rfl)
    (try simp only [Act.put, List.setIfInBounds_toArray, List.set_cons_zero, List.set_cons_succ])
    refine wpAnyH_take (i := 4) (oi := ({ dst := some 10, op := Op.fieldAddr 211 (Operand.tmp 3) 0, type := 0, pos := "wordlocks.go:99", after := #[], guard := none } : Oper)) (v := ?vvm5) rfl (by kernel_rfl) (by kernel_rfl) (by kernel_rfl) (fun _ _ _ h => h) (Or.inl ⟨by rfl, fun w hSw => ?hyvm5⟩) (by assumption) ?rvm5
    case hyvm5 => (try dsimp only at hSw); go_simp; (try with_reducible rfl)
    (try simp only [Act.put, List.setIfInBounds_toArray, List.set_cons_zero, List.set_cons_succ])
    refine wpAnyH_take (i := 5) (oi := ({ dst := some 11, op := Op.load 3 (Operand.tmp 10), type := 3, pos := "wordlocks.go:99", after := #[{ on := 4, ground := Ground.data }], guard := none } : Oper)) (v := ?vvm6) rfl (by kernel_rfl) (by kernel_rfl) (by kernel_rfl) (fun _ _ _ h => h) (Or.inl ⟨by rfl, fun w hSw => ?hyvm6⟩) (by assumption) ?rvm6
    case hyvm6 => (try dsimp only at hSw); go_simp; (try with_reducible rfl)
    (try simp only [Act.put, List.setIfInBounds_toArray, List.set_cons_zero, List.set_cons_succ])
    refine wpAnyH_ready (rs := [6]) (by kernel_rfl) (by simp) ?_
    refine AllReadyH.cons (o := ({ dst := some 12, op := Op.call { callee := Callee.value (Operand.func 60), args := #[Operand.tmp 11], argTypes := #[3] }, type := 3, pos := "wordlocks.go:99", after := #[{ on := 5, ground := Ground.data }], guard := none } : Oper)) rfl (fun Kq hKq => ?_) AllReadyH.nil
    go_simp
    (refine (HT.out _).mono ?_; rintro e w2 ⟨rfl, rfl⟩)
    refine hKq.out _ _ ?_ (fun hHeld => ?_)
    · exact hHeld
    clear hKq Kq
    (try simp only [Act.put, List.setIfInBounds_toArray, List.set_cons_zero, List.set_cons_succ])
    refine wpAnyH_ready (rs := [7]) (by kernel_rfl) (by simp) ?_
    refine AllReadyH.cons (o := ({ dst := some 13, op := Op.call { callee := Callee.value (Operand.func 114), args := #[Operand.tmp 9, Operand.tmp 12], argTypes := #[39, 3] }, type := 215, pos := "wordlocks.go:99", after := #[{ on := 3, ground := Ground.data }, { on := 6, ground := Ground.data }, { on := 6, ground := Ground.chain }], guard := none } : Oper)) rfl (fun Kq hKq => ?_) AllReadyH.nil
    go_simp
    (refine HC.out.mono ?_; rintro e w3 ⟨rfl, X3, h3g, hpB⟩; have h3 : Wl w0 w3 base WB (M.park (2 * K.t + 1)) (r ++ [blockP Q (.cells #[.int .i64 (K.t : Int), .int .u32 (K.a : Int)] 211)]) j B K X3 := ⟨h3g, HA.out.hj⟩; have q3 := h3.pg.c.2.1; rw [hpB] at q3; have hl := h3.last HJ.out)
    refine hKq.out _ _ ?_ (fun hHeld => ?_)
    · exact ⟨cell_row hl 0, q3⟩
    clear hKq Kq
    (try simp only [Act.put, List.setIfInBounds_toArray, List.set_cons_zero, List.set_cons_succ])
    refine wpAnyH_take (i := 8) (oi := ({ dst := some 14, op := Op.binOp BinOp.neq 215 (Operand.tmp 13) (Operand.const (Value.int IntKind.u8 1)) 215, type := 4, pos := "wordlocks.go:99", after := #[{ on := 7, ground := Ground.data }], guard := none } : Oper)) (v := ?vvm7) rfl (by kernel_rfl) (by kernel_rfl) (by kernel_rfl) (fun _ _ _ h => h) (Or.inl ⟨by rfl, fun w hSw => ?hyvm7⟩) (by assumption) ?rvm7
    case hyvm7 => (try dsimp only at hSw); go_simp; (try with_reducible rfl)
    (try simp only [Act.put, List.setIfInBounds_toArray, List.set_cons_zero, List.set_cons_succ])
    refine wpAnyH_done (by kernel_rfl) ?_ _
    have HBG := Lib.hid (begin_l h3)
    clear hHeld q3 hl h3 h3g hpB HF k0 k1
    go_upto_region 3 with (go_at_call 104; refine HBG.out.mono ?_; rintro e w4 ⟨rfl, h4⟩)
    have hl := h4.last HJ.out
    have k0 := cell_row hl 0; have k1 := cell_row hl 1
    simp only [List.getElem?_toArray, List.getElem?_cons_zero, List.getElem?_cons_succ] at k0 k1
    have c0 := h4.b0; have z0 := h4.fz 0; have c3 := h4.b3; have z3 := h4.fz 3
    have H4 := Lib.hid h4
    clear hl h4 HBG
    go_wp2_with fail
    go_end0
    exact ⟨rfl, X3, (H4.out.next2 3 _ rfl false rfl).dropB HJ.out⟩
end
end Go.Proofs.YthafnphpcdbnlaaGreat.S13
namespace Go.Proofs.YthafnphpcdbnlaaGreat.S13
open Go.Proofs.YthafnphpcdbnlaaGreat Go.Proofs.YthafnphpcdbnlaaGreat.S11 Go.Proofs.YthafnphpcdbnlaaGreat.S12
open Go.RowKit

theorem over_nil (w : World) : Calls Tryz.prog 121 #[.pointer none] w fun e w' => e = .returned (.bool true) ∧ w = w' := by
  go_enter Tryz.func121, Tryz.ntmps121
  go_wp2_with fail
  go_ret
  exact ⟨rfl, rfl⟩
theorem eqlN (w : World) : (binOp .eql 205 .nilFunc .nilFunc).run Tryz.prog w = .ok (.bool true) w := by kernel_rfl
theorem eqlF (f : Fn) (x y : Array Value) (w : World) : (binOp .eql 205 (.func f x y) .nilFunc).run Tryz.prog w = .ok (.bool false) w := by kernel_rfl
/-- What a lock in memory is. -/
def LkAt (w : World) (B : Nat) (K : Lk) : Prop := w.heap[B]? = some (.cells K.cs 209 (0, 0))
set_option maxRecDepth 100000 in
theorem over_any {w : World} {B : Nat} {K : Lk} (h : LkAt w B K) (h6 : K.ln ≤ 6) : Calls Tryz.prog 121 #[Pw B] w fun e w' => e = .returned (.bool (decide (K.ln = 0))) ∧ w = w' := by
  have c0 : w.cell? ⟨B, 0, none⟩ = some (nxV K.t K.a K.ln) := cell_row h 0
  obtain ⟨n, hn⟩ : ∃ n, n = K.ln := ⟨_, rfl⟩
  rw [← hn] at c0 h6 ⊢
  clear h hn
  match n, h6 with
  | 0, _ =>
    simp only [nxV] at c0
    have he1 := eqlN
    have he2 := eqlF
    go_enter Tryz.func121, Tryz.ntmps121
    go_wp2_with fail
    go_ret
    exact ⟨rfl, rfl⟩
  | 1, _ =>
    simp only [nxV] at c0
    have he1 := eqlN
    have he2 := eqlF
    go_enter Tryz.func121, Tryz.ntmps121
    go_wp2_with fail
    go_ret
    exact ⟨rfl, rfl⟩
  | 2, _ =>
    simp only [nxV] at c0
    have he1 := eqlN
    have he2 := eqlF
    go_enter Tryz.func121, Tryz.ntmps121
    go_wp2_with fail
    go_ret
    exact ⟨rfl, rfl⟩
  | 3, _ =>
    simp only [nxV] at c0
    have he1 := eqlN
    have he2 := eqlF
    go_enter Tryz.func121, Tryz.ntmps121
    go_wp2_with fail
    go_ret
    exact ⟨rfl, rfl⟩
  | 4, _ =>
    simp only [nxV] at c0
    have he1 := eqlN
    have he2 := eqlF
    go_enter Tryz.func121, Tryz.ntmps121
    go_wp2_with fail
    go_ret
    exact ⟨rfl, rfl⟩
  | 5, _ =>
    simp only [nxV] at c0
    have he1 := eqlN
    have he2 := eqlF
    go_enter Tryz.func121, Tryz.ntmps121
    go_wp2_with fail
    go_ret
    exact ⟨rfl, rfl⟩
  | 6, _ =>
    simp only [nxV] at c0
    have he1 := eqlN
    have he2 := eqlF
    go_enter Tryz.func121, Tryz.ntmps121
    go_wp2_with fail
    go_ret
    exact ⟨rfl, rfl⟩
section
variable {w0 w w' : World} {base WB : Nat} {M : Sd} {r : List Part} {j B : Nat} {K : Lk} {X : Wm}
theorem Wl.at (h : Wl w0 w base WB M r j B K X) : LkAt w B K := h.blk
theorem cas_le {x was : Nat} {K' : Lk} (h : K'.ln ≤ 6) : (K.cas x was K').ln ≤ 6 := by
  unfold Lk.cas
  split
  · exact h
  · unfold Lk.turn; split
    · show 2 ≤ 6; omega
    · split
      · split
        · show 3 ≤ 6; omega
        · show 4 ≤ 6; omega
      · show 4 ≤ 6; omega
theorem turn_le {x : Nat} : (K.turn x).ln ≤ 6 := by
  unfold Lk.turn; split
  · show 2 ≤ 6; omega
  · split
    · split
      · show 3 ≤ 6; omega
      · show 4 ≤ 6; omega
    · show 4 ≤ 6; omega
theorem step_le (h : K.ln ≤ 6) : (stepK M K).ln ≤ 6 := by
  unfold stepK
  split
  · exact cas_le (Nat.zero_le _)
  · exact cas_le (Nat.zero_le _)
  · exact turn_le
  · show 5 ≤ 6; omega
  · exact cas_le (Nat.le_refl _)
  · split
    · show 3 ≤ 6; omega
    · exact h
  · exact h
set_option maxRecDepth 100000 in
set_option maxHeartbeats 4000000 in
/-- A step. -/
theorem step_any (h : Wl w0 w base WB M r j B K X) (ok : LkOk M K) (h6 : K.ln ≤ 6) : Calls Tryz.prog 122 #[Pw B, Pw WB] w fun e w' => e = .returned (.bool (decide ((stepK M K).ln = 0))) ∧ Stepped w0 w' base WB M r j B K := by
  have hov := over_any h.at h6
  have c0 := h.b0
  by_cases h0 : K.ln = 0
  · have hk : stepK M K = K := by simp only [stepK, h0]
    have hm : stepM M K = M := by simp only [stepM, h0]
    have hs : Stepped w0 w base WB M r j B K := ⟨X, by rw [hk, hm]; exact h⟩
    rw [hk]
    rw [decide_eq_true h0] at hov ⊢
    have HOV := Lib.hid hov; have HS := Lib.hid hs
    clear h ok h6 hov hs hk hm c0 h0
    go_enter Tryz.func122, Tryz.ntmps122
    go_wp2_with (go_at_call 121; refine HOV.out.mono ?_; rintro e w1 ⟨rfl, rfl⟩)
    go_ret
    exact ⟨rfl, HS.out⟩
  · rw [decide_eq_false h0] at hov
    have hnx : ∀ w', Stepped w0 w' base WB M r j B K → Calls Tryz.prog 121 #[Pw B] w' fun e w'' => e = .returned (.bool (decide ((stepK M K).ln = 0))) ∧ w' = w'' := fun w' ⟨X', h'⟩ => over_any h'.at (step_le h6)
    have HOV := Lib.hid hov; have HNX := Lib.hid hnx
    generalize decide ((stepK M K).ln = 0) = ov at *
    have hk : K.ln = 1 ∨ K.ln = 2 ∨ K.ln = 3 ∨ K.ln = 4 ∨ K.ln = 5 ∨ K.ln = 6 := by omega
    rcases hk with hk | hk | hk | hk | hk | hk
    · have HL := Lib.hid (first_l h ok hk)
      rw [hk] at c0
      simp only [nxV] at c0
      clear h ok h6 hov hnx h0 hk
      go_enter Tryz.func122, Tryz.ntmps122
      go_wp2_with (first
        | (go_at_call 103; refine HL.out.mono ?_; rintro e w2 ⟨rfl, hs⟩; have HO2 := Lib.hid (HNX.out _ hs); have HS := Lib.hid hs; clear hs)
        | (go_at_call 121; refine HO2.out.mono ?_; rintro e w3 ⟨rfl, rfl⟩)
        | (go_at_call 121; refine HOV.out.mono ?_; rintro e w1 ⟨rfl, rfl⟩))
      go_ret
      exact ⟨rfl, HS.out⟩
    · have HL := Lib.hid (take_l h ok hk)
      rw [hk] at c0
      simp only [nxV] at c0
      clear h ok h6 hov hnx h0 hk
      go_enter Tryz.func122, Tryz.ntmps122
      go_wp2_with (first
        | (go_at_call 107; refine HL.out.mono ?_; rintro e w2 ⟨rfl, hs⟩; have HO2 := Lib.hid (HNX.out _ hs); have HS := Lib.hid hs; clear hs)
        | (go_at_call 121; refine HO2.out.mono ?_; rintro e w3 ⟨rfl, rfl⟩)
        | (go_at_call 121; refine HOV.out.mono ?_; rintro e w1 ⟨rfl, rfl⟩))
      go_ret
      exact ⟨rfl, HS.out⟩
    · have HL := Lib.hid (look_l h ok hk)
      rw [hk] at c0
      simp only [nxV] at c0
      clear h ok h6 hov hnx h0 hk
      go_enter Tryz.func122, Tryz.ntmps122
      go_wp2_with (first
        | (go_at_call 109; refine HL.out.mono ?_; rintro e w2 ⟨rfl, hs⟩; have HO2 := Lib.hid (HNX.out _ hs); have HS := Lib.hid hs; clear hs)
        | (go_at_call 121; refine HO2.out.mono ?_; rintro e w3 ⟨rfl, rfl⟩)
        | (go_at_call 121; refine HOV.out.mono ?_; rintro e w1 ⟨rfl, rfl⟩))
      go_ret
      exact ⟨rfl, HS.out⟩
    · have HL := Lib.hid (prepare_l h ok hk)
      rw [hk] at c0
      simp only [nxV] at c0
      clear h ok h6 hov hnx h0 hk
      go_enter Tryz.func122, Tryz.ntmps122
      go_wp2_with (first
        | (go_at_call 110; refine HL.out.mono ?_; rintro e w2 ⟨rfl, hs⟩; have HO2 := Lib.hid (HNX.out _ hs); have HS := Lib.hid hs; clear hs)
        | (go_at_call 121; refine HO2.out.mono ?_; rintro e w3 ⟨rfl, rfl⟩)
        | (go_at_call 121; refine HOV.out.mono ?_; rintro e w1 ⟨rfl, rfl⟩))
      go_ret
      exact ⟨rfl, HS.out⟩
    · have HL := Lib.hid (queue_l h ok hk)
      rw [hk] at c0
      simp only [nxV] at c0
      clear h ok h6 hov hnx h0 hk
      go_enter Tryz.func122, Tryz.ntmps122
      go_wp2_with (first
        | (go_at_call 112; refine HL.out.mono ?_; rintro e w2 ⟨rfl, hs⟩; have HO2 := Lib.hid (HNX.out _ hs); have HS := Lib.hid hs; clear hs)
        | (go_at_call 121; refine HO2.out.mono ?_; rintro e w3 ⟨rfl, rfl⟩)
        | (go_at_call 121; refine HOV.out.mono ?_; rintro e w1 ⟨rfl, rfl⟩))
      go_ret
      exact ⟨rfl, HS.out⟩
    · have HL := Lib.hid (park_l h ok hk)
      rw [hk] at c0
      simp only [nxV] at c0
      clear h ok h6 hov hnx h0 hk
      go_enter Tryz.func122, Tryz.ntmps122
      go_wp2_with (first
        | (go_at_call 113; refine HL.out.mono ?_; rintro e w2 ⟨rfl, hs⟩; have HO2 := Lib.hid (HNX.out _ hs); have HS := Lib.hid hs; clear hs)
        | (go_at_call 121; refine HO2.out.mono ?_; rintro e w3 ⟨rfl, rfl⟩)
        | (go_at_call 121; refine HOV.out.mono ?_; rintro e w1 ⟨rfl, rfl⟩))
      go_ret
      exact ⟨rfl, HS.out⟩
end
set_option maxRecDepth 100000 in
/-- A step in no world. -/
theorem step_none {w : World} {B : Nat} {K : Lk} (h : LkAt w B K) (h6 : K.ln ≤ 6) : Calls Tryz.prog 122 #[Pw B, .pointer none] w fun e w' => e = .returned (.bool (decide (K.ln = 0))) ∧ w = w' := by
  have HOV := Lib.hid (over_any h h6)
  clear h h6
  cases hb : decide (K.ln = 0)
  · rw [hb] at HOV
    clear hb
    go_enter Tryz.func122, Tryz.ntmps122
    go_wp2_with (go_at_call 121; refine HOV.out.mono ?_; rintro e w1 ⟨rfl, rfl⟩)
    go_ret
    exact ⟨rfl, rfl⟩
  · rw [hb] at HOV
    clear hb
    go_enter Tryz.func122, Tryz.ntmps122
    go_wp2_with (go_at_call 121; refine HOV.out.mono ?_; rintro e w1 ⟨rfl, rfl⟩)
    go_ret
    exact ⟨rfl, rfl⟩
theorem step_nil (x : Value) (w : World) : Calls Tryz.prog 122 #[.pointer none, x] w fun e w' => e = .returned (.bool true) ∧ w = w' := by
  have HOV := Lib.hid (over_nil)
  go_enter Tryz.func122, Tryz.ntmps122
  go_wp2_with (go_at_call 121; refine (HOV.out _).mono ?_; rintro e w1 ⟨rfl, rfl⟩)
  go_ret
  exact ⟨rfl, rfl⟩
/-- One that begins. -/
def newK (t : Int) (a : Nat) : Lk := if 0 ≤ t ∧ t < 64 then lk1 t.toNat a else lk0
theorem new_lock (t : Int) (a : Nat) (w : World) : Calls Tryz.prog 102 #[.int .i64 t, .int .u32 (a : Int)] w fun e w' => e = .returned (Pw w.heap.size) ∧ w' = w.alloc (.cells (newK t a).cs 209) := by
  by_cases h0 : 0 ≤ t
  · by_cases h1 : t < 64
    · have hk : (newK t a).cs = #[.func (.func 103) #[.agg #[.int .i64 t, .int .u32 (a : Int)]] #[], .int .u64 0, .int .i64 0, .bool false] := by
        unfold newK; rw [if_pos ⟨h0, h1⟩]
        have e : askV t.toNat a = .agg #[.int .i64 t, .int .u32 (a : Int)] := by unfold askV; rw [Int.toNat_of_nonneg h0]
        rw [← e]; rfl
      have d0 : decide (t < 0) = false := by rw [decide_eq_false_iff_not]; omega
      have d1 : decide ((64 : Int) ≤ t) = false := by rw [decide_eq_false_iff_not]; omega
      rw [hk]
      clear hk h0 h1
      go_enter Tryz.func102, Tryz.ntmps102
      go_wp2_with fail
      go_ret
      exact ⟨rfl, rfl⟩
    · have hk : (newK t a).cs = #[.nilFunc, .int .u64 0, .int .i64 0, .bool false] := by
        unfold newK; rw [if_neg (by omega)]; rfl
      have d0 : decide (t < 0) = false := by rw [decide_eq_false_iff_not]; omega
      have d1 : decide ((64 : Int) ≤ t) = true := by rw [decide_eq_true_iff]; omega
      rw [hk]
      clear hk h0 h1
      go_enter Tryz.func102, Tryz.ntmps102
      go_wp2_with fail
      go_ret
      exact ⟨rfl, rfl⟩
  · have hk : (newK t a).cs = #[.nilFunc, .int .u64 0, .int .i64 0, .bool false] := by
      unfold newK; rw [if_neg (by omega)]; rfl
    have d0 : decide (t < 0) = true := by rw [decide_eq_true_iff]; omega
    rw [hk]
    clear hk h0
    go_enter Tryz.func102, Tryz.ntmps102
    go_wp2_with fail
    go_ret
    exact ⟨rfl, rfl⟩
end Go.Proofs.YthafnphpcdbnlaaGreat.S13
namespace Go.Proofs.YthafnphpcdbnlaaGreat.S14
open Go.Proofs.YthafnphpcdbnlaaGreat Go.Proofs.YthafnphpcdbnlaaGreat.S11 Go.Proofs.YthafnphpcdbnlaaGreat.S12 Go.Proofs.YthafnphpcdbnlaaGreat.S13
open Go.RowKit

/-- A Free's line, its word's address; what is known of the word (the program's: l, q, h; the document's: w); its tail. -/
structure Fr where
  ln : Nat
  a : Nat
  l : Bool
  q : Bool
  h : Int
  w : Nat
  t : Int
def fr0 (a : Nat) : Fr := ⟨1, a, false, false, 0, 0, 0⟩
/-- Is nothing left to be done, by a word? -/
def idle (u : Nat) : Bool := S1.bitB u 1 || decide (S1.headN u = -1)
/-- A word with that bit, or without it. -/
def wq (u : Nat) (b : Bool) : Nat := S1.putU (S1.bitB u 0) b (S1.headN u)
def Fr.says (K : Fr) (u : Nat) : Fr := { K with l := S1.bitB u 0, q := S1.bitB u 1, h := S1.headN u, w := u }
def Fr.look (K : Fr) : Fr := { K with ln := if idle K.w = true then 0 else 3 }
/-- Links behind a look for who came first; who it is; the line then. -/
def seekL (S : S5.Lk) (u : Nat) : S5.Lk × Int × Nat :=
  if (S5.seekO S (hdO u)).2 = 0 then ((S5.seekO S (hdO u)).1, -1, 0)
  else if S1.bitB u 0 = true then ((S5.seekO S (hdO u)).1, ((S5.seekO S (hdO u)).2 : Int) - 1, 4)
  else if (S5.seekO S (hdO u)).1 (((S5.seekO S (hdO u)).2 - 1) * 3 + 1) = 0 then ((S5.seekO S (hdO u)).1, ((S5.seekO S (hdO u)).2 : Int) - 1, 5)
  else ((S5.cutO (S5.seekO S (hdO u)).1 (hdO u) (some ((S5.seekO S (hdO u)).2 - 1))).1, ((S5.seekO S (hdO u)).2 : Int) - 1, 6)
def Fr.seek (K : Fr) (S : S5.Lk) : Fr := { K with t := (seekL S K.w).2.1, ln := (seekL S K.w).2.2 }
/-- A step: what the world is behind it, what the Free. -/
def fstepM (M : Sd) (K : Fr) : Sd :=
  match K.ln with
  | 1 => M.acc 5 K.a ((S2.look M.L K.a + 18446744073709551615) % 18446744073709551616)
  | 2 => M.acc 1 K.a (S2.look M.L K.a)
  | 3 => if S2.look M.L K.a = K.w then (M.acc 3 K.a (S2.casV (S2.look M.L K.a) K.w (wq K.w true))).link (seekL M.lk (wq K.w true)).1 else M.acc 3 K.a (S2.casV (S2.look M.L K.a) K.w (wq K.w true))
  | 4 => if S2.look M.L K.a = K.w then M.acc 3 K.a (S2.casV (S2.look M.L K.a) K.w (wq K.w false)) else (M.acc 3 K.a (S2.casV (S2.look M.L K.a) K.w (wq K.w false))).link (seekL M.lk (S2.look M.L K.a)).1
  | 5 => if S2.look M.L K.a = K.w then M.acc 3 K.a (S2.casV (S2.look M.L K.a) K.w 0) else (M.acc 3 K.a (S2.casV (S2.look M.L K.a) K.w 0)).link (seekL M.lk (S2.look M.L K.a)).1
  | 6 => M.acc 6 K.a (S2.look M.L K.a &&& 18446744073709551613)
  | 7 => M.unpark (2 * K.t.toNat + 1)
  | _ => M
def fstepK (M : Sd) (K : Fr) : Fr :=
  match K.ln with
  | 1 => { K with ln := if idle (S2.look M.L K.a) = true then 0 else 2, l := S1.bitB (S2.look M.L K.a) 0, q := S1.bitB (S2.look M.L K.a) 1, h := S1.headN (S2.look M.L K.a) }
  | 2 => (K.says (S2.look M.L K.a)).look
  | 3 => if S2.look M.L K.a = K.w then ({ K with q := true, w := wq K.w true } : Fr).seek M.lk else (K.says (S2.look M.L K.a)).look
  | 4 => if S2.look M.L K.a = K.w then { K with ln := 0, q := false } else (K.says (S2.look M.L K.a)).seek M.lk
  | 5 => if S2.look M.L K.a = K.w then { K with ln := 7, l := false, q := false, h := -1 } else (K.says (S2.look M.L K.a)).seek M.lk
  | 6 => { K with ln := 7 }
  | 7 => { K with ln := 0 }
  | _ => K
/-- What holds of a Free and its world. -/
structure FrOk (M : Sd) (K : Fr) : Prop where
  a : K.a < 4294967296
  w : K.w < 18446744073709551616
  con : 3 ≤ K.ln → K.ln ≤ 5 → K.l = S1.bitB K.w 0 ∧ K.q = S1.bitB K.w 1 ∧ K.h = S1.headN K.w ∧ S1.headN K.w ≠ -1
  t : 4 ≤ K.ln → 0 ≤ K.t ∧ K.t ≤ 63
  n : M.n ≤ 1000000000
  pn : M.pn ≤ 1000000000
/-- A word with a head, put again, is that word. -/
theorem word_put {u : Nat} (h : S1.headN u ≠ -1) : S1.putU (S1.bitB u 0) (S1.bitB u 1) (S1.headN u) = u ∧ u ≤ 259 := by
  have hu : u ≤ 259 := by
    unfold S1.headN at h
    split at h
    · omega
    · exact absurd rfl h
  refine ⟨?_, hu⟩
  have e := S1.put_as u hu
  unfold S1.putU
  rw [e]; rfl
/-- What a word with that bit says. -/
theorem wq_says (u : Nat) (b : Bool) : S1.bitB (wq u b) 0 = S1.bitB u 0 ∧ S1.bitB (wq u b) 1 = b ∧ S1.headN (wq u b) = S1.headN u := by
  obtain ⟨n, e, _, h0, h1, h2⟩ := S1.put_nat (S1.bitB u 0) b (S1.headN u) (S1.head_is u)
  have e2 : wq u b = n := by unfold wq S1.putU; rw [e]; rfl
  rw [e2]
  exact ⟨h0, h1, h2⟩
theorem wq_lt (u : Nat) (b : Bool) : wq u b < 18446744073709551616 := S1.putU_lt _ _ _
end Go.Proofs.YthafnphpcdbnlaaGreat.S14
namespace Go.Proofs.YthafnphpcdbnlaaGreat.S14
open Go.Proofs.YthafnphpcdbnlaaGreat Go.Proofs.YthafnphpcdbnlaaGreat.S11 Go.Proofs.YthafnphpcdbnlaaGreat.S12 Go.Proofs.YthafnphpcdbnlaaGreat.S13
open Go.RowKit

/-- A scope in which the run goes on to one of two labels: what comes behind them is walked at the goto. -/
def to2 (J0 J1 : Act → World → Prop) (Q : Exit → Act → World → Prop) : Exit → Act → World → Prop
  | .goto l, a, w => (l = 0 ∧ J0 a w) ∨ (l = 1 ∧ J1 a w)
  | e, a, w => Q e a w
theorem wp_scope_two {P : Program} {a : Act} {w : World} {Q : Exit → Act → World → Prop} {c r0 r1 : Code} (hf0 : findLabel c 0 = some r0) (hf1 : findLabel c 1 = some r1)
    (first : c.wp P (to2 (fun a w => r0.wp P (Exit.noGoto Q) a w) (fun a w => r1.wp P (Exit.noGoto Q) a w) Q) a w) : (Code.scope c).wp P Q a w := by
  intro b k cs
  have key : ∀ (rest : Code) (a : Act) (w : World) (l : Nat), gotoIn l (.inScope c :: k) = some (.code rest :: .inScope c :: k) → rest.wp P (Exit.noGoto Q) a w →
      ∃ e a' w', Q e a' w' ∧ Arrives P (lone (b.at a (.code rest :: .inScope c :: k)) cs w) b k cs e a' w' := by
    intro rest a w l hg h
    obtain ⟨e, a₁, w₁, hq, harr⟩ := h b (.inScope c :: k) cs
    cases e with
    | normal => exact ⟨.normal, a₁, w₁, hq, Steps.trans harr (.one step_inScope)⟩
    | exit id => exact ⟨.exit id, a₁, w₁, hq, fun k' hk => harr k' (by simp [exitTo, hk])⟩
    | goto l' => exact hq.elim
    | ret => exact ⟨_, a₁, w₁, hq, harr⟩
    | panic ch => exact ⟨_, a₁, w₁, hq, harr⟩
    | outgrown => exact ⟨_, a₁, w₁, hq, harr⟩
  obtain ⟨e, a₁, w₁, hq, harr⟩ := first b (.inScope c :: k) cs
  cases e with
  | normal => exact ⟨.normal, a₁, w₁, hq, .head step_scope (Steps.trans harr (.one step_inScope))⟩
  | exit id => exact ⟨.exit id, a₁, w₁, hq, fun k' hk => .head step_scope (harr k' (by simp [exitTo, hk]))⟩
  | goto l' =>
    rcases hq with ⟨rfl, h⟩ | ⟨rfl, h⟩
    · have hg : gotoIn 0 (.inScope c :: k) = some (.code r0 :: .inScope c :: k) := by simp [gotoIn, hf0]
      obtain ⟨e₂, a₂, w₂, hq₂, harr₂⟩ := key _ _ _ 0 hg h
      exact ⟨e₂, a₂, w₂, hq₂, .of_steps (.head step_scope (harr _ hg)) harr₂⟩
    · have hg : gotoIn 1 (.inScope c :: k) = some (.code r1 :: .inScope c :: k) := by simp [gotoIn, hf1]
      obtain ⟨e₂, a₂, w₂, hq₂, harr₂⟩ := key _ _ _ 1 hg h
      exact ⟨e₂, a₂, w₂, hq₂, .of_steps (.head step_scope (harr _ hg)) harr₂⟩
  | ret => exact ⟨_, a₁, w₁, hq, .of_steps (.one step_scope) harr⟩
  | panic ch => exact ⟨_, a₁, w₁, hq, .of_steps (.one step_scope) harr⟩
  | outgrown => exact ⟨_, a₁, w₁, hq, .of_steps (.one step_scope) harr⟩
-- Calls of a world.
section
variable {w0 w w' : World} {base WB : Nat} {M : Sd} {r : List Part} {X : Wm}
theorem pg_add (h : Pg w0 w base WB M r X) {a v : Nat} (ha : a < 4294967296) (hv : v < 18446744073709551616) (hn : M.n ≤ 1000000000) :
    Calls Tryz.prog 53 #[Pw X.cB, .int .u32 a, .int .u64 v] w fun e w' => e = .returned (.int .u64 (S2.look M.L a : Nat)) ∧ ∃ X', Pg w0 w' base WB (M.acc 5 a ((S2.look M.L a + v) % 18446744073709551616)) r X' ∧ X'.cB = X.cB := by
  have e : X.L = M.L := congrArg Sd.L h.xm
  have e2 : X.n = M.n := congrArg Sd.n h.xm
  rw [← e]
  refine (S2.add_any w X.cB X.cM X.L X.n X.k X.a X.was X.is a v h.pw.cells ha hv (by omega)).mono ?_
  rintro e w' ⟨rfl, hl⟩
  exact ⟨rfl, h.left hl⟩
theorem pg_and (h : Pg w0 w base WB M r X) {a v : Nat} (ha : a < 4294967296) (hv : v < 18446744073709551616) (hn : M.n ≤ 1000000000) :
    Calls Tryz.prog 57 #[Pw X.cB, .int .u32 a, .int .u64 v] w fun e w' => e = .returned (.int .u64 (S2.look M.L a : Nat)) ∧ ∃ X', Pg w0 w' base WB (M.acc 6 a (S2.look M.L a &&& v)) r X' ∧ X'.cB = X.cB := by
  have e : X.L = M.L := congrArg Sd.L h.xm
  have e2 : X.n = M.n := congrArg Sd.n h.xm
  rw [← e]
  refine (S2.and_any w X.cB X.cM X.L X.n X.k X.a X.was X.is a v h.pw.cells ha hv (by omega)).mono ?_
  rintro e w' ⟨rfl, hl⟩
  exact ⟨rfl, h.left hl⟩
theorem pg_lk (h : Pg w0 w base WB M r X) : X.lk = M.lk := congrArg Sd.lk h.xm
theorem pg_seek (h : Pg w0 w base WB M r X) {x : Int} {o : Option Nat} (hx : S5.Num x o) :
    Calls Tryz.prog 61 #[Pw X.lB, .int .i64 x] w fun e w' => e = .returned (.int .i64 (((S5.seekO M.lk o).2 : Int) - 1)) ∧ ∃ X', Pg w0 w' base WB (M.link (S5.seekO M.lk o).1) r X' ∧ X'.lB = X.lB := by
  have e := pg_lk h
  rw [← e]
  refine (S5.seek_any h.pw.links hx).mono ?_
  rintro e w' ⟨rfl, hh, ht⟩
  exact ⟨rfl, h.links ⟨hh, ht⟩⟩
theorem pg_cut (h : Pg w0 w base WB M r X) {x y : Int} {a b : Option Nat} (hx : S5.Num x a) (hy : S5.Num y b) :
    Calls Tryz.prog 63 #[Pw X.lB, .int .i64 x, .int .i64 y] w fun e w' => e = .returned (.int .i64 (((S5.cutO M.lk a b).2 : Int) - 1)) ∧ ∃ X', Pg w0 w' base WB (M.link (S5.cutO M.lk a b).1) r X' ∧ X'.lB = X.lB := by
  have e := pg_lk h
  rw [← e]
  refine (S5.cut_any h.pw.links hx hy).mono ?_
  rintro e w' ⟨rfl, hh, ht⟩
  exact ⟨rfl, h.links ⟨hh, ht⟩⟩
theorem pg_at (h : Pg w0 w base WB M r X) {t : Nat} (ht : t < 64) :
    Calls Tryz.prog 62 #[Pw X.lB, .int .i64 (t : Int)] w fun e w' => e = .returned (S5.lnk M.lk t) ∧ Below w.heap.size w w' := by
  have e := pg_lk h
  rw [← e]
  exact S5.at_yes h.pw.links t ht
theorem pg_le (h : Pg w0 w base WB M r X) (i : Nat) : M.lk i ≤ 64 := by
  have e := pg_lk h
  rw [← e]
  exact h.pw.links.le i
end
/-- The program's Free: its cells. -/
def Fr.cs (K : Fr) : Array Value := #[.int .u8 (K.ln : Int), .int .u32 (K.a : Int), .bool K.l, .bool K.q, .int .i64 K.h, .int .i64 K.t]
def freeP (B : Nat) (K : Fr) : Part := blockP B (.cells K.cs 85)
/-- A Free beside the program's world. -/
structure Wf (w0 w : World) (base WB : Nat) (M : Sd) (r : List Part) (j B : Nat) (K : Fr) (X : Wm) : Prop where
  pg : Pg w0 w base WB M (r.set j (freeP B K)) X
  hj : j < r.length
section
variable {w0 w w' : World} {base WB : Nat} {M : Sd} {r : List Part} {j B : Nat} {K : Fr} {X : Wm}
theorem Wf.new (h : Wf w0 w base WB M r j B K X) (b : Below w.heap.size w w') : Wf w0 w' base WB M r j B K X := ⟨h.pg.new b, h.hj⟩
theorem Wf.part (h : Wf w0 w base WB M r j B K X) : (r.set j (freeP B K))[j]? = some (freeP B K) := List.getElem?_set_self h.hj
theorem Wf.blk (h : Wf w0 w base WB M r j B K X) : w.heap[B]? = some (.cells K.cs 85 (0, 0)) := h.pg.ps.ok _ _ (h.pg.part h.part)
theorem Wf.b0 (h : Wf w0 w base WB M r j B K X) : w.cell? ⟨B, 0, none⟩ = some (.int .u8 (K.ln : Int)) := cell_row h.blk 0
theorem Wf.b1 (h : Wf w0 w base WB M r j B K X) : w.cell? ⟨B, 1, none⟩ = some (.int .u32 (K.a : Int)) := cell_row h.blk 1
theorem Wf.b2 (h : Wf w0 w base WB M r j B K X) : w.cell? ⟨B, 2, none⟩ = some (.bool K.l) := cell_row h.blk 2
theorem Wf.b3 (h : Wf w0 w base WB M r j B K X) : w.cell? ⟨B, 3, none⟩ = some (.bool K.q) := cell_row h.blk 3
theorem Wf.b4 (h : Wf w0 w base WB M r j B K X) : w.cell? ⟨B, 4, none⟩ = some (.int .i64 K.h) := cell_row h.blk 4
theorem Wf.b5 (h : Wf w0 w base WB M r j B K X) : w.cell? ⟨B, 5, none⟩ = some (.int .i64 K.t) := cell_row h.blk 5
theorem Wf.fz (h : Wf w0 w base WB M r j B K X) (i : Nat) : w.frozen? ⟨B, i, none⟩ = false := froz_row h.blk i
theorem Wf.look (h : Wf w0 w base WB M r j B K X) (a : Nat) : S2.look M.L a < 18446744073709551616 := by
  have := S2.look_lt h.pg.pw.cells.good a
  rwa [show X.L = M.L from congrArg Sd.L h.pg.xm] at this
/-- The Free turns. -/
theorem Wf.put (h : Wf w0 w base WB M r j B K X) (K' : Fr) (hq : w'.heap[B]? = some (.cells K'.cs 85 (0, 0))) (t : Turns (fun k => k = B) w w') : Wf w0 w' base WB M r j B K' X := by
  have := h.pg.turn h.part (freeP B K') hq t (fun k e => .inl e)
  rw [List.set_set] at this
  exact ⟨this, h.hj⟩
/-- What the Free's cells do not show may be told otherwise. -/
theorem Wf.recast (h : Wf w0 w base WB M r j B K X) (K' : Fr) (e : K'.cs = K.cs) : Wf w0 w base WB M r j B K' X := by
  refine ⟨?_, h.hj⟩
  have := h.pg
  unfold freeP at this ⊢
  rw [e]; exact this
/-- What is known of the word is put. -/
theorem Wf.word (h : Wf w0 w base WB M r j B K X) (l q : Bool) (hd : Int) (u : Nat) : Wf w0 (((w.setCell ⟨B, 2, none⟩ (.bool l)).setCell ⟨B, 3, none⟩ (.bool q)).setCell ⟨B, 4, none⟩ (.int .i64 hd)) base WB M r j B { K with l := l, q := q, h := hd, w := u } X :=
  h.put _ (set_blk (set_blk (set_blk h.blk 2 (.bool l) _ rfl) 3 (.bool q) _ rfl) 4 (.int .i64 hd) _ (by simp [Fr.cs]))
    ((((Turns.refl (fun k => k = B) w).setCell ⟨B, 2, none⟩ _ rfl).setCell ⟨B, 3, none⟩ _ rfl).setCell ⟨B, 4, none⟩ _ rfl)
theorem Wf.tail (h : Wf w0 w base WB M r j B K X) (t : Int) : Wf w0 (w.setCell ⟨B, 5, none⟩ (.int .i64 t)) base WB M r j B { K with t := t } X :=
  h.put _ (set_blk h.blk 5 (.int .i64 t) _ (by simp [Fr.cs])) ((Turns.refl (fun k => k = B) w).setCell ⟨B, 5, none⟩ _ rfl)
theorem Wf.line (h : Wf w0 w base WB M r j B K X) (n : Nat) : Wf w0 (w.setCell ⟨B, 0, none⟩ (.int .u8 (n : Int))) base WB M r j B { K with ln := n } X :=
  h.put _ (set_blk h.blk 0 (.int .u8 (n : Int)) _ (by simp [Fr.cs])) ((Turns.refl (fun k => k = B) w).setCell ⟨B, 0, none⟩ _ rfl)
/-- A block more beside them, a block less. -/
theorem Wf.pushB (h : Wf w0 w base WB M r j B K X) (ob : Obj) : Wf w0 (w.alloc ob) base WB M (r ++ [blockP w.heap.size ob]) j B K X := by
  have hp := h.pg.ps.push (blockP w.heap.size ob) (below1 w ob) (heap_alloc_new w ob) (fun k e => Nat.le_of_eq (show k = w.heap.size from e).symm)
  rw [List.append_assoc] at hp
  refine ⟨⟨?_, h.pg.wB, h.pg.xm, h.pg.bl.alloc h.pg.size _⟩, by rw [List.length_append]; have := h.hj; simp; omega⟩
  rw [List.set_append_left _ _ h.hj]
  exact hp
theorem Wf.dropB {q : Part} (h : Wf w0 w base WB M (r ++ [q]) j B K X) (hj : j < r.length) : Wf w0 w base WB M r j B K X := by
  have hp := h.pg.ps
  rw [List.set_append_left _ _ hj, ← List.append_assoc] at hp
  exact ⟨⟨Parts.left hp, h.pg.wB, h.pg.xm, h.pg.bl⟩, hj⟩
theorem Wf.last {Q : Nat} {ob : Obj} (h : Wf w0 w base WB M (r ++ [blockP Q ob]) j B K X) (hj : j < r.length) : w.heap[Q]? = some ob := by
  have hp := h.pg.ps
  rw [List.set_append_left _ _ hj, ← List.append_assoc] at hp
  exact hp.ok _ (blockP Q ob) (by rw [List.getElem?_append_right (by rw [List.length_append, List.length_set]; exact Nat.le_refl _)]; simp)
theorem Wf.turnLast {Q : Nat} {ob : Obj} (h : Wf w0 w base WB M (r ++ [blockP Q ob]) j B K X) (hj : j < r.length) (ob' : Obj) (hq : w'.heap[Q]? = some ob') (t : Turns (fun k => k = Q) w w') : Wf w0 w' base WB M (r ++ [blockP Q ob']) j B K X := by
  have hi : ((r ++ [blockP Q ob]).set j (freeP B K))[r.length]? = some (blockP Q ob) := by
    rw [List.set_append_left _ _ hj, List.getElem?_append_right (by rw [List.length_set]; exact Nat.le_refl _), List.length_set, Nat.sub_self]; rfl
  have hp := h.pg.turn hi (blockP Q ob') hq t (fun k e => .inl e)
  refine ⟨?_, by rw [List.length_append]; simp; omega⟩
  have e : ((r ++ [blockP Q ob]).set j (freeP B K)).set r.length (blockP Q ob') = (r ++ [blockP Q ob']).set j (freeP B K) := by
    rw [List.set_append_left _ _ hj, List.set_append_left _ _ hj, List.set_append_right _ _ (by rw [List.length_set]; exact Nat.le_refl _), List.length_set, Nat.sub_self]; rfl
  rw [e] at hp
  exact hp
theorem done_f (q : Bool) (hd : Int) (c3 : w.cell? ⟨B, 3, none⟩ = some (.bool q)) (c4 : w.cell? ⟨B, 4, none⟩ = some (.int .i64 hd)) : Calls Tryz.prog 54 #[.pointer (some ⟨B, 2, none⟩)] w fun e w' => e = .returned (.bool (q || decide (hd = -1))) ∧ w = w' := by
  cases q with
  | true =>
    go_enter Tryz.func54, Tryz.ntmps54
    go_wp2_with fail
    go_ret
    exact ⟨rfl, rfl⟩
  | false =>
    by_cases e : hd = -1
    · subst e
      go_enter Tryz.func54, Tryz.ntmps54
      go_wp2_with fail
      go_ret
      exact ⟨rfl, rfl⟩
    · have h1 : (hd == -1) = false := by rw [beq_eq_false_iff_ne]; exact e
      rw [decide_eq_false e]
      clear e
      go_enter Tryz.func54, Tryz.ntmps54
      go_wp2_with fail
      go_ret
      exact ⟨rfl, rfl⟩
/-- A Free that begins. -/
theorem new_free (a : Nat) (w : World) : Calls Tryz.prog 9 #[.int .u32 (a : Int)] w fun e w' => e = .returned (Pw w.heap.size) ∧ w' = w.alloc (.cells (fr0 a).cs 85) := by
  go_enter Tryz.func9, Tryz.ntmps9
  go_wp2_with fail
  go_ret
  exact ⟨rfl, rfl⟩
theorem over_f {n : Nat} (c0 : w.cell? ⟨B, 0, none⟩ = some (.int .u8 (n : Int))) : Calls Tryz.prog 45 #[Pw B] w fun e w' => e = .returned (.bool (decide (n = 0))) ∧ w = w' := by
  by_cases e : n = 0
  · subst e
    go_enter Tryz.func45, Tryz.ntmps45
    go_wp2_with fail
    go_ret
    exact ⟨rfl, rfl⟩
  · have h1 : ((n : Int) == 0) = false := by rw [beq_eq_false_iff_ne]; omega
    rw [decide_eq_false e]
    clear e
    go_enter Tryz.func45, Tryz.ntmps45
    go_wp2_with fail
    go_ret
    exact ⟨rfl, rfl⟩
end
end Go.Proofs.YthafnphpcdbnlaaGreat.S14
namespace Go.Proofs.YthafnphpcdbnlaaGreat.S14
open Go.Proofs.YthafnphpcdbnlaaGreat Go.Proofs.YthafnphpcdbnlaaGreat.S11 Go.Proofs.YthafnphpcdbnlaaGreat.S12 Go.Proofs.YthafnphpcdbnlaaGreat.S13
open Go.RowKit

section
variable {w0 w w' : World} {base WB : Nat} {M : Sd} {r : List Part} {j B : Nat} {K : Fr} {X : Wm}
theorem Wf.held {Q cb : Nat} {l2 q2 : Bool} {h2 : Int} (h : Wf w0 w base WB M (r ++ [blockP Q (.cells #[.bool l2, .bool q2, .int .i64 h2] 81)]) j B K X) (hj : j < r.length) (hc : X.cB = cb) :
    w.cell? ⟨WB, 0, none⟩ = some (Pw cb) ∧ w.cell? ⟨B, 1, none⟩ = some (.int .u32 (K.a : Int)) ∧ w.cell? ⟨B, 2, none⟩ = some (.bool K.l) ∧ w.cell? ⟨B, 3, none⟩ = some (.bool K.q) ∧ w.cell? ⟨B, 4, none⟩ = some (.int .i64 K.h) ∧ w.cell? ⟨Q, 0, none⟩ = some (.bool l2) ∧ w.cell? ⟨Q, 1, none⟩ = some (.bool q2) ∧ w.cell? ⟨Q, 2, none⟩ = some (.int .i64 h2) := by
  have hl := h.last hj
  subst hc
  exact ⟨h.pg.c.1, h.b1, h.b2, h.b3, h.b4, cell_row hl 0, cell_row hl 1, cell_row hl 2⟩
/-- A CAS of what is known: what is known behind it, either way. -/
def Fr.cas (K : Fr) (x was : Nat) (l2 q2 : Bool) (h2 : Int) : Fr := if x = was then { K with l := l2, q := q2, h := h2 } else { K with l := S1.bitB x 0, q := S1.bitB x 1, h := S1.headN x }
set_option maxRecDepth 100000 in
set_option maxHeartbeats 4000000 in
theorem swapped_f (h : Wf w0 w base WB M r j B K X) (ha : K.a < 4294967296) (hn : M.n ≤ 1000000000) (hi : S1.isHead K.h) {was : Nat} (hw : S1.putU K.l K.q K.h = was) {l2 q2 : Bool} {h2 : Int} (hi2 : S1.isHead h2) :
    Calls Tryz.prog 56 #[Pw B, Pw WB, .agg #[.bool l2, .bool q2, .int .i64 h2]] w fun e w' => e = .returned (.bool (decide (S2.look M.L K.a = was))) ∧ ∃ X', Wf w0 w' base WB (M.acc 3 K.a (S2.casV (S2.look M.L K.a) was (S1.putU l2 q2 h2))) r j B (K.cas (S2.look M.L K.a) was l2 q2 h2) X' := by
  have hj := h.hj
  have hA := h.pushB (.cells #[.bool l2, .bool q2, .int .i64 h2] 81)
  obtain ⟨Q, hQ⟩ : ∃ Q, Q = w.heap.size := ⟨_, rfl⟩
  rw [← hQ] at hA
  have HA := Lib.hid hA; have HJ := Lib.hid hj; have HQ := Lib.hid hQ
  obtain ⟨cb, hcb⟩ : ∃ cb, X.cB = cb := ⟨_, rfl⟩
  have HCB := Lib.hid hcb
  have HPA := Lib.hid (fun W => S1.putU_any K.l K.q K.h hi W)
  have HPB := Lib.hid (fun W => S1.putU_any l2 q2 h2 hi2 W)
  obtain ⟨x, hx⟩ : ∃ x, x = S2.look M.L K.a := ⟨_, rfl⟩
  have hxl : x < 18446744073709551616 := by rw [hx]; exact h.look K.a
  have HAS := Lib.hid (fun W => S1.as_any x hxl W)
  obtain ⟨is, his⟩ : ∃ is, is = S1.putU l2 q2 h2 := ⟨_, rfl⟩
  have hcs : ∀ W X', Wf w0 W base WB M (r ++ [blockP Q (.cells #[.bool l2, .bool q2, .int .i64 h2] 81)]) j B K X' → X'.cB = cb → Calls Tryz.prog 68 #[Pw cb, .int .u32 (K.a : Int), .int .u64 (was : Int), .int .u64 (is : Int)] W fun e w' => e = .returned (.tuple #[.int .u64 (x : Int), .bool (decide (x = was))]) ∧ ∃ X5, Wf w0 w' base WB (M.acc 3 K.a (S2.casV x was is)) (r ++ [blockP Q (.cells #[.bool l2, .bool q2, .int .i64 h2] 81)]) j B K X5 ∧ X5.cB = cb := fun W X' hW hc => by
    subst hc
    rw [hx]
    refine (hW.pg.cas ha (by rw [his]; exact S1.putU_lt _ _ _) hn (u := was)).mono ?_
    rintro e w' ⟨rfl, X5, h5, hcb5⟩
    exact ⟨rfl, X5, ⟨h5, hW.hj⟩, hcb5⟩
  have HCS := Lib.hid hcs
  rw [hw] at HPA
  rw [← his] at HPB
  rw [← hx, ← his]
  clear h hj hA hQ hcb hi hi2 hw hx hxl his hcs ha hn
  go_enter Tryz.func56, Tryz.ntmps56
  go_upto_region 1 with (fail)
  rw [← HQ.out]
  generalize w.alloc (.cells #[.bool l2, .bool q2, .int .i64 h2] 81) = w1 at *
  refine wp_region_held_drew (S := fun w' => w'.cell? ⟨WB, 0, none⟩ = some (Pw cb) ∧ w'.cell? ⟨B, 1, none⟩ = some (.int .u32 (K.a : Int)) ∧ w'.cell? ⟨B, 2, none⟩ = some (.bool K.l) ∧ w'.cell? ⟨B, 3, none⟩ = some (.bool K.q) ∧ w'.cell? ⟨B, 4, none⟩ = some (.int .i64 K.h) ∧ w'.cell? ⟨Q, 0, none⟩ = some (.bool l2) ∧ w'.cell? ⟨Q, 1, none⟩ = some (.bool q2) ∧ w'.cell? ⟨Q, 2, none⟩ = some (.int .i64 h2)) (by kernel_rfl) ?_ (fun hHeld => ?_)
  · exact (HA.out.new (Below.refl _ _).drew).held HJ.out HCB.out
  refine wpAnyH_take (i := 0) (oi := ({ dst := some 10, op := Op.move (Operand.tmp 1), type := 25, pos := "wordfrees.go:122", after := #[], guard := none } : Oper)) (v := ?vsm1) rfl (by kernel_rfl) (by kernel_rfl) (by kernel_rfl) (fun _ _ _ h => h) (Or.inl ⟨by rfl, fun w hSw => ?hysm1⟩) (by assumption) ?rsm1
  case hysm1 => (try dsimp only at hSw); go_simp; (try with_reducible rfl)
  (try simp only [Act.put, List.setIfInBounds_toArray, List.set_cons_zero, List.set_cons_succ])
  refine wpAnyH_take (i := 1) (oi := ({ dst := some 11, op := Op.nilCheck (Operand.tmp 10), type := 0, pos := "wordfrees.go:122", after := #[{ on := 0, ground := Ground.data }], guard := none } : Oper)) (v := ?vsm2) rfl (by kernel_rfl) (by kernel_rfl) (by kernel_rfl) (fun _ _ _ h => h) (Or.inl ⟨by rfl, fun w hSw => ?hysm2⟩) (by assumption) ?rsm2
  case hysm2 => (try dsimp only at hSw); go_simp; (try with_reducible rfl)
  (try simp only [Act.put, List.setIfInBounds_toArray, List.set_cons_zero, List.set_cons_succ])
  refine wpAnyH_take (i := 2) (oi := ({ dst := some 12, op := Op.fieldAddr 45 (Operand.tmp 11) 0, type := 0, pos := "wordfrees.go:122", after := #[{ on := 1, ground := Ground.data }], guard := none } : Oper)) (v := ?vsm3) rfl (by kernel_rfl) (by kernel_rfl) (by kernel_rfl) (fun _ _ _ h => h) (Or.inl ⟨by rfl, fun w hSw => ?hysm3⟩) (by assumption) ?rsm3
  case hysm3 => (try dsimp only at hSw); go_simp; (try with_reducible rfl)
  (try simp only [Act.put, List.setIfInBounds_toArray, List.set_cons_zero, List.set_cons_succ])
  refine wpAnyH_take (i := 3) (oi := ({ dst := some 13, op := Op.load 37 (Operand.tmp 12), type := 37, pos := "wordfrees.go:122", after := #[{ on := 2, ground := Ground.data }], guard := none } : Oper)) (v := ?vsm4) rfl (by kernel_rfl) (by kernel_rfl) (by kernel_rfl) (fun _ _ _ h => h) (Or.inl ⟨by rfl, fun w hSw => ?hysm4⟩) (by assumption) ?rsm4
  case hysm4 => (try dsimp only at hSw); go_simp; (try with_reducible rfl)
  (try simp only [Act.put, List.setIfInBounds_toArray, List.set_cons_zero, List.set_cons_succ])
  refine wpAnyH_take (i := 4) (oi := ({ dst := some 14, op := Op.move (Operand.tmp 0), type := 33, pos := "wordfrees.go:122", after := #[], guard := none } : Oper)) (v := ?vsm5) rfl (by kernel_rfl) (by kernel_rfl) (by kernel_rfl) (fun _ _ _ h => h) (Or.inl ⟨by rfl, fun w hSw => ?hysm5⟩) (by assumption) ?rsm5
  case hysm5 => (try dsimp only at hSw); go_simp; (try with_reducible rfl)
  (try simp only [Act.put, List.setIfInBounds_toArray, List.set_cons_zero, List.set_cons_succ])
  refine wpAnyH_take (i := 5) (oi := ({ dst := some 15, op := Op.nilCheck (Operand.tmp 14), type := 0, pos := "wordfrees.go:122", after := #[{ on := 4, ground := Ground.data }], guard := none } : Oper)) (v := ?vsm6) rfl (by kernel_rfl) (by kernel_rfl) (by kernel_rfl) (fun _ _ _ h => h) (Or.inl ⟨by rfl, fun w hSw => ?hysm6⟩) (by assumption) ?rsm6
  case hysm6 => (try dsimp only at hSw); go_simp; (try with_reducible rfl)
  (try simp only [Act.put, List.setIfInBounds_toArray, List.set_cons_zero, List.set_cons_succ])
  refine wpAnyH_take (i := 6) (oi := ({ dst := some 16, op := Op.fieldAddr 85 (Operand.tmp 15) 1, type := 0, pos := "wordfrees.go:122", after := #[{ on := 5, ground := Ground.data }], guard := none } : Oper)) (v := ?vsm7) rfl (by kernel_rfl) (by kernel_rfl) (by kernel_rfl) (fun _ _ _ h => h) (Or.inl ⟨by rfl, fun w hSw => ?hysm7⟩) (by assumption) ?rsm7
  case hysm7 => (try dsimp only at hSw); go_simp; (try with_reducible rfl)
  (try simp only [Act.put, List.setIfInBounds_toArray, List.set_cons_zero, List.set_cons_succ])
  refine wpAnyH_take (i := 7) (oi := ({ dst := some 17, op := Op.load 30 (Operand.tmp 16), type := 30, pos := "wordfrees.go:122", after := #[{ on := 6, ground := Ground.data }], guard := none } : Oper)) (v := ?vsm8) rfl (by kernel_rfl) (by kernel_rfl) (by kernel_rfl) (fun _ _ _ h => h) (Or.inl ⟨by rfl, fun w hSw => ?hysm8⟩) (by assumption) ?rsm8
  case hysm8 => (try dsimp only at hSw); go_simp; (try with_reducible rfl)
  (try simp only [Act.put, List.setIfInBounds_toArray, List.set_cons_zero, List.set_cons_succ])
  refine wpAnyH_take (i := 8) (oi := ({ dst := some 18, op := Op.move (Operand.tmp 0), type := 33, pos := "wordfrees.go:122", after := #[], guard := none } : Oper)) (v := ?vsm9) rfl (by kernel_rfl) (by kernel_rfl) (by kernel_rfl) (fun _ _ _ h => h) (Or.inl ⟨by rfl, fun w hSw => ?hysm9⟩) (by assumption) ?rsm9
  case hysm9 => (try dsimp only at hSw); go_simp; (try with_reducible rfl)
  (try simp only [Act.put, List.setIfInBounds_toArray, List.set_cons_zero, List.set_cons_succ])
  refine wpAnyH_take (i := 9) (oi := ({ dst := some 19, op := Op.nilCheck (Operand.tmp 18), type := 0, pos := "wordfrees.go:122", after := #[{ on := 8, ground := Ground.data }], guard := none } : Oper)) (v := ?vsm10) rfl (by kernel_rfl) (by kernel_rfl) (by kernel_rfl) (fun _ _ _ h => h) (Or.inl ⟨by rfl, fun w hSw => ?hysm10⟩) (by assumption) ?rsm10
  case hysm10 => (try dsimp only at hSw); go_simp; (try with_reducible rfl)
  (try simp only [Act.put, List.setIfInBounds_toArray, List.set_cons_zero, List.set_cons_succ])
  refine wpAnyH_take (i := 10) (oi := ({ dst := some 20, op := Op.fieldAddr 85 (Operand.tmp 19) 2, type := 0, pos := "wordfrees.go:122", after := #[{ on := 9, ground := Ground.data }], guard := none } : Oper)) (v := ?vsm11) rfl (by kernel_rfl) (by kernel_rfl) (by kernel_rfl) (fun _ _ _ h => h) (Or.inl ⟨by rfl, fun w hSw => ?hysm11⟩) (by assumption) ?rsm11
  case hysm11 => (try dsimp only at hSw); go_simp; (try with_reducible rfl)
  (try simp only [Act.put, List.setIfInBounds_toArray, List.set_cons_zero, List.set_cons_succ])
  refine wpAnyH_take (i := 11) (oi := ({ dst := some 21, op := Op.fieldAddr 83 (Operand.tmp 20) 0, type := 0, pos := "wordfrees.go:122", after := #[{ on := 10, ground := Ground.data }], guard := none } : Oper)) (v := ?vsm12) rfl (by kernel_rfl) (by kernel_rfl) (by kernel_rfl) (fun _ _ _ h => h) (Or.inl ⟨by rfl, fun w hSw => ?hysm12⟩) (by assumption) ?rsm12
  case hysm12 => (try dsimp only at hSw); go_simp; (try with_reducible rfl)
  (try simp only [Act.put, List.setIfInBounds_toArray, List.set_cons_zero, List.set_cons_succ])
  refine wpAnyH_take (i := 12) (oi := ({ dst := some 22, op := Op.load 81 (Operand.tmp 21), type := 81, pos := "wordfrees.go:122", after := #[{ on := 11, ground := Ground.data }], guard := none } : Oper)) (v := ?vsm13) rfl (by kernel_rfl) (by kernel_rfl) (by kernel_rfl) (fun _ _ _ h => h) (Or.inl ⟨by rfl, fun w hSw => ?hysm13⟩) (by assumption) ?rsm13
  case hysm13 => (try dsimp only at hSw); go_simp; (try with_reducible rfl)
  (try simp only [Act.put, List.setIfInBounds_toArray, List.set_cons_zero, List.set_cons_succ])
  refine wpAnyH_take (i := 14) (oi := ({ dst := some 24, op := Op.load 81 (Operand.tmp 5), type := 81, pos := "wordfrees.go:122", after := #[], guard := none } : Oper)) (v := ?vsm14) rfl (by kernel_rfl) (by kernel_rfl) (by kernel_rfl) (fun _ _ _ h => h) (Or.inl ⟨by rfl, fun w hSw => ?hysm14⟩) (by assumption) ?rsm14
  case hysm14 => (try dsimp only at hSw); go_simp; (try with_reducible rfl)
  (try simp only [Act.put, List.setIfInBounds_toArray, List.set_cons_zero, List.set_cons_succ])
  refine wpAnyH_ready (rs := [13]) (by kernel_rfl) (by simp) ?_
  refine AllReadyH.cons (o := ({ dst := some 23, op := Op.call { callee := Callee.value (Operand.func 58), args := #[Operand.tmp 22], argTypes := #[81] }, type := 36, pos := "wordfrees.go:122", after := #[{ on := 12, ground := Ground.data }], guard := none } : Oper)) rfl (fun Kq hKq => ?_) AllReadyH.nil
  go_simp
  (refine (HPA.out _).mono ?_; rintro e w3 ⟨rfl, hb3⟩; have H3 := Lib.hid ((HA.out.new (Below.refl _ _).drew).new hb3); clear hb3)
  refine hKq.out _ _ ?_ (fun hHeld => ?_)
  · exact H3.out.held HJ.out HCB.out
  clear hKq Kq
  (try simp only [Act.put, List.setIfInBounds_toArray, List.set_cons_zero, List.set_cons_succ])
  refine wpAnyH_ready (rs := [15]) (by kernel_rfl) (by simp) ?_
  refine AllReadyH.cons (o := ({ dst := some 25, op := Op.call { callee := Callee.value (Operand.func 58), args := #[Operand.tmp 24], argTypes := #[81] }, type := 36, pos := "wordfrees.go:122", after := #[{ on := 14, ground := Ground.data }, { on := 13, ground := Ground.chain }], guard := none } : Oper)) rfl (fun Kq hKq => ?_) AllReadyH.nil
  go_simp
  (refine (HPB.out _).mono ?_; rintro e w4 ⟨rfl, hb4⟩; have H4 := Lib.hid (H3.out.new hb4); clear hb4)
  refine hKq.out _ _ ?_ (fun hHeld => ?_)
  · exact H4.out.held HJ.out HCB.out
  clear hKq Kq
  (try simp only [Act.put, List.setIfInBounds_toArray, List.set_cons_zero, List.set_cons_succ])
  refine wpAnyH_ready (rs := [16]) (by kernel_rfl) (by simp) ?_
  refine AllReadyH.cons (o := ({ dst := some 26, op := Op.call { callee := Callee.value (Operand.func 68), args := #[Operand.tmp 13, Operand.tmp 17, Operand.tmp 23, Operand.tmp 25], argTypes := #[37, 30, 36, 36] }, type := 181, pos := "wordfrees.go:122", after := #[{ on := 3, ground := Ground.data }, { on := 7, ground := Ground.data }, { on := 13, ground := Ground.data }, { on := 15, ground := Ground.data }, { on := 15, ground := Ground.chain }], guard := none } : Oper)) rfl (fun Kq hKq => ?_) AllReadyH.nil
  go_simp
  (refine (HCS.out w4 X H4.out HCB.out).mono ?_; rintro e w5 ⟨rfl, X5, h5, hcb5⟩; have H5 := Lib.hid h5; have HCB5 := Lib.hid hcb5; clear h5 hcb5)
  refine hKq.out _ _ ?_ (fun hHeld => ?_)
  · exact H5.out.held HJ.out HCB5.out
  clear hKq Kq
  (try simp only [Act.put, List.setIfInBounds_toArray, List.set_cons_zero, List.set_cons_succ])
  refine wpAnyH_take (i := 17) (oi := ({ dst := some 9, op := Op.move (Operand.tmp 26), type := 181, pos := "wordfrees.go:122", after := #[{ on := 16, ground := Ground.data }], guard := none } : Oper)) (v := ?vsm15) rfl (by kernel_rfl) (by kernel_rfl) (by kernel_rfl) (fun _ _ _ h => h) (Or.inl ⟨by rfl, fun w hSw => ?hysm15⟩) (by assumption) ?rsm15
  case hysm15 => (try dsimp only at hSw); go_simp; (try with_reducible rfl)
  (try simp only [Act.put, List.setIfInBounds_toArray, List.set_cons_zero, List.set_cons_succ])
  refine wpAnyH_take (i := 18) (oi := ({ dst := some 27, op := Op.extract (Operand.tmp 9) 0, type := 36, pos := "wordfrees.go:122", after := #[{ on := 17, ground := Ground.data }], guard := none } : Oper)) (v := ?vsm16) rfl (by kernel_rfl) (by kernel_rfl) (by kernel_rfl) (fun _ _ _ h => h) (Or.inl ⟨by rfl, fun w hSw => ?hysm16⟩) (by assumption) ?rsm16
  case hysm16 => (try dsimp only at hSw); go_simp; (try with_reducible rfl)
  (try simp only [Act.put, List.setIfInBounds_toArray, List.set_cons_zero, List.set_cons_succ])
  refine wpAnyH_take (i := 19) (oi := ({ dst := some 28, op := Op.extract (Operand.tmp 9) 1, type := 4, pos := "wordfrees.go:122", after := #[{ on := 17, ground := Ground.data }, { on := 20, ground := Ground.gcOnly Departure.lateStores }], guard := none } : Oper)) (v := ?vsm17) rfl (by kernel_rfl) (by kernel_rfl) (by kernel_rfl) (fun _ _ _ h => h) (Or.inl ⟨by rfl, fun w hSw => ?hysm17⟩) (by assumption) ?rsm17
  case hysm17 => (try dsimp only at hSw); go_simp; (try with_reducible rfl)
  (try simp only [Act.put, List.setIfInBounds_toArray, List.set_cons_zero, List.set_cons_succ])
  refine wpAnyH_take (i := 20) (oi := ({ dst := some 7, op := Op.assign (Operand.tmp 27), type := 36, pos := "wordfrees.go:122", after := #[{ on := 18, ground := Ground.data }, { on := 16, ground := Ground.chain }, { on := 0, ground := Ground.phase }, { on := 1, ground := Ground.phase }, { on := 2, ground := Ground.phase }, { on := 3, ground := Ground.phase }, { on := 4, ground := Ground.phase }, { on := 5, ground := Ground.phase }, { on := 6, ground := Ground.phase }, { on := 7, ground := Ground.phase }, { on := 8, ground := Ground.phase }, { on := 9, ground := Ground.phase }, { on := 10, ground := Ground.phase }, { on := 11, ground := Ground.phase }, { on := 12, ground := Ground.phase }, { on := 13, ground := Ground.phase }, { on := 14, ground := Ground.phase }, { on := 15, ground := Ground.phase }, { on := 16, ground := Ground.phase }, { on := 17, ground := Ground.phase }, { on := 18, ground := Ground.phase }, { on := 19, ground := Ground.textOnly Departure.lateStores }], guard := none } : Oper)) (v := ?vsm18) rfl (by kernel_rfl) (by kernel_rfl) (by kernel_rfl) (fun _ _ _ h => h) (Or.inl ⟨by rfl, fun w hSw => ?hysm18⟩) (by assumption) ?rsm18
  case hysm18 => (try dsimp only at hSw); go_simp; (try with_reducible rfl)
  (try simp only [Act.put, List.setIfInBounds_toArray, List.set_cons_zero, List.set_cons_succ])
  refine wpAnyH_take (i := 21) (oi := ({ dst := some 8, op := Op.assign (Operand.tmp 28), type := 4, pos := "wordfrees.go:122", after := #[{ on := 19, ground := Ground.data }, { on := 20, ground := Ground.chain }, { on := 0, ground := Ground.phase }, { on := 1, ground := Ground.phase }, { on := 2, ground := Ground.phase }, { on := 3, ground := Ground.phase }, { on := 4, ground := Ground.phase }, { on := 5, ground := Ground.phase }, { on := 6, ground := Ground.phase }, { on := 7, ground := Ground.phase }, { on := 8, ground := Ground.phase }, { on := 9, ground := Ground.phase }, { on := 10, ground := Ground.phase }, { on := 11, ground := Ground.phase }, { on := 12, ground := Ground.phase }, { on := 13, ground := Ground.phase }, { on := 14, ground := Ground.phase }, { on := 15, ground := Ground.phase }, { on := 16, ground := Ground.phase }, { on := 17, ground := Ground.phase }, { on := 18, ground := Ground.phase }, { on := 19, ground := Ground.phase }, { on := 20, ground := Ground.phase }], guard := none } : Oper)) (v := ?vsm19) rfl (by kernel_rfl) (by kernel_rfl) (by kernel_rfl) (fun _ _ _ h => h) (Or.inl ⟨by rfl, fun w hSw => ?hysm19⟩) (by assumption) ?rsm19
  case hysm19 => (try dsimp only at hSw); go_simp; (try with_reducible rfl)
  (try simp only [Act.put, List.setIfInBounds_toArray, List.set_cons_zero, List.set_cons_succ])
  refine wpAnyH_done (by kernel_rfl) ?_ _
  clear hHeld HPA HPB HCS HA H3 H4
  obtain ⟨a1, a2, a3, a4, a5, a6, a7, a8⟩ := H5.out.held HJ.out HCB5.out
  have f2 := H5.out.fz 2; have f3 := H5.out.fz 3; have f4 := H5.out.fz 4
  by_cases e : x = was
  · have hd : decide (x = was) = true := decide_eq_true e
    have hk : K.cas x was l2 q2 h2 = { K with l := l2, q := q2, h := h2 } := if_pos e
    rw [hd]
    have HK := Lib.hid hk
    clear hk hd HAS
    go_wp2_with fail
    go_ret
    exact ⟨by rw [decide_eq_true e]; rfl, X5, by rw [HK.out]; exact (H5.out.word l2 q2 h2 K.w).dropB HJ.out⟩
  · have hd : decide (x = was) = false := decide_eq_false e
    have hk : K.cas x was l2 q2 h2 = { K with l := S1.bitB x 0, q := S1.bitB x 1, h := S1.headN x } := if_neg e
    rw [hd]
    have HK := Lib.hid hk
    unfold S1.asV at HAS
    obtain ⟨b0, hb0⟩ : ∃ b, b = S1.bitB x 0 := ⟨_, rfl⟩
    obtain ⟨b1, hb1⟩ : ∃ b, b = S1.bitB x 1 := ⟨_, rfl⟩
    obtain ⟨hd2, hhd⟩ : ∃ b, b = S1.headN x := ⟨_, rfl⟩
    rw [← hb0, ← hb1, ← hhd] at HAS HK
    clear hk hd hb0 hb1 hhd a1 a2 a3 a4 a5 a6 a7 a8 f2 f3 f4
    go_upto_region 5 with (fail)
    go_wp2_with (go_at_call 52; refine (HAS.out _).mono ?_; rintro e w6 ⟨rfl, hb6⟩; have H6 := Lib.hid (H5.out.new hb6); have b2 := H6.out.b2; have b3 := H6.out.b3; have b4 := H6.out.b4; have f2 := H6.out.fz 2; have f3 := H6.out.fz 3; have f4 := H6.out.fz 4; clear hb6)
    go_ret
    exact ⟨by rw [decide_eq_false e]; rfl, X5, by rw [HK.out]; exact (H6.out.word b0 b1 hd2 K.w).dropB HJ.out⟩
end
end Go.Proofs.YthafnphpcdbnlaaGreat.S14
namespace Go.Proofs.YthafnphpcdbnlaaGreat.S14
open Go.Proofs.YthafnphpcdbnlaaGreat Go.Proofs.YthafnphpcdbnlaaGreat.S11 Go.Proofs.YthafnphpcdbnlaaGreat.S12 Go.Proofs.YthafnphpcdbnlaaGreat.S13
open Go.RowKit

/-- What a line leaves: what comes next is told, the Free bears it not yet. -/
def Behind (w0 : World) (base WB : Nat) (M : Sd) (r : List Part) (j B : Nat) (K : Fr) (e : Ending) (w' : World) : Prop :=
  e = .returned (.int .u8 ((fstepK M K).ln : Int)) ∧ ∃ X', Wf w0 w' base WB (fstepM M K) r j B { fstepK M K with ln := K.ln } X'
/-- What a look for who came first leaves. -/
def SeekF (w0 : World) (base WB : Nat) (M : Sd) (r : List Part) (j B : Nat) (K : Fr) (u : Nat) (e : Ending) (w' : World) : Prop :=
  e = .returned (.int .u8 ((seekL M.lk u).2.2 : Int)) ∧ ∃ X', Wf w0 w' base WB (M.link (seekL M.lk u).1) r j B { K with t := (seekL M.lk u).2.1 } X'
theorem seek_le (S : S5.Lk) (h : ∀ i, S i ≤ 64) : ∀ (n t : Nat), t < 64 → ∀ i, (S5.go n S t).1 i ≤ 64 := by
  intro n
  induction n generalizing S with
  | zero => intro t _ i; exact h i
  | succ n ih =>
    intro t ht i
    rw [S5.go]
    split
    · split
      · exact h i
      · refine ih _ (fun k => ?_) _ (by have := h (t * 3); omega) i
        unfold S5.upd
        split
        · omega
        · exact h k
    · exact h i
theorem seekO_le {S : S5.Lk} (h : ∀ i, S i ≤ 64) (u : Nat) : (S5.seekO S (hdO u)).2 ≤ 64 ∧ ∀ i, (S5.seekO S (hdO u)).1 i ≤ 64 := by
  unfold hdO
  split
  · rename_i hu
    have hg := seek_le S h 64 (u / 4 - 1) (by omega)
    show (S5.closeS _ (S5.go 64 S _)).2 ≤ 64 ∧ ∀ i, (S5.closeS _ (S5.go 64 S _)).1 i ≤ 64
    generalize S5.go 64 S (u / 4 - 1) = P at *
    obtain ⟨T, o⟩ := P
    cases o with
    | none => exact ⟨by show 0 ≤ 64; omega, hg⟩
    | some a =>
      refine ⟨hg _, fun i => ?_⟩
      show S5.upd T _ (T _) i ≤ 64
      unfold S5.upd
      split
      · exact hg _
      · exact hg i
  · exact ⟨by show 0 ≤ 64; omega, h⟩
theorem field_prev (a b c : Value) (w : World) : (Instr.field 165 (.agg #[a, b, c]) 1).run Tryz.prog w = .ok b w := by kernel_rfl
section
variable {w0 w w' : World} {base WB : Nat} {M : Sd} {r : List Part} {j B : Nat} {K : Fr} {X : Wm}
theorem Wf.cells (h : Wf w0 w base WB M r j B K X) : w.cell? ⟨WB, 0, none⟩ = some (Pw X.cB) ∧ w.cell? ⟨B, 1, none⟩ = some (.int .u32 (K.a : Int)) := ⟨h.pg.c.1, h.b1⟩
set_option maxRecDepth 100000 in
set_option maxHeartbeats 8000000 in
theorem beh1 (h : Wf w0 w base WB M r j B K X) (ok : FrOk M K) (hl : K.ln = 1) : Calls Tryz.prog 46 #[Pw B, Pw WB] w (Behind w0 base WB M r j B K) := by
  have hj := h.hj
  have c0 := h.b0
  rw [hl] at c0
  have c2 := h.b2; have c3 := h.b3; have c4 := h.b4
  have hA := h.pushB (.cells #[.bool K.l, .bool K.q, .int .i64 K.h] 81)
  obtain ⟨Q, hQ⟩ : ∃ Q, Q = w.heap.size := ⟨_, rfl⟩
  rw [← hQ] at hA
  have HA := Lib.hid hA; have HJ := Lib.hid hj; have HQ := Lib.hid hQ; have HOK := Lib.hid ok; have HL := Lib.hid hl
  clear h hj hA hQ ok hl
  go_enter Tryz.func46, Tryz.ntmps46
  go_wp2_with fail
  refine wp_scope_two rfl rfl ?_
  go_upto_region 3 with (fail)
  rw [← HQ.out]
  generalize w.alloc (.cells #[.bool K.l, .bool K.q, .int .i64 K.h] 81) = w1 at *
  clear c0 c2 c3 c4
  have c0 := HA.out.b0
  rw [HL.out] at c0
  obtain ⟨x, hx⟩ : ∃ x, x = S2.look M.L K.a := ⟨_, rfl⟩
  have hxl : x < 18446744073709551616 := by rw [hx]; exact HA.out.look K.a
  have HAS := Lib.hid (fun W => S1.as_any x hxl W)
  have had : Calls Tryz.prog 53 #[Pw X.cB, .int .u32 (K.a : Int), .int .u64 18446744073709551615] w1.drew fun e w' => e = .returned (.int .u64 (x : Int)) ∧ ∃ X', Pg w0 w' base WB (M.acc 5 K.a ((S2.look M.L K.a + 18446744073709551615) % 18446744073709551616)) ((r ++ [blockP Q (.cells #[.bool K.l, .bool K.q, .int .i64 K.h] 81)]).set j (freeP B K)) X' ∧ X'.cB = X.cB := by
    rw [hx]
    have h1 := pg_add (HA.out.new (Below.refl _ _).drew).pg HOK.out.a (v := 18446744073709551615) (by omega) HOK.out.n
    rw [show ((18446744073709551615 : Nat) : Int) = 18446744073709551615 from rfl] at h1
    exact h1
  have HAD := Lib.hid had
  have HX := Lib.hid hx
  unfold S1.asV at HAS
  obtain ⟨b0, hb0⟩ : ∃ b, b = S1.bitB x 0 := ⟨_, rfl⟩
  obtain ⟨b1, hb1⟩ : ∃ b, b = S1.bitB x 1 := ⟨_, rfl⟩
  obtain ⟨hd, hhd⟩ : ∃ b, b = S1.headN x := ⟨_, rfl⟩
  rw [← hb0, ← hb1, ← hhd] at HAS
  have HB := Lib.hid (And.intro hb0 (And.intro hb1 hhd))
  have HX0 := Lib.hid HA.out.cells
  clear had hx hxl hb0 hb1 hhd
  go_upto_region 7 with (fail)
  clear c0
  refine wp_region_held_drew (S := fun w' => w'.cell? ⟨WB, 0, none⟩ = some (Pw X.cB) ∧ w'.cell? ⟨B, 1, none⟩ = some (.int .u32 (K.a : Int))) (by kernel_rfl) ?_ (fun hHeld => ?_)
  · exact HX0.out
  refine wpAnyH_take (i := 0) (oi := ({ dst := some 30, op := Op.move (Operand.tmp 5), type := 159, pos := "wordfrees.go:68", after := #[], guard := none } : Oper)) (v := ?va1m1) rfl (by kernel_rfl) (by kernel_rfl) (by kernel_rfl) (fun _ _ _ h => h) (Or.inl ⟨by rfl, fun w hSw => ?hya1m1⟩) (by assumption) ?ra1m1
  case hya1m1 => (try dsimp only at hSw); go_simp; (try with_reducible rfl)
  (try simp only [Act.put, List.setIfInBounds_toArray, List.set_cons_zero, List.set_cons_succ])
  refine wpAnyH_take (i := 1) (oi := ({ dst := some 31, op := Op.move (Operand.tmp 1), type := 25, pos := "wordfrees.go:68", after := #[], guard := none } : Oper)) (v := ?va1m2) rfl (by kernel_rfl) (by kernel_rfl) (by kernel_rfl) (fun _ _ _ h => h) (Or.inl ⟨by rfl, fun w hSw => ?hya1m2⟩) (by assumption) ?ra1m2
  case hya1m2 => (try dsimp only at hSw); go_simp; (try with_reducible rfl)
  (try simp only [Act.put, List.setIfInBounds_toArray, List.set_cons_zero, List.set_cons_succ])
  refine wpAnyH_take (i := 2) (oi := ({ dst := some 32, op := Op.nilCheck (Operand.tmp 31), type := 0, pos := "wordfrees.go:68", after := #[{ on := 1, ground := Ground.data }], guard := none } : Oper)) (v := ?va1m3) rfl (by kernel_rfl) (by kernel_rfl) (by kernel_rfl) (fun _ _ _ h => h) (Or.inl ⟨by rfl, fun w hSw => ?hya1m3⟩) (by assumption) ?ra1m3
  case hya1m3 => (try dsimp only at hSw); go_simp; (try with_reducible rfl)
  (try simp only [Act.put, List.setIfInBounds_toArray, List.set_cons_zero, List.set_cons_succ])
  refine wpAnyH_take (i := 3) (oi := ({ dst := some 33, op := Op.fieldAddr 45 (Operand.tmp 32) 0, type := 0, pos := "wordfrees.go:68", after := #[{ on := 2, ground := Ground.data }], guard := none } : Oper)) (v := ?va1m4) rfl (by kernel_rfl) (by kernel_rfl) (by kernel_rfl) (fun _ _ _ h => h) (Or.inl ⟨by rfl, fun w hSw => ?hya1m4⟩) (by assumption) ?ra1m4
  case hya1m4 => (try dsimp only at hSw); go_simp; (try with_reducible rfl)
  (try simp only [Act.put, List.setIfInBounds_toArray, List.set_cons_zero, List.set_cons_succ])
  refine wpAnyH_take (i := 4) (oi := ({ dst := some 34, op := Op.load 37 (Operand.tmp 33), type := 37, pos := "wordfrees.go:68", after := #[{ on := 3, ground := Ground.data }], guard := none } : Oper)) (v := ?va1m5) rfl (by kernel_rfl) (by kernel_rfl) (by kernel_rfl) (fun _ _ _ h => h) (Or.inl ⟨by rfl, fun w hSw => ?hya1m5⟩) (by assumption) ?ra1m5
  case hya1m5 => (try dsimp only at hSw); go_simp; (try with_reducible rfl)
  (try simp only [Act.put, List.setIfInBounds_toArray, List.set_cons_zero, List.set_cons_succ])
  refine wpAnyH_take (i := 5) (oi := ({ dst := some 35, op := Op.move (Operand.tmp 0), type := 33, pos := "wordfrees.go:68", after := #[], guard := none } : Oper)) (v := ?va1m6) rfl (by kernel_rfl) (by kernel_rfl) (by kernel_rfl) (fun _ _ _ h => h) (Or.inl ⟨by rfl, fun w hSw => ?hya1m6⟩) (by assumption) ?ra1m6
  case hya1m6 => (try dsimp only at hSw); go_simp; (try with_reducible rfl)
  (try simp only [Act.put, List.setIfInBounds_toArray, List.set_cons_zero, List.set_cons_succ])
  refine wpAnyH_take (i := 6) (oi := ({ dst := some 36, op := Op.nilCheck (Operand.tmp 35), type := 0, pos := "wordfrees.go:68", after := #[{ on := 5, ground := Ground.data }], guard := none } : Oper)) (v := ?va1m7) rfl (by kernel_rfl) (by kernel_rfl) (by kernel_rfl) (fun _ _ _ h => h) (Or.inl ⟨by rfl, fun w hSw => ?hya1m7⟩) (by assumption) ?ra1m7
  case hya1m7 => (try dsimp only at hSw); go_simp; (try with_reducible rfl)
  (try simp only [Act.put, List.setIfInBounds_toArray, List.set_cons_zero, List.set_cons_succ])
  refine wpAnyH_take (i := 7) (oi := ({ dst := some 37, op := Op.fieldAddr 85 (Operand.tmp 36) 1, type := 0, pos := "wordfrees.go:68", after := #[{ on := 6, ground := Ground.data }], guard := none } : Oper)) (v := ?va1m8) rfl (by kernel_rfl) (by kernel_rfl) (by kernel_rfl) (fun _ _ _ h => h) (Or.inl ⟨by rfl, fun w hSw => ?hya1m8⟩) (by assumption) ?ra1m8
  case hya1m8 => (try dsimp only at hSw); go_simp; (try with_reducible rfl)
  (try simp only [Act.put, List.setIfInBounds_toArray, List.set_cons_zero, List.set_cons_succ])
  refine wpAnyH_take (i := 8) (oi := ({ dst := some 38, op := Op.load 30 (Operand.tmp 37), type := 30, pos := "wordfrees.go:68", after := #[{ on := 7, ground := Ground.data }], guard := none } : Oper)) (v := ?va1m9) rfl (by kernel_rfl) (by kernel_rfl) (by kernel_rfl) (fun _ _ _ h => h) (Or.inl ⟨by rfl, fun w hSw => ?hya1m9⟩) (by assumption) ?ra1m9
  case hya1m9 => (try dsimp only at hSw); go_simp; (try with_reducible rfl)
  (try simp only [Act.put, List.setIfInBounds_toArray, List.set_cons_zero, List.set_cons_succ])
  refine wpAnyH_ready (rs := [9]) (by kernel_rfl) (by simp) ?_
  refine AllReadyH.cons (o := ({ dst := some 39, op := Op.call { callee := Callee.value (Operand.func 53), args := #[Operand.tmp 34, Operand.tmp 38, Operand.const (Value.int IntKind.u64 18446744073709551615)], argTypes := #[37, 30, 36] }, type := 36, pos := "wordfrees.go:68", after := #[{ on := 4, ground := Ground.data }, { on := 8, ground := Ground.data }], guard := none } : Oper)) rfl (fun Kq hKq => ?_) AllReadyH.nil
  go_simp
  (refine HAD.out.mono ?_; rintro e w3 ⟨rfl, X3, h3g, hcb3⟩; have H3 := Lib.hid (show Wf w0 w3 base WB (M.acc 5 K.a ((S2.look M.L K.a + 18446744073709551615) % 18446744073709551616)) (r ++ [blockP Q (.cells #[.bool K.l, .bool K.q, .int .i64 K.h] 81)]) j B K X3 from ⟨h3g, HA.out.hj⟩); have HCB := Lib.hid hcb3; clear h3g hcb3)
  refine hKq.out _ _ ?_ (fun hHeld => ?_)
  · (have q := H3.out.cells; rw [HCB.out] at q; exact q)
  clear hKq Kq
  (try simp only [Act.put, List.setIfInBounds_toArray, List.set_cons_zero, List.set_cons_succ])
  refine wpAnyH_ready (rs := [10]) (by kernel_rfl) (by simp) ?_
  refine AllReadyH.cons (o := ({ dst := some 40, op := Op.call { callee := Callee.value (Operand.func 52), args := #[Operand.tmp 39], argTypes := #[36] }, type := 81, pos := "wordfrees.go:68", after := #[{ on := 9, ground := Ground.data }, { on := 9, ground := Ground.chain }], guard := none } : Oper)) rfl (fun Kq hKq => ?_) AllReadyH.nil
  go_simp
  (refine (HAS.out _).mono ?_; rintro e w4 ⟨rfl, hb4⟩; have H4 := Lib.hid (H3.out.new hb4); clear hb4)
  refine hKq.out _ _ ?_ (fun hHeld => ?_)
  · (have q := H4.out.cells; rw [HCB.out] at q; exact q)
  clear hKq Kq
  (try simp only [Act.put, List.setIfInBounds_toArray, List.set_cons_zero, List.set_cons_succ])
  refine wpAnyH_take (i := 11) (oi := ({ dst := some 41, op := Op.nilCheck (Operand.tmp 30), type := 0, pos := "wordfrees.go:68", after := #[{ on := 0, ground := Ground.data }, { on := 0, ground := Ground.phase }, { on := 1, ground := Ground.phase }, { on := 2, ground := Ground.phase }, { on := 3, ground := Ground.phase }, { on := 4, ground := Ground.phase }, { on := 5, ground := Ground.phase }, { on := 6, ground := Ground.phase }, { on := 7, ground := Ground.phase }, { on := 8, ground := Ground.phase }, { on := 9, ground := Ground.phase }, { on := 10, ground := Ground.phase }], guard := none } : Oper)) (v := ?va1m10) rfl (by kernel_rfl) (by kernel_rfl) (by kernel_rfl) (fun _ _ _ h => h) (Or.inl ⟨by rfl, fun w hSw => ?hya1m10⟩) (by assumption) ?ra1m10
  case hya1m10 => (try dsimp only at hSw); go_simp; (try with_reducible rfl)
  (try simp only [Act.put, List.setIfInBounds_toArray, List.set_cons_zero, List.set_cons_succ])
  refine wpAnyH_take (i := 12) (oi := ({ dst := some 42, op := Op.fieldAddr 83 (Operand.tmp 41) 0, type := 0, pos := "wordfrees.go:68", after := #[{ on := 11, ground := Ground.data }, { on := 0, ground := Ground.phase }, { on := 1, ground := Ground.phase }, { on := 2, ground := Ground.phase }, { on := 3, ground := Ground.phase }, { on := 4, ground := Ground.phase }, { on := 5, ground := Ground.phase }, { on := 6, ground := Ground.phase }, { on := 7, ground := Ground.phase }, { on := 8, ground := Ground.phase }, { on := 9, ground := Ground.phase }, { on := 10, ground := Ground.phase }], guard := none } : Oper)) (v := ?va1m11) rfl (by kernel_rfl) (by kernel_rfl) (by kernel_rfl) (fun _ _ _ h => h) (Or.inl ⟨by rfl, fun w hSw => ?hya1m11⟩) (by assumption) ?ra1m11
  case hya1m11 => (try dsimp only at hSw); go_simp; (try with_reducible rfl)
  (try simp only [Act.put, List.setIfInBounds_toArray, List.set_cons_zero, List.set_cons_succ])
  refine wpAnyH_ready (rs := [13]) (by kernel_rfl) (by simp) ?_
  refine AllReadyH.cons (o := ({ dst := none, op := Op.store 81 (Operand.tmp 42) (Operand.tmp 40), type := 0, pos := "wordfrees.go:68", after := #[{ on := 12, ground := Ground.data }, { on := 10, ground := Ground.data }, { on := 10, ground := Ground.chain }, { on := 0, ground := Ground.phase }, { on := 1, ground := Ground.phase }, { on := 2, ground := Ground.phase }, { on := 3, ground := Ground.phase }, { on := 4, ground := Ground.phase }, { on := 5, ground := Ground.phase }, { on := 6, ground := Ground.phase }, { on := 7, ground := Ground.phase }, { on := 8, ground := Ground.phase }, { on := 9, ground := Ground.phase }, { on := 10, ground := Ground.phase }], guard := none } : Oper)) rfl (fun Kq hKq => ?_) AllReadyH.nil
  (have y2 := H4.out.b2; have y3 := H4.out.b3; have y4 := H4.out.b4; have f2 := H4.out.fz 2; have f3 := H4.out.fz 3; have f4 := H4.out.fz 4; go_simp; have h5 := H4.out.word b0 b1 hd K.w; have H5 := Lib.hid h5; clear y2 y3 y4 f2 f3 f4 h5; generalize ((w4.setCell ⟨B, 2, none⟩ (.bool b0)).setCell ⟨B, 3, none⟩ (.bool b1)).setCell ⟨B, 4, none⟩ (.int .i64 hd) = w5 at *)
  refine hKq.out _ _ ?_ (fun hHeld => ?_)
  · (have q := H5.out.cells; rw [HCB.out] at q; exact q)
  clear hKq Kq
  (try simp only [Act.put, List.setIfInBounds_toArray, List.set_cons_zero, List.set_cons_succ])
  refine wpAnyH_done (by kernel_rfl) ?_ _
  clear hHeld
  have z3 := H5.out.b3; have z4 := H5.out.b4
  have hid : idle x = (b1 || decide (hd = -1)) := by unfold idle; rw [← HB.out.2.1, ← HB.out.2.2]
  have HDN := Lib.hid (done_f (w := w5) b1 hd z3 z4)
  have HID := Lib.hid hid
  clear hid z3 z4
  have hfin : Behind w0 base WB M r j B K (.returned (.int .u8 ((if idle x = true then 0 else 2 : Nat) : Int))) w5 := by
    unfold Behind
    rw [show fstepM M K = _ from by simp only [fstepM, HL.out]; rfl, show fstepK M K = _ from by simp only [fstepK, HL.out]; rfl, ← HX.out, ← HB.out.1, ← HB.out.2.1, ← HB.out.2.2]
    have h6 := H5.out.dropB HJ.out
    rw [← HX.out] at h6
    exact ⟨rfl, X3, h6⟩
  have HF := Lib.hid hfin
  clear hfin
  obtain ⟨id, hid⟩ : ∃ id, id = idle x := ⟨_, rfl⟩
  rw [← HID.out] at HDN
  rw [← hid] at HDN HF
  clear hid HID
  cases id with
  | true =>
    rw [if_pos rfl] at HF
    go_wp2_with (go_at_call 54; refine HDN.out.mono ?_; rintro e w6 ⟨rfl, rfl⟩)
    (try simp only [to2])
    go_ret
    exact HF.out
  | false =>
    rw [if_neg (by decide)] at HF
    go_wp2_with (go_at_call 54; refine HDN.out.mono ?_; rintro e w6 ⟨rfl, rfl⟩)
    (try simp only [to2])
    go_ret
    exact HF.out
end
end Go.Proofs.YthafnphpcdbnlaaGreat.S14
namespace Go.Proofs.YthafnphpcdbnlaaGreat.S14
open Go.Proofs.YthafnphpcdbnlaaGreat Go.Proofs.YthafnphpcdbnlaaGreat.S11 Go.Proofs.YthafnphpcdbnlaaGreat.S12 Go.Proofs.YthafnphpcdbnlaaGreat.S13
open Go.RowKit

section
variable {w0 w w' : World} {base WB : Nat} {M : Sd} {r : List Part} {j B : Nat} {K : Fr} {X : Wm}
set_option maxRecDepth 100000 in
set_option maxHeartbeats 8000000 in
theorem beh2 (h : Wf w0 w base WB M r j B K X) (ok : FrOk M K) (hl : K.ln = 2) : Calls Tryz.prog 46 #[Pw B, Pw WB] w (Behind w0 base WB M r j B K) := by
  have hj := h.hj
  have c0 := h.b0
  rw [hl] at c0
  have c2 := h.b2; have c3 := h.b3; have c4 := h.b4
  have hA := h.pushB (.cells #[.bool K.l, .bool K.q, .int .i64 K.h] 81)
  obtain ⟨Q, hQ⟩ : ∃ Q, Q = w.heap.size := ⟨_, rfl⟩
  rw [← hQ] at hA
  have HA := Lib.hid hA; have HJ := Lib.hid hj; have HQ := Lib.hid hQ; have HOK := Lib.hid ok; have HL := Lib.hid hl
  clear h hj hA hQ ok hl
  go_enter Tryz.func46, Tryz.ntmps46
  go_wp2_with fail
  refine wp_scope_two rfl rfl ?_
  go_upto_region 3 with (fail)
  rw [← HQ.out]
  generalize w.alloc (.cells #[.bool K.l, .bool K.q, .int .i64 K.h] 81) = w1 at *
  clear c0 c2 c3 c4
  have c0 := HA.out.b0
  rw [HL.out] at c0
  obtain ⟨x, hx⟩ : ∃ x, x = S2.look M.L K.a := ⟨_, rfl⟩
  have hxl : x < 18446744073709551616 := by rw [hx]; exact HA.out.look K.a
  have HAS := Lib.hid (fun W => S1.as_any x hxl W)
  have had : Calls Tryz.prog 55 #[Pw X.cB, .int .u32 (K.a : Int)] w1.drew fun e w' => e = .returned (.int .u64 (x : Int)) ∧ ∃ X', Pg w0 w' base WB (M.acc 1 K.a (S2.look M.L K.a)) ((r ++ [blockP Q (.cells #[.bool K.l, .bool K.q, .int .i64 K.h] 81)]).set j (freeP B K)) X' ∧ X'.cB = X.cB := by
    rw [hx]
    exact (HA.out.new (Below.refl _ _).drew).pg.load HOK.out.a HOK.out.n
  have HAD := Lib.hid had
  have HX := Lib.hid hx
  unfold S1.asV at HAS
  obtain ⟨b0, hb0⟩ : ∃ b, b = S1.bitB x 0 := ⟨_, rfl⟩
  obtain ⟨b1, hb1⟩ : ∃ b, b = S1.bitB x 1 := ⟨_, rfl⟩
  obtain ⟨hd, hhd⟩ : ∃ b, b = S1.headN x := ⟨_, rfl⟩
  rw [← hb0, ← hb1, ← hhd] at HAS
  have HB := Lib.hid (And.intro hb0 (And.intro hb1 hhd))
  have HX0 := Lib.hid HA.out.cells
  clear had hx hxl hb0 hb1 hhd
  go_upto_region 12 with (fail)
  clear c0
  refine wp_region_held_drew (S := fun w' => w'.cell? ⟨WB, 0, none⟩ = some (Pw X.cB) ∧ w'.cell? ⟨B, 1, none⟩ = some (.int .u32 (K.a : Int))) (by kernel_rfl) ?_ (fun hHeld => ?_)
  · exact HX0.out
  refine wpAnyH_take (i := 0) (oi := ({ dst := some 47, op := Op.move (Operand.tmp 5), type := 159, pos := "wordfrees.go:74", after := #[], guard := none } : Oper)) (v := ?va2m1) rfl (by kernel_rfl) (by kernel_rfl) (by kernel_rfl) (fun _ _ _ h => h) (Or.inl ⟨by rfl, fun w hSw => ?hya2m1⟩) (by assumption) ?ra2m1
  case hya2m1 => (try dsimp only at hSw); go_simp; (try with_reducible rfl)
  (try simp only [Act.put, List.setIfInBounds_toArray, List.set_cons_zero, List.set_cons_succ])
  refine wpAnyH_take (i := 1) (oi := ({ dst := some 48, op := Op.move (Operand.tmp 1), type := 25, pos := "wordfrees.go:74", after := #[], guard := none } : Oper)) (v := ?va2m2) rfl (by kernel_rfl) (by kernel_rfl) (by kernel_rfl) (fun _ _ _ h => h) (Or.inl ⟨by rfl, fun w hSw => ?hya2m2⟩) (by assumption) ?ra2m2
  case hya2m2 => (try dsimp only at hSw); go_simp; (try with_reducible rfl)
  (try simp only [Act.put, List.setIfInBounds_toArray, List.set_cons_zero, List.set_cons_succ])
  refine wpAnyH_take (i := 2) (oi := ({ dst := some 49, op := Op.nilCheck (Operand.tmp 48), type := 0, pos := "wordfrees.go:74", after := #[{ on := 1, ground := Ground.data }], guard := none } : Oper)) (v := ?va2m3) rfl (by kernel_rfl) (by kernel_rfl) (by kernel_rfl) (fun _ _ _ h => h) (Or.inl ⟨by rfl, fun w hSw => ?hya2m3⟩) (by assumption) ?ra2m3
  case hya2m3 => (try dsimp only at hSw); go_simp; (try with_reducible rfl)
  (try simp only [Act.put, List.setIfInBounds_toArray, List.set_cons_zero, List.set_cons_succ])
  refine wpAnyH_take (i := 3) (oi := ({ dst := some 50, op := Op.fieldAddr 45 (Operand.tmp 49) 0, type := 0, pos := "wordfrees.go:74", after := #[{ on := 2, ground := Ground.data }], guard := none } : Oper)) (v := ?va2m4) rfl (by kernel_rfl) (by kernel_rfl) (by kernel_rfl) (fun _ _ _ h => h) (Or.inl ⟨by rfl, fun w hSw => ?hya2m4⟩) (by assumption) ?ra2m4
  case hya2m4 => (try dsimp only at hSw); go_simp; (try with_reducible rfl)
  (try simp only [Act.put, List.setIfInBounds_toArray, List.set_cons_zero, List.set_cons_succ])
  refine wpAnyH_take (i := 4) (oi := ({ dst := some 51, op := Op.load 37 (Operand.tmp 50), type := 37, pos := "wordfrees.go:74", after := #[{ on := 3, ground := Ground.data }], guard := none } : Oper)) (v := ?va2m5) rfl (by kernel_rfl) (by kernel_rfl) (by kernel_rfl) (fun _ _ _ h => h) (Or.inl ⟨by rfl, fun w hSw => ?hya2m5⟩) (by assumption) ?ra2m5
  case hya2m5 => (try dsimp only at hSw); go_simp; (try with_reducible rfl)
  (try simp only [Act.put, List.setIfInBounds_toArray, List.set_cons_zero, List.set_cons_succ])
  refine wpAnyH_take (i := 5) (oi := ({ dst := some 52, op := Op.move (Operand.tmp 0), type := 33, pos := "wordfrees.go:74", after := #[], guard := none } : Oper)) (v := ?va2m6) rfl (by kernel_rfl) (by kernel_rfl) (by kernel_rfl) (fun _ _ _ h => h) (Or.inl ⟨by rfl, fun w hSw => ?hya2m6⟩) (by assumption) ?ra2m6
  case hya2m6 => (try dsimp only at hSw); go_simp; (try with_reducible rfl)
  (try simp only [Act.put, List.setIfInBounds_toArray, List.set_cons_zero, List.set_cons_succ])
  refine wpAnyH_take (i := 6) (oi := ({ dst := some 53, op := Op.nilCheck (Operand.tmp 52), type := 0, pos := "wordfrees.go:74", after := #[{ on := 5, ground := Ground.data }], guard := none } : Oper)) (v := ?va2m7) rfl (by kernel_rfl) (by kernel_rfl) (by kernel_rfl) (fun _ _ _ h => h) (Or.inl ⟨by rfl, fun w hSw => ?hya2m7⟩) (by assumption) ?ra2m7
  case hya2m7 => (try dsimp only at hSw); go_simp; (try with_reducible rfl)
  (try simp only [Act.put, List.setIfInBounds_toArray, List.set_cons_zero, List.set_cons_succ])
  refine wpAnyH_take (i := 7) (oi := ({ dst := some 54, op := Op.fieldAddr 85 (Operand.tmp 53) 1, type := 0, pos := "wordfrees.go:74", after := #[{ on := 6, ground := Ground.data }], guard := none } : Oper)) (v := ?va2m8) rfl (by kernel_rfl) (by kernel_rfl) (by kernel_rfl) (fun _ _ _ h => h) (Or.inl ⟨by rfl, fun w hSw => ?hya2m8⟩) (by assumption) ?ra2m8
  case hya2m8 => (try dsimp only at hSw); go_simp; (try with_reducible rfl)
  (try simp only [Act.put, List.setIfInBounds_toArray, List.set_cons_zero, List.set_cons_succ])
  refine wpAnyH_take (i := 8) (oi := ({ dst := some 55, op := Op.load 30 (Operand.tmp 54), type := 30, pos := "wordfrees.go:74", after := #[{ on := 7, ground := Ground.data }], guard := none } : Oper)) (v := ?va2m9) rfl (by kernel_rfl) (by kernel_rfl) (by kernel_rfl) (fun _ _ _ h => h) (Or.inl ⟨by rfl, fun w hSw => ?hya2m9⟩) (by assumption) ?ra2m9
  case hya2m9 => (try dsimp only at hSw); go_simp; (try with_reducible rfl)
  (try simp only [Act.put, List.setIfInBounds_toArray, List.set_cons_zero, List.set_cons_succ])
  refine wpAnyH_ready (rs := [9]) (by kernel_rfl) (by simp) ?_
  refine AllReadyH.cons (o := ({ dst := some 56, op := Op.call { callee := Callee.value (Operand.func 55), args := #[Operand.tmp 51, Operand.tmp 55], argTypes := #[37, 30] }, type := 36, pos := "wordfrees.go:74", after := #[{ on := 4, ground := Ground.data }, { on := 8, ground := Ground.data }], guard := none } : Oper)) rfl (fun Kq hKq => ?_) AllReadyH.nil
  go_simp
  (refine HAD.out.mono ?_; rintro e w3 ⟨rfl, X3, h3g, hcb3⟩; have H3 := Lib.hid (show Wf w0 w3 base WB (M.acc 1 K.a (S2.look M.L K.a)) (r ++ [blockP Q (.cells #[.bool K.l, .bool K.q, .int .i64 K.h] 81)]) j B K X3 from ⟨h3g, HA.out.hj⟩); have HCB := Lib.hid hcb3; clear h3g hcb3)
  refine hKq.out _ _ ?_ (fun hHeld => ?_)
  · (have q := H3.out.cells; rw [HCB.out] at q; exact q)
  clear hKq Kq
  (try simp only [Act.put, List.setIfInBounds_toArray, List.set_cons_zero, List.set_cons_succ])
  refine wpAnyH_ready (rs := [10]) (by kernel_rfl) (by simp) ?_
  refine AllReadyH.cons (o := ({ dst := some 57, op := Op.call { callee := Callee.value (Operand.func 52), args := #[Operand.tmp 56], argTypes := #[36] }, type := 81, pos := "wordfrees.go:74", after := #[{ on := 9, ground := Ground.data }, { on := 9, ground := Ground.chain }], guard := none } : Oper)) rfl (fun Kq hKq => ?_) AllReadyH.nil
  go_simp
  (refine (HAS.out _).mono ?_; rintro e w4 ⟨rfl, hb4⟩; have H4 := Lib.hid (H3.out.new hb4); clear hb4)
  refine hKq.out _ _ ?_ (fun hHeld => ?_)
  · (have q := H4.out.cells; rw [HCB.out] at q; exact q)
  clear hKq Kq
  (try simp only [Act.put, List.setIfInBounds_toArray, List.set_cons_zero, List.set_cons_succ])
  refine wpAnyH_take (i := 11) (oi := ({ dst := some 58, op := Op.nilCheck (Operand.tmp 47), type := 0, pos := "wordfrees.go:74", after := #[{ on := 0, ground := Ground.data }, { on := 0, ground := Ground.phase }, { on := 1, ground := Ground.phase }, { on := 2, ground := Ground.phase }, { on := 3, ground := Ground.phase }, { on := 4, ground := Ground.phase }, { on := 5, ground := Ground.phase }, { on := 6, ground := Ground.phase }, { on := 7, ground := Ground.phase }, { on := 8, ground := Ground.phase }, { on := 9, ground := Ground.phase }, { on := 10, ground := Ground.phase }], guard := none } : Oper)) (v := ?va2m10) rfl (by kernel_rfl) (by kernel_rfl) (by kernel_rfl) (fun _ _ _ h => h) (Or.inl ⟨by rfl, fun w hSw => ?hya2m10⟩) (by assumption) ?ra2m10
  case hya2m10 => (try dsimp only at hSw); go_simp; (try with_reducible rfl)
  (try simp only [Act.put, List.setIfInBounds_toArray, List.set_cons_zero, List.set_cons_succ])
  refine wpAnyH_take (i := 12) (oi := ({ dst := some 59, op := Op.fieldAddr 83 (Operand.tmp 58) 0, type := 0, pos := "wordfrees.go:74", after := #[{ on := 11, ground := Ground.data }, { on := 0, ground := Ground.phase }, { on := 1, ground := Ground.phase }, { on := 2, ground := Ground.phase }, { on := 3, ground := Ground.phase }, { on := 4, ground := Ground.phase }, { on := 5, ground := Ground.phase }, { on := 6, ground := Ground.phase }, { on := 7, ground := Ground.phase }, { on := 8, ground := Ground.phase }, { on := 9, ground := Ground.phase }, { on := 10, ground := Ground.phase }], guard := none } : Oper)) (v := ?va2m11) rfl (by kernel_rfl) (by kernel_rfl) (by kernel_rfl) (fun _ _ _ h => h) (Or.inl ⟨by rfl, fun w hSw => ?hya2m11⟩) (by assumption) ?ra2m11
  case hya2m11 => (try dsimp only at hSw); go_simp; (try with_reducible rfl)
  (try simp only [Act.put, List.setIfInBounds_toArray, List.set_cons_zero, List.set_cons_succ])
  refine wpAnyH_ready (rs := [13]) (by kernel_rfl) (by simp) ?_
  refine AllReadyH.cons (o := ({ dst := none, op := Op.store 81 (Operand.tmp 59) (Operand.tmp 57), type := 0, pos := "wordfrees.go:74", after := #[{ on := 12, ground := Ground.data }, { on := 10, ground := Ground.data }, { on := 10, ground := Ground.chain }, { on := 0, ground := Ground.phase }, { on := 1, ground := Ground.phase }, { on := 2, ground := Ground.phase }, { on := 3, ground := Ground.phase }, { on := 4, ground := Ground.phase }, { on := 5, ground := Ground.phase }, { on := 6, ground := Ground.phase }, { on := 7, ground := Ground.phase }, { on := 8, ground := Ground.phase }, { on := 9, ground := Ground.phase }, { on := 10, ground := Ground.phase }], guard := none } : Oper)) rfl (fun Kq hKq => ?_) AllReadyH.nil
  (have y2 := H4.out.b2; have y3 := H4.out.b3; have y4 := H4.out.b4; have f2 := H4.out.fz 2; have f3 := H4.out.fz 3; have f4 := H4.out.fz 4; go_simp; have h5 := H4.out.word b0 b1 hd x; have H5 := Lib.hid h5; clear y2 y3 y4 f2 f3 f4 h5; generalize ((w4.setCell ⟨B, 2, none⟩ (.bool b0)).setCell ⟨B, 3, none⟩ (.bool b1)).setCell ⟨B, 4, none⟩ (.int .i64 hd) = w5 at *)
  refine hKq.out _ _ ?_ (fun hHeld => ?_)
  · (have q := H5.out.cells; rw [HCB.out] at q; exact q)
  clear hKq Kq
  (try simp only [Act.put, List.setIfInBounds_toArray, List.set_cons_zero, List.set_cons_succ])
  refine wpAnyH_done (by kernel_rfl) ?_ _
  clear hHeld
  have z3 := H5.out.b3; have z4 := H5.out.b4
  have hid : idle x = (b1 || decide (hd = -1)) := by unfold idle; rw [← HB.out.2.1, ← HB.out.2.2]
  have HDN := Lib.hid (done_f (w := w5) b1 hd z3 z4)
  have HID := Lib.hid hid
  clear hid z3 z4
  have hfin : Behind w0 base WB M r j B K (.returned (.int .u8 ((if idle x = true then 0 else 3 : Nat) : Int))) w5 := by
    unfold Behind
    rw [show fstepM M K = _ from by simp only [fstepM, HL.out]; rfl, show fstepK M K = _ from by simp only [fstepK, HL.out]; rfl, ← HX.out]
    have h6 := H5.out.dropB HJ.out
    rw [← HX.out, HB.out.1, HB.out.2.1, HB.out.2.2] at h6
    exact ⟨rfl, X3, h6⟩
  have HF := Lib.hid hfin
  clear hfin
  go_wp2_with fail
  obtain ⟨id, hid⟩ : ∃ id, id = idle x := ⟨_, rfl⟩
  rw [← HID.out] at HDN
  rw [← hid] at HDN HF
  clear hid HID
  go_step3
  refine Or.inl ⟨rfl, ?_⟩
  show Code.wp _ _ _ _ _
  cases id with
  | true =>
    rw [if_pos rfl] at HF
    go_wp2_with (go_at_call 54; refine HDN.out.mono ?_; rintro e w6 ⟨rfl, rfl⟩)
    (try simp only [Exit.noGoto])
    go_ret
    exact HF.out
  | false =>
    rw [if_neg (by decide)] at HF
    go_wp2_with (go_at_call 54; refine HDN.out.mono ?_; rintro e w6 ⟨rfl, rfl⟩)
    (try simp only [Exit.noGoto])
    go_ret
    exact HF.out
end
end Go.Proofs.YthafnphpcdbnlaaGreat.S14
namespace Go.Proofs.YthafnphpcdbnlaaGreat.S14
open Go.Proofs.YthafnphpcdbnlaaGreat Go.Proofs.YthafnphpcdbnlaaGreat.S11 Go.Proofs.YthafnphpcdbnlaaGreat.S12 Go.Proofs.YthafnphpcdbnlaaGreat.S13
open Go.RowKit

section
variable {w0 w w' : World} {base WB : Nat} {M : Sd} {r : List Part} {j B : Nat} {K : Fr} {X : Wm}
set_option maxRecDepth 100000 in
set_option maxHeartbeats 8000000 in
theorem beh3 (h : Wf w0 w base WB M r j B K X) (ok : FrOk M K) (hl : K.ln = 3) : Calls Tryz.prog 46 #[Pw B, Pw WB] w (Behind w0 base WB M r j B K) := by
  have hj := h.hj
  have c0 := h.b0
  rw [hl] at c0
  have c2 := h.b2; have c3 := h.b3; have c4 := h.b4
  have hA := h.pushB (.cells #[.bool K.l, .bool K.q, .int .i64 K.h] 81)
  obtain ⟨Q, hQ⟩ : ∃ Q, Q = w.heap.size := ⟨_, rfl⟩
  rw [← hQ] at hA
  have HA := Lib.hid hA; have HJ := Lib.hid hj; have HQ := Lib.hid hQ; have HOK := Lib.hid ok; have HL := Lib.hid hl
  clear h hj hA hQ ok hl
  go_enter Tryz.func46, Tryz.ntmps46
  go_wp2_with fail
  refine wp_scope_two rfl rfl ?_
  go_upto_region 3 with (fail)
  rw [← HQ.out]
  generalize w.alloc (.cells #[.bool K.l, .bool K.q, .int .i64 K.h] 81) = w1 at *
  clear c0 c2 c3 c4
  have c0 := HA.out.b0
  rw [HL.out] at c0
  obtain ⟨kl, kq, kh, kn⟩ := HOK.out.con (by rw [HL.out]; omega) (by rw [HL.out]; omega)
  have hput : S1.putU K.l K.q K.h = K.w := by rw [kl, kq, kh]; exact (word_put kn).1
  have hish : S1.isHead K.h := by rw [kh]; exact S1.head_is _
  have hl1 := HA.out.last HJ.out
  have g0 := cell_row hl1 0; have g1 := cell_row hl1 1; have g2 := cell_row hl1 2; have fz1 := froz_row hl1 1
  simp only [List.getElem?_toArray, List.getElem?_cons_zero, List.getElem?_cons_succ] at g0 g1 g2
  have h2 := HA.out.turnLast HJ.out (.cells #[.bool K.l, .bool true, .int .i64 K.h] 81) (set_blk hl1 1 (.bool true) _ (by simp)) ((Turns.refl (fun k => k = Q) w1).setCell ⟨Q, 1, none⟩ _ rfl)
  have H2 := Lib.hid h2
  clear h2 hl1
  go_upto_region 15 with (fail)
  generalize w1.setCell ⟨Q, 1, none⟩ (.bool true) = w2 at *
  clear g0 g1 g2 fz1 c0
  have hl1 := H2.out.last HJ.out
  have g0 := cell_row hl1 0; have g1 := cell_row hl1 1; have g2 := cell_row hl1 2
  simp only [List.getElem?_toArray, List.getElem?_cons_zero, List.getElem?_cons_succ] at g0 g1 g2
  clear hl1
  obtain ⟨x, hx⟩ : ∃ x, x = S2.look M.L K.a := ⟨_, rfl⟩
  have hsw : Calls Tryz.prog 56 #[Pw B, Pw WB, .agg #[.bool K.l, .bool true, .int .i64 K.h]] w2 fun e w' => e = .returned (.bool (decide (x = K.w))) ∧ ∃ X', Wf w0 w' base WB (M.acc 3 K.a (S2.casV x K.w (wq K.w true))) (r ++ [blockP Q (.cells #[.bool K.l, .bool true, .int .i64 K.h] 81)]) j B (K.cas x K.w K.l true K.h) X' := by
    have hs := swapped_f H2.out HOK.out.a HOK.out.n hish hput (l2 := K.l) (q2 := true) (h2 := K.h) hish
    rw [show S1.putU K.l true K.h = wq K.w true from by rw [kl, kh]; rfl, ← hx] at hs
    exact hs
  obtain ⟨M1, hM1⟩ : ∃ M1, M1 = M.acc 3 K.a (S2.casV x K.w (wq K.w true)) := ⟨_, rfl⟩
  rw [← hM1] at hsw
  have HM1 := Lib.hid hM1; have HX := Lib.hid hx
  have HCON := Lib.hid (And.intro kl (And.intro kq (And.intro kh kn)))
  have hlk : M1.lk = M.lk := by rw [hM1]; rfl
  have HLK := Lib.hid hlk
  clear hM1 hput hish kl kq kh kn hlk
  by_cases e : x = K.w
  · have hsw2 := hsw
    rw [decide_eq_true e, show K.cas x K.w K.l true K.h = { K with l := K.l, q := true, h := K.h } from if_pos e] at hsw2
    have HSW := Lib.hid hsw2; have HE := Lib.hid e
    clear hsw hsw2 hx e
    have hu : ({ K with l := K.l, q := true, h := K.h, w := wq K.w true } : Fr).l = S1.bitB (wq K.w true) 0 ∧ ({ K with l := K.l, q := true, h := K.h, w := wq K.w true } : Fr).h = S1.headN (wq K.w true) := ⟨by rw [(wq_says K.w true).1]; exact HCON.out.1, by rw [(wq_says K.w true).2.2]; exact HCON.out.2.2.1⟩
    have HU := Lib.hid hu
    have hsb : ∀ e w', SeekF w0 base WB M1 (r ++ [blockP Q (.cells #[.bool K.l, .bool true, .int .i64 K.h] 81)]) j B { K with l := K.l, q := true, h := K.h, w := wq K.w true } (wq K.w true) e w' → Behind w0 base WB M r j B K e w' := fun e w' h => by
      obtain ⟨rfl, X', h⟩ := h
      unfold Behind
      rw [show fstepM M K = _ from by simp only [fstepM, HL.out]; rfl, show fstepK M K = _ from by simp only [fstepK, HL.out]; rfl, ← HX.out, if_pos HE.out, if_pos HE.out, ← HM1.out]
      rw [HLK.out] at h ⊢
      exact ⟨rfl, X', h.dropB HJ.out⟩
    have HSB := Lib.hid hsb
    clear hu hsb
    go_wp2_with (go_at_call 56; refine HSW.out.mono ?_; rintro e w5 ⟨rfl, X5, h5⟩; have H5 := Lib.hid h5; clear h5)
    have H6' := Lib.hid (H5.out.recast { K with l := K.l, q := true, h := K.h, w := wq K.w true } rfl)
    clear H5
    go_step3
    refine Or.inr ⟨rfl, ?_⟩
    show Code.wp _ _ _ _ _
    obtain ⟨lv, hlv⟩ : ∃ b, b = S1.bitB (wq K.w true) 0 := ⟨_, rfl⟩
    obtain ⟨hv, hhv⟩ : ∃ b, b = S1.headN (wq K.w true) := ⟨_, rfl⟩
    obtain ⟨n2, hn2⟩ : ∃ n, n = (S5.seekO (M1).lk (hdO (wq K.w true))).2 := ⟨_, rfl⟩
    obtain ⟨S2, hS2⟩ : ∃ S, S = (S5.seekO (M1).lk (hdO (wq K.w true))).1 := ⟨_, rfl⟩
    have hle := seekO_le (S := (M1).lk) (fun i => pg_le H6'.out.pg i) (wq K.w true)
    rw [← hn2, ← hS2] at hle
    have hsk : Calls Tryz.prog 61 #[Pw X5.lB, .int .i64 hv] w5.drew fun e w' => e = .returned (.int .i64 ((n2 : Int) - 1)) ∧ ∃ X', Pg w0 w' base WB ((M1).link S2) ((r ++ [blockP Q (.cells #[.bool K.l, .bool true, .int .i64 K.h] 81)]).set j (freeP B ({ K with l := K.l, q := true, h := K.h, w := wq K.w true }))) X' ∧ X'.lB = X5.lB := by
      rw [hn2, hS2, hhv]
      exact pg_seek (H6'.out.new (Below.refl _ _).drew).pg (num_head (wq K.w true))
    have HSK := Lib.hid hsk
    have HLV := Lib.hid hlv; have HHV := Lib.hid hhv; have HN2 := Lib.hid hn2; have HS2 := Lib.hid hS2; have HLE := Lib.hid hle
    have e2 := H6'.out.b2; have e4 := H6'.out.b4; have e3 := H6'.out.pg.c.2.2.1; have e5 := H6'.out.b5
    rw [HU.out.1, ← hlv] at e2
    rw [HU.out.2, ← hhv] at e4
    clear hlv hhv hn2 hS2 hle hsk
    have HX9 := Lib.hid (And.intro e3 e4)
    go_upto_region 29 with (fail)
    refine wp_region_held_drew (S := fun w' => w'.cell? ⟨WB, 3, none⟩ = some (Pw X5.lB) ∧ w'.cell? ⟨B, 4, none⟩ = some (.int .i64 hv)) (by kernel_rfl) ?_ (fun hHeld => ?_)
    · exact HX9.out
    refine wpAnyH_take (i := 0) (oi := ({ dst := some 96, op := Op.move (Operand.tmp 5), type := 159, pos := "wordfrees.go:106", after := #[], guard := none } : Oper)) (v := ?vsm1) rfl (by kernel_rfl) (by kernel_rfl) (by kernel_rfl) (fun _ _ _ h => h) (Or.inl ⟨by rfl, fun w hSw => ?hysm1⟩) (by assumption) ?rsm1
    case hysm1 => (try dsimp only at hSw); go_simp; (try with_reducible rfl)
    (try simp only [Act.put, List.setIfInBounds_toArray, List.set_cons_zero, List.set_cons_succ])
    refine wpAnyH_take (i := 1) (oi := ({ dst := some 97, op := Op.move (Operand.tmp 1), type := 25, pos := "wordfrees.go:106", after := #[], guard := none } : Oper)) (v := ?vsm2) rfl (by kernel_rfl) (by kernel_rfl) (by kernel_rfl) (fun _ _ _ h => h) (Or.inl ⟨by rfl, fun w hSw => ?hysm2⟩) (by assumption) ?rsm2
    case hysm2 => (try dsimp only at hSw); go_simp; (try with_reducible rfl)
    (try simp only [Act.put, List.setIfInBounds_toArray, List.set_cons_zero, List.set_cons_succ])
    refine wpAnyH_take (i := 2) (oi := ({ dst := some 98, op := Op.nilCheck (Operand.tmp 97), type := 0, pos := "wordfrees.go:106", after := #[{ on := 1, ground := Ground.data }], guard := none } : Oper)) (v := ?vsm3) rfl (by kernel_rfl) (by kernel_rfl) (by kernel_rfl) (fun _ _ _ h => h) (Or.inl ⟨by rfl, fun w hSw => ?hysm3⟩) (by assumption) ?rsm3
    case hysm3 => (try dsimp only at hSw); go_simp; (try with_reducible rfl)
    (try simp only [Act.put, List.setIfInBounds_toArray, List.set_cons_zero, List.set_cons_succ])
    refine wpAnyH_take (i := 3) (oi := ({ dst := some 99, op := Op.fieldAddr 45 (Operand.tmp 98) 3, type := 0, pos := "wordfrees.go:106", after := #[{ on := 2, ground := Ground.data }], guard := none } : Oper)) (v := ?vsm4) rfl (by kernel_rfl) (by kernel_rfl) (by kernel_rfl) (fun _ _ _ h => h) (Or.inl ⟨by rfl, fun w hSw => ?hysm4⟩) (by assumption) ?rsm4
    case hysm4 => (try dsimp only at hSw); go_simp; (try with_reducible rfl)
    (try simp only [Act.put, List.setIfInBounds_toArray, List.set_cons_zero, List.set_cons_succ])
    refine wpAnyH_take (i := 4) (oi := ({ dst := some 100, op := Op.load 40 (Operand.tmp 99), type := 40, pos := "wordfrees.go:106", after := #[{ on := 3, ground := Ground.data }], guard := none } : Oper)) (v := ?vsm5) rfl (by kernel_rfl) (by kernel_rfl) (by kernel_rfl) (fun _ _ _ h => h) (Or.inl ⟨by rfl, fun w hSw => ?hysm5⟩) (by assumption) ?rsm5
    case hysm5 => (try dsimp only at hSw); go_simp; (try with_reducible rfl)
    (try simp only [Act.put, List.setIfInBounds_toArray, List.set_cons_zero, List.set_cons_succ])
    refine wpAnyH_take (i := 5) (oi := ({ dst := some 101, op := Op.move (Operand.tmp 5), type := 159, pos := "wordfrees.go:106", after := #[], guard := none } : Oper)) (v := ?vsm6) rfl (by kernel_rfl) (by kernel_rfl) (by kernel_rfl) (fun _ _ _ h => h) (Or.inl ⟨by rfl, fun w hSw => ?hysm6⟩) (by assumption) ?rsm6
    case hysm6 => (try dsimp only at hSw); go_simp; (try with_reducible rfl)
    (try simp only [Act.put, List.setIfInBounds_toArray, List.set_cons_zero, List.set_cons_succ])
    refine wpAnyH_take (i := 6) (oi := ({ dst := some 102, op := Op.nilCheck (Operand.tmp 101), type := 0, pos := "wordfrees.go:106", after := #[{ on := 5, ground := Ground.data }], guard := none } : Oper)) (v := ?vsm7) rfl (by kernel_rfl) (by kernel_rfl) (by kernel_rfl) (fun _ _ _ h => h) (Or.inl ⟨by rfl, fun w hSw => ?hysm7⟩) (by assumption) ?rsm7
    case hysm7 => (try dsimp only at hSw); go_simp; (try with_reducible rfl)
    (try simp only [Act.put, List.setIfInBounds_toArray, List.set_cons_zero, List.set_cons_succ])
    refine wpAnyH_take (i := 7) (oi := ({ dst := some 103, op := Op.fieldAddr 83 (Operand.tmp 102) 0, type := 0, pos := "wordfrees.go:106", after := #[{ on := 6, ground := Ground.data }], guard := none } : Oper)) (v := ?vsm8) rfl (by kernel_rfl) (by kernel_rfl) (by kernel_rfl) (fun _ _ _ h => h) (Or.inl ⟨by rfl, fun w hSw => ?hysm8⟩) (by assumption) ?rsm8
    case hysm8 => (try dsimp only at hSw); go_simp; (try with_reducible rfl)
    (try simp only [Act.put, List.setIfInBounds_toArray, List.set_cons_zero, List.set_cons_succ])
    refine wpAnyH_take (i := 8) (oi := ({ dst := some 104, op := Op.fieldAddr 81 (Operand.tmp 103) 2, type := 0, pos := "wordfrees.go:106", after := #[{ on := 7, ground := Ground.data }], guard := none } : Oper)) (v := ?vsm9) rfl (by kernel_rfl) (by kernel_rfl) (by kernel_rfl) (fun _ _ _ h => h) (Or.inl ⟨by rfl, fun w hSw => ?hysm9⟩) (by assumption) ?rsm9
    case hysm9 => (try dsimp only at hSw); go_simp; (try with_reducible rfl)
    (try simp only [Act.put, List.setIfInBounds_toArray, List.set_cons_zero, List.set_cons_succ])
    refine wpAnyH_take (i := 9) (oi := ({ dst := some 105, op := Op.load 3 (Operand.tmp 104), type := 3, pos := "wordfrees.go:106", after := #[{ on := 8, ground := Ground.data }], guard := none } : Oper)) (v := ?vsm10) rfl (by kernel_rfl) (by kernel_rfl) (by kernel_rfl) (fun _ _ _ h => h) (Or.inl ⟨by rfl, fun w hSw => ?hysm10⟩) (by assumption) ?rsm10
    case hysm10 => (try dsimp only at hSw); go_simp; (try with_reducible rfl)
    (try simp only [Act.put, List.setIfInBounds_toArray, List.set_cons_zero, List.set_cons_succ])
    refine wpAnyH_ready (rs := [10]) (by kernel_rfl) (by simp) ?_
    refine AllReadyH.cons (o := ({ dst := some 106, op := Op.call { callee := Callee.value (Operand.func 61), args := #[Operand.tmp 100, Operand.tmp 105], argTypes := #[40, 3] }, type := 3, pos := "wordfrees.go:106", after := #[{ on := 4, ground := Ground.data }, { on := 9, ground := Ground.data }], guard := none } : Oper)) rfl (fun Kq hKq => ?_) AllReadyH.nil
    go_simp
    (refine HSK.out.mono ?_; rintro e w6 ⟨rfl, X6, h6g, hlb6⟩; have H6 := Lib.hid (show Wf w0 w6 base WB ((M1).link S2) (r ++ [blockP Q (.cells #[.bool K.l, .bool true, .int .i64 K.h] 81)]) j B ({ K with l := K.l, q := true, h := K.h, w := wq K.w true }) X6 from ⟨h6g, H6'.out.hj⟩); have HLB := Lib.hid hlb6; clear h6g hlb6)
    refine hKq.out _ _ ?_ (fun hHeld => ?_)
    · (have q3 := H6.out.pg.c.2.2.1; have q4 := H6.out.b4; rw [HLB.out] at q3; refine ⟨q3, ?_⟩; rw [HHV.out, ← HU.out.2]; exact q4)
    clear hKq Kq
    (try simp only [Act.put, List.setIfInBounds_toArray, List.set_cons_zero, List.set_cons_succ])
    refine wpAnyH_take (i := 11) (oi := ({ dst := some 107, op := Op.nilCheck (Operand.tmp 96), type := 0, pos := "wordfrees.go:106", after := #[{ on := 0, ground := Ground.data }, { on := 0, ground := Ground.phase }, { on := 1, ground := Ground.phase }, { on := 2, ground := Ground.phase }, { on := 3, ground := Ground.phase }, { on := 4, ground := Ground.phase }, { on := 5, ground := Ground.phase }, { on := 6, ground := Ground.phase }, { on := 7, ground := Ground.phase }, { on := 8, ground := Ground.phase }, { on := 9, ground := Ground.phase }, { on := 10, ground := Ground.phase }], guard := none } : Oper)) (v := ?vsm11) rfl (by kernel_rfl) (by kernel_rfl) (by kernel_rfl) (fun _ _ _ h => h) (Or.inl ⟨by rfl, fun w hSw => ?hysm11⟩) (by assumption) ?rsm11
    case hysm11 => (try dsimp only at hSw); go_simp; (try with_reducible rfl)
    (try simp only [Act.put, List.setIfInBounds_toArray, List.set_cons_zero, List.set_cons_succ])
    refine wpAnyH_take (i := 12) (oi := ({ dst := some 108, op := Op.fieldAddr 83 (Operand.tmp 107) 1, type := 0, pos := "wordfrees.go:106", after := #[{ on := 11, ground := Ground.data }, { on := 0, ground := Ground.phase }, { on := 1, ground := Ground.phase }, { on := 2, ground := Ground.phase }, { on := 3, ground := Ground.phase }, { on := 4, ground := Ground.phase }, { on := 5, ground := Ground.phase }, { on := 6, ground := Ground.phase }, { on := 7, ground := Ground.phase }, { on := 8, ground := Ground.phase }, { on := 9, ground := Ground.phase }, { on := 10, ground := Ground.phase }], guard := none } : Oper)) (v := ?vsm12) rfl (by kernel_rfl) (by kernel_rfl) (by kernel_rfl) (fun _ _ _ h => h) (Or.inl ⟨by rfl, fun w hSw => ?hysm12⟩) (by assumption) ?rsm12
    case hysm12 => (try dsimp only at hSw); go_simp; (try with_reducible rfl)
    (try simp only [Act.put, List.setIfInBounds_toArray, List.set_cons_zero, List.set_cons_succ])
    refine wpAnyH_ready (rs := [13]) (by kernel_rfl) (by simp) ?_
    refine AllReadyH.cons (o := ({ dst := none, op := Op.store 3 (Operand.tmp 108) (Operand.tmp 106), type := 0, pos := "wordfrees.go:106", after := #[{ on := 12, ground := Ground.data }, { on := 10, ground := Ground.data }, { on := 10, ground := Ground.chain }, { on := 0, ground := Ground.phase }, { on := 1, ground := Ground.phase }, { on := 2, ground := Ground.phase }, { on := 3, ground := Ground.phase }, { on := 4, ground := Ground.phase }, { on := 5, ground := Ground.phase }, { on := 6, ground := Ground.phase }, { on := 7, ground := Ground.phase }, { on := 8, ground := Ground.phase }, { on := 9, ground := Ground.phase }, { on := 10, ground := Ground.phase }], guard := none } : Oper)) rfl (fun Kq hKq => ?_) AllReadyH.nil
    (have y5 := H6.out.b5; have f5 := H6.out.fz 5; go_simp; have h7 := H6.out.tail ((n2 : Int) - 1); have H7 := Lib.hid h7; clear y5 f5 h7; generalize w6.setCell ⟨B, 5, none⟩ (.int .i64 ((n2 : Int) - 1)) = w7 at *)
    refine hKq.out _ _ ?_ (fun hHeld => ?_)
    · (have q3 := H7.out.pg.c.2.2.1; have q4 := H7.out.b4; rw [HLB.out] at q3; refine ⟨q3, ?_⟩; rw [HHV.out, ← HU.out.2]; exact q4)
    clear hKq Kq
    (try simp only [Act.put, List.setIfInBounds_toArray, List.set_cons_zero, List.set_cons_succ])
    refine wpAnyH_done (by kernel_rfl) ?_ _
    clear hHeld e2 e3 e4 e5 HSK
    have e5 := H7.out.b5; have e2 := H7.out.b2; have e4 := H7.out.b4; have e3 := H7.out.pg.c.2.2.1
    replace e2 : w7.cell? ⟨B, 2, none⟩ = some (.bool lv) := by rw [HLV.out, ← HU.out.1]; exact e2
    replace e4 : w7.cell? ⟨B, 4, none⟩ = some (.int .i64 hv) := by rw [HHV.out, ← HU.out.2]; exact e4
    have hleaf : ∀ (W : World) (S : S5.Lk) (t : Int) (n : Nat), (S, t, n) = seekL (M1).lk (wq K.w true) → (∃ X', Wf w0 W base WB ((M1).link S) (r ++ [blockP Q (.cells #[.bool K.l, .bool true, .int .i64 K.h] 81)]) j B { ({ K with l := K.l, q := true, h := K.h, w := wq K.w true } : Fr) with t := t } X') → Behind w0 base WB M r j B K (.returned (.int .u8 (n : Int))) W := fun W S t n hs ⟨X', hx⟩ => by
      refine HSB.out _ _ ⟨?_, X', ?_⟩
      · rw [← hs]
      · rw [← hs]; exact hx
    have HLF := Lib.hid hleaf
    clear hleaf
    cases n2 with
    | zero =>
      have e6 : w7.cell? ⟨B, 5, none⟩ = some (.int .i64 (-1)) := e5
      have hq : (S2, (-1 : Int), 0) = seekL (M1).lk (wq K.w true) := by unfold seekL; rw [if_pos HN2.out.symm, ← HS2.out]
      have HFIN := Lib.hid (HLF.out w7 _ _ _ hq ⟨X6, H7.out⟩)
      clear e5 hq HLF
      go_wp2_with fail
      (try simp only [Exit.noGoto])
      go_ret
      exact HFIN.out
    | succ m =>
      have em : ((m + 1 : Nat) : Int) - 1 = (m : Int) := by omega
      have hm := HLE.out.1
      rw [em] at e5
      have hne : ((m : Int) == -1) = false := by rw [beq_eq_false_iff_ne]; omega
      have hn0 : ¬ (S5.seekO (M1).lk (hdO (wq K.w true))).2 = 0 := by rw [← HN2.out]; omega
      have htl : (((S5.seekO (M1).lk (hdO (wq K.w true))).2 : Int) - 1) = (m : Int) := by rw [← HN2.out]; omega
      have hpr : (S5.seekO (M1).lk (hdO (wq K.w true))).2 - 1 = m := by rw [← HN2.out]; omega
      have h8 := H7.out
      rw [em] at h8
      have H8 := Lib.hid h8; have HM := Lib.hid (show m < 64 by omega); have HEQ := Lib.hid (And.intro hn0 (And.intro htl hpr))
      clear em hm hn0 htl hpr h8 H7
      cases lv with
      | true =>
        have hq : (S2, (m : Int), 4) = seekL (M1).lk (wq K.w true) := by unfold seekL; rw [if_neg HEQ.out.1, if_pos HLV.out.symm, HEQ.out.2.1, ← HS2.out]
        have HFIN := Lib.hid (HLF.out w7 _ _ _ hq ⟨X6, H8.out⟩)
        clear hq HLF
        go_wp2_with fail
        (try simp only [Exit.noGoto])
        go_ret
        exact HFIN.out
      | false =>
        obtain ⟨y0, y1, y2, hat0⟩ : ∃ y0 y1 y2 : Int, (Calls Tryz.prog 62 #[Pw X6.lB, .int .i64 (m : Int)] w7.drew fun e w' => e = .returned (.agg #[.int .i64 y0, .int .i64 y1, .int .i64 y2]) ∧ Below w7.drew.heap.size w7.drew w') ∧ y1 = (S2 (m * 3 + 1) : Int) - 1 := ⟨_, _, _, pg_at (H8.out.new (Below.refl _ _).drew).pg HM.out, rfl⟩
        have HAT := Lib.hid hat0.1; have HY1 := Lib.hid hat0.2
        have hfd : ∀ w : World, (Instr.field 165 (.agg #[.int .i64 y0, .int .i64 y1, .int .i64 y2]) 1).run Tryz.prog w = .ok (.int .i64 y1) w := fun w => field_prev _ _ _ w
        clear hat0
        by_cases hp : S2 (m * 3 + 1) = 0
        · have hy : y1 = -1 := by rw [HY1.out, hp]; rfl
          subst hy
          have hq : (S2, (m : Int), 5) = seekL (M1).lk (wq K.w true) := by unfold seekL; rw [if_neg HEQ.out.1, if_neg (by rw [← HLV.out]; decide), HEQ.out.2.2, HEQ.out.2.1, ← HS2.out, if_pos hp]
          have HFIN := Lib.hid (fun W (b : Below w7.heap.size w7 W) => HLF.out W _ _ _ hq ⟨X6, H8.out.new b⟩)
          clear hq HLF hp
          go_upto_region 34 with (fail)
          go_still_tail 8, (by kernel_rfl)
          change wpList _ _ _ _ _ w7.drew
          go_wp2_with (go_at_call 62; refine HAT.out.mono ?_; rintro e w8 ⟨rfl, hb8⟩; have HB8 := Lib.hid hb8; clear hb8)
          (try simp only [Exit.noGoto])
          go_ret
          exact HFIN.out _ (Below.trans (Below.refl _ _).drew HB8.out)
        · have hy : (y1 == -1) = false := by rw [HY1.out, beq_eq_false_iff_ne]; omega
          have hq : ((S5.cutO S2 (hdO (wq K.w true)) (some m)).1, (m : Int), 6) = seekL (M1).lk (wq K.w true) := by unfold seekL; rw [if_neg HEQ.out.1, if_neg (by rw [← HLV.out]; decide), HEQ.out.2.2, HEQ.out.2.1, ← HS2.out, if_neg hp]
          have HFIN := Lib.hid (fun W => HLF.out W _ _ _ hq)
          clear hq HLF hp
          go_upto_region 34 with (fail)
          go_still_tail 8, (by kernel_rfl)
          change wpList _ _ _ _ _ w7.drew
          go_upto_region 36 with (go_at_call 62; refine HAT.out.mono ?_; rintro e w8 ⟨rfl, hb8⟩; have H9 := Lib.hid (H8.out.new ((Below.refl _ _).drew.trans hb8)); clear hb8)
          clear e2 e3 e4 e5
          have e5 := H9.out.b5; have e4 := H9.out.b4; have e3 := H9.out.pg.c.2.2.1
          replace e4 : w8.cell? ⟨B, 4, none⟩ = some (.int .i64 hv) := by rw [HHV.out, ← HU.out.2]; exact e4
          have hct : Calls Tryz.prog 63 #[Pw X6.lB, .int .i64 hv, .int .i64 (m : Int)] w8.drew fun e w' => (∃ v, e = .returned (.int .i64 v)) ∧ ∃ X', Pg w0 w' base WB (((M1).link S2).link (S5.cutO S2 (hdO (wq K.w true)) (some m)).1) ((r ++ [blockP Q (.cells #[.bool K.l, .bool true, .int .i64 K.h] 81)]).set j (freeP B { ({ K with l := K.l, q := true, h := K.h, w := wq K.w true } : Fr) with t := (m : Int) })) X' ∧ X'.lB = X6.lB := by
            rw [HHV.out]
            exact (pg_cut (H9.out.new (Below.refl _ _).drew).pg (num_head (wq K.w true)) (show S5.Num (m : Int) (some m) from ⟨rfl, HM.out⟩)).mono (fun e w' h => ⟨⟨_, h.1⟩, h.2⟩)
          have HCT := Lib.hid hct
          clear hct
          go_still_tail 13, (by kernel_rfl)
          change wpList _ _ _ _ _ w8.drew
          go_wp2_with (go_at_call 63; refine HCT.out.mono ?_; rintro e w9 ⟨⟨cv, rfl⟩, X9, h9, hlb9⟩; have H10 := Lib.hid h9; clear h9 hlb9)
          (try simp only [Exit.noGoto])
          go_ret
          exact HFIN.out _ ⟨X9, H10.out, H9.out.hj⟩
  · have hsw2 := hsw
    rw [decide_eq_false e, show K.cas x K.w K.l true K.h = { K with l := S1.bitB x 0, q := S1.bitB x 1, h := S1.headN x } from if_neg e] at hsw2
    have HSW := Lib.hid hsw2; have HE := Lib.hid e
    clear hsw hsw2 hx e
    go_wp2_with (go_at_call 56; refine HSW.out.mono ?_; rintro e w5 ⟨rfl, X5, h5⟩; have H5 := Lib.hid h5; clear h5)
    have h6 := H5.out.recast (K.says x) rfl
    have H6 := Lib.hid h6
    have z3 := h6.b3; have z4 := h6.b4
    clear h6 H5
    have HDN := Lib.hid (done_f (w := w5) (S1.bitB x 1) (S1.headN x) z3 z4)
    have HID := Lib.hid (show idle x = (S1.bitB x 1 || decide (S1.headN x = -1)) from rfl)
    have hfin : Behind w0 base WB M r j B K (.returned (.int .u8 ((if idle x = true then 0 else 3 : Nat) : Int))) w5 := by
      unfold Behind
      rw [show fstepM M K = _ from by simp only [fstepM, HL.out]; rfl, show fstepK M K = _ from by simp only [fstepK, HL.out]; rfl, ← HX.out, if_neg HE.out, if_neg HE.out, ← HM1.out]
      exact ⟨rfl, X5, H6.out.dropB HJ.out⟩
    have HF := Lib.hid hfin
    clear hfin z3 z4
    obtain ⟨id, hid⟩ : ∃ id, id = idle x := ⟨_, rfl⟩
    rw [← HID.out] at HDN
    rw [← hid] at HDN HF
    clear hid HID
    go_step3
    refine Or.inl ⟨rfl, ?_⟩
    show Code.wp _ _ _ _ _
    cases id with
    | true =>
      rw [if_pos rfl] at HF
      go_wp2_with (go_at_call 54; refine HDN.out.mono ?_; rintro e w6 ⟨rfl, rfl⟩)
      (try simp only [Exit.noGoto])
      go_ret
      exact HF.out
    | false =>
      rw [if_neg (by decide)] at HF
      go_wp2_with (go_at_call 54; refine HDN.out.mono ?_; rintro e w6 ⟨rfl, rfl⟩)
      (try simp only [Exit.noGoto])
      go_ret
      exact HF.out
end
end Go.Proofs.YthafnphpcdbnlaaGreat.S14
namespace Go.Proofs.YthafnphpcdbnlaaGreat.S14
open Go.Proofs.YthafnphpcdbnlaaGreat Go.Proofs.YthafnphpcdbnlaaGreat.S11 Go.Proofs.YthafnphpcdbnlaaGreat.S12 Go.Proofs.YthafnphpcdbnlaaGreat.S13
open Go.RowKit

section
variable {w0 w w' : World} {base WB : Nat} {M : Sd} {r : List Part} {j B : Nat} {K : Fr} {X : Wm}
set_option maxRecDepth 100000 in
set_option maxHeartbeats 8000000 in
theorem beh4 (h : Wf w0 w base WB M r j B K X) (ok : FrOk M K) (hl : K.ln = 4) : Calls Tryz.prog 46 #[Pw B, Pw WB] w (Behind w0 base WB M r j B K) := by
  have hj := h.hj
  have c0 := h.b0
  rw [hl] at c0
  have c2 := h.b2; have c3 := h.b3; have c4 := h.b4
  have hA := h.pushB (.cells #[.bool K.l, .bool K.q, .int .i64 K.h] 81)
  obtain ⟨Q, hQ⟩ : ∃ Q, Q = w.heap.size := ⟨_, rfl⟩
  rw [← hQ] at hA
  have HA := Lib.hid hA; have HJ := Lib.hid hj; have HQ := Lib.hid hQ; have HOK := Lib.hid ok; have HL := Lib.hid hl
  clear h hj hA hQ ok hl
  go_enter Tryz.func46, Tryz.ntmps46
  go_wp2_with fail
  refine wp_scope_two rfl rfl ?_
  go_upto_region 3 with (fail)
  rw [← HQ.out]
  generalize w.alloc (.cells #[.bool K.l, .bool K.q, .int .i64 K.h] 81) = w1 at *
  clear c0 c2 c3 c4
  have c0 := HA.out.b0
  rw [HL.out] at c0
  obtain ⟨kl, kq, kh, kn⟩ := HOK.out.con (by rw [HL.out]; omega) (by rw [HL.out]; omega)
  have hput : S1.putU K.l K.q K.h = K.w := by rw [kl, kq, kh]; exact (word_put kn).1
  have hish : S1.isHead K.h := by rw [kh]; exact S1.head_is _
  have hl1 := HA.out.last HJ.out
  have g0 := cell_row hl1 0; have g1 := cell_row hl1 1; have g2 := cell_row hl1 2; have fz1 := froz_row hl1 1
  simp only [List.getElem?_toArray, List.getElem?_cons_zero, List.getElem?_cons_succ] at g0 g1 g2
  have h2 := HA.out.turnLast HJ.out (.cells #[.bool K.l, .bool false, .int .i64 K.h] 81) (set_blk hl1 1 (.bool false) _ (by simp)) ((Turns.refl (fun k => k = Q) w1).setCell ⟨Q, 1, none⟩ _ rfl)
  have H2 := Lib.hid h2
  clear h2 hl1
  go_upto_region 18 with (fail)
  generalize w1.setCell ⟨Q, 1, none⟩ (.bool false) = w2 at *
  clear g0 g1 g2 fz1 c0
  have hl1 := H2.out.last HJ.out
  have g0 := cell_row hl1 0; have g1 := cell_row hl1 1; have g2 := cell_row hl1 2
  simp only [List.getElem?_toArray, List.getElem?_cons_zero, List.getElem?_cons_succ] at g0 g1 g2
  clear hl1
  obtain ⟨x, hx⟩ : ∃ x, x = S2.look M.L K.a := ⟨_, rfl⟩
  have hsw : Calls Tryz.prog 56 #[Pw B, Pw WB, .agg #[.bool K.l, .bool false, .int .i64 K.h]] w2 fun e w' => e = .returned (.bool (decide (x = K.w))) ∧ ∃ X', Wf w0 w' base WB (M.acc 3 K.a (S2.casV x K.w (wq K.w false))) (r ++ [blockP Q (.cells #[.bool K.l, .bool false, .int .i64 K.h] 81)]) j B (K.cas x K.w K.l false K.h) X' := by
    have hs := swapped_f H2.out HOK.out.a HOK.out.n hish hput (l2 := K.l) (q2 := false) (h2 := K.h) hish
    rw [show S1.putU K.l false K.h = wq K.w false from by rw [kl, kh]; rfl, ← hx] at hs
    exact hs
  obtain ⟨M1, hM1⟩ : ∃ M1, M1 = M.acc 3 K.a (S2.casV x K.w (wq K.w false)) := ⟨_, rfl⟩
  rw [← hM1] at hsw
  have HM1 := Lib.hid hM1; have HX := Lib.hid hx
  have HCON := Lib.hid (And.intro kl (And.intro kq (And.intro kh kn)))
  have hlk : M1.lk = M.lk := by rw [hM1]; rfl
  have HLK := Lib.hid hlk
  clear hM1 hput hish kl kq kh kn hlk
  by_cases e : x = K.w
  · have hsw2 := hsw
    rw [decide_eq_true e, show K.cas x K.w K.l false K.h = { K with l := K.l, q := false, h := K.h } from if_pos e] at hsw2
    have HSW := Lib.hid hsw2; have HE := Lib.hid e
    clear hsw hsw2 hx e
    have hfin : ∀ w' X', Wf w0 w' base WB M1 (r ++ [blockP Q (.cells #[.bool K.l, .bool false, .int .i64 K.h] 81)]) j B { K with l := K.l, q := false, h := K.h } X' → Behind w0 base WB M r j B K (.returned (.int .u8 (0 : Int))) w' := fun w' X' h => by
      unfold Behind
      rw [show fstepM M K = _ from by simp only [fstepM, HL.out]; rfl, show fstepK M K = _ from by simp only [fstepK, HL.out]; rfl, ← HX.out, if_pos HE.out, if_pos HE.out, ← HM1.out]
      exact ⟨rfl, X', h.dropB HJ.out⟩
    have HF := Lib.hid hfin
    clear hfin
    go_wp2_with (go_at_call 56; refine HSW.out.mono ?_; rintro e w5 ⟨rfl, X5, h5⟩; have H5 := Lib.hid h5; clear h5)
    (try simp only [to2])
    go_ret
    exact HF.out _ _ H5.out
  · have hsw2 := hsw
    rw [decide_eq_false e, show K.cas x K.w K.l false K.h = { K with l := S1.bitB x 0, q := S1.bitB x 1, h := S1.headN x } from if_neg e] at hsw2
    have HSW := Lib.hid hsw2; have HE := Lib.hid e
    clear hsw hsw2 hx e
    have HU := Lib.hid (show (K.says x).l = S1.bitB x 0 ∧ (K.says x).h = S1.headN x from ⟨rfl, rfl⟩)
    have hsb : ∀ e w', SeekF w0 base WB M1 (r ++ [blockP Q (.cells #[.bool K.l, .bool false, .int .i64 K.h] 81)]) j B (K.says x) x e w' → Behind w0 base WB M r j B K e w' := fun e w' h => by
      obtain ⟨rfl, X', h⟩ := h
      unfold Behind
      rw [show fstepM M K = _ from by simp only [fstepM, HL.out]; rfl, show fstepK M K = _ from by simp only [fstepK, HL.out]; rfl, ← HX.out, if_neg HE.out, if_neg HE.out, ← HM1.out]
      rw [HLK.out] at h ⊢
      exact ⟨rfl, X', h.dropB HJ.out⟩
    have HSB := Lib.hid hsb
    clear hsb
    go_wp2_with (go_at_call 56; refine HSW.out.mono ?_; rintro e w5 ⟨rfl, X5, h5⟩; have H5 := Lib.hid h5; clear h5)
    have H6' := Lib.hid (H5.out.recast (K.says x) rfl)
    clear H5
    go_step3
    refine Or.inr ⟨rfl, ?_⟩
    show Code.wp _ _ _ _ _
    obtain ⟨lv, hlv⟩ : ∃ b, b = S1.bitB x 0 := ⟨_, rfl⟩
    obtain ⟨hv, hhv⟩ : ∃ b, b = S1.headN x := ⟨_, rfl⟩
    obtain ⟨n2, hn2⟩ : ∃ n, n = (S5.seekO (M1).lk (hdO x)).2 := ⟨_, rfl⟩
    obtain ⟨S2, hS2⟩ : ∃ S, S = (S5.seekO (M1).lk (hdO x)).1 := ⟨_, rfl⟩
    have hle := seekO_le (S := (M1).lk) (fun i => pg_le H6'.out.pg i) x
    rw [← hn2, ← hS2] at hle
    have hsk : Calls Tryz.prog 61 #[Pw X5.lB, .int .i64 hv] w5.drew fun e w' => e = .returned (.int .i64 ((n2 : Int) - 1)) ∧ ∃ X', Pg w0 w' base WB ((M1).link S2) ((r ++ [blockP Q (.cells #[.bool K.l, .bool false, .int .i64 K.h] 81)]).set j (freeP B (K.says x))) X' ∧ X'.lB = X5.lB := by
      rw [hn2, hS2, hhv]
      exact pg_seek (H6'.out.new (Below.refl _ _).drew).pg (num_head x)
    have HSK := Lib.hid hsk
    have HLV := Lib.hid hlv; have HHV := Lib.hid hhv; have HN2 := Lib.hid hn2; have HS2 := Lib.hid hS2; have HLE := Lib.hid hle
    have e2 := H6'.out.b2; have e4 := H6'.out.b4; have e3 := H6'.out.pg.c.2.2.1; have e5 := H6'.out.b5
    rw [HU.out.1, ← hlv] at e2
    rw [HU.out.2, ← hhv] at e4
    clear hlv hhv hn2 hS2 hle hsk
    have HX9 := Lib.hid (And.intro e3 e4)
    go_upto_region 29 with (fail)
    refine wp_region_held_drew (S := fun w' => w'.cell? ⟨WB, 3, none⟩ = some (Pw X5.lB) ∧ w'.cell? ⟨B, 4, none⟩ = some (.int .i64 hv)) (by kernel_rfl) ?_ (fun hHeld => ?_)
    · exact HX9.out
    refine wpAnyH_take (i := 0) (oi := ({ dst := some 96, op := Op.move (Operand.tmp 5), type := 159, pos := "wordfrees.go:106", after := #[], guard := none } : Oper)) (v := ?vsm1) rfl (by kernel_rfl) (by kernel_rfl) (by kernel_rfl) (fun _ _ _ h => h) (Or.inl ⟨by rfl, fun w hSw => ?hysm1⟩) (by assumption) ?rsm1
    case hysm1 => (try dsimp only at hSw); go_simp; (try with_reducible rfl)
    (try simp only [Act.put, List.setIfInBounds_toArray, List.set_cons_zero, List.set_cons_succ])
    refine wpAnyH_take (i := 1) (oi := ({ dst := some 97, op := Op.move (Operand.tmp 1), type := 25, pos := "wordfrees.go:106", after := #[], guard := none } : Oper)) (v := ?vsm2) rfl (by kernel_rfl) (by kernel_rfl) (by kernel_rfl) (fun _ _ _ h => h) (Or.inl ⟨by rfl, fun w hSw => ?hysm2⟩) (by assumption) ?rsm2
    case hysm2 => (try dsimp only at hSw); go_simp; (try with_reducible rfl)
    (try simp only [Act.put, List.setIfInBounds_toArray, List.set_cons_zero, List.set_cons_succ])
    refine wpAnyH_take (i := 2) (oi := ({ dst := some 98, op := Op.nilCheck (Operand.tmp 97), type := 0, pos := "wordfrees.go:106", after := #[{ on := 1, ground := Ground.data }], guard := none } : Oper)) (v := ?vsm3) rfl (by kernel_rfl) (by kernel_rfl) (by kernel_rfl) (fun _ _ _ h => h) (Or.inl ⟨by rfl, fun w hSw => ?hysm3⟩) (by assumption) ?rsm3
    case hysm3 => (try dsimp only at hSw); go_simp; (try with_reducible rfl)
    (try simp only [Act.put, List.setIfInBounds_toArray, List.set_cons_zero, List.set_cons_succ])
    refine wpAnyH_take (i := 3) (oi := ({ dst := some 99, op := Op.fieldAddr 45 (Operand.tmp 98) 3, type := 0, pos := "wordfrees.go:106", after := #[{ on := 2, ground := Ground.data }], guard := none } : Oper)) (v := ?vsm4) rfl (by kernel_rfl) (by kernel_rfl) (by kernel_rfl) (fun _ _ _ h => h) (Or.inl ⟨by rfl, fun w hSw => ?hysm4⟩) (by assumption) ?rsm4
    case hysm4 => (try dsimp only at hSw); go_simp; (try with_reducible rfl)
    (try simp only [Act.put, List.setIfInBounds_toArray, List.set_cons_zero, List.set_cons_succ])
    refine wpAnyH_take (i := 4) (oi := ({ dst := some 100, op := Op.load 40 (Operand.tmp 99), type := 40, pos := "wordfrees.go:106", after := #[{ on := 3, ground := Ground.data }], guard := none } : Oper)) (v := ?vsm5) rfl (by kernel_rfl) (by kernel_rfl) (by kernel_rfl) (fun _ _ _ h => h) (Or.inl ⟨by rfl, fun w hSw => ?hysm5⟩) (by assumption) ?rsm5
    case hysm5 => (try dsimp only at hSw); go_simp; (try with_reducible rfl)
    (try simp only [Act.put, List.setIfInBounds_toArray, List.set_cons_zero, List.set_cons_succ])
    refine wpAnyH_take (i := 5) (oi := ({ dst := some 101, op := Op.move (Operand.tmp 5), type := 159, pos := "wordfrees.go:106", after := #[], guard := none } : Oper)) (v := ?vsm6) rfl (by kernel_rfl) (by kernel_rfl) (by kernel_rfl) (fun _ _ _ h => h) (Or.inl ⟨by rfl, fun w hSw => ?hysm6⟩) (by assumption) ?rsm6
    case hysm6 => (try dsimp only at hSw); go_simp; (try with_reducible rfl)
    (try simp only [Act.put, List.setIfInBounds_toArray, List.set_cons_zero, List.set_cons_succ])
    refine wpAnyH_take (i := 6) (oi := ({ dst := some 102, op := Op.nilCheck (Operand.tmp 101), type := 0, pos := "wordfrees.go:106", after := #[{ on := 5, ground := Ground.data }], guard := none } : Oper)) (v := ?vsm7) rfl (by kernel_rfl) (by kernel_rfl) (by kernel_rfl) (fun _ _ _ h => h) (Or.inl ⟨by rfl, fun w hSw => ?hysm7⟩) (by assumption) ?rsm7
    case hysm7 => (try dsimp only at hSw); go_simp; (try with_reducible rfl)
    (try simp only [Act.put, List.setIfInBounds_toArray, List.set_cons_zero, List.set_cons_succ])
    refine wpAnyH_take (i := 7) (oi := ({ dst := some 103, op := Op.fieldAddr 83 (Operand.tmp 102) 0, type := 0, pos := "wordfrees.go:106", after := #[{ on := 6, ground := Ground.data }], guard := none } : Oper)) (v := ?vsm8) rfl (by kernel_rfl) (by kernel_rfl) (by kernel_rfl) (fun _ _ _ h => h) (Or.inl ⟨by rfl, fun w hSw => ?hysm8⟩) (by assumption) ?rsm8
    case hysm8 => (try dsimp only at hSw); go_simp; (try with_reducible rfl)
    (try simp only [Act.put, List.setIfInBounds_toArray, List.set_cons_zero, List.set_cons_succ])
    refine wpAnyH_take (i := 8) (oi := ({ dst := some 104, op := Op.fieldAddr 81 (Operand.tmp 103) 2, type := 0, pos := "wordfrees.go:106", after := #[{ on := 7, ground := Ground.data }], guard := none } : Oper)) (v := ?vsm9) rfl (by kernel_rfl) (by kernel_rfl) (by kernel_rfl) (fun _ _ _ h => h) (Or.inl ⟨by rfl, fun w hSw => ?hysm9⟩) (by assumption) ?rsm9
    case hysm9 => (try dsimp only at hSw); go_simp; (try with_reducible rfl)
    (try simp only [Act.put, List.setIfInBounds_toArray, List.set_cons_zero, List.set_cons_succ])
    refine wpAnyH_take (i := 9) (oi := ({ dst := some 105, op := Op.load 3 (Operand.tmp 104), type := 3, pos := "wordfrees.go:106", after := #[{ on := 8, ground := Ground.data }], guard := none } : Oper)) (v := ?vsm10) rfl (by kernel_rfl) (by kernel_rfl) (by kernel_rfl) (fun _ _ _ h => h) (Or.inl ⟨by rfl, fun w hSw => ?hysm10⟩) (by assumption) ?rsm10
    case hysm10 => (try dsimp only at hSw); go_simp; (try with_reducible rfl)
    (try simp only [Act.put, List.setIfInBounds_toArray, List.set_cons_zero, List.set_cons_succ])
    refine wpAnyH_ready (rs := [10]) (by kernel_rfl) (by simp) ?_
    refine AllReadyH.cons (o := ({ dst := some 106, op := Op.call { callee := Callee.value (Operand.func 61), args := #[Operand.tmp 100, Operand.tmp 105], argTypes := #[40, 3] }, type := 3, pos := "wordfrees.go:106", after := #[{ on := 4, ground := Ground.data }, { on := 9, ground := Ground.data }], guard := none } : Oper)) rfl (fun Kq hKq => ?_) AllReadyH.nil
    go_simp
    (refine HSK.out.mono ?_; rintro e w6 ⟨rfl, X6, h6g, hlb6⟩; have H6 := Lib.hid (show Wf w0 w6 base WB ((M1).link S2) (r ++ [blockP Q (.cells #[.bool K.l, .bool false, .int .i64 K.h] 81)]) j B (K.says x) X6 from ⟨h6g, H6'.out.hj⟩); have HLB := Lib.hid hlb6; clear h6g hlb6)
    refine hKq.out _ _ ?_ (fun hHeld => ?_)
    · (have q3 := H6.out.pg.c.2.2.1; have q4 := H6.out.b4; rw [HLB.out] at q3; refine ⟨q3, ?_⟩; rw [HHV.out, ← HU.out.2]; exact q4)
    clear hKq Kq
    (try simp only [Act.put, List.setIfInBounds_toArray, List.set_cons_zero, List.set_cons_succ])
    refine wpAnyH_take (i := 11) (oi := ({ dst := some 107, op := Op.nilCheck (Operand.tmp 96), type := 0, pos := "wordfrees.go:106", after := #[{ on := 0, ground := Ground.data }, { on := 0, ground := Ground.phase }, { on := 1, ground := Ground.phase }, { on := 2, ground := Ground.phase }, { on := 3, ground := Ground.phase }, { on := 4, ground := Ground.phase }, { on := 5, ground := Ground.phase }, { on := 6, ground := Ground.phase }, { on := 7, ground := Ground.phase }, { on := 8, ground := Ground.phase }, { on := 9, ground := Ground.phase }, { on := 10, ground := Ground.phase }], guard := none } : Oper)) (v := ?vsm11) rfl (by kernel_rfl) (by kernel_rfl) (by kernel_rfl) (fun _ _ _ h => h) (Or.inl ⟨by rfl, fun w hSw => ?hysm11⟩) (by assumption) ?rsm11
    case hysm11 => (try dsimp only at hSw); go_simp; (try with_reducible rfl)
    (try simp only [Act.put, List.setIfInBounds_toArray, List.set_cons_zero, List.set_cons_succ])
    refine wpAnyH_take (i := 12) (oi := ({ dst := some 108, op := Op.fieldAddr 83 (Operand.tmp 107) 1, type := 0, pos := "wordfrees.go:106", after := #[{ on := 11, ground := Ground.data }, { on := 0, ground := Ground.phase }, { on := 1, ground := Ground.phase }, { on := 2, ground := Ground.phase }, { on := 3, ground := Ground.phase }, { on := 4, ground := Ground.phase }, { on := 5, ground := Ground.phase }, { on := 6, ground := Ground.phase }, { on := 7, ground := Ground.phase }, { on := 8, ground := Ground.phase }, { on := 9, ground := Ground.phase }, { on := 10, ground := Ground.phase }], guard := none } : Oper)) (v := ?vsm12) rfl (by kernel_rfl) (by kernel_rfl) (by kernel_rfl) (fun _ _ _ h => h) (Or.inl ⟨by rfl, fun w hSw => ?hysm12⟩) (by assumption) ?rsm12
    case hysm12 => (try dsimp only at hSw); go_simp; (try with_reducible rfl)
    (try simp only [Act.put, List.setIfInBounds_toArray, List.set_cons_zero, List.set_cons_succ])
    refine wpAnyH_ready (rs := [13]) (by kernel_rfl) (by simp) ?_
    refine AllReadyH.cons (o := ({ dst := none, op := Op.store 3 (Operand.tmp 108) (Operand.tmp 106), type := 0, pos := "wordfrees.go:106", after := #[{ on := 12, ground := Ground.data }, { on := 10, ground := Ground.data }, { on := 10, ground := Ground.chain }, { on := 0, ground := Ground.phase }, { on := 1, ground := Ground.phase }, { on := 2, ground := Ground.phase }, { on := 3, ground := Ground.phase }, { on := 4, ground := Ground.phase }, { on := 5, ground := Ground.phase }, { on := 6, ground := Ground.phase }, { on := 7, ground := Ground.phase }, { on := 8, ground := Ground.phase }, { on := 9, ground := Ground.phase }, { on := 10, ground := Ground.phase }], guard := none } : Oper)) rfl (fun Kq hKq => ?_) AllReadyH.nil
    (have y5 := H6.out.b5; have f5 := H6.out.fz 5; go_simp; have h7 := H6.out.tail ((n2 : Int) - 1); have H7 := Lib.hid h7; clear y5 f5 h7; generalize w6.setCell ⟨B, 5, none⟩ (.int .i64 ((n2 : Int) - 1)) = w7 at *)
    refine hKq.out _ _ ?_ (fun hHeld => ?_)
    · (have q3 := H7.out.pg.c.2.2.1; have q4 := H7.out.b4; rw [HLB.out] at q3; refine ⟨q3, ?_⟩; rw [HHV.out, ← HU.out.2]; exact q4)
    clear hKq Kq
    (try simp only [Act.put, List.setIfInBounds_toArray, List.set_cons_zero, List.set_cons_succ])
    refine wpAnyH_done (by kernel_rfl) ?_ _
    clear hHeld e2 e3 e4 e5 HSK
    have e5 := H7.out.b5; have e2 := H7.out.b2; have e4 := H7.out.b4; have e3 := H7.out.pg.c.2.2.1
    replace e2 : w7.cell? ⟨B, 2, none⟩ = some (.bool lv) := by rw [HLV.out, ← HU.out.1]; exact e2
    replace e4 : w7.cell? ⟨B, 4, none⟩ = some (.int .i64 hv) := by rw [HHV.out, ← HU.out.2]; exact e4
    have hleaf : ∀ (W : World) (S : S5.Lk) (t : Int) (n : Nat), (S, t, n) = seekL (M1).lk x → (∃ X', Wf w0 W base WB ((M1).link S) (r ++ [blockP Q (.cells #[.bool K.l, .bool false, .int .i64 K.h] 81)]) j B { (K.says x : Fr) with t := t } X') → Behind w0 base WB M r j B K (.returned (.int .u8 (n : Int))) W := fun W S t n hs ⟨X', hx⟩ => by
      refine HSB.out _ _ ⟨?_, X', ?_⟩
      · rw [← hs]
      · rw [← hs]; exact hx
    have HLF := Lib.hid hleaf
    clear hleaf
    cases n2 with
    | zero =>
      have e6 : w7.cell? ⟨B, 5, none⟩ = some (.int .i64 (-1)) := e5
      have hq : (S2, (-1 : Int), 0) = seekL (M1).lk x := by unfold seekL; rw [if_pos HN2.out.symm, ← HS2.out]
      have HFIN := Lib.hid (HLF.out w7 _ _ _ hq ⟨X6, H7.out⟩)
      clear e5 hq HLF
      go_wp2_with fail
      (try simp only [Exit.noGoto])
      go_ret
      exact HFIN.out
    | succ m =>
      have em : ((m + 1 : Nat) : Int) - 1 = (m : Int) := by omega
      have hm := HLE.out.1
      rw [em] at e5
      have hne : ((m : Int) == -1) = false := by rw [beq_eq_false_iff_ne]; omega
      have hn0 : ¬ (S5.seekO (M1).lk (hdO x)).2 = 0 := by rw [← HN2.out]; omega
      have htl : (((S5.seekO (M1).lk (hdO x)).2 : Int) - 1) = (m : Int) := by rw [← HN2.out]; omega
      have hpr : (S5.seekO (M1).lk (hdO x)).2 - 1 = m := by rw [← HN2.out]; omega
      have h8 := H7.out
      rw [em] at h8
      have H8 := Lib.hid h8; have HM := Lib.hid (show m < 64 by omega); have HEQ := Lib.hid (And.intro hn0 (And.intro htl hpr))
      clear em hm hn0 htl hpr h8 H7
      cases lv with
      | true =>
        have hq : (S2, (m : Int), 4) = seekL (M1).lk x := by unfold seekL; rw [if_neg HEQ.out.1, if_pos HLV.out.symm, HEQ.out.2.1, ← HS2.out]
        have HFIN := Lib.hid (HLF.out w7 _ _ _ hq ⟨X6, H8.out⟩)
        clear hq HLF
        go_wp2_with fail
        (try simp only [Exit.noGoto])
        go_ret
        exact HFIN.out
      | false =>
        obtain ⟨y0, y1, y2, hat0⟩ : ∃ y0 y1 y2 : Int, (Calls Tryz.prog 62 #[Pw X6.lB, .int .i64 (m : Int)] w7.drew fun e w' => e = .returned (.agg #[.int .i64 y0, .int .i64 y1, .int .i64 y2]) ∧ Below w7.drew.heap.size w7.drew w') ∧ y1 = (S2 (m * 3 + 1) : Int) - 1 := ⟨_, _, _, pg_at (H8.out.new (Below.refl _ _).drew).pg HM.out, rfl⟩
        have HAT := Lib.hid hat0.1; have HY1 := Lib.hid hat0.2
        have hfd : ∀ w : World, (Instr.field 165 (.agg #[.int .i64 y0, .int .i64 y1, .int .i64 y2]) 1).run Tryz.prog w = .ok (.int .i64 y1) w := fun w => field_prev _ _ _ w
        clear hat0
        by_cases hp : S2 (m * 3 + 1) = 0
        · have hy : y1 = -1 := by rw [HY1.out, hp]; rfl
          subst hy
          have hq : (S2, (m : Int), 5) = seekL (M1).lk x := by unfold seekL; rw [if_neg HEQ.out.1, if_neg (by rw [← HLV.out]; decide), HEQ.out.2.2, HEQ.out.2.1, ← HS2.out, if_pos hp]
          have HFIN := Lib.hid (fun W (b : Below w7.heap.size w7 W) => HLF.out W _ _ _ hq ⟨X6, H8.out.new b⟩)
          clear hq HLF hp
          go_upto_region 34 with (fail)
          go_still_tail 8, (by kernel_rfl)
          change wpList _ _ _ _ _ w7.drew
          go_wp2_with (go_at_call 62; refine HAT.out.mono ?_; rintro e w8 ⟨rfl, hb8⟩; have HB8 := Lib.hid hb8; clear hb8)
          (try simp only [Exit.noGoto])
          go_ret
          exact HFIN.out _ (Below.trans (Below.refl _ _).drew HB8.out)
        · have hy : (y1 == -1) = false := by rw [HY1.out, beq_eq_false_iff_ne]; omega
          have hq : ((S5.cutO S2 (hdO x) (some m)).1, (m : Int), 6) = seekL (M1).lk x := by unfold seekL; rw [if_neg HEQ.out.1, if_neg (by rw [← HLV.out]; decide), HEQ.out.2.2, HEQ.out.2.1, ← HS2.out, if_neg hp]
          have HFIN := Lib.hid (fun W => HLF.out W _ _ _ hq)
          clear hq HLF hp
          go_upto_region 34 with (fail)
          go_still_tail 8, (by kernel_rfl)
          change wpList _ _ _ _ _ w7.drew
          go_upto_region 36 with (go_at_call 62; refine HAT.out.mono ?_; rintro e w8 ⟨rfl, hb8⟩; have H9 := Lib.hid (H8.out.new ((Below.refl _ _).drew.trans hb8)); clear hb8)
          clear e2 e3 e4 e5
          have e5 := H9.out.b5; have e4 := H9.out.b4; have e3 := H9.out.pg.c.2.2.1
          replace e4 : w8.cell? ⟨B, 4, none⟩ = some (.int .i64 hv) := by rw [HHV.out, ← HU.out.2]; exact e4
          have hct : Calls Tryz.prog 63 #[Pw X6.lB, .int .i64 hv, .int .i64 (m : Int)] w8.drew fun e w' => (∃ v, e = .returned (.int .i64 v)) ∧ ∃ X', Pg w0 w' base WB (((M1).link S2).link (S5.cutO S2 (hdO x) (some m)).1) ((r ++ [blockP Q (.cells #[.bool K.l, .bool false, .int .i64 K.h] 81)]).set j (freeP B { (K.says x : Fr) with t := (m : Int) })) X' ∧ X'.lB = X6.lB := by
            rw [HHV.out]
            exact (pg_cut (H9.out.new (Below.refl _ _).drew).pg (num_head x) (show S5.Num (m : Int) (some m) from ⟨rfl, HM.out⟩)).mono (fun e w' h => ⟨⟨_, h.1⟩, h.2⟩)
          have HCT := Lib.hid hct
          clear hct
          go_still_tail 13, (by kernel_rfl)
          change wpList _ _ _ _ _ w8.drew
          go_wp2_with (go_at_call 63; refine HCT.out.mono ?_; rintro e w9 ⟨⟨cv, rfl⟩, X9, h9, hlb9⟩; have H10 := Lib.hid h9; clear h9 hlb9)
          (try simp only [Exit.noGoto])
          go_ret
          exact HFIN.out _ ⟨X9, H10.out, H9.out.hj⟩
end
end Go.Proofs.YthafnphpcdbnlaaGreat.S14
