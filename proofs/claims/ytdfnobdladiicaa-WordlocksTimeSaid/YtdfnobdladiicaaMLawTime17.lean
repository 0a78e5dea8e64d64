/- Texts of this seat, one behind the other. -/
import Derived.Test.YtdfnobdladiicaaMLawTime16
import Derived.Deep.CutBlock
import Derived.Laws.EntriesVeiled
namespace Go.Proofs.Ytdfnobdladiicaa.S13
open Go.Proofs.Ytdfnobdladiicaa Go.Proofs.Ytdfnobdladiicaa.S11 Go.Proofs.Ytdfnobdladiicaa.S12
open Go.RowKit

section
variable {w0 w w' : World} {base WB : Nat} {M : Sd} {r : List Part} {j B : Nat} {K : Lk} {X : Wm}
/-- A block more beside them, a block less. -/
theorem Wl.pushB (h : Wl w0 w base WB M r j B K X) (ob : Obj) : Wl w0 (w.alloc ob) base WB M (r ++ [blockP w.heap.size ob]) j B K X := by
  have hp := h.pg.ps.push (blockP w.heap.size ob) (below1 w ob) (heap_alloc_new w ob) (fun k e => Nat.le_of_eq (show k = w.heap.size from e).symm)
  rw [List.append_assoc] at hp
  refine ⟨⟨?_, h.pg.wB, h.pg.xm, h.pg.bl.alloc h.pg.size _⟩, by rw [List.length_append]; have := h.hj; simp; omega⟩
  rw [List.set_append_left _ _ h.hj]
  exact hp
theorem Wl.dropB {q : Part} (h : Wl w0 w base WB M (r ++ [q]) j B K X) (hj : j < r.length) : Wl w0 w base WB M r j B K X := by
  have hp := h.pg.ps
  rw [List.set_append_left _ _ hj, ← List.append_assoc] at hp
  exact ⟨⟨Parts.left hp, h.pg.wB, h.pg.xm, h.pg.bl⟩, hj⟩
theorem Wl.last {Q : Nat} {ob : Obj} (h : Wl w0 w base WB M (r ++ [blockP Q ob]) j B K X) (hj : j < r.length) : w.heap[Q]? = some ob := by
  have hp := h.pg.ps
  rw [List.set_append_left _ _ hj, ← List.append_assoc] at hp
  refine hp.ok (X.parts ++ r.set j (lockP B K)).length (blockP Q ob) ?_
  rw [List.getElem?_append_right (Nat.le_refl _), Nat.sub_self]; rfl
theorem begin_l (h : Wl w0 w base WB M r j B K X) : Calls Try.prog 33 #[.pointer (some ⟨B, 2, none⟩), Pw WB] w fun e w' => e = .returned (.tuple #[]) ∧ Wl w0 w' base WB M r j B { K with sp := M.sp } X := by
  have h1 := h.put { K with sp := 0 } (set_blk h.blk 2 (.int .i64 0) _ (by simp [Lk.cs])) ((Turns.refl (fun k => k = B) w).setCell ⟨B, 2, none⟩ _ rfl)
  have h2 := h1.put { K with sp := M.sp } (set_blk h1.blk 2 (.int .i64 M.sp) _ (by simp [Lk.cs])) ((Turns.refl (fun k => k = B) _).setCell ⟨B, 2, none⟩ _ rfl)
  have c2 := h.b2; have z2 := h.fz 2; have d2 := h1.b2; have y2 := h1.fz 2
  have d6 := h1.pg.c.2.2.2
  have H2 := Lib.hid h2
  clear h h1 h2
  go_enter Try.func33, Try.ntmps33
  go_wp2_with fail
  go_end0
  exact ⟨rfl, H2.out⟩
theorem spin_l (h : Wl w0 w base WB M r j B K X) (hs : K.sp ≤ 9223372036854775807) : Calls Try.prog 49 #[.pointer (some ⟨B, 2, none⟩)] w fun e w' => e = .returned (.bool (decide (0 < K.sp))) ∧ Wl w0 w' base WB M r j B { K with sp := if 0 < K.sp then K.sp - 1 else K.sp } X := by
  have c2 := h.b2; have z2 := h.fz 2
  by_cases h0 : 0 < K.sp
  · rw [decide_eq_true h0, if_pos h0]
    have h1 := h.put { K with sp := K.sp - 1 } (set_blk h.blk 2 (.int .i64 (K.sp - 1)) _ (by simp [Lk.cs])) ((Turns.refl (fun k => k = B) w).setCell ⟨B, 2, none⟩ _ rfl)
    have hd : decide (K.sp ≤ 0) = false := by rw [decide_eq_false_iff_not]; omega
    have hw : wrap64 (K.sp - 1) = K.sp - 1 := by unfold wrap64; omega
    have H1 := Lib.hid h1
    clear h h0 hs h1
    generalize K.sp = v at *
    go_enter Try.func49, Try.ntmps49
    go_wp2_with fail
    go_ret
    exact ⟨rfl, H1.out⟩
  · rw [decide_eq_false h0, if_neg h0]
    have hd : decide (K.sp ≤ 0) = true := by rw [decide_eq_true_iff]; omega
    have H1 := Lib.hid h
    clear h h0 hs
    go_enter Try.func49, Try.ntmps49
    go_wp2_with fail
    go_ret
    exact ⟨rfl, H1.out⟩
set_option maxRecDepth 100000 in
set_option maxHeartbeats 4000000 in
theorem turn_l (h : Wl w0 w base WB M r j B K X) (h6 : K.ln ≠ 6) (hs : K.sp ≤ 9223372036854775807) {u : Nat} (hu : u < 18446744073709551616) :
    Calls Try.prog 42 #[askV K.t K.a, Pw B, .int .u64 (u : Int)] w fun e w' => e = .returned (.tuple #[]) ∧ Wl w0 w' base WB M r j B (K.turn u) X := by
  have hj := h.hj
  have hA := h.pushB (.cells #[.int .i64 (K.t : Int), .int .u32 (K.a : Int)] 67)
  obtain ⟨Q, hQ⟩ : ∃ Q, Q = w.heap.size := ⟨_, rfl⟩
  rw [← hQ] at hA
  have h1 := hA.put { K with st := u } (set_blk hA.blk 1 (.int .u64 (u : Int)) _ (by simp [Lk.cs])) ((Turns.refl (fun k => k = B) _).setCell ⟨B, 1, none⟩ _ rfl)
  have d1 := hA.b1; have y1 := hA.fz 1
  have HAS := Lib.hid (fun W => S1.as_any u hu W)
  have H1 := Lib.hid h1; have HJ := Lib.hid hj; have HQ := Lib.hid hQ
  clear h hA h1 hQ hj
  go_enter Try.func42, Try.ntmps42
  go_upto_region 1 with (fail)
  rw [← HQ.out]
  go_upto_region 2 with (fail)
  generalize (w.alloc (.cells #[.int .i64 (K.t : Int), .int .u32 (K.a : Int)] 67)).setCell ⟨B, 1, none⟩ (.int .u64 (u : Int)) = w1 at *
  clear d1 y1
  unfold S1.asV at HAS
  have HB := Lib.hid (show S1.bitB u 0 = S1.bitB u 0 from rfl)
  obtain ⟨b0, hb0⟩ : ∃ x, x = S1.bitB u 0 := ⟨_, rfl⟩
  obtain ⟨hd, hhd⟩ : ∃ x, x = S1.headN u := ⟨_, rfl⟩
  rw [← hb0, ← hhd] at HAS
  have HT := Lib.hid (And.intro hb0 hhd)
  clear HB hb0 hhd
  go_upto_block 0 with (go_at_call 47; refine (HAS.out _).mono ?_; rintro e w2 ⟨rfl, hb2⟩)
  have hw3 := heap_alloc_new w2 (.cells #[.bool b0, .bool (S1.bitB u 1), .int .i64 hd] 27)
  have h3 := H1.out.new (hb2.trans ((below1 w2 (.cells #[.bool b0, .bool (S1.bitB u 1), .int .i64 hd] 27)).mono hb2.size))
  generalize w2.alloc (.cells #[.bool b0, .bool (S1.bitB u 1), .int .i64 hd] 27) = w3 at *
  generalize w2.heap.size = Qs at *
  have x0 := cell_row hw3 0; have x2 := cell_row hw3 2
  have hl := h3.last HJ.out
  have k0 := cell_row hl 0; have k1 := cell_row hl 1
  simp only [List.getElem?_toArray, List.getElem?_cons_zero, List.getElem?_cons_succ] at x0 x2 k0 k1
  have c0 := h3.b0; have z0 := h3.fz 0
  have HSP := Lib.hid (spin_l h3 hs)
  have fin : ∀ (W : World) (ln : Nat) (sp : Int) (V : Value), Wl w0 W base WB M (r ++ [blockP Q (.cells #[.int .i64 (K.t : Int), .int .u32 (K.a : Int)] 67)]) j B { K with st := u, sp := sp } X → ln ≠ 6 → nxV K.t K.a ln = V → Wl w0 (W.setCell ⟨B, 0, none⟩ V) base WB M r j B { K with st := u, sp := sp, ln := ln } X := fun W ln sp V hW hl hV =>
    (hW.put { K with st := u, sp := sp, ln := ln } (set_blk hW.blk 0 V _ (by simp [Lk.cs, hV, hl, h6])) ((Turns.refl (fun k => k = B) _).setCell ⟨B, 0, none⟩ _ rfl)).dropB HJ.out
  have HFIN := Lib.hid fin; have H3 := Lib.hid h3
  clear fin h3 hl hw3 hb2 HAS H1
  cases b0 with
  | false =>
    have ht : K.turn u = { K with st := u, ln := 2 } := by unfold Lk.turn; rw [← HT.out.1, if_pos rfl]
    have HTN := Lib.hid ht
    clear ht HT HSP
    go_wp2_with fail
    go_end0
    exact ⟨rfl, by rw [HTN.out]; exact HFIN.out _ 2 K.sp _ H3.out (by decide) rfl⟩
  | true =>
    by_cases hh : hd = -1
    · subst hh
      by_cases hsp : 0 < K.sp
      · have ht : K.turn u = { K with st := u, ln := 3, sp := K.sp - 1 } := by unfold Lk.turn; rw [← HT.out.1, if_neg (by decide), if_pos HT.out.2.symm, if_pos hsp]
        have HTN := Lib.hid ht
        rw [decide_eq_true hsp, if_pos hsp] at HSP
        clear ht HT hsp hs
        go_wp2_with (go_at_call 49; refine HSP.out.mono ?_; rintro e w4 ⟨rfl, h4⟩; (have c0 := h4.b0; have z0 := h4.fz 0; have hl := h4.last HJ.out; have k0 := cell_row hl 0; have k1 := cell_row hl 1; simp only [List.getElem?_toArray, List.getElem?_cons_zero, List.getElem?_cons_succ] at k0 k1; have H4 := Lib.hid h4; clear hl h4))
        go_end0
        exact ⟨rfl, by rw [HTN.out]; exact HFIN.out _ 3 (K.sp - 1) _ H4.out (by decide) rfl⟩
      · have ht : K.turn u = { K with st := u, ln := 4 } := by unfold Lk.turn; rw [← HT.out.1, if_neg (by decide), if_pos HT.out.2.symm, if_neg hsp]
        have HTN := Lib.hid ht
        rw [decide_eq_false hsp, if_neg hsp] at HSP
        clear ht HT hsp hs
        go_wp2_with (go_at_call 49; refine HSP.out.mono ?_; rintro e w4 ⟨rfl, h4⟩; (have c0 := h4.b0; have z0 := h4.fz 0; have hl := h4.last HJ.out; have k0 := cell_row hl 0; have k1 := cell_row hl 1; simp only [List.getElem?_toArray, List.getElem?_cons_zero, List.getElem?_cons_succ] at k0 k1; have H4 := Lib.hid h4; clear hl h4))
        go_end0
        exact ⟨rfl, by rw [HTN.out]; exact HFIN.out _ 4 K.sp _ H4.out (by decide) rfl⟩
    · have ht : K.turn u = { K with st := u, ln := 4 } := by unfold Lk.turn; rw [← HT.out.1, if_neg (by decide), if_neg (fun e => hh (HT.out.2.trans e))]
      have HTN := Lib.hid ht
      have hne : (hd == -1) = false := by rw [beq_eq_false_iff_ne]; exact hh
      clear ht HT hh HSP
      go_wp2_with fail
      go_end0
      exact ⟨rfl, by rw [HTN.out]; exact HFIN.out _ 4 K.sp _ H3.out (by decide) rfl⟩
end
end Go.Proofs.Ytdfnobdladiicaa.S13
namespace Go.Proofs.Ytdfnobdladiicaa.S13
open Go.Proofs.Ytdfnobdladiicaa Go.Proofs.Ytdfnobdladiicaa.S11 Go.Proofs.Ytdfnobdladiicaa.S12
open Go.RowKit

/-- A lock, and a world, behind a CAS that wants 'was'. -/
def Lk.cas (K : Lk) (x was : Nat) (K' : Lk) : Lk := if x = was then K' else K.turn x
section
variable {w0 w w' : World} {base WB : Nat} {M : Sd} {r : List Part} {j B : Nat} {K : Lk} {X : Wm}
theorem Wl.look (h : Wl w0 w base WB M r j B K X) (a : Nat) : S2.look M.L a < 18446744073709551616 := by
  have := S2.look_lt h.pg.pw.cells.good a
  rwa [show X.L = M.L from congrArg Sd.L h.pg.xm] at this
set_option maxRecDepth 100000 in
set_option maxHeartbeats 4000000 in
theorem swap_l (h : Wl w0 w base WB M r j B K X) (h6 : K.ln ≠ 6) (hs : K.sp ≤ 9223372036854775807) (ha : K.a < 4294967296) (hn : M.n ≤ 1000000000) {was is : Nat} (his : is < 18446744073709551616) :
    Calls Try.prog 34 #[askV K.t K.a, Pw B, Pw WB, .int .u64 (was : Int), .int .u64 (is : Int)] w fun e w' => e = .returned (.bool (decide (S2.look M.L K.a = was))) ∧ ∃ X', Wl w0 w' base WB (M.acc 3 K.a (S2.casV (S2.look M.L K.a) was is)) r j B (K.cas (S2.look M.L K.a) was K) X' := by
  have hj := h.hj
  have hA := h.pushB (.cells #[.int .i64 (K.t : Int), .int .u32 (K.a : Int)] 67)
  have k0 := cell_row (heap_alloc_new w (.cells #[.int .i64 (K.t : Int), .int .u32 (K.a : Int)] 67)) 0; have k1 := cell_row (heap_alloc_new w (.cells #[.int .i64 (K.t : Int), .int .u32 (K.a : Int)] 67)) 1
  simp only [List.getElem?_toArray, List.getElem?_cons_zero, List.getElem?_cons_succ] at k0 k1
  obtain ⟨Q, hQ⟩ : ∃ Q, Q = w.heap.size := ⟨_, rfl⟩
  rw [← hQ] at hA k0 k1
  have HA := Lib.hid hA; have HJ := Lib.hid hj; have HQ := Lib.hid hQ
  have q0 := HA.out.pg.c.1
  have HC := Lib.hid ((HA.out.new (Below.refl _ _).drew).pg.cas ha his hn (u := was))
  obtain ⟨x, hx⟩ : ∃ x, x = S2.look M.L K.a := ⟨_, rfl⟩
  have hxl : x < 18446744073709551616 := by rw [hx]; exact HA.out.look K.a
  rw [← hx] at HC ⊢
  have HX := Lib.hid hxl
  clear hx hxl his
  clear h hj hQ
  go_enter Try.func34, Try.ntmps34
  go_upto_region 1 with (fail)
  rw [← HQ.out]
  generalize w.alloc (.cells #[.int .i64 (K.t : Int), .int .u32 (K.a : Int)] 67) = w1 at *
  refine wp_region_held_drew (S := fun w' => w'.cell? ⟨WB, 0, none⟩ = some (Pw X.cB) ∧ w'.cell? ⟨Q, 1, none⟩ = some (.int .u32 (K.a : Int))) (by kernel_rfl) ?_ (fun hHeld => ?_)
  · exact ⟨q0, k1⟩
  refine wpAnyH_take (i := 0) (oi := ({ dst := some 14, op := Op.move (Operand.tmp 2), type := 22, pos := "wordlocks.go:108", after := #[], guard := none } : Oper)) (v := ?vsm1) rfl (by kernel_rfl) (by kernel_rfl) (by kernel_rfl) (fun _ _ _ h => h) (Or.inl ⟨by rfl, fun w hSw => ?hysm1⟩) (by assumption) ?rsm1
  case hysm1 => (try dsimp only at hSw); go_simp; (try with_reducible rfl)
  (try simp only [Act.put, List.setIfInBounds_toArray, List.set_cons_zero, List.set_cons_succ])
  refine wpAnyH_take (i := 1) (oi := ({ dst := some 15, op := Op.nilCheck (Operand.tmp 14), type := 0, pos := "wordlocks.go:108", after := #[{ on := 0, ground := Ground.data }], guard := none } : Oper)) (v := ?vsm2) rfl (by kernel_rfl) (by kernel_rfl) (by kernel_rfl) (fun _ _ _ h => h) (Or.inl ⟨by rfl, fun w hSw => ?hysm2⟩) (by assumption) ?rsm2
  case hysm2 => (try dsimp only at hSw); go_simp; (try with_reducible rfl)
  (try simp only [Act.put, List.setIfInBounds_toArray, List.set_cons_zero, List.set_cons_succ])
  refine wpAnyH_take (i := 2) (oi := ({ dst := some 16, op := Op.fieldAddr 36 (Operand.tmp 15) 0, type := 0, pos := "wordlocks.go:108", after := #[{ on := 1, ground := Ground.data }], guard := none } : Oper)) (v := ?vsm3) rfl (by kernel_rfl) (by kernel_rfl) (by kernel_rfl) (fun _ _ _ h => h) (Or.inl ⟨by rfl, fun w hSw => ?hysm3⟩) (by assumption) ?rsm3
  case hysm3 => (try dsimp only at hSw); go_simp; (try with_reducible rfl)
  (try simp only [Act.put, List.setIfInBounds_toArray, List.set_cons_zero, List.set_cons_succ])
  refine wpAnyH_take (i := 3) (oi := ({ dst := some 17, op := Op.load 28 (Operand.tmp 16), type := 28, pos := "wordlocks.go:108", after := #[{ on := 2, ground := Ground.data }], guard := none } : Oper)) (v := ?vsm4) rfl (by kernel_rfl) (by kernel_rfl) (by kernel_rfl) (fun _ _ _ h => h) (Or.inl ⟨by rfl, fun w hSw => ?hysm4⟩) (by assumption) ?rsm4
  case hysm4 => (try dsimp only at hSw); go_simp; (try with_reducible rfl)
  (try simp only [Act.put, List.setIfInBounds_toArray, List.set_cons_zero, List.set_cons_succ])
  refine wpAnyH_take (i := 4) (oi := ({ dst := some 18, op := Op.fieldAddr 67 (Operand.tmp 5) 1, type := 0, pos := "wordlocks.go:108", after := #[], guard := none } : Oper)) (v := ?vsm5) rfl (by kernel_rfl) (by kernel_rfl) (by kernel_rfl) (fun _ _ _ h => h) (Or.inl ⟨by rfl, fun w hSw => ?hysm5⟩) (by assumption) ?rsm5
  case hysm5 => (try dsimp only at hSw); go_simp; (try with_reducible rfl)
  (try simp only [Act.put, List.setIfInBounds_toArray, List.set_cons_zero, List.set_cons_succ])
  refine wpAnyH_take (i := 5) (oi := ({ dst := some 19, op := Op.load 39 (Operand.tmp 18), type := 39, pos := "wordlocks.go:108", after := #[{ on := 4, ground := Ground.data }], guard := none } : Oper)) (v := ?vsm6) rfl (by kernel_rfl) (by kernel_rfl) (by kernel_rfl) (fun _ _ _ h => h) (Or.inl ⟨by rfl, fun w hSw => ?hysm6⟩) (by assumption) ?rsm6
  case hysm6 => (try dsimp only at hSw); go_simp; (try with_reducible rfl)
  (try simp only [Act.put, List.setIfInBounds_toArray, List.set_cons_zero, List.set_cons_succ])
  refine wpAnyH_take (i := 6) (oi := ({ dst := some 20, op := Op.move (Operand.tmp 3), type := 24, pos := "wordlocks.go:108", after := #[], guard := none } : Oper)) (v := ?vsm7) rfl (by kernel_rfl) (by kernel_rfl) (by kernel_rfl) (fun _ _ _ h => h) (Or.inl ⟨by rfl, fun w hSw => ?hysm7⟩) (by assumption) ?rsm7
  case hysm7 => (try dsimp only at hSw); go_simp; (try with_reducible rfl)
  (try simp only [Act.put, List.setIfInBounds_toArray, List.set_cons_zero, List.set_cons_succ])
  refine wpAnyH_take (i := 7) (oi := ({ dst := some 21, op := Op.move (Operand.tmp 4), type := 24, pos := "wordlocks.go:108", after := #[], guard := none } : Oper)) (v := ?vsm8) rfl (by kernel_rfl) (by kernel_rfl) (by kernel_rfl) (fun _ _ _ h => h) (Or.inl ⟨by rfl, fun w hSw => ?hysm8⟩) (by assumption) ?rsm8
  case hysm8 => (try dsimp only at hSw); go_simp; (try with_reducible rfl)
  (try simp only [Act.put, List.setIfInBounds_toArray, List.set_cons_zero, List.set_cons_succ])
  refine wpAnyH_ready (rs := [8]) (by kernel_rfl) (by simp) ?_
  refine AllReadyH.cons (o := ({ dst := some 22, op := Op.call { callee := Callee.value (Operand.func 41), args := #[Operand.tmp 17, Operand.tmp 19, Operand.tmp 20, Operand.tmp 21], argTypes := #[28, 39, 24, 24] }, type := 121, pos := "wordlocks.go:108", after := #[{ on := 3, ground := Ground.data }, { on := 5, ground := Ground.data }, { on := 6, ground := Ground.data }, { on := 7, ground := Ground.data }], guard := none } : Oper)) rfl (fun Kq hKq => ?_) AllReadyH.nil
  go_simp
  (refine HC.out.mono ?_; rintro e w3 ⟨rfl, X3, h3g, hcB⟩; have h3 : Wl w0 w3 base WB (M.acc 3 K.a (S2.casV x was is)) (r ++ [blockP Q (.cells #[.int .i64 (K.t : Int), .int .u32 (K.a : Int)] 67)]) j B K X3 := ⟨h3g, HA.out.hj⟩; have q3 := h3.pg.c.1; rw [hcB] at q3; have hl := h3.last HJ.out; have k1' := cell_row hl 1; simp only [List.getElem?_toArray, List.getElem?_cons_zero, List.getElem?_cons_succ] at k1')
  refine hKq.out _ _ ?_ (fun hHeld => ?_)
  · exact ⟨q3, k1'⟩
  clear hKq Kq
  (try simp only [Act.put, List.setIfInBounds_toArray, List.set_cons_zero, List.set_cons_succ])
  refine wpAnyH_take (i := 9) (oi := ({ dst := some 13, op := Op.move (Operand.tmp 22), type := 121, pos := "wordlocks.go:108", after := #[{ on := 8, ground := Ground.data }], guard := none } : Oper)) (v := ?vsm9) rfl (by kernel_rfl) (by kernel_rfl) (by kernel_rfl) (fun _ _ _ h => h) (Or.inl ⟨by rfl, fun w hSw => ?hysm9⟩) (by assumption) ?rsm9
  case hysm9 => (try dsimp only at hSw); go_simp; (try with_reducible rfl)
  (try simp only [Act.put, List.setIfInBounds_toArray, List.set_cons_zero, List.set_cons_succ])
  refine wpAnyH_take (i := 10) (oi := ({ dst := some 23, op := Op.extract (Operand.tmp 13) 0, type := 24, pos := "wordlocks.go:108", after := #[{ on := 9, ground := Ground.data }], guard := none } : Oper)) (v := ?vsm10) rfl (by kernel_rfl) (by kernel_rfl) (by kernel_rfl) (fun _ _ _ h => h) (Or.inl ⟨by rfl, fun w hSw => ?hysm10⟩) (by assumption) ?rsm10
  case hysm10 => (try dsimp only at hSw); go_simp; (try with_reducible rfl)
  (try simp only [Act.put, List.setIfInBounds_toArray, List.set_cons_zero, List.set_cons_succ])
  refine wpAnyH_take (i := 11) (oi := ({ dst := some 24, op := Op.extract (Operand.tmp 13) 1, type := 4, pos := "wordlocks.go:108", after := #[{ on := 9, ground := Ground.data }, { on := 12, ground := Ground.gcOnly Departure.lateStores }], guard := none } : Oper)) (v := ?vsm11) rfl (by kernel_rfl) (by kernel_rfl) (by kernel_rfl) (fun _ _ _ h => h) (Or.inl ⟨by rfl, fun w hSw => ?hysm11⟩) (by assumption) ?rsm11
  case hysm11 => (try dsimp only at hSw); go_simp; (try with_reducible rfl)
  (try simp only [Act.put, List.setIfInBounds_toArray, List.set_cons_zero, List.set_cons_succ])
  refine wpAnyH_take (i := 12) (oi := ({ dst := some 11, op := Op.assign (Operand.tmp 23), type := 24, pos := "wordlocks.go:108", after := #[{ on := 10, ground := Ground.data }, { on := 8, ground := Ground.chain }, { on := 0, ground := Ground.phase }, { on := 1, ground := Ground.phase }, { on := 2, ground := Ground.phase }, { on := 3, ground := Ground.phase }, { on := 4, ground := Ground.phase }, { on := 5, ground := Ground.phase }, { on := 6, ground := Ground.phase }, { on := 7, ground := Ground.phase }, { on := 8, ground := Ground.phase }, { on := 9, ground := Ground.phase }, { on := 10, ground := Ground.phase }, { on := 11, ground := Ground.textOnly Departure.lateStores }], guard := none } : Oper)) (v := ?vsm12) rfl (by kernel_rfl) (by kernel_rfl) (by kernel_rfl) (fun _ _ _ h => h) (Or.inl ⟨by rfl, fun w hSw => ?hysm12⟩) (by assumption) ?rsm12
  case hysm12 => (try dsimp only at hSw); go_simp; (try with_reducible rfl)
  (try simp only [Act.put, List.setIfInBounds_toArray, List.set_cons_zero, List.set_cons_succ])
  refine wpAnyH_take (i := 13) (oi := ({ dst := some 12, op := Op.assign (Operand.tmp 24), type := 4, pos := "wordlocks.go:108", after := #[{ on := 11, ground := Ground.data }, { on := 12, ground := Ground.chain }, { on := 0, ground := Ground.phase }, { on := 1, ground := Ground.phase }, { on := 2, ground := Ground.phase }, { on := 3, ground := Ground.phase }, { on := 4, ground := Ground.phase }, { on := 5, ground := Ground.phase }, { on := 6, ground := Ground.phase }, { on := 7, ground := Ground.phase }, { on := 8, ground := Ground.phase }, { on := 9, ground := Ground.phase }, { on := 10, ground := Ground.phase }, { on := 11, ground := Ground.phase }, { on := 12, ground := Ground.phase }], guard := none } : Oper)) (v := ?vsm13) rfl (by kernel_rfl) (by kernel_rfl) (by kernel_rfl) (fun _ _ _ h => h) (Or.inl ⟨by rfl, fun w hSw => ?hysm13⟩) (by assumption) ?rsm13
  case hysm13 => (try dsimp only at hSw); go_simp; (try with_reducible rfl)
  (try simp only [Act.put, List.setIfInBounds_toArray, List.set_cons_zero, List.set_cons_succ])
  refine wpAnyH_done (by kernel_rfl) ?_ _
  have HTN := Lib.hid (turn_l h3 h6 hs HX.out)
  have H3 := Lib.hid h3
  clear hHeld h3 h3g HC q0 hA k0 k1
  have hl := H3.out.last HJ.out; have k0 := cell_row hl 0; have k1 := cell_row hl 1; simp only [List.getElem?_toArray, List.getElem?_cons_zero, List.getElem?_cons_succ] at k0 k1
  clear hl
  by_cases e : x = was
  · have hd : decide (x = was) = true := decide_eq_true e
    have hk : K.cas x was K = K := if_pos e
    rw [hd]
    have HK := Lib.hid hk
    clear hk hd HTN
    go_wp2_with fail
    go_ret
    exact ⟨by rw [decide_eq_true e]; rfl, X3, by rw [HK.out]; exact H3.out.dropB HJ.out⟩
  · have hd : decide (x = was) = false := decide_eq_false e
    have hk : K.cas x was K = K.turn x := if_neg e
    rw [hd]
    have HK := Lib.hid hk
    clear hk hd
    go_wp2_with (go_at_call 42; refine HTN.out.mono ?_; rintro e w4 ⟨rfl, h4⟩; (have H4 := Lib.hid h4; clear h4))
    go_ret
    exact ⟨by rw [decide_eq_false e]; rfl, X3, by rw [HK.out]; exact H4.out.dropB HJ.out⟩
theorem Wl.next (h : Wl w0 w base WB M r j B K X) (h6 : K.ln ≠ 6) (ln : Nat) (hl : ln ≠ 6) (V : Value) (hV : nxV K.t K.a ln = V) : Wl w0 (w.setCell ⟨B, 0, none⟩ V) base WB M r j B { K with ln := ln } X :=
  h.put { K with ln := ln } (set_blk h.blk 0 V _ (by simp [Lk.cs, hV, hl, h6])) ((Turns.refl (fun k => k = B) _).setCell ⟨B, 0, none⟩ _ rfl)
theorem Wl.next2 (h : Wl w0 w base WB M r j B K X) (ln : Nat) (V : Value) (hV : nxV K.t K.a ln = V) (b : Bool) (hb : decide (ln = 6) = b) : Wl w0 ((w.setCell ⟨B, 0, none⟩ V).setCell ⟨B, 3, none⟩ (.bool b)) base WB M r j B { K with ln := ln } X :=
  h.put { K with ln := ln } (set_blk (set_blk h.blk 0 V _ rfl) 3 (.bool b) _ (by simp [Lk.cs, hV, ← hb])) (((Turns.refl (fun k => k = B) _).setCell ⟨B, 0, none⟩ _ rfl).setCell ⟨B, 3, none⟩ _ rfl)
end
/-- Of what is found as the head: a thread, or none. -/
def hdO (u : Nat) : Option Nat := if 1 ≤ u / 4 ∧ u / 4 ≤ 64 then some (u / 4 - 1) else none
theorem num_head (u : Nat) : S5.Num (S1.headN u) (hdO u) := by
  unfold S1.headN hdO
  by_cases h : 1 ≤ u / 4 ∧ u / 4 ≤ 64
  · rw [if_pos h, if_pos h]
    refine ⟨?_, ?_⟩ <;> omega
  · rw [if_neg h, if_neg h]
    exact S5.nm1
/-- A step: what the world is behind it, what the lock. -/
def stepM (M : Sd) (K : Lk) : Sd :=
  match K.ln with
  | 1 => M.acc 3 K.a (S2.casV (S2.look M.L K.a) 0 1)
  | 2 => M.acc 3 K.a (S2.casV (S2.look M.L K.a) K.st (S1.putU true (S1.bitB K.st 1) (S1.headN K.st)))
  | 3 => M.acc 1 K.a (S2.look M.L K.a)
  | 4 => (M.prep (2 * K.t + 1)).link (S5.pushS M.lk (some K.t) (hdO K.st))
  | 5 => M.acc 3 K.a (S2.casV (S2.look M.L K.a) K.st (S1.putU (S1.bitB K.st 0) (S1.bitB K.st 1) K.t))
  | 6 => M.park (2 * K.t + 1)
  | _ => M
def stepK (M : Sd) (K : Lk) : Lk :=
  match K.ln with
  | 1 => ({ K with sp := M.sp } : Lk).cas (S2.look M.L K.a) 0 { K with sp := M.sp, ln := 0 }
  | 2 => K.cas (S2.look M.L K.a) K.st { K with ln := 0 }
  | 3 => K.turn (S2.look M.L K.a)
  | 4 => { K with ln := 5 }
  | 5 => K.cas (S2.look M.L K.a) K.st { K with ln := 6 }
  | 6 => if (M.pf (2 * K.t + 1)).p then { K with ln := 3, sp := M.sp } else K
  | _ => K
/-- What a step leaves. -/
def Stepped (w0 w' : World) (base WB : Nat) (M : Sd) (r : List Part) (j B : Nat) (K : Lk) : Prop := ∃ X', Wl w0 w' base WB (stepM M K) r j B (stepK M K) X'
/-- What holds of a lock and its world. -/
structure LkOk (M : Sd) (K : Lk) : Prop where
  t : K.t < 64
  a : K.a < 4294967296
  st : K.st < 18446744073709551616
  sp : 0 ≤ K.sp ∧ K.sp ≤ 16
  ms : 0 ≤ M.sp ∧ M.sp ≤ 16
  n : M.n ≤ 1000000000
  pn : M.pn ≤ 1000000000
section
variable {w0 w w' : World} {base WB : Nat} {M : Sd} {r : List Part} {j B : Nat} {K : Lk} {X : Wm}
set_option maxRecDepth 100000 in
set_option maxHeartbeats 4000000 in
theorem first_l (h : Wl w0 w base WB M r j B K X) (ok : LkOk M K) (hl : K.ln = 1) : Calls Try.prog 18 #[askV K.t K.a, Pw B, Pw WB] w fun e w' => e = .returned (.tuple #[]) ∧ Stepped w0 w' base WB M r j B K := by
  have hM : stepM M K = M.acc 3 K.a (S2.casV (S2.look M.L K.a) 0 1) := by simp only [stepM, hl]
  have hK : stepK M K = ({ K with sp := M.sp } : Lk).cas (S2.look M.L K.a) 0 { K with sp := M.sp, ln := 0 } := by simp only [stepK, hl]
  unfold Stepped
  rw [hM, hK]
  have HPT : Hid (∀ W, Calls Try.prog 5 #[.agg #[.bool true, .bool false, .int .i64 (-1)]] W fun e w' => e = .returned (.int .u64 1) ∧ Below W.heap.size W w') := Lib.hid (fun W => by
    have := S1.putU_any true false (-1) (by unfold S1.isHead; omega) W
    rwa [S1.putU_one] at this)
  have hj := h.hj
  have hA := h.pushB (.cells #[.int .i64 (K.t : Int), .int .u32 (K.a : Int)] 67)
  have k0 := cell_row (heap_alloc_new w (.cells #[.int .i64 (K.t : Int), .int .u32 (K.a : Int)] 67)) 0; have k1 := cell_row (heap_alloc_new w (.cells #[.int .i64 (K.t : Int), .int .u32 (K.a : Int)] 67)) 1
  simp only [List.getElem?_toArray, List.getElem?_cons_zero, List.getElem?_cons_succ] at k0 k1
  obtain ⟨Q, hQ⟩ : ∃ Q, Q = w.heap.size := ⟨_, rfl⟩
  rw [← hQ] at hA k0 k1
  have HA := Lib.hid hA; have HJ := Lib.hid hj; have HQ := Lib.hid hQ
  have HBG := Lib.hid (begin_l hA)
  obtain ⟨x, hx⟩ : ∃ x, x = S2.look M.L K.a := ⟨_, rfl⟩
  have hsw : ∀ W, Wl w0 W base WB M (r ++ [blockP Q (.cells #[.int .i64 (K.t : Int), .int .u32 (K.a : Int)] 67)]) j B { K with sp := M.sp } X → Calls Try.prog 34 #[askV K.t K.a, Pw B, Pw WB, .int .u64 0, .int .u64 1] W fun e w' => e = .returned (.bool (decide (x = 0))) ∧ ∃ X', Wl w0 w' base WB (M.acc 3 K.a (S2.casV x 0 1)) (r ++ [blockP Q (.cells #[.int .i64 (K.t : Int), .int .u32 (K.a : Int)] 67)]) j B (({ K with sp := M.sp } : Lk).cas x 0 { K with sp := M.sp }) X' := fun W hW => by
    rw [hx]
    exact swap_l hW (by show K.ln ≠ 6; omega) (by show M.sp ≤ _; have := ok.ms; omega) ok.a ok.n (was := 0) (is := 1) (by omega)
  rw [← hx]
  have HSWW := Lib.hid hsw
  have H6 : Hid (K.ln ≠ 6) := Lib.hid (by omega)
  clear hsw hx ok hl hM hK
  clear h hj hQ
  go_enter Try.func18, Try.ntmps18
  go_upto_region 1 with (fail)
  rw [← HQ.out]
  generalize w.alloc (.cells #[.int .i64 (K.t : Int), .int .u32 (K.a : Int)] 67) = w1 at *
  go_upto_region 2 with (go_at_call 33; refine HBG.out.mono ?_; rintro e w3 ⟨rfl, h3⟩)
  have hl := h3.last HJ.out; have k0 := cell_row hl 0; have k1 := cell_row hl 1; simp only [List.getElem?_toArray, List.getElem?_cons_zero, List.getElem?_cons_succ] at k0 k1
  have H3 := Lib.hid h3
  clear hl h3 HBG hA
  refine wp_region_held_drew (S := fun w' => w'.cell? ⟨Q, 0, none⟩ = some (.int .i64 (K.t : Int)) ∧ w'.cell? ⟨Q, 1, none⟩ = some (.int .u32 (K.a : Int))) (by kernel_rfl) ?_ (fun hHeld => ?_)
  · exact ⟨k0, k1⟩
  refine wpAnyH_take (i := 0) (oi := ({ dst := some 11, op := Op.load 67 (Operand.tmp 3), type := 67, pos := "wordlocks.go:62", after := #[], guard := none } : Oper)) (v := ?vfm1) rfl (by kernel_rfl) (by kernel_rfl) (by kernel_rfl) (fun _ _ _ h => h) (Or.inl ⟨by rfl, fun w hSw => ?hyfm1⟩) (by assumption) ?rfm1
  case hyfm1 => (try dsimp only at hSw); go_simp; (try with_reducible rfl)
  (try simp only [Act.put, List.setIfInBounds_toArray, List.set_cons_zero, List.set_cons_succ])
  refine wpAnyH_take (i := 1) (oi := ({ dst := some 12, op := Op.move (Operand.tmp 1), type := 40, pos := "wordlocks.go:62", after := #[], guard := none } : Oper)) (v := ?vfm2) rfl (by kernel_rfl) (by kernel_rfl) (by kernel_rfl) (fun _ _ _ h => h) (Or.inl ⟨by rfl, fun w hSw => ?hyfm2⟩) (by assumption) ?rfm2
  case hyfm2 => (try dsimp only at hSw); go_simp; (try with_reducible rfl)
  (try simp only [Act.put, List.setIfInBounds_toArray, List.set_cons_zero, List.set_cons_succ])
  refine wpAnyH_take (i := 2) (oi := ({ dst := some 13, op := Op.move (Operand.tmp 2), type := 22, pos := "wordlocks.go:62", after := #[], guard := none } : Oper)) (v := ?vfm3) rfl (by kernel_rfl) (by kernel_rfl) (by kernel_rfl) (fun _ _ _ h => h) (Or.inl ⟨by rfl, fun w hSw => ?hyfm3⟩) (by assumption) ?rfm3
  case hyfm3 => (try dsimp only at hSw); go_simp; (try with_reducible rfl)
  (try simp only [Act.put, List.setIfInBounds_toArray, List.set_cons_zero, List.set_cons_succ])
  refine wpAnyH_take (i := 3) (oi := ({ dst := some 14, op := Op.build 27 #[(0, Operand.const (Value.bool true)), (2, Operand.const (Value.int IntKind.i64 (-1)))], type := 27, pos := "wordlocks.go:62", after := #[], guard := none } : Oper)) (v := ?vfm4) rfl (by kernel_rfl) (by kernel_rfl) (by kernel_rfl) (fun _ _ _ h => h) (Or.inl ⟨by rfl, fun w hSw => ?hyfm4⟩) (by assumption) ?rfm4
  case hyfm4 => (try dsimp only at hSw); go_simp; (try with_reducible rfl)
  (try simp only [Act.put, List.setIfInBounds_toArray, List.set_cons_zero, List.set_cons_succ])
  refine wpAnyH_ready (rs := [4]) (by kernel_rfl) (by simp) ?_
  refine AllReadyH.cons (o := ({ dst := some 15, op := Op.call { callee := Callee.value (Operand.func 5), args := #[Operand.tmp 14], argTypes := #[27] }, type := 24, pos := "wordlocks.go:62", after := #[{ on := 3, ground := Ground.data }], guard := none } : Oper)) rfl (fun Kq hKq => ?_) AllReadyH.nil
  go_simp
  (refine (HPT.out _).mono ?_; rintro e w4 ⟨rfl, hb4⟩; (have HSW := Lib.hid (HSWW.out w4 ((H3.out.new (Below.refl _ _).drew).new hb4))))
  refine hKq.out _ _ ?_ (fun hHeld => ?_)
  · exact ⟨bcell hb4 hHeld.1, bcell hb4 hHeld.2⟩
  clear hKq Kq
  (try simp only [Act.put, List.setIfInBounds_toArray, List.set_cons_zero, List.set_cons_succ])
  refine wpAnyH_ready (rs := [5]) (by kernel_rfl) (by simp) ?_
  refine AllReadyH.cons (o := ({ dst := some 16, op := Op.call { callee := Callee.value (Operand.func 34), args := #[Operand.tmp 11, Operand.tmp 12, Operand.tmp 13, Operand.const (Value.int IntKind.u64 0), Operand.tmp 15], argTypes := #[67, 40, 22, 24, 24] }, type := 4, pos := "wordlocks.go:62", after := #[{ on := 0, ground := Ground.data }, { on := 1, ground := Ground.data }, { on := 2, ground := Ground.data }, { on := 4, ground := Ground.data }, { on := 4, ground := Ground.chain }], guard := none } : Oper)) rfl (fun Kq hKq => ?_) AllReadyH.nil
  go_simp
  (refine HSW.out.mono ?_; rintro e w5 ⟨rfl, X5, h5⟩)
  refine hKq.out _ _ ?_ (fun hHeld => ?_)
  · (have hl := h5.last HJ.out; exact ⟨cell_row hl 0, cell_row hl 1⟩)
  clear hKq Kq
  (try simp only [Act.put, List.setIfInBounds_toArray, List.set_cons_zero, List.set_cons_succ])
  refine wpAnyH_done (by kernel_rfl) ?_ _
  clear hHeld k0 k1
  go_upto_if 16 with fail
  by_cases e : x = 0
  · rw [decide_eq_true e]
    have hk : ({ K with sp := M.sp } : Lk).cas x 0 { K with sp := M.sp, ln := 0 } = { K with sp := M.sp, ln := 0 } := if_pos e
    have hk2 : ({ K with sp := M.sp } : Lk).cas x 0 { K with sp := M.sp } = { K with sp := M.sp } := if_pos e
    rw [hk2] at h5
    have c0 := h5.b0; have z0 := h5.fz 0
    have HK := Lib.hid hk; have H5 := Lib.hid h5
    clear hk hk2 e h5 HSW HSWW
    go_wp2_with fail
    go_end0
    exact ⟨rfl, X5, by rw [HK.out]; exact (H5.out.next H6.out 0 (by decide) .nilFunc rfl).dropB HJ.out⟩
  · rw [decide_eq_false e]
    have hk : ({ K with sp := M.sp } : Lk).cas x 0 { K with sp := M.sp, ln := 0 } = ({ K with sp := M.sp } : Lk).cas x 0 { K with sp := M.sp } := (if_neg e).trans (if_neg e).symm
    have HK := Lib.hid hk; have H5 := Lib.hid h5
    clear hk e h5 HSW HSWW
    go_wp2_with fail
    go_end0
    exact ⟨rfl, X5, by rw [HK.out]; exact H5.out.dropB HJ.out⟩
end
end Go.Proofs.Ytdfnobdladiicaa.S13
namespace Go.Proofs.Ytdfnobdladiicaa.S13
open Go.Proofs.Ytdfnobdladiicaa Go.Proofs.Ytdfnobdladiicaa.S11 Go.Proofs.Ytdfnobdladiicaa.S12
open Go.RowKit

section
variable {w0 w w' : World} {base WB : Nat} {M : Sd} {r : List Part} {j B : Nat} {K : Lk} {X : Wm}
theorem Wl.turnLast {Q : Nat} {ob : Obj} (h : Wl w0 w base WB M (r ++ [blockP Q ob]) j B K X) (hj : j < r.length) (ob' : Obj) (hq : w'.heap[Q]? = some ob') (t : Turns (fun k => k = Q) w w') : Wl w0 w' base WB M (r ++ [blockP Q ob']) j B K X := by
  have e : ∀ q : Part, (r ++ [q]).set j (lockP B K) = r.set j (lockP B K) ++ [q] := fun q => List.set_append_left _ _ hj
  have hi : ((r ++ [blockP Q ob]).set j (lockP B K))[r.length]? = some (blockP Q ob) := by
    rw [e, List.getElem?_append_right (by rw [List.length_set]; exact Nat.le_refl _), List.length_set, Nat.sub_self]; rfl
  have := h.pg.turn hi (blockP Q ob') hq t (fun k e => .inl e)
  rw [e, List.set_append_right _ _ (by rw [List.length_set]; exact Nat.le_refl _), List.length_set, Nat.sub_self] at this
  refine ⟨?_, by rw [List.length_append]; simp; omega⟩
  rw [e]
  exact this
set_option maxRecDepth 100000 in
set_option maxHeartbeats 4000000 in
theorem take_l (h : Wl w0 w base WB M r j B K X) (ok : LkOk M K) (hl : K.ln = 2) : Calls Try.prog 48 #[askV K.t K.a, Pw B, Pw WB] w fun e w' => e = .returned (.tuple #[]) ∧ Stepped w0 w' base WB M r j B K := by
  unfold Stepped
  rw [show stepM M K = _ from by simp only [stepM, hl]; rfl, show stepK M K = _ from by simp only [stepK, hl]; rfl]
  have hj := h.hj
  have hA := h.pushB (.cells #[.int .i64 (K.t : Int), .int .u32 (K.a : Int)] 67)
  have k0 := cell_row (heap_alloc_new w (.cells #[.int .i64 (K.t : Int), .int .u32 (K.a : Int)] 67)) 0; have k1 := cell_row (heap_alloc_new w (.cells #[.int .i64 (K.t : Int), .int .u32 (K.a : Int)] 67)) 1
  simp only [List.getElem?_toArray, List.getElem?_cons_zero, List.getElem?_cons_succ] at k0 k1
  obtain ⟨Q, hQ⟩ : ∃ Q, Q = w.heap.size := ⟨_, rfl⟩
  rw [← hQ] at hA k0 k1
  have HA := Lib.hid hA; have HJ := Lib.hid hj; have HQ := Lib.hid hQ
  obtain ⟨b0, hb0⟩ : ∃ x, x = S1.bitB K.st 0 := ⟨_, rfl⟩
  obtain ⟨b1, hb1⟩ : ∃ x, x = S1.bitB K.st 1 := ⟨_, rfl⟩
  obtain ⟨hd, hhd⟩ : ∃ x, x = S1.headN K.st := ⟨_, rfl⟩
  have HAS : Hid (∀ W, Calls Try.prog 47 #[.int .u64 (K.st : Int)] W fun e w' => e = .returned (.agg #[.bool b0, .bool b1, .int .i64 hd]) ∧ Below W.heap.size W w') := Lib.hid (fun W => by
    have := S1.as_any K.st ok.st W
    unfold S1.asV at this
    rw [← hb0, ← hb1, ← hhd] at this
    exact this)
  obtain ⟨x, hx⟩ : ∃ x, x = S2.look M.L K.a := ⟨_, rfl⟩
  obtain ⟨v, hv⟩ : ∃ x, x = S1.putU true (S1.bitB K.st 1) (S1.headN K.st) := ⟨_, rfl⟩
  have hvl : v < 18446744073709551616 := by rw [hv]; exact S1.putU_lt _ _ _
  have hsw : ∀ W r', Wl w0 W base WB M r' j B K X → Calls Try.prog 34 #[askV K.t K.a, Pw B, Pw WB, .int .u64 (K.st : Int), .int .u64 (v : Int)] W fun e w' => e = .returned (.bool (decide (x = K.st))) ∧ ∃ X', Wl w0 w' base WB (M.acc 3 K.a (S2.casV x K.st v)) r' j B (K.cas x K.st K) X' := fun W r' hW => by
    rw [hx]
    exact swap_l hW (by omega) (by have := ok.sp; omega) ok.a ok.n hvl
  have HPT : Hid (∀ W, Calls Try.prog 5 #[.agg #[Value.bool true, Value.bool b1, Value.int .i64 hd]] W fun e w' => e = .returned (.int .u64 (v : Int)) ∧ Below W.heap.size W w') := Lib.hid (fun W => by
    have := S1.putU_any true b1 hd (by rw [hhd]; exact S1.head_is _) W
    rw [hb1, hhd, ← hv] at this
    rw [hb1, hhd]
    exact this)
  rw [← hv, ← hx]
  have HSWW := Lib.hid hsw
  have H6 : Hid (K.ln ≠ 6) := Lib.hid (by omega)
  clear hsw hx hv hvl ok hl hb0 hb1 hhd
  clear h hj hQ
  go_enter Try.func48, Try.ntmps48
  go_upto_region 1 with (fail)
  rw [← HQ.out]
  generalize w.alloc (.cells #[.int .i64 (K.t : Int), .int .u32 (K.a : Int)] 67) = w1 at *
  have c1 := HA.out.b1
  clear hA
  go_upto_region 2 with (go_at_call 47; refine (HAS.out _).mono ?_; rintro e w2 ⟨rfl, hb2⟩)
  have h3a := (HA.out.new hb2).pushB (.cells #[Value.bool b0, Value.bool b1, Value.int .i64 hd] 27)
  have HJ2 : Hid (j < (r ++ [blockP Q (.cells #[.int .i64 (K.t : Int), .int .u32 (K.a : Int)] 67)]).length) := Lib.hid (by rw [List.length_append]; have := HJ.out; omega)
  have hn := heap_alloc_new w2 (.cells #[Value.bool b0, Value.bool b1, Value.int .i64 hd] 27)
  have s0 := cell_row hn 0; have s1 := cell_row hn 1; have s2 := cell_row hn 2
  have f0 := froz_row hn 0
  have k0 := bcell (hb2.trans ((below1 w2 (.cells #[Value.bool b0, Value.bool b1, Value.int .i64 hd] 27)).mono hb2.size)) k0; have k1 := bcell (hb2.trans ((below1 w2 (.cells #[Value.bool b0, Value.bool b1, Value.int .i64 hd] 27)).mono hb2.size)) k1
  simp only [List.getElem?_toArray, List.getElem?_cons_zero, List.getElem?_cons_succ] at s0 s1 s2
  obtain ⟨Qs, hQs⟩ : ∃ x, x = w2.heap.size := ⟨_, rfl⟩
  rw [← hQs] at h3a hn s0 s1 s2 f0 ⊢
  have h3 := h3a.turnLast HJ2.out (.cells #[Value.bool true, Value.bool b1, Value.int .i64 hd] 27) (set_blk hn 0 (.bool true) _ (by simp)) ((Turns.refl (fun k => k = Qs) _).setCell ⟨Qs, 0, none⟩ _ rfl)
  have H3 := Lib.hid h3
  clear h3 h3a hQs hn c1
  generalize w2.alloc (.cells #[Value.bool b0, Value.bool b1, Value.int .i64 hd] 27) = w2' at *
  go_upto_region 3 with (fail)
  generalize w2'.setCell ⟨Qs, 0, none⟩ (.bool true) = w3 at *
  have hl2 := H3.out.last HJ2.out
  have hlb := (H3.out.dropB HJ2.out).last HJ.out
  have c1 : w3.drew.cell? ⟨B, 1, none⟩ = some (.int .u64 (K.st : Int)) := H3.out.b1
  have HF : Hid ((fun w' => w'.cell? ⟨Q, 0, none⟩ = some (.int .i64 (K.t : Int)) ∧ w'.cell? ⟨Q, 1, none⟩ = some (.int .u32 (K.a : Int)) ∧ w'.cell? ⟨Qs, 0, none⟩ = some (Value.bool true) ∧ w'.cell? ⟨Qs, 1, none⟩ = some (Value.bool b1) ∧ w'.cell? ⟨Qs, 2, none⟩ = some (Value.int .i64 hd)) w3.drew) := Lib.hid ⟨cell_row hlb 0, cell_row hlb 1, cell_row hl2 0, cell_row hl2 1, cell_row hl2 2⟩
  clear hl2 hlb k0 k1 s0 s1 s2 f0 HAS hb2
  refine wp_region_held_drew (S := fun w' => w'.cell? ⟨Q, 0, none⟩ = some (.int .i64 (K.t : Int)) ∧ w'.cell? ⟨Q, 1, none⟩ = some (.int .u32 (K.a : Int)) ∧ w'.cell? ⟨Qs, 0, none⟩ = some (Value.bool true) ∧ w'.cell? ⟨Qs, 1, none⟩ = some (Value.bool b1) ∧ w'.cell? ⟨Qs, 2, none⟩ = some (Value.int .i64 hd)) (by kernel_rfl) ?_ (fun hHeld => ?_)
  · exact HF.out
  refine wpAnyH_take (i := 0) (oi := ({ dst := some 13, op := Op.load 67 (Operand.tmp 3), type := 67, pos := "wordlocks.go:71", after := #[], guard := none } : Oper)) (v := ?vtx1) rfl (by kernel_rfl) (by kernel_rfl) (by kernel_rfl) (fun _ _ _ h => h) (Or.inl ⟨by rfl, fun w hSw => ?hytx1⟩) (by assumption) ?rtx1
  case hytx1 => (try dsimp only at hSw); go_simp; (try with_reducible rfl)
  (try simp only [Act.put, List.setIfInBounds_toArray, List.set_cons_zero, List.set_cons_succ])
  refine wpAnyH_take (i := 1) (oi := ({ dst := some 14, op := Op.move (Operand.tmp 1), type := 40, pos := "wordlocks.go:71", after := #[], guard := none } : Oper)) (v := ?vtx2) rfl (by kernel_rfl) (by kernel_rfl) (by kernel_rfl) (fun _ _ _ h => h) (Or.inl ⟨by rfl, fun w hSw => ?hytx2⟩) (by assumption) ?rtx2
  case hytx2 => (try dsimp only at hSw); go_simp; (try with_reducible rfl)
  (try simp only [Act.put, List.setIfInBounds_toArray, List.set_cons_zero, List.set_cons_succ])
  refine wpAnyH_take (i := 2) (oi := ({ dst := some 15, op := Op.move (Operand.tmp 2), type := 22, pos := "wordlocks.go:71", after := #[], guard := none } : Oper)) (v := ?vtx3) rfl (by kernel_rfl) (by kernel_rfl) (by kernel_rfl) (fun _ _ _ h => h) (Or.inl ⟨by rfl, fun w hSw => ?hytx3⟩) (by assumption) ?rtx3
  case hytx3 => (try dsimp only at hSw); go_simp; (try with_reducible rfl)
  (try simp only [Act.put, List.setIfInBounds_toArray, List.set_cons_zero, List.set_cons_succ])
  refine wpAnyH_take (i := 3) (oi := ({ dst := some 16, op := Op.move (Operand.tmp 1), type := 40, pos := "wordlocks.go:71", after := #[], guard := none } : Oper)) (v := ?vtx4) rfl (by kernel_rfl) (by kernel_rfl) (by kernel_rfl) (fun _ _ _ h => h) (Or.inl ⟨by rfl, fun w hSw => ?hytx4⟩) (by assumption) ?rtx4
  case hytx4 => (try dsimp only at hSw); go_simp; (try with_reducible rfl)
  (try simp only [Act.put, List.setIfInBounds_toArray, List.set_cons_zero, List.set_cons_succ])
  refine wpAnyH_take (i := 4) (oi := ({ dst := some 17, op := Op.nilCheck (Operand.tmp 16), type := 0, pos := "wordlocks.go:71", after := #[{ on := 3, ground := Ground.data }], guard := none } : Oper)) (v := ?vtx5) rfl (by kernel_rfl) (by kernel_rfl) (by kernel_rfl) (fun _ _ _ h => h) (Or.inl ⟨by rfl, fun w hSw => ?hytx5⟩) (by assumption) ?rtx5
  case hytx5 => (try dsimp only at hSw); go_simp; (try with_reducible rfl)
  (try simp only [Act.put, List.setIfInBounds_toArray, List.set_cons_zero, List.set_cons_succ])
  refine wpAnyH_take (i := 5) (oi := ({ dst := some 18, op := Op.fieldAddr 65 (Operand.tmp 17) 1, type := 0, pos := "wordlocks.go:71", after := #[{ on := 4, ground := Ground.data }], guard := none } : Oper)) (v := ?vtx6) rfl (by kernel_rfl) (by kernel_rfl) (by kernel_rfl) (fun _ _ _ h => h) (Or.inl ⟨by rfl, fun w hSw => ?hytx6⟩) (by assumption) ?rtx6
  case hytx6 => (try dsimp only at hSw); go_simp; (try with_reducible rfl)
  (try simp only [Act.put, List.setIfInBounds_toArray, List.set_cons_zero, List.set_cons_succ])
  refine wpAnyH_take (i := 7) (oi := ({ dst := some 20, op := Op.load 27 (Operand.tmp 6), type := 27, pos := "wordlocks.go:71", after := #[], guard := none } : Oper)) (v := ?vtx7) rfl (by kernel_rfl) (by kernel_rfl) (by kernel_rfl) (fun _ _ _ h => h) (Or.inl ⟨by rfl, fun w hSw => ?hytx7⟩) (by assumption) ?rtx7
  case hytx7 => (try dsimp only at hSw); go_simp; (try with_reducible rfl)
  (try simp only [Act.put, List.setIfInBounds_toArray, List.set_cons_zero, List.set_cons_succ])
  refine wpAnyH_ready (rs := [6, 8]) (by kernel_rfl) (by simp) ?_
  refine AllReadyH.cons (o := ({ dst := some 19, op := Op.load 24 (Operand.tmp 18), type := 24, pos := "wordlocks.go:71", after := #[{ on := 5, ground := Ground.data }], guard := none } : Oper)) rfl (fun Kq hKq => ?_) ?_
  · go_simp
    refine hKq.out _ _ ?_ (fun hHeld => ?_)
    · exact hHeld
    clear hKq Kq
    (try simp only [Act.put, List.setIfInBounds_toArray, List.set_cons_zero, List.set_cons_succ])
    refine wpAnyH_ready (rs := [8]) (by kernel_rfl) (by simp) ?_
    refine AllReadyH.cons (o := ({ dst := some 21, op := Op.call { callee := Callee.value (Operand.func 5), args := #[Operand.tmp 20], argTypes := #[27] }, type := 24, pos := "wordlocks.go:71", after := #[{ on := 7, ground := Ground.data }], guard := none } : Oper)) rfl (fun Kq hKq => ?_) AllReadyH.nil
    go_simp
    (refine (HPT.out _).mono ?_; rintro e w4 ⟨rfl, hb4⟩; have c1 := bcell hb4 c1; have HSW := Lib.hid (HSWW.out w4 _ ((H3.out.new (Below.refl _ _).drew).new hb4)))
    refine hKq.out _ _ ?_ (fun hHeld => ?_)
    · exact ⟨bcell hb4 hHeld.1, bcell hb4 hHeld.2.1, bcell hb4 hHeld.2.2.1, bcell hb4 hHeld.2.2.2.1, bcell hb4 hHeld.2.2.2.2⟩
    clear hKq Kq
    (try simp only [Act.put, List.setIfInBounds_toArray, List.set_cons_zero, List.set_cons_succ])
    refine wpAnyH_ready (rs := [9]) (by kernel_rfl) (by simp) ?_
    refine AllReadyH.cons (o := ({ dst := some 22, op := Op.call { callee := Callee.value (Operand.func 34), args := #[Operand.tmp 13, Operand.tmp 14, Operand.tmp 15, Operand.tmp 19, Operand.tmp 21], argTypes := #[67, 40, 22, 24, 24] }, type := 4, pos := "wordlocks.go:71", after := #[{ on := 0, ground := Ground.data }, { on := 1, ground := Ground.data }, { on := 2, ground := Ground.data }, { on := 6, ground := Ground.data }, { on := 8, ground := Ground.data }, { on := 8, ground := Ground.chain }], guard := none } : Oper)) rfl (fun Kq hKq => ?_) AllReadyH.nil
    go_simp
    (refine HSW.out.mono ?_; rintro e w5 ⟨rfl, X5, h5⟩)
    refine hKq.out _ _ ?_ (fun hHeld => ?_)
    · (have hl := (h5.dropB HJ2.out).last HJ.out; have hl2 := h5.last HJ2.out; exact ⟨cell_row hl 0, cell_row hl 1, cell_row hl2 0, cell_row hl2 1, cell_row hl2 2⟩)
    clear hKq Kq
    (try simp only [Act.put, List.setIfInBounds_toArray, List.set_cons_zero, List.set_cons_succ])
    refine wpAnyH_done (by kernel_rfl) ?_ _
    have h7 := (h5.dropB HJ2.out)
    have hl := h7.last HJ.out
    have k0 := cell_row hl 0; have k1 := cell_row hl 1
    simp only [List.getElem?_toArray, List.getElem?_cons_zero, List.getElem?_cons_succ] at k0 k1
    clear hl hHeld c1 h5
    go_upto_if 22 with fail
    by_cases e : x = K.st
    · rw [decide_eq_true e]
      have hk2 : K.cas x K.st K = K := if_pos e
      rw [hk2] at h7
      have c0 := h7.b0; have z0 := h7.fz 0; have c3 := h7.b3; have z3 := h7.fz 3
      have HK := Lib.hid (show K.cas x K.st { K with ln := 0 } = { K with ln := 0 } from if_pos e); have H5 := Lib.hid h7
      clear hk2 e h7 HSW HSWW
      go_wp2_with fail
      go_end0
      exact ⟨rfl, X5, by rw [HK.out]; exact (H5.out.next H6.out 0 (by decide) .nilFunc rfl).dropB HJ.out⟩
    · rw [decide_eq_false e]
      have HK := Lib.hid (show K.cas x K.st { K with ln := 0 } = K.cas x K.st K from (if_neg e).trans (if_neg e).symm); have H5 := Lib.hid h7
      clear e h7 HSW HSWW
      go_wp2_with fail
      go_end0
      exact ⟨rfl, X5, by rw [HK.out]; exact H5.out.dropB HJ.out⟩
  refine AllReadyH.cons (o := ({ dst := some 21, op := Op.call { callee := Callee.value (Operand.func 5), args := #[Operand.tmp 20], argTypes := #[27] }, type := 24, pos := "wordlocks.go:71", after := #[{ on := 7, ground := Ground.data }], guard := none } : Oper)) rfl (fun Kq hKq => ?_) AllReadyH.nil
  go_simp
  (refine (HPT.out _).mono ?_; rintro e w4 ⟨rfl, hb4⟩; have c1 := bcell hb4 c1; have HSW := Lib.hid (HSWW.out w4 _ ((H3.out.new (Below.refl _ _).drew).new hb4)))
  refine hKq.out _ _ ?_ (fun hHeld => ?_)
  · exact ⟨bcell hb4 hHeld.1, bcell hb4 hHeld.2.1, bcell hb4 hHeld.2.2.1, bcell hb4 hHeld.2.2.2.1, bcell hb4 hHeld.2.2.2.2⟩
  clear hKq Kq
  (try simp only [Act.put, List.setIfInBounds_toArray, List.set_cons_zero, List.set_cons_succ])
  refine wpAnyH_ready (rs := [6]) (by kernel_rfl) (by simp) ?_
  refine AllReadyH.cons (o := ({ dst := some 19, op := Op.load 24 (Operand.tmp 18), type := 24, pos := "wordlocks.go:71", after := #[{ on := 5, ground := Ground.data }], guard := none } : Oper)) rfl (fun Kq hKq => ?_) AllReadyH.nil
  go_simp
  refine hKq.out _ _ ?_ (fun hHeld => ?_)
  · exact hHeld
  clear hKq Kq
  (try simp only [Act.put, List.setIfInBounds_toArray, List.set_cons_zero, List.set_cons_succ])
  refine wpAnyH_ready (rs := [9]) (by kernel_rfl) (by simp) ?_
  refine AllReadyH.cons (o := ({ dst := some 22, op := Op.call { callee := Callee.value (Operand.func 34), args := #[Operand.tmp 13, Operand.tmp 14, Operand.tmp 15, Operand.tmp 19, Operand.tmp 21], argTypes := #[67, 40, 22, 24, 24] }, type := 4, pos := "wordlocks.go:71", after := #[{ on := 0, ground := Ground.data }, { on := 1, ground := Ground.data }, { on := 2, ground := Ground.data }, { on := 6, ground := Ground.data }, { on := 8, ground := Ground.data }, { on := 8, ground := Ground.chain }], guard := none } : Oper)) rfl (fun Kq hKq => ?_) AllReadyH.nil
  go_simp
  (refine HSW.out.mono ?_; rintro e w5 ⟨rfl, X5, h5⟩)
  refine hKq.out _ _ ?_ (fun hHeld => ?_)
  · (have hl := (h5.dropB HJ2.out).last HJ.out; have hl2 := h5.last HJ2.out; exact ⟨cell_row hl 0, cell_row hl 1, cell_row hl2 0, cell_row hl2 1, cell_row hl2 2⟩)
  clear hKq Kq
  (try simp only [Act.put, List.setIfInBounds_toArray, List.set_cons_zero, List.set_cons_succ])
  refine wpAnyH_done (by kernel_rfl) ?_ _
  have h7 := (h5.dropB HJ2.out)
  have hl := h7.last HJ.out
  have k0 := cell_row hl 0; have k1 := cell_row hl 1
  simp only [List.getElem?_toArray, List.getElem?_cons_zero, List.getElem?_cons_succ] at k0 k1
  clear hl hHeld c1 h5
  go_upto_if 22 with fail
  by_cases e : x = K.st
  · rw [decide_eq_true e]
    have hk2 : K.cas x K.st K = K := if_pos e
    rw [hk2] at h7
    have c0 := h7.b0; have z0 := h7.fz 0; have c3 := h7.b3; have z3 := h7.fz 3
    have HK := Lib.hid (show K.cas x K.st { K with ln := 0 } = { K with ln := 0 } from if_pos e); have H5 := Lib.hid h7
    clear hk2 e h7 HSW HSWW
    go_wp2_with fail
    go_end0
    exact ⟨rfl, X5, by rw [HK.out]; exact (H5.out.next H6.out 0 (by decide) .nilFunc rfl).dropB HJ.out⟩
  · rw [decide_eq_false e]
    have HK := Lib.hid (show K.cas x K.st { K with ln := 0 } = K.cas x K.st K from (if_neg e).trans (if_neg e).symm); have H5 := Lib.hid h7
    clear e h7 HSW HSWW
    go_wp2_with fail
    go_end0
    exact ⟨rfl, X5, by rw [HK.out]; exact H5.out.dropB HJ.out⟩
set_option maxRecDepth 100000 in
set_option maxHeartbeats 4000000 in
theorem queue_l (h : Wl w0 w base WB M r j B K X) (ok : LkOk M K) (hl : K.ln = 5) : Calls Try.prog 55 #[askV K.t K.a, Pw B, Pw WB] w fun e w' => e = .returned (.tuple #[]) ∧ Stepped w0 w' base WB M r j B K := by
  unfold Stepped
  rw [show stepM M K = _ from by simp only [stepM, hl]; rfl, show stepK M K = _ from by simp only [stepK, hl]; rfl]
  have hj := h.hj
  have hA := h.pushB (.cells #[.int .i64 (K.t : Int), .int .u32 (K.a : Int)] 67)
  have k0 := cell_row (heap_alloc_new w (.cells #[.int .i64 (K.t : Int), .int .u32 (K.a : Int)] 67)) 0; have k1 := cell_row (heap_alloc_new w (.cells #[.int .i64 (K.t : Int), .int .u32 (K.a : Int)] 67)) 1
  simp only [List.getElem?_toArray, List.getElem?_cons_zero, List.getElem?_cons_succ] at k0 k1
  obtain ⟨Q, hQ⟩ : ∃ Q, Q = w.heap.size := ⟨_, rfl⟩
  rw [← hQ] at hA k0 k1
  have HA := Lib.hid hA; have HJ := Lib.hid hj; have HQ := Lib.hid hQ
  obtain ⟨b0, hb0⟩ : ∃ x, x = S1.bitB K.st 0 := ⟨_, rfl⟩
  obtain ⟨b1, hb1⟩ : ∃ x, x = S1.bitB K.st 1 := ⟨_, rfl⟩
  obtain ⟨hd, hhd⟩ : ∃ x, x = S1.headN K.st := ⟨_, rfl⟩
  have HAS : Hid (∀ W, Calls Try.prog 47 #[.int .u64 (K.st : Int)] W fun e w' => e = .returned (.agg #[.bool b0, .bool b1, .int .i64 hd]) ∧ Below W.heap.size W w') := Lib.hid (fun W => by
    have := S1.as_any K.st ok.st W
    unfold S1.asV at this
    rw [← hb0, ← hb1, ← hhd] at this
    exact this)
  obtain ⟨x, hx⟩ : ∃ x, x = S2.look M.L K.a := ⟨_, rfl⟩
  obtain ⟨v, hv⟩ : ∃ x, x = S1.putU (S1.bitB K.st 0) (S1.bitB K.st 1) K.t := ⟨_, rfl⟩
  have hvl : v < 18446744073709551616 := by rw [hv]; exact S1.putU_lt _ _ _
  have hsw : ∀ W r', Wl w0 W base WB M r' j B K X → Calls Try.prog 34 #[askV K.t K.a, Pw B, Pw WB, .int .u64 (K.st : Int), .int .u64 (v : Int)] W fun e w' => e = .returned (.bool (decide (x = K.st))) ∧ ∃ X', Wl w0 w' base WB (M.acc 3 K.a (S2.casV x K.st v)) r' j B (K.cas x K.st K) X' := fun W r' hW => by
    rw [hx]
    exact swap_l hW (by omega) (by have := ok.sp; omega) ok.a ok.n hvl
  have HPT : Hid (∀ W, Calls Try.prog 5 #[.agg #[Value.bool b0, Value.bool b1, Value.int .i64 (K.t : Int)]] W fun e w' => e = .returned (.int .u64 (v : Int)) ∧ Below W.heap.size W w') := Lib.hid (fun W => by
    have := S1.putU_any b0 b1 (K.t : Int) (by unfold S1.isHead; have := ok.t; omega) W
    rw [hb0, hb1, ← hv] at this
    rw [hb0, hb1]
    exact this)
  rw [← hv, ← hx]
  have HSWW := Lib.hid hsw
  have H6 : Hid (K.ln ≠ 6) := Lib.hid (by omega)
  clear hsw hx hv hvl ok hl hb0 hb1 hhd
  clear h hj hQ
  go_enter Try.func55, Try.ntmps55
  go_upto_region 1 with (fail)
  rw [← HQ.out]
  generalize w.alloc (.cells #[.int .i64 (K.t : Int), .int .u32 (K.a : Int)] 67) = w1 at *
  have c1 := HA.out.b1
  clear hA
  go_upto_region 2 with (go_at_call 47; refine (HAS.out _).mono ?_; rintro e w2 ⟨rfl, hb2⟩)
  have h3a := (HA.out.new hb2).pushB (.cells #[Value.bool b0, Value.bool b1, Value.int .i64 hd] 27)
  have HJ2 : Hid (j < (r ++ [blockP Q (.cells #[.int .i64 (K.t : Int), .int .u32 (K.a : Int)] 67)]).length) := Lib.hid (by rw [List.length_append]; have := HJ.out; omega)
  have hn := heap_alloc_new w2 (.cells #[Value.bool b0, Value.bool b1, Value.int .i64 hd] 27)
  have s0 := cell_row hn 0; have s1 := cell_row hn 1; have s2 := cell_row hn 2
  have f0 := froz_row hn 2
  have k0 := bcell (hb2.trans ((below1 w2 (.cells #[Value.bool b0, Value.bool b1, Value.int .i64 hd] 27)).mono hb2.size)) k0; have k1 := bcell (hb2.trans ((below1 w2 (.cells #[Value.bool b0, Value.bool b1, Value.int .i64 hd] 27)).mono hb2.size)) k1
  simp only [List.getElem?_toArray, List.getElem?_cons_zero, List.getElem?_cons_succ] at s0 s1 s2
  obtain ⟨Qs, hQs⟩ : ∃ x, x = w2.heap.size := ⟨_, rfl⟩
  rw [← hQs] at h3a hn s0 s1 s2 f0 ⊢
  have h3 := h3a.turnLast HJ2.out (.cells #[Value.bool b0, Value.bool b1, Value.int .i64 (K.t : Int)] 27) (set_blk hn 2 (.int .i64 (K.t : Int)) _ (by simp)) ((Turns.refl (fun k => k = Qs) _).setCell ⟨Qs, 2, none⟩ _ rfl)
  have H3 := Lib.hid h3
  clear h3 h3a hQs hn c1
  generalize w2.alloc (.cells #[Value.bool b0, Value.bool b1, Value.int .i64 hd] 27) = w2' at *
  go_upto_region 3 with (fail)
  generalize w2'.setCell ⟨Qs, 2, none⟩ (.int .i64 (K.t : Int)) = w3 at *
  have hl2 := H3.out.last HJ2.out
  have hlb := (H3.out.dropB HJ2.out).last HJ.out
  have c1 : w3.drew.cell? ⟨B, 1, none⟩ = some (.int .u64 (K.st : Int)) := H3.out.b1
  have HF : Hid ((fun w' => w'.cell? ⟨Q, 0, none⟩ = some (.int .i64 (K.t : Int)) ∧ w'.cell? ⟨Q, 1, none⟩ = some (.int .u32 (K.a : Int)) ∧ w'.cell? ⟨Qs, 0, none⟩ = some (Value.bool b0) ∧ w'.cell? ⟨Qs, 1, none⟩ = some (Value.bool b1) ∧ w'.cell? ⟨Qs, 2, none⟩ = some (Value.int .i64 (K.t : Int))) w3.drew) := Lib.hid ⟨cell_row hlb 0, cell_row hlb 1, cell_row hl2 0, cell_row hl2 1, cell_row hl2 2⟩
  clear hl2 hlb k0 k1 s0 s1 s2 f0 HAS hb2
  refine wp_region_held_drew (S := fun w' => w'.cell? ⟨Q, 0, none⟩ = some (.int .i64 (K.t : Int)) ∧ w'.cell? ⟨Q, 1, none⟩ = some (.int .u32 (K.a : Int)) ∧ w'.cell? ⟨Qs, 0, none⟩ = some (Value.bool b0) ∧ w'.cell? ⟨Qs, 1, none⟩ = some (Value.bool b1) ∧ w'.cell? ⟨Qs, 2, none⟩ = some (Value.int .i64 (K.t : Int))) (by kernel_rfl) ?_ (fun hHeld => ?_)
  · exact HF.out
  refine wpAnyH_take (i := 0) (oi := ({ dst := some 15, op := Op.load 67 (Operand.tmp 3), type := 67, pos := "wordlocks.go:92", after := #[], guard := none } : Oper)) (v := ?vqx1) rfl (by kernel_rfl) (by kernel_rfl) (by kernel_rfl) (fun _ _ _ h => h) (Or.inl ⟨by rfl, fun w hSw => ?hyqx1⟩) (by assumption) ?rqx1
  case hyqx1 => (try dsimp only at hSw); go_simp; (try with_reducible rfl)
  (try simp only [Act.put, List.setIfInBounds_toArray, List.set_cons_zero, List.set_cons_succ])
  refine wpAnyH_take (i := 1) (oi := ({ dst := some 16, op := Op.move (Operand.tmp 1), type := 40, pos := "wordlocks.go:92", after := #[], guard := none } : Oper)) (v := ?vqx2) rfl (by kernel_rfl) (by kernel_rfl) (by kernel_rfl) (fun _ _ _ h => h) (Or.inl ⟨by rfl, fun w hSw => ?hyqx2⟩) (by assumption) ?rqx2
  case hyqx2 => (try dsimp only at hSw); go_simp; (try with_reducible rfl)
  (try simp only [Act.put, List.setIfInBounds_toArray, List.set_cons_zero, List.set_cons_succ])
  refine wpAnyH_take (i := 2) (oi := ({ dst := some 17, op := Op.move (Operand.tmp 2), type := 22, pos := "wordlocks.go:92", after := #[], guard := none } : Oper)) (v := ?vqx3) rfl (by kernel_rfl) (by kernel_rfl) (by kernel_rfl) (fun _ _ _ h => h) (Or.inl ⟨by rfl, fun w hSw => ?hyqx3⟩) (by assumption) ?rqx3
  case hyqx3 => (try dsimp only at hSw); go_simp; (try with_reducible rfl)
  (try simp only [Act.put, List.setIfInBounds_toArray, List.set_cons_zero, List.set_cons_succ])
  refine wpAnyH_take (i := 3) (oi := ({ dst := some 18, op := Op.move (Operand.tmp 1), type := 40, pos := "wordlocks.go:92", after := #[], guard := none } : Oper)) (v := ?vqx4) rfl (by kernel_rfl) (by kernel_rfl) (by kernel_rfl) (fun _ _ _ h => h) (Or.inl ⟨by rfl, fun w hSw => ?hyqx4⟩) (by assumption) ?rqx4
  case hyqx4 => (try dsimp only at hSw); go_simp; (try with_reducible rfl)
  (try simp only [Act.put, List.setIfInBounds_toArray, List.set_cons_zero, List.set_cons_succ])
  refine wpAnyH_take (i := 4) (oi := ({ dst := some 19, op := Op.nilCheck (Operand.tmp 18), type := 0, pos := "wordlocks.go:92", after := #[{ on := 3, ground := Ground.data }], guard := none } : Oper)) (v := ?vqx5) rfl (by kernel_rfl) (by kernel_rfl) (by kernel_rfl) (fun _ _ _ h => h) (Or.inl ⟨by rfl, fun w hSw => ?hyqx5⟩) (by assumption) ?rqx5
  case hyqx5 => (try dsimp only at hSw); go_simp; (try with_reducible rfl)
  (try simp only [Act.put, List.setIfInBounds_toArray, List.set_cons_zero, List.set_cons_succ])
  refine wpAnyH_take (i := 5) (oi := ({ dst := some 20, op := Op.fieldAddr 65 (Operand.tmp 19) 1, type := 0, pos := "wordlocks.go:92", after := #[{ on := 4, ground := Ground.data }], guard := none } : Oper)) (v := ?vqx6) rfl (by kernel_rfl) (by kernel_rfl) (by kernel_rfl) (fun _ _ _ h => h) (Or.inl ⟨by rfl, fun w hSw => ?hyqx6⟩) (by assumption) ?rqx6
  case hyqx6 => (try dsimp only at hSw); go_simp; (try with_reducible rfl)
  (try simp only [Act.put, List.setIfInBounds_toArray, List.set_cons_zero, List.set_cons_succ])
  refine wpAnyH_take (i := 7) (oi := ({ dst := some 22, op := Op.load 27 (Operand.tmp 6), type := 27, pos := "wordlocks.go:92", after := #[], guard := none } : Oper)) (v := ?vqx7) rfl (by kernel_rfl) (by kernel_rfl) (by kernel_rfl) (fun _ _ _ h => h) (Or.inl ⟨by rfl, fun w hSw => ?hyqx7⟩) (by assumption) ?rqx7
  case hyqx7 => (try dsimp only at hSw); go_simp; (try with_reducible rfl)
  (try simp only [Act.put, List.setIfInBounds_toArray, List.set_cons_zero, List.set_cons_succ])
  refine wpAnyH_ready (rs := [6, 8]) (by kernel_rfl) (by simp) ?_
  refine AllReadyH.cons (o := ({ dst := some 21, op := Op.load 24 (Operand.tmp 20), type := 24, pos := "wordlocks.go:92", after := #[{ on := 5, ground := Ground.data }], guard := none } : Oper)) rfl (fun Kq hKq => ?_) ?_
  · go_simp
    refine hKq.out _ _ ?_ (fun hHeld => ?_)
    · exact hHeld
    clear hKq Kq
    (try simp only [Act.put, List.setIfInBounds_toArray, List.set_cons_zero, List.set_cons_succ])
    refine wpAnyH_ready (rs := [8]) (by kernel_rfl) (by simp) ?_
    refine AllReadyH.cons (o := ({ dst := some 23, op := Op.call { callee := Callee.value (Operand.func 5), args := #[Operand.tmp 22], argTypes := #[27] }, type := 24, pos := "wordlocks.go:92", after := #[{ on := 7, ground := Ground.data }], guard := none } : Oper)) rfl (fun Kq hKq => ?_) AllReadyH.nil
    go_simp
    (refine (HPT.out _).mono ?_; rintro e w4 ⟨rfl, hb4⟩; have c1 := bcell hb4 c1; have HSW := Lib.hid (HSWW.out w4 _ ((H3.out.new (Below.refl _ _).drew).new hb4)))
    refine hKq.out _ _ ?_ (fun hHeld => ?_)
    · exact ⟨bcell hb4 hHeld.1, bcell hb4 hHeld.2.1, bcell hb4 hHeld.2.2.1, bcell hb4 hHeld.2.2.2.1, bcell hb4 hHeld.2.2.2.2⟩
    clear hKq Kq
    (try simp only [Act.put, List.setIfInBounds_toArray, List.set_cons_zero, List.set_cons_succ])
    refine wpAnyH_ready (rs := [9]) (by kernel_rfl) (by simp) ?_
    refine AllReadyH.cons (o := ({ dst := some 24, op := Op.call { callee := Callee.value (Operand.func 34), args := #[Operand.tmp 15, Operand.tmp 16, Operand.tmp 17, Operand.tmp 21, Operand.tmp 23], argTypes := #[67, 40, 22, 24, 24] }, type := 4, pos := "wordlocks.go:92", after := #[{ on := 0, ground := Ground.data }, { on := 1, ground := Ground.data }, { on := 2, ground := Ground.data }, { on := 6, ground := Ground.data }, { on := 8, ground := Ground.data }, { on := 8, ground := Ground.chain }], guard := none } : Oper)) rfl (fun Kq hKq => ?_) AllReadyH.nil
    go_simp
    (refine HSW.out.mono ?_; rintro e w5 ⟨rfl, X5, h5⟩)
    refine hKq.out _ _ ?_ (fun hHeld => ?_)
    · (have hl := (h5.dropB HJ2.out).last HJ.out; have hl2 := h5.last HJ2.out; exact ⟨cell_row hl 0, cell_row hl 1, cell_row hl2 0, cell_row hl2 1, cell_row hl2 2⟩)
    clear hKq Kq
    (try simp only [Act.put, List.setIfInBounds_toArray, List.set_cons_zero, List.set_cons_succ])
    refine wpAnyH_done (by kernel_rfl) ?_ _
    have h7 := (h5.dropB HJ2.out)
    have hl := h7.last HJ.out
    have k0 := cell_row hl 0; have k1 := cell_row hl 1
    simp only [List.getElem?_toArray, List.getElem?_cons_zero, List.getElem?_cons_succ] at k0 k1
    clear hl hHeld c1 h5
    go_upto_if 24 with fail
    by_cases e : x = K.st
    · rw [decide_eq_true e]
      have hk2 : K.cas x K.st K = K := if_pos e
      rw [hk2] at h7
      have c0 := h7.b0; have z0 := h7.fz 0; have c3 := h7.b3; have z3 := h7.fz 3
      have HK := Lib.hid (show K.cas x K.st { K with ln := 6 } = { K with ln := 6 } from if_pos e); have H5 := Lib.hid h7
      clear hk2 e h7 HSW HSWW
      go_wp2_with fail
      go_end0
      exact ⟨rfl, X5, by rw [HK.out]; exact (H5.out.next2 6 _ rfl true rfl).dropB HJ.out⟩
    · rw [decide_eq_false e]
      have HK := Lib.hid (show K.cas x K.st { K with ln := 6 } = K.cas x K.st K from (if_neg e).trans (if_neg e).symm); have H5 := Lib.hid h7
      clear e h7 HSW HSWW
      go_wp2_with fail
      go_end0
      exact ⟨rfl, X5, by rw [HK.out]; exact H5.out.dropB HJ.out⟩
  refine AllReadyH.cons (o := ({ dst := some 23, op := Op.call { callee := Callee.value (Operand.func 5), args := #[Operand.tmp 22], argTypes := #[27] }, type := 24, pos := "wordlocks.go:92", after := #[{ on := 7, ground := Ground.data }], guard := none } : Oper)) rfl (fun Kq hKq => ?_) AllReadyH.nil
  go_simp
  (refine (HPT.out _).mono ?_; rintro e w4 ⟨rfl, hb4⟩; have c1 := bcell hb4 c1; have HSW := Lib.hid (HSWW.out w4 _ ((H3.out.new (Below.refl _ _).drew).new hb4)))
  refine hKq.out _ _ ?_ (fun hHeld => ?_)
  · exact ⟨bcell hb4 hHeld.1, bcell hb4 hHeld.2.1, bcell hb4 hHeld.2.2.1, bcell hb4 hHeld.2.2.2.1, bcell hb4 hHeld.2.2.2.2⟩
  clear hKq Kq
  (try simp only [Act.put, List.setIfInBounds_toArray, List.set_cons_zero, List.set_cons_succ])
  refine wpAnyH_ready (rs := [6]) (by kernel_rfl) (by simp) ?_
  refine AllReadyH.cons (o := ({ dst := some 21, op := Op.load 24 (Operand.tmp 20), type := 24, pos := "wordlocks.go:92", after := #[{ on := 5, ground := Ground.data }], guard := none } : Oper)) rfl (fun Kq hKq => ?_) AllReadyH.nil
  go_simp
  refine hKq.out _ _ ?_ (fun hHeld => ?_)
  · exact hHeld
  clear hKq Kq
  (try simp only [Act.put, List.setIfInBounds_toArray, List.set_cons_zero, List.set_cons_succ])
  refine wpAnyH_ready (rs := [9]) (by kernel_rfl) (by simp) ?_
  refine AllReadyH.cons (o := ({ dst := some 24, op := Op.call { callee := Callee.value (Operand.func 34), args := #[Operand.tmp 15, Operand.tmp 16, Operand.tmp 17, Operand.tmp 21, Operand.tmp 23], argTypes := #[67, 40, 22, 24, 24] }, type := 4, pos := "wordlocks.go:92", after := #[{ on := 0, ground := Ground.data }, { on := 1, ground := Ground.data }, { on := 2, ground := Ground.data }, { on := 6, ground := Ground.data }, { on := 8, ground := Ground.data }, { on := 8, ground := Ground.chain }], guard := none } : Oper)) rfl (fun Kq hKq => ?_) AllReadyH.nil
  go_simp
  (refine HSW.out.mono ?_; rintro e w5 ⟨rfl, X5, h5⟩)
  refine hKq.out _ _ ?_ (fun hHeld => ?_)
  · (have hl := (h5.dropB HJ2.out).last HJ.out; have hl2 := h5.last HJ2.out; exact ⟨cell_row hl 0, cell_row hl 1, cell_row hl2 0, cell_row hl2 1, cell_row hl2 2⟩)
  clear hKq Kq
  (try simp only [Act.put, List.setIfInBounds_toArray, List.set_cons_zero, List.set_cons_succ])
  refine wpAnyH_done (by kernel_rfl) ?_ _
  have h7 := (h5.dropB HJ2.out)
  have hl := h7.last HJ.out
  have k0 := cell_row hl 0; have k1 := cell_row hl 1
  simp only [List.getElem?_toArray, List.getElem?_cons_zero, List.getElem?_cons_succ] at k0 k1
  clear hl hHeld c1 h5
  go_upto_if 24 with fail
  by_cases e : x = K.st
  · rw [decide_eq_true e]
    have hk2 : K.cas x K.st K = K := if_pos e
    rw [hk2] at h7
    have c0 := h7.b0; have z0 := h7.fz 0; have c3 := h7.b3; have z3 := h7.fz 3
    have HK := Lib.hid (show K.cas x K.st { K with ln := 6 } = { K with ln := 6 } from if_pos e); have H5 := Lib.hid h7
    clear hk2 e h7 HSW HSWW
    go_wp2_with fail
    go_end0
    exact ⟨rfl, X5, by rw [HK.out]; exact (H5.out.next2 6 _ rfl true rfl).dropB HJ.out⟩
  · rw [decide_eq_false e]
    have HK := Lib.hid (show K.cas x K.st { K with ln := 6 } = K.cas x K.st K from (if_neg e).trans (if_neg e).symm); have H5 := Lib.hid h7
    clear e h7 HSW HSWW
    go_wp2_with fail
    go_end0
    exact ⟨rfl, X5, by rw [HK.out]; exact H5.out.dropB HJ.out⟩
end
end Go.Proofs.Ytdfnobdladiicaa.S13
namespace Go.Proofs.Ytdfnobdladiicaa.S13
open Go.Proofs.Ytdfnobdladiicaa Go.Proofs.Ytdfnobdladiicaa.S11 Go.Proofs.Ytdfnobdladiicaa.S12
open Go.RowKit

theorem field_hd (a b : Bool) (h : Int) (w : World) : (Instr.field 27 (.agg #[.bool a, .bool b, .int .i64 h]) 2).run Try.prog w = .ok (.int .i64 h) w := by kernel_rfl

section
variable {w0 w w' : World} {base WB : Nat} {M : Sd} {r : List Part} {j B : Nat} {K : Lk} {X : Wm}
set_option maxRecDepth 100000 in
set_option maxHeartbeats 4000000 in
theorem look_l (h : Wl w0 w base WB M r j B K X) (ok : LkOk M K) (hl : K.ln = 3) : Calls Try.prog 50 #[askV K.t K.a, Pw B, Pw WB] w fun e w' => e = .returned (.tuple #[]) ∧ Stepped w0 w' base WB M r j B K := by
  unfold Stepped
  rw [show stepM M K = _ from by simp only [stepM, hl]; rfl, show stepK M K = _ from by simp only [stepK, hl]; rfl]
  have hj := h.hj
  have hA := h.pushB (.cells #[.int .i64 (K.t : Int), .int .u32 (K.a : Int)] 67)
  have k0 := cell_row (heap_alloc_new w (.cells #[.int .i64 (K.t : Int), .int .u32 (K.a : Int)] 67)) 0; have k1 := cell_row (heap_alloc_new w (.cells #[.int .i64 (K.t : Int), .int .u32 (K.a : Int)] 67)) 1
  simp only [List.getElem?_toArray, List.getElem?_cons_zero, List.getElem?_cons_succ] at k0 k1
  obtain ⟨Q, hQ⟩ : ∃ Q, Q = w.heap.size := ⟨_, rfl⟩
  rw [← hQ] at hA k0 k1
  have HA := Lib.hid hA; have HJ := Lib.hid hj; have HQ := Lib.hid hQ
  obtain ⟨x, hx⟩ : ∃ x, x = S2.look M.L K.a := ⟨_, rfl⟩
  have hxl : x < 18446744073709551616 := by rw [hx]; exact hA.look K.a
  have HC := Lib.hid ((hA.new (Below.refl _ _).drew).pg.load ok.a ok.n)
  rw [← hx] at HC ⊢
  have HTT : Hid (∀ W M' X', Wl w0 W base WB M' (r ++ [blockP Q (.cells #[.int .i64 (K.t : Int), .int .u32 (K.a : Int)] 67)]) j B K X' → Calls Try.prog 42 #[askV K.t K.a, Pw B, .int .u64 (x : Int)] W fun e w' => e = .returned (.tuple #[]) ∧ Wl w0 w' base WB M' (r ++ [blockP Q (.cells #[.int .i64 (K.t : Int), .int .u32 (K.a : Int)] 67)]) j B (K.turn x) X') := Lib.hid (fun W M' X' hW => turn_l hW (by omega) (by have := ok.sp; omega) hxl)
  clear hx hxl ok hl
  clear h hj hQ
  go_enter Try.func50, Try.ntmps50
  go_upto_region 1 with (fail)
  rw [← HQ.out]
  generalize w.alloc (.cells #[.int .i64 (K.t : Int), .int .u32 (K.a : Int)] 67) = w1 at *
  have HF : Hid ((fun w' => w'.cell? ⟨Q, 0, none⟩ = some (.int .i64 (K.t : Int)) ∧ w'.cell? ⟨Q, 1, none⟩ = some (.int .u32 (K.a : Int)) ∧ w'.cell? ⟨WB, 0, none⟩ = some (Pw X.cB)) w1.drew) := Lib.hid ⟨k0, k1, HA.out.pg.c.1⟩
  clear hA
  refine wp_region_held_drew (S := fun w' => w'.cell? ⟨Q, 0, none⟩ = some (.int .i64 (K.t : Int)) ∧ w'.cell? ⟨Q, 1, none⟩ = some (.int .u32 (K.a : Int)) ∧ w'.cell? ⟨WB, 0, none⟩ = some (Pw X.cB)) (by kernel_rfl) ?_ (fun hHeld => ?_)
  · exact HF.out
  refine wpAnyH_take (i := 0) (oi := ({ dst := some 6, op := Op.load 67 (Operand.tmp 3), type := 67, pos := "wordlocks.go:78", after := #[], guard := none } : Oper)) (v := ?vkm1) rfl (by kernel_rfl) (by kernel_rfl) (by kernel_rfl) (fun _ _ _ h => h) (Or.inl ⟨by rfl, fun w hSw => ?hykm1⟩) (by assumption) ?rkm1
  case hykm1 => (try dsimp only at hSw); go_simp; (try with_reducible rfl)
  (try simp only [Act.put, List.setIfInBounds_toArray, List.set_cons_zero, List.set_cons_succ])
  refine wpAnyH_take (i := 1) (oi := ({ dst := some 7, op := Op.move (Operand.tmp 1), type := 40, pos := "wordlocks.go:78", after := #[], guard := none } : Oper)) (v := ?vkm2) rfl (by kernel_rfl) (by kernel_rfl) (by kernel_rfl) (fun _ _ _ h => h) (Or.inl ⟨by rfl, fun w hSw => ?hykm2⟩) (by assumption) ?rkm2
  case hykm2 => (try dsimp only at hSw); go_simp; (try with_reducible rfl)
  (try simp only [Act.put, List.setIfInBounds_toArray, List.set_cons_zero, List.set_cons_succ])
  refine wpAnyH_take (i := 2) (oi := ({ dst := some 8, op := Op.move (Operand.tmp 2), type := 22, pos := "wordlocks.go:78", after := #[], guard := none } : Oper)) (v := ?vkm3) rfl (by kernel_rfl) (by kernel_rfl) (by kernel_rfl) (fun _ _ _ h => h) (Or.inl ⟨by rfl, fun w hSw => ?hykm3⟩) (by assumption) ?rkm3
  case hykm3 => (try dsimp only at hSw); go_simp; (try with_reducible rfl)
  (try simp only [Act.put, List.setIfInBounds_toArray, List.set_cons_zero, List.set_cons_succ])
  refine wpAnyH_take (i := 3) (oi := ({ dst := some 9, op := Op.nilCheck (Operand.tmp 8), type := 0, pos := "wordlocks.go:78", after := #[{ on := 2, ground := Ground.data }], guard := none } : Oper)) (v := ?vkm4) rfl (by kernel_rfl) (by kernel_rfl) (by kernel_rfl) (fun _ _ _ h => h) (Or.inl ⟨by rfl, fun w hSw => ?hykm4⟩) (by assumption) ?rkm4
  case hykm4 => (try dsimp only at hSw); go_simp; (try with_reducible rfl)
  (try simp only [Act.put, List.setIfInBounds_toArray, List.set_cons_zero, List.set_cons_succ])
  refine wpAnyH_take (i := 4) (oi := ({ dst := some 10, op := Op.fieldAddr 36 (Operand.tmp 9) 0, type := 0, pos := "wordlocks.go:78", after := #[{ on := 3, ground := Ground.data }], guard := none } : Oper)) (v := ?vkm5) rfl (by kernel_rfl) (by kernel_rfl) (by kernel_rfl) (fun _ _ _ h => h) (Or.inl ⟨by rfl, fun w hSw => ?hykm5⟩) (by assumption) ?rkm5
  case hykm5 => (try dsimp only at hSw); go_simp; (try with_reducible rfl)
  (try simp only [Act.put, List.setIfInBounds_toArray, List.set_cons_zero, List.set_cons_succ])
  refine wpAnyH_take (i := 5) (oi := ({ dst := some 11, op := Op.load 28 (Operand.tmp 10), type := 28, pos := "wordlocks.go:78", after := #[{ on := 4, ground := Ground.data }], guard := none } : Oper)) (v := ?vkm6) rfl (by kernel_rfl) (by kernel_rfl) (by kernel_rfl) (fun _ _ _ h => h) (Or.inl ⟨by rfl, fun w hSw => ?hykm6⟩) (by assumption) ?rkm6
  case hykm6 => (try dsimp only at hSw); go_simp; (try with_reducible rfl)
  (try simp only [Act.put, List.setIfInBounds_toArray, List.set_cons_zero, List.set_cons_succ])
  refine wpAnyH_take (i := 6) (oi := ({ dst := some 12, op := Op.fieldAddr 67 (Operand.tmp 3) 1, type := 0, pos := "wordlocks.go:78", after := #[], guard := none } : Oper)) (v := ?vkm7) rfl (by kernel_rfl) (by kernel_rfl) (by kernel_rfl) (fun _ _ _ h => h) (Or.inl ⟨by rfl, fun w hSw => ?hykm7⟩) (by assumption) ?rkm7
  case hykm7 => (try dsimp only at hSw); go_simp; (try with_reducible rfl)
  (try simp only [Act.put, List.setIfInBounds_toArray, List.set_cons_zero, List.set_cons_succ])
  refine wpAnyH_take (i := 7) (oi := ({ dst := some 13, op := Op.load 39 (Operand.tmp 12), type := 39, pos := "wordlocks.go:78", after := #[{ on := 6, ground := Ground.data }], guard := none } : Oper)) (v := ?vkm8) rfl (by kernel_rfl) (by kernel_rfl) (by kernel_rfl) (fun _ _ _ h => h) (Or.inl ⟨by rfl, fun w hSw => ?hykm8⟩) (by assumption) ?rkm8
  case hykm8 => (try dsimp only at hSw); go_simp; (try with_reducible rfl)
  (try simp only [Act.put, List.setIfInBounds_toArray, List.set_cons_zero, List.set_cons_succ])
  refine wpAnyH_ready (rs := [8]) (by kernel_rfl) (by simp) ?_
  refine AllReadyH.cons (o := ({ dst := some 14, op := Op.call { callee := Callee.value (Operand.func 52), args := #[Operand.tmp 11, Operand.tmp 13], argTypes := #[28, 39] }, type := 24, pos := "wordlocks.go:78", after := #[{ on := 5, ground := Ground.data }, { on := 7, ground := Ground.data }], guard := none } : Oper)) rfl (fun Kq hKq => ?_) AllReadyH.nil
  go_simp
  (refine HC.out.mono ?_; rintro e w3 ⟨rfl, X3, h3g, hcB⟩; have h3 : Wl w0 w3 base WB (M.acc 1 K.a x) (r ++ [blockP Q (.cells #[.int .i64 (K.t : Int), .int .u32 (K.a : Int)] 67)]) j B K X3 := ⟨h3g, HA.out.hj⟩; have HTN := Lib.hid (HTT.out _ _ _ h3); have q3 := h3.pg.c.1; rw [hcB] at q3; have hl := h3.last HJ.out; have HCB := Lib.hid hcB)
  refine hKq.out _ _ ?_ (fun hHeld => ?_)
  · exact ⟨cell_row hl 0, cell_row hl 1, q3⟩
  clear hKq Kq
  (try simp only [Act.put, List.setIfInBounds_toArray, List.set_cons_zero, List.set_cons_succ])
  refine wpAnyH_ready (rs := [9]) (by kernel_rfl) (by simp) ?_
  refine AllReadyH.cons (o := ({ dst := some 15, op := Op.call { callee := Callee.value (Operand.func 42), args := #[Operand.tmp 6, Operand.tmp 7, Operand.tmp 14], argTypes := #[67, 40, 24] }, type := 0, pos := "wordlocks.go:78", after := #[{ on := 0, ground := Ground.data }, { on := 1, ground := Ground.data }, { on := 8, ground := Ground.data }, { on := 8, ground := Ground.chain }], guard := none } : Oper)) rfl (fun Kq hKq => ?_) AllReadyH.nil
  go_simp
  (refine HTN.out.mono ?_; rintro e w4 ⟨rfl, h4⟩; have q4 := h4.pg.c.1; rw [HCB.out] at q4; have hl4 := h4.last HJ.out)
  refine hKq.out _ _ ?_ (fun hHeld => ?_)
  · exact ⟨cell_row hl4 0, cell_row hl4 1, q4⟩
  clear hKq Kq
  (try simp only [Act.put, List.setIfInBounds_toArray, List.set_cons_zero, List.set_cons_succ])
  refine wpAnyH_done (by kernel_rfl) ?_ _
  have H4 := Lib.hid h4
  clear hHeld q3 hl q4 hl4 h3 h3g h4 hcB
  go_wp2_with fail
  go_end0
  exact ⟨rfl, X3, H4.out.dropB HJ.out⟩
set_option maxRecDepth 100000 in
set_option maxHeartbeats 4000000 in
theorem prepare_l (h : Wl w0 w base WB M r j B K X) (ok : LkOk M K) (hl : K.ln = 4) : Calls Try.prog 51 #[askV K.t K.a, Pw B, Pw WB] w fun e w' => e = .returned (.tuple #[]) ∧ Stepped w0 w' base WB M r j B K := by
  unfold Stepped
  rw [show stepM M K = _ from by simp only [stepM, hl]; rfl, show stepK M K = _ from by simp only [stepK, hl]; rfl]
  have hj := h.hj
  have hA := h.pushB (.cells #[.int .i64 (K.t : Int), .int .u32 (K.a : Int)] 67)
  have k0 := cell_row (heap_alloc_new w (.cells #[.int .i64 (K.t : Int), .int .u32 (K.a : Int)] 67)) 0; have k1 := cell_row (heap_alloc_new w (.cells #[.int .i64 (K.t : Int), .int .u32 (K.a : Int)] 67)) 1
  simp only [List.getElem?_toArray, List.getElem?_cons_zero, List.getElem?_cons_succ] at k0 k1
  obtain ⟨Q, hQ⟩ : ∃ Q, Q = w.heap.size := ⟨_, rfl⟩
  rw [← hQ] at hA k0 k1
  have HA := Lib.hid hA; have HJ := Lib.hid hj; have HQ := Lib.hid hQ
  obtain ⟨b0, hb0⟩ : ∃ x, x = S1.bitB K.st 0 := ⟨_, rfl⟩
  obtain ⟨b1, hb1⟩ : ∃ x, x = S1.bitB K.st 1 := ⟨_, rfl⟩
  obtain ⟨hd, hhd⟩ : ∃ x, x = S1.headN K.st := ⟨_, rfl⟩
  have HAS : Hid (∀ W, Calls Try.prog 47 #[.int .u64 (K.st : Int)] W fun e w' => e = .returned (.agg #[.bool b0, .bool b1, .int .i64 hd]) ∧ Below W.heap.size W w') := Lib.hid (fun W => by
    have := S1.as_any K.st ok.st W
    unfold S1.asV at this
    rw [← hb0, ← hb1, ← hhd] at this
    exact this)
  have HT := Lib.hid (fun W => word_any K.t ok.t W)
  have HC := Lib.hid ((hA.new (Below.refl _ _).drew).pg.prep ok.pn (i := 2 * K.t + 1) (by have := ok.t; omega))
  have hnt : S5.Num (K.t : Int) (some K.t) := S5.nm K.t ok.t
  have hnh := num_head K.st
  rw [← hhd] at hnh
  have HPU : Hid (∀ W X', Pg w0 W base WB (M.prep (2 * K.t + 1)) ((r ++ [blockP Q (.cells #[.int .i64 (K.t : Int), .int .u32 (K.a : Int)] 67)]).set j (lockP B K)) X' → Calls Try.prog 54 #[Pw X'.lB, .int .i64 (K.t : Int), .int .i64 hd] W fun e w' => e = .returned (.tuple #[]) ∧ ∃ X'', Pg w0 w' base WB ((M.prep (2 * K.t + 1)).link (S5.pushS (M.prep (2 * K.t + 1)).lk (some K.t) (hdO K.st))) ((r ++ [blockP Q (.cells #[.int .i64 (K.t : Int), .int .u32 (K.a : Int)] 67)]).set j (lockP B K)) X'' ∧ X''.lB = X'.lB) := Lib.hid (fun W X' hW => hW.push hnt hnh)
  have HH6 : Hid (K.ln ≠ 6) := Lib.hid (by omega)
  clear ok hl hb0 hb1 hhd hnt hnh
  clear h hj hQ
  go_enter Try.func51, Try.ntmps51
  go_upto_region 1 with (fail)
  rw [← HQ.out]
  generalize w.alloc (.cells #[.int .i64 (K.t : Int), .int .u32 (K.a : Int)] 67) = w1 at *
  have HF : Hid ((fun w' => w'.cell? ⟨Q, 0, none⟩ = some (.int .i64 (K.t : Int)) ∧ w'.cell? ⟨WB, 2, none⟩ = some (Pw X.pB)) w1.drew) := Lib.hid ⟨k0, HA.out.pg.c.2.1⟩
  clear hA
  refine wp_region_held_drew (S := fun w' => w'.cell? ⟨Q, 0, none⟩ = some (.int .i64 (K.t : Int)) ∧ w'.cell? ⟨WB, 2, none⟩ = some (Pw X.pB)) (by kernel_rfl) ?_ (fun hHeld => ?_)
  · exact HF.out
  refine wpAnyH_take (i := 0) (oi := ({ dst := some 6, op := Op.move (Operand.tmp 2), type := 22, pos := "wordlocks.go:83", after := #[], guard := none } : Oper)) (v := ?vpm1) rfl (by kernel_rfl) (by kernel_rfl) (by kernel_rfl) (fun _ _ _ h => h) (Or.inl ⟨by rfl, fun w hSw => ?hypm1⟩) (by assumption) ?rpm1
  case hypm1 => (try dsimp only at hSw); go_simp; (try with_reducible rfl)
  (try simp only [Act.put, List.setIfInBounds_toArray, List.set_cons_zero, List.set_cons_succ])
  refine wpAnyH_take (i := 1) (oi := ({ dst := some 7, op := Op.nilCheck (Operand.tmp 6), type := 0, pos := "wordlocks.go:83", after := #[{ on := 0, ground := Ground.data }], guard := none } : Oper)) (v := ?vpm2) rfl (by kernel_rfl) (by kernel_rfl) (by kernel_rfl) (fun _ _ _ h => h) (Or.inl ⟨by rfl, fun w hSw => ?hypm2⟩) (by assumption) ?rpm2
  case hypm2 => (try dsimp only at hSw); go_simp; (try with_reducible rfl)
  (try simp only [Act.put, List.setIfInBounds_toArray, List.set_cons_zero, List.set_cons_succ])
  refine wpAnyH_take (i := 2) (oi := ({ dst := some 8, op := Op.fieldAddr 36 (Operand.tmp 7) 2, type := 0, pos := "wordlocks.go:83", after := #[{ on := 1, ground := Ground.data }], guard := none } : Oper)) (v := ?vpm3) rfl (by kernel_rfl) (by kernel_rfl) (by kernel_rfl) (fun _ _ _ h => h) (Or.inl ⟨by rfl, fun w hSw => ?hypm3⟩) (by assumption) ?rpm3
  case hypm3 => (try dsimp only at hSw); go_simp; (try with_reducible rfl)
  (try simp only [Act.put, List.setIfInBounds_toArray, List.set_cons_zero, List.set_cons_succ])
  refine wpAnyH_take (i := 3) (oi := ({ dst := some 9, op := Op.load 30 (Operand.tmp 8), type := 30, pos := "wordlocks.go:83", after := #[{ on := 2, ground := Ground.data }], guard := none } : Oper)) (v := ?vpm4) rfl (by kernel_rfl) (by kernel_rfl) (by kernel_rfl) (fun _ _ _ h => h) (Or.inl ⟨by rfl, fun w hSw => ?hypm4⟩) (by assumption) ?rpm4
  case hypm4 => (try dsimp only at hSw); go_simp; (try with_reducible rfl)
  (try simp only [Act.put, List.setIfInBounds_toArray, List.set_cons_zero, List.set_cons_succ])
  refine wpAnyH_take (i := 4) (oi := ({ dst := some 10, op := Op.fieldAddr 67 (Operand.tmp 3) 0, type := 0, pos := "wordlocks.go:83", after := #[], guard := none } : Oper)) (v := ?vpm5) rfl (by kernel_rfl) (by kernel_rfl) (by kernel_rfl) (fun _ _ _ h => h) (Or.inl ⟨by rfl, fun w hSw => ?hypm5⟩) (by assumption) ?rpm5
  case hypm5 => (try dsimp only at hSw); go_simp; (try with_reducible rfl)
  (try simp only [Act.put, List.setIfInBounds_toArray, List.set_cons_zero, List.set_cons_succ])
  refine wpAnyH_take (i := 5) (oi := ({ dst := some 11, op := Op.load 3 (Operand.tmp 10), type := 3, pos := "wordlocks.go:83", after := #[{ on := 4, ground := Ground.data }], guard := none } : Oper)) (v := ?vpm6) rfl (by kernel_rfl) (by kernel_rfl) (by kernel_rfl) (fun _ _ _ h => h) (Or.inl ⟨by rfl, fun w hSw => ?hypm6⟩) (by assumption) ?rpm6
  case hypm6 => (try dsimp only at hSw); go_simp; (try with_reducible rfl)
  (try simp only [Act.put, List.setIfInBounds_toArray, List.set_cons_zero, List.set_cons_succ])
  refine wpAnyH_ready (rs := [6]) (by kernel_rfl) (by simp) ?_
  refine AllReadyH.cons (o := ({ dst := some 12, op := Op.call { callee := Callee.value (Operand.func 12), args := #[Operand.tmp 11], argTypes := #[3] }, type := 3, pos := "wordlocks.go:83", after := #[{ on := 5, ground := Ground.data }], guard := none } : Oper)) rfl (fun Kq hKq => ?_) AllReadyH.nil
  go_simp
  (refine (HT.out _).mono ?_; rintro e w2 ⟨rfl, rfl⟩)
  refine hKq.out _ _ ?_ (fun hHeld => ?_)
  · exact hHeld
  clear hKq Kq
  (try simp only [Act.put, List.setIfInBounds_toArray, List.set_cons_zero, List.set_cons_succ])
  refine wpAnyH_ready (rs := [7]) (by kernel_rfl) (by simp) ?_
  refine AllReadyH.cons (o := ({ dst := some 13, op := Op.call { callee := Callee.value (Operand.func 53), args := #[Operand.tmp 9, Operand.tmp 12], argTypes := #[30, 3] }, type := 0, pos := "wordlocks.go:83", after := #[{ on := 3, ground := Ground.data }, { on := 6, ground := Ground.data }, { on := 6, ground := Ground.chain }], guard := none } : Oper)) rfl (fun Kq hKq => ?_) AllReadyH.nil
  go_simp
  (refine HC.out.mono ?_; rintro e w3 ⟨rfl, X3, h3g, hpB⟩; have h3 : Wl w0 w3 base WB (M.prep (2 * K.t + 1)) (r ++ [blockP Q (.cells #[.int .i64 (K.t : Int), .int .u32 (K.a : Int)] 67)]) j B K X3 := ⟨h3g, HA.out.hj⟩; have q3 := h3.pg.c.2.1; rw [hpB] at q3; have hl := h3.last HJ.out)
  refine hKq.out _ _ ?_ (fun hHeld => ?_)
  · exact ⟨cell_row hl 0, q3⟩
  clear hKq Kq
  (try simp only [Act.put, List.setIfInBounds_toArray, List.set_cons_zero, List.set_cons_succ])
  refine wpAnyH_done (by kernel_rfl) ?_ _
  clear HF
  have HF : Hid ((fun w' => w'.cell? ⟨Q, 0, none⟩ = some (.int .i64 (K.t : Int)) ∧ w'.cell? ⟨WB, 3, none⟩ = some (Pw X3.lB) ∧ w'.cell? ⟨B, 1, none⟩ = some (.int .u64 (K.st : Int))) w3.drew) := Lib.hid ⟨cell_row hl 0, h3.pg.c.2.2.1, h3.b1⟩
  have H3 := Lib.hid h3
  have hfd := field_hd b0 b1 hd
  clear hHeld q3 hl h3 h3g hpB k0 k1
  go_upto_region 2 with (fail)
  refine wp_region_held_drew (S := fun w' => w'.cell? ⟨Q, 0, none⟩ = some (.int .i64 (K.t : Int)) ∧ w'.cell? ⟨WB, 3, none⟩ = some (Pw X3.lB) ∧ w'.cell? ⟨B, 1, none⟩ = some (.int .u64 (K.st : Int))) (by kernel_rfl) ?_ (fun hHeld => ?_)
  · exact HF.out
  refine wpAnyH_take (i := 0) (oi := ({ dst := some 14, op := Op.move (Operand.tmp 2), type := 22, pos := "wordlocks.go:84", after := #[], guard := none } : Oper)) (v := ?vqm1) rfl (by kernel_rfl) (by kernel_rfl) (by kernel_rfl) (fun _ _ _ h => h) (Or.inl ⟨by rfl, fun w hSw => ?hyqm1⟩) (by assumption) ?rqm1
  case hyqm1 => (try dsimp only at hSw); go_simp; (try with_reducible rfl)
  (try simp only [Act.put, List.setIfInBounds_toArray, List.set_cons_zero, List.set_cons_succ])
  refine wpAnyH_take (i := 1) (oi := ({ dst := some 15, op := Op.nilCheck (Operand.tmp 14), type := 0, pos := "wordlocks.go:84", after := #[{ on := 0, ground := Ground.data }], guard := none } : Oper)) (v := ?vqm2) rfl (by kernel_rfl) (by kernel_rfl) (by kernel_rfl) (fun _ _ _ h => h) (Or.inl ⟨by rfl, fun w hSw => ?hyqm2⟩) (by assumption) ?rqm2
  case hyqm2 => (try dsimp only at hSw); go_simp; (try with_reducible rfl)
  (try simp only [Act.put, List.setIfInBounds_toArray, List.set_cons_zero, List.set_cons_succ])
  refine wpAnyH_take (i := 2) (oi := ({ dst := some 16, op := Op.fieldAddr 36 (Operand.tmp 15) 3, type := 0, pos := "wordlocks.go:84", after := #[{ on := 1, ground := Ground.data }], guard := none } : Oper)) (v := ?vqm3) rfl (by kernel_rfl) (by kernel_rfl) (by kernel_rfl) (fun _ _ _ h => h) (Or.inl ⟨by rfl, fun w hSw => ?hyqm3⟩) (by assumption) ?rqm3
  case hyqm3 => (try dsimp only at hSw); go_simp; (try with_reducible rfl)
  (try simp only [Act.put, List.setIfInBounds_toArray, List.set_cons_zero, List.set_cons_succ])
  refine wpAnyH_take (i := 3) (oi := ({ dst := some 17, op := Op.load 31 (Operand.tmp 16), type := 31, pos := "wordlocks.go:84", after := #[{ on := 2, ground := Ground.data }], guard := none } : Oper)) (v := ?vqm4) rfl (by kernel_rfl) (by kernel_rfl) (by kernel_rfl) (fun _ _ _ h => h) (Or.inl ⟨by rfl, fun w hSw => ?hyqm4⟩) (by assumption) ?rqm4
  case hyqm4 => (try dsimp only at hSw); go_simp; (try with_reducible rfl)
  (try simp only [Act.put, List.setIfInBounds_toArray, List.set_cons_zero, List.set_cons_succ])
  refine wpAnyH_take (i := 4) (oi := ({ dst := some 18, op := Op.fieldAddr 67 (Operand.tmp 3) 0, type := 0, pos := "wordlocks.go:84", after := #[], guard := none } : Oper)) (v := ?vqm5) rfl (by kernel_rfl) (by kernel_rfl) (by kernel_rfl) (fun _ _ _ h => h) (Or.inl ⟨by rfl, fun w hSw => ?hyqm5⟩) (by assumption) ?rqm5
  case hyqm5 => (try dsimp only at hSw); go_simp; (try with_reducible rfl)
  (try simp only [Act.put, List.setIfInBounds_toArray, List.set_cons_zero, List.set_cons_succ])
  refine wpAnyH_take (i := 5) (oi := ({ dst := some 19, op := Op.load 3 (Operand.tmp 18), type := 3, pos := "wordlocks.go:84", after := #[{ on := 4, ground := Ground.data }], guard := none } : Oper)) (v := ?vqm6) rfl (by kernel_rfl) (by kernel_rfl) (by kernel_rfl) (fun _ _ _ h => h) (Or.inl ⟨by rfl, fun w hSw => ?hyqm6⟩) (by assumption) ?rqm6
  case hyqm6 => (try dsimp only at hSw); go_simp; (try with_reducible rfl)
  (try simp only [Act.put, List.setIfInBounds_toArray, List.set_cons_zero, List.set_cons_succ])
  refine wpAnyH_take (i := 6) (oi := ({ dst := some 20, op := Op.move (Operand.tmp 1), type := 40, pos := "wordlocks.go:84", after := #[], guard := none } : Oper)) (v := ?vqm7) rfl (by kernel_rfl) (by kernel_rfl) (by kernel_rfl) (fun _ _ _ h => h) (Or.inl ⟨by rfl, fun w hSw => ?hyqm7⟩) (by assumption) ?rqm7
  case hyqm7 => (try dsimp only at hSw); go_simp; (try with_reducible rfl)
  (try simp only [Act.put, List.setIfInBounds_toArray, List.set_cons_zero, List.set_cons_succ])
  refine wpAnyH_take (i := 7) (oi := ({ dst := some 21, op := Op.nilCheck (Operand.tmp 20), type := 0, pos := "wordlocks.go:84", after := #[{ on := 6, ground := Ground.data }], guard := none } : Oper)) (v := ?vqm8) rfl (by kernel_rfl) (by kernel_rfl) (by kernel_rfl) (fun _ _ _ h => h) (Or.inl ⟨by rfl, fun w hSw => ?hyqm8⟩) (by assumption) ?rqm8
  case hyqm8 => (try dsimp only at hSw); go_simp; (try with_reducible rfl)
  (try simp only [Act.put, List.setIfInBounds_toArray, List.set_cons_zero, List.set_cons_succ])
  refine wpAnyH_take (i := 8) (oi := ({ dst := some 22, op := Op.fieldAddr 65 (Operand.tmp 21) 1, type := 0, pos := "wordlocks.go:84", after := #[{ on := 7, ground := Ground.data }], guard := none } : Oper)) (v := ?vqm9) rfl (by kernel_rfl) (by kernel_rfl) (by kernel_rfl) (fun _ _ _ h => h) (Or.inl ⟨by rfl, fun w hSw => ?hyqm9⟩) (by assumption) ?rqm9
  case hyqm9 => (try dsimp only at hSw); go_simp; (try with_reducible rfl)
  (try simp only [Act.put, List.setIfInBounds_toArray, List.set_cons_zero, List.set_cons_succ])
  refine wpAnyH_take (i := 9) (oi := ({ dst := some 23, op := Op.load 24 (Operand.tmp 22), type := 24, pos := "wordlocks.go:84", after := #[{ on := 8, ground := Ground.data }], guard := none } : Oper)) (v := ?vqm10) rfl (by kernel_rfl) (by kernel_rfl) (by kernel_rfl) (fun _ _ _ h => h) (Or.inl ⟨by rfl, fun w hSw => ?hyqm10⟩) (by assumption) ?rqm10
  case hyqm10 => (try dsimp only at hSw); go_simp; (try with_reducible rfl)
  (try simp only [Act.put, List.setIfInBounds_toArray, List.set_cons_zero, List.set_cons_succ])
  refine wpAnyH_ready (rs := [10]) (by kernel_rfl) (by simp) ?_
  refine AllReadyH.cons (o := ({ dst := some 24, op := Op.call { callee := Callee.value (Operand.func 47), args := #[Operand.tmp 23], argTypes := #[24] }, type := 27, pos := "wordlocks.go:84", after := #[{ on := 9, ground := Ground.data }], guard := none } : Oper)) rfl (fun Kq hKq => ?_) AllReadyH.nil
  go_simp
  (refine (HAS.out _).mono ?_; rintro e w4 ⟨rfl, hb4⟩; have HPQ := Lib.hid (HPU.out w4 X3 ((H3.out.new (Below.refl _ _).drew).new hb4).pg))
  refine hKq.out _ _ ?_ (fun hHeld => ?_)
  · exact ⟨bcell hb4 hHeld.1, bcell hb4 hHeld.2.1, bcell hb4 hHeld.2.2⟩
  clear hKq Kq
  (try simp only [Act.put, List.setIfInBounds_toArray, List.set_cons_zero, List.set_cons_succ])
  refine wpAnyH_take (i := 11) (oi := ({ dst := some 25, op := Op.field 27 (Operand.tmp 24) 2, type := 3, pos := "wordlocks.go:84", after := #[{ on := 10, ground := Ground.data }], guard := none } : Oper)) (v := ?vqm11) rfl (by kernel_rfl) (by kernel_rfl) (by kernel_rfl) (fun _ _ _ h => h) (Or.inl ⟨by rfl, fun w hSw => ?hyqm11⟩) (by assumption) ?rqm11
  case hyqm11 => (try dsimp only at hSw); go_simp; (try with_reducible rfl)
  (try simp only [Act.put, List.setIfInBounds_toArray, List.set_cons_zero, List.set_cons_succ])
  refine wpAnyH_ready (rs := [12]) (by kernel_rfl) (by simp) ?_
  refine AllReadyH.cons (o := ({ dst := some 26, op := Op.call { callee := Callee.value (Operand.func 54), args := #[Operand.tmp 17, Operand.tmp 19, Operand.tmp 25], argTypes := #[31, 3, 3] }, type := 0, pos := "wordlocks.go:84", after := #[{ on := 3, ground := Ground.data }, { on := 5, ground := Ground.data }, { on := 11, ground := Ground.data }, { on := 10, ground := Ground.chain }], guard := none } : Oper)) rfl (fun Kq hKq => ?_) AllReadyH.nil
  go_simp
  (refine HPQ.out.mono ?_; rintro e w5 ⟨rfl, X5, h5g, hlB⟩; have h5 : Wl w0 w5 base WB ((M.prep (2 * K.t + 1)).link (S5.pushS (M.prep (2 * K.t + 1)).lk (some K.t) (hdO K.st))) (r ++ [blockP Q (.cells #[.int .i64 (K.t : Int), .int .u32 (K.a : Int)] 67)]) j B K X5 := ⟨h5g, HA.out.hj⟩; have q5 := h5.pg.c.2.2.1; rw [hlB] at q5; have hl5 := h5.last HJ.out; have b5 := h5.b1)
  refine hKq.out _ _ ?_ (fun hHeld => ?_)
  · exact ⟨cell_row hl5 0, q5, b5⟩
  clear hKq Kq
  (try simp only [Act.put, List.setIfInBounds_toArray, List.set_cons_zero, List.set_cons_succ])
  refine wpAnyH_done (by kernel_rfl) ?_ _
  have k0 := cell_row hl5 0; have k1 := cell_row hl5 1
  simp only [List.getElem?_toArray, List.getElem?_cons_zero, List.getElem?_cons_succ] at k0 k1
  have c0 := h5.b0; have z0 := h5.fz 0
  have H5 := Lib.hid h5
  clear hHeld q5 hl5 b5 h5 h5g hlB hb4 HF
  go_wp2_with fail
  go_end0
  exact ⟨rfl, X5, (H5.out.next HH6.out 5 (by decide) _ rfl).dropB HJ.out⟩
set_option maxRecDepth 100000 in
set_option maxHeartbeats 4000000 in
theorem park_l (h : Wl w0 w base WB M r j B K X) (ok : LkOk M K) (hl : K.ln = 6) : Calls Try.prog 58 #[askV K.t K.a, Pw B, Pw WB] w fun e w' => e = .returned (.tuple #[]) ∧ Stepped w0 w' base WB M r j B K := by
  unfold Stepped
  rw [show stepM M K = _ from by simp only [stepM, hl]; rfl, show stepK M K = _ from by simp only [stepK, hl]; rfl]
  have hj := h.hj
  have hA := h.pushB (.cells #[.int .i64 (K.t : Int), .int .u32 (K.a : Int)] 67)
  have k0 := cell_row (heap_alloc_new w (.cells #[.int .i64 (K.t : Int), .int .u32 (K.a : Int)] 67)) 0; have k1 := cell_row (heap_alloc_new w (.cells #[.int .i64 (K.t : Int), .int .u32 (K.a : Int)] 67)) 1
  simp only [List.getElem?_toArray, List.getElem?_cons_zero, List.getElem?_cons_succ] at k0 k1
  obtain ⟨Q, hQ⟩ : ∃ Q, Q = w.heap.size := ⟨_, rfl⟩
  rw [← hQ] at hA k0 k1
  have HA := Lib.hid hA; have HJ := Lib.hid hj; have HQ := Lib.hid hQ
  obtain ⟨g, hg⟩ : ∃ g, g = (M.pf (2 * K.t + 1)).p := ⟨_, rfl⟩
  have HT := Lib.hid (fun W => word_any K.t ok.t W)
  have HC := Lib.hid ((hA.new (Below.refl _ _).drew).pg.park ok.pn (i := 2 * K.t + 1) (by have := ok.t; omega))
  rw [← hg] at HC ⊢
  have H6 := Lib.hid hl
  clear ok hl hg
  clear h hj hQ
  go_enter Try.func58, Try.ntmps58
  go_upto_region 1 with (fail)
  rw [← HQ.out]
  generalize w.alloc (.cells #[.int .i64 (K.t : Int), .int .u32 (K.a : Int)] 67) = w1 at *
  have HF : Hid ((fun w' => w'.cell? ⟨Q, 0, none⟩ = some (.int .i64 (K.t : Int)) ∧ w'.cell? ⟨WB, 2, none⟩ = some (Pw X.pB)) w1.drew) := Lib.hid ⟨k0, HA.out.pg.c.2.1⟩
  clear hA
  cases g
  · refine wp_region_held_drew (S := fun w' => w'.cell? ⟨Q, 0, none⟩ = some (.int .i64 (K.t : Int)) ∧ w'.cell? ⟨WB, 2, none⟩ = some (Pw X.pB)) (by kernel_rfl) ?_ (fun hHeld => ?_)
    · exact HF.out
    refine wpAnyH_take (i := 0) (oi := ({ dst := some 6, op := Op.move (Operand.tmp 2), type := 22, pos := "wordlocks.go:99", after := #[], guard := none } : Oper)) (v := ?vum1) rfl (by kernel_rfl) (by kernel_rfl) (by kernel_rfl) (fun _ _ _ h => h) (Or.inl ⟨by rfl, fun w hSw => ?hyum1⟩) (by assumption) ?rum1
    case hyum1 => (try dsimp only at hSw); go_simp; (try with_reducible rfl)
    (try simp only [Act.put, List.setIfInBounds_toArray, List.set_cons_zero, List.set_cons_succ])
    refine wpAnyH_take (i := 1) (oi := ({ dst := some 7, op := Op.nilCheck (Operand.tmp 6), type := 0, pos := "wordlocks.go:99", after := #[{ on := 0, ground := Ground.data }], guard := none } : Oper)) (v := ?vum2) rfl (by kernel_rfl) (by kernel_rfl) (by kernel_rfl) (fun _ _ _ h => h) (Or.inl ⟨by rfl, fun w hSw => ?hyum2⟩) (by assumption) ?rum2
    case hyum2 => (try dsimp only at hSw); go_simp; (try with_reducible rfl)
    (try simp only [Act.put, List.setIfInBounds_toArray, List.set_cons_zero, List.set_cons_succ])
    refine wpAnyH_take (i := 2) (oi := ({ dst := some 8, op := Op.fieldAddr 36 (Operand.tmp 7) 2, type := 0, pos := "wordlocks.go:99", after := #[{ on := 1, ground := Ground.data }], guard := none } : Oper)) (v := ?vum3) rfl (by kernel_rfl) (by kernel_rfl) (by kernel_rfl) (fun _ _ _ h => h) (Or.inl ⟨by rfl, fun w hSw => ?hyum3⟩) (by assumption) ?rum3
    case hyum3 => (try dsimp only at hSw); go_simp; (try with_reducible rfl)
    (try simp only [Act.put, List.setIfInBounds_toArray, List.set_cons_zero, List.set_cons_succ])
    refine wpAnyH_take (i := 3) (oi := ({ dst := some 9, op := Op.load 30 (Operand.tmp 8), type := 30, pos := "wordlocks.go:99", after := #[{ on := 2, ground := Ground.data }], guard := none } : Oper)) (v := ?vum4) rfl (by kernel_rfl) (by kernel_rfl) (by kernel_rfl) (fun _ _ _ h => h) (Or.inl ⟨by rfl, fun w hSw => ?hyum4⟩) (by assumption) ?rum4
    case hyum4 => (try dsimp only at hSw); go_simp; (try with_reducible rfl)
    (try simp only [Act.put, List.setIfInBounds_toArray, List.set_cons_zero, List.set_cons_succ])
    refine wpAnyH_take (i := 4) (oi := ({ dst := some 10, op := Op.fieldAddr 67 (Operand.tmp 3) 0, type := 0, pos := "wordlocks.go:99", after := #[], guard := none } : Oper)) (v := ?vum5) rfl (by kernel_rfl) (by kernel_rfl) (by kernel_rfl) (fun _ _ _ h => h) (Or.inl ⟨by rfl, fun w hSw => ?hyum5⟩) (by assumption) ?rum5
    case hyum5 => (try dsimp only at hSw); go_simp; (try with_reducible rfl)
    (try simp only [Act.put, List.setIfInBounds_toArray, List.set_cons_zero, List.set_cons_succ])
    refine wpAnyH_take (i := 5) (oi := ({ dst := some 11, op := Op.load 3 (Operand.tmp 10), type := 3, pos := "wordlocks.go:99", after := #[{ on := 4, ground := Ground.data }], guard := none } : Oper)) (v := ?vum6) rfl (by kernel_rfl) (by kernel_rfl) (by kernel_rfl) (fun _ _ _ h => h) (Or.inl ⟨by rfl, fun w hSw => ?hyum6⟩) (by assumption) ?rum6
    case hyum6 => (try dsimp only at hSw); go_simp; (try with_reducible rfl)
    (try simp only [Act.put, List.setIfInBounds_toArray, List.set_cons_zero, List.set_cons_succ])
    refine wpAnyH_ready (rs := [6]) (by kernel_rfl) (by simp) ?_
    refine AllReadyH.cons (o := ({ dst := some 12, op := Op.call { callee := Callee.value (Operand.func 12), args := #[Operand.tmp 11], argTypes := #[3] }, type := 3, pos := "wordlocks.go:99", after := #[{ on := 5, ground := Ground.data }], guard := none } : Oper)) rfl (fun Kq hKq => ?_) AllReadyH.nil
    go_simp
    (refine (HT.out _).mono ?_; rintro e w2 ⟨rfl, rfl⟩)
    refine hKq.out _ _ ?_ (fun hHeld => ?_)
    · exact hHeld
    clear hKq Kq
    (try simp only [Act.put, List.setIfInBounds_toArray, List.set_cons_zero, List.set_cons_succ])
    refine wpAnyH_ready (rs := [7]) (by kernel_rfl) (by simp) ?_
    refine AllReadyH.cons (o := ({ dst := some 13, op := Op.call { callee := Callee.value (Operand.func 59), args := #[Operand.tmp 9, Operand.tmp 12], argTypes := #[30, 3] }, type := 133, pos := "wordlocks.go:99", after := #[{ on := 3, ground := Ground.data }, { on := 6, ground := Ground.data }, { on := 6, ground := Ground.chain }], guard := none } : Oper)) rfl (fun Kq hKq => ?_) AllReadyH.nil
    go_simp
    (refine HC.out.mono ?_; rintro e w3 ⟨rfl, X3, h3g, hpB⟩; have h3 : Wl w0 w3 base WB (M.park (2 * K.t + 1)) (r ++ [blockP Q (.cells #[.int .i64 (K.t : Int), .int .u32 (K.a : Int)] 67)]) j B K X3 := ⟨h3g, HA.out.hj⟩; have q3 := h3.pg.c.2.1; rw [hpB] at q3; have hl := h3.last HJ.out)
    refine hKq.out _ _ ?_ (fun hHeld => ?_)
    · exact ⟨cell_row hl 0, q3⟩
    clear hKq Kq
    (try simp only [Act.put, List.setIfInBounds_toArray, List.set_cons_zero, List.set_cons_succ])
    refine wpAnyH_take (i := 8) (oi := ({ dst := some 14, op := Op.binOp BinOp.neq 133 (Operand.tmp 13) (Operand.const (Value.int IntKind.u8 1)) 133, type := 4, pos := "wordlocks.go:99", after := #[{ on := 7, ground := Ground.data }], guard := none } : Oper)) (v := ?vum7) rfl (by kernel_rfl) (by kernel_rfl) (by kernel_rfl) (fun _ _ _ h => h) (Or.inl ⟨by rfl, fun w hSw => ?hyum7⟩) (by assumption) ?rum7
    case hyum7 => (try dsimp only at hSw); go_simp; (try with_reducible rfl)
    (try simp only [Act.put, List.setIfInBounds_toArray, List.set_cons_zero, List.set_cons_succ])
    refine wpAnyH_done (by kernel_rfl) ?_ _
    have H3 := Lib.hid h3
    clear hHeld q3 hl h3 h3g hpB HF k0 k1
    go_wp2_with fail
    (try simp only [Exit.inBlock, Exit.then])
    refine bodyPost_ret (results_none rfl _ _ _) rfl ⟨rfl, X3, H3.out.dropB HJ.out⟩
  · refine wp_region_held_drew (S := fun w' => w'.cell? ⟨Q, 0, none⟩ = some (.int .i64 (K.t : Int)) ∧ w'.cell? ⟨WB, 2, none⟩ = some (Pw X.pB)) (by kernel_rfl) ?_ (fun hHeld => ?_)
    · exact HF.out
    refine wpAnyH_take (i := 0) (oi := ({ dst := some 6, op := Op.move (Operand.tmp 2), type := 22, pos := "wordlocks.go:99", after := #[], guard := none } : Oper)) (v := ?vvm1) rfl (by kernel_rfl) (by kernel_rfl) (by kernel_rfl) (fun _ _ _ h => h) (Or.inl ⟨by rfl, fun w hSw => ?hyvm1⟩) (by assumption) ?rvm1
    case hyvm1 => (try dsimp only at hSw); go_simp; (try with_reducible rfl)
    (try simp only [Act.put, List.setIfInBounds_toArray, List.set_cons_zero, List.set_cons_succ])
    refine wpAnyH_take (i := 1) (oi := ({ dst := some 7, op := Op.nilCheck (Operand.tmp 6), type := 0, pos := "wordlocks.go:99", after := #[{ on := 0, ground := Ground.data }], guard := none } : Oper)) (v := ?vvm2) rfl (by kernel_rfl) (by kernel_rfl) (by kernel_rfl) (fun _ _ _ h => h) (Or.inl ⟨by rfl, fun w hSw => ?hyvm2⟩) (by assumption) ?rvm2
    case hyvm2 => (try dsimp only at hSw); go_simp; (try with_reducible rfl)
    (try simp only [Act.put, List.setIfInBounds_toArray, List.set_cons_zero, List.set_cons_succ])
    refine wpAnyH_take (i := 2) (oi := ({ dst := some 8, op := Op.fieldAddr 36 (Operand.tmp 7) 2, type := 0, pos := "wordlocks.go:99", after := #[{ on := 1, ground := Ground.data }], guard := none } : Oper)) (v := ?vvm3) rfl (by kernel_rfl) (by kernel_rfl) (by kernel_rfl) (fun _ _ _ h => h) (Or.inl ⟨by rfl, fun w hSw => ?hyvm3⟩) (by assumption) ?rvm3
    case hyvm3 => (try dsimp only at hSw); go_simp; (try with_reducible rfl)
    (try simp only [Act.put, List.setIfInBounds_toArray, List.set_cons_zero, List.set_cons_succ])
    refine wpAnyH_take (i := 3) (oi := ({ dst := some 9, op := Op.load 30 (Operand.tmp 8), type := 30, pos := "wordlocks.go:99", after := #[{ on := 2, ground := Ground.data }], guard := none } : Oper)) (v := ?vvm4) rfl (by kernel_rfl) (by kernel_rfl) (by kernel_rfl) (fun _ _ _ h => h) (Or.inl ⟨by rfl, fun w hSw => ?hyvm4⟩) (by assumption) ?rvm4
    case hyvm4 => (try dsimp only at hSw); go_simp; (try with_reducible rfl)
    (try simp only [Act.put, List.setIfInBounds_toArray, List.set_cons_zero, List.set_cons_succ])
    refine wpAnyH_take (i := 4) (oi := ({ dst := some 10, op := Op.fieldAddr 67 (Operand.tmp 3) 0, type := 0, pos := "wordlocks.go:99", after := #[], guard := none } : Oper)) (v := ?vvm5) rfl (by kernel_rfl) (by kernel_rfl) (by kernel_rfl) (fun _ _ _ h => h) (Or.inl ⟨by rfl, fun w hSw => ?hyvm5⟩) (by assumption) ?rvm5
    case hyvm5 => (try dsimp only at hSw); go_simp; (try with_reducible rfl)
    (try simp only [Act.put, List.setIfInBounds_toArray, List.set_cons_zero, List.set_cons_succ])
    refine wpAnyH_take (i := 5) (oi := ({ dst := some 11, op := Op.load 3 (Operand.tmp 10), type := 3, pos := "wordlocks.go:99", after := #[{ on := 4, ground := Ground.data }], guard := none } : Oper)) (v := ?vvm6) rfl (by kernel_rfl) (by kernel_rfl) (by kernel_rfl) (fun _ _ _ h => h) (Or.inl ⟨by rfl, fun w hSw => ?hyvm6⟩) (by assumption) ?rvm6
    case hyvm6 => (try dsimp only at hSw); go_simp; (try with_reducible rfl)
    (try simp only [Act.put, List.setIfInBounds_toArray, List.set_cons_zero, List.set_cons_succ])
    refine wpAnyH_ready (rs := [6]) (by kernel_rfl) (by simp) ?_
    refine AllReadyH.cons (o := ({ dst := some 12, op := Op.call { callee := Callee.value (Operand.func 12), args := #[Operand.tmp 11], argTypes := #[3] }, type := 3, pos := "wordlocks.go:99", after := #[{ on := 5, ground := Ground.data }], guard := none } : Oper)) rfl (fun Kq hKq => ?_) AllReadyH.nil
    go_simp
    (refine (HT.out _).mono ?_; rintro e w2 ⟨rfl, rfl⟩)
    refine hKq.out _ _ ?_ (fun hHeld => ?_)
    · exact hHeld
    clear hKq Kq
    (try simp only [Act.put, List.setIfInBounds_toArray, List.set_cons_zero, List.set_cons_succ])
    refine wpAnyH_ready (rs := [7]) (by kernel_rfl) (by simp) ?_
    refine AllReadyH.cons (o := ({ dst := some 13, op := Op.call { callee := Callee.value (Operand.func 59), args := #[Operand.tmp 9, Operand.tmp 12], argTypes := #[30, 3] }, type := 133, pos := "wordlocks.go:99", after := #[{ on := 3, ground := Ground.data }, { on := 6, ground := Ground.data }, { on := 6, ground := Ground.chain }], guard := none } : Oper)) rfl (fun Kq hKq => ?_) AllReadyH.nil
    go_simp
    (refine HC.out.mono ?_; rintro e w3 ⟨rfl, X3, h3g, hpB⟩; have h3 : Wl w0 w3 base WB (M.park (2 * K.t + 1)) (r ++ [blockP Q (.cells #[.int .i64 (K.t : Int), .int .u32 (K.a : Int)] 67)]) j B K X3 := ⟨h3g, HA.out.hj⟩; have q3 := h3.pg.c.2.1; rw [hpB] at q3; have hl := h3.last HJ.out)
    refine hKq.out _ _ ?_ (fun hHeld => ?_)
    · exact ⟨cell_row hl 0, q3⟩
    clear hKq Kq
    (try simp only [Act.put, List.setIfInBounds_toArray, List.set_cons_zero, List.set_cons_succ])
    refine wpAnyH_take (i := 8) (oi := ({ dst := some 14, op := Op.binOp BinOp.neq 133 (Operand.tmp 13) (Operand.const (Value.int IntKind.u8 1)) 133, type := 4, pos := "wordlocks.go:99", after := #[{ on := 7, ground := Ground.data }], guard := none } : Oper)) (v := ?vvm7) rfl (by kernel_rfl) (by kernel_rfl) (by kernel_rfl) (fun _ _ _ h => h) (Or.inl ⟨by rfl, fun w hSw => ?hyvm7⟩) (by assumption) ?rvm7
    case hyvm7 => (try dsimp only at hSw); go_simp; (try with_reducible rfl)
    (try simp only [Act.put, List.setIfInBounds_toArray, List.set_cons_zero, List.set_cons_succ])
    refine wpAnyH_done (by kernel_rfl) ?_ _
    have HBG := Lib.hid (begin_l h3)
    clear hHeld q3 hl h3 h3g hpB HF k0 k1
    go_upto_region 3 with (go_at_call 33; refine HBG.out.mono ?_; rintro e w4 ⟨rfl, h4⟩)
    have hl := h4.last HJ.out
    have k0 := cell_row hl 0; have k1 := cell_row hl 1
    simp only [List.getElem?_toArray, List.getElem?_cons_zero, List.getElem?_cons_succ] at k0 k1
    have c0 := h4.b0; have z0 := h4.fz 0; have c3 := h4.b3; have z3 := h4.fz 3
    have H4 := Lib.hid h4
    clear hl h4 HBG
    go_wp2_with fail
    go_end0
    exact ⟨rfl, X3, (H4.out.next2 3 _ rfl false rfl).dropB HJ.out⟩
end
end Go.Proofs.Ytdfnobdladiicaa.S13
namespace Go.Proofs.Ytdfnobdladiicaa.S13
open Go.Proofs.Ytdfnobdladiicaa Go.Proofs.Ytdfnobdladiicaa.S11 Go.Proofs.Ytdfnobdladiicaa.S12
open Go.RowKit

theorem over_nil (w : World) : Calls Try.prog 19 #[.pointer none] w fun e w' => e = .returned (.bool true) ∧ w = w' := by
  go_enter Try.func19, Try.ntmps19
  go_wp2_with fail
  go_ret
  exact ⟨rfl, rfl⟩
theorem waits_nil (w : World) : Calls Try.prog 9 #[.pointer none] w fun e w' => e = .returned (.bool false) ∧ w = w' := by
  go_enter Try.func9, Try.ntmps9
  go_wp2_with fail
  go_ret
  exact ⟨rfl, rfl⟩
theorem eqlN (w : World) : (binOp .eql 61 .nilFunc .nilFunc).run Try.prog w = .ok (.bool true) w := by kernel_rfl
theorem eqlF (f : Fn) (x y : Array Value) (w : World) : (binOp .eql 61 (.func f x y) .nilFunc).run Try.prog w = .ok (.bool false) w := by kernel_rfl
/-- What a lock in memory is. -/
def LkAt (w : World) (B : Nat) (K : Lk) : Prop := w.heap[B]? = some (.cells K.cs 65 (0, 0))
set_option maxRecDepth 100000 in
theorem over_any {w : World} {B : Nat} {K : Lk} (h : LkAt w B K) (h6 : K.ln ≤ 6) : Calls Try.prog 19 #[Pw B] w fun e w' => e = .returned (.bool (decide (K.ln = 0))) ∧ w = w' := by
  have c0 : w.cell? ⟨B, 0, none⟩ = some (nxV K.t K.a K.ln) := cell_row h 0
  obtain ⟨n, hn⟩ : ∃ n, n = K.ln := ⟨_, rfl⟩
  rw [← hn] at c0 h6 ⊢
  clear h hn
  match n, h6 with
  | 0, _ =>
    simp only [nxV] at c0
    have he1 := eqlN
    have he2 := eqlF
    go_enter Try.func19, Try.ntmps19
    go_wp2_with fail
    go_ret
    exact ⟨rfl, rfl⟩
  | 1, _ =>
    simp only [nxV] at c0
    have he1 := eqlN
    have he2 := eqlF
    go_enter Try.func19, Try.ntmps19
    go_wp2_with fail
    go_ret
    exact ⟨rfl, rfl⟩
  | 2, _ =>
    simp only [nxV] at c0
    have he1 := eqlN
    have he2 := eqlF
    go_enter Try.func19, Try.ntmps19
    go_wp2_with fail
    go_ret
    exact ⟨rfl, rfl⟩
  | 3, _ =>
    simp only [nxV] at c0
    have he1 := eqlN
    have he2 := eqlF
    go_enter Try.func19, Try.ntmps19
    go_wp2_with fail
    go_ret
    exact ⟨rfl, rfl⟩
  | 4, _ =>
    simp only [nxV] at c0
    have he1 := eqlN
    have he2 := eqlF
    go_enter Try.func19, Try.ntmps19
    go_wp2_with fail
    go_ret
    exact ⟨rfl, rfl⟩
  | 5, _ =>
    simp only [nxV] at c0
    have he1 := eqlN
    have he2 := eqlF
    go_enter Try.func19, Try.ntmps19
    go_wp2_with fail
    go_ret
    exact ⟨rfl, rfl⟩
  | 6, _ =>
    simp only [nxV] at c0
    have he1 := eqlN
    have he2 := eqlF
    go_enter Try.func19, Try.ntmps19
    go_wp2_with fail
    go_ret
    exact ⟨rfl, rfl⟩
theorem waits_any {w : World} {B : Nat} {K : Lk} (h : LkAt w B K) : Calls Try.prog 9 #[Pw B] w fun e w' => e = .returned (.bool (decide (K.ln = 6))) ∧ w = w' := by
  have c3 : w.cell? ⟨B, 3, none⟩ = some (.bool (decide (K.ln = 6))) := cell_row h 3
  clear h
  generalize decide (K.ln = 6) = b at *
  go_enter Try.func9, Try.ntmps9
  go_wp2_with fail
  go_ret
  exact ⟨rfl, rfl⟩
section
variable {w0 w w' : World} {base WB : Nat} {M : Sd} {r : List Part} {j B : Nat} {K : Lk} {X : Wm}
theorem Wl.at (h : Wl w0 w base WB M r j B K X) : LkAt w B K := h.blk
theorem cas_le {x was : Nat} {K' : Lk} (h : K'.ln ≤ 6) : (K.cas x was K').ln ≤ 6 := by
  unfold Lk.cas
  split
  · exact h
  · unfold Lk.turn; split
    · show 2 ≤ 6; omega
    · split
      · split
        · show 3 ≤ 6; omega
        · show 4 ≤ 6; omega
      · show 4 ≤ 6; omega
theorem turn_le {x : Nat} : (K.turn x).ln ≤ 6 := by
  unfold Lk.turn; split
  · show 2 ≤ 6; omega
  · split
    · split
      · show 3 ≤ 6; omega
      · show 4 ≤ 6; omega
    · show 4 ≤ 6; omega
theorem step_le (h : K.ln ≤ 6) : (stepK M K).ln ≤ 6 := by
  unfold stepK
  split
  · exact cas_le (Nat.zero_le _)
  · exact cas_le (Nat.zero_le _)
  · exact turn_le
  · show 5 ≤ 6; omega
  · exact cas_le (Nat.le_refl _)
  · split
    · show 3 ≤ 6; omega
    · exact h
  · exact h
set_option maxRecDepth 100000 in
set_option maxHeartbeats 4000000 in
/-- A step. -/
theorem step_any (h : Wl w0 w base WB M r j B K X) (ok : LkOk M K) (h6 : K.ln ≤ 6) : Calls Try.prog 8 #[Pw B, Pw WB] w fun e w' => e = .returned (.bool (decide ((stepK M K).ln = 0))) ∧ Stepped w0 w' base WB M r j B K := by
  have hov := over_any h.at h6
  have c0 := h.b0
  by_cases h0 : K.ln = 0
  · have hk : stepK M K = K := by simp only [stepK, h0]
    have hm : stepM M K = M := by simp only [stepM, h0]
    have hs : Stepped w0 w base WB M r j B K := ⟨X, by rw [hk, hm]; exact h⟩
    rw [hk]
    rw [decide_eq_true h0] at hov ⊢
    have HOV := Lib.hid hov; have HS := Lib.hid hs
    clear h ok h6 hov hs hk hm c0 h0
    go_enter Try.func8, Try.ntmps8
    go_wp2_with (go_at_call 19; refine HOV.out.mono ?_; rintro e w1 ⟨rfl, rfl⟩)
    go_ret
    exact ⟨rfl, HS.out⟩
  · rw [decide_eq_false h0] at hov
    have hnx : ∀ w', Stepped w0 w' base WB M r j B K → Calls Try.prog 19 #[Pw B] w' fun e w'' => e = .returned (.bool (decide ((stepK M K).ln = 0))) ∧ w' = w'' := fun w' ⟨X', h'⟩ => over_any h'.at (step_le h6)
    have HOV := Lib.hid hov; have HNX := Lib.hid hnx
    generalize decide ((stepK M K).ln = 0) = ov at *
    have hk : K.ln = 1 ∨ K.ln = 2 ∨ K.ln = 3 ∨ K.ln = 4 ∨ K.ln = 5 ∨ K.ln = 6 := by omega
    rcases hk with hk | hk | hk | hk | hk | hk
    · have HL := Lib.hid (first_l h ok hk)
      rw [hk] at c0
      simp only [nxV] at c0
      clear h ok h6 hov hnx h0 hk
      go_enter Try.func8, Try.ntmps8
      go_wp2_with (first
        | (go_at_call 18; refine HL.out.mono ?_; rintro e w2 ⟨rfl, hs⟩; have HO2 := Lib.hid (HNX.out _ hs); have HS := Lib.hid hs; clear hs)
        | (go_at_call 19; refine HO2.out.mono ?_; rintro e w3 ⟨rfl, rfl⟩)
        | (go_at_call 19; refine HOV.out.mono ?_; rintro e w1 ⟨rfl, rfl⟩))
      go_ret
      exact ⟨rfl, HS.out⟩
    · have HL := Lib.hid (take_l h ok hk)
      rw [hk] at c0
      simp only [nxV] at c0
      clear h ok h6 hov hnx h0 hk
      go_enter Try.func8, Try.ntmps8
      go_wp2_with (first
        | (go_at_call 48; refine HL.out.mono ?_; rintro e w2 ⟨rfl, hs⟩; have HO2 := Lib.hid (HNX.out _ hs); have HS := Lib.hid hs; clear hs)
        | (go_at_call 19; refine HO2.out.mono ?_; rintro e w3 ⟨rfl, rfl⟩)
        | (go_at_call 19; refine HOV.out.mono ?_; rintro e w1 ⟨rfl, rfl⟩))
      go_ret
      exact ⟨rfl, HS.out⟩
    · have HL := Lib.hid (look_l h ok hk)
      rw [hk] at c0
      simp only [nxV] at c0
      clear h ok h6 hov hnx h0 hk
      go_enter Try.func8, Try.ntmps8
      go_wp2_with (first
        | (go_at_call 50; refine HL.out.mono ?_; rintro e w2 ⟨rfl, hs⟩; have HO2 := Lib.hid (HNX.out _ hs); have HS := Lib.hid hs; clear hs)
        | (go_at_call 19; refine HO2.out.mono ?_; rintro e w3 ⟨rfl, rfl⟩)
        | (go_at_call 19; refine HOV.out.mono ?_; rintro e w1 ⟨rfl, rfl⟩))
      go_ret
      exact ⟨rfl, HS.out⟩
    · have HL := Lib.hid (prepare_l h ok hk)
      rw [hk] at c0
      simp only [nxV] at c0
      clear h ok h6 hov hnx h0 hk
      go_enter Try.func8, Try.ntmps8
      go_wp2_with (first
        | (go_at_call 51; refine HL.out.mono ?_; rintro e w2 ⟨rfl, hs⟩; have HO2 := Lib.hid (HNX.out _ hs); have HS := Lib.hid hs; clear hs)
        | (go_at_call 19; refine HO2.out.mono ?_; rintro e w3 ⟨rfl, rfl⟩)
        | (go_at_call 19; refine HOV.out.mono ?_; rintro e w1 ⟨rfl, rfl⟩))
      go_ret
      exact ⟨rfl, HS.out⟩
    · have HL := Lib.hid (queue_l h ok hk)
      rw [hk] at c0
      simp only [nxV] at c0
      clear h ok h6 hov hnx h0 hk
      go_enter Try.func8, Try.ntmps8
      go_wp2_with (first
        | (go_at_call 55; refine HL.out.mono ?_; rintro e w2 ⟨rfl, hs⟩; have HO2 := Lib.hid (HNX.out _ hs); have HS := Lib.hid hs; clear hs)
        | (go_at_call 19; refine HO2.out.mono ?_; rintro e w3 ⟨rfl, rfl⟩)
        | (go_at_call 19; refine HOV.out.mono ?_; rintro e w1 ⟨rfl, rfl⟩))
      go_ret
      exact ⟨rfl, HS.out⟩
    · have HL := Lib.hid (park_l h ok hk)
      rw [hk] at c0
      simp only [nxV] at c0
      clear h ok h6 hov hnx h0 hk
      go_enter Try.func8, Try.ntmps8
      go_wp2_with (first
        | (go_at_call 58; refine HL.out.mono ?_; rintro e w2 ⟨rfl, hs⟩; have HO2 := Lib.hid (HNX.out _ hs); have HS := Lib.hid hs; clear hs)
        | (go_at_call 19; refine HO2.out.mono ?_; rintro e w3 ⟨rfl, rfl⟩)
        | (go_at_call 19; refine HOV.out.mono ?_; rintro e w1 ⟨rfl, rfl⟩))
      go_ret
      exact ⟨rfl, HS.out⟩
end
set_option maxRecDepth 100000 in
/-- A step in no world. -/
theorem step_none {w : World} {B : Nat} {K : Lk} (h : LkAt w B K) (h6 : K.ln ≤ 6) : Calls Try.prog 8 #[Pw B, .pointer none] w fun e w' => e = .returned (.bool (decide (K.ln = 0))) ∧ w = w' := by
  have HOV := Lib.hid (over_any h h6)
  clear h h6
  cases hb : decide (K.ln = 0)
  · rw [hb] at HOV
    clear hb
    go_enter Try.func8, Try.ntmps8
    go_wp2_with (go_at_call 19; refine HOV.out.mono ?_; rintro e w1 ⟨rfl, rfl⟩)
    go_ret
    exact ⟨rfl, rfl⟩
  · rw [hb] at HOV
    clear hb
    go_enter Try.func8, Try.ntmps8
    go_wp2_with (go_at_call 19; refine HOV.out.mono ?_; rintro e w1 ⟨rfl, rfl⟩)
    go_ret
    exact ⟨rfl, rfl⟩
theorem step_nil (x : Value) (w : World) : Calls Try.prog 8 #[.pointer none, x] w fun e w' => e = .returned (.bool true) ∧ w = w' := by
  have HOV := Lib.hid (over_nil)
  go_enter Try.func8, Try.ntmps8
  go_wp2_with (go_at_call 19; refine (HOV.out _).mono ?_; rintro e w1 ⟨rfl, rfl⟩)
  go_ret
  exact ⟨rfl, rfl⟩
/-- One that begins. -/
def newK (t : Int) (a : Nat) : Lk := if 0 ≤ t ∧ t < 64 then lk1 t.toNat a else lk0
theorem new_lock (t : Int) (a : Nat) (w : World) : Calls Try.prog 7 #[.int .i64 t, .int .u32 (a : Int)] w fun e w' => e = .returned (Pw w.heap.size) ∧ w' = w.alloc (.cells (newK t a).cs 65) := by
  by_cases h0 : 0 ≤ t
  · by_cases h1 : t < 64
    · have hk : (newK t a).cs = #[.func (.func 18) #[.agg #[.int .i64 t, .int .u32 (a : Int)]] #[], .int .u64 0, .int .i64 0, .bool false] := by
        unfold newK; rw [if_pos ⟨h0, h1⟩]
        have e : askV t.toNat a = .agg #[.int .i64 t, .int .u32 (a : Int)] := by unfold askV; rw [Int.toNat_of_nonneg h0]
        rw [← e]; rfl
      have d0 : decide (t < 0) = false := by rw [decide_eq_false_iff_not]; omega
      have d1 : decide ((64 : Int) ≤ t) = false := by rw [decide_eq_false_iff_not]; omega
      rw [hk]
      clear hk h0 h1
      go_enter Try.func7, Try.ntmps7
      go_wp2_with fail
      go_ret
      exact ⟨rfl, rfl⟩
    · have hk : (newK t a).cs = #[.nilFunc, .int .u64 0, .int .i64 0, .bool false] := by
        unfold newK; rw [if_neg (by omega)]; rfl
      have d0 : decide (t < 0) = false := by rw [decide_eq_false_iff_not]; omega
      have d1 : decide ((64 : Int) ≤ t) = true := by rw [decide_eq_true_iff]; omega
      rw [hk]
      clear hk h0 h1
      go_enter Try.func7, Try.ntmps7
      go_wp2_with fail
      go_ret
      exact ⟨rfl, rfl⟩
  · have hk : (newK t a).cs = #[.nilFunc, .int .u64 0, .int .i64 0, .bool false] := by
      unfold newK; rw [if_neg (by omega)]; rfl
    have d0 : decide (t < 0) = true := by rw [decide_eq_true_iff]; omega
    rw [hk]
    clear hk h0
    go_enter Try.func7, Try.ntmps7
    go_wp2_with fail
    go_ret
    exact ⟨rfl, rfl⟩
end Go.Proofs.Ytdfnobdladiicaa.S13
namespace Go.Proofs.Ytdfnobdladiicaa.S13
open Go.Proofs.Ytdfnobdladiicaa Go.Proofs.Ytdfnobdladiicaa.S11 Go.Proofs.Ytdfnobdladiicaa.S12
open Go.RowKit

/-- What a new world says. -/
def sdN (spin : Int) (most : Nat) : Sd := ⟨L02, 0, 0, 0, 0, 0, 0, most, [], fun _ => S4.pk0, 0, 0, 0, S5.S0, S10.M0 0, [], spin⟩
theorem at0_sd {X : Wm} {spin : Int} {most : Nat} (h : At0 X spin most []) : X.sd = sdN spin most := by
  unfold Wm.sd sdN
  rw [h.L, h.n, h.k, h.a, h.was, h.is, h.T, h.most, h.D, h.pf, h.pn, h.pk, h.pp, h.lk, h.tM, h.nD, h.sp]
theorem pg_of {w0 w : World} {base : Nat} {X : Wm} (h : PW w base X) (b : Below base w0 w) : Pg w0 w base X.wB X.sd [] X :=
  ⟨by rw [List.append_nil]; exact h, rfl, rfl, b⟩
section
variable {w0 w w' : World} {base WB : Nat} {M : Sd} {r : List Part} {X : Wm}
theorem Pg.add (h : Pg w0 w base WB M r X) (ob : Obj) : Pg w0 (w.alloc ob) base WB M (r ++ [blockP w.heap.size ob]) X := by
  have hp := h.ps.push (blockP w.heap.size ob) (below1 w ob) (heap_alloc_new w ob) (fun k e => Nat.le_of_eq (show k = w.heap.size from e).symm)
  rw [List.append_assoc] at hp
  exact ⟨hp, h.wB, h.xm, h.bl.alloc h.size _⟩
/-- A lock that begins, beside the world. -/
theorem Pg.lock (h : Pg w0 w base WB M r X) (K : Lk) : Wl w0 (w.alloc (.cells K.cs 65)) base WB M (r ++ [lockP w.heap.size K]) r.length w.heap.size K X := by
  refine ⟨?_, by rw [List.length_append]; simp⟩
  rw [List.set_append_right _ _ (Nat.le_refl _), Nat.sub_self]
  exact Pg.add h _
end
set_option maxRecDepth 100000 in
theorem world_any (sp : Nat) (hsp : sp < 256) (w : World) : Calls Try.prog 4 #[.int .u8 (sp : Int)] w fun e w' => ∃ X, e = .returned (Pw X.wB) ∧ PW w' w.heap.size X ∧ At0 X ((sp % 17 : Nat) : Int) 5 [] ∧ Below w.heap.size w w' := by
  have hck : ∀ W, Below w.heap.size w W → Calls Try.prog 26 #[.slice none 0 0, .int .u64 ((5 : Nat) : Int)] W (S3.Made W 0 5 []) := fun W _ => S3.new_any (D := []) (b2 := 0) 0 5 (Nat.le_refl _) (by omega) (by omega) S3.Rd.nil (Nat.zero_le _) (fun d hd => by cases hd)
  have hok : okC (((sp % 17 : Nat) : Int)) 0 = true := by simp [okC]; omega
  have hnew : Calls Try.prog 15 #[.agg #[.int .i64 ((sp % 17 : Nat) : Int), .int .u64 5, .slice none 0 0]] w fun e w' => NewW w w' ((sp % 17 : Nat) : Int) 5 [] e := new_yes _ 5 0 0 none hok hck
  have e1 : (sp : Int).tmod 17 = ((sp % 17 : Nat) : Int) := by rw [Int.tmod_eq_emod_of_nonneg (by omega)]; omega
  have e1' : (sp : Int) % 17 = ((sp % 17 : Nat) : Int) := by omega
  have e2 : IntKind.u8.wrap ((sp % 17 : Nat) : Int) = ((sp % 17 : Nat) : Int) := by rw [IntKind.wrap_u8]; omega
  have e3 : IntKind.i64.wrap ((sp % 17 : Nat) : Int) = ((sp % 17 : Nat) : Int) := by rw [IntKind.wrap_i64]; omega
  have e4 : wrap64 ((sp % 17 : Nat) : Int) = ((sp % 17 : Nat) : Int) := by unfold wrap64; omega
  have e5 : IntKind.i64.wrap (sp : Int) = (sp : Int) := by rw [IntKind.wrap_i64]; omega
  have HN := Lib.hid hnew
  clear hck hok hnew hsp
  generalize sp % 17 = n at *
  go_enter Try.func4, Try.ntmps4
  go_wp2_with (go_at_call 15; refine HN.out.mono ?_; rintro e w1 ⟨X, rfl, hp, h0, hb⟩)
  go_ret
  exact ⟨X, rfl, hp, h0, hb⟩
/-- A lock's steps, one behind the other. -/
def it (p : Sd × Lk) : Sd × Lk := (stepM p.1 p.2, stepK p.1 p.2)
def itn (p : Sd × Lk) : Nat → Sd × Lk
  | 0 => p
  | n + 1 => it (itn p n)
theorem meth_step (a : Addr) (w : World) : (method 258 40 (.pointer (some a)) "Step").run Try.prog w = .ok (8, .pointer (some a)) w := by kernel_rfl
end Go.Proofs.Ytdfnobdladiicaa.S13
namespace Go.Proofs.Ytdfnobdladiicaa.S13
open Go.Proofs.Ytdfnobdladiicaa Go.Proofs.Ytdfnobdladiicaa.S11 Go.Proofs.Ytdfnobdladiicaa.S12
open Go.RowKit

theorem step_pos {M : Sd} {K : Lk} (h : K.ln ≠ 0) (h6 : K.ln ≤ 6) : (stepM M K).n + (stepM M K).pn = M.n + M.pn + 1 := by
  have hk : K.ln = 1 ∨ K.ln = 2 ∨ K.ln = 3 ∨ K.ln = 4 ∨ K.ln = 5 ∨ K.ln = 6 := by omega
  unfold stepM
  rcases hk with e | e | e | e | e | e <;> rw [e] <;> simp only [Sd.acc, Sd.prep, Sd.link, Sd.park, Sd.call] <;> omega
/-- A lock goes on alone. -/
structure LkGo (M : Sd) (K : Lk) (c : Nat) : Prop where
  ok : LkOk M K
  ln : K.ln ≤ 6
  lk : ∀ a, S2.look M.L a < 18446744073709551616
  n : M.n ≤ c
  pn : M.pn ≤ c
theorem cas_st {K K' : Lk} {x was : Nat} (hx : x < 18446744073709551616) (h : K'.st < 18446744073709551616) : (K.cas x was K').st < 18446744073709551616 := by
  unfold Lk.cas Lk.turn
  repeat (first | split | exact hx | exact h)
theorem turn_st {K : Lk} {x : Nat} (hx : x < 18446744073709551616) : (K.turn x).st < 18446744073709551616 := by
  unfold Lk.turn
  repeat (first | split | exact hx)
theorem turn_sp {K : Lk} {x : Nat} (h : 0 ≤ K.sp ∧ K.sp ≤ 16) : 0 ≤ (K.turn x).sp ∧ (K.turn x).sp ≤ 16 := by
  unfold Lk.turn
  repeat (first | split | exact h | (show 0 ≤ K.sp - 1 ∧ K.sp - 1 ≤ 16; omega))
theorem cas_sp {K K' : Lk} {x was : Nat} (h : 0 ≤ K.sp ∧ K.sp ≤ 16) (h' : 0 ≤ K'.sp ∧ K'.sp ≤ 16) : 0 ≤ (K.cas x was K').sp ∧ (K.cas x was K').sp ≤ 16 := by
  unfold Lk.cas
  split
  · exact h'
  · exact turn_sp h
theorem turn_t {K : Lk} {x : Nat} : (K.turn x).t = K.t ∧ (K.turn x).a = K.a := by
  unfold Lk.turn
  repeat (first | split | exact ⟨rfl, rfl⟩)
theorem cas_t {K K' : Lk} {x was : Nat} (h : K'.t = K.t ∧ K'.a = K.a) : (K.cas x was K').t = K.t ∧ (K.cas x was K').a = K.a := by
  unfold Lk.cas
  split
  · exact h
  · exact turn_t
theorem stepK_t (M : Sd) (K : Lk) : (stepK M K).t = K.t ∧ (stepK M K).a = K.a := by
  unfold stepK
  split
  · exact cas_t (K := ({ K with sp := M.sp } : Lk)) ⟨rfl, rfl⟩
  · exact cas_t ⟨rfl, rfl⟩
  · exact turn_t
  · exact ⟨rfl, rfl⟩
  · exact cas_t ⟨rfl, rfl⟩
  · split <;> exact ⟨rfl, rfl⟩
  · exact ⟨rfl, rfl⟩
theorem stepM_sp (M : Sd) (K : Lk) : (stepM M K).sp = M.sp := by
  unfold stepM
  split <;> rfl
theorem look_acc {M : Sd} {k a y : Nat} (h : ∀ b, S2.look M.L b < 18446744073709551616) (hy : y < 18446744073709551616) (b : Nat) : S2.look (M.acc k a y).L b < 18446744073709551616 := by
  show S2.look (S2.putL M.L a (S2.bring a y)) b < _
  by_cases e : b = a
  · subst e; rw [S2.look_put_same]; exact S2.bring_lt hy
  · rw [S2.look_put_other _ e]; exact h b
theorem LkGo.step {M : Sd} {K : Lk} {c : Nat} (h : LkGo M K c) (hc : c < 1000000000) : LkGo (stepM M K) (stepK M K) (c + 1) := by
  have hl := h.lk K.a
  have hcas : ∀ u v, v < 18446744073709551616 → S2.casV (S2.look M.L K.a) u v < 18446744073709551616 := fun u v hv => S2.casV_lt hl hv
  have hnp : (stepM M K).n ≤ c + 1 ∧ (stepM M K).pn ≤ c + 1 := by
    have := h.n; have := h.pn
    unfold stepM
    split <;> (first | (simp only [Sd.acc, Sd.prep, Sd.link, Sd.park, Sd.call]; omega) | omega)
  have hlk : ∀ b, S2.look (stepM M K).L b < 18446744073709551616 := by
    intro b
    unfold stepM
    split
    · exact look_acc h.lk (hcas _ _ (by omega)) b
    · exact look_acc h.lk (hcas _ _ (S1.putU_lt _ _ _)) b
    · exact look_acc h.lk hl b
    · exact h.lk b
    · exact look_acc h.lk (hcas _ _ (S1.putU_lt _ _ _)) b
    · exact h.lk b
    · exact h.lk b
  refine ⟨⟨?_, ?_, ?_, ?_, ?_, by omega, by omega⟩, step_le h.ln, hlk, hnp.1, hnp.2⟩
  · rw [(stepK_t M K).1]; exact h.ok.t
  · rw [(stepK_t M K).2]; exact h.ok.a
  · unfold stepK
    split
    · exact cas_st hl h.ok.st
    · exact cas_st hl h.ok.st
    · exact turn_st hl
    · exact h.ok.st
    · exact cas_st hl h.ok.st
    · split <;> exact h.ok.st
    · exact h.ok.st
  · unfold stepK
    split
    · exact cas_sp (K := ({ K with sp := M.sp } : Lk)) h.ok.ms h.ok.ms
    · exact cas_sp h.ok.sp h.ok.sp
    · exact turn_sp h.ok.sp
    · exact h.ok.sp
    · exact cas_sp h.ok.sp h.ok.sp
    · split
      · exact h.ok.ms
      · exact h.ok.sp
    · exact h.ok.sp
  · rw [stepM_sp]; exact h.ok.ms
theorem LkGo.itn {p : Sd × Lk} {c : Nat} (h : LkGo p.1 p.2 c) : ∀ n, c + n < 1000000000 → LkGo (itn p n).1 (itn p n).2 (c + n)
  | 0, _ => h
  | n + 1, hn => (LkGo.itn h n (by omega)).step (by omega)
/-- The examples' states. -/
def exM : Sd := sdN 1 5
def exA : Sd × Lk := it (exM, lk1 3 260)
def exB : Sd × Lk := (exA.1, lk1 5 260)
theorem ex_over : exA.2.ln = 0 := by kernel_rfl
theorem ex_ln : (itn exB 0).2.ln = 1 ∧ (itn exB 1).2.ln = 3 ∧ (itn exB 2).2.ln = 4 ∧ (itn exB 3).2.ln = 5 ∧ (itn exB 4).2.ln = 6 ∧ (itn exB 5).2.ln = 6 := ⟨by kernel_rfl, by kernel_rfl, by kernel_rfl, by kernel_rfl, by kernel_rfl, by kernel_rfl⟩
theorem ex_word : S2.look (itn exB 5).1.L 260 = 25 := by kernel_rfl
theorem ex_asleep : ((itn exB 5).1.pf 11).a = true := by kernel_rfl
theorem l02_lt (a : Nat) : S2.look L02 a < 18446744073709551616 := by
  have e : L02 = [(0, 2)] := by kernel_rfl
  rw [e]
  unfold S2.look
  simp only [List.find?]
  split
  · rename_i p hp
    split at hp
    · injection hp with hp; subst hp; decide
    · cases hp
  · decide
theorem ex_go0 : LkGo exM (lk1 3 260) 0 := ⟨⟨by decide, by decide, by decide, by decide, by decide, by decide, by decide⟩, by decide, l02_lt, by decide, by decide⟩
theorem ex_go1 : LkGo exB.1 exB.2 1 := by
  have h := ex_go0.step (by decide)
  exact ⟨⟨by decide, by decide, by decide, by decide, h.ok.ms, h.ok.n, h.ok.pn⟩, by decide, h.lk, h.n, h.pn⟩
theorem ex_go (n : Nat) (hn : n ≤ 5) : LkGo (itn exB n).1 (itn exB n).2 (1 + n) := LkGo.itn ex_go1 n (by omega)
theorem ex_pos (n : Nat) (hn : n < 5) : (itn exB (n + 1)).2.ln ≠ 0 := by
  have h := ex_ln
  match n, hn with
  | 0, _ => rw [h.2.1]; decide
  | 1, _ => rw [h.2.2.1]; decide
  | 2, _ => rw [h.2.2.2.1]; decide
  | 3, _ => rw [h.2.2.2.2.1]; decide
  | 4, _ => rw [h.2.2.2.2.2]; decide
set_option maxRecDepth 100000 in
theorem run_one {w : World} {B WB : Nat} {K : Lk} {P : World → Prop} (h : Calls Try.prog 8 #[Pw B, Pw WB] w fun e w' => e = .returned (.bool true) ∧ P w') : Calls Try.prog 22 #[Pw WB, .iface 40 (Pw B), .int .i64 9] w fun e w' => e = .returned (.int .i64 1) ∧ P w' := by
  have H := Lib.hid h
  have hm := meth_step ⟨B, 0, none⟩
  clear h
  go_enter Try.func22, Try.ntmps22
  go_wp2_with fail
  go_loopg [7] 1 (fun q s7 wx => q = 1 ∧ s7 = .int .i64 1 ∧ wx = w)
  case atStart => exact ⟨rfl, rfl, rfl⟩
  case round =>
    obtain ⟨rfl, rfl, rfl⟩ := hrel
    go_wp2_with (go_at_call 8; refine H.out.mono ?_; rintro e w1 ⟨rfl, hp⟩)
    go_ret
    exact ⟨rfl, hp⟩
set_option maxRecDepth 100000 in
set_option maxHeartbeats 4000000 in
theorem lives_any (w : World) : Calls Try.prog 14 #[] w fun e w' => e = .returned (.bool true) ∧ Below w.heap.size w w' := by
  have HW : Hid (Calls Try.prog 4 #[.int .u8 1] w fun e w' => ∃ X, e = .returned (Pw X.wB) ∧ PW w' w.heap.size X ∧ At0 X 1 5 [] ∧ Below w.heap.size w w') := Lib.hid (world_any 1 (by decide) w)
  have HNL : ∀ (t : Int) (W : World), Calls Try.prog 7 #[.int .i64 t, .int .u32 260] W fun e w' => e = .returned (Pw W.heap.size) ∧ w' = W.alloc (.cells (newK t 260).cs 65) := fun t W => new_lock t 260 W
  have HN3 : Hid (∀ W, Calls Try.prog 7 #[.int .i64 3, .int .u32 260] W fun e w' => e = .returned (Pw W.heap.size) ∧ w' = W.alloc (.cells (lk1 3 260).cs 65)) := Lib.hid (fun W => HNL 3 W)
  have HN5 : Hid (∀ W, Calls Try.prog 7 #[.int .i64 5, .int .u32 260] W fun e w' => e = .returned (Pw W.heap.size) ∧ w' = W.alloc (.cells (lk1 5 260).cs 65)) := Lib.hid (fun W => HNL 5 W)
  clear HNL
  go_enter Try.func14, Try.ntmps14
  go_upto_region 4 with (go_at_call 4; refine HW.out.mono ?_; rintro e w1 ⟨X, rfl, hp, h0, hb⟩)
  have hpg := pg_of hp hb
  rw [at0_sd h0] at hpg
  obtain ⟨WB, hWB⟩ : ∃ x, x = X.wB := ⟨_, rfl⟩
  rw [← hWB] at hpg ⊢
  have hlk := Pg.lock hpg (lk1 3 260)
  have HR := Lib.hid (run_one (K := lk1 3 260) (P := fun w' => Stepped w w' w.heap.size WB exM [lockP w1.heap.size (lk1 3 260)] 0 w1.heap.size (lk1 3 260)) (by
    have := step_any hlk ex_go0.ok (by decide)
    refine this.mono ?_
    rintro e w' ⟨rfl, hs⟩
    exact ⟨by have e9 : (stepK (sdN 1 5) (lk1 3 260)).ln = 0 := ex_over
              rw [e9]; rfl, hs⟩))
  clear hpg hlk hp h0 hb hWB
  go_upto_region 5 with (first
    | (go_at_call 7; refine (HN3.out _).mono ?_; rintro e w2 ⟨rfl, rfl⟩)
    | (go_at_call 22; refine HR.out.mono ?_; rintro e w3 ⟨rfl, hs⟩))
  obtain ⟨X3, h3⟩ := hs
  have h3g := h3.pg
  obtain ⟨r3, hr3⟩ : ∃ r, r = [lockP w1.heap.size (lk1 3 260)].set 0 (lockP w1.heap.size (stepK exM (lk1 3 260))) := ⟨_, rfl⟩
  rw [← hr3] at h3g
  have h5 := Pg.lock h3g (lk1 5 260)
  have H5 := Lib.hid h5
  clear h3 h3g h5 hr3 HR
  go_upto_region 6 with (go_at_call 7; refine (HN5.out _).mono ?_; rintro e w4 ⟨rfl, rfl⟩)
  generalize w3.alloc (.cells (lk1 5 260).cs 65) = w5 at *
  generalize w3.heap.size = B at *
  go_wp2_with fail
  go_loopg [4] 5 (fun q s4 wx => ∃ i : Nat, i ≤ 5 ∧ q = 5 - i ∧ s4 = .int .i64 (i : Int) ∧ ∃ X, Wl w wx w.heap.size WB (itn exB i).1 (r3 ++ [lockP B (lk1 5 260)]) r3.length B (itn exB i).2 X)
  case atStart => exact ⟨0, by omega, rfl, rfl, X3, H5.out⟩
  case round =>
    obtain ⟨i, hi, rfl, rfl, X5, h⟩ := hrel
    by_cases hi5 : i < 5
    · have hst := step_any h (ex_go i (by omega)).ok (ex_go i (by omega)).ln
      rw [decide_eq_false (show ¬ (stepK (itn exB i).1 (itn exB i).2).ln = 0 from ex_pos i hi5)] at hst
      have HST := Lib.hid hst; have HI := Lib.hid hi5
      have d1 : (i : Int) < 5 := by omega
      clear hst h hi hi5
      go_wp2_with (go_at_call 8; refine HST.out.mono ?_; rintro e w6 ⟨rfl, hs⟩)
      go_roundg (5 - (i + 1))
      case measure => have := HI.out; omega
      case rel => exact ⟨i + 1, by have := HI.out; omega, rfl, by go_num, hs⟩
    · obtain rfl : i = 5 := by omega
      have hcB := h.pg.c
      have HWT : Hid (Calls Try.prog 9 #[Pw B] wr.drew fun e w' => e = .returned (.bool true) ∧ wr.drew = w') := Lib.hid (by
        have := waits_any (h.new (Below.refl _ _).drew).at
        rwa [ex_ln.2.2.2.2.2] at this)
      have HPK : Hid (Calls Try.prog 13 #[Pw X5.cB, .int .u32 260] wr.drew fun e w' => e = .returned (.int .u64 25) ∧ wr.drew = w') := Lib.hid (by
        have hg := (h.new (Below.refl _ _).drew).pg
        have := S2.peek_any _ X5.cB X5.cM X5.L X5.n X5.k X5.a X5.was X5.is 260 hg.pw.cells (by omega)
        rw [show X5.L = (itn exB 5).1.L from congrArg Sd.L hg.xm, ex_word] at this
        exact this)
      have HWD : Hid (∀ W, Calls Try.prog 12 #[.int .i64 5] W fun e w' => e = .returned (.int .i64 11) ∧ W = w') := Lib.hid (fun W => word_any 5 (by decide) W)
      have HSL : Hid (Calls Try.prog 23 #[Pw X5.pB, .int .i64 11] wr.drew fun e w' => e = .returned (.bool true) ∧ wr.drew = w') := Lib.hid (by
        have hg := (h.new (Below.refl _ _).drew).pg
        have := S4.asleep_yes hg.pw.permits (i := 11) (by decide)
        rw [show X5.pf = (itn exB 5).1.pf from congrArg Sd.pf hg.xm, ex_asleep] at this
        exact this)
      have HF : Hid ((fun w' => w'.cell? ⟨WB, 0, none⟩ = some (Pw X5.cB) ∧ w'.cell? ⟨WB, 2, none⟩ = some (Pw X5.pB)) wr.drew) := Lib.hid ⟨hcB.1, hcB.2.1⟩
      have HB := Lib.hid h.pg.bl
      clear h hcB hi hi5
      go_upto_region 11 with (fail)
      refine wp_region_held_drew (S := fun w' => w'.cell? ⟨WB, 0, none⟩ = some (Pw X5.cB) ∧ w'.cell? ⟨WB, 2, none⟩ = some (Pw X5.pB)) (by kernel_rfl) ?_ (fun hHeld => ?_)
      · exact HF.out
      refine wpAnyH_take (i := 0) (oi := ({ dst := some 20, op := Op.move (Operand.tmp 2), type := 3, pos := "outright.go:27", after := #[], guard := none } : Oper)) (v := ?vzm1) rfl (by kernel_rfl) (by kernel_rfl) (by kernel_rfl) (fun _ _ _ h => h) (Or.inl ⟨by rfl, fun w hSw => ?hyzm1⟩) (by assumption) ?rzm1
      case hyzm1 => (try dsimp only at hSw); go_simp; (try with_reducible rfl)
      (try simp only [Act.put, List.setIfInBounds_toArray, List.set_cons_zero, List.set_cons_succ])
      refine wpAnyH_take (i := 1) (oi := ({ dst := some 21, op := Op.binOp BinOp.eql 3 (Operand.tmp 20) (Operand.const (Value.int IntKind.i64 1)) 3, type := 4, pos := "outright.go:27", after := #[{ on := 0, ground := Ground.data }], guard := none } : Oper)) (v := ?vzm2) rfl (by kernel_rfl) (by kernel_rfl) (by kernel_rfl) (fun _ _ _ h => h) (Or.inl ⟨by rfl, fun w hSw => ?hyzm2⟩) (by assumption) ?rzm2
      case hyzm2 => (try dsimp only at hSw); go_simp; (try with_reducible rfl)
      (try simp only [Act.put, List.setIfInBounds_toArray, List.set_cons_zero, List.set_cons_succ])
      refine wpAnyH_take (i := 2) (oi := ({ dst := some 22, op := Op.move (Operand.tmp 21), type := 4, pos := "outright.go:27", after := #[{ on := 1, ground := Ground.data }], guard := none } : Oper)) (v := ?vzm3) rfl (by kernel_rfl) (by kernel_rfl) (by kernel_rfl) (fun _ _ _ h => h) (Or.inl ⟨by rfl, fun w hSw => ?hyzm3⟩) (by assumption) ?rzm3
      case hyzm3 => (try dsimp only at hSw); go_simp; (try with_reducible rfl)
      (try simp only [Act.put, List.setIfInBounds_toArray, List.set_cons_zero, List.set_cons_succ])
      refine wpAnyH_take (i := 3) (oi := ({ dst := some 23, op := Op.move (Operand.tmp 3), type := 40, pos := "outright.go:27", after := #[{ on := 2, ground := Ground.guard }], guard := some (2, true) } : Oper)) (v := ?vzm4) rfl (by kernel_rfl) (by kernel_rfl) (by kernel_rfl) (fun _ _ _ h => h) (Or.inl ⟨by rfl, fun w hSw => ?hyzm4⟩) (by assumption) ?rzm4
      case hyzm4 => (try dsimp only at hSw); go_simp; (try with_reducible rfl)
      (try simp only [Act.put, List.setIfInBounds_toArray, List.set_cons_zero, List.set_cons_succ])
      refine wpAnyH_ready (rs := [4]) (by kernel_rfl) (by simp) ?_
      refine AllReadyH.cons (o := ({ dst := some 24, op := Op.call { callee := Callee.value (Operand.func 9), args := #[Operand.tmp 23], argTypes := #[40] }, type := 4, pos := "outright.go:27", after := #[{ on := 3, ground := Ground.data }, { on := 2, ground := Ground.chain }, { on := 2, ground := Ground.guard }], guard := some (2, true) } : Oper)) rfl (fun Kq hKq => ?_) AllReadyH.nil
      go_simp
      (refine HWT.out.mono ?_; rintro e w8 ⟨rfl, rfl⟩)
      refine hKq.out _ _ ?_ (fun hHeld => ?_)
      · exact hHeld
      clear hKq Kq
      (try simp only [Act.put, List.setIfInBounds_toArray, List.set_cons_zero, List.set_cons_succ])
      refine wpAnyH_take (i := 5) (oi := ({ dst := some 25, op := Op.pick (Operand.tmp 22) (Operand.tmp 24) (Operand.const (Value.bool false)), type := 4, pos := "outright.go:27", after := #[{ on := 2, ground := Ground.data }, { on := 4, ground := Ground.data }], guard := none } : Oper)) (v := ?vzm5) rfl (by kernel_rfl) (by kernel_rfl) (by kernel_rfl) (fun _ _ _ h => h) (Or.inl ⟨by rfl, fun w hSw => ?hyzm5⟩) (by assumption) ?rzm5
      case hyzm5 => (try dsimp only at hSw); go_simp; (try with_reducible rfl)
      (try simp only [Act.put, List.setIfInBounds_toArray, List.set_cons_zero, List.set_cons_succ])
      refine wpAnyH_take (i := 6) (oi := ({ dst := some 26, op := Op.move (Operand.tmp 25), type := 4, pos := "outright.go:27", after := #[{ on := 5, ground := Ground.data }, { on := 4, ground := Ground.chain }], guard := none } : Oper)) (v := ?vzm6) rfl (by kernel_rfl) (by kernel_rfl) (by kernel_rfl) (fun _ _ _ h => h) (Or.inl ⟨by rfl, fun w hSw => ?hyzm6⟩) (by assumption) ?rzm6
      case hyzm6 => (try dsimp only at hSw); go_simp; (try with_reducible rfl)
      (try simp only [Act.put, List.setIfInBounds_toArray, List.set_cons_zero, List.set_cons_succ])
      refine wpAnyH_take (i := 7) (oi := ({ dst := some 27, op := Op.move (Operand.tmp 1), type := 22, pos := "outright.go:27", after := #[{ on := 6, ground := Ground.guard }], guard := some (6, true) } : Oper)) (v := ?vzm7) rfl (by kernel_rfl) (by kernel_rfl) (by kernel_rfl) (fun _ _ _ h => h) (Or.inl ⟨by rfl, fun w hSw => ?hyzm7⟩) (by assumption) ?rzm7
      case hyzm7 => (try dsimp only at hSw); go_simp; (try with_reducible rfl)
      (try simp only [Act.put, List.setIfInBounds_toArray, List.set_cons_zero, List.set_cons_succ])
      refine wpAnyH_take (i := 8) (oi := ({ dst := some 28, op := Op.nilCheck (Operand.tmp 27), type := 0, pos := "outright.go:27", after := #[{ on := 7, ground := Ground.data }, { on := 6, ground := Ground.guard }], guard := some (6, true) } : Oper)) (v := ?vzm8) rfl (by kernel_rfl) (by kernel_rfl) (by kernel_rfl) (fun _ _ _ h => h) (Or.inl ⟨by rfl, fun w hSw => ?hyzm8⟩) (by assumption) ?rzm8
      case hyzm8 => (try dsimp only at hSw); go_simp; (try with_reducible rfl)
      (try simp only [Act.put, List.setIfInBounds_toArray, List.set_cons_zero, List.set_cons_succ])
      refine wpAnyH_take (i := 9) (oi := ({ dst := some 29, op := Op.fieldAddr 36 (Operand.tmp 28) 0, type := 0, pos := "outright.go:27", after := #[{ on := 8, ground := Ground.data }, { on := 6, ground := Ground.guard }], guard := some (6, true) } : Oper)) (v := ?vzm9) rfl (by kernel_rfl) (by kernel_rfl) (by kernel_rfl) (fun _ _ _ h => h) (Or.inl ⟨by rfl, fun w hSw => ?hyzm9⟩) (by assumption) ?rzm9
      case hyzm9 => (try dsimp only at hSw); go_simp; (try with_reducible rfl)
      (try simp only [Act.put, List.setIfInBounds_toArray, List.set_cons_zero, List.set_cons_succ])
      refine wpAnyH_take (i := 10) (oi := ({ dst := some 30, op := Op.load 28 (Operand.tmp 29), type := 28, pos := "outright.go:27", after := #[{ on := 9, ground := Ground.data }, { on := 6, ground := Ground.guard }], guard := some (6, true) } : Oper)) (v := ?vzm10) rfl (by kernel_rfl) (by kernel_rfl) (by kernel_rfl) (fun _ _ _ h => h) (Or.inl ⟨by rfl, fun w hSw => ?hyzm10⟩) (by assumption) ?rzm10
      case hyzm10 => (try dsimp only at hSw); go_simp; (try with_reducible rfl)
      (try simp only [Act.put, List.setIfInBounds_toArray, List.set_cons_zero, List.set_cons_succ])
      refine wpAnyH_ready (rs := [11]) (by kernel_rfl) (by simp) ?_
      refine AllReadyH.cons (o := ({ dst := some 31, op := Op.call { callee := Callee.value (Operand.func 13), args := #[Operand.tmp 30, Operand.const (Value.int IntKind.u32 260)], argTypes := #[28, 39] }, type := 24, pos := "outright.go:27", after := #[{ on := 10, ground := Ground.data }, { on := 6, ground := Ground.chain }, { on := 6, ground := Ground.guard }], guard := some (6, true) } : Oper)) rfl (fun Kq hKq => ?_) AllReadyH.nil
      go_simp
      (refine HPK.out.mono ?_; rintro e w8 ⟨rfl, rfl⟩)
      refine hKq.out _ _ ?_ (fun hHeld => ?_)
      · exact hHeld
      clear hKq Kq
      (try simp only [Act.put, List.setIfInBounds_toArray, List.set_cons_zero, List.set_cons_succ])
      refine wpAnyH_take (i := 12) (oi := ({ dst := some 32, op := Op.binOp BinOp.eql 24 (Operand.tmp 31) (Operand.const (Value.int IntKind.u64 25)) 24, type := 4, pos := "outright.go:27", after := #[{ on := 11, ground := Ground.data }, { on := 6, ground := Ground.guard }], guard := some (6, true) } : Oper)) (v := ?vzm11) rfl (by kernel_rfl) (by kernel_rfl) (by kernel_rfl) (fun _ _ _ h => h) (Or.inl ⟨by rfl, fun w hSw => ?hyzm11⟩) (by assumption) ?rzm11
      case hyzm11 => (try dsimp only at hSw); go_simp; (try with_reducible rfl)
      (try simp only [Act.put, List.setIfInBounds_toArray, List.set_cons_zero, List.set_cons_succ])
      refine wpAnyH_take (i := 13) (oi := ({ dst := some 33, op := Op.pick (Operand.tmp 26) (Operand.tmp 32) (Operand.const (Value.bool false)), type := 4, pos := "outright.go:27", after := #[{ on := 6, ground := Ground.data }, { on := 12, ground := Ground.data }], guard := none } : Oper)) (v := ?vzm12) rfl (by kernel_rfl) (by kernel_rfl) (by kernel_rfl) (fun _ _ _ h => h) (Or.inl ⟨by rfl, fun w hSw => ?hyzm12⟩) (by assumption) ?rzm12
      case hyzm12 => (try dsimp only at hSw); go_simp; (try with_reducible rfl)
      (try simp only [Act.put, List.setIfInBounds_toArray, List.set_cons_zero, List.set_cons_succ])
      refine wpAnyH_take (i := 14) (oi := ({ dst := some 34, op := Op.move (Operand.tmp 33), type := 4, pos := "outright.go:27", after := #[{ on := 13, ground := Ground.data }, { on := 11, ground := Ground.chain }], guard := none } : Oper)) (v := ?vzm13) rfl (by kernel_rfl) (by kernel_rfl) (by kernel_rfl) (fun _ _ _ h => h) (Or.inl ⟨by rfl, fun w hSw => ?hyzm13⟩) (by assumption) ?rzm13
      case hyzm13 => (try dsimp only at hSw); go_simp; (try with_reducible rfl)
      (try simp only [Act.put, List.setIfInBounds_toArray, List.set_cons_zero, List.set_cons_succ])
      refine wpAnyH_take (i := 15) (oi := ({ dst := some 35, op := Op.move (Operand.tmp 1), type := 22, pos := "outright.go:27", after := #[{ on := 14, ground := Ground.guard }], guard := some (14, true) } : Oper)) (v := ?vzm14) rfl (by kernel_rfl) (by kernel_rfl) (by kernel_rfl) (fun _ _ _ h => h) (Or.inl ⟨by rfl, fun w hSw => ?hyzm14⟩) (by assumption) ?rzm14
      case hyzm14 => (try dsimp only at hSw); go_simp; (try with_reducible rfl)
      (try simp only [Act.put, List.setIfInBounds_toArray, List.set_cons_zero, List.set_cons_succ])
      refine wpAnyH_take (i := 16) (oi := ({ dst := some 36, op := Op.nilCheck (Operand.tmp 35), type := 0, pos := "outright.go:27", after := #[{ on := 15, ground := Ground.data }, { on := 14, ground := Ground.guard }], guard := some (14, true) } : Oper)) (v := ?vzm15) rfl (by kernel_rfl) (by kernel_rfl) (by kernel_rfl) (fun _ _ _ h => h) (Or.inl ⟨by rfl, fun w hSw => ?hyzm15⟩) (by assumption) ?rzm15
      case hyzm15 => (try dsimp only at hSw); go_simp; (try with_reducible rfl)
      (try simp only [Act.put, List.setIfInBounds_toArray, List.set_cons_zero, List.set_cons_succ])
      refine wpAnyH_take (i := 17) (oi := ({ dst := some 37, op := Op.fieldAddr 36 (Operand.tmp 36) 2, type := 0, pos := "outright.go:27", after := #[{ on := 16, ground := Ground.data }, { on := 14, ground := Ground.guard }], guard := some (14, true) } : Oper)) (v := ?vzm16) rfl (by kernel_rfl) (by kernel_rfl) (by kernel_rfl) (fun _ _ _ h => h) (Or.inl ⟨by rfl, fun w hSw => ?hyzm16⟩) (by assumption) ?rzm16
      case hyzm16 => (try dsimp only at hSw); go_simp; (try with_reducible rfl)
      (try simp only [Act.put, List.setIfInBounds_toArray, List.set_cons_zero, List.set_cons_succ])
      refine wpAnyH_take (i := 18) (oi := ({ dst := some 38, op := Op.load 30 (Operand.tmp 37), type := 30, pos := "outright.go:27", after := #[{ on := 17, ground := Ground.data }, { on := 14, ground := Ground.guard }], guard := some (14, true) } : Oper)) (v := ?vzm17) rfl (by kernel_rfl) (by kernel_rfl) (by kernel_rfl) (fun _ _ _ h => h) (Or.inl ⟨by rfl, fun w hSw => ?hyzm17⟩) (by assumption) ?rzm17
      case hyzm17 => (try dsimp only at hSw); go_simp; (try with_reducible rfl)
      (try simp only [Act.put, List.setIfInBounds_toArray, List.set_cons_zero, List.set_cons_succ])
      refine wpAnyH_ready (rs := [19]) (by kernel_rfl) (by simp) ?_
      refine AllReadyH.cons (o := ({ dst := some 39, op := Op.call { callee := Callee.value (Operand.func 12), args := #[Operand.const (Value.int IntKind.i64 5)], argTypes := #[3] }, type := 3, pos := "outright.go:27", after := #[{ on := 14, ground := Ground.chain }, { on := 14, ground := Ground.guard }], guard := some (14, true) } : Oper)) rfl (fun Kq hKq => ?_) AllReadyH.nil
      go_simp
      (refine (HWD.out _).mono ?_; rintro e w8 ⟨rfl, rfl⟩)
      refine hKq.out _ _ ?_ (fun hHeld => ?_)
      · exact hHeld
      clear hKq Kq
      (try simp only [Act.put, List.setIfInBounds_toArray, List.set_cons_zero, List.set_cons_succ])
      refine wpAnyH_ready (rs := [20]) (by kernel_rfl) (by simp) ?_
      refine AllReadyH.cons (o := ({ dst := some 40, op := Op.call { callee := Callee.value (Operand.func 23), args := #[Operand.tmp 38, Operand.tmp 39], argTypes := #[30, 3] }, type := 4, pos := "outright.go:27", after := #[{ on := 18, ground := Ground.data }, { on := 19, ground := Ground.data }, { on := 19, ground := Ground.chain }, { on := 14, ground := Ground.guard }], guard := some (14, true) } : Oper)) rfl (fun Kq hKq => ?_) AllReadyH.nil
      go_simp
      (refine HSL.out.mono ?_; rintro e w8 ⟨rfl, rfl⟩)
      refine hKq.out _ _ ?_ (fun hHeld => ?_)
      · exact hHeld
      clear hKq Kq
      (try simp only [Act.put, List.setIfInBounds_toArray, List.set_cons_zero, List.set_cons_succ])
      refine wpAnyH_take (i := 21) (oi := ({ dst := some 41, op := Op.pick (Operand.tmp 34) (Operand.tmp 40) (Operand.const (Value.bool false)), type := 4, pos := "outright.go:27", after := #[{ on := 14, ground := Ground.data }, { on := 20, ground := Ground.data }], guard := none } : Oper)) (v := ?vzm18) rfl (by kernel_rfl) (by kernel_rfl) (by kernel_rfl) (fun _ _ _ h => h) (Or.inl ⟨by rfl, fun w hSw => ?hyzm18⟩) (by assumption) ?rzm18
      case hyzm18 => (try dsimp only at hSw); go_simp; (try with_reducible rfl)
      (try simp only [Act.put, List.setIfInBounds_toArray, List.set_cons_zero, List.set_cons_succ])
      refine wpAnyH_take (i := 22) (oi := ({ dst := some 0, op := Op.assign (Operand.tmp 41), type := 4, pos := "outright.go:27", after := #[{ on := 21, ground := Ground.data }, { on := 20, ground := Ground.chain }, { on := 0, ground := Ground.phase }, { on := 1, ground := Ground.phase }, { on := 2, ground := Ground.phase }, { on := 3, ground := Ground.phase }, { on := 4, ground := Ground.phase }, { on := 5, ground := Ground.phase }, { on := 6, ground := Ground.phase }, { on := 7, ground := Ground.phase }, { on := 8, ground := Ground.phase }, { on := 9, ground := Ground.phase }, { on := 10, ground := Ground.phase }, { on := 11, ground := Ground.phase }, { on := 12, ground := Ground.phase }, { on := 13, ground := Ground.phase }, { on := 14, ground := Ground.phase }, { on := 15, ground := Ground.phase }, { on := 16, ground := Ground.phase }, { on := 17, ground := Ground.phase }, { on := 18, ground := Ground.phase }, { on := 19, ground := Ground.phase }, { on := 20, ground := Ground.phase }, { on := 21, ground := Ground.phase }], guard := none } : Oper)) (v := ?vzm19) rfl (by kernel_rfl) (by kernel_rfl) (by kernel_rfl) (fun _ _ _ h => h) (Or.inl ⟨by rfl, fun w hSw => ?hyzm19⟩) (by assumption) ?rzm19
      case hyzm19 => (try dsimp only at hSw); go_simp; (try with_reducible rfl)
      (try simp only [Act.put, List.setIfInBounds_toArray, List.set_cons_zero, List.set_cons_succ])
      refine wpAnyH_done (by kernel_rfl) ?_ _
      go_wp2_with fail
      go_ret
      exact ⟨rfl, HB.out.drew⟩
end Go.Proofs.Ytdfnobdladiicaa.S13
namespace Go.Proofs.Ytdfnobdladiicaa.S13
open Go.Proofs.Ytdfnobdladiicaa Go.Proofs.Ytdfnobdladiicaa.S11 Go.Proofs.Ytdfnobdladiicaa.S12
open Go.RowKit

/-- How far a lock is that finds what stood, alone. -/
def Ph (who stood looks i : Nat) (M : Sd) (K : Lk) : Prop := K.t = who ∧ K.a = 265 ∧ (i ≤ looks + 2 → S2.look M.L 265 = stood) ∧
  ((i = 0 ∧ K.ln = 1) ∨ (1 ≤ i ∧ i ≤ looks ∧ K.ln = 3 ∧ K.sp = (looks : Int) - (i : Int)) ∨ (i = looks + 1 ∧ K.ln = 4 ∧ K.st = stood) ∨ (i = looks + 2 ∧ K.ln = 5 ∧ K.st = stood ∧ (M.pf (2 * who + 1)).p = false) ∨ (i = looks + 3 ∧ K.ln = 6 ∧ (M.pf (2 * who + 1)).p = false))
theorem bring265 (v : Nat) : S2.bring 265 v = v := by
  have e : S2.byteB 265 = false := by decide
  unfold S2.bring; rw [e]; rfl
theorem look265 (M : Sd) (k y : Nat) : S2.look (M.acc k 265 y).L 265 = y := by
  show S2.look (S2.putL M.L 265 (S2.bring 265 y)) 265 = y
  rw [S2.look_put_same, bring265]
theorem turn_on {K : Lk} {u : Nat} (hb : S1.bitB u 0 = true) : (K.turn u).st = u ∧ ((S1.headN u = -1 ∧ 0 < K.sp ∧ (K.turn u).ln = 3 ∧ (K.turn u).sp = K.sp - 1) ∨ ((S1.headN u ≠ -1 ∨ ¬ 0 < K.sp) ∧ (K.turn u).ln = 4)) := by
  unfold Lk.turn
  rw [if_neg (by rw [hb]; decide)]
  by_cases h : S1.headN u = -1
  · rw [if_pos h]
    by_cases h2 : 0 < K.sp
    · rw [if_pos h2]; exact ⟨rfl, .inl ⟨h, h2, rfl, rfl⟩⟩
    · rw [if_neg h2]; exact ⟨rfl, .inr ⟨.inr h2, rfl⟩⟩
  · rw [if_neg h]; exact ⟨rfl, .inr ⟨.inl h, rfl⟩⟩
theorem ph_step {who stood looks i : Nat} {M : Sd} {K : Lk} (hb : S1.bitB stood 0 = true) (h0 : stood ≠ 0) (hs : (S1.headN stood = -1 ∧ M.sp = (looks : Int)) ∨ (S1.headN stood ≠ -1 ∧ looks = 0)) (h : Ph who stood looks i M K) (hi : i < looks + 3) : Ph who stood looks (i + 1) (stepM M K) (stepK M K) := by
  obtain ⟨ht, ha, hl, hp⟩ := h
  replace hl := hl (by omega)
  refine ⟨(stepK_t M K).1.trans ht, (stepK_t M K).2.trans ha, fun hi2 => ?_, ?_⟩
  · rcases hp with ⟨_, e⟩ | ⟨_, _, e, _⟩ | ⟨_, e, _⟩ | ⟨e1, e, _, _⟩ | ⟨e1, _⟩
    · simp only [stepM, e, ha]; rw [look265, hl]; unfold S2.casV; rw [if_neg h0]
    · simp only [stepM, e, ha]; rw [look265, hl]
    · simp only [stepM, e]; exact hl
    · omega
    · omega
  · rcases hp with ⟨e1, e⟩ | ⟨e1, e2, e, e3⟩ | ⟨e1, e, e2⟩ | ⟨e1, e, e2, e3⟩ | ⟨e1, _⟩
    · subst e1
      have hk : stepK M K = ({ K with sp := M.sp } : Lk).turn stood := by
        simp only [stepK, e, ha]
        rw [hl]
        exact if_neg h0
      rw [hk]
      obtain ⟨t1, t2⟩ := turn_on (K := ({ K with sp := M.sp } : Lk)) hb
      have hsp : ({ K with sp := M.sp } : Lk).sp = M.sp := rfl
      rw [hsp] at t2
      rcases t2 with ⟨a1, a2, a3, a4⟩ | ⟨a1, a2⟩
      · rcases hs with ⟨_, hs⟩ | ⟨hs, _⟩
        · exact .inr (.inl ⟨by omega, by omega, a3, by rw [a4, hs]; omega⟩)
        · exact absurd a1 hs
      · refine .inr (.inr (.inl ⟨?_, a2, t1⟩))
        rcases hs with ⟨hs1, hs⟩ | ⟨_, hs⟩
        · rcases a1 with a1 | a1
          · exact absurd hs1 a1
          · omega
        · omega
    · have hk : stepK M K = K.turn stood := by simp only [stepK, e, ha, hl]
      rw [hk]
      obtain ⟨t1, t2⟩ := turn_on (K := K) hb
      rcases t2 with ⟨a1, a2, a3, a4⟩ | ⟨a1, a2⟩
      · exact .inr (.inl ⟨by omega, by omega, a3, by rw [a4, e3]; omega⟩)
      · refine .inr (.inr (.inl ⟨?_, a2, t1⟩))
        rcases hs with ⟨hs1, hs⟩ | ⟨_, hs⟩
        · rcases a1 with a1 | a1
          · exact absurd hs1 a1
          · omega
        · omega
    · have hk : stepK M K = { K with ln := 5 } := by simp only [stepK, e]
      have hm : stepM M K = (M.prep (2 * K.t + 1)).link (S5.pushS M.lk (some K.t) (hdO K.st)) := by simp only [stepM, e]
      rw [hk, hm, ht]
      exact .inr (.inr (.inr (.inl ⟨by omega, rfl, e2, by simp [Sd.link, Sd.prep, Sd.call, S4.updP, S4.pk0]⟩)))
    · have hk : stepK M K = { K with ln := 6 } := by
        simp only [stepK, e, ha]
        rw [hl]
        exact if_pos e2.symm
      have hm : (stepM M K).pf = M.pf := by simp only [stepM, e]; rfl
      rw [hk, hm]
      exact .inr (.inr (.inr (.inr ⟨by omega, rfl, e3⟩)))
    · omega
theorem lot_any (t : Nat) (ht : t < 64) (w : World) : Calls Try.prog 11 #[.int .i64 (t : Int)] w fun e w' => e = .returned (.int .i64 ((2 * t : Nat) : Int)) ∧ w = w' := by
  have hof : ∀ W, Calls Try.prog 21 #[.int .i64 (t : Int), .int .i64 0] W fun e w' => e = .returned (.int .i64 ((2 * t : Nat) : Int)) ∧ W = w' := fun W => by
    have h1 : decide ((t : Int) < 0) = false := by simp
    have h2 : decide ((64 : Int) ≤ (t : Int)) = false := by simp; omega
    have h3 : wrap64 (wrap64 (2 * (t : Int)) + 0) = ((2 * t : Nat) : Int) := by unfold wrap64; omega
    have h4 : wrap64 (2 * (t : Int)) = 2 * (t : Int) := by unfold wrap64; omega
    have h5 : wrap64 (2 * (t : Int) + 0) = ((2 * t : Nat) : Int) := by unfold wrap64; omega
    go_enter Try.func21, Try.ntmps21
    go_wp2_with fail
    go_ret
    exact ⟨by simp, rfl⟩
  have HO := Lib.hid hof
  clear hof ht
  go_enter Try.func11, Try.ntmps11
  go_wp2_with (go_at_call 21; refine (HO.out _).mono ?_; rintro e w1 ⟨rfl, rfl⟩)
  go_ret
  exact ⟨rfl, rfl⟩
/-- A lock that is parked, alone. -/
structure Pkd (M : Sd) (K : Lk) (who c : Nat) : Prop where
  go : LkGo M K c
  ln : K.ln = 6
  t : K.t = who
  a : K.a = 265
  p : (M.pf (2 * who + 1)).p = false
theorem Pkd.round {M : Sd} {K : Lk} {who c : Nat} (h : Pkd M K who c) (hc : c < 1000000) : stepK (M.unpark (2 * who)) K = K ∧ Pkd (stepM (M.unpark (2 * who)) K) K who (c + 2) := by
  have hp : ((M.unpark (2 * who)).pf (2 * who + 1)).p = false := by
    show (S4.updP M.pf (2 * who) _ (2 * who + 1)).p = false
    unfold S4.updP
    rw [if_neg (by omega)]
    exact h.p
  have hk : stepK (M.unpark (2 * who)) K = K := by
    simp only [stepK, h.ln, h.t, hp]; rfl
  have hg : LkGo (M.unpark (2 * who)) K (c + 1) := ⟨⟨h.go.ok.t, h.go.ok.a, h.go.ok.st, h.go.ok.sp, h.go.ok.ms, by have := h.go.n; show M.n ≤ _; omega, by have := h.go.pn; show M.pn + 1 ≤ _; omega⟩, h.go.ln, h.go.lk, by have := h.go.n; show M.n ≤ _; omega, by have := h.go.pn; show M.pn + 1 ≤ _; omega⟩
  have hs := hg.step (by omega)
  rw [hk] at hs
  refine ⟨hk, hs, h.ln, h.t, h.a, ?_⟩
  simp only [stepM, h.ln, h.t]
  show (S4.updP (M.unpark (2 * who)).pf (2 * who + 1) (S4.parkK ((M.unpark (2 * who)).pf (2 * who + 1))) (2 * who + 1)).p = false
  unfold S4.updP S4.parkK
  rw [if_pos rfl, if_neg (by rw [hp]; decide)]
/-- Woken: it looks again, and takes. -/
theorem Pkd.woken {M : Sd} {K : Lk} {who c : Nat} (h : Pkd M K who c) (hc : c < 1000000) :
    let M0 := (M.unpark (2 * who + 1)).acc 2 265 0
    let K1 := stepK M0 K; let M1 := stepM M0 K
    let K2 := stepK M1 K1; let M2 := stepM M1 K1
    LkGo M0 K (c + 2) ∧ K1.ln = 3 ∧ LkGo M1 K1 (c + 3) ∧ K2.ln = 2 ∧ LkGo M2 K2 (c + 4) ∧ (stepK M2 K2).ln = 0 ∧ S2.look (stepM M2 K2).L 265 = 1 := by
  intro M0 K1 M1 K2 M2
  have hl0 : S2.look M0.L 265 = 0 := look265 _ 2 0
  have hp : (M0.pf (2 * who + 1)).p = true := by
    show (S4.updP M.pf (2 * who + 1) _ (2 * who + 1)).p = true
    unfold S4.updP
    rw [if_pos rfl]
  have hg0 : LkGo M0 K (c + 2) := ⟨⟨h.go.ok.t, h.go.ok.a, h.go.ok.st, h.go.ok.sp, h.go.ok.ms, by have := h.go.n; show M.n + 1 ≤ _; omega, by have := h.go.pn; show M.pn + 1 ≤ _; omega⟩, h.go.ln, look_acc (M := M.unpark (2 * who + 1)) h.go.lk (by decide), by have := h.go.n; show M.n + 1 ≤ _; omega, by have := h.go.pn; show M.pn + 1 ≤ _; omega⟩
  have hk1 : K1 = { K with ln := 3, sp := M0.sp } := by
    show stepK M0 K = _
    simp only [stepK, h.ln, h.t, hp]; rfl
  have hm1 : M1.L = M0.L := by
    show (stepM M0 K).L = _
    simp only [stepM, h.ln]; rfl
  have hg1 : LkGo M1 K1 (c + 3) := hg0.step (by omega)
  have e1 : K1.ln = 3 := by rw [hk1]
  have a1 : K1.a = 265 := by rw [hk1]; exact h.a
  have hk2 : K2 = K1.turn 0 := by
    show stepK M1 K1 = _
    simp only [stepK, e1, a1, hm1, hl0]
  have hk2' : K2 = { K1 with st := 0, ln := 2 } := by rw [hk2]; unfold Lk.turn; rw [if_pos (by decide)]
  have hg2 : LkGo M2 K2 (c + 4) := hg1.step (by omega)
  have e2 : K2.ln = 2 := by rw [hk2']
  have a2 : K2.a = 265 := by rw [hk2']; exact a1
  have s2 : K2.st = 0 := by rw [hk2']
  have hl2 : S2.look M2.L 265 = 0 := by
    show S2.look (stepM M1 K1).L 265 = 0
    simp only [stepM, e1, a1]
    rw [look265, hm1, hl0]
  refine ⟨hg0, e1, hg1, e2, hg2, ?_, ?_⟩
  · simp only [stepK, e2, a2, s2, hl2]
    unfold Lk.cas; rw [if_pos rfl]
  · simp only [stepM, e2, a2, s2, hl2]
    rw [look265]; decide
end Go.Proofs.Ytdfnobdladiicaa.S13
namespace Go.Proofs.Ytdfnobdladiicaa.S13
open Go.Proofs.Ytdfnobdladiicaa Go.Proofs.Ytdfnobdladiicaa.S11 Go.Proofs.Ytdfnobdladiicaa.S12
open Go.RowKit

theorem head_nat (n : Nat) (h : n < 64) : S1.isHead (n : Int) := by unfold S1.isHead; omega
theorem g1_ (who : Nat) (hwho : who < 64) : wrap64 ((who : Int) + 1) = ((who + 1 : Nat) : Int) := by unfold wrap64; omega
theorem g2_ (who : Nat) (_hwho : who < 64) : ((who + 1 : Nat) : Int).tmod 64 = (((who + 1) % 64 : Nat) : Int) := by rw [Int.tmod_eq_emod_of_nonneg (by omega)]; omega
theorem g2p_ (who : Nat) (_hwho : who < 64) : ((who : Int) + 1) % 64 = (((who + 1) % 64 : Nat) : Int) := by omega
theorem g3_ (who : Nat) (_hwho : who < 64) : wrap64 (((who + 1) % 64 : Nat) : Int) = (((who + 1) % 64 : Nat) : Int) := by unfold wrap64; omega
set_option maxRecDepth 100000 in
set_option maxHeartbeats 8000000 in
theorem law_time (t s : Nat) (q : Bool) (ht : t < 256) (hs : s < 256) (w : World) : Calls Try.prog 3 #[.int .u8 (t : Int), .int .u8 (s : Int), .bool q] w fun e w' => e = .returned (.bool true) ∧ Below w.heap.size w w' := by
  have HW := Lib.hid (world_any s hs w)
  have f1 : (t : Int).tmod 64 = ((t % 64 : Nat) : Int) := by rw [Int.tmod_eq_emod_of_nonneg (by omega)]; omega
  have f1' : (t : Int) % 64 = ((t % 64 : Nat) : Int) := by omega
  have f2 : IntKind.u8.wrap ((t % 64 : Nat) : Int) = ((t % 64 : Nat) : Int) := by rw [IntKind.wrap_u8]; omega
  have f3 : IntKind.i64.wrap ((t % 64 : Nat) : Int) = ((t % 64 : Nat) : Int) := by rw [IntKind.wrap_i64]; omega
  have f4 : wrap64 ((t % 64 : Nat) : Int) = ((t % 64 : Nat) : Int) := by unfold wrap64; omega
  have e1 : (s : Int).tmod 17 = ((s % 17 : Nat) : Int) := by rw [Int.tmod_eq_emod_of_nonneg (by omega)]; omega
  have e1' : (s : Int) % 17 = ((s % 17 : Nat) : Int) := by omega
  have e2 : IntKind.u8.wrap ((s % 17 : Nat) : Int) = ((s % 17 : Nat) : Int) := by rw [IntKind.wrap_u8]; omega
  have e3 : IntKind.i64.wrap ((s % 17 : Nat) : Int) = ((s % 17 : Nat) : Int) := by rw [IntKind.wrap_i64]; omega
  have e4 : wrap64 ((s % 17 : Nat) : Int) = ((s % 17 : Nat) : Int) := by unfold wrap64; omega
  have hwho : t % 64 < 64 := Nat.mod_lt _ (by omega)
  have hlks : s % 17 < 17 := Nat.mod_lt _ (by omega)
  generalize t % 64 = who at *
  generalize s % 17 = lks at *
  have HN := Lib.hid (And.intro hwho hlks)
  clear hwho hlks ht hs
  go_enter Try.func3, Try.ntmps3
  go_upto_region 4 with (go_at_call 4; refine HW.out.mono ?_; rintro e w1 ⟨X, rfl, hp, h0, hb⟩)
  have hpg := pg_of hp hb
  rw [at0_sd h0] at hpg
  obtain ⟨WB, hWB⟩ : ∃ x, x = X.wB := ⟨_, rfl⟩
  rw [← hWB] at hpg ⊢
  have HPG := Lib.hid hpg
  clear hp h0 hb hWB hpg HW
  go_upto_if 24 with fail
  clear f1 f1' f2 f3 f4 e1 e1' e2 e3 e4
  go_cut [9, 10] from 25 to 29 (fun s9 s10 wx => ∃ (stood looks : Nat), s9 = .int .u64 (stood : Int) ∧ s10 = .int .i64 (looks : Int) ∧ S1.bitB stood 0 = true ∧ stood ≠ 0 ∧ stood ≤ 259 ∧ looks < 17 ∧ ((S1.headN stood = -1 ∧ lks = looks) ∨ (S1.headN stood ≠ -1 ∧ looks = 0)) ∧ ∃ X, Pg w wx w.heap.size WB (sdN (lks : Int) 5) [] X)
  case first =>
    cases q
    · go_wp2_with fail
      go_meet
      exact ⟨1, lks, rfl, rfl, by decide, by decide, by decide, HN.out.2, .inl ⟨by decide, rfl⟩, X, HPG.out⟩
    · obtain ⟨nx, hnx⟩ : ∃ x, x = (who + 1) % 64 := ⟨_, rfl⟩
      have hnx9 : nx < 64 := by omega
      obtain ⟨pw, hpw⟩ : ∃ x, x = S1.putU true false (nx : Int) := ⟨_, rfl⟩
      have HPT : Hid (∀ W, Calls Try.prog 5 #[.agg #[.bool true, .bool false, .int .i64 (nx : Int)]] W fun e w' => e = .returned (.int .u64 (pw : Int)) ∧ Below W.heap.size W w') := Lib.hid (fun W => by rw [hpw]; exact S1.putU_any true false (nx : Int) (head_nat nx hnx9) W)
      have HPW := Lib.hid hpw
      have HNX := Lib.hid hnx9
      have g1 : wrap64 ((who : Int) + 1) = (who : Int) + 1 := by have := HN.out.1; unfold wrap64; omega
      have g2 : ((who : Int) + 1) % 64 = (nx : Int) := by omega
      have g2t : ((who : Int) + 1).tmod 64 = (nx : Int) := by rw [Int.tmod_eq_emod_of_nonneg (by omega)]; omega
      have g3 : wrap64 (nx : Int) = (nx : Int) := by unfold wrap64; omega
      clear hnx hnx9 hpw
      go_upto_region 9 with (go_at_call 5; refine (HPT.out _).mono ?_; rintro e w2 ⟨rfl, hb2⟩)
      clear g1 g2 g2t g3 HPT
      go_wp2_with fail
      go_meet
      obtain ⟨n, p1, p2, p3, p4, p5⟩ := S1.put_nat true false (nx : Int) (head_nat nx HNX.out)
      have p6 : S1.putU true false (nx : Int) = n := by unfold S1.putU; rw [p1]; rfl
      rw [HPW.out]
      exact ⟨S1.putU true false (nx : Int), 0, rfl, rfl, by rw [p6]; exact p3, by rw [p6]; intro e; subst e; revert p3; decide, by rw [p6]; exact p2, by decide, .inr ⟨by rw [p6, p5]; omega, rfl⟩, X, HPG.out.new hb2⟩
  case rest =>
    obtain ⟨stood, looks, rfl, rfl, hb0, hne, h259, hlk, hhd, X, hpg⟩ := hcut
    have HST := Lib.hid (hpg.store (a := 265) (v := stood) (by decide) (by omega) (by show 0 ≤ 1000000000; decide))
    have hc0 := hpg.c.1
    have HNL : Hid (∀ W, Calls Try.prog 7 #[.int .i64 (who : Int), .int .u32 265] W fun e w' => e = .returned (Pw W.heap.size) ∧ w' = W.alloc (.cells (lk1 who 265).cs 65)) := Lib.hid (fun W => by
      have := new_lock (who : Int) 265 W
      have e : newK (who : Int) 265 = lk1 who 265 := by unfold newK; rw [if_pos (by have := HN.out.1; omega)]; rfl
      rw [e] at this
      exact this)
    have HH := Lib.hid (And.intro hb0 (And.intro hne (And.intro h259 (And.intro hlk hhd))))
    clear hpg hb0 hne h259 hlk hhd HPG
    go_upto_region 11 with (go_at_call 6; refine HST.out.mono ?_; rintro e w2 ⟨rfl, X2, hp2, _⟩)
    have hlw := Pg.lock hp2 (lk1 who 265)
    have HLW := Lib.hid hlw
    clear hp2 hlw HST hc0
    go_upto_region 12 with (go_at_call 7; refine (HNL.out _).mono ?_; rintro e w3 ⟨rfl, rfl⟩)
    generalize w2.alloc (.cells (lk1 who 265).cs 65) = w3 at *
    generalize w2.heap.size = B at *
    clear HNL
    have HG0 : Hid (LkGo ((sdN (lks : Int) 5).acc 2 265 stood) (lk1 who 265) 5) := Lib.hid ⟨⟨HN.out.1, (by show 265 < 4294967296; decide), (by show 0 < 18446744073709551616; decide), (by show (0 : Int) ≤ 0 ∧ (0 : Int) ≤ 16; decide), (by have := HN.out.2; show 0 ≤ (lks : Int) ∧ (lks : Int) ≤ 16; omega), (by show 0 + 1 ≤ 1000000000; decide), (by show 0 ≤ 1000000000; decide)⟩, (by show 1 ≤ 6; decide), look_acc (M := sdN (lks : Int) 5) l02_lt (by have := HH.out.2.2.1; omega), (by show 0 + 1 ≤ 5; decide), (by show 0 ≤ 5; decide)⟩
    have HP0 : Hid (Ph who stood looks 0 ((sdN (lks : Int) 5).acc 2 265 stood) (lk1 who 265)) := Lib.hid ⟨rfl, rfl, fun _ => look265 _ 2 stood, .inl ⟨rfl, rfl⟩⟩
    have HS0 : Hid (((sdN (lks : Int) 5).acc 2 265 stood).sp = (lks : Int)) := Lib.hid rfl
    generalize (sdN (lks : Int) 5).acc 2 265 stood = M0 at *
    go_wp2_with fail
    go_loopg [12] (looks + 3) (fun q s12 wx => ∃ i : Nat, i ≤ looks + 3 ∧ q = looks + 3 - i ∧ s12 = .int .i64 (i : Int) ∧ ∃ M K X, Wl w wx w.heap.size WB M ([] ++ [lockP B (lk1 who 265)]) 0 B K X ∧ LkGo M K (5 + i) ∧ Ph who stood looks i M K ∧ M.sp = (lks : Int))
    case atStart => exact ⟨0, by omega, by omega, rfl, M0, lk1 who 265, X2, HLW.out, HG0.out, HP0.out, HS0.out⟩
    case round =>
      obtain ⟨i, hi, rfl, rfl, M, K, X3, h, hgo, hph, hsp⟩ := hrel
      have hlk := HH.out.2.2.2.1
      have h9 : wrap64 (3 + (looks : Int)) = 3 + (looks : Int) := by unfold wrap64; omega
      by_cases hi3 : i < looks + 3
      · have hst := step_any h hgo.ok hgo.ln
        have hph2 := ph_step HH.out.1 HH.out.2.1 (by
          rcases HH.out.2.2.2.2 with ⟨a, b⟩ | ⟨a, b⟩
          · exact .inl ⟨a, by rw [hsp, b]⟩
          · exact .inr ⟨a, b⟩) hph hi3
        have hln : ¬ (stepK M K).ln = 0 := by
          obtain ⟨_, _, _, h5⟩ := hph2
          omega
        have hl6 : decide ((stepK M K).ln = 6) = decide (i = looks + 2) := by
          obtain ⟨_, _, _, h5⟩ := hph2
          by_cases e : i = looks + 2
          · rw [decide_eq_true e, decide_eq_true (by omega)]
          · rw [decide_eq_false e, decide_eq_false (by omega)]
        have hbq : ((i : Int) == 2 + (looks : Int)) = decide (i = looks + 2) := by
          by_cases e : i = looks + 2
          · rw [decide_eq_true e, beq_iff_eq]; omega
          · rw [decide_eq_false e, beq_eq_false_iff_ne]; omega
        rw [decide_eq_false hln] at hst
        have HWT : Hid (∀ w', Stepped w w' w.heap.size WB M ([] ++ [lockP B (lk1 who 265)]) 0 B K → Calls Try.prog 9 #[Pw B] w' fun e w'' => e = .returned (.bool (decide (i = looks + 2))) ∧ w' = w'') := Lib.hid (fun w' ⟨X', h'⟩ => by
          have := waits_any h'.at
          rwa [hl6] at this)
        have HI := Lib.hid hi3
        have HST := Lib.hid hst
        have HGO := Lib.hid (hgo.step (by omega)); have HPH := Lib.hid hph2
        have HSP := Lib.hid ((stepM_sp M K).trans hsp)
        have h10 : wrap64 (2 + (looks : Int)) = 2 + (looks : Int) := by unfold wrap64; omega
        have h11 : wrap64 ((i : Int) + 1) = (i : Int) + 1 := by unfold wrap64; omega
        have d1 : (i : Int) < 3 + (looks : Int) := by omega
        have d2 : decide ((i : Int) < 3 + (looks : Int)) = true := decide_eq_true d1
        clear hst hph2 hln hl6 h hgo hph hsp hi hi3 d1
        generalize decide (i = looks + 2) = b at *
        go_wp2_with (first
          | (go_at_call 8; refine HST.out.mono ?_; rintro e w6 ⟨rfl, hs⟩; have HW2 := Lib.hid (HWT.out _ hs); have HS := Lib.hid hs; clear hs)
          | (go_at_call 9; refine HW2.out.mono ?_; rintro e w7 ⟨rfl, rfl⟩))
        go_roundg (looks + 3 - (i + 1))
        case measure => have := HI.out; omega
        case rel =>
          obtain ⟨X', h'⟩ := HS.out
          exact ⟨i + 1, by have := HI.out; omega, rfl, by rw [h11, Int.natCast_add]; rfl, _, _, X', h', by rw [← Nat.add_assoc]; exact HGO.out, HPH.out, HSP.out⟩
      · obtain rfl : i = looks + 3 := by omega
        have hpk : Pkd M K who 30 := by
          obtain ⟨p1, p2, _, p4⟩ := hph
          rcases p4 with ⟨e, _⟩ | ⟨_, e, _⟩ | ⟨e, _⟩ | ⟨e, _⟩ | ⟨_, e, e2⟩
          · omega
          · omega
          · omega
          · omega
          · exact ⟨⟨hgo.ok, hgo.ln, hgo.lk, Nat.le_trans hgo.n (by omega), Nat.le_trans hgo.pn (by omega)⟩, e, p1, p2, e2⟩
        have HPK := Lib.hid hpk; have HL := Lib.hid h
        have d2 : decide (((looks + 3 : Nat) : Int) < 3 + (looks : Int)) = false := by rw [decide_eq_false_iff_not]; omega
        clear hpk h hgo hph hsp hi hi3 HG0 HP0 HS0 HLW hlk
        go_wp2_with fail
        clear d2 h9
        go_loopg [13] 5 (fun q s13 wx => ∃ i : Nat, i ≤ 5 ∧ q = 5 - i ∧ s13 = .int .i64 (i : Int) ∧ ∃ M K X, Wl w wx w.heap.size WB M ([] ++ [lockP B (lk1 who 265)]) 0 B K X ∧ Pkd M K who (30 + 2 * i))
        case atStart => exact ⟨0, by omega, rfl, rfl, M, K, X3, HL.out, HPK.out⟩
        case round =>
          obtain ⟨i, hi, rfl, rfl, M, K, X2, h, hpk⟩ := hrel
          have hq2 : wr.drew.cell? ⟨WB, 2, none⟩ = some (Pw X2.pB) := h.pg.c.2.1
          by_cases hi5 : i < 5
          · have hun := (h.new (Below.refl _ _).drew).pg.unpark (i := 2 * who) (by have := hpk.go.pn; omega) (by have := HN.out.1; omega)
            have HUN := Lib.hid hun
            have HCT := Lib.hid (fun W => lot_any who HN.out.1 W)
            obtain ⟨hk, hrd⟩ := hpk.round (by omega)
            have HOK : Hid (LkOk (M.unpark (2 * who)) K) := Lib.hid ⟨hpk.go.ok.t, hpk.go.ok.a, hpk.go.ok.st, hpk.go.ok.sp, hpk.go.ok.ms, hpk.go.ok.n, by have := hpk.go.pn; show M.pn + 1 ≤ _; omega⟩
            have HK := Lib.hid hk; have HRD := Lib.hid hrd; have H0 := Lib.hid h; have HL6 := Lib.hid hpk.ln; have HI := Lib.hid hi5
            have d1 : (i : Int) < 5 := by omega
            clear hun hk hrd hpk h hi hi5
            go_upto_region 20 with (fail)
            refine wp_region_held_drew (S := fun w' => w'.cell? ⟨WB, 2, none⟩ = some (Pw X2.pB)) (by kernel_rfl) ?_ (fun hHeld => ?_)
            · exact hq2
            refine wpAnyH_take (i := 0) (oi := ({ dst := some 60, op := Op.move (Operand.tmp 7), type := 22, pos := "outright.go:98", after := #[], guard := none } : Oper)) (v := ?vam1) rfl (by kernel_rfl) (by kernel_rfl) (by kernel_rfl) (fun _ _ _ h => h) (Or.inl ⟨by rfl, fun w hSw => ?hyam1⟩) (by assumption) ?ram1
            case hyam1 => (try dsimp only at hSw); go_simp; (try with_reducible rfl)
            (try simp only [Act.put, List.setIfInBounds_toArray, List.set_cons_zero, List.set_cons_succ])
            refine wpAnyH_take (i := 1) (oi := ({ dst := some 61, op := Op.nilCheck (Operand.tmp 60), type := 0, pos := "outright.go:98", after := #[{ on := 0, ground := Ground.data }], guard := none } : Oper)) (v := ?vam2) rfl (by kernel_rfl) (by kernel_rfl) (by kernel_rfl) (fun _ _ _ h => h) (Or.inl ⟨by rfl, fun w hSw => ?hyam2⟩) (by assumption) ?ram2
            case hyam2 => (try dsimp only at hSw); go_simp; (try with_reducible rfl)
            (try simp only [Act.put, List.setIfInBounds_toArray, List.set_cons_zero, List.set_cons_succ])
            refine wpAnyH_take (i := 2) (oi := ({ dst := some 62, op := Op.fieldAddr 36 (Operand.tmp 61) 2, type := 0, pos := "outright.go:98", after := #[{ on := 1, ground := Ground.data }], guard := none } : Oper)) (v := ?vam3) rfl (by kernel_rfl) (by kernel_rfl) (by kernel_rfl) (fun _ _ _ h => h) (Or.inl ⟨by rfl, fun w hSw => ?hyam3⟩) (by assumption) ?ram3
            case hyam3 => (try dsimp only at hSw); go_simp; (try with_reducible rfl)
            (try simp only [Act.put, List.setIfInBounds_toArray, List.set_cons_zero, List.set_cons_succ])
            refine wpAnyH_take (i := 3) (oi := ({ dst := some 63, op := Op.load 30 (Operand.tmp 62), type := 30, pos := "outright.go:98", after := #[{ on := 2, ground := Ground.data }], guard := none } : Oper)) (v := ?vam4) rfl (by kernel_rfl) (by kernel_rfl) (by kernel_rfl) (fun _ _ _ h => h) (Or.inl ⟨by rfl, fun w hSw => ?hyam4⟩) (by assumption) ?ram4
            case hyam4 => (try dsimp only at hSw); go_simp; (try with_reducible rfl)
            (try simp only [Act.put, List.setIfInBounds_toArray, List.set_cons_zero, List.set_cons_succ])
            refine wpAnyH_take (i := 4) (oi := ({ dst := some 64, op := Op.move (Operand.tmp 8), type := 3, pos := "outright.go:98", after := #[], guard := none } : Oper)) (v := ?vam5) rfl (by kernel_rfl) (by kernel_rfl) (by kernel_rfl) (fun _ _ _ h => h) (Or.inl ⟨by rfl, fun w hSw => ?hyam5⟩) (by assumption) ?ram5
            case hyam5 => (try dsimp only at hSw); go_simp; (try with_reducible rfl)
            (try simp only [Act.put, List.setIfInBounds_toArray, List.set_cons_zero, List.set_cons_succ])
            refine wpAnyH_ready (rs := [5]) (by kernel_rfl) (by simp) ?_
            refine AllReadyH.cons (o := ({ dst := some 65, op := Op.call { callee := Callee.value (Operand.func 11), args := #[Operand.tmp 64], argTypes := #[3] }, type := 3, pos := "outright.go:98", after := #[{ on := 4, ground := Ground.data }], guard := none } : Oper)) rfl (fun Kq hKq => ?_) AllReadyH.nil
            go_simp
            (refine (HCT.out _).mono ?_; rintro e w8 ⟨rfl, rfl⟩)
            refine hKq.out _ _ ?_ (fun hHeld => ?_)
            · exact hHeld
            clear hKq Kq
            (try simp only [Act.put, List.setIfInBounds_toArray, List.set_cons_zero, List.set_cons_succ])
            refine wpAnyH_ready (rs := [6]) (by kernel_rfl) (by simp) ?_
            refine AllReadyH.cons (o := ({ dst := some 66, op := Op.call { callee := Callee.value (Operand.func 10), args := #[Operand.tmp 63, Operand.tmp 65], argTypes := #[30, 3] }, type := 0, pos := "outright.go:98", after := #[{ on := 3, ground := Ground.data }, { on := 5, ground := Ground.data }, { on := 5, ground := Ground.chain }], guard := none } : Oper)) rfl (fun Kq hKq => ?_) AllReadyH.nil
            go_simp
            (refine HUN.out.mono ?_; rintro e w9 ⟨rfl, X9, h9g, hpB⟩; have q9 := h9g.c.2.1; rw [hpB] at q9)
            refine hKq.out _ _ ?_ (fun hHeld => ?_)
            · exact q9
            clear hKq Kq
            (try simp only [Act.put, List.setIfInBounds_toArray, List.set_cons_zero, List.set_cons_succ])
            refine wpAnyH_done (by kernel_rfl) ?_ _
            have hw9 : Wl w w9 w.heap.size WB (M.unpark (2 * who)) ([] ++ [lockP B (lk1 who 265)]) 0 B K X9 := ⟨h9g, H0.out.hj⟩
            have hst := step_any hw9 HOK.out (by rw [HL6.out]; decide)
            rw [HK.out, HL6.out] at hst
            have HST : Hid (Calls Try.prog 8 #[Pw B, Pw WB] w9 fun e w' => e = .returned (.bool false) ∧ Stepped w w' w.heap.size WB (M.unpark (2 * who)) ([] ++ [lockP B (lk1 who 265)]) 0 B K) := Lib.hid hst
            have HWT : Hid (∀ w', Stepped w w' w.heap.size WB (M.unpark (2 * who)) ([] ++ [lockP B (lk1 who 265)]) 0 B K → Calls Try.prog 9 #[Pw B] w' fun e w'' => e = .returned (.bool true) ∧ w' = w'') := Lib.hid (fun w' ⟨X', h'⟩ => by
              rw [HK.out] at h'
              have := waits_any h'.at
              rwa [HL6.out] at this)
            clear hHeld hw9 hst h9g hpB q9 hq2 HUN HCT
            go_wp2_with (first
              | (go_at_call 8; refine HST.out.mono ?_; rintro e w10 ⟨rfl, hs⟩; have HW2 := Lib.hid (HWT.out _ hs); have HS := Lib.hid hs; clear hs)
              | (go_at_call 9; refine HW2.out.mono ?_; rintro e w11 ⟨rfl, rfl⟩))
            go_roundg (5 - (i + 1))
            case measure => have := HI.out; omega
            case rel =>
              obtain ⟨X', h'⟩ := HS.out
              rw [HK.out] at h'
              exact ⟨i + 1, by have := HI.out; omega, rfl, by go_num, _, _, X', h', HRD.out⟩
          · obtain rfl : i = 5 := by omega
            have hun := (h.new (Below.refl _ _).drew).pg.unpark (i := 2 * who + 1) (by have := hpk.go.pn; omega) (by have := HN.out.1; omega)
            have HUN := Lib.hid hun
            have HCT := Lib.hid (fun W => word_any who HN.out.1 W)
            have HWK := Lib.hid (hpk.woken (by decide))
            have HNU := Lib.hid (show (M.unpark (2 * who + 1)).n ≤ 1000000000 from by have := hpk.go.n; show M.n ≤ _; omega)
            have HJ := Lib.hid h.hj
            clear hun hpk h hi hi5
            go_upto_region 23 with (fail)
            refine wp_region_held_drew (S := fun w' => w'.cell? ⟨WB, 2, none⟩ = some (Pw X2.pB)) (by kernel_rfl) ?_ (fun hHeld => ?_)
            · exact hq2
            refine wpAnyH_take (i := 0) (oi := ({ dst := some 75, op := Op.move (Operand.tmp 7), type := 22, pos := "outright.go:103", after := #[], guard := none } : Oper)) (v := ?vbm1) rfl (by kernel_rfl) (by kernel_rfl) (by kernel_rfl) (fun _ _ _ h => h) (Or.inl ⟨by rfl, fun w hSw => ?hybm1⟩) (by assumption) ?rbm1
            case hybm1 => (try dsimp only at hSw); go_simp; (try with_reducible rfl)
            (try simp only [Act.put, List.setIfInBounds_toArray, List.set_cons_zero, List.set_cons_succ])
            refine wpAnyH_take (i := 1) (oi := ({ dst := some 76, op := Op.nilCheck (Operand.tmp 75), type := 0, pos := "outright.go:103", after := #[{ on := 0, ground := Ground.data }], guard := none } : Oper)) (v := ?vbm2) rfl (by kernel_rfl) (by kernel_rfl) (by kernel_rfl) (fun _ _ _ h => h) (Or.inl ⟨by rfl, fun w hSw => ?hybm2⟩) (by assumption) ?rbm2
            case hybm2 => (try dsimp only at hSw); go_simp; (try with_reducible rfl)
            (try simp only [Act.put, List.setIfInBounds_toArray, List.set_cons_zero, List.set_cons_succ])
            refine wpAnyH_take (i := 2) (oi := ({ dst := some 77, op := Op.fieldAddr 36 (Operand.tmp 76) 2, type := 0, pos := "outright.go:103", after := #[{ on := 1, ground := Ground.data }], guard := none } : Oper)) (v := ?vbm3) rfl (by kernel_rfl) (by kernel_rfl) (by kernel_rfl) (fun _ _ _ h => h) (Or.inl ⟨by rfl, fun w hSw => ?hybm3⟩) (by assumption) ?rbm3
            case hybm3 => (try dsimp only at hSw); go_simp; (try with_reducible rfl)
            (try simp only [Act.put, List.setIfInBounds_toArray, List.set_cons_zero, List.set_cons_succ])
            refine wpAnyH_take (i := 3) (oi := ({ dst := some 78, op := Op.load 30 (Operand.tmp 77), type := 30, pos := "outright.go:103", after := #[{ on := 2, ground := Ground.data }], guard := none } : Oper)) (v := ?vbm4) rfl (by kernel_rfl) (by kernel_rfl) (by kernel_rfl) (fun _ _ _ h => h) (Or.inl ⟨by rfl, fun w hSw => ?hybm4⟩) (by assumption) ?rbm4
            case hybm4 => (try dsimp only at hSw); go_simp; (try with_reducible rfl)
            (try simp only [Act.put, List.setIfInBounds_toArray, List.set_cons_zero, List.set_cons_succ])
            refine wpAnyH_take (i := 4) (oi := ({ dst := some 79, op := Op.move (Operand.tmp 8), type := 3, pos := "outright.go:103", after := #[], guard := none } : Oper)) (v := ?vbm5) rfl (by kernel_rfl) (by kernel_rfl) (by kernel_rfl) (fun _ _ _ h => h) (Or.inl ⟨by rfl, fun w hSw => ?hybm5⟩) (by assumption) ?rbm5
            case hybm5 => (try dsimp only at hSw); go_simp; (try with_reducible rfl)
            (try simp only [Act.put, List.setIfInBounds_toArray, List.set_cons_zero, List.set_cons_succ])
            refine wpAnyH_ready (rs := [5]) (by kernel_rfl) (by simp) ?_
            refine AllReadyH.cons (o := ({ dst := some 80, op := Op.call { callee := Callee.value (Operand.func 12), args := #[Operand.tmp 79], argTypes := #[3] }, type := 3, pos := "outright.go:103", after := #[{ on := 4, ground := Ground.data }], guard := none } : Oper)) rfl (fun Kq hKq => ?_) AllReadyH.nil
            go_simp
            (refine (HCT.out _).mono ?_; rintro e w8 ⟨rfl, rfl⟩)
            refine hKq.out _ _ ?_ (fun hHeld => ?_)
            · exact hHeld
            clear hKq Kq
            (try simp only [Act.put, List.setIfInBounds_toArray, List.set_cons_zero, List.set_cons_succ])
            refine wpAnyH_ready (rs := [6]) (by kernel_rfl) (by simp) ?_
            refine AllReadyH.cons (o := ({ dst := some 81, op := Op.call { callee := Callee.value (Operand.func 10), args := #[Operand.tmp 78, Operand.tmp 80], argTypes := #[30, 3] }, type := 0, pos := "outright.go:103", after := #[{ on := 3, ground := Ground.data }, { on := 5, ground := Ground.data }, { on := 5, ground := Ground.chain }], guard := none } : Oper)) rfl (fun Kq hKq => ?_) AllReadyH.nil
            go_simp
            (refine HUN.out.mono ?_; rintro e w9 ⟨rfl, X9, h9g, hpB⟩; have q9 := h9g.c.2.1; rw [hpB] at q9)
            refine hKq.out _ _ ?_ (fun hHeld => ?_)
            · exact q9
            clear hKq Kq
            (try simp only [Act.put, List.setIfInBounds_toArray, List.set_cons_zero, List.set_cons_succ])
            refine wpAnyH_done (by kernel_rfl) ?_ _
            have HST := Lib.hid (h9g.store (a := 265) (v := 0) (by decide) (by decide) HNU.out)
            have hc9 := h9g.c.1
            clear hHeld hpB q9 hq2 HUN HCT h9g
            go_upto_region 25 with (go_at_call 6; refine HST.out.mono ?_; rintro e w10 ⟨rfl, X10, hp10, _⟩)
            have h10 : Wl w w10 w.heap.size WB ((M.unpark (2 * who + 1)).acc 2 265 0) ([] ++ [lockP B (lk1 who 265)]) 0 B K X10 := ⟨hp10, HJ.out⟩
            obtain ⟨k1, k2, k3, k4, k5, k6, k7⟩ := HWK.out
            have hs1 := step_any h10 k1.ok k1.ln
            rw [k2] at hs1
            have HS1 : Hid (Calls Try.prog 8 #[Pw B, Pw WB] w10 fun e w' => e = .returned (.bool false) ∧ Stepped w w' w.heap.size WB ((M.unpark (2 * who + 1)).acc 2 265 0) ([] ++ [lockP B (lk1 who 265)]) 0 B K) := Lib.hid hs1
            clear HST hc9 hp10 h10 hs1
            generalize (M.unpark (2 * who + 1)).acc 2 265 0 = N0 at *
            have HC2 : Hid (∀ w', Stepped w w' w.heap.size WB N0 ([] ++ [lockP B (lk1 who 265)]) 0 B K → (Calls Try.prog 9 #[Pw B] w' fun e w'' => e = .returned (.bool false) ∧ w' = w'') ∧ Calls Try.prog 8 #[Pw B, Pw WB] w' fun e w'' => e = .returned (.bool false) ∧ Stepped w w'' w.heap.size WB (stepM N0 K) ([] ++ [lockP B (lk1 who 265)]) 0 B (stepK N0 K)) := Lib.hid (fun w' ⟨X', h'⟩ => by
              have a1 := waits_any h'.at
              have a2 := step_any h' k3.ok k3.ln
              rw [k2] at a1
              rw [k4] at a2
              exact ⟨a1, a2⟩)
            have HC3 : Hid (∀ w', Stepped w w' w.heap.size WB (stepM N0 K) ([] ++ [lockP B (lk1 who 265)]) 0 B (stepK N0 K) → Calls Try.prog 8 #[Pw B, Pw WB] w' fun e w'' => e = .returned (.bool true) ∧ Stepped w w'' w.heap.size WB (stepM (stepM N0 K) (stepK N0 K)) ([] ++ [lockP B (lk1 who 265)]) 0 B (stepK (stepM N0 K) (stepK N0 K))) := Lib.hid (fun w' ⟨X', h'⟩ => by
              have a2 := step_any h' k5.ok k5.ln
              rw [k6] at a2
              exact a2)
            have HK7 := Lib.hid k7
            clear k1 k2 k3 k4 k5 k6 k7
            go_upto_region 27 with (first
              | (go_at_call 8; refine HS3.out.mono ?_; rintro e w13 ⟨rfl, hs3⟩; have HE := Lib.hid hs3; clear hs3)
              | (go_at_call 8; refine HS2.out.mono ?_; rintro e w12 ⟨rfl, hs2⟩; have HS3 := Lib.hid (HC3.out _ hs2); clear hs2)
              | (go_at_call 9; refine HWT.out.mono ?_; rintro e w11 ⟨rfl, rfl⟩)
              | (go_at_call 8; refine HS1.out.mono ?_; rintro e w11 ⟨rfl, hs1⟩; have HWT := Lib.hid (HC2.out _ hs1).1; have HS2 := Lib.hid (HC2.out _ hs1).2; clear hs1))
            obtain ⟨Xe, he⟩ := HE.out
            have hce := he.pg.c.1
            have HPE : Hid (Calls Try.prog 13 #[Pw Xe.cB, .int .u32 265] w13 fun e w' => e = .returned (.int .u64 1) ∧ w13 = w') := Lib.hid (by
              have := S2.peek_any _ Xe.cB Xe.cM Xe.L Xe.n Xe.k Xe.a Xe.was Xe.is 265 he.pg.pw.cells (by decide)
              rw [show Xe.L = _ from congrArg Sd.L he.pg.xm, HK7.out] at this
              exact this)
            have HLV := Lib.hid (lives_any w13)
            have HBL := Lib.hid he.pg.bl
            clear he HS1 HS2 HS3 HWT HC2 HC3 HE
            go_wp2_with (first
              | (go_at_call 13; refine HPE.out.mono ?_; rintro e w14 ⟨rfl, rfl⟩)
              | (go_at_call 14; refine HLV.out.mono ?_; rintro e w15 ⟨rfl, hb15⟩))
            go_ret
            exact ⟨rfl, HBL.out.trans (hb15.mono HBL.out.size)⟩
end Go.Proofs.Ytdfnobdladiicaa.S13
