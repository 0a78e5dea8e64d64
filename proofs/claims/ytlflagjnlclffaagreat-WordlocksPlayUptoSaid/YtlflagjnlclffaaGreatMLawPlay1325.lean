/- Texts of this seat, one behind the other. -/
import Derived.Test.YtlflagjnlclffaaGreatMLawPlay1324
import Derived.Deep.CutBlock
import Derived.Laws.EntriesVeiled
set_option linter.unusedVariables false
set_option linter.unusedSimpArgs false
namespace Go.Proofs.YtlflagjnlclffaaGreat.S13
open Go.Proofs.YtlflagjnlclffaaGreat Go.Proofs.YtlflagjnlclffaaGreat.S11 Go.Proofs.YtlflagjnlclffaaGreat.S12
open Go.RowKit

section
variable {w0 w w' : World} {base WB : Nat} {M : Sd} {r : List Part} {j B : Nat} {K : Lk} {X : Wm}
theorem Wl.pushB (h : Wl w0 w base WB M r j B K X) (ob : Obj) : Wl w0 (w.alloc ob) base WB M (r ++ [blockP w.heap.size ob]) j B K X := by
  have hp := h.pg.ps.push (blockP w.heap.size ob) (below1 w ob) (heap_alloc_new w ob) (fun k e => Nat.le_of_eq (show k = w.heap.size from e).symm)
  rw [List.append_assoc] at hp
  refine ⟨⟨?_, h.pg.wB, h.pg.xm, h.pg.bl.alloc h.pg.size _⟩, by rw [List.length_append]; have := h.hj; simp; omega⟩
  rw [List.set_append_left _ _ h.hj]
  exact hp
theorem Wl.dropB {q : Part} (h : Wl w0 w base WB M (r ++ [q]) j B K X) (hj : j < r.length) : Wl w0 w base WB M r j B K X := by
  have hp := h.pg.ps
  rw [List.set_append_left _ _ hj, ← List.append_assoc] at hp
  exact ⟨⟨Parts.left hp, h.pg.wB, h.pg.xm, h.pg.bl⟩, hj⟩
theorem Wl.last {Q : Nat} {ob : Obj} (h : Wl w0 w base WB M (r ++ [blockP Q ob]) j B K X) (hj : j < r.length) : w.heap[Q]? = some ob := by
  have hp := h.pg.ps
  rw [List.set_append_left _ _ hj, ← List.append_assoc] at hp
  refine hp.ok (X.parts ++ r.set j (lockP B K)).length (blockP Q ob) ?_
  rw [List.getElem?_append_right (Nat.le_refl _), Nat.sub_self]; rfl
theorem begin_l (h : Wl w0 w base WB M r j B K X) : Calls Tryz.prog 99 #[.pointer (some ⟨B, 2, none⟩), Pw WB] w fun e w' => e = .returned (.tuple #[]) ∧ Wl w0 w' base WB M r j B { K with sp := M.sp } X := by
  have h1 := h.put { K with sp := 0 } (set_blk h.blk 2 (.int .i64 0) _ (by simp [Lk.cs])) ((Turns.refl (fun k => k = B) w).setCell ⟨B, 2, none⟩ _ rfl)
  have h2 := h1.put { K with sp := M.sp } (set_blk h1.blk 2 (.int .i64 M.sp) _ (by simp [Lk.cs])) ((Turns.refl (fun k => k = B) _).setCell ⟨B, 2, none⟩ _ rfl)
  have c2 := h.b2; have z2 := h.fz 2; have d2 := h1.b2; have y2 := h1.fz 2
  have d6 := h1.pg.c.2.2.2
  have H2 := Lib.hid h2
  clear h h1 h2
  go_enter Tryz.func99, Tryz.ntmps99
  go_wp2_with fail
  go_end0
  exact ⟨rfl, H2.out⟩
theorem spin_l (h : Wl w0 w base WB M r j B K X) (hs : K.sp ≤ 9223372036854775807) : Calls Tryz.prog 180 #[.pointer (some ⟨B, 2, none⟩)] w fun e w' => e = .returned (.bool (decide (0 < K.sp))) ∧ Wl w0 w' base WB M r j B { K with sp := if 0 < K.sp then K.sp - 1 else K.sp } X := by
  have c2 := h.b2; have z2 := h.fz 2
  by_cases h0 : 0 < K.sp
  · rw [decide_eq_true h0, if_pos h0]
    have h1 := h.put { K with sp := K.sp - 1 } (set_blk h.blk 2 (.int .i64 (K.sp - 1)) _ (by simp [Lk.cs])) ((Turns.refl (fun k => k = B) w).setCell ⟨B, 2, none⟩ _ rfl)
    have hd : decide (K.sp ≤ 0) = false := by rw [decide_eq_false_iff_not]; omega
    have hw : wrap64 (K.sp - 1) = K.sp - 1 := by unfold wrap64; omega
    have H1 := Lib.hid h1
    clear h h0 hs h1
    generalize K.sp = v at *
    go_enter Tryz.func180, Tryz.ntmps180
    go_wp2_with fail
    go_ret
    exact ⟨rfl, H1.out⟩
  · rw [decide_eq_false h0, if_neg h0]
    have hd : decide (K.sp ≤ 0) = true := by rw [decide_eq_true_iff]; omega
    have H1 := Lib.hid h
    clear h h0 hs
    go_enter Tryz.func180, Tryz.ntmps180
    go_wp2_with fail
    go_ret
    exact ⟨rfl, H1.out⟩
set_option maxRecDepth 100000 in
set_option maxHeartbeats 4000000 in
theorem turn_l (h : Wl w0 w base WB M r j B K X) (h6 : K.ln ≠ 6) (hs : K.sp ≤ 9223372036854775807) {u : Nat} (hu : u < 18446744073709551616) :
    Calls Tryz.prog 159 #[askV K.t K.a, Pw B, .int .u64 (u : Int)] w fun e w' => e = .returned (.tuple #[]) ∧ Wl w0 w' base WB M r j B (K.turn u) X := by
  have hj := h.hj
  have hA := h.pushB (.cells #[.int .i64 (K.t : Int), .int .u32 (K.a : Int)] 132)
  obtain ⟨Q, hQ⟩ : ∃ Q, Q = w.heap.size := ⟨_, rfl⟩
  rw [← hQ] at hA
  have h1 := hA.put { K with st := u } (set_blk hA.blk 1 (.int .u64 (u : Int)) _ (by simp [Lk.cs])) ((Turns.refl (fun k => k = B) _).setCell ⟨B, 1, none⟩ _ rfl)
  have d1 := hA.b1; have y1 := hA.fz 1
  have HAS := Lib.hid (fun W => S1.as_any u hu W)
  have H1 := Lib.hid h1; have HJ := Lib.hid hj; have HQ := Lib.hid hQ
  clear h hA h1 hQ hj
  go_enter Tryz.func159, Tryz.ntmps159
  go_upto_region 1 with (fail)
  rw [← HQ.out]
  go_upto_region 2 with (fail)
  generalize (w.alloc (.cells #[.int .i64 (K.t : Int), .int .u32 (K.a : Int)] 132)).setCell ⟨B, 1, none⟩ (.int .u64 (u : Int)) = w1 at *
  clear d1 y1
  unfold S1.asV at HAS
  have HB := Lib.hid (show S1.bitB u 0 = S1.bitB u 0 from rfl)
  obtain ⟨b0, hb0⟩ : ∃ x, x = S1.bitB u 0 := ⟨_, rfl⟩
  obtain ⟨hd, hhd⟩ : ∃ x, x = S1.headN u := ⟨_, rfl⟩
  rw [← hb0, ← hhd] at HAS
  have HT := Lib.hid (And.intro hb0 hhd)
  clear HB hb0 hhd
  go_upto_block 0 with (go_at_call 134; refine (HAS.out _).mono ?_; rintro e w2 ⟨rfl, hb2⟩)
  have hw3 := heap_alloc_new w2 (.cells #[.bool b0, .bool (S1.bitB u 1), .int .i64 hd] 73)
  have h3 := H1.out.new (hb2.trans ((below1 w2 (.cells #[.bool b0, .bool (S1.bitB u 1), .int .i64 hd] 73)).mono hb2.size))
  generalize w2.alloc (.cells #[.bool b0, .bool (S1.bitB u 1), .int .i64 hd] 73) = w3 at *
  generalize w2.heap.size = Qs at *
  have x0 := cell_row hw3 0; have x2 := cell_row hw3 2
  have hl := h3.last HJ.out
  have k0 := cell_row hl 0; have k1 := cell_row hl 1
  simp only [List.getElem?_toArray, List.getElem?_cons_zero, List.getElem?_cons_succ] at x0 x2 k0 k1
  have c0 := h3.b0; have z0 := h3.fz 0
  have HSP := Lib.hid (spin_l h3 hs)
  have fin : ∀ (W : World) (ln : Nat) (sp : Int) (V : Value), Wl w0 W base WB M (r ++ [blockP Q (.cells #[.int .i64 (K.t : Int), .int .u32 (K.a : Int)] 132)]) j B { K with st := u, sp := sp } X → ln ≠ 6 → nxV K.t K.a ln = V → Wl w0 (W.setCell ⟨B, 0, none⟩ V) base WB M r j B { K with st := u, sp := sp, ln := ln } X := fun W ln sp V hW hl hV =>
    (hW.put { K with st := u, sp := sp, ln := ln } (set_blk hW.blk 0 V _ (by simp [Lk.cs, hV, hl, h6])) ((Turns.refl (fun k => k = B) _).setCell ⟨B, 0, none⟩ _ rfl)).dropB HJ.out
  have HFIN := Lib.hid fin; have H3 := Lib.hid h3
  clear fin h3 hl hw3 hb2 HAS H1
  cases b0 with
  | false =>
    have ht : K.turn u = { K with st := u, ln := 2 } := by unfold Lk.turn; rw [← HT.out.1, if_pos rfl]
    have HTN := Lib.hid ht
    clear ht HT HSP
    go_wp2_with fail
    go_end0
    exact ⟨rfl, by rw [HTN.out]; exact HFIN.out _ 2 K.sp _ H3.out (by decide) rfl⟩
  | true =>
    by_cases hh : hd = -1
    · subst hh
      by_cases hsp : 0 < K.sp
      · have ht : K.turn u = { K with st := u, ln := 3, sp := K.sp - 1 } := by unfold Lk.turn; rw [← HT.out.1, if_neg (by decide), if_pos HT.out.2.symm, if_pos hsp]
        have HTN := Lib.hid ht
        rw [decide_eq_true hsp, if_pos hsp] at HSP
        clear ht HT hsp hs
        go_wp2_with (go_at_call 180; refine HSP.out.mono ?_; rintro e w4 ⟨rfl, h4⟩; (have c0 := h4.b0; have z0 := h4.fz 0; have hl := h4.last HJ.out; have k0 := cell_row hl 0; have k1 := cell_row hl 1; simp only [List.getElem?_toArray, List.getElem?_cons_zero, List.getElem?_cons_succ] at k0 k1; have H4 := Lib.hid h4; clear hl h4))
        go_end0
        exact ⟨rfl, by rw [HTN.out]; exact HFIN.out _ 3 (K.sp - 1) _ H4.out (by decide) rfl⟩
      · have ht : K.turn u = { K with st := u, ln := 4 } := by unfold Lk.turn; rw [← HT.out.1, if_neg (by decide), if_pos HT.out.2.symm, if_neg hsp]
        have HTN := Lib.hid ht
        rw [decide_eq_false hsp, if_neg hsp] at HSP
        clear ht HT hsp hs
        go_wp2_with (go_at_call 180; refine HSP.out.mono ?_; rintro e w4 ⟨rfl, h4⟩; (have c0 := h4.b0; have z0 := h4.fz 0; have hl := h4.last HJ.out; have k0 := cell_row hl 0; have k1 := cell_row hl 1; simp only [List.getElem?_toArray, List.getElem?_cons_zero, List.getElem?_cons_succ] at k0 k1; have H4 := Lib.hid h4; clear hl h4))
        go_end0
        exact ⟨rfl, by rw [HTN.out]; exact HFIN.out _ 4 K.sp _ H4.out (by decide) rfl⟩
    · have ht : K.turn u = { K with st := u, ln := 4 } := by unfold Lk.turn; rw [← HT.out.1, if_neg (by decide), if_neg (fun e => hh (HT.out.2.trans e))]
      have HTN := Lib.hid ht
      have hne : (hd == -1) = false := by rw [beq_eq_false_iff_ne]; exact hh
      clear ht HT hh HSP
      go_wp2_with fail
      go_end0
      exact ⟨rfl, by rw [HTN.out]; exact HFIN.out _ 4 K.sp _ H3.out (by decide) rfl⟩
end
end Go.Proofs.YtlflagjnlclffaaGreat.S13
namespace Go.Proofs.YtlflagjnlclffaaGreat.S13
open Go.Proofs.YtlflagjnlclffaaGreat Go.Proofs.YtlflagjnlclffaaGreat.S11 Go.Proofs.YtlflagjnlclffaaGreat.S12
open Go.RowKit

def Lk.cas (K : Lk) (x was : Nat) (K' : Lk) : Lk := if x = was then K' else K.turn x
section
variable {w0 w w' : World} {base WB : Nat} {M : Sd} {r : List Part} {j B : Nat} {K : Lk} {X : Wm}
theorem Wl.look (h : Wl w0 w base WB M r j B K X) (a : Nat) : S2.look M.L a < 18446744073709551616 := by
  have := S2.look_lt h.pg.pw.cells.good a
  rwa [show X.L = M.L from congrArg Sd.L h.pg.xm] at this
set_option maxRecDepth 100000 in
set_option maxHeartbeats 4000000 in
theorem swap_l (h : Wl w0 w base WB M r j B K X) (h6 : K.ln ≠ 6) (hs : K.sp ≤ 9223372036854775807) (ha : K.a < 4294967296) (hn : M.n ≤ 1000000000) {was is : Nat} (his : is < 18446744073709551616) :
    Calls Tryz.prog 100 #[askV K.t K.a, Pw B, Pw WB, .int .u64 (was : Int), .int .u64 (is : Int)] w fun e w' => e = .returned (.bool (decide (S2.look M.L K.a = was))) ∧ ∃ X', Wl w0 w' base WB (M.acc 3 K.a (S2.casV (S2.look M.L K.a) was is)) r j B (K.cas (S2.look M.L K.a) was K) X' := by
  have hj := h.hj
  have hA := h.pushB (.cells #[.int .i64 (K.t : Int), .int .u32 (K.a : Int)] 132)
  have k0 := cell_row (heap_alloc_new w (.cells #[.int .i64 (K.t : Int), .int .u32 (K.a : Int)] 132)) 0; have k1 := cell_row (heap_alloc_new w (.cells #[.int .i64 (K.t : Int), .int .u32 (K.a : Int)] 132)) 1
  simp only [List.getElem?_toArray, List.getElem?_cons_zero, List.getElem?_cons_succ] at k0 k1
  obtain ⟨Q, hQ⟩ : ∃ Q, Q = w.heap.size := ⟨_, rfl⟩
  rw [← hQ] at hA k0 k1
  have HA := Lib.hid hA; have HJ := Lib.hid hj; have HQ := Lib.hid hQ
  have q0 := HA.out.pg.c.1
  have HC := Lib.hid ((HA.out.new (Below.refl _ _).drew).pg.cas ha his hn (u := was))
  obtain ⟨x, hx⟩ : ∃ x, x = S2.look M.L K.a := ⟨_, rfl⟩
  have hxl : x < 18446744073709551616 := by rw [hx]; exact HA.out.look K.a
  rw [← hx] at HC ⊢
  have HX := Lib.hid hxl
  clear hx hxl his
  clear h hj hQ
  go_enter Tryz.func100, Tryz.ntmps100
  go_upto_region 1 with (fail)
  rw [← HQ.out]
  generalize w.alloc (.cells #[.int .i64 (K.t : Int), .int .u32 (K.a : Int)] 132) = w1 at *
  refine wp_region_held_drew (S := fun w' => w'.cell? ⟨WB, 0, none⟩ = some (Pw X.cB) ∧ w'.cell? ⟨Q, 1, none⟩ = some (.int .u32 (K.a : Int))) (by kernel_rfl) ?_ (fun hHeld => ?_)
  · exact ⟨q0, k1⟩
  refine wpAnyH_take (i := 0) (oi := ({ dst := some 14, op := Op.move (Operand.tmp 2), type := 33, pos := "wordlocks.go:108", after := #[], guard := none } : Oper)) (v := ?vsm1) rfl (by kernel_rfl) (by kernel_rfl) (by kernel_rfl) (fun _ _ _ h => h) (Or.inl ⟨by rfl, fun w hSw => ?hysm1⟩) (by assumption) ?rsm1
  case hysm1 => (try dsimp only at hSw); go_simp; (try with_reducible rfl)
  (try simp only [Act.put, List.setIfInBounds_toArray, List.set_cons_zero, List.set_cons_succ])
  refine wpAnyH_take (i := 1) (oi := ({ dst := some 15, op := Op.nilCheck (Operand.tmp 14), type := 0, pos := "wordlocks.go:108", after := #[{ on := 0, ground := Ground.data }], guard := none } : Oper)) (v := ?vsm2) rfl (by kernel_rfl) (by kernel_rfl) (by kernel_rfl) (fun _ _ _ h => h) (Or.inl ⟨by rfl, fun w hSw => ?hysm2⟩) (by assumption) ?rsm2
  case hysm2 => (try dsimp only at hSw); go_simp; (try with_reducible rfl)
  (try simp only [Act.put, List.setIfInBounds_toArray, List.set_cons_zero, List.set_cons_succ])
  refine wpAnyH_take (i := 2) (oi := ({ dst := some 16, op := Op.fieldAddr 89 (Operand.tmp 15) 0, type := 0, pos := "wordlocks.go:108", after := #[{ on := 1, ground := Ground.data }], guard := none } : Oper)) (v := ?vsm3) rfl (by kernel_rfl) (by kernel_rfl) (by kernel_rfl) (fun _ _ _ h => h) (Or.inl ⟨by rfl, fun w hSw => ?hysm3⟩) (by assumption) ?rsm3
  case hysm3 => (try dsimp only at hSw); go_simp; (try with_reducible rfl)
  (try simp only [Act.put, List.setIfInBounds_toArray, List.set_cons_zero, List.set_cons_succ])
  refine wpAnyH_take (i := 3) (oi := ({ dst := some 17, op := Op.load 81 (Operand.tmp 16), type := 81, pos := "wordlocks.go:108", after := #[{ on := 2, ground := Ground.data }], guard := none } : Oper)) (v := ?vsm4) rfl (by kernel_rfl) (by kernel_rfl) (by kernel_rfl) (fun _ _ _ h => h) (Or.inl ⟨by rfl, fun w hSw => ?hysm4⟩) (by assumption) ?rsm4
  case hysm4 => (try dsimp only at hSw); go_simp; (try with_reducible rfl)
  (try simp only [Act.put, List.setIfInBounds_toArray, List.set_cons_zero, List.set_cons_succ])
  refine wpAnyH_take (i := 4) (oi := ({ dst := some 18, op := Op.fieldAddr 132 (Operand.tmp 5) 1, type := 0, pos := "wordlocks.go:108", after := #[], guard := none } : Oper)) (v := ?vsm5) rfl (by kernel_rfl) (by kernel_rfl) (by kernel_rfl) (fun _ _ _ h => h) (Or.inl ⟨by rfl, fun w hSw => ?hysm5⟩) (by assumption) ?rsm5
  case hysm5 => (try dsimp only at hSw); go_simp; (try with_reducible rfl)
  (try simp only [Act.put, List.setIfInBounds_toArray, List.set_cons_zero, List.set_cons_succ])
  refine wpAnyH_take (i := 5) (oi := ({ dst := some 19, op := Op.load 40 (Operand.tmp 18), type := 40, pos := "wordlocks.go:108", after := #[{ on := 4, ground := Ground.data }], guard := none } : Oper)) (v := ?vsm6) rfl (by kernel_rfl) (by kernel_rfl) (by kernel_rfl) (fun _ _ _ h => h) (Or.inl ⟨by rfl, fun w hSw => ?hysm6⟩) (by assumption) ?rsm6
  case hysm6 => (try dsimp only at hSw); go_simp; (try with_reducible rfl)
  (try simp only [Act.put, List.setIfInBounds_toArray, List.set_cons_zero, List.set_cons_succ])
  refine wpAnyH_take (i := 6) (oi := ({ dst := some 20, op := Op.move (Operand.tmp 3), type := 22, pos := "wordlocks.go:108", after := #[], guard := none } : Oper)) (v := ?vsm7) rfl (by kernel_rfl) (by kernel_rfl) (by kernel_rfl) (fun _ _ _ h => h) (Or.inl ⟨by rfl, fun w hSw => ?hysm7⟩) (by assumption) ?rsm7
  case hysm7 => (try dsimp only at hSw); go_simp; (try with_reducible rfl)
  (try simp only [Act.put, List.setIfInBounds_toArray, List.set_cons_zero, List.set_cons_succ])
  refine wpAnyH_take (i := 7) (oi := ({ dst := some 21, op := Op.move (Operand.tmp 4), type := 22, pos := "wordlocks.go:108", after := #[], guard := none } : Oper)) (v := ?vsm8) rfl (by kernel_rfl) (by kernel_rfl) (by kernel_rfl) (fun _ _ _ h => h) (Or.inl ⟨by rfl, fun w hSw => ?hysm8⟩) (by assumption) ?rsm8
  case hysm8 => (try dsimp only at hSw); go_simp; (try with_reducible rfl)
  (try simp only [Act.put, List.setIfInBounds_toArray, List.set_cons_zero, List.set_cons_succ])
  refine wpAnyH_ready (rs := [8]) (by kernel_rfl) (by simp) ?_
  refine AllReadyH.cons (o := ({ dst := some 22, op := Op.call { callee := Callee.value (Operand.func 158), args := #[Operand.tmp 17, Operand.tmp 19, Operand.tmp 20, Operand.tmp 21], argTypes := #[81, 40, 22, 22] }, type := 136, pos := "wordlocks.go:108", after := #[{ on := 3, ground := Ground.data }, { on := 5, ground := Ground.data }, { on := 6, ground := Ground.data }, { on := 7, ground := Ground.data }], guard := none } : Oper)) rfl (fun Kq hKq => ?_) AllReadyH.nil
  go_simp
  (refine HC.out.mono ?_; rintro e w3 ⟨rfl, X3, h3g, hcB⟩; have h3 : Wl w0 w3 base WB (M.acc 3 K.a (S2.casV x was is)) (r ++ [blockP Q (.cells #[.int .i64 (K.t : Int), .int .u32 (K.a : Int)] 132)]) j B K X3 := ⟨h3g, HA.out.hj⟩; have q3 := h3.pg.c.1; rw [hcB] at q3; have hl := h3.last HJ.out; have k1' := cell_row hl 1; simp only [List.getElem?_toArray, List.getElem?_cons_zero, List.getElem?_cons_succ] at k1')
  refine hKq.out _ _ ?_ (fun hHeld => ?_)
  · exact ⟨q3, k1'⟩
  clear hKq Kq
  (try simp only [Act.put, List.setIfInBounds_toArray, List.set_cons_zero, List.set_cons_succ])
  refine wpAnyH_take (i := 9) (oi := ({ dst := some 13, op := Op.move (Operand.tmp 22), type := 136, pos := "wordlocks.go:108", after := #[{ on := 8, ground := Ground.data }], guard := none } : Oper)) (v := ?vsm9) rfl (by kernel_rfl) (by kernel_rfl) (by kernel_rfl) (fun _ _ _ h => h) (Or.inl ⟨by rfl, fun w hSw => ?hysm9⟩) (by assumption) ?rsm9
  case hysm9 => (try dsimp only at hSw); go_simp; (try with_reducible rfl)
  (try simp only [Act.put, List.setIfInBounds_toArray, List.set_cons_zero, List.set_cons_succ])
  refine wpAnyH_take (i := 10) (oi := ({ dst := some 23, op := Op.extract (Operand.tmp 13) 0, type := 22, pos := "wordlocks.go:108", after := #[{ on := 9, ground := Ground.data }], guard := none } : Oper)) (v := ?vsm10) rfl (by kernel_rfl) (by kernel_rfl) (by kernel_rfl) (fun _ _ _ h => h) (Or.inl ⟨by rfl, fun w hSw => ?hysm10⟩) (by assumption) ?rsm10
  case hysm10 => (try dsimp only at hSw); go_simp; (try with_reducible rfl)
  (try simp only [Act.put, List.setIfInBounds_toArray, List.set_cons_zero, List.set_cons_succ])
  refine wpAnyH_take (i := 11) (oi := ({ dst := some 24, op := Op.extract (Operand.tmp 13) 1, type := 4, pos := "wordlocks.go:108", after := #[{ on := 9, ground := Ground.data }, { on := 12, ground := Ground.gcOnly Departure.lateStores }], guard := none } : Oper)) (v := ?vsm11) rfl (by kernel_rfl) (by kernel_rfl) (by kernel_rfl) (fun _ _ _ h => h) (Or.inl ⟨by rfl, fun w hSw => ?hysm11⟩) (by assumption) ?rsm11
  case hysm11 => (try dsimp only at hSw); go_simp; (try with_reducible rfl)
  (try simp only [Act.put, List.setIfInBounds_toArray, List.set_cons_zero, List.set_cons_succ])
  refine wpAnyH_take (i := 12) (oi := ({ dst := some 11, op := Op.assign (Operand.tmp 23), type := 22, pos := "wordlocks.go:108", after := #[{ on := 10, ground := Ground.data }, { on := 8, ground := Ground.chain }, { on := 0, ground := Ground.phase }, { on := 1, ground := Ground.phase }, { on := 2, ground := Ground.phase }, { on := 3, ground := Ground.phase }, { on := 4, ground := Ground.phase }, { on := 5, ground := Ground.phase }, { on := 6, ground := Ground.phase }, { on := 7, ground := Ground.phase }, { on := 8, ground := Ground.phase }, { on := 9, ground := Ground.phase }, { on := 10, ground := Ground.phase }, { on := 11, ground := Ground.textOnly Departure.lateStores }], guard := none } : Oper)) (v := ?vsm12) rfl (by kernel_rfl) (by kernel_rfl) (by kernel_rfl) (fun _ _ _ h => h) (Or.inl ⟨by rfl, fun w hSw => ?hysm12⟩) (by assumption) ?rsm12
  case hysm12 => (try dsimp only at hSw); go_simp; (try with_reducible rfl)
  (try simp only [Act.put, List.setIfInBounds_toArray, List.set_cons_zero, List.set_cons_succ])
  refine wpAnyH_take (i := 13) (oi := ({ dst := some 12, op := Op.assign (Operand.tmp 24), type := 4, pos := "wordlocks.go:108", after := #[{ on := 11, ground := Ground.data }, { on := 12, ground := Ground.chain }, { on := 0, ground := Ground.phase }, { on := 1, ground := Ground.phase }, { on := 2, ground := Ground.phase }, { on := 3, ground := Ground.phase }, { on := 4, ground := Ground.phase }, { on := 5, ground := Ground.phase }, { on := 6, ground := Ground.phase }, { on := 7, ground := Ground.phase }, { on := 8, ground := Ground.phase }, { on := 9, ground := Ground.phase }, { on := 10, ground := Ground.phase }, { on := 11, ground := Ground.phase }, { on := 12, ground := Ground.phase }], guard := none } : Oper)) (v := ?vsm13) rfl (by kernel_rfl) (by kernel_rfl) (by kernel_rfl) (fun _ _ _ h => h) (Or.inl ⟨by rfl, fun w hSw => ?hysm13⟩) (by assumption) ?rsm13
  case hysm13 => (try dsimp only at hSw); go_simp; (try with_reducible rfl)
  (try simp only [Act.put, List.setIfInBounds_toArray, List.set_cons_zero, List.set_cons_succ])
  refine wpAnyH_done (by kernel_rfl) ?_ _
  have HTN := Lib.hid (turn_l h3 h6 hs HX.out)
  have H3 := Lib.hid h3
  clear hHeld h3 h3g HC q0 hA k0 k1
  have hl := H3.out.last HJ.out; have k0 := cell_row hl 0; have k1 := cell_row hl 1; simp only [List.getElem?_toArray, List.getElem?_cons_zero, List.getElem?_cons_succ] at k0 k1
  clear hl
  by_cases e : x = was
  · have hd : decide (x = was) = true := decide_eq_true e
    have hk : K.cas x was K = K := if_pos e
    rw [hd]
    have HK := Lib.hid hk
    clear hk hd HTN
    go_wp2_with fail
    go_ret
    exact ⟨by rw [decide_eq_true e]; rfl, X3, by rw [HK.out]; exact H3.out.dropB HJ.out⟩
  · have hd : decide (x = was) = false := decide_eq_false e
    have hk : K.cas x was K = K.turn x := if_neg e
    rw [hd]
    have HK := Lib.hid hk
    clear hk hd
    go_wp2_with (go_at_call 159; refine HTN.out.mono ?_; rintro e w4 ⟨rfl, h4⟩; (have H4 := Lib.hid h4; clear h4))
    go_ret
    exact ⟨by rw [decide_eq_false e]; rfl, X3, by rw [HK.out]; exact H4.out.dropB HJ.out⟩
theorem Wl.next (h : Wl w0 w base WB M r j B K X) (h6 : K.ln ≠ 6) (ln : Nat) (hl : ln ≠ 6) (V : Value) (hV : nxV K.t K.a ln = V) : Wl w0 (w.setCell ⟨B, 0, none⟩ V) base WB M r j B { K with ln := ln } X :=
  h.put { K with ln := ln } (set_blk h.blk 0 V _ (by simp [Lk.cs, hV, hl, h6])) ((Turns.refl (fun k => k = B) _).setCell ⟨B, 0, none⟩ _ rfl)
theorem Wl.next2 (h : Wl w0 w base WB M r j B K X) (ln : Nat) (V : Value) (hV : nxV K.t K.a ln = V) (b : Bool) (hb : decide (ln = 6) = b) : Wl w0 ((w.setCell ⟨B, 0, none⟩ V).setCell ⟨B, 3, none⟩ (.bool b)) base WB M r j B { K with ln := ln } X :=
  h.put { K with ln := ln } (set_blk (set_blk h.blk 0 V _ rfl) 3 (.bool b) _ (by simp [Lk.cs, hV, ← hb])) (((Turns.refl (fun k => k = B) _).setCell ⟨B, 0, none⟩ _ rfl).setCell ⟨B, 3, none⟩ _ rfl)
end
def hdO (u : Nat) : Option Nat := if 1 ≤ u / 4 ∧ u / 4 ≤ 64 then some (u / 4 - 1) else none
theorem num_head (u : Nat) : S5.Num (S1.headN u) (hdO u) := by
  unfold S1.headN hdO
  by_cases h : 1 ≤ u / 4 ∧ u / 4 ≤ 64
  · rw [if_pos h, if_pos h]
    refine ⟨?_, ?_⟩ <;> omega
  · rw [if_neg h, if_neg h]
    exact S5.nm1
def stepM (M : Sd) (K : Lk) : Sd :=
  match K.ln with
  | 1 => M.acc 3 K.a (S2.casV (S2.look M.L K.a) 0 1)
  | 2 => M.acc 3 K.a (S2.casV (S2.look M.L K.a) K.st (S1.putU true (S1.bitB K.st 1) (S1.headN K.st)))
  | 3 => M.acc 1 K.a (S2.look M.L K.a)
  | 4 => (M.prep (2 * K.t + 1)).link (S5.pushS M.lk (some K.t) (hdO K.st))
  | 5 => M.acc 3 K.a (S2.casV (S2.look M.L K.a) K.st (S1.putU (S1.bitB K.st 0) (S1.bitB K.st 1) K.t))
  | 6 => M.park (2 * K.t + 1)
  | _ => M
def stepK (M : Sd) (K : Lk) : Lk :=
  match K.ln with
  | 1 => ({ K with sp := M.sp } : Lk).cas (S2.look M.L K.a) 0 { K with sp := M.sp, ln := 0 }
  | 2 => K.cas (S2.look M.L K.a) K.st { K with ln := 0 }
  | 3 => K.turn (S2.look M.L K.a)
  | 4 => { K with ln := 5 }
  | 5 => K.cas (S2.look M.L K.a) K.st { K with ln := 6 }
  | 6 => if (M.pf (2 * K.t + 1)).p then { K with ln := 3, sp := M.sp } else K
  | _ => K
def Stepped (w0 w' : World) (base WB : Nat) (M : Sd) (r : List Part) (j B : Nat) (K : Lk) : Prop := ∃ X', Wl w0 w' base WB (stepM M K) r j B (stepK M K) X'
structure LkOk (M : Sd) (K : Lk) : Prop where
  t : K.t < 64
  a : K.a < 4294967296
  st : K.st < 18446744073709551616
  sp : 0 ≤ K.sp ∧ K.sp ≤ 16
  ms : 0 ≤ M.sp ∧ M.sp ≤ 16
  n : M.n ≤ 1000000000
  pn : M.pn ≤ 1000000000
section
variable {w0 w w' : World} {base WB : Nat} {M : Sd} {r : List Part} {j B : Nat} {K : Lk} {X : Wm}
set_option maxRecDepth 100000 in
set_option maxHeartbeats 4000000 in
theorem first_l (h : Wl w0 w base WB M r j B K X) (ok : LkOk M K) (hl : K.ln = 1) : Calls Tryz.prog 41 #[askV K.t K.a, Pw B, Pw WB] w fun e w' => e = .returned (.tuple #[]) ∧ Stepped w0 w' base WB M r j B K := by
  have hM : stepM M K = M.acc 3 K.a (S2.casV (S2.look M.L K.a) 0 1) := by simp only [stepM, hl]
  have hK : stepK M K = ({ K with sp := M.sp } : Lk).cas (S2.look M.L K.a) 0 { K with sp := M.sp, ln := 0 } := by simp only [stepK, hl]
  unfold Stepped
  rw [hM, hK]
  have HPT : Hid (∀ W, Calls Tryz.prog 101 #[.agg #[.bool true, .bool false, .int .i64 (-1)]] W fun e w' => e = .returned (.int .u64 1) ∧ Below W.heap.size W w') := Lib.hid (fun W => by
    have := S1.putU_any true false (-1) (by unfold S1.isHead; omega) W
    rwa [S1.putU_one] at this)
  have hj := h.hj
  have hA := h.pushB (.cells #[.int .i64 (K.t : Int), .int .u32 (K.a : Int)] 132)
  have k0 := cell_row (heap_alloc_new w (.cells #[.int .i64 (K.t : Int), .int .u32 (K.a : Int)] 132)) 0; have k1 := cell_row (heap_alloc_new w (.cells #[.int .i64 (K.t : Int), .int .u32 (K.a : Int)] 132)) 1
  simp only [List.getElem?_toArray, List.getElem?_cons_zero, List.getElem?_cons_succ] at k0 k1
  obtain ⟨Q, hQ⟩ : ∃ Q, Q = w.heap.size := ⟨_, rfl⟩
  rw [← hQ] at hA k0 k1
  have HA := Lib.hid hA; have HJ := Lib.hid hj; have HQ := Lib.hid hQ
  have HBG := Lib.hid (begin_l hA)
  obtain ⟨x, hx⟩ : ∃ x, x = S2.look M.L K.a := ⟨_, rfl⟩
  have hsw : ∀ W, Wl w0 W base WB M (r ++ [blockP Q (.cells #[.int .i64 (K.t : Int), .int .u32 (K.a : Int)] 132)]) j B { K with sp := M.sp } X → Calls Tryz.prog 100 #[askV K.t K.a, Pw B, Pw WB, .int .u64 0, .int .u64 1] W fun e w' => e = .returned (.bool (decide (x = 0))) ∧ ∃ X', Wl w0 w' base WB (M.acc 3 K.a (S2.casV x 0 1)) (r ++ [blockP Q (.cells #[.int .i64 (K.t : Int), .int .u32 (K.a : Int)] 132)]) j B (({ K with sp := M.sp } : Lk).cas x 0 { K with sp := M.sp }) X' := fun W hW => by
    rw [hx]
    exact swap_l hW (by show K.ln ≠ 6; omega) (by show M.sp ≤ _; have := ok.ms; omega) ok.a ok.n (was := 0) (is := 1) (by omega)
  rw [← hx]
  have HSWW := Lib.hid hsw
  have H6 : Hid (K.ln ≠ 6) := Lib.hid (by omega)
  clear hsw hx ok hl hM hK
  clear h hj hQ
  go_enter Tryz.func41, Tryz.ntmps41
  go_upto_region 1 with (fail)
  rw [← HQ.out]
  generalize w.alloc (.cells #[.int .i64 (K.t : Int), .int .u32 (K.a : Int)] 132) = w1 at *
  go_upto_region 2 with (go_at_call 99; refine HBG.out.mono ?_; rintro e w3 ⟨rfl, h3⟩)
  have hl := h3.last HJ.out; have k0 := cell_row hl 0; have k1 := cell_row hl 1; simp only [List.getElem?_toArray, List.getElem?_cons_zero, List.getElem?_cons_succ] at k0 k1
  have H3 := Lib.hid h3
  clear hl h3 HBG hA
  refine wp_region_held_drew (S := fun w' => w'.cell? ⟨Q, 0, none⟩ = some (.int .i64 (K.t : Int)) ∧ w'.cell? ⟨Q, 1, none⟩ = some (.int .u32 (K.a : Int))) (by kernel_rfl) ?_ (fun hHeld => ?_)
  · exact ⟨k0, k1⟩
  refine wpAnyH_take (i := 0) (oi := ({ dst := some 11, op := Op.load 132 (Operand.tmp 3), type := 132, pos := "wordlocks.go:62", after := #[], guard := none } : Oper)) (v := ?vfm1) rfl (by kernel_rfl) (by kernel_rfl) (by kernel_rfl) (fun _ _ _ h => h) (Or.inl ⟨by rfl, fun w hSw => ?hyfm1⟩) (by assumption) ?rfm1
  case hyfm1 => (try dsimp only at hSw); go_simp; (try with_reducible rfl)
  (try simp only [Act.put, List.setIfInBounds_toArray, List.set_cons_zero, List.set_cons_succ])
  refine wpAnyH_take (i := 1) (oi := ({ dst := some 12, op := Op.move (Operand.tmp 1), type := 45, pos := "wordlocks.go:62", after := #[], guard := none } : Oper)) (v := ?vfm2) rfl (by kernel_rfl) (by kernel_rfl) (by kernel_rfl) (fun _ _ _ h => h) (Or.inl ⟨by rfl, fun w hSw => ?hyfm2⟩) (by assumption) ?rfm2
  case hyfm2 => (try dsimp only at hSw); go_simp; (try with_reducible rfl)
  (try simp only [Act.put, List.setIfInBounds_toArray, List.set_cons_zero, List.set_cons_succ])
  refine wpAnyH_take (i := 2) (oi := ({ dst := some 13, op := Op.move (Operand.tmp 2), type := 33, pos := "wordlocks.go:62", after := #[], guard := none } : Oper)) (v := ?vfm3) rfl (by kernel_rfl) (by kernel_rfl) (by kernel_rfl) (fun _ _ _ h => h) (Or.inl ⟨by rfl, fun w hSw => ?hyfm3⟩) (by assumption) ?rfm3
  case hyfm3 => (try dsimp only at hSw); go_simp; (try with_reducible rfl)
  (try simp only [Act.put, List.setIfInBounds_toArray, List.set_cons_zero, List.set_cons_succ])
  refine wpAnyH_take (i := 3) (oi := ({ dst := some 14, op := Op.build 73 #[(0, Operand.const (Value.bool true)), (2, Operand.const (Value.int IntKind.i64 (-1)))], type := 73, pos := "wordlocks.go:62", after := #[], guard := none } : Oper)) (v := ?vfm4) rfl (by kernel_rfl) (by kernel_rfl) (by kernel_rfl) (fun _ _ _ h => h) (Or.inl ⟨by rfl, fun w hSw => ?hyfm4⟩) (by assumption) ?rfm4
  case hyfm4 => (try dsimp only at hSw); go_simp; (try with_reducible rfl)
  (try simp only [Act.put, List.setIfInBounds_toArray, List.set_cons_zero, List.set_cons_succ])
  refine wpAnyH_ready (rs := [4]) (by kernel_rfl) (by simp) ?_
  refine AllReadyH.cons (o := ({ dst := some 15, op := Op.call { callee := Callee.value (Operand.func 101), args := #[Operand.tmp 14], argTypes := #[73] }, type := 22, pos := "wordlocks.go:62", after := #[{ on := 3, ground := Ground.data }], guard := none } : Oper)) rfl (fun Kq hKq => ?_) AllReadyH.nil
  go_simp
  (refine (HPT.out _).mono ?_; rintro e w4 ⟨rfl, hb4⟩; (have HSW := Lib.hid (HSWW.out w4 ((H3.out.new (Below.refl _ _).drew).new hb4))))
  refine hKq.out _ _ ?_ (fun hHeld => ?_)
  · exact ⟨bcell hb4 hHeld.1, bcell hb4 hHeld.2⟩
  clear hKq Kq
  (try simp only [Act.put, List.setIfInBounds_toArray, List.set_cons_zero, List.set_cons_succ])
  refine wpAnyH_ready (rs := [5]) (by kernel_rfl) (by simp) ?_
  refine AllReadyH.cons (o := ({ dst := some 16, op := Op.call { callee := Callee.value (Operand.func 100), args := #[Operand.tmp 11, Operand.tmp 12, Operand.tmp 13, Operand.const (Value.int IntKind.u64 0), Operand.tmp 15], argTypes := #[132, 45, 33, 22, 22] }, type := 4, pos := "wordlocks.go:62", after := #[{ on := 0, ground := Ground.data }, { on := 1, ground := Ground.data }, { on := 2, ground := Ground.data }, { on := 4, ground := Ground.data }, { on := 4, ground := Ground.chain }], guard := none } : Oper)) rfl (fun Kq hKq => ?_) AllReadyH.nil
  go_simp
  (refine HSW.out.mono ?_; rintro e w5 ⟨rfl, X5, h5⟩)
  refine hKq.out _ _ ?_ (fun hHeld => ?_)
  · (have hl := h5.last HJ.out; exact ⟨cell_row hl 0, cell_row hl 1⟩)
  clear hKq Kq
  (try simp only [Act.put, List.setIfInBounds_toArray, List.set_cons_zero, List.set_cons_succ])
  refine wpAnyH_done (by kernel_rfl) ?_ _
  clear hHeld k0 k1
  go_upto_if 16 with fail
  by_cases e : x = 0
  · rw [decide_eq_true e]
    have hk : ({ K with sp := M.sp } : Lk).cas x 0 { K with sp := M.sp, ln := 0 } = { K with sp := M.sp, ln := 0 } := if_pos e
    have hk2 : ({ K with sp := M.sp } : Lk).cas x 0 { K with sp := M.sp } = { K with sp := M.sp } := if_pos e
    rw [hk2] at h5
    have c0 := h5.b0; have z0 := h5.fz 0
    have HK := Lib.hid hk; have H5 := Lib.hid h5
    clear hk hk2 e h5 HSW HSWW
    go_wp2_with fail
    go_end0
    exact ⟨rfl, X5, by rw [HK.out]; exact (H5.out.next H6.out 0 (by decide) .nilFunc rfl).dropB HJ.out⟩
  · rw [decide_eq_false e]
    have hk : ({ K with sp := M.sp } : Lk).cas x 0 { K with sp := M.sp, ln := 0 } = ({ K with sp := M.sp } : Lk).cas x 0 { K with sp := M.sp } := (if_neg e).trans (if_neg e).symm
    have HK := Lib.hid hk; have H5 := Lib.hid h5
    clear hk e h5 HSW HSWW
    go_wp2_with fail
    go_end0
    exact ⟨rfl, X5, by rw [HK.out]; exact H5.out.dropB HJ.out⟩
end
end Go.Proofs.YtlflagjnlclffaaGreat.S13
namespace Go.Proofs.YtlflagjnlclffaaGreat.S13
open Go.Proofs.YtlflagjnlclffaaGreat Go.Proofs.YtlflagjnlclffaaGreat.S11 Go.Proofs.YtlflagjnlclffaaGreat.S12
open Go.RowKit

structure Rg (w0 w : World) (base RB : Nat) (M : Sd) (l r : List Part) (Y : Rm) : Prop where
  ps : Parts w base (l ++ (Y.parts ++ r))
  rB : Y.wB = RB
  ym : Y.sd = M
  rb : Y.rb ≤ w.heap.size
  bl : Below base w0 w
section
variable {w0 w w' : World} {base RB : Nat} {M : Sd} {l r : List Part} {Y : Rm}
theorem Rg.new (h : Rg w0 w base RB M l r Y) (b : Below w.heap.size w w') : Rg w0 w' base RB M l r Y := ⟨h.ps.new b, h.rB, h.ym, Nat.le_trans h.rb b.size, h.bl.trans (b.mono h.ps.size)⟩
theorem Rg.size (h : Rg w0 w base RB M l r Y) : base ≤ w.heap.size := h.ps.size
theorem set_mid {α : Type} (l m : List α) (i : Nat) (q : α) : (l ++ m).set (l.length + i) q = l ++ m.set i q := by
  rw [List.set_append_right _ _ (by omega), Nat.add_sub_cancel_left]
theorem get_mid {α : Type} (l m : List α) (i : Nat) : (l ++ m)[l.length + i]? = m[i]? := by
  rw [List.getElem?_append_right (by omega), Nat.add_sub_cancel_left]
theorem Rg.at (h : Rg w0 w base RB M l r Y) {i : Nat} {p : Part} (hi : (Y.parts ++ r)[i]? = some p) : (l ++ (Y.parts ++ r))[l.length + i]? = some p := by rw [get_mid]; exact hi
theorem Rg.part (h : Rg w0 w base RB M l r Y) {j : Nat} {p : Part} (hj : r[j]? = some p) : (l ++ (Y.parts ++ r))[l.length + (7 + j)]? = some p := by
  rw [get_mid]
  have : Y.parts.length = 7 := rfl
  rw [← this, get_mid]; exact hj
theorem Rg.turn (h : Rg w0 w base RB M l r Y) {j : Nat} {p : Part} (hj : r[j]? = some p) (q : Part) (hq : q.ok w') (t : Turns p.fp w w') (hf : ∀ k, q.fp k → p.fp k ∨ w.heap.size ≤ k) : Rg w0 w' base RB M l (r.set j q) Y := by
  obtain ⟨hp, hb⟩ := h.ps.turn (h.part hj) q hq t hf
  refine ⟨?_, h.rB, h.ym, Nat.le_trans h.rb t.size, h.bl.trans hb⟩
  have : Y.parts.length = 7 := rfl
  rw [set_mid, ← this, set_mid] at hp
  exact hp
theorem Rg.rcells (h : Rg w0 w base RB M l r Y) : S2.RefAt w Y.rb Y.rB Y.rs Y.L Y.n Y.k Y.a Y.was Y.is := h.ps.ok _ _ (h.at (i := 0) rfl)
theorem Rg.rpermits (h : Rg w0 w base RB M l r Y) : S4.RPkAt w Y.pB Y.pf (Y.pn : Int) Y.pk Y.pp := h.ps.ok _ _ (h.at (i := 3) rfl)
theorem Rg.rlinks (h : Rg w0 w base RB M l r Y) : S5.Has w Y.lB Y.lk := h.ps.ok _ _ (h.at (i := 4) rfl)
theorem Rg.rown (h : Rg w0 w base RB M l r Y) : w.heap[Y.wB]? = some (.cells Y.cs 107) := h.ps.ok _ _ (h.at (i := 6) rfl)
theorem Rg.c (h : Rg w0 w base RB M l r Y) : w.cell? ⟨RB, 0, none⟩ = some (Pw Y.rB) ∧ w.cell? ⟨RB, 2, none⟩ = some (Pw Y.pB) ∧ w.cell? ⟨RB, 3, none⟩ = some (Pw Y.lB) ∧ w.cell? ⟨RB, 6, none⟩ = some (.int .i64 M.sp) := by
  rw [← h.rB, ← h.ym]
  exact ⟨(cell_row h.rown 0).trans (rc0 _ _ _ _ _ _ _), (cell_row h.rown 2).trans (rc2 _ _ _ _ _ _ _), (cell_row h.rown 3).trans (rc3 _ _ _ _ _ _ _), (cell_row h.rown 6).trans (rc6 _ _ _ _ _ _ _)⟩
theorem Rg.acc (h : Rg w0 w base RB M l r Y) {k a y : Nat} {s' : Value} {L' : S2.LL} {was is : Nat} (c : S2.RefAt w' Y.rb Y.rB s' L' (Y.n + 1) k a was is) (e1 : L' = S2.putL Y.L a (S2.bring a y)) (e2 : was = S2.look Y.L a) (e3 : is = S2.bring a y) (ho : ∀ g, s'.ownBlock = some g → Y.rs.ownBlock = some g ∨ w.heap.size ≤ g) (t : S2.Turns (fun k => k = Y.rB ∨ Y.rs.ownBlock = some k) w w') :
    ∃ Y', Rg w0 w' base RB (M.acc k a y) l r Y' ∧ Y'.rB = Y.rB := by
  subst e1 e2 e3
  obtain ⟨hp, hb⟩ := t_rcells (i := l.length + 0) h.ps (h.at (i := 0) rfl) c ho t
  rw [set_mid] at hp
  refine ⟨{ Y with rs := s', L := S2.putL Y.L a (S2.bring a y), n := Y.n + 1, k := k, a := a, was := S2.look Y.L a, is := S2.bring a y }, ⟨hp, h.rB, ?_, Nat.le_trans h.rb t.size, h.bl.trans hb⟩, rfl⟩
  rw [← h.ym]; rfl
theorem Rg.perm (h : Rg w0 w base RB M l r Y) {k p : Int} {f : Nat → S4.Pk} (hl : S4.RPSets w w' Y.pB f ((Y.pn : Int) + 1) k p) : ∃ Y', Rg w0 w' base RB (M.call k p f) l r Y' ∧ Y'.pB = Y.pB := by
  obtain ⟨hp, hb⟩ := t_rpermits (i := l.length + 3) h.ps (h.at (i := 3) rfl) hl
  rw [set_mid] at hp
  refine ⟨{ Y with pf := f, pn := Y.pn + 1, pk := k, pp := p }, ⟨hp, h.rB, ?_, Nat.le_trans h.rb (Nat.le_of_eq hl.2.2.symm), h.bl.trans hb⟩, rfl⟩
  rw [← h.ym]; rfl
theorem Rg.links (h : Rg w0 w base RB M l r Y) {S : S5.Lk} (hl : S5.Sets w w' Y.lB S) : ∃ Y', Rg w0 w' base RB (M.link S) l r Y' ∧ Y'.lB = Y.lB := by
  obtain ⟨hp, hb⟩ := t_links (i := l.length + 4) h.ps (h.at (i := 4) rfl) hl
  rw [set_mid] at hp
  refine ⟨{ Y with lk := S }, ⟨hp, h.rB, ?_, Nat.le_trans h.rb hl.2.size, h.bl.trans hb⟩, rfl⟩
  rw [← h.ym]; rfl
theorem Rg.cas (h : Rg w0 w base RB M l r Y) {a u v : Nat} (ha : a < 4294967296) (hv : v < 18446744073709551616) (hn : M.n ≤ 1000000000) :
    Calls Tryz.prog 49 #[Pw RB, .int .u32 a, .int .u64 u, .int .u64 v] w fun e w' => e = .returned (.tuple #[.int .u64 (S2.look M.L a : Nat), .bool (decide (S2.look M.L a = u))]) ∧ ∃ Y', Rg w0 w' base RB (M.acc 3 a (S2.casV (S2.look M.L a) u v)) l r Y' := by
  have e : Y.L = M.L := congrArg Sd.L h.ym
  have e2 : Y.n = M.n := congrArg Sd.n h.ym
  rw [← e]
  have hc := S2.rcas_any w Y.rb Y.rB Y.rs Y.L Y.n Y.k Y.a Y.was Y.is a u v h.rcells h.rb ha (by omega) hv
  have HC : Hid (Calls Tryz.prog 108 #[Pw Y.rB, .int .u32 a, .int .u64 u, .int .u64 v] w fun e w' => e = .returned (.tuple #[.int .u64 (S2.look Y.L a : Nat), .bool (decide (S2.look Y.L a = u))]) ∧ ∃ Y', Rg w0 w' base RB (M.acc 3 a (S2.casV (S2.look Y.L a) u v)) l r Y') := Lib.hid (hc.mono (by
    rintro e w' ⟨rfl, s', c, ho, t⟩
    obtain ⟨Y', h', _⟩ := h.acc c rfl rfl rfl (fun g hg => .inr (ho g hg)) (t.mono (fun k _ e => .inl e))
    exact ⟨rfl, Y', h'⟩))
  have c0 := h.c.1
  clear hc h e e2 ha hv hn
  generalize S2.look Y.L a = x at *
  generalize decide (x = u) = b at *
  go_enter Tryz.func49, Tryz.ntmps49
  go_wp2_with (go_at_call 108; refine HC.out.mono ?_; rintro e w1 ⟨rfl, hy⟩)
  go_ret2
  exact ⟨rfl, hy⟩
theorem Rg.load (h : Rg w0 w base RB M l r Y) {a : Nat} (hb : S2.Byt M.L) (ha : a < 4294967296) (hn : M.n ≤ 1000000000) :
    Calls Tryz.prog 52 #[Pw RB, .int .u32 a] w fun e w' => e = .returned (.int .u64 (S2.look M.L a : Nat)) ∧ ∃ Y', Rg w0 w' base RB (M.acc 1 a (S2.look M.L a)) l r Y' := by
  have e : Y.L = M.L := congrArg Sd.L h.ym
  have e2 : Y.n = M.n := congrArg Sd.n h.ym
  rw [← e] at hb ⊢
  have hc := S2.rload_any w Y.rb Y.rB Y.rs Y.L Y.n Y.k Y.a Y.was Y.is a h.rcells (by omega)
  have HC : Hid (Calls Tryz.prog 110 #[Pw Y.rB, .int .u32 a] w fun e w' => e = .returned (.int .u64 (S2.look Y.L a : Nat)) ∧ ∃ Y', Rg w0 w' base RB (M.acc 1 a (S2.look Y.L a)) l r Y') := Lib.hid (hc.mono (by
    rintro e w' ⟨rfl, c, t⟩
    have hbr := S2.bring_look hb a
    obtain ⟨Y', h', _⟩ := h.acc c (by rw [hbr]; exact (S2.putL_look h.rcells.good ha).symm) rfl hbr.symm (fun g hg => .inl hg) (t.mono (fun k _ e => .inl e))
    exact ⟨rfl, Y', h'⟩))
  have c0 := h.c.1
  clear hc h e e2 ha hb hn
  generalize S2.look Y.L a = x at *
  go_enter Tryz.func52, Tryz.ntmps52
  go_wp2_with (go_at_call 110; refine HC.out.mono ?_; rintro e w1 ⟨rfl, hy⟩)
  go_ret
  exact ⟨rfl, hy⟩
theorem Rg.prep (h : Rg w0 w base RB M l r Y) (hn : M.pn ≤ 1000000000) {i : Nat} (hi : i < 128) :
    Calls Tryz.prog 53 #[Pw RB, .int .i64 (i : Int)] w fun e w' => e = .returned (.tuple #[]) ∧ ∃ Y', Rg w0 w' base RB (M.prep i) l r Y' := by
  have e2 : Y.pn = M.pn := congrArg Sd.pn h.ym
  have HC : Hid (Calls Tryz.prog 111 #[Pw Y.pB, .int .i64 (i : Int)] w fun e w' => e = .returned (.tuple #[]) ∧ ∃ Y', Rg w0 w' base RB (M.prep i) l r Y') := Lib.hid ((S4.rprepare_yes h.rpermits (by omega) hi).mono (by
    rintro e w' ⟨rfl, hl⟩
    rw [show Y.pf = M.pf from congrArg Sd.pf h.ym] at hl
    obtain ⟨Y', h', _⟩ := h.perm hl
    exact ⟨rfl, Y', h'⟩))
  have c0 := h.c.2.1
  clear h e2 hn hi
  go_enter Tryz.func53, Tryz.ntmps53
  go_wp2_with (go_at_call 111; refine HC.out.mono ?_; rintro e w1 ⟨rfl, hy⟩)
  go_end0
  exact ⟨rfl, hy⟩
theorem Rg.park (h : Rg w0 w base RB M l r Y) (hn : M.pn ≤ 1000000000) {i : Nat} (hi : i < 128) :
    Calls Tryz.prog 55 #[Pw RB, .int .i64 (i : Int)] w fun e w' => e = .returned (.int .i64 (if (M.pf i).p then 1 else 0)) ∧ ∃ Y', Rg w0 w' base RB (M.park i) l r Y' := by
  have e2 : Y.pn = M.pn := congrArg Sd.pn h.ym
  have HC : Hid (Calls Tryz.prog 113 #[Pw Y.pB, .int .i64 (i : Int)] w fun e w' => e = .returned (.int .i64 (if (M.pf i).p then 1 else 0)) ∧ ∃ Y', Rg w0 w' base RB (M.park i) l r Y') := Lib.hid ((S4.rpark_yes h.rpermits (by omega) hi).mono (by
    rintro e w' ⟨rfl, hl⟩
    rw [show Y.pf = M.pf from congrArg Sd.pf h.ym] at hl ⊢
    obtain ⟨Y', h', _⟩ := h.perm hl
    exact ⟨rfl, Y', h'⟩))
  have c0 := h.c.2.1
  clear h e2 hn hi
  generalize (if (M.pf i).p then (1 : Int) else 0) = z at *
  go_enter Tryz.func55, Tryz.ntmps55
  go_wp2_with (go_at_call 113; refine HC.out.mono ?_; rintro e w1 ⟨rfl, hy⟩)
  go_ret
  exact ⟨rfl, hy⟩
theorem Rg.unpark (h : Rg w0 w base RB M l r Y) (hn : M.pn ≤ 1000000000) {i : Nat} (hi : i < 128) :
    Calls Tryz.prog 46 #[Pw RB, .int .i64 (i : Int)] w fun e w' => e = .returned (.tuple #[]) ∧ ∃ Y', Rg w0 w' base RB (M.unpark i) l r Y' := by
  have e2 : Y.pn = M.pn := congrArg Sd.pn h.ym
  have HC : Hid (Calls Tryz.prog 106 #[Pw Y.pB, .int .i64 (i : Int)] w fun e w' => e = .returned (.tuple #[]) ∧ ∃ Y', Rg w0 w' base RB (M.unpark i) l r Y') := Lib.hid ((S4.runpark_yes h.rpermits (by omega) hi).mono (by
    rintro e w' ⟨rfl, hl⟩
    rw [show Y.pf = M.pf from congrArg Sd.pf h.ym] at hl
    obtain ⟨Y', h', _⟩ := h.perm hl
    exact ⟨rfl, Y', h'⟩))
  have c0 := h.c.2.1
  clear h e2 hn hi
  go_enter Tryz.func46, Tryz.ntmps46
  go_wp2_with (go_at_call 106; refine HC.out.mono ?_; rintro e w1 ⟨rfl, hy⟩)
  go_end0
  exact ⟨rfl, hy⟩
theorem Rg.push (h : Rg w0 w base RB M l r Y) {x y : Int} {t hd : Option Nat} (hx : S5.Num x t) (hy : S5.Num y hd) :
    Calls Tryz.prog 54 #[Pw RB, .int .i64 x, .int .i64 y] w fun e w' => e = .returned (.tuple #[]) ∧ ∃ Y', Rg w0 w' base RB (M.link (S5.pushS M.lk t hd)) l r Y' := by
  have HC : Hid (Calls Tryz.prog 112 #[Pw Y.lB, .int .i64 x, .int .i64 y] w fun e w' => e = .returned (.tuple #[]) ∧ ∃ Y', Rg w0 w' base RB (M.link (S5.pushS M.lk t hd)) l r Y') := Lib.hid ((S5.rpush_any h.rlinks hx hy).mono (by
    rintro e w' ⟨rfl, hl⟩
    rw [show Y.lk = M.lk from congrArg Sd.lk h.ym] at hl
    obtain ⟨Y', h', _⟩ := h.links hl
    exact ⟨rfl, Y', h'⟩))
  have c0 := h.c.2.2.1
  clear h hx hy
  go_enter Tryz.func54, Tryz.ntmps54
  go_wp2_with (go_at_call 112; refine HC.out.mono ?_; rintro e w1 ⟨rfl, hy⟩)
  go_end0
  exact ⟨rfl, hy⟩
end
end Go.Proofs.YtlflagjnlclffaaGreat.S13
namespace Go.Proofs.YtlflagjnlclffaaGreat.S13
open Go.Proofs.YtlflagjnlclffaaGreat Go.Proofs.YtlflagjnlclffaaGreat.S11 Go.Proofs.YtlflagjnlclffaaGreat.S12
open Go.RowKit

def Lk.rs (K : Lk) : Array Value := #[.int .i64 (K.ln : Int), .int .i64 (K.t : Int), .int .u32 (K.a : Int), .int .u64 (K.st : Int), .int .i64 K.sp]
def lockRP (B : Nat) (K : Lk) : Part := blockP B (.cells K.rs 58)
structure Wr (w0 w : World) (base RB : Nat) (M : Sd) (l r : List Part) (j B : Nat) (K : Lk) (Y : Rm) : Prop where
  pg : Rg w0 w base RB M l (r.set j (lockRP B K)) Y
  hj : j < r.length
section
variable {w0 w w' : World} {base RB : Nat} {M : Sd} {l r : List Part} {j B : Nat} {K : Lk} {Y : Rm}
theorem Wr.new (h : Wr w0 w base RB M l r j B K Y) (b : Below w.heap.size w w') : Wr w0 w' base RB M l r j B K Y := ⟨h.pg.new b, h.hj⟩
theorem Wr.part (h : Wr w0 w base RB M l r j B K Y) : (r.set j (lockRP B K))[j]? = some (lockRP B K) := List.getElem?_set_self h.hj
theorem Wr.blk (h : Wr w0 w base RB M l r j B K Y) : w.heap[B]? = some (.cells K.rs 58 (0, 0)) := h.pg.ps.ok _ _ (h.pg.part h.part)
theorem Wr.b0 (h : Wr w0 w base RB M l r j B K Y) : w.cell? ⟨B, 0, none⟩ = some (.int .i64 (K.ln : Int)) := cell_row h.blk 0
theorem Wr.b1 (h : Wr w0 w base RB M l r j B K Y) : w.cell? ⟨B, 1, none⟩ = some (.int .i64 (K.t : Int)) := cell_row h.blk 1
theorem Wr.b2 (h : Wr w0 w base RB M l r j B K Y) : w.cell? ⟨B, 2, none⟩ = some (.int .u32 (K.a : Int)) := cell_row h.blk 2
theorem Wr.b3 (h : Wr w0 w base RB M l r j B K Y) : w.cell? ⟨B, 3, none⟩ = some (.int .u64 (K.st : Int)) := cell_row h.blk 3
theorem Wr.b4 (h : Wr w0 w base RB M l r j B K Y) : w.cell? ⟨B, 4, none⟩ = some (.int .i64 K.sp) := cell_row h.blk 4
theorem Wr.fz (h : Wr w0 w base RB M l r j B K Y) (i : Nat) : w.frozen? ⟨B, i, none⟩ = false := froz_row h.blk i
theorem Wr.put (h : Wr w0 w base RB M l r j B K Y) (K' : Lk) (hq : w'.heap[B]? = some (.cells K'.rs 58 (0, 0))) (t : Turns (fun k => k = B) w w') : Wr w0 w' base RB M l r j B K' Y := by
  have := h.pg.turn h.part (lockRP B K') hq t (fun k e => .inl e)
  rw [List.set_set] at this
  exact ⟨this, h.hj⟩
theorem Wr.ln (h : Wr w0 w base RB M l r j B K Y) (n : Nat) : Wr w0 (w.setCell ⟨B, 0, none⟩ (.int .i64 (n : Int))) base RB M l r j B { K with ln := n } Y :=
  h.put { K with ln := n } (set_blk h.blk 0 (.int .i64 (n : Int)) _ (by simp [Lk.rs])) ((Turns.refl (fun k => k = B) w).setCell ⟨B, 0, none⟩ _ rfl)
theorem Wr.pushB (h : Wr w0 w base RB M l r j B K Y) (ob : Obj) : Wr w0 (w.alloc ob) base RB M l (r ++ [blockP w.heap.size ob]) j B K Y := by
  have hp := h.pg.ps.push (blockP w.heap.size ob) (below1 w ob) (heap_alloc_new w ob) (fun k e => Nat.le_of_eq (show k = w.heap.size from e).symm)
  rw [List.append_assoc, List.append_assoc] at hp
  refine ⟨⟨?_, h.pg.rB, h.pg.ym, Nat.le_trans h.pg.rb (by simp), h.pg.bl.alloc h.pg.size _⟩, by rw [List.length_append]; have := h.hj; simp; omega⟩
  rw [List.set_append_left _ _ h.hj]
  exact hp
theorem Wr.dropB {q : Part} (h : Wr w0 w base RB M l (r ++ [q]) j B K Y) (hj : j < r.length) : Wr w0 w base RB M l r j B K Y := by
  have hp := h.pg.ps
  rw [List.set_append_left _ _ hj, ← List.append_assoc, ← List.append_assoc, List.append_assoc l] at hp
  exact ⟨⟨Parts.left hp, h.pg.rB, h.pg.ym, h.pg.rb, h.pg.bl⟩, hj⟩
theorem Wr.last {Q : Nat} {ob : Obj} (h : Wr w0 w base RB M l (r ++ [blockP Q ob]) j B K Y) (hj : j < r.length) : w.heap[Q]? = some ob := by
  refine h.pg.ps.ok _ (blockP Q ob) (h.pg.part (j := r.length) ?_)
  rw [List.set_append_left _ _ hj, List.getElem?_append_right (by rw [List.length_set]; exact Nat.le_refl _), List.length_set, Nat.sub_self]; rfl
theorem begin_r (h : Wr w0 w base RB M l r j B K Y) : Calls Tryz.prog 48 #[.pointer (some ⟨B, 4, none⟩), Pw RB] w fun e w' => e = .returned (.tuple #[]) ∧ Wr w0 w' base RB M l r j B { K with sp := M.sp } Y := by
  have h2 := h.put { K with sp := M.sp } (set_blk h.blk 4 (.int .i64 M.sp) _ (by simp [Lk.rs])) ((Turns.refl (fun k => k = B) _).setCell ⟨B, 4, none⟩ _ rfl)
  have c4 := h.b4; have z4 := h.fz 4
  have d6 := h.pg.c.2.2.2
  have H2 := Lib.hid h2
  clear h h2
  go_enter Tryz.func48, Tryz.ntmps48
  go_wp2_with fail
  go_end0
  exact ⟨rfl, H2.out⟩
theorem spin_r (h : Wr w0 w base RB M l r j B K Y) (hs : K.sp ≤ 9223372036854775807) : Calls Tryz.prog 109 #[.pointer (some ⟨B, 4, none⟩)] w fun e w' => e = .returned (.bool (decide (0 < K.sp))) ∧ Wr w0 w' base RB M l r j B { K with sp := if 0 < K.sp then K.sp - 1 else K.sp } Y := by
  have c2 := h.b4; have z2 := h.fz 4
  by_cases h0 : 0 < K.sp
  · rw [decide_eq_true h0, if_pos h0]
    have h1 := h.put { K with sp := K.sp - 1 } (set_blk h.blk 4 (.int .i64 (K.sp - 1)) _ (by simp [Lk.rs])) ((Turns.refl (fun k => k = B) w).setCell ⟨B, 4, none⟩ _ rfl)
    have hd : decide (K.sp ≤ 0) = false := by rw [decide_eq_false_iff_not]; omega
    have hw : wrap64 (K.sp - 1) = K.sp - 1 := by unfold wrap64; omega
    have H1 := Lib.hid h1
    clear h h0 hs h1
    generalize K.sp = v at *
    go_enter Tryz.func109, Tryz.ntmps109
    go_wp2_with fail
    go_ret
    exact ⟨rfl, H1.out⟩
  · rw [decide_eq_false h0, if_neg h0]
    have hd : decide (K.sp ≤ 0) = true := by rw [decide_eq_true_iff]; omega
    have H1 := Lib.hid h
    clear h h0 hs
    go_enter Tryz.func109, Tryz.ntmps109
    go_wp2_with fail
    go_ret
    exact ⟨rfl, H1.out⟩
set_option maxRecDepth 100000 in
set_option maxHeartbeats 4000000 in
theorem turn_r (h : Wr w0 w base RB M l r j B K Y) (hs : K.sp ≤ 9223372036854775807) {u : Nat} (hu : u < 18446744073709551616) :
    Calls Tryz.prog 50 #[Pw B, .int .u64 (u : Int)] w fun e w' => e = .returned (.tuple #[]) ∧ Wr w0 w' base RB M l r j B (K.turn u) Y := by
  have HJ := Lib.hid h.hj
  have h1 := h.put { K with st := u } (set_blk h.blk 3 (.int .u64 (u : Int)) _ (by simp [Lk.rs])) ((Turns.refl (fun k => k = B) _).setCell ⟨B, 3, none⟩ _ rfl)
  have d1 := h.b3; have y1 := h.fz 3
  have HAS := Lib.hid (fun W => S1.ras_any u hu W)
  have H1 := Lib.hid h1
  have HS := Lib.hid hs
  clear h h1 hs
  go_enter Tryz.func50, Tryz.ntmps50
  go_upto_region 1 with (fail)
  generalize w.setCell ⟨B, 3, none⟩ (.int .u64 (u : Int)) = w1 at *
  clear d1 y1
  unfold S1.asV at HAS
  obtain ⟨b0, hb0⟩ : ∃ x, x = S1.bitB u 0 := ⟨_, rfl⟩
  obtain ⟨b1, hb1⟩ : ∃ x, x = S1.bitB u 1 := ⟨_, rfl⟩
  obtain ⟨hd, hhd⟩ : ∃ x, x = S1.headN u := ⟨_, rfl⟩
  rw [← hb0, ← hb1, ← hhd] at HAS
  have HT := Lib.hid (And.intro hb0 hhd)
  clear hb0 hb1 hhd
  go_upto_region 2 with (go_at_call 47; refine (HAS.out _).mono ?_; rintro e w2 ⟨rfl, hb2⟩)
  have h3 := (H1.out.new hb2).pushB (.cells #[.bool b0, .bool b1, .int .i64 hd] 134)
  generalize w2.alloc (.cells #[.bool b0, .bool b1, .int .i64 hd] 134) = w3 at *
  generalize w2.heap.size = Q at *
  have hl := h3.last HJ.out
  have x0 := cell_row hl 0; have x2 := cell_row hl 2
  simp only [List.getElem?_toArray, List.getElem?_cons_zero, List.getElem?_cons_succ] at x0 x2
  have c0 := h3.b0; have z0 := h3.fz 0
  have H3 := Lib.hid h3
  clear h3 hl hb2 HAS H1
  cases b0 with
  | false =>
    have ht : K.turn u = { K with st := u, ln := 2 } := by unfold Lk.turn; rw [← HT.out.1, if_pos rfl]
    have HTN := Lib.hid ht
    clear ht HT
    go_wp2_with fail
    (try simp only [Exit.inBlock, Exit.then])
    refine bodyPost_ret (results_none rfl _ _ _) rfl ?_
    exact ⟨rfl, by rw [HTN.out]; exact (H3.out.ln 2).dropB HJ.out⟩
  | true =>
    have h4 := H3.out.ln 4
    clear x2
    go_upto_region 5 with (fail)
    generalize w3.setCell ⟨B, 0, none⟩ (.int .i64 4) = w4 at *
    have hl := h4.last HJ.out
    have x2 := cell_row hl 2
    simp only [List.getElem?_toArray, List.getElem?_cons_zero, List.getElem?_cons_succ] at x2
    have c0 := h4.b0; have z0 := h4.fz 0
    have HSP := Lib.hid (spin_r h4 HS.out)
    have H4 := Lib.hid h4
    clear h4 hl H3 x0
    by_cases hh : hd = -1
    · subst hh
      by_cases hsp : 0 < K.sp
      · have ht : K.turn u = { K with st := u, ln := 3, sp := K.sp - 1 } := by unfold Lk.turn; rw [← HT.out.1, if_neg (by decide), if_pos HT.out.2.symm, if_pos hsp]
        have HTN := Lib.hid ht
        simp only [decide_eq_true hsp, if_pos hsp] at HSP
        clear ht HT hsp HS
        go_wp2_with (go_at_call 109; refine HSP.out.mono ?_; rintro e w5 ⟨rfl, h5⟩; (have c0 := h5.b0; have z0 := h5.fz 0; have H5 := Lib.hid h5; clear h5))
        go_end0
        exact ⟨rfl, by rw [HTN.out]; exact (H5.out.ln 3).dropB HJ.out⟩
      · have ht : K.turn u = { K with st := u, ln := 4 } := by unfold Lk.turn; rw [← HT.out.1, if_neg (by decide), if_pos HT.out.2.symm, if_neg hsp]
        have HTN := Lib.hid ht
        simp only [decide_eq_false hsp, if_neg hsp] at HSP
        clear ht HT hsp HS
        go_wp2_with (go_at_call 109; refine HSP.out.mono ?_; rintro e w5 ⟨rfl, h5⟩; (have H5 := Lib.hid h5; clear h5))
        go_end0
        exact ⟨rfl, by rw [HTN.out]; exact H5.out.dropB HJ.out⟩
    · have ht : K.turn u = { K with st := u, ln := 4 } := by unfold Lk.turn; rw [← HT.out.1, if_neg (by decide), if_neg (fun e => hh (HT.out.2.trans e))]
      have HTN := Lib.hid ht
      have hne : (hd == -1) = false := by rw [beq_eq_false_iff_ne]; exact hh
      clear ht HT hh HSP
      go_wp2_with fail
      go_end0
      exact ⟨rfl, by rw [HTN.out]; exact H4.out.dropB HJ.out⟩
end
end Go.Proofs.YtlflagjnlclffaaGreat.S13
namespace Go.Proofs.YtlflagjnlclffaaGreat.S13
open Go.Proofs.YtlflagjnlclffaaGreat Go.Proofs.YtlflagjnlclffaaGreat.S11 Go.Proofs.YtlflagjnlclffaaGreat.S12
open Go.RowKit

def SteppedR (w0 w' : World) (base RB : Nat) (M : Sd) (l r : List Part) (j B : Nat) (K : Lk) : Prop := ∃ Y', Wr w0 w' base RB (stepM M K) l r j B (stepK M K) Y'
theorem turn_ln (K : Lk) (n x : Nat) : ({ K with ln := n } : Lk).turn x = K.turn x := rfl
section
variable {w0 w w' : World} {base RB : Nat} {M : Sd} {l r : List Part} {j B : Nat} {K : Lk} {Y : Rm}
theorem Wr.look (h : Wr w0 w base RB M l r j B K Y) (a : Nat) : S2.look M.L a < 18446744073709551616 := by
  have := S2.look_lt h.pg.rcells.good a
  rwa [show Y.L = M.L from congrArg Sd.L h.pg.ym] at this
theorem Wr.turnLast {Q : Nat} {ob : Obj} (h : Wr w0 w base RB M l (r ++ [blockP Q ob]) j B K Y) (hj : j < r.length) (ob' : Obj) (hq : w'.heap[Q]? = some ob') (t : Turns (fun k => k = Q) w w') : Wr w0 w' base RB M l (r ++ [blockP Q ob']) j B K Y := by
  have e : ∀ q : Part, (r ++ [q]).set j (lockRP B K) = r.set j (lockRP B K) ++ [q] := fun q => List.set_append_left _ _ hj
  have hi : ((r ++ [blockP Q ob]).set j (lockRP B K))[r.length]? = some (blockP Q ob) := by
    rw [e, List.getElem?_append_right (by rw [List.length_set]; exact Nat.le_refl _), List.length_set, Nat.sub_self]; rfl
  have := h.pg.turn hi (blockP Q ob') hq t (fun k e => .inl e)
  rw [e, List.set_append_right _ _ (by rw [List.length_set]; exact Nat.le_refl _), List.length_set, Nat.sub_self] at this
  refine ⟨?_, by rw [List.length_append]; simp; omega⟩
  rw [e]
  exact this
set_option maxRecDepth 100000 in
set_option maxHeartbeats 4000000 in
theorem rstep0 (h : Wr w0 w base RB M l r j B K Y) (ok : LkOk M K) (hl : K.ln = 0) : Calls Tryz.prog 13 #[Pw B, Pw RB] w fun e w' => e = .returned (.tuple #[]) ∧ SteppedR w0 w' base RB M l r j B K := by
  unfold SteppedR
  rw [show stepM M K = M from by simp only [stepM, hl], show stepK M K = K from by simp only [stepK, hl]]
  have HJ := Lib.hid h.hj
  have HLK := Lib.hid h.look
  have HAS := Lib.hid (fun W => S1.ras_any K.st ok.st W)
  unfold S1.asV at HAS
  obtain ⟨b0, hb0⟩ : ∃ x, x = S1.bitB K.st 0 := ⟨_, rfl⟩
  obtain ⟨b1, hb1⟩ : ∃ x, x = S1.bitB K.st 1 := ⟨_, rfl⟩
  obtain ⟨hd, hhd⟩ : ∃ x, x = S1.headN K.st := ⟨_, rfl⟩
  have HHD : Hid (S1.isHead hd) := Lib.hid (by rw [hhd]; exact S1.head_is _)
  rw [← hb0, ← hb1, ← hhd] at HAS
  have HT := Lib.hid (And.intro hb0 (And.intro hb1 hhd))
  clear hb0 hb1 hhd
  have c3 := h.b3
  have HW := Lib.hid h
  have HOK := Lib.hid ok; have HLN := Lib.hid hl
  clear h ok hl
  go_enter Tryz.func13, Tryz.ntmps13
  go_upto_region 1 with (go_at_call 47; refine (HAS.out _).mono ?_; rintro e w1 ⟨rfl, hb1⟩)
  have h1 := (HW.out.new hb1).pushB (.cells #[.bool b0, .bool b1, .int .i64 hd] 134)
  generalize w1.alloc (.cells #[.bool b0, .bool b1, .int .i64 hd] 134) = w2 at *
  generalize w1.heap.size = Q at *
  have c0 : w2.cell? ⟨B, 0, none⟩ = some (.int .i64 0) := by have := h1.b0; rw [HLN.out] at this; exact this
  clear c3 HAS hb1 HW
  have H1 := Lib.hid h1
  clear h1
  go_wp2_with fail
  go_end0
  exact ⟨rfl, Y, H1.out.dropB HJ.out⟩
set_option maxRecDepth 100000 in
set_option maxHeartbeats 4000000 in
theorem rstep1 (h : Wr w0 w base RB M l r j B K Y) (ok : LkOk M K) (hl : K.ln = 1) : Calls Tryz.prog 13 #[Pw B, Pw RB] w fun e w' => e = .returned (.tuple #[]) ∧ SteppedR w0 w' base RB M l r j B K := by
  unfold SteppedR
  rw [show stepM M K = _ from by simp only [stepM, hl]; rfl, show stepK M K = ({ K with sp := M.sp } : Lk).cas (S2.look M.L K.a) 0 { K with sp := M.sp, ln := 0 } from by simp only [stepK, hl]]
  have HJ := Lib.hid h.hj
  have HLK := Lib.hid h.look
  have HAS := Lib.hid (fun W => S1.ras_any K.st ok.st W)
  unfold S1.asV at HAS
  obtain ⟨b0, hb0⟩ : ∃ x, x = S1.bitB K.st 0 := ⟨_, rfl⟩
  obtain ⟨b1, hb1⟩ : ∃ x, x = S1.bitB K.st 1 := ⟨_, rfl⟩
  obtain ⟨hd, hhd⟩ : ∃ x, x = S1.headN K.st := ⟨_, rfl⟩
  have HHD : Hid (S1.isHead hd) := Lib.hid (by rw [hhd]; exact S1.head_is _)
  obtain ⟨x, hx⟩ : ∃ x, x = S2.look M.L K.a := ⟨_, rfl⟩
  rw [← hx]
  have HX : Hid (x < 18446744073709551616) := Lib.hid (by rw [hx]; exact HLK.out K.a)
  have HXE := Lib.hid hx
  clear hx
  rw [← hb0, ← hb1, ← hhd] at HAS
  have HT := Lib.hid (And.intro hb0 (And.intro hb1 hhd))
  clear hb0 hb1 hhd
  have c3 := h.b3
  have HW := Lib.hid h
  have HOK := Lib.hid ok; have HLN := Lib.hid hl
  clear h ok hl
  go_enter Tryz.func13, Tryz.ntmps13
  go_upto_region 1 with (go_at_call 47; refine (HAS.out _).mono ?_; rintro e w1 ⟨rfl, hb1⟩)
  have h1 := (HW.out.new hb1).pushB (.cells #[.bool b0, .bool b1, .int .i64 hd] 134)
  generalize w1.alloc (.cells #[.bool b0, .bool b1, .int .i64 hd] 134) = w2 at *
  generalize w1.heap.size = Q at *
  have c0 : w2.cell? ⟨B, 0, none⟩ = some (.int .i64 1) := by have := h1.b0; rw [HLN.out] at this; exact this
  clear c3 HAS hb1 HW
  have HBG := Lib.hid (begin_r h1)
  clear h1
  go_upto_region 4 with (go_at_call 48; refine HBG.out.mono ?_; rintro e w3 ⟨rfl, h3⟩)
  have hc := h3.pg.cas HOK.out.a (u := 0) (v := 1) (by decide) HOK.out.n
  rw [← HXE.out] at hc
  have HC : Hid (Calls Tryz.prog 49 #[Pw RB, .int .u32 (K.a : Int), .int .u64 0, .int .u64 1] w3 fun e w' => e = .returned (.tuple #[.int .u64 (x : Int), .bool (decide (x = 0))]) ∧ ∃ Y', Rg w0 w' base RB (M.acc 3 K.a (S2.casV x 0 1)) l ((r ++ [blockP Q (.cells #[.bool b0, .bool b1, .int .i64 hd] 134)]).set j (lockRP B ({ K with sp := M.sp } : Lk))) Y') := Lib.hid hc
  have c2 := h3.b2
  have HJ3 := Lib.hid h3.hj
  have HSP : Hid (({ K with sp := M.sp } : Lk).sp ≤ 9223372036854775807) := Lib.hid (by show M.sp ≤ _; have := HOK.out.ms; omega)
  clear hc h3 c0 HBG
  go_upto_region 5 with (go_at_call 49; refine HC.out.mono ?_; rintro e w5 ⟨rfl, Y5, h5g⟩)
  have h5 : Wr w0 w5 base RB (M.acc 3 K.a (S2.casV x 0 1)) l (r ++ [blockP Q (.cells #[.bool b0, .bool b1, .int .i64 hd] 134)]) j B ({ K with sp := M.sp } : Lk) Y5 := ⟨h5g, HJ3.out⟩
  have c0 := h5.b0; have z0 := h5.fz 0
  have H5 := Lib.hid h5
  clear h5 h5g c2 HC
  by_cases e : x = 0
  · have hd1 : decide (x = 0) = true := decide_eq_true e
    rw [hd1]
    have HK := Lib.hid (show ({ K with sp := M.sp } : Lk).cas x 0 { K with sp := M.sp, ln := 0 } = { K with sp := M.sp, ln := 0 } from if_pos e)
    clear hd1 e
    go_wp2_with fail
    go_end0
    exact ⟨rfl, Y5, by rw [HK.out]; exact (H5.out.ln 0).dropB HJ.out⟩
  · have hd1 : decide (x = 0) = false := decide_eq_false e
    rw [hd1]
    have HK := Lib.hid (show ({ K with sp := M.sp } : Lk).cas x 0 { K with sp := M.sp, ln := 0 } = ({ K with sp := M.sp, ln := 0 } : Lk).turn x from (if_neg e).trans (turn_ln _ 0 x).symm)
    have HTN := Lib.hid (turn_r (H5.out.ln 0) HSP.out HX.out)
    clear hd1 e
    go_upto_region 6 with (fail)
    generalize w5.setCell ⟨B, 0, none⟩ (.int .i64 0) = w6 at *
    clear c0 z0
    go_wp2_with (go_at_call 50; refine HTN.out.mono ?_; rintro e w7 ⟨rfl, h7⟩)
    go_end0
    exact ⟨rfl, Y5, by rw [HK.out]; exact h7.dropB HJ.out⟩
set_option maxRecDepth 100000 in
set_option maxHeartbeats 4000000 in
theorem rstep3 (h : Wr w0 w base RB M l r j B K Y) (ok : LkOk M K) (hl : K.ln = 3) (hby : S2.Byt M.L) : Calls Tryz.prog 13 #[Pw B, Pw RB] w fun e w' => e = .returned (.tuple #[]) ∧ SteppedR w0 w' base RB M l r j B K := by
  unfold SteppedR
  rw [show stepM M K = _ from by simp only [stepM, hl]; rfl, show stepK M K = _ from by simp only [stepK, hl]; rfl]
  have HJ := Lib.hid h.hj
  have HLK := Lib.hid h.look
  have HAS := Lib.hid (fun W => S1.ras_any K.st ok.st W)
  unfold S1.asV at HAS
  obtain ⟨b0, hb0⟩ : ∃ x, x = S1.bitB K.st 0 := ⟨_, rfl⟩
  obtain ⟨b1, hb1⟩ : ∃ x, x = S1.bitB K.st 1 := ⟨_, rfl⟩
  obtain ⟨hd, hhd⟩ : ∃ x, x = S1.headN K.st := ⟨_, rfl⟩
  have HHD : Hid (S1.isHead hd) := Lib.hid (by rw [hhd]; exact S1.head_is _)
  obtain ⟨x, hx⟩ : ∃ x, x = S2.look M.L K.a := ⟨_, rfl⟩
  rw [← hx]
  have HX : Hid (x < 18446744073709551616) := Lib.hid (by rw [hx]; exact HLK.out K.a)
  have HXE := Lib.hid hx
  clear hx
  rw [← hb0, ← hb1, ← hhd] at HAS
  have HT := Lib.hid (And.intro hb0 (And.intro hb1 hhd))
  clear hb0 hb1 hhd
  have c3 := h.b3
  have HW := Lib.hid h
  have HOK := Lib.hid ok; have HLN := Lib.hid hl
  clear h ok hl
  go_enter Tryz.func13, Tryz.ntmps13
  go_upto_region 1 with (go_at_call 47; refine (HAS.out _).mono ?_; rintro e w1 ⟨rfl, hb1⟩)
  have h1 := (HW.out.new hb1).pushB (.cells #[.bool b0, .bool b1, .int .i64 hd] 134)
  generalize w1.alloc (.cells #[.bool b0, .bool b1, .int .i64 hd] 134) = w2 at *
  generalize w1.heap.size = Q at *
  have c0 : w2.cell? ⟨B, 0, none⟩ = some (.int .i64 3) := by have := h1.b0; rw [HLN.out] at this; exact this
  clear c3 HAS hb1 HW
  have hc := h1.pg.load hby HOK.out.a HOK.out.n
  rw [← HXE.out] at hc
  have HC : Hid (Calls Tryz.prog 52 #[Pw RB, .int .u32 (K.a : Int)] w2 fun e w' => e = .returned (.int .u64 (x : Int)) ∧ ∃ Y', Rg w0 w' base RB (M.acc 1 K.a x) l ((r ++ [blockP Q (.cells #[.bool b0, .bool b1, .int .i64 hd] 134)]).set j (lockRP B K)) Y') := Lib.hid hc
  have c2 := h1.b2
  have HJ3 := Lib.hid h1.hj
  have HTN : Hid (∀ W Y', Rg w0 W base RB (M.acc 1 K.a x) l ((r ++ [blockP Q (.cells #[.bool b0, .bool b1, .int .i64 hd] 134)]).set j (lockRP B K)) Y' → Calls Tryz.prog 50 #[Pw B, .int .u64 (x : Int)] W fun e w' => e = .returned (.tuple #[]) ∧ Wr w0 w' base RB (M.acc 1 K.a x) l (r ++ [blockP Q (.cells #[.bool b0, .bool b1, .int .i64 hd] 134)]) j B (K.turn x) Y') := Lib.hid (fun W Y' h' => turn_r ⟨h', HJ3.out⟩ (by have := HOK.out.sp; omega) HX.out)
  clear hc h1 hby
  go_wp2_with (first
    | (go_at_call 50; refine HT5.out.mono ?_; rintro e w6 ⟨rfl, h6⟩)
    | (go_at_call 52; refine HC.out.mono ?_; rintro e w5 ⟨rfl, Y5, h5g⟩; have HT5 := Lib.hid (HTN.out _ _ h5g); clear h5g))
  go_end0
  exact ⟨rfl, Y5, h6.dropB HJ.out⟩
set_option maxRecDepth 100000 in
set_option maxHeartbeats 4000000 in
theorem rstep6 (h : Wr w0 w base RB M l r j B K Y) (ok : LkOk M K) (hl : K.ln = 6) : Calls Tryz.prog 13 #[Pw B, Pw RB] w fun e w' => e = .returned (.tuple #[]) ∧ SteppedR w0 w' base RB M l r j B K := by
  unfold SteppedR
  rw [show stepM M K = _ from by simp only [stepM, hl]; rfl, show stepK M K = _ from by simp only [stepK, hl]; rfl]
  have HJ := Lib.hid h.hj
  have HLK := Lib.hid h.look
  have HAS := Lib.hid (fun W => S1.ras_any K.st ok.st W)
  unfold S1.asV at HAS
  obtain ⟨b0, hb0⟩ : ∃ x, x = S1.bitB K.st 0 := ⟨_, rfl⟩
  obtain ⟨b1, hb1⟩ : ∃ x, x = S1.bitB K.st 1 := ⟨_, rfl⟩
  obtain ⟨hd, hhd⟩ : ∃ x, x = S1.headN K.st := ⟨_, rfl⟩
  have HHD : Hid (S1.isHead hd) := Lib.hid (by rw [hhd]; exact S1.head_is _)
  obtain ⟨p, hp⟩ : ∃ p, p = (M.pf (2 * K.t + 1)).p := ⟨_, rfl⟩
  rw [← hp]
  have HPE := Lib.hid hp
  clear hp
  rw [← hb0, ← hb1, ← hhd] at HAS
  have HT := Lib.hid (And.intro hb0 (And.intro hb1 hhd))
  clear hb0 hb1 hhd
  have c3 := h.b3
  have HW := Lib.hid h
  have HOK := Lib.hid ok; have HLN := Lib.hid hl
  clear h ok hl
  go_enter Tryz.func13, Tryz.ntmps13
  go_upto_region 1 with (go_at_call 47; refine (HAS.out _).mono ?_; rintro e w1 ⟨rfl, hb1⟩)
  have h1 := (HW.out.new hb1).pushB (.cells #[.bool b0, .bool b1, .int .i64 hd] 134)
  generalize w1.alloc (.cells #[.bool b0, .bool b1, .int .i64 hd] 134) = w2 at *
  generalize w1.heap.size = Q at *
  have c0 : w2.cell? ⟨B, 0, none⟩ = some (.int .i64 6) := by have := h1.b0; rw [HLN.out] at this; exact this
  clear c3 HAS hb1 HW
  have e1 : wrap64 (2 * (K.t : Int)) = 2 * (K.t : Int) := by have := HOK.out.t; unfold wrap64; omega
  have e2 : wrap64 (2 * (K.t : Int) + 1) = ((2 * K.t + 1 : Nat) : Int) := by have := HOK.out.t; unfold wrap64; omega
  have hc := h1.pg.park HOK.out.pn (i := 2 * K.t + 1) (by have := HOK.out.t; omega)
  have c1 := h1.b1
  have HJ3 := Lib.hid h1.hj
  rw [← HPE.out] at hc
  have HC := Lib.hid hc
  clear hc h1 HPE
  cases p with
  | false =>
    go_wp2_with (go_at_call 55; refine HC.out.mono ?_; rintro e w3 ⟨rfl, Y3, h3g⟩)
    go_end0
    exact ⟨rfl, Y3, Wr.dropB ⟨h3g, HJ3.out⟩ HJ.out⟩
  | true =>
    go_upto_region 28 with (go_at_call 55; refine HC.out.mono ?_; rintro e w3 ⟨rfl, Y3, h3g⟩)
    have h3 : Wr w0 w3 base RB (M.park (2 * K.t + 1)) l (r ++ [blockP Q (.cells #[.bool b0, .bool b1, .int .i64 hd] 134)]) j B K Y3 := ⟨h3g, HJ3.out⟩
    have HBG := Lib.hid (begin_r h3)
    clear h3 h3g c0 c1 HC e1 e2
    go_upto_region 29 with (go_at_call 48; refine HBG.out.mono ?_; rintro e w4 ⟨rfl, h4⟩)
    have c0 := h4.b0; have z0 := h4.fz 0
    have H4 := Lib.hid h4
    clear h4 HBG
    go_wp2_with fail
    go_end0
    exact ⟨rfl, Y3, (H4.out.ln 3).dropB HJ.out⟩
set_option maxRecDepth 100000 in
set_option maxHeartbeats 4000000 in
theorem rstep4 (h : Wr w0 w base RB M l r j B K Y) (ok : LkOk M K) (hl : K.ln = 4) : Calls Tryz.prog 13 #[Pw B, Pw RB] w fun e w' => e = .returned (.tuple #[]) ∧ SteppedR w0 w' base RB M l r j B K := by
  unfold SteppedR
  rw [show stepM M K = _ from by simp only [stepM, hl]; rfl, show stepK M K = _ from by simp only [stepK, hl]; rfl]
  have HJ := Lib.hid h.hj
  have HLK := Lib.hid h.look
  have HAS := Lib.hid (fun W => S1.ras_any K.st ok.st W)
  unfold S1.asV at HAS
  obtain ⟨b0, hb0⟩ : ∃ x, x = S1.bitB K.st 0 := ⟨_, rfl⟩
  obtain ⟨b1, hb1⟩ : ∃ x, x = S1.bitB K.st 1 := ⟨_, rfl⟩
  obtain ⟨hd, hhd⟩ : ∃ x, x = S1.headN K.st := ⟨_, rfl⟩
  have HHD : Hid (S1.isHead hd) := Lib.hid (by rw [hhd]; exact S1.head_is _)
  rw [← hb0, ← hb1, ← hhd] at HAS
  have HT := Lib.hid (And.intro hb0 (And.intro hb1 hhd))
  clear hb0 hb1 hhd
  have c3 := h.b3
  have HW := Lib.hid h
  have HOK := Lib.hid ok; have HLN := Lib.hid hl
  clear h ok hl
  go_enter Tryz.func13, Tryz.ntmps13
  go_upto_region 1 with (go_at_call 47; refine (HAS.out _).mono ?_; rintro e w1 ⟨rfl, hb1⟩)
  have h1 := (HW.out.new hb1).pushB (.cells #[.bool b0, .bool b1, .int .i64 hd] 134)
  generalize w1.alloc (.cells #[.bool b0, .bool b1, .int .i64 hd] 134) = w2 at *
  generalize w1.heap.size = Q at *
  have c0 : w2.cell? ⟨B, 0, none⟩ = some (.int .i64 4) := by have := h1.b0; rw [HLN.out] at this; exact this
  clear c3 HAS hb1 HW
  have e1 : wrap64 (2 * (K.t : Int)) = 2 * (K.t : Int) := by have := HOK.out.t; unfold wrap64; omega
  have e2 : wrap64 (2 * (K.t : Int) + 1) = ((2 * K.t + 1 : Nat) : Int) := by have := HOK.out.t; unfold wrap64; omega
  have hc := h1.pg.prep HOK.out.pn (i := 2 * K.t + 1) (by have := HOK.out.t; omega)
  have HC := Lib.hid hc
  have c1 := h1.b1
  have HJ3 := Lib.hid h1.hj
  have HNH : Hid (S5.Num hd (hdO K.st)) := Lib.hid (by rw [HT.out.2.2]; exact num_head K.st)
  clear hc h1
  go_upto_region 18 with (go_at_call 53; refine HC.out.mono ?_; rintro e w3 ⟨rfl, Y3, h3g⟩)
  have h3 : Wr w0 w3 base RB (M.prep (2 * K.t + 1)) l (r ++ [blockP Q (.cells #[.bool b0, .bool b1, .int .i64 hd] 134)]) j B K Y3 := ⟨h3g, HJ3.out⟩
  have hl3 := h3.last HJ.out
  have k2 := cell_row hl3 2
  simp only [List.getElem?_toArray, List.getElem?_cons_zero, List.getElem?_cons_succ] at k2
  have c1 := h3.b1
  have HPU : Hid (Calls Tryz.prog 54 #[Pw RB, .int .i64 (K.t : Int), .int .i64 hd] w3.drew fun e w' => e = .returned (.tuple #[]) ∧ ∃ Y', Wr w0 w' base RB ((M.prep (2 * K.t + 1)).link (S5.pushS M.lk (some K.t) (hdO K.st))) l (r ++ [blockP Q (.cells #[.bool b0, .bool b1, .int .i64 hd] 134)]) j B K Y') := Lib.hid (by
    have hd3 := h3.new (Below.refl _ _).drew
    refine (hd3.pg.push (S5.nm K.t HOK.out.t) HNH.out).mono ?_
    rintro e w' ⟨rfl, Y', h'⟩
    exact ⟨rfl, Y', h', hd3.hj⟩)
  clear h3 h3g hl3 c0 HC e1 e2
  refine wp_region_held_drew (S := fun w' => w'.cell? ⟨B, 1, none⟩ = some (.int .i64 (K.t : Int)) ∧ w'.cell? ⟨Q, 2, none⟩ = some (.int .i64 hd)) (by kernel_rfl) ?_ (fun hHeld => ?_)
  · exact ⟨c1, k2⟩
  refine wpAnyH_take (i := 0) (oi := ({ dst := some 90, op := Op.move (Operand.tmp 1), type := 34, pos := "ref.go:63", after := #[], guard := none } : Oper)) (v := ?vem1) rfl (by kernel_rfl) (by kernel_rfl) (by kernel_rfl) (fun _ _ _ h => h) (Or.inl ⟨by rfl, fun w hSw => ?hyem1⟩) (by assumption) ?rem1
  case hyem1 => (try dsimp only at hSw); go_simp; (try with_reducible rfl)
  (try simp only [Act.put, List.setIfInBounds_toArray, List.set_cons_zero, List.set_cons_succ])
  refine wpAnyH_take (i := 1) (oi := ({ dst := some 91, op := Op.move (Operand.tmp 0), type := 47, pos := "ref.go:63", after := #[], guard := none } : Oper)) (v := ?vem2) rfl (by kernel_rfl) (by kernel_rfl) (by kernel_rfl) (fun _ _ _ h => h) (Or.inl ⟨by rfl, fun w hSw => ?hyem2⟩) (by assumption) ?rem2
  case hyem2 => (try dsimp only at hSw); go_simp; (try with_reducible rfl)
  (try simp only [Act.put, List.setIfInBounds_toArray, List.set_cons_zero, List.set_cons_succ])
  refine wpAnyH_take (i := 2) (oi := ({ dst := some 92, op := Op.nilCheck (Operand.tmp 91), type := 0, pos := "ref.go:63", after := #[{ on := 1, ground := Ground.data }], guard := none } : Oper)) (v := ?vem3) rfl (by kernel_rfl) (by kernel_rfl) (by kernel_rfl) (fun _ _ _ h => h) (Or.inl ⟨by rfl, fun w hSw => ?hyem3⟩) (by assumption) ?rem3
  case hyem3 => (try dsimp only at hSw); go_simp; (try with_reducible rfl)
  (try simp only [Act.put, List.setIfInBounds_toArray, List.set_cons_zero, List.set_cons_succ])
  refine wpAnyH_take (i := 3) (oi := ({ dst := some 93, op := Op.fieldAddr 58 (Operand.tmp 92) 1, type := 0, pos := "ref.go:63", after := #[{ on := 2, ground := Ground.data }], guard := none } : Oper)) (v := ?vem4) rfl (by kernel_rfl) (by kernel_rfl) (by kernel_rfl) (fun _ _ _ h => h) (Or.inl ⟨by rfl, fun w hSw => ?hyem4⟩) (by assumption) ?rem4
  case hyem4 => (try dsimp only at hSw); go_simp; (try with_reducible rfl)
  (try simp only [Act.put, List.setIfInBounds_toArray, List.set_cons_zero, List.set_cons_succ])
  refine wpAnyH_take (i := 4) (oi := ({ dst := some 94, op := Op.load 3 (Operand.tmp 93), type := 3, pos := "ref.go:63", after := #[{ on := 3, ground := Ground.data }], guard := none } : Oper)) (v := ?vem5) rfl (by kernel_rfl) (by kernel_rfl) (by kernel_rfl) (fun _ _ _ h => h) (Or.inl ⟨by rfl, fun w hSw => ?hyem5⟩) (by assumption) ?rem5
  case hyem5 => (try dsimp only at hSw); go_simp; (try with_reducible rfl)
  (try simp only [Act.put, List.setIfInBounds_toArray, List.set_cons_zero, List.set_cons_succ])
  refine wpAnyH_take (i := 5) (oi := ({ dst := some 95, op := Op.fieldAddr 134 (Operand.tmp 4) 2, type := 0, pos := "ref.go:63", after := #[], guard := none } : Oper)) (v := ?vem6) rfl (by kernel_rfl) (by kernel_rfl) (by kernel_rfl) (fun _ _ _ h => h) (Or.inl ⟨by rfl, fun w hSw => ?hyem6⟩) (by assumption) ?rem6
  case hyem6 => (try dsimp only at hSw); go_simp; (try with_reducible rfl)
  (try simp only [Act.put, List.setIfInBounds_toArray, List.set_cons_zero, List.set_cons_succ])
  refine wpAnyH_take (i := 6) (oi := ({ dst := some 96, op := Op.load 3 (Operand.tmp 95), type := 3, pos := "ref.go:63", after := #[{ on := 5, ground := Ground.data }], guard := none } : Oper)) (v := ?vem7) rfl (by kernel_rfl) (by kernel_rfl) (by kernel_rfl) (fun _ _ _ h => h) (Or.inl ⟨by rfl, fun w hSw => ?hyem7⟩) (by assumption) ?rem7
  case hyem7 => (try dsimp only at hSw); go_simp; (try with_reducible rfl)
  (try simp only [Act.put, List.setIfInBounds_toArray, List.set_cons_zero, List.set_cons_succ])
  refine wpAnyH_ready (rs := [7]) (by kernel_rfl) (by simp) ?_
  refine AllReadyH.cons (o := ({ dst := some 97, op := Op.call { callee := Callee.value (Operand.func 54), args := #[Operand.tmp 90, Operand.tmp 94, Operand.tmp 96], argTypes := #[34, 3, 3] }, type := 0, pos := "ref.go:63", after := #[{ on := 0, ground := Ground.data }, { on := 4, ground := Ground.data }, { on := 6, ground := Ground.data }], guard := none } : Oper)) rfl (fun Kq hKq => ?_) AllReadyH.nil
  go_simp
  (refine HPU.out.mono ?_; rintro e w5 ⟨rfl, Y5, h5⟩)
  refine hKq.out _ _ ?_ (fun hHeld => ?_)
  · (have hq := h5.last HJ.out; exact ⟨h5.b1, cell_row hq 2⟩)
  clear hKq Kq
  (try simp only [Act.put, List.setIfInBounds_toArray, List.set_cons_zero, List.set_cons_succ])
  refine wpAnyH_done (by kernel_rfl) ?_ _
  have c0 := h5.b0; have z0 := h5.fz 0
  have H5 := Lib.hid h5
  clear h5 hHeld c1 k2 HPU
  go_wp2_with fail
  go_end0
  exact ⟨rfl, Y5, (H5.out.ln 5).dropB HJ.out⟩
set_option maxRecDepth 100000 in
set_option maxHeartbeats 4000000 in
theorem rstep5 (h : Wr w0 w base RB M l r j B K Y) (ok : LkOk M K) (hl : K.ln = 5) : Calls Tryz.prog 13 #[Pw B, Pw RB] w fun e w' => e = .returned (.tuple #[]) ∧ SteppedR w0 w' base RB M l r j B K := by
  unfold SteppedR
  rw [show stepM M K = _ from by simp only [stepM, hl]; rfl, show stepK M K = _ from by simp only [stepK, hl]; rfl]
  have HJ := Lib.hid h.hj
  have HLK := Lib.hid h.look
  have HAS := Lib.hid (fun W => S1.ras_any K.st ok.st W)
  unfold S1.asV at HAS
  obtain ⟨b0, hb0⟩ : ∃ x, x = S1.bitB K.st 0 := ⟨_, rfl⟩
  obtain ⟨b1, hb1⟩ : ∃ x, x = S1.bitB K.st 1 := ⟨_, rfl⟩
  obtain ⟨hd, hhd⟩ : ∃ x, x = S1.headN K.st := ⟨_, rfl⟩
  have HHD : Hid (S1.isHead hd) := Lib.hid (by rw [hhd]; exact S1.head_is _)
  obtain ⟨x, hx⟩ : ∃ x, x = S2.look M.L K.a := ⟨_, rfl⟩
  rw [← hx]
  have HX : Hid (x < 18446744073709551616) := Lib.hid (by rw [hx]; exact HLK.out K.a)
  have HXE := Lib.hid hx
  clear hx
  obtain ⟨pu, hpu⟩ : ∃ x, x = S1.putU (S1.bitB K.st 0) (S1.bitB K.st 1) K.t := ⟨_, rfl⟩
  have HPL : Hid (pu < 18446744073709551616) := Lib.hid (by rw [hpu]; exact S1.putU_lt _ _ _)
  have HPT : Hid (∀ W, Calls Tryz.prog 51 #[.agg #[.bool b0, .bool b1, .int .i64 (K.t : Int)]] W fun e w' => e = .returned (.int .u64 (pu : Int)) ∧ Below W.heap.size W w') := Lib.hid (fun W => by rw [hpu, ← hb0, ← hb1]; exact S1.rputU_any b0 b1 (K.t : Int) (by unfold S1.isHead; have := ok.t; omega) W)
  rw [← hpu]
  clear hpu
  rw [← hb0, ← hb1, ← hhd] at HAS
  have HT := Lib.hid (And.intro hb0 (And.intro hb1 hhd))
  clear hb0 hb1 hhd
  have c3 := h.b3
  have HW := Lib.hid h
  have HOK := Lib.hid ok; have HLN := Lib.hid hl
  clear h ok hl
  go_enter Tryz.func13, Tryz.ntmps13
  go_upto_region 1 with (go_at_call 47; refine (HAS.out _).mono ?_; rintro e w1 ⟨rfl, hb1⟩)
  have h1 := (HW.out.new hb1).pushB (.cells #[.bool b0, .bool b1, .int .i64 hd] 134)
  generalize w1.alloc (.cells #[.bool b0, .bool b1, .int .i64 hd] 134) = w2 at *
  generalize w1.heap.size = Q at *
  have c0 : w2.cell? ⟨B, 0, none⟩ = some (.int .i64 5) := by have := h1.b0; rw [HLN.out] at this; exact this
  clear c3 HAS hb1 HW
  have hl1 := h1.last HJ.out
  have x0 := cell_row hl1 2; have xz := froz_row hl1 2
  simp only [List.getElem?_toArray, List.getElem?_cons_zero, List.getElem?_cons_succ] at x0
  have h3 := h1.turnLast HJ.out (.cells #[.bool b0, .bool b1, .int .i64 (K.t : Int)] 134) (set_blk hl1 2 (.int .i64 (K.t : Int)) _ (by simp)) ((Turns.refl (fun k => k = Q) w2).setCell ⟨Q, 2, none⟩ _ rfl)
  have c1 := h1.b1
  clear h1 hl1
  go_upto_region 22 with (fail)
  generalize w2.setCell ⟨Q, 2, none⟩ (.int .i64 (K.t : Int)) = w3 at *
  have hl3 := h3.last HJ.out
  have k0 := cell_row hl3 0; have k1 := cell_row hl3 1; have k2 := cell_row hl3 2
  simp only [List.getElem?_toArray, List.getElem?_cons_zero, List.getElem?_cons_succ] at k0 k1 k2
  have c2 := h3.b2; have c3 := h3.b3
  have HCC : Hid (∀ W, Wr w0 W base RB M l (r ++ [blockP Q (.cells #[.bool b0, .bool b1, .int .i64 (K.t : Int)] 134)]) j B K Y → Calls Tryz.prog 49 #[Pw RB, .int .u32 (K.a : Int), .int .u64 (K.st : Int), .int .u64 (pu : Int)] W fun e w' => e = .returned (.tuple #[.int .u64 (x : Int), .bool (decide (x = K.st))]) ∧ ∃ Y', Wr w0 w' base RB (M.acc 3 K.a (S2.casV x K.st pu)) l (r ++ [blockP Q (.cells #[.bool b0, .bool b1, .int .i64 (K.t : Int)] 134)]) j B K Y') := Lib.hid (fun W hW => by
    have := hW.pg.cas HOK.out.a (u := K.st) (v := pu) HPL.out HOK.out.n
    rw [← HXE.out] at this
    refine this.mono ?_
    rintro e w' ⟨rfl, Y', h'⟩
    exact ⟨rfl, Y', h', hW.hj⟩)
  have H3 := Lib.hid h3
  have HSP : Hid (K.sp ≤ 9223372036854775807) := Lib.hid (by have := HOK.out.sp; omega)
  clear h3 hl3 x0 xz c0
  refine wp_region_held_drew (S := fun w' => w'.cell? ⟨B, 2, none⟩ = some (.int .u32 (K.a : Int)) ∧ w'.cell? ⟨B, 3, none⟩ = some (.int .u64 (K.st : Int)) ∧ w'.cell? ⟨Q, 0, none⟩ = some (.bool b0) ∧ w'.cell? ⟨Q, 1, none⟩ = some (.bool b1) ∧ w'.cell? ⟨Q, 2, none⟩ = some (.int .i64 (K.t : Int))) (by kernel_rfl) ?_ (fun hHeld => ?_)
  · exact ⟨c2, c3, k0, k1, k2⟩
  refine wpAnyH_take (i := 0) (oi := ({ dst := some 109, op := Op.move (Operand.tmp 1), type := 34, pos := "ref.go:67", after := #[], guard := none } : Oper)) (v := ?vd22m1) rfl (by kernel_rfl) (by kernel_rfl) (by kernel_rfl) (fun _ _ _ h => h) (Or.inl ⟨by rfl, fun w hSw => ?hyd22m1⟩) (by assumption) ?rd22m1
  case hyd22m1 => (try dsimp only at hSw); go_simp; (try with_reducible rfl)
  (try simp only [Act.put, List.setIfInBounds_toArray, List.set_cons_zero, List.set_cons_succ])
  refine wpAnyH_take (i := 1) (oi := ({ dst := some 110, op := Op.move (Operand.tmp 0), type := 47, pos := "ref.go:67", after := #[], guard := none } : Oper)) (v := ?vd22m2) rfl (by kernel_rfl) (by kernel_rfl) (by kernel_rfl) (fun _ _ _ h => h) (Or.inl ⟨by rfl, fun w hSw => ?hyd22m2⟩) (by assumption) ?rd22m2
  case hyd22m2 => (try dsimp only at hSw); go_simp; (try with_reducible rfl)
  (try simp only [Act.put, List.setIfInBounds_toArray, List.set_cons_zero, List.set_cons_succ])
  refine wpAnyH_take (i := 2) (oi := ({ dst := some 111, op := Op.nilCheck (Operand.tmp 110), type := 0, pos := "ref.go:67", after := #[{ on := 1, ground := Ground.data }], guard := none } : Oper)) (v := ?vd22m3) rfl (by kernel_rfl) (by kernel_rfl) (by kernel_rfl) (fun _ _ _ h => h) (Or.inl ⟨by rfl, fun w hSw => ?hyd22m3⟩) (by assumption) ?rd22m3
  case hyd22m3 => (try dsimp only at hSw); go_simp; (try with_reducible rfl)
  (try simp only [Act.put, List.setIfInBounds_toArray, List.set_cons_zero, List.set_cons_succ])
  refine wpAnyH_take (i := 3) (oi := ({ dst := some 112, op := Op.fieldAddr 58 (Operand.tmp 111) 2, type := 0, pos := "ref.go:67", after := #[{ on := 2, ground := Ground.data }], guard := none } : Oper)) (v := ?vd22m4) rfl (by kernel_rfl) (by kernel_rfl) (by kernel_rfl) (fun _ _ _ h => h) (Or.inl ⟨by rfl, fun w hSw => ?hyd22m4⟩) (by assumption) ?rd22m4
  case hyd22m4 => (try dsimp only at hSw); go_simp; (try with_reducible rfl)
  (try simp only [Act.put, List.setIfInBounds_toArray, List.set_cons_zero, List.set_cons_succ])
  refine wpAnyH_take (i := 4) (oi := ({ dst := some 113, op := Op.load 40 (Operand.tmp 112), type := 40, pos := "ref.go:67", after := #[{ on := 3, ground := Ground.data }], guard := none } : Oper)) (v := ?vd22m5) rfl (by kernel_rfl) (by kernel_rfl) (by kernel_rfl) (fun _ _ _ h => h) (Or.inl ⟨by rfl, fun w hSw => ?hyd22m5⟩) (by assumption) ?rd22m5
  case hyd22m5 => (try dsimp only at hSw); go_simp; (try with_reducible rfl)
  (try simp only [Act.put, List.setIfInBounds_toArray, List.set_cons_zero, List.set_cons_succ])
  refine wpAnyH_take (i := 5) (oi := ({ dst := some 114, op := Op.move (Operand.tmp 0), type := 47, pos := "ref.go:67", after := #[], guard := none } : Oper)) (v := ?vd22m6) rfl (by kernel_rfl) (by kernel_rfl) (by kernel_rfl) (fun _ _ _ h => h) (Or.inl ⟨by rfl, fun w hSw => ?hyd22m6⟩) (by assumption) ?rd22m6
  case hyd22m6 => (try dsimp only at hSw); go_simp; (try with_reducible rfl)
  (try simp only [Act.put, List.setIfInBounds_toArray, List.set_cons_zero, List.set_cons_succ])
  refine wpAnyH_take (i := 6) (oi := ({ dst := some 115, op := Op.nilCheck (Operand.tmp 114), type := 0, pos := "ref.go:67", after := #[{ on := 5, ground := Ground.data }], guard := none } : Oper)) (v := ?vd22m7) rfl (by kernel_rfl) (by kernel_rfl) (by kernel_rfl) (fun _ _ _ h => h) (Or.inl ⟨by rfl, fun w hSw => ?hyd22m7⟩) (by assumption) ?rd22m7
  case hyd22m7 => (try dsimp only at hSw); go_simp; (try with_reducible rfl)
  (try simp only [Act.put, List.setIfInBounds_toArray, List.set_cons_zero, List.set_cons_succ])
  refine wpAnyH_take (i := 7) (oi := ({ dst := some 116, op := Op.fieldAddr 58 (Operand.tmp 115) 3, type := 0, pos := "ref.go:67", after := #[{ on := 6, ground := Ground.data }], guard := none } : Oper)) (v := ?vd22m8) rfl (by kernel_rfl) (by kernel_rfl) (by kernel_rfl) (fun _ _ _ h => h) (Or.inl ⟨by rfl, fun w hSw => ?hyd22m8⟩) (by assumption) ?rd22m8
  case hyd22m8 => (try dsimp only at hSw); go_simp; (try with_reducible rfl)
  (try simp only [Act.put, List.setIfInBounds_toArray, List.set_cons_zero, List.set_cons_succ])
  refine wpAnyH_take (i := 8) (oi := ({ dst := some 117, op := Op.load 22 (Operand.tmp 116), type := 22, pos := "ref.go:67", after := #[{ on := 7, ground := Ground.data }], guard := none } : Oper)) (v := ?vd22m9) rfl (by kernel_rfl) (by kernel_rfl) (by kernel_rfl) (fun _ _ _ h => h) (Or.inl ⟨by rfl, fun w hSw => ?hyd22m9⟩) (by assumption) ?rd22m9
  case hyd22m9 => (try dsimp only at hSw); go_simp; (try with_reducible rfl)
  (try simp only [Act.put, List.setIfInBounds_toArray, List.set_cons_zero, List.set_cons_succ])
  refine wpAnyH_take (i := 9) (oi := ({ dst := some 118, op := Op.load 134 (Operand.tmp 4), type := 134, pos := "ref.go:67", after := #[], guard := none } : Oper)) (v := ?vd22m10) rfl (by kernel_rfl) (by kernel_rfl) (by kernel_rfl) (fun _ _ _ h => h) (Or.inl ⟨by rfl, fun w hSw => ?hyd22m10⟩) (by assumption) ?rd22m10
  case hyd22m10 => (try dsimp only at hSw); go_simp; (try with_reducible rfl)
  (try simp only [Act.put, List.setIfInBounds_toArray, List.set_cons_zero, List.set_cons_succ])
  refine wpAnyH_ready (rs := [10]) (by kernel_rfl) (by simp) ?_
  refine AllReadyH.cons (o := ({ dst := some 119, op := Op.call { callee := Callee.value (Operand.func 51), args := #[Operand.tmp 118], argTypes := #[134] }, type := 22, pos := "ref.go:67", after := #[{ on := 9, ground := Ground.data }], guard := none } : Oper)) rfl (fun Kq hKq => ?_) AllReadyH.nil
  go_simp
  (refine (HPT.out _).mono ?_; rintro e w4 ⟨rfl, hb4⟩; (have HCX := Lib.hid (HCC.out w4 ((H3.out.new (Below.refl _ _).drew).new hb4))))
  refine hKq.out _ _ ?_ (fun hHeld => ?_)
  · exact ⟨bcell hb4 hHeld.1, bcell hb4 hHeld.2.1, bcell hb4 hHeld.2.2.1, bcell hb4 hHeld.2.2.2.1, bcell hb4 hHeld.2.2.2.2⟩
  clear hKq Kq
  (try simp only [Act.put, List.setIfInBounds_toArray, List.set_cons_zero, List.set_cons_succ])
  refine wpAnyH_ready (rs := [11]) (by kernel_rfl) (by simp) ?_
  refine AllReadyH.cons (o := ({ dst := some 120, op := Op.call { callee := Callee.value (Operand.func 49), args := #[Operand.tmp 109, Operand.tmp 113, Operand.tmp 117, Operand.tmp 119], argTypes := #[34, 40, 22, 22] }, type := 136, pos := "ref.go:67", after := #[{ on := 0, ground := Ground.data }, { on := 4, ground := Ground.data }, { on := 8, ground := Ground.data }, { on := 10, ground := Ground.data }, { on := 10, ground := Ground.chain }], guard := none } : Oper)) rfl (fun Kq hKq => ?_) AllReadyH.nil
  go_simp
  (refine HCX.out.mono ?_; rintro e w5 ⟨rfl, Y5, h5⟩)
  refine hKq.out _ _ ?_ (fun hHeld => ?_)
  · (have hq := h5.last HJ.out; exact ⟨h5.b2, h5.b3, cell_row hq 0, cell_row hq 1, cell_row hq 2⟩)
  clear hKq Kq
  (try simp only [Act.put, List.setIfInBounds_toArray, List.set_cons_zero, List.set_cons_succ])
  refine wpAnyH_take (i := 12) (oi := ({ dst := some 108, op := Op.move (Operand.tmp 120), type := 136, pos := "ref.go:67", after := #[{ on := 11, ground := Ground.data }], guard := none } : Oper)) (v := ?vd22m11) rfl (by kernel_rfl) (by kernel_rfl) (by kernel_rfl) (fun _ _ _ h => h) (Or.inl ⟨by rfl, fun w hSw => ?hyd22m11⟩) (by assumption) ?rd22m11
  case hyd22m11 => (try dsimp only at hSw); go_simp; (try with_reducible rfl)
  (try simp only [Act.put, List.setIfInBounds_toArray, List.set_cons_zero, List.set_cons_succ])
  refine wpAnyH_take (i := 13) (oi := ({ dst := some 121, op := Op.extract (Operand.tmp 108) 0, type := 22, pos := "ref.go:67", after := #[{ on := 12, ground := Ground.data }], guard := none } : Oper)) (v := ?vd22m12) rfl (by kernel_rfl) (by kernel_rfl) (by kernel_rfl) (fun _ _ _ h => h) (Or.inl ⟨by rfl, fun w hSw => ?hyd22m12⟩) (by assumption) ?rd22m12
  case hyd22m12 => (try dsimp only at hSw); go_simp; (try with_reducible rfl)
  (try simp only [Act.put, List.setIfInBounds_toArray, List.set_cons_zero, List.set_cons_succ])
  refine wpAnyH_take (i := 14) (oi := ({ dst := some 122, op := Op.extract (Operand.tmp 108) 1, type := 4, pos := "ref.go:67", after := #[{ on := 12, ground := Ground.data }, { on := 15, ground := Ground.gcOnly Departure.lateStores }], guard := none } : Oper)) (v := ?vd22m13) rfl (by kernel_rfl) (by kernel_rfl) (by kernel_rfl) (fun _ _ _ h => h) (Or.inl ⟨by rfl, fun w hSw => ?hyd22m13⟩) (by assumption) ?rd22m13
  case hyd22m13 => (try dsimp only at hSw); go_simp; (try with_reducible rfl)
  (try simp only [Act.put, List.setIfInBounds_toArray, List.set_cons_zero, List.set_cons_succ])
  refine wpAnyH_take (i := 15) (oi := ({ dst := some 9, op := Op.assign (Operand.tmp 121), type := 22, pos := "ref.go:67", after := #[{ on := 13, ground := Ground.data }, { on := 11, ground := Ground.chain }, { on := 0, ground := Ground.phase }, { on := 1, ground := Ground.phase }, { on := 2, ground := Ground.phase }, { on := 3, ground := Ground.phase }, { on := 4, ground := Ground.phase }, { on := 5, ground := Ground.phase }, { on := 6, ground := Ground.phase }, { on := 7, ground := Ground.phase }, { on := 8, ground := Ground.phase }, { on := 9, ground := Ground.phase }, { on := 10, ground := Ground.phase }, { on := 11, ground := Ground.phase }, { on := 12, ground := Ground.phase }, { on := 13, ground := Ground.phase }, { on := 14, ground := Ground.textOnly Departure.lateStores }], guard := none } : Oper)) (v := ?vd22m14) rfl (by kernel_rfl) (by kernel_rfl) (by kernel_rfl) (fun _ _ _ h => h) (Or.inl ⟨by rfl, fun w hSw => ?hyd22m14⟩) (by assumption) ?rd22m14
  case hyd22m14 => (try dsimp only at hSw); go_simp; (try with_reducible rfl)
  (try simp only [Act.put, List.setIfInBounds_toArray, List.set_cons_zero, List.set_cons_succ])
  refine wpAnyH_take (i := 16) (oi := ({ dst := some 10, op := Op.assign (Operand.tmp 122), type := 4, pos := "ref.go:67", after := #[{ on := 14, ground := Ground.data }, { on := 15, ground := Ground.chain }, { on := 0, ground := Ground.phase }, { on := 1, ground := Ground.phase }, { on := 2, ground := Ground.phase }, { on := 3, ground := Ground.phase }, { on := 4, ground := Ground.phase }, { on := 5, ground := Ground.phase }, { on := 6, ground := Ground.phase }, { on := 7, ground := Ground.phase }, { on := 8, ground := Ground.phase }, { on := 9, ground := Ground.phase }, { on := 10, ground := Ground.phase }, { on := 11, ground := Ground.phase }, { on := 12, ground := Ground.phase }, { on := 13, ground := Ground.phase }, { on := 14, ground := Ground.phase }, { on := 15, ground := Ground.phase }], guard := none } : Oper)) (v := ?vd22m15) rfl (by kernel_rfl) (by kernel_rfl) (by kernel_rfl) (fun _ _ _ h => h) (Or.inl ⟨by rfl, fun w hSw => ?hyd22m15⟩) (by assumption) ?rd22m15
  case hyd22m15 => (try dsimp only at hSw); go_simp; (try with_reducible rfl)
  (try simp only [Act.put, List.setIfInBounds_toArray, List.set_cons_zero, List.set_cons_succ])
  refine wpAnyH_done (by kernel_rfl) ?_ _
  have c0 := h5.b0; have z0 := h5.fz 0
  have H5 := Lib.hid h5
  clear h5 hHeld c2 c3 k0 k1 k2 HPT HCC HCX
  by_cases e : x = K.st
  · have hd1 : decide (x = K.st) = true := decide_eq_true e
    rw [hd1]
    have HK := Lib.hid (show K.cas x K.st { K with ln := 6 } = { K with ln := 6 } from if_pos e)
    clear hd1 e
    go_wp2_with fail
    go_end0
    exact ⟨rfl, Y5, by rw [HK.out]; exact (H5.out.ln 6).dropB HJ.out⟩
  · have hd1 : decide (x = K.st) = false := decide_eq_false e
    rw [hd1]
    have HK := Lib.hid (show K.cas x K.st { K with ln := 6 } = ({ K with ln := 6 } : Lk).turn x from (if_neg e).trans (turn_ln _ 6 x).symm)
    have HTN := Lib.hid (turn_r (H5.out.ln 6) HSP.out HX.out)
    clear hd1 e
    go_upto_region 24 with (fail)
    generalize w5.setCell ⟨B, 0, none⟩ (.int .i64 6) = w6 at *
    clear c0 z0
    go_wp2_with (go_at_call 50; refine HTN.out.mono ?_; rintro e w7 ⟨rfl, h7⟩)
    go_end0
    exact ⟨rfl, Y5, by rw [HK.out]; exact h7.dropB HJ.out⟩
set_option maxRecDepth 100000 in
set_option maxHeartbeats 4000000 in
theorem rstep2 (h : Wr w0 w base RB M l r j B K Y) (ok : LkOk M K) (hl : K.ln = 2) : Calls Tryz.prog 13 #[Pw B, Pw RB] w fun e w' => e = .returned (.tuple #[]) ∧ SteppedR w0 w' base RB M l r j B K := by
  unfold SteppedR
  rw [show stepM M K = _ from by simp only [stepM, hl]; rfl, show stepK M K = _ from by simp only [stepK, hl]; rfl]
  have HJ := Lib.hid h.hj
  have HLK := Lib.hid h.look
  have HAS := Lib.hid (fun W => S1.ras_any K.st ok.st W)
  unfold S1.asV at HAS
  obtain ⟨b0, hb0⟩ : ∃ x, x = S1.bitB K.st 0 := ⟨_, rfl⟩
  obtain ⟨b1, hb1⟩ : ∃ x, x = S1.bitB K.st 1 := ⟨_, rfl⟩
  obtain ⟨hd, hhd⟩ : ∃ x, x = S1.headN K.st := ⟨_, rfl⟩
  have HHD : Hid (S1.isHead hd) := Lib.hid (by rw [hhd]; exact S1.head_is _)
  obtain ⟨x, hx⟩ : ∃ x, x = S2.look M.L K.a := ⟨_, rfl⟩
  rw [← hx]
  have HX : Hid (x < 18446744073709551616) := Lib.hid (by rw [hx]; exact HLK.out K.a)
  have HXE := Lib.hid hx
  clear hx
  obtain ⟨pu, hpu⟩ : ∃ x, x = S1.putU true (S1.bitB K.st 1) (S1.headN K.st) := ⟨_, rfl⟩
  have HPL : Hid (pu < 18446744073709551616) := Lib.hid (by rw [hpu]; exact S1.putU_lt _ _ _)
  have HPT : Hid (∀ W, Calls Tryz.prog 51 #[.agg #[.bool true, .bool b1, .int .i64 hd]] W fun e w' => e = .returned (.int .u64 (pu : Int)) ∧ Below W.heap.size W w') := Lib.hid (fun W => by rw [hpu, ← hb1, ← hhd]; exact S1.rputU_any true b1 hd HHD.out W)
  rw [← hpu]
  clear hpu
  rw [← hb0, ← hb1, ← hhd] at HAS
  have HT := Lib.hid (And.intro hb0 (And.intro hb1 hhd))
  clear hb0 hb1 hhd
  have c3 := h.b3
  have HW := Lib.hid h
  have HOK := Lib.hid ok; have HLN := Lib.hid hl
  clear h ok hl
  go_enter Tryz.func13, Tryz.ntmps13
  go_upto_region 1 with (go_at_call 47; refine (HAS.out _).mono ?_; rintro e w1 ⟨rfl, hb1⟩)
  have h1 := (HW.out.new hb1).pushB (.cells #[.bool b0, .bool b1, .int .i64 hd] 134)
  generalize w1.alloc (.cells #[.bool b0, .bool b1, .int .i64 hd] 134) = w2 at *
  generalize w1.heap.size = Q at *
  have c0 : w2.cell? ⟨B, 0, none⟩ = some (.int .i64 2) := by have := h1.b0; rw [HLN.out] at this; exact this
  clear c3 HAS hb1 HW
  have hl1 := h1.last HJ.out
  have x0 := cell_row hl1 0; have xz := froz_row hl1 0
  simp only [List.getElem?_toArray, List.getElem?_cons_zero, List.getElem?_cons_succ] at x0
  have h3 := h1.turnLast HJ.out (.cells #[.bool true, .bool b1, .int .i64 hd] 134) (set_blk hl1 0 (.bool true) _ (by simp)) ((Turns.refl (fun k => k = Q) w2).setCell ⟨Q, 0, none⟩ _ rfl)
  clear h1 hl1
  go_upto_region 10 with (fail)
  generalize w2.setCell ⟨Q, 0, none⟩ (.bool true) = w3 at *
  have hl3 := h3.last HJ.out
  have k0 := cell_row hl3 0; have k1 := cell_row hl3 1; have k2 := cell_row hl3 2
  simp only [List.getElem?_toArray, List.getElem?_cons_zero, List.getElem?_cons_succ] at k0 k1 k2
  have c2 := h3.b2; have c3 := h3.b3
  have HCC : Hid (∀ W, Wr w0 W base RB M l (r ++ [blockP Q (.cells #[.bool true, .bool b1, .int .i64 hd] 134)]) j B K Y → Calls Tryz.prog 49 #[Pw RB, .int .u32 (K.a : Int), .int .u64 (K.st : Int), .int .u64 (pu : Int)] W fun e w' => e = .returned (.tuple #[.int .u64 (x : Int), .bool (decide (x = K.st))]) ∧ ∃ Y', Wr w0 w' base RB (M.acc 3 K.a (S2.casV x K.st pu)) l (r ++ [blockP Q (.cells #[.bool true, .bool b1, .int .i64 hd] 134)]) j B K Y') := Lib.hid (fun W hW => by
    have := hW.pg.cas HOK.out.a (u := K.st) (v := pu) HPL.out HOK.out.n
    rw [← HXE.out] at this
    refine this.mono ?_
    rintro e w' ⟨rfl, Y', h'⟩
    exact ⟨rfl, Y', h', hW.hj⟩)
  have H3 := Lib.hid h3
  have HSP : Hid (K.sp ≤ 9223372036854775807) := Lib.hid (by have := HOK.out.sp; omega)
  clear h3 hl3 x0 xz c0
  refine wp_region_held_drew (S := fun w' => w'.cell? ⟨B, 2, none⟩ = some (.int .u32 (K.a : Int)) ∧ w'.cell? ⟨B, 3, none⟩ = some (.int .u64 (K.st : Int)) ∧ w'.cell? ⟨Q, 0, none⟩ = some (.bool true) ∧ w'.cell? ⟨Q, 1, none⟩ = some (.bool b1) ∧ w'.cell? ⟨Q, 2, none⟩ = some (.int .i64 hd)) (by kernel_rfl) ?_ (fun hHeld => ?_)
  · exact ⟨c2, c3, k0, k1, k2⟩
  refine wpAnyH_take (i := 0) (oi := ({ dst := some 48, op := Op.move (Operand.tmp 1), type := 34, pos := "ref.go:54", after := #[], guard := none } : Oper)) (v := ?vd10m1) rfl (by kernel_rfl) (by kernel_rfl) (by kernel_rfl) (fun _ _ _ h => h) (Or.inl ⟨by rfl, fun w hSw => ?hyd10m1⟩) (by assumption) ?rd10m1
  case hyd10m1 => (try dsimp only at hSw); go_simp; (try with_reducible rfl)
  (try simp only [Act.put, List.setIfInBounds_toArray, List.set_cons_zero, List.set_cons_succ])
  refine wpAnyH_take (i := 1) (oi := ({ dst := some 49, op := Op.move (Operand.tmp 0), type := 47, pos := "ref.go:54", after := #[], guard := none } : Oper)) (v := ?vd10m2) rfl (by kernel_rfl) (by kernel_rfl) (by kernel_rfl) (fun _ _ _ h => h) (Or.inl ⟨by rfl, fun w hSw => ?hyd10m2⟩) (by assumption) ?rd10m2
  case hyd10m2 => (try dsimp only at hSw); go_simp; (try with_reducible rfl)
  (try simp only [Act.put, List.setIfInBounds_toArray, List.set_cons_zero, List.set_cons_succ])
  refine wpAnyH_take (i := 2) (oi := ({ dst := some 50, op := Op.nilCheck (Operand.tmp 49), type := 0, pos := "ref.go:54", after := #[{ on := 1, ground := Ground.data }], guard := none } : Oper)) (v := ?vd10m3) rfl (by kernel_rfl) (by kernel_rfl) (by kernel_rfl) (fun _ _ _ h => h) (Or.inl ⟨by rfl, fun w hSw => ?hyd10m3⟩) (by assumption) ?rd10m3
  case hyd10m3 => (try dsimp only at hSw); go_simp; (try with_reducible rfl)
  (try simp only [Act.put, List.setIfInBounds_toArray, List.set_cons_zero, List.set_cons_succ])
  refine wpAnyH_take (i := 3) (oi := ({ dst := some 51, op := Op.fieldAddr 58 (Operand.tmp 50) 2, type := 0, pos := "ref.go:54", after := #[{ on := 2, ground := Ground.data }], guard := none } : Oper)) (v := ?vd10m4) rfl (by kernel_rfl) (by kernel_rfl) (by kernel_rfl) (fun _ _ _ h => h) (Or.inl ⟨by rfl, fun w hSw => ?hyd10m4⟩) (by assumption) ?rd10m4
  case hyd10m4 => (try dsimp only at hSw); go_simp; (try with_reducible rfl)
  (try simp only [Act.put, List.setIfInBounds_toArray, List.set_cons_zero, List.set_cons_succ])
  refine wpAnyH_take (i := 4) (oi := ({ dst := some 52, op := Op.load 40 (Operand.tmp 51), type := 40, pos := "ref.go:54", after := #[{ on := 3, ground := Ground.data }], guard := none } : Oper)) (v := ?vd10m5) rfl (by kernel_rfl) (by kernel_rfl) (by kernel_rfl) (fun _ _ _ h => h) (Or.inl ⟨by rfl, fun w hSw => ?hyd10m5⟩) (by assumption) ?rd10m5
  case hyd10m5 => (try dsimp only at hSw); go_simp; (try with_reducible rfl)
  (try simp only [Act.put, List.setIfInBounds_toArray, List.set_cons_zero, List.set_cons_succ])
  refine wpAnyH_take (i := 5) (oi := ({ dst := some 53, op := Op.move (Operand.tmp 0), type := 47, pos := "ref.go:54", after := #[], guard := none } : Oper)) (v := ?vd10m6) rfl (by kernel_rfl) (by kernel_rfl) (by kernel_rfl) (fun _ _ _ h => h) (Or.inl ⟨by rfl, fun w hSw => ?hyd10m6⟩) (by assumption) ?rd10m6
  case hyd10m6 => (try dsimp only at hSw); go_simp; (try with_reducible rfl)
  (try simp only [Act.put, List.setIfInBounds_toArray, List.set_cons_zero, List.set_cons_succ])
  refine wpAnyH_take (i := 6) (oi := ({ dst := some 54, op := Op.nilCheck (Operand.tmp 53), type := 0, pos := "ref.go:54", after := #[{ on := 5, ground := Ground.data }], guard := none } : Oper)) (v := ?vd10m7) rfl (by kernel_rfl) (by kernel_rfl) (by kernel_rfl) (fun _ _ _ h => h) (Or.inl ⟨by rfl, fun w hSw => ?hyd10m7⟩) (by assumption) ?rd10m7
  case hyd10m7 => (try dsimp only at hSw); go_simp; (try with_reducible rfl)
  (try simp only [Act.put, List.setIfInBounds_toArray, List.set_cons_zero, List.set_cons_succ])
  refine wpAnyH_take (i := 7) (oi := ({ dst := some 55, op := Op.fieldAddr 58 (Operand.tmp 54) 3, type := 0, pos := "ref.go:54", after := #[{ on := 6, ground := Ground.data }], guard := none } : Oper)) (v := ?vd10m8) rfl (by kernel_rfl) (by kernel_rfl) (by kernel_rfl) (fun _ _ _ h => h) (Or.inl ⟨by rfl, fun w hSw => ?hyd10m8⟩) (by assumption) ?rd10m8
  case hyd10m8 => (try dsimp only at hSw); go_simp; (try with_reducible rfl)
  (try simp only [Act.put, List.setIfInBounds_toArray, List.set_cons_zero, List.set_cons_succ])
  refine wpAnyH_take (i := 8) (oi := ({ dst := some 56, op := Op.load 22 (Operand.tmp 55), type := 22, pos := "ref.go:54", after := #[{ on := 7, ground := Ground.data }], guard := none } : Oper)) (v := ?vd10m9) rfl (by kernel_rfl) (by kernel_rfl) (by kernel_rfl) (fun _ _ _ h => h) (Or.inl ⟨by rfl, fun w hSw => ?hyd10m9⟩) (by assumption) ?rd10m9
  case hyd10m9 => (try dsimp only at hSw); go_simp; (try with_reducible rfl)
  (try simp only [Act.put, List.setIfInBounds_toArray, List.set_cons_zero, List.set_cons_succ])
  refine wpAnyH_take (i := 9) (oi := ({ dst := some 57, op := Op.load 134 (Operand.tmp 4), type := 134, pos := "ref.go:54", after := #[], guard := none } : Oper)) (v := ?vd10m10) rfl (by kernel_rfl) (by kernel_rfl) (by kernel_rfl) (fun _ _ _ h => h) (Or.inl ⟨by rfl, fun w hSw => ?hyd10m10⟩) (by assumption) ?rd10m10
  case hyd10m10 => (try dsimp only at hSw); go_simp; (try with_reducible rfl)
  (try simp only [Act.put, List.setIfInBounds_toArray, List.set_cons_zero, List.set_cons_succ])
  refine wpAnyH_ready (rs := [10]) (by kernel_rfl) (by simp) ?_
  refine AllReadyH.cons (o := ({ dst := some 58, op := Op.call { callee := Callee.value (Operand.func 51), args := #[Operand.tmp 57], argTypes := #[134] }, type := 22, pos := "ref.go:54", after := #[{ on := 9, ground := Ground.data }], guard := none } : Oper)) rfl (fun Kq hKq => ?_) AllReadyH.nil
  go_simp
  (refine (HPT.out _).mono ?_; rintro e w4 ⟨rfl, hb4⟩; (have HCX := Lib.hid (HCC.out w4 ((H3.out.new (Below.refl _ _).drew).new hb4))))
  refine hKq.out _ _ ?_ (fun hHeld => ?_)
  · exact ⟨bcell hb4 hHeld.1, bcell hb4 hHeld.2.1, bcell hb4 hHeld.2.2.1, bcell hb4 hHeld.2.2.2.1, bcell hb4 hHeld.2.2.2.2⟩
  clear hKq Kq
  (try simp only [Act.put, List.setIfInBounds_toArray, List.set_cons_zero, List.set_cons_succ])
  refine wpAnyH_ready (rs := [11]) (by kernel_rfl) (by simp) ?_
  refine AllReadyH.cons (o := ({ dst := some 59, op := Op.call { callee := Callee.value (Operand.func 49), args := #[Operand.tmp 48, Operand.tmp 52, Operand.tmp 56, Operand.tmp 58], argTypes := #[34, 40, 22, 22] }, type := 136, pos := "ref.go:54", after := #[{ on := 0, ground := Ground.data }, { on := 4, ground := Ground.data }, { on := 8, ground := Ground.data }, { on := 10, ground := Ground.data }, { on := 10, ground := Ground.chain }], guard := none } : Oper)) rfl (fun Kq hKq => ?_) AllReadyH.nil
  go_simp
  (refine HCX.out.mono ?_; rintro e w5 ⟨rfl, Y5, h5⟩)
  refine hKq.out _ _ ?_ (fun hHeld => ?_)
  · (have hq := h5.last HJ.out; exact ⟨h5.b2, h5.b3, cell_row hq 0, cell_row hq 1, cell_row hq 2⟩)
  clear hKq Kq
  (try simp only [Act.put, List.setIfInBounds_toArray, List.set_cons_zero, List.set_cons_succ])
  refine wpAnyH_take (i := 12) (oi := ({ dst := some 47, op := Op.move (Operand.tmp 59), type := 136, pos := "ref.go:54", after := #[{ on := 11, ground := Ground.data }], guard := none } : Oper)) (v := ?vd10m11) rfl (by kernel_rfl) (by kernel_rfl) (by kernel_rfl) (fun _ _ _ h => h) (Or.inl ⟨by rfl, fun w hSw => ?hyd10m11⟩) (by assumption) ?rd10m11
  case hyd10m11 => (try dsimp only at hSw); go_simp; (try with_reducible rfl)
  (try simp only [Act.put, List.setIfInBounds_toArray, List.set_cons_zero, List.set_cons_succ])
  refine wpAnyH_take (i := 13) (oi := ({ dst := some 60, op := Op.extract (Operand.tmp 47) 0, type := 22, pos := "ref.go:54", after := #[{ on := 12, ground := Ground.data }], guard := none } : Oper)) (v := ?vd10m12) rfl (by kernel_rfl) (by kernel_rfl) (by kernel_rfl) (fun _ _ _ h => h) (Or.inl ⟨by rfl, fun w hSw => ?hyd10m12⟩) (by assumption) ?rd10m12
  case hyd10m12 => (try dsimp only at hSw); go_simp; (try with_reducible rfl)
  (try simp only [Act.put, List.setIfInBounds_toArray, List.set_cons_zero, List.set_cons_succ])
  refine wpAnyH_take (i := 14) (oi := ({ dst := some 61, op := Op.extract (Operand.tmp 47) 1, type := 4, pos := "ref.go:54", after := #[{ on := 12, ground := Ground.data }, { on := 15, ground := Ground.gcOnly Departure.lateStores }], guard := none } : Oper)) (v := ?vd10m13) rfl (by kernel_rfl) (by kernel_rfl) (by kernel_rfl) (fun _ _ _ h => h) (Or.inl ⟨by rfl, fun w hSw => ?hyd10m13⟩) (by assumption) ?rd10m13
  case hyd10m13 => (try dsimp only at hSw); go_simp; (try with_reducible rfl)
  (try simp only [Act.put, List.setIfInBounds_toArray, List.set_cons_zero, List.set_cons_succ])
  refine wpAnyH_take (i := 15) (oi := ({ dst := some 7, op := Op.assign (Operand.tmp 60), type := 22, pos := "ref.go:54", after := #[{ on := 13, ground := Ground.data }, { on := 11, ground := Ground.chain }, { on := 0, ground := Ground.phase }, { on := 1, ground := Ground.phase }, { on := 2, ground := Ground.phase }, { on := 3, ground := Ground.phase }, { on := 4, ground := Ground.phase }, { on := 5, ground := Ground.phase }, { on := 6, ground := Ground.phase }, { on := 7, ground := Ground.phase }, { on := 8, ground := Ground.phase }, { on := 9, ground := Ground.phase }, { on := 10, ground := Ground.phase }, { on := 11, ground := Ground.phase }, { on := 12, ground := Ground.phase }, { on := 13, ground := Ground.phase }, { on := 14, ground := Ground.textOnly Departure.lateStores }], guard := none } : Oper)) (v := ?vd10m14) rfl (by kernel_rfl) (by kernel_rfl) (by kernel_rfl) (fun _ _ _ h => h) (Or.inl ⟨by rfl, fun w hSw => ?hyd10m14⟩) (by assumption) ?rd10m14
  case hyd10m14 => (try dsimp only at hSw); go_simp; (try with_reducible rfl)
  (try simp only [Act.put, List.setIfInBounds_toArray, List.set_cons_zero, List.set_cons_succ])
  refine wpAnyH_take (i := 16) (oi := ({ dst := some 8, op := Op.assign (Operand.tmp 61), type := 4, pos := "ref.go:54", after := #[{ on := 14, ground := Ground.data }, { on := 15, ground := Ground.chain }, { on := 0, ground := Ground.phase }, { on := 1, ground := Ground.phase }, { on := 2, ground := Ground.phase }, { on := 3, ground := Ground.phase }, { on := 4, ground := Ground.phase }, { on := 5, ground := Ground.phase }, { on := 6, ground := Ground.phase }, { on := 7, ground := Ground.phase }, { on := 8, ground := Ground.phase }, { on := 9, ground := Ground.phase }, { on := 10, ground := Ground.phase }, { on := 11, ground := Ground.phase }, { on := 12, ground := Ground.phase }, { on := 13, ground := Ground.phase }, { on := 14, ground := Ground.phase }, { on := 15, ground := Ground.phase }], guard := none } : Oper)) (v := ?vd10m15) rfl (by kernel_rfl) (by kernel_rfl) (by kernel_rfl) (fun _ _ _ h => h) (Or.inl ⟨by rfl, fun w hSw => ?hyd10m15⟩) (by assumption) ?rd10m15
  case hyd10m15 => (try dsimp only at hSw); go_simp; (try with_reducible rfl)
  (try simp only [Act.put, List.setIfInBounds_toArray, List.set_cons_zero, List.set_cons_succ])
  refine wpAnyH_done (by kernel_rfl) ?_ _
  have c0 := h5.b0; have z0 := h5.fz 0
  have H5 := Lib.hid h5
  clear h5 hHeld c2 c3 k0 k1 k2 HPT HCC HCX
  by_cases e : x = K.st
  · have hd1 : decide (x = K.st) = true := decide_eq_true e
    rw [hd1]
    have HK := Lib.hid (show K.cas x K.st { K with ln := 0 } = { K with ln := 0 } from if_pos e)
    clear hd1 e
    go_wp2_with fail
    go_end0
    exact ⟨rfl, Y5, by rw [HK.out]; exact (H5.out.ln 0).dropB HJ.out⟩
  · have hd1 : decide (x = K.st) = false := decide_eq_false e
    rw [hd1]
    have HK := Lib.hid (show K.cas x K.st { K with ln := 0 } = ({ K with ln := 0 } : Lk).turn x from (if_neg e).trans (turn_ln _ 0 x).symm)
    have HTN := Lib.hid (turn_r (H5.out.ln 0) HSP.out HX.out)
    clear hd1 e
    go_upto_region 12 with (fail)
    generalize w5.setCell ⟨B, 0, none⟩ (.int .i64 0) = w6 at *
    clear c0 z0
    go_wp2_with (go_at_call 50; refine HTN.out.mono ?_; rintro e w7 ⟨rfl, h7⟩)
    go_end0
    exact ⟨rfl, Y5, by rw [HK.out]; exact h7.dropB HJ.out⟩
theorem step_r (h : Wr w0 w base RB M l r j B K Y) (ok : LkOk M K) (h6 : K.ln ≤ 6) (hby : S2.Byt M.L) : Calls Tryz.prog 13 #[Pw B, Pw RB] w fun e w' => e = .returned (.tuple #[]) ∧ SteppedR w0 w' base RB M l r j B K := by
  have hk : K.ln = 0 ∨ K.ln = 1 ∨ K.ln = 2 ∨ K.ln = 3 ∨ K.ln = 4 ∨ K.ln = 5 ∨ K.ln = 6 := by omega
  rcases hk with hk | hk | hk | hk | hk | hk | hk
  · exact rstep0 h ok hk
  · exact rstep1 h ok hk
  · exact rstep2 h ok hk
  · exact rstep3 h ok hk hby
  · exact rstep4 h ok hk
  · exact rstep5 h ok hk
  · exact rstep6 h ok hk
end
end Go.Proofs.YtlflagjnlclffaaGreat.S13
namespace Go.Proofs.YtlflagjnlclffaaGreat.S13
open Go.Proofs.YtlflagjnlclffaaGreat Go.Proofs.YtlflagjnlclffaaGreat.S11 Go.Proofs.YtlflagjnlclffaaGreat.S12
open Go.RowKit

section
variable {w0 w w' : World} {base WB : Nat} {M : Sd} {r : List Part} {j B : Nat} {K : Lk} {X : Wm}
theorem Wl.turnLast {Q : Nat} {ob : Obj} (h : Wl w0 w base WB M (r ++ [blockP Q ob]) j B K X) (hj : j < r.length) (ob' : Obj) (hq : w'.heap[Q]? = some ob') (t : Turns (fun k => k = Q) w w') : Wl w0 w' base WB M (r ++ [blockP Q ob']) j B K X := by
  have e : ∀ q : Part, (r ++ [q]).set j (lockP B K) = r.set j (lockP B K) ++ [q] := fun q => List.set_append_left _ _ hj
  have hi : ((r ++ [blockP Q ob]).set j (lockP B K))[r.length]? = some (blockP Q ob) := by
    rw [e, List.getElem?_append_right (by rw [List.length_set]; exact Nat.le_refl _), List.length_set, Nat.sub_self]; rfl
  have := h.pg.turn hi (blockP Q ob') hq t (fun k e => .inl e)
  rw [e, List.set_append_right _ _ (by rw [List.length_set]; exact Nat.le_refl _), List.length_set, Nat.sub_self] at this
  refine ⟨?_, by rw [List.length_append]; simp; omega⟩
  rw [e]
  exact this
set_option maxRecDepth 100000 in
set_option maxHeartbeats 4000000 in
theorem take_l (h : Wl w0 w base WB M r j B K X) (ok : LkOk M K) (hl : K.ln = 2) : Calls Tryz.prog 179 #[askV K.t K.a, Pw B, Pw WB] w fun e w' => e = .returned (.tuple #[]) ∧ Stepped w0 w' base WB M r j B K := by
  unfold Stepped
  rw [show stepM M K = _ from by simp only [stepM, hl]; rfl, show stepK M K = _ from by simp only [stepK, hl]; rfl]
  have hj := h.hj
  have hA := h.pushB (.cells #[.int .i64 (K.t : Int), .int .u32 (K.a : Int)] 132)
  have k0 := cell_row (heap_alloc_new w (.cells #[.int .i64 (K.t : Int), .int .u32 (K.a : Int)] 132)) 0; have k1 := cell_row (heap_alloc_new w (.cells #[.int .i64 (K.t : Int), .int .u32 (K.a : Int)] 132)) 1
  simp only [List.getElem?_toArray, List.getElem?_cons_zero, List.getElem?_cons_succ] at k0 k1
  obtain ⟨Q, hQ⟩ : ∃ Q, Q = w.heap.size := ⟨_, rfl⟩
  rw [← hQ] at hA k0 k1
  have HA := Lib.hid hA; have HJ := Lib.hid hj; have HQ := Lib.hid hQ
  obtain ⟨b0, hb0⟩ : ∃ x, x = S1.bitB K.st 0 := ⟨_, rfl⟩
  obtain ⟨b1, hb1⟩ : ∃ x, x = S1.bitB K.st 1 := ⟨_, rfl⟩
  obtain ⟨hd, hhd⟩ : ∃ x, x = S1.headN K.st := ⟨_, rfl⟩
  have HAS : Hid (∀ W, Calls Tryz.prog 134 #[.int .u64 (K.st : Int)] W fun e w' => e = .returned (.agg #[.bool b0, .bool b1, .int .i64 hd]) ∧ Below W.heap.size W w') := Lib.hid (fun W => by
    have := S1.as_any K.st ok.st W
    unfold S1.asV at this
    rw [← hb0, ← hb1, ← hhd] at this
    exact this)
  obtain ⟨x, hx⟩ : ∃ x, x = S2.look M.L K.a := ⟨_, rfl⟩
  obtain ⟨v, hv⟩ : ∃ x, x = S1.putU true (S1.bitB K.st 1) (S1.headN K.st) := ⟨_, rfl⟩
  have hvl : v < 18446744073709551616 := by rw [hv]; exact S1.putU_lt _ _ _
  have hsw : ∀ W r', Wl w0 W base WB M r' j B K X → Calls Tryz.prog 100 #[askV K.t K.a, Pw B, Pw WB, .int .u64 (K.st : Int), .int .u64 (v : Int)] W fun e w' => e = .returned (.bool (decide (x = K.st))) ∧ ∃ X', Wl w0 w' base WB (M.acc 3 K.a (S2.casV x K.st v)) r' j B (K.cas x K.st K) X' := fun W r' hW => by
    rw [hx]
    exact swap_l hW (by omega) (by have := ok.sp; omega) ok.a ok.n hvl
  have HPT : Hid (∀ W, Calls Tryz.prog 101 #[.agg #[Value.bool true, Value.bool b1, Value.int .i64 hd]] W fun e w' => e = .returned (.int .u64 (v : Int)) ∧ Below W.heap.size W w') := Lib.hid (fun W => by
    have := S1.putU_any true b1 hd (by rw [hhd]; exact S1.head_is _) W
    rw [hb1, hhd, ← hv] at this
    rw [hb1, hhd]
    exact this)
  rw [← hv, ← hx]
  have HSWW := Lib.hid hsw
  have H6 : Hid (K.ln ≠ 6) := Lib.hid (by omega)
  clear hsw hx hv hvl ok hl hb0 hb1 hhd
  clear h hj hQ
  go_enter Tryz.func179, Tryz.ntmps179
  go_upto_region 1 with (fail)
  rw [← HQ.out]
  generalize w.alloc (.cells #[.int .i64 (K.t : Int), .int .u32 (K.a : Int)] 132) = w1 at *
  have c1 := HA.out.b1
  clear hA
  go_upto_region 2 with (go_at_call 134; refine (HAS.out _).mono ?_; rintro e w2 ⟨rfl, hb2⟩)
  have h3a := (HA.out.new hb2).pushB (.cells #[Value.bool b0, Value.bool b1, Value.int .i64 hd] 73)
  have HJ2 : Hid (j < (r ++ [blockP Q (.cells #[.int .i64 (K.t : Int), .int .u32 (K.a : Int)] 132)]).length) := Lib.hid (by rw [List.length_append]; have := HJ.out; omega)
  have hn := heap_alloc_new w2 (.cells #[Value.bool b0, Value.bool b1, Value.int .i64 hd] 73)
  have s0 := cell_row hn 0; have s1 := cell_row hn 1; have s2 := cell_row hn 2
  have f0 := froz_row hn 0
  have k0 := bcell (hb2.trans ((below1 w2 (.cells #[Value.bool b0, Value.bool b1, Value.int .i64 hd] 73)).mono hb2.size)) k0; have k1 := bcell (hb2.trans ((below1 w2 (.cells #[Value.bool b0, Value.bool b1, Value.int .i64 hd] 73)).mono hb2.size)) k1
  simp only [List.getElem?_toArray, List.getElem?_cons_zero, List.getElem?_cons_succ] at s0 s1 s2
  obtain ⟨Qs, hQs⟩ : ∃ x, x = w2.heap.size := ⟨_, rfl⟩
  rw [← hQs] at h3a hn s0 s1 s2 f0 ⊢
  have h3 := h3a.turnLast HJ2.out (.cells #[Value.bool true, Value.bool b1, Value.int .i64 hd] 73) (set_blk hn 0 (.bool true) _ (by simp)) ((Turns.refl (fun k => k = Qs) _).setCell ⟨Qs, 0, none⟩ _ rfl)
  have H3 := Lib.hid h3
  clear h3 h3a hQs hn c1
  generalize w2.alloc (.cells #[Value.bool b0, Value.bool b1, Value.int .i64 hd] 73) = w2' at *
  go_upto_region 3 with (fail)
  generalize w2'.setCell ⟨Qs, 0, none⟩ (.bool true) = w3 at *
  have hl2 := H3.out.last HJ2.out
  have hlb := (H3.out.dropB HJ2.out).last HJ.out
  have c1 : w3.drew.cell? ⟨B, 1, none⟩ = some (.int .u64 (K.st : Int)) := H3.out.b1
  have HF : Hid ((fun w' => w'.cell? ⟨Q, 0, none⟩ = some (.int .i64 (K.t : Int)) ∧ w'.cell? ⟨Q, 1, none⟩ = some (.int .u32 (K.a : Int)) ∧ w'.cell? ⟨Qs, 0, none⟩ = some (Value.bool true) ∧ w'.cell? ⟨Qs, 1, none⟩ = some (Value.bool b1) ∧ w'.cell? ⟨Qs, 2, none⟩ = some (Value.int .i64 hd)) w3.drew) := Lib.hid ⟨cell_row hlb 0, cell_row hlb 1, cell_row hl2 0, cell_row hl2 1, cell_row hl2 2⟩
  clear hl2 hlb k0 k1 s0 s1 s2 f0 HAS hb2
  refine wp_region_held_drew (S := fun w' => w'.cell? ⟨Q, 0, none⟩ = some (.int .i64 (K.t : Int)) ∧ w'.cell? ⟨Q, 1, none⟩ = some (.int .u32 (K.a : Int)) ∧ w'.cell? ⟨Qs, 0, none⟩ = some (Value.bool true) ∧ w'.cell? ⟨Qs, 1, none⟩ = some (Value.bool b1) ∧ w'.cell? ⟨Qs, 2, none⟩ = some (Value.int .i64 hd)) (by kernel_rfl) ?_ (fun hHeld => ?_)
  · exact HF.out
  refine wpAnyH_take (i := 0) (oi := ({ dst := some 13, op := Op.load 132 (Operand.tmp 3), type := 132, pos := "wordlocks.go:71", after := #[], guard := none } : Oper)) (v := ?vtx1) rfl (by kernel_rfl) (by kernel_rfl) (by kernel_rfl) (fun _ _ _ h => h) (Or.inl ⟨by rfl, fun w hSw => ?hytx1⟩) (by assumption) ?rtx1
  case hytx1 => (try dsimp only at hSw); go_simp; (try with_reducible rfl)
  (try simp only [Act.put, List.setIfInBounds_toArray, List.set_cons_zero, List.set_cons_succ])
  refine wpAnyH_take (i := 1) (oi := ({ dst := some 14, op := Op.move (Operand.tmp 1), type := 45, pos := "wordlocks.go:71", after := #[], guard := none } : Oper)) (v := ?vtx2) rfl (by kernel_rfl) (by kernel_rfl) (by kernel_rfl) (fun _ _ _ h => h) (Or.inl ⟨by rfl, fun w hSw => ?hytx2⟩) (by assumption) ?rtx2
  case hytx2 => (try dsimp only at hSw); go_simp; (try with_reducible rfl)
  (try simp only [Act.put, List.setIfInBounds_toArray, List.set_cons_zero, List.set_cons_succ])
  refine wpAnyH_take (i := 2) (oi := ({ dst := some 15, op := Op.move (Operand.tmp 2), type := 33, pos := "wordlocks.go:71", after := #[], guard := none } : Oper)) (v := ?vtx3) rfl (by kernel_rfl) (by kernel_rfl) (by kernel_rfl) (fun _ _ _ h => h) (Or.inl ⟨by rfl, fun w hSw => ?hytx3⟩) (by assumption) ?rtx3
  case hytx3 => (try dsimp only at hSw); go_simp; (try with_reducible rfl)
  (try simp only [Act.put, List.setIfInBounds_toArray, List.set_cons_zero, List.set_cons_succ])
  refine wpAnyH_take (i := 3) (oi := ({ dst := some 16, op := Op.move (Operand.tmp 1), type := 45, pos := "wordlocks.go:71", after := #[], guard := none } : Oper)) (v := ?vtx4) rfl (by kernel_rfl) (by kernel_rfl) (by kernel_rfl) (fun _ _ _ h => h) (Or.inl ⟨by rfl, fun w hSw => ?hytx4⟩) (by assumption) ?rtx4
  case hytx4 => (try dsimp only at hSw); go_simp; (try with_reducible rfl)
  (try simp only [Act.put, List.setIfInBounds_toArray, List.set_cons_zero, List.set_cons_succ])
  refine wpAnyH_take (i := 4) (oi := ({ dst := some 17, op := Op.nilCheck (Operand.tmp 16), type := 0, pos := "wordlocks.go:71", after := #[{ on := 3, ground := Ground.data }], guard := none } : Oper)) (v := ?vtx5) rfl (by kernel_rfl) (by kernel_rfl) (by kernel_rfl) (fun _ _ _ h => h) (Or.inl ⟨by rfl, fun w hSw => ?hytx5⟩) (by assumption) ?rtx5
  case hytx5 => (try dsimp only at hSw); go_simp; (try with_reducible rfl)
  (try simp only [Act.put, List.setIfInBounds_toArray, List.set_cons_zero, List.set_cons_succ])
  refine wpAnyH_take (i := 5) (oi := ({ dst := some 18, op := Op.fieldAddr 130 (Operand.tmp 17) 1, type := 0, pos := "wordlocks.go:71", after := #[{ on := 4, ground := Ground.data }], guard := none } : Oper)) (v := ?vtx6) rfl (by kernel_rfl) (by kernel_rfl) (by kernel_rfl) (fun _ _ _ h => h) (Or.inl ⟨by rfl, fun w hSw => ?hytx6⟩) (by assumption) ?rtx6
  case hytx6 => (try dsimp only at hSw); go_simp; (try with_reducible rfl)
  (try simp only [Act.put, List.setIfInBounds_toArray, List.set_cons_zero, List.set_cons_succ])
  refine wpAnyH_take (i := 7) (oi := ({ dst := some 20, op := Op.load 73 (Operand.tmp 6), type := 73, pos := "wordlocks.go:71", after := #[], guard := none } : Oper)) (v := ?vtx7) rfl (by kernel_rfl) (by kernel_rfl) (by kernel_rfl) (fun _ _ _ h => h) (Or.inl ⟨by rfl, fun w hSw => ?hytx7⟩) (by assumption) ?rtx7
  case hytx7 => (try dsimp only at hSw); go_simp; (try with_reducible rfl)
  (try simp only [Act.put, List.setIfInBounds_toArray, List.set_cons_zero, List.set_cons_succ])
  refine wpAnyH_ready (rs := [6, 8]) (by kernel_rfl) (by simp) ?_
  refine AllReadyH.cons (o := ({ dst := some 19, op := Op.load 22 (Operand.tmp 18), type := 22, pos := "wordlocks.go:71", after := #[{ on := 5, ground := Ground.data }], guard := none } : Oper)) rfl (fun Kq hKq => ?_) ?_
  · go_simp
    refine hKq.out _ _ ?_ (fun hHeld => ?_)
    · exact hHeld
    clear hKq Kq
    (try simp only [Act.put, List.setIfInBounds_toArray, List.set_cons_zero, List.set_cons_succ])
    refine wpAnyH_ready (rs := [8]) (by kernel_rfl) (by simp) ?_
    refine AllReadyH.cons (o := ({ dst := some 21, op := Op.call { callee := Callee.value (Operand.func 101), args := #[Operand.tmp 20], argTypes := #[73] }, type := 22, pos := "wordlocks.go:71", after := #[{ on := 7, ground := Ground.data }], guard := none } : Oper)) rfl (fun Kq hKq => ?_) AllReadyH.nil
    go_simp
    (refine (HPT.out _).mono ?_; rintro e w4 ⟨rfl, hb4⟩; have c1 := bcell hb4 c1; have HSW := Lib.hid (HSWW.out w4 _ ((H3.out.new (Below.refl _ _).drew).new hb4)))
    refine hKq.out _ _ ?_ (fun hHeld => ?_)
    · exact ⟨bcell hb4 hHeld.1, bcell hb4 hHeld.2.1, bcell hb4 hHeld.2.2.1, bcell hb4 hHeld.2.2.2.1, bcell hb4 hHeld.2.2.2.2⟩
    clear hKq Kq
    (try simp only [Act.put, List.setIfInBounds_toArray, List.set_cons_zero, List.set_cons_succ])
    refine wpAnyH_ready (rs := [9]) (by kernel_rfl) (by simp) ?_
    refine AllReadyH.cons (o := ({ dst := some 22, op := Op.call { callee := Callee.value (Operand.func 100), args := #[Operand.tmp 13, Operand.tmp 14, Operand.tmp 15, Operand.tmp 19, Operand.tmp 21], argTypes := #[132, 45, 33, 22, 22] }, type := 4, pos := "wordlocks.go:71", after := #[{ on := 0, ground := Ground.data }, { on := 1, ground := Ground.data }, { on := 2, ground := Ground.data }, { on := 6, ground := Ground.data }, { on := 8, ground := Ground.data }, { on := 8, ground := Ground.chain }], guard := none } : Oper)) rfl (fun Kq hKq => ?_) AllReadyH.nil
    go_simp
    (refine HSW.out.mono ?_; rintro e w5 ⟨rfl, X5, h5⟩)
    refine hKq.out _ _ ?_ (fun hHeld => ?_)
    · (have hl := (h5.dropB HJ2.out).last HJ.out; have hl2 := h5.last HJ2.out; exact ⟨cell_row hl 0, cell_row hl 1, cell_row hl2 0, cell_row hl2 1, cell_row hl2 2⟩)
    clear hKq Kq
    (try simp only [Act.put, List.setIfInBounds_toArray, List.set_cons_zero, List.set_cons_succ])
    refine wpAnyH_done (by kernel_rfl) ?_ _
    have h7 := (h5.dropB HJ2.out)
    have hl := h7.last HJ.out
    have k0 := cell_row hl 0; have k1 := cell_row hl 1
    simp only [List.getElem?_toArray, List.getElem?_cons_zero, List.getElem?_cons_succ] at k0 k1
    clear hl hHeld c1 h5
    go_upto_if 22 with fail
    by_cases e : x = K.st
    · rw [decide_eq_true e]
      have hk2 : K.cas x K.st K = K := if_pos e
      rw [hk2] at h7
      have c0 := h7.b0; have z0 := h7.fz 0; have c3 := h7.b3; have z3 := h7.fz 3
      have HK := Lib.hid (show K.cas x K.st { K with ln := 0 } = { K with ln := 0 } from if_pos e); have H5 := Lib.hid h7
      clear hk2 e h7 HSW HSWW
      go_wp2_with fail
      go_end0
      exact ⟨rfl, X5, by rw [HK.out]; exact (H5.out.next H6.out 0 (by decide) .nilFunc rfl).dropB HJ.out⟩
    · rw [decide_eq_false e]
      have HK := Lib.hid (show K.cas x K.st { K with ln := 0 } = K.cas x K.st K from (if_neg e).trans (if_neg e).symm); have H5 := Lib.hid h7
      clear e h7 HSW HSWW
      go_wp2_with fail
      go_end0
      exact ⟨rfl, X5, by rw [HK.out]; exact H5.out.dropB HJ.out⟩
  refine AllReadyH.cons (o := ({ dst := some 21, op := Op.call { callee := Callee.value (Operand.func 101), args := #[Operand.tmp 20], argTypes := #[73] }, type := 22, pos := "wordlocks.go:71", after := #[{ on := 7, ground := Ground.data }], guard := none } : Oper)) rfl (fun Kq hKq => ?_) AllReadyH.nil
  go_simp
  (refine (HPT.out _).mono ?_; rintro e w4 ⟨rfl, hb4⟩; have c1 := bcell hb4 c1; have HSW := Lib.hid (HSWW.out w4 _ ((H3.out.new (Below.refl _ _).drew).new hb4)))
  refine hKq.out _ _ ?_ (fun hHeld => ?_)
  · exact ⟨bcell hb4 hHeld.1, bcell hb4 hHeld.2.1, bcell hb4 hHeld.2.2.1, bcell hb4 hHeld.2.2.2.1, bcell hb4 hHeld.2.2.2.2⟩
  clear hKq Kq
  (try simp only [Act.put, List.setIfInBounds_toArray, List.set_cons_zero, List.set_cons_succ])
  refine wpAnyH_ready (rs := [6]) (by kernel_rfl) (by simp) ?_
  refine AllReadyH.cons (o := ({ dst := some 19, op := Op.load 22 (Operand.tmp 18), type := 22, pos := "wordlocks.go:71", after := #[{ on := 5, ground := Ground.data }], guard := none } : Oper)) rfl (fun Kq hKq => ?_) AllReadyH.nil
  go_simp
  refine hKq.out _ _ ?_ (fun hHeld => ?_)
  · exact hHeld
  clear hKq Kq
  (try simp only [Act.put, List.setIfInBounds_toArray, List.set_cons_zero, List.set_cons_succ])
  refine wpAnyH_ready (rs := [9]) (by kernel_rfl) (by simp) ?_
  refine AllReadyH.cons (o := ({ dst := some 22, op := Op.call { callee := Callee.value (Operand.func 100), args := #[Operand.tmp 13, Operand.tmp 14, Operand.tmp 15, Operand.tmp 19, Operand.tmp 21], argTypes := #[132, 45, 33, 22, 22] }, type := 4, pos := "wordlocks.go:71", after := #[{ on := 0, ground := Ground.data }, { on := 1, ground := Ground.data }, { on := 2, ground := Ground.data }, { on := 6, ground := Ground.data }, { on := 8, ground := Ground.data }, { on := 8, ground := Ground.chain }], guard := none } : Oper)) rfl (fun Kq hKq => ?_) AllReadyH.nil
  go_simp
  (refine HSW.out.mono ?_; rintro e w5 ⟨rfl, X5, h5⟩)
  refine hKq.out _ _ ?_ (fun hHeld => ?_)
  · (have hl := (h5.dropB HJ2.out).last HJ.out; have hl2 := h5.last HJ2.out; exact ⟨cell_row hl 0, cell_row hl 1, cell_row hl2 0, cell_row hl2 1, cell_row hl2 2⟩)
  clear hKq Kq
  (try simp only [Act.put, List.setIfInBounds_toArray, List.set_cons_zero, List.set_cons_succ])
  refine wpAnyH_done (by kernel_rfl) ?_ _
  have h7 := (h5.dropB HJ2.out)
  have hl := h7.last HJ.out
  have k0 := cell_row hl 0; have k1 := cell_row hl 1
  simp only [List.getElem?_toArray, List.getElem?_cons_zero, List.getElem?_cons_succ] at k0 k1
  clear hl hHeld c1 h5
  go_upto_if 22 with fail
  by_cases e : x = K.st
  · rw [decide_eq_true e]
    have hk2 : K.cas x K.st K = K := if_pos e
    rw [hk2] at h7
    have c0 := h7.b0; have z0 := h7.fz 0; have c3 := h7.b3; have z3 := h7.fz 3
    have HK := Lib.hid (show K.cas x K.st { K with ln := 0 } = { K with ln := 0 } from if_pos e); have H5 := Lib.hid h7
    clear hk2 e h7 HSW HSWW
    go_wp2_with fail
    go_end0
    exact ⟨rfl, X5, by rw [HK.out]; exact (H5.out.next H6.out 0 (by decide) .nilFunc rfl).dropB HJ.out⟩
  · rw [decide_eq_false e]
    have HK := Lib.hid (show K.cas x K.st { K with ln := 0 } = K.cas x K.st K from (if_neg e).trans (if_neg e).symm); have H5 := Lib.hid h7
    clear e h7 HSW HSWW
    go_wp2_with fail
    go_end0
    exact ⟨rfl, X5, by rw [HK.out]; exact H5.out.dropB HJ.out⟩
set_option maxRecDepth 100000 in
set_option maxHeartbeats 4000000 in
theorem queue_l (h : Wl w0 w base WB M r j B K X) (ok : LkOk M K) (hl : K.ln = 5) : Calls Tryz.prog 193 #[askV K.t K.a, Pw B, Pw WB] w fun e w' => e = .returned (.tuple #[]) ∧ Stepped w0 w' base WB M r j B K := by
  unfold Stepped
  rw [show stepM M K = _ from by simp only [stepM, hl]; rfl, show stepK M K = _ from by simp only [stepK, hl]; rfl]
  have hj := h.hj
  have hA := h.pushB (.cells #[.int .i64 (K.t : Int), .int .u32 (K.a : Int)] 132)
  have k0 := cell_row (heap_alloc_new w (.cells #[.int .i64 (K.t : Int), .int .u32 (K.a : Int)] 132)) 0; have k1 := cell_row (heap_alloc_new w (.cells #[.int .i64 (K.t : Int), .int .u32 (K.a : Int)] 132)) 1
  simp only [List.getElem?_toArray, List.getElem?_cons_zero, List.getElem?_cons_succ] at k0 k1
  obtain ⟨Q, hQ⟩ : ∃ Q, Q = w.heap.size := ⟨_, rfl⟩
  rw [← hQ] at hA k0 k1
  have HA := Lib.hid hA; have HJ := Lib.hid hj; have HQ := Lib.hid hQ
  obtain ⟨b0, hb0⟩ : ∃ x, x = S1.bitB K.st 0 := ⟨_, rfl⟩
  obtain ⟨b1, hb1⟩ : ∃ x, x = S1.bitB K.st 1 := ⟨_, rfl⟩
  obtain ⟨hd, hhd⟩ : ∃ x, x = S1.headN K.st := ⟨_, rfl⟩
  have HAS : Hid (∀ W, Calls Tryz.prog 134 #[.int .u64 (K.st : Int)] W fun e w' => e = .returned (.agg #[.bool b0, .bool b1, .int .i64 hd]) ∧ Below W.heap.size W w') := Lib.hid (fun W => by
    have := S1.as_any K.st ok.st W
    unfold S1.asV at this
    rw [← hb0, ← hb1, ← hhd] at this
    exact this)
  obtain ⟨x, hx⟩ : ∃ x, x = S2.look M.L K.a := ⟨_, rfl⟩
  obtain ⟨v, hv⟩ : ∃ x, x = S1.putU (S1.bitB K.st 0) (S1.bitB K.st 1) K.t := ⟨_, rfl⟩
  have hvl : v < 18446744073709551616 := by rw [hv]; exact S1.putU_lt _ _ _
  have hsw : ∀ W r', Wl w0 W base WB M r' j B K X → Calls Tryz.prog 100 #[askV K.t K.a, Pw B, Pw WB, .int .u64 (K.st : Int), .int .u64 (v : Int)] W fun e w' => e = .returned (.bool (decide (x = K.st))) ∧ ∃ X', Wl w0 w' base WB (M.acc 3 K.a (S2.casV x K.st v)) r' j B (K.cas x K.st K) X' := fun W r' hW => by
    rw [hx]
    exact swap_l hW (by omega) (by have := ok.sp; omega) ok.a ok.n hvl
  have HPT : Hid (∀ W, Calls Tryz.prog 101 #[.agg #[Value.bool b0, Value.bool b1, Value.int .i64 (K.t : Int)]] W fun e w' => e = .returned (.int .u64 (v : Int)) ∧ Below W.heap.size W w') := Lib.hid (fun W => by
    have := S1.putU_any b0 b1 (K.t : Int) (by unfold S1.isHead; have := ok.t; omega) W
    rw [hb0, hb1, ← hv] at this
    rw [hb0, hb1]
    exact this)
  rw [← hv, ← hx]
  have HSWW := Lib.hid hsw
  have H6 : Hid (K.ln ≠ 6) := Lib.hid (by omega)
  clear hsw hx hv hvl ok hl hb0 hb1 hhd
  clear h hj hQ
  go_enter Tryz.func193, Tryz.ntmps193
  go_upto_region 1 with (fail)
  rw [← HQ.out]
  generalize w.alloc (.cells #[.int .i64 (K.t : Int), .int .u32 (K.a : Int)] 132) = w1 at *
  have c1 := HA.out.b1
  clear hA
  go_upto_region 2 with (go_at_call 134; refine (HAS.out _).mono ?_; rintro e w2 ⟨rfl, hb2⟩)
  have h3a := (HA.out.new hb2).pushB (.cells #[Value.bool b0, Value.bool b1, Value.int .i64 hd] 73)
  have HJ2 : Hid (j < (r ++ [blockP Q (.cells #[.int .i64 (K.t : Int), .int .u32 (K.a : Int)] 132)]).length) := Lib.hid (by rw [List.length_append]; have := HJ.out; omega)
  have hn := heap_alloc_new w2 (.cells #[Value.bool b0, Value.bool b1, Value.int .i64 hd] 73)
  have s0 := cell_row hn 0; have s1 := cell_row hn 1; have s2 := cell_row hn 2
  have f0 := froz_row hn 2
  have k0 := bcell (hb2.trans ((below1 w2 (.cells #[Value.bool b0, Value.bool b1, Value.int .i64 hd] 73)).mono hb2.size)) k0; have k1 := bcell (hb2.trans ((below1 w2 (.cells #[Value.bool b0, Value.bool b1, Value.int .i64 hd] 73)).mono hb2.size)) k1
  simp only [List.getElem?_toArray, List.getElem?_cons_zero, List.getElem?_cons_succ] at s0 s1 s2
  obtain ⟨Qs, hQs⟩ : ∃ x, x = w2.heap.size := ⟨_, rfl⟩
  rw [← hQs] at h3a hn s0 s1 s2 f0 ⊢
  have h3 := h3a.turnLast HJ2.out (.cells #[Value.bool b0, Value.bool b1, Value.int .i64 (K.t : Int)] 73) (set_blk hn 2 (.int .i64 (K.t : Int)) _ (by simp)) ((Turns.refl (fun k => k = Qs) _).setCell ⟨Qs, 2, none⟩ _ rfl)
  have H3 := Lib.hid h3
  clear h3 h3a hQs hn c1
  generalize w2.alloc (.cells #[Value.bool b0, Value.bool b1, Value.int .i64 hd] 73) = w2' at *
  go_upto_region 3 with (fail)
  generalize w2'.setCell ⟨Qs, 2, none⟩ (.int .i64 (K.t : Int)) = w3 at *
  have hl2 := H3.out.last HJ2.out
  have hlb := (H3.out.dropB HJ2.out).last HJ.out
  have c1 : w3.drew.cell? ⟨B, 1, none⟩ = some (.int .u64 (K.st : Int)) := H3.out.b1
  have HF : Hid ((fun w' => w'.cell? ⟨Q, 0, none⟩ = some (.int .i64 (K.t : Int)) ∧ w'.cell? ⟨Q, 1, none⟩ = some (.int .u32 (K.a : Int)) ∧ w'.cell? ⟨Qs, 0, none⟩ = some (Value.bool b0) ∧ w'.cell? ⟨Qs, 1, none⟩ = some (Value.bool b1) ∧ w'.cell? ⟨Qs, 2, none⟩ = some (Value.int .i64 (K.t : Int))) w3.drew) := Lib.hid ⟨cell_row hlb 0, cell_row hlb 1, cell_row hl2 0, cell_row hl2 1, cell_row hl2 2⟩
  clear hl2 hlb k0 k1 s0 s1 s2 f0 HAS hb2
  refine wp_region_held_drew (S := fun w' => w'.cell? ⟨Q, 0, none⟩ = some (.int .i64 (K.t : Int)) ∧ w'.cell? ⟨Q, 1, none⟩ = some (.int .u32 (K.a : Int)) ∧ w'.cell? ⟨Qs, 0, none⟩ = some (Value.bool b0) ∧ w'.cell? ⟨Qs, 1, none⟩ = some (Value.bool b1) ∧ w'.cell? ⟨Qs, 2, none⟩ = some (Value.int .i64 (K.t : Int))) (by kernel_rfl) ?_ (fun hHeld => ?_)
  · exact HF.out
  refine wpAnyH_take (i := 0) (oi := ({ dst := some 15, op := Op.load 132 (Operand.tmp 3), type := 132, pos := "wordlocks.go:92", after := #[], guard := none } : Oper)) (v := ?vqx1) rfl (by kernel_rfl) (by kernel_rfl) (by kernel_rfl) (fun _ _ _ h => h) (Or.inl ⟨by rfl, fun w hSw => ?hyqx1⟩) (by assumption) ?rqx1
  case hyqx1 => (try dsimp only at hSw); go_simp; (try with_reducible rfl)
  (try simp only [Act.put, List.setIfInBounds_toArray, List.set_cons_zero, List.set_cons_succ])
  refine wpAnyH_take (i := 1) (oi := ({ dst := some 16, op := Op.move (Operand.tmp 1), type := 45, pos := "wordlocks.go:92", after := #[], guard := none } : Oper)) (v := ?vqx2) rfl (by kernel_rfl) (by kernel_rfl) (by kernel_rfl) (fun _ _ _ h => h) (Or.inl ⟨by rfl, fun w hSw => ?hyqx2⟩) (by assumption) ?rqx2
  case hyqx2 => (try dsimp only at hSw); go_simp; (try with_reducible rfl)
  (try simp only [Act.put, List.setIfInBounds_toArray, List.set_cons_zero, List.set_cons_succ])
  refine wpAnyH_take (i := 2) (oi := ({ dst := some 17, op := Op.move (Operand.tmp 2), type := 33, pos := "wordlocks.go:92", after := #[], guard := none } : Oper)) (v := ?vqx3) rfl (by kernel_rfl) (by kernel_rfl) (by kernel_rfl) (fun _ _ _ h => h) (Or.inl ⟨by rfl, fun w hSw => ?hyqx3⟩) (by assumption) ?rqx3
  case hyqx3 => (try dsimp only at hSw); go_simp; (try with_reducible rfl)
  (try simp only [Act.put, List.setIfInBounds_toArray, List.set_cons_zero, List.set_cons_succ])
  refine wpAnyH_take (i := 3) (oi := ({ dst := some 18, op := Op.move (Operand.tmp 1), type := 45, pos := "wordlocks.go:92", after := #[], guard := none } : Oper)) (v := ?vqx4) rfl (by kernel_rfl) (by kernel_rfl) (by kernel_rfl) (fun _ _ _ h => h) (Or.inl ⟨by rfl, fun w hSw => ?hyqx4⟩) (by assumption) ?rqx4
  case hyqx4 => (try dsimp only at hSw); go_simp; (try with_reducible rfl)
  (try simp only [Act.put, List.setIfInBounds_toArray, List.set_cons_zero, List.set_cons_succ])
  refine wpAnyH_take (i := 4) (oi := ({ dst := some 19, op := Op.nilCheck (Operand.tmp 18), type := 0, pos := "wordlocks.go:92", after := #[{ on := 3, ground := Ground.data }], guard := none } : Oper)) (v := ?vqx5) rfl (by kernel_rfl) (by kernel_rfl) (by kernel_rfl) (fun _ _ _ h => h) (Or.inl ⟨by rfl, fun w hSw => ?hyqx5⟩) (by assumption) ?rqx5
  case hyqx5 => (try dsimp only at hSw); go_simp; (try with_reducible rfl)
  (try simp only [Act.put, List.setIfInBounds_toArray, List.set_cons_zero, List.set_cons_succ])
  refine wpAnyH_take (i := 5) (oi := ({ dst := some 20, op := Op.fieldAddr 130 (Operand.tmp 19) 1, type := 0, pos := "wordlocks.go:92", after := #[{ on := 4, ground := Ground.data }], guard := none } : Oper)) (v := ?vqx6) rfl (by kernel_rfl) (by kernel_rfl) (by kernel_rfl) (fun _ _ _ h => h) (Or.inl ⟨by rfl, fun w hSw => ?hyqx6⟩) (by assumption) ?rqx6
  case hyqx6 => (try dsimp only at hSw); go_simp; (try with_reducible rfl)
  (try simp only [Act.put, List.setIfInBounds_toArray, List.set_cons_zero, List.set_cons_succ])
  refine wpAnyH_take (i := 7) (oi := ({ dst := some 22, op := Op.load 73 (Operand.tmp 6), type := 73, pos := "wordlocks.go:92", after := #[], guard := none } : Oper)) (v := ?vqx7) rfl (by kernel_rfl) (by kernel_rfl) (by kernel_rfl) (fun _ _ _ h => h) (Or.inl ⟨by rfl, fun w hSw => ?hyqx7⟩) (by assumption) ?rqx7
  case hyqx7 => (try dsimp only at hSw); go_simp; (try with_reducible rfl)
  (try simp only [Act.put, List.setIfInBounds_toArray, List.set_cons_zero, List.set_cons_succ])
  refine wpAnyH_ready (rs := [6, 8]) (by kernel_rfl) (by simp) ?_
  refine AllReadyH.cons (o := ({ dst := some 21, op := Op.load 22 (Operand.tmp 20), type := 22, pos := "wordlocks.go:92", after := #[{ on := 5, ground := Ground.data }], guard := none } : Oper)) rfl (fun Kq hKq => ?_) ?_
  · go_simp
    refine hKq.out _ _ ?_ (fun hHeld => ?_)
    · exact hHeld
    clear hKq Kq
    (try simp only [Act.put, List.setIfInBounds_toArray, List.set_cons_zero, List.set_cons_succ])
    refine wpAnyH_ready (rs := [8]) (by kernel_rfl) (by simp) ?_
    refine AllReadyH.cons (o := ({ dst := some 23, op := Op.call { callee := Callee.value (Operand.func 101), args := #[Operand.tmp 22], argTypes := #[73] }, type := 22, pos := "wordlocks.go:92", after := #[{ on := 7, ground := Ground.data }], guard := none } : Oper)) rfl (fun Kq hKq => ?_) AllReadyH.nil
    go_simp
    (refine (HPT.out _).mono ?_; rintro e w4 ⟨rfl, hb4⟩; have c1 := bcell hb4 c1; have HSW := Lib.hid (HSWW.out w4 _ ((H3.out.new (Below.refl _ _).drew).new hb4)))
    refine hKq.out _ _ ?_ (fun hHeld => ?_)
    · exact ⟨bcell hb4 hHeld.1, bcell hb4 hHeld.2.1, bcell hb4 hHeld.2.2.1, bcell hb4 hHeld.2.2.2.1, bcell hb4 hHeld.2.2.2.2⟩
    clear hKq Kq
    (try simp only [Act.put, List.setIfInBounds_toArray, List.set_cons_zero, List.set_cons_succ])
    refine wpAnyH_ready (rs := [9]) (by kernel_rfl) (by simp) ?_
    refine AllReadyH.cons (o := ({ dst := some 24, op := Op.call { callee := Callee.value (Operand.func 100), args := #[Operand.tmp 15, Operand.tmp 16, Operand.tmp 17, Operand.tmp 21, Operand.tmp 23], argTypes := #[132, 45, 33, 22, 22] }, type := 4, pos := "wordlocks.go:92", after := #[{ on := 0, ground := Ground.data }, { on := 1, ground := Ground.data }, { on := 2, ground := Ground.data }, { on := 6, ground := Ground.data }, { on := 8, ground := Ground.data }, { on := 8, ground := Ground.chain }], guard := none } : Oper)) rfl (fun Kq hKq => ?_) AllReadyH.nil
    go_simp
    (refine HSW.out.mono ?_; rintro e w5 ⟨rfl, X5, h5⟩)
    refine hKq.out _ _ ?_ (fun hHeld => ?_)
    · (have hl := (h5.dropB HJ2.out).last HJ.out; have hl2 := h5.last HJ2.out; exact ⟨cell_row hl 0, cell_row hl 1, cell_row hl2 0, cell_row hl2 1, cell_row hl2 2⟩)
    clear hKq Kq
    (try simp only [Act.put, List.setIfInBounds_toArray, List.set_cons_zero, List.set_cons_succ])
    refine wpAnyH_done (by kernel_rfl) ?_ _
    have h7 := (h5.dropB HJ2.out)
    have hl := h7.last HJ.out
    have k0 := cell_row hl 0; have k1 := cell_row hl 1
    simp only [List.getElem?_toArray, List.getElem?_cons_zero, List.getElem?_cons_succ] at k0 k1
    clear hl hHeld c1 h5
    go_upto_if 24 with fail
    by_cases e : x = K.st
    · rw [decide_eq_true e]
      have hk2 : K.cas x K.st K = K := if_pos e
      rw [hk2] at h7
      have c0 := h7.b0; have z0 := h7.fz 0; have c3 := h7.b3; have z3 := h7.fz 3
      have HK := Lib.hid (show K.cas x K.st { K with ln := 6 } = { K with ln := 6 } from if_pos e); have H5 := Lib.hid h7
      clear hk2 e h7 HSW HSWW
      go_wp2_with fail
      go_end0
      exact ⟨rfl, X5, by rw [HK.out]; exact (H5.out.next2 6 _ rfl true rfl).dropB HJ.out⟩
    · rw [decide_eq_false e]
      have HK := Lib.hid (show K.cas x K.st { K with ln := 6 } = K.cas x K.st K from (if_neg e).trans (if_neg e).symm); have H5 := Lib.hid h7
      clear e h7 HSW HSWW
      go_wp2_with fail
      go_end0
      exact ⟨rfl, X5, by rw [HK.out]; exact H5.out.dropB HJ.out⟩
  refine AllReadyH.cons (o := ({ dst := some 23, op := Op.call { callee := Callee.value (Operand.func 101), args := #[Operand.tmp 22], argTypes := #[73] }, type := 22, pos := "wordlocks.go:92", after := #[{ on := 7, ground := Ground.data }], guard := none } : Oper)) rfl (fun Kq hKq => ?_) AllReadyH.nil
  go_simp
  (refine (HPT.out _).mono ?_; rintro e w4 ⟨rfl, hb4⟩; have c1 := bcell hb4 c1; have HSW := Lib.hid (HSWW.out w4 _ ((H3.out.new (Below.refl _ _).drew).new hb4)))
  refine hKq.out _ _ ?_ (fun hHeld => ?_)
  · exact ⟨bcell hb4 hHeld.1, bcell hb4 hHeld.2.1, bcell hb4 hHeld.2.2.1, bcell hb4 hHeld.2.2.2.1, bcell hb4 hHeld.2.2.2.2⟩
  clear hKq Kq
  (try simp only [Act.put, List.setIfInBounds_toArray, List.set_cons_zero, List.set_cons_succ])
  refine wpAnyH_ready (rs := [6]) (by kernel_rfl) (by simp) ?_
  refine AllReadyH.cons (o := ({ dst := some 21, op := Op.load 22 (Operand.tmp 20), type := 22, pos := "wordlocks.go:92", after := #[{ on := 5, ground := Ground.data }], guard := none } : Oper)) rfl (fun Kq hKq => ?_) AllReadyH.nil
  go_simp
  refine hKq.out _ _ ?_ (fun hHeld => ?_)
  · exact hHeld
  clear hKq Kq
  (try simp only [Act.put, List.setIfInBounds_toArray, List.set_cons_zero, List.set_cons_succ])
  refine wpAnyH_ready (rs := [9]) (by kernel_rfl) (by simp) ?_
  refine AllReadyH.cons (o := ({ dst := some 24, op := Op.call { callee := Callee.value (Operand.func 100), args := #[Operand.tmp 15, Operand.tmp 16, Operand.tmp 17, Operand.tmp 21, Operand.tmp 23], argTypes := #[132, 45, 33, 22, 22] }, type := 4, pos := "wordlocks.go:92", after := #[{ on := 0, ground := Ground.data }, { on := 1, ground := Ground.data }, { on := 2, ground := Ground.data }, { on := 6, ground := Ground.data }, { on := 8, ground := Ground.data }, { on := 8, ground := Ground.chain }], guard := none } : Oper)) rfl (fun Kq hKq => ?_) AllReadyH.nil
  go_simp
  (refine HSW.out.mono ?_; rintro e w5 ⟨rfl, X5, h5⟩)
  refine hKq.out _ _ ?_ (fun hHeld => ?_)
  · (have hl := (h5.dropB HJ2.out).last HJ.out; have hl2 := h5.last HJ2.out; exact ⟨cell_row hl 0, cell_row hl 1, cell_row hl2 0, cell_row hl2 1, cell_row hl2 2⟩)
  clear hKq Kq
  (try simp only [Act.put, List.setIfInBounds_toArray, List.set_cons_zero, List.set_cons_succ])
  refine wpAnyH_done (by kernel_rfl) ?_ _
  have h7 := (h5.dropB HJ2.out)
  have hl := h7.last HJ.out
  have k0 := cell_row hl 0; have k1 := cell_row hl 1
  simp only [List.getElem?_toArray, List.getElem?_cons_zero, List.getElem?_cons_succ] at k0 k1
  clear hl hHeld c1 h5
  go_upto_if 24 with fail
  by_cases e : x = K.st
  · rw [decide_eq_true e]
    have hk2 : K.cas x K.st K = K := if_pos e
    rw [hk2] at h7
    have c0 := h7.b0; have z0 := h7.fz 0; have c3 := h7.b3; have z3 := h7.fz 3
    have HK := Lib.hid (show K.cas x K.st { K with ln := 6 } = { K with ln := 6 } from if_pos e); have H5 := Lib.hid h7
    clear hk2 e h7 HSW HSWW
    go_wp2_with fail
    go_end0
    exact ⟨rfl, X5, by rw [HK.out]; exact (H5.out.next2 6 _ rfl true rfl).dropB HJ.out⟩
  · rw [decide_eq_false e]
    have HK := Lib.hid (show K.cas x K.st { K with ln := 6 } = K.cas x K.st K from (if_neg e).trans (if_neg e).symm); have H5 := Lib.hid h7
    clear e h7 HSW HSWW
    go_wp2_with fail
    go_end0
    exact ⟨rfl, X5, by rw [HK.out]; exact H5.out.dropB HJ.out⟩
end
end Go.Proofs.YtlflagjnlclffaaGreat.S13
namespace Go.Proofs.YtlflagjnlclffaaGreat.S13
open Go.Proofs.YtlflagjnlclffaaGreat Go.Proofs.YtlflagjnlclffaaGreat.S11 Go.Proofs.YtlflagjnlclffaaGreat.S12
open Go.RowKit

theorem field_hd (a b : Bool) (h : Int) (w : World) : (Instr.field 73 (.agg #[.bool a, .bool b, .int .i64 h]) 2).run Tryz.prog w = .ok (.int .i64 h) w := by kernel_rfl

section
variable {w0 w w' : World} {base WB : Nat} {M : Sd} {r : List Part} {j B : Nat} {K : Lk} {X : Wm}
set_option maxRecDepth 100000 in
set_option maxHeartbeats 4000000 in
theorem look_l (h : Wl w0 w base WB M r j B K X) (ok : LkOk M K) (hl : K.ln = 3) : Calls Tryz.prog 181 #[askV K.t K.a, Pw B, Pw WB] w fun e w' => e = .returned (.tuple #[]) ∧ Stepped w0 w' base WB M r j B K := by
  unfold Stepped
  rw [show stepM M K = _ from by simp only [stepM, hl]; rfl, show stepK M K = _ from by simp only [stepK, hl]; rfl]
  have hj := h.hj
  have hA := h.pushB (.cells #[.int .i64 (K.t : Int), .int .u32 (K.a : Int)] 132)
  have k0 := cell_row (heap_alloc_new w (.cells #[.int .i64 (K.t : Int), .int .u32 (K.a : Int)] 132)) 0; have k1 := cell_row (heap_alloc_new w (.cells #[.int .i64 (K.t : Int), .int .u32 (K.a : Int)] 132)) 1
  simp only [List.getElem?_toArray, List.getElem?_cons_zero, List.getElem?_cons_succ] at k0 k1
  obtain ⟨Q, hQ⟩ : ∃ Q, Q = w.heap.size := ⟨_, rfl⟩
  rw [← hQ] at hA k0 k1
  have HA := Lib.hid hA; have HJ := Lib.hid hj; have HQ := Lib.hid hQ
  obtain ⟨x, hx⟩ : ∃ x, x = S2.look M.L K.a := ⟨_, rfl⟩
  have hxl : x < 18446744073709551616 := by rw [hx]; exact hA.look K.a
  have HC := Lib.hid ((hA.new (Below.refl _ _).drew).pg.load ok.a ok.n)
  rw [← hx] at HC ⊢
  have HTT : Hid (∀ W M' X', Wl w0 W base WB M' (r ++ [blockP Q (.cells #[.int .i64 (K.t : Int), .int .u32 (K.a : Int)] 132)]) j B K X' → Calls Tryz.prog 159 #[askV K.t K.a, Pw B, .int .u64 (x : Int)] W fun e w' => e = .returned (.tuple #[]) ∧ Wl w0 w' base WB M' (r ++ [blockP Q (.cells #[.int .i64 (K.t : Int), .int .u32 (K.a : Int)] 132)]) j B (K.turn x) X') := Lib.hid (fun W M' X' hW => turn_l hW (by omega) (by have := ok.sp; omega) hxl)
  clear hx hxl ok hl
  clear h hj hQ
  go_enter Tryz.func181, Tryz.ntmps181
  go_upto_region 1 with (fail)
  rw [← HQ.out]
  generalize w.alloc (.cells #[.int .i64 (K.t : Int), .int .u32 (K.a : Int)] 132) = w1 at *
  have HF : Hid ((fun w' => w'.cell? ⟨Q, 0, none⟩ = some (.int .i64 (K.t : Int)) ∧ w'.cell? ⟨Q, 1, none⟩ = some (.int .u32 (K.a : Int)) ∧ w'.cell? ⟨WB, 0, none⟩ = some (Pw X.cB)) w1.drew) := Lib.hid ⟨k0, k1, HA.out.pg.c.1⟩
  clear hA
  refine wp_region_held_drew (S := fun w' => w'.cell? ⟨Q, 0, none⟩ = some (.int .i64 (K.t : Int)) ∧ w'.cell? ⟨Q, 1, none⟩ = some (.int .u32 (K.a : Int)) ∧ w'.cell? ⟨WB, 0, none⟩ = some (Pw X.cB)) (by kernel_rfl) ?_ (fun hHeld => ?_)
  · exact HF.out
  refine wpAnyH_take (i := 0) (oi := ({ dst := some 6, op := Op.load 132 (Operand.tmp 3), type := 132, pos := "wordlocks.go:78", after := #[], guard := none } : Oper)) (v := ?vkm1) rfl (by kernel_rfl) (by kernel_rfl) (by kernel_rfl) (fun _ _ _ h => h) (Or.inl ⟨by rfl, fun w hSw => ?hykm1⟩) (by assumption) ?rkm1
  case hykm1 => (try dsimp only at hSw); go_simp; (try with_reducible rfl)
  (try simp only [Act.put, List.setIfInBounds_toArray, List.set_cons_zero, List.set_cons_succ])
  refine wpAnyH_take (i := 1) (oi := ({ dst := some 7, op := Op.move (Operand.tmp 1), type := 45, pos := "wordlocks.go:78", after := #[], guard := none } : Oper)) (v := ?vkm2) rfl (by kernel_rfl) (by kernel_rfl) (by kernel_rfl) (fun _ _ _ h => h) (Or.inl ⟨by rfl, fun w hSw => ?hykm2⟩) (by assumption) ?rkm2
  case hykm2 => (try dsimp only at hSw); go_simp; (try with_reducible rfl)
  (try simp only [Act.put, List.setIfInBounds_toArray, List.set_cons_zero, List.set_cons_succ])
  refine wpAnyH_take (i := 2) (oi := ({ dst := some 8, op := Op.move (Operand.tmp 2), type := 33, pos := "wordlocks.go:78", after := #[], guard := none } : Oper)) (v := ?vkm3) rfl (by kernel_rfl) (by kernel_rfl) (by kernel_rfl) (fun _ _ _ h => h) (Or.inl ⟨by rfl, fun w hSw => ?hykm3⟩) (by assumption) ?rkm3
  case hykm3 => (try dsimp only at hSw); go_simp; (try with_reducible rfl)
  (try simp only [Act.put, List.setIfInBounds_toArray, List.set_cons_zero, List.set_cons_succ])
  refine wpAnyH_take (i := 3) (oi := ({ dst := some 9, op := Op.nilCheck (Operand.tmp 8), type := 0, pos := "wordlocks.go:78", after := #[{ on := 2, ground := Ground.data }], guard := none } : Oper)) (v := ?vkm4) rfl (by kernel_rfl) (by kernel_rfl) (by kernel_rfl) (fun _ _ _ h => h) (Or.inl ⟨by rfl, fun w hSw => ?hykm4⟩) (by assumption) ?rkm4
  case hykm4 => (try dsimp only at hSw); go_simp; (try with_reducible rfl)
  (try simp only [Act.put, List.setIfInBounds_toArray, List.set_cons_zero, List.set_cons_succ])
  refine wpAnyH_take (i := 4) (oi := ({ dst := some 10, op := Op.fieldAddr 89 (Operand.tmp 9) 0, type := 0, pos := "wordlocks.go:78", after := #[{ on := 3, ground := Ground.data }], guard := none } : Oper)) (v := ?vkm5) rfl (by kernel_rfl) (by kernel_rfl) (by kernel_rfl) (fun _ _ _ h => h) (Or.inl ⟨by rfl, fun w hSw => ?hykm5⟩) (by assumption) ?rkm5
  case hykm5 => (try dsimp only at hSw); go_simp; (try with_reducible rfl)
  (try simp only [Act.put, List.setIfInBounds_toArray, List.set_cons_zero, List.set_cons_succ])
  refine wpAnyH_take (i := 5) (oi := ({ dst := some 11, op := Op.load 81 (Operand.tmp 10), type := 81, pos := "wordlocks.go:78", after := #[{ on := 4, ground := Ground.data }], guard := none } : Oper)) (v := ?vkm6) rfl (by kernel_rfl) (by kernel_rfl) (by kernel_rfl) (fun _ _ _ h => h) (Or.inl ⟨by rfl, fun w hSw => ?hykm6⟩) (by assumption) ?rkm6
  case hykm6 => (try dsimp only at hSw); go_simp; (try with_reducible rfl)
  (try simp only [Act.put, List.setIfInBounds_toArray, List.set_cons_zero, List.set_cons_succ])
  refine wpAnyH_take (i := 6) (oi := ({ dst := some 12, op := Op.fieldAddr 132 (Operand.tmp 3) 1, type := 0, pos := "wordlocks.go:78", after := #[], guard := none } : Oper)) (v := ?vkm7) rfl (by kernel_rfl) (by kernel_rfl) (by kernel_rfl) (fun _ _ _ h => h) (Or.inl ⟨by rfl, fun w hSw => ?hykm7⟩) (by assumption) ?rkm7
  case hykm7 => (try dsimp only at hSw); go_simp; (try with_reducible rfl)
  (try simp only [Act.put, List.setIfInBounds_toArray, List.set_cons_zero, List.set_cons_succ])
  refine wpAnyH_take (i := 7) (oi := ({ dst := some 13, op := Op.load 40 (Operand.tmp 12), type := 40, pos := "wordlocks.go:78", after := #[{ on := 6, ground := Ground.data }], guard := none } : Oper)) (v := ?vkm8) rfl (by kernel_rfl) (by kernel_rfl) (by kernel_rfl) (fun _ _ _ h => h) (Or.inl ⟨by rfl, fun w hSw => ?hykm8⟩) (by assumption) ?rkm8
  case hykm8 => (try dsimp only at hSw); go_simp; (try with_reducible rfl)
  (try simp only [Act.put, List.setIfInBounds_toArray, List.set_cons_zero, List.set_cons_succ])
  refine wpAnyH_ready (rs := [8]) (by kernel_rfl) (by simp) ?_
  refine AllReadyH.cons (o := ({ dst := some 14, op := Op.call { callee := Callee.value (Operand.func 137), args := #[Operand.tmp 11, Operand.tmp 13], argTypes := #[81, 40] }, type := 22, pos := "wordlocks.go:78", after := #[{ on := 5, ground := Ground.data }, { on := 7, ground := Ground.data }], guard := none } : Oper)) rfl (fun Kq hKq => ?_) AllReadyH.nil
  go_simp
  (refine HC.out.mono ?_; rintro e w3 ⟨rfl, X3, h3g, hcB⟩; have h3 : Wl w0 w3 base WB (M.acc 1 K.a x) (r ++ [blockP Q (.cells #[.int .i64 (K.t : Int), .int .u32 (K.a : Int)] 132)]) j B K X3 := ⟨h3g, HA.out.hj⟩; have HTN := Lib.hid (HTT.out _ _ _ h3); have q3 := h3.pg.c.1; rw [hcB] at q3; have hl := h3.last HJ.out; have HCB := Lib.hid hcB)
  refine hKq.out _ _ ?_ (fun hHeld => ?_)
  · exact ⟨cell_row hl 0, cell_row hl 1, q3⟩
  clear hKq Kq
  (try simp only [Act.put, List.setIfInBounds_toArray, List.set_cons_zero, List.set_cons_succ])
  refine wpAnyH_ready (rs := [9]) (by kernel_rfl) (by simp) ?_
  refine AllReadyH.cons (o := ({ dst := some 15, op := Op.call { callee := Callee.value (Operand.func 159), args := #[Operand.tmp 6, Operand.tmp 7, Operand.tmp 14], argTypes := #[132, 45, 22] }, type := 0, pos := "wordlocks.go:78", after := #[{ on := 0, ground := Ground.data }, { on := 1, ground := Ground.data }, { on := 8, ground := Ground.data }, { on := 8, ground := Ground.chain }], guard := none } : Oper)) rfl (fun Kq hKq => ?_) AllReadyH.nil
  go_simp
  (refine HTN.out.mono ?_; rintro e w4 ⟨rfl, h4⟩; have q4 := h4.pg.c.1; rw [HCB.out] at q4; have hl4 := h4.last HJ.out)
  refine hKq.out _ _ ?_ (fun hHeld => ?_)
  · exact ⟨cell_row hl4 0, cell_row hl4 1, q4⟩
  clear hKq Kq
  (try simp only [Act.put, List.setIfInBounds_toArray, List.set_cons_zero, List.set_cons_succ])
  refine wpAnyH_done (by kernel_rfl) ?_ _
  have H4 := Lib.hid h4
  clear hHeld q3 hl q4 hl4 h3 h3g h4 hcB
  go_wp2_with fail
  go_end0
  exact ⟨rfl, X3, H4.out.dropB HJ.out⟩
set_option maxRecDepth 100000 in
set_option maxHeartbeats 4000000 in
theorem prepare_l (h : Wl w0 w base WB M r j B K X) (ok : LkOk M K) (hl : K.ln = 4) : Calls Tryz.prog 182 #[askV K.t K.a, Pw B, Pw WB] w fun e w' => e = .returned (.tuple #[]) ∧ Stepped w0 w' base WB M r j B K := by
  unfold Stepped
  rw [show stepM M K = _ from by simp only [stepM, hl]; rfl, show stepK M K = _ from by simp only [stepK, hl]; rfl]
  have hj := h.hj
  have hA := h.pushB (.cells #[.int .i64 (K.t : Int), .int .u32 (K.a : Int)] 132)
  have k0 := cell_row (heap_alloc_new w (.cells #[.int .i64 (K.t : Int), .int .u32 (K.a : Int)] 132)) 0; have k1 := cell_row (heap_alloc_new w (.cells #[.int .i64 (K.t : Int), .int .u32 (K.a : Int)] 132)) 1
  simp only [List.getElem?_toArray, List.getElem?_cons_zero, List.getElem?_cons_succ] at k0 k1
  obtain ⟨Q, hQ⟩ : ∃ Q, Q = w.heap.size := ⟨_, rfl⟩
  rw [← hQ] at hA k0 k1
  have HA := Lib.hid hA; have HJ := Lib.hid hj; have HQ := Lib.hid hQ
  obtain ⟨b0, hb0⟩ : ∃ x, x = S1.bitB K.st 0 := ⟨_, rfl⟩
  obtain ⟨b1, hb1⟩ : ∃ x, x = S1.bitB K.st 1 := ⟨_, rfl⟩
  obtain ⟨hd, hhd⟩ : ∃ x, x = S1.headN K.st := ⟨_, rfl⟩
  have HAS : Hid (∀ W, Calls Tryz.prog 134 #[.int .u64 (K.st : Int)] W fun e w' => e = .returned (.agg #[.bool b0, .bool b1, .int .i64 hd]) ∧ Below W.heap.size W w') := Lib.hid (fun W => by
    have := S1.as_any K.st ok.st W
    unfold S1.asV at this
    rw [← hb0, ← hb1, ← hhd] at this
    exact this)
  have HT := Lib.hid (fun W => word_any K.t ok.t W)
  have HC := Lib.hid ((hA.new (Below.refl _ _).drew).pg.prep ok.pn (i := 2 * K.t + 1) (by have := ok.t; omega))
  have hnt : S5.Num (K.t : Int) (some K.t) := S5.nm K.t ok.t
  have hnh := num_head K.st
  rw [← hhd] at hnh
  have HPU : Hid (∀ W X', Pg w0 W base WB (M.prep (2 * K.t + 1)) ((r ++ [blockP Q (.cells #[.int .i64 (K.t : Int), .int .u32 (K.a : Int)] 132)]).set j (lockP B K)) X' → Calls Tryz.prog 192 #[Pw X'.lB, .int .i64 (K.t : Int), .int .i64 hd] W fun e w' => e = .returned (.tuple #[]) ∧ ∃ X'', Pg w0 w' base WB ((M.prep (2 * K.t + 1)).link (S5.pushS (M.prep (2 * K.t + 1)).lk (some K.t) (hdO K.st))) ((r ++ [blockP Q (.cells #[.int .i64 (K.t : Int), .int .u32 (K.a : Int)] 132)]).set j (lockP B K)) X'' ∧ X''.lB = X'.lB) := Lib.hid (fun W X' hW => hW.push hnt hnh)
  have HH6 : Hid (K.ln ≠ 6) := Lib.hid (by omega)
  clear ok hl hb0 hb1 hhd hnt hnh
  clear h hj hQ
  go_enter Tryz.func182, Tryz.ntmps182
  go_upto_region 1 with (fail)
  rw [← HQ.out]
  generalize w.alloc (.cells #[.int .i64 (K.t : Int), .int .u32 (K.a : Int)] 132) = w1 at *
  have HF : Hid ((fun w' => w'.cell? ⟨Q, 0, none⟩ = some (.int .i64 (K.t : Int)) ∧ w'.cell? ⟨WB, 2, none⟩ = some (Pw X.pB)) w1.drew) := Lib.hid ⟨k0, HA.out.pg.c.2.1⟩
  clear hA
  refine wp_region_held_drew (S := fun w' => w'.cell? ⟨Q, 0, none⟩ = some (.int .i64 (K.t : Int)) ∧ w'.cell? ⟨WB, 2, none⟩ = some (Pw X.pB)) (by kernel_rfl) ?_ (fun hHeld => ?_)
  · exact HF.out
  refine wpAnyH_take (i := 0) (oi := ({ dst := some 6, op := Op.move (Operand.tmp 2), type := 33, pos := "wordlocks.go:83", after := #[], guard := none } : Oper)) (v := ?vpm1) rfl (by kernel_rfl) (by kernel_rfl) (by kernel_rfl) (fun _ _ _ h => h) (Or.inl ⟨by rfl, fun w hSw => ?hypm1⟩) (by assumption) ?rpm1
  case hypm1 => (try dsimp only at hSw); go_simp; (try with_reducible rfl)
  (try simp only [Act.put, List.setIfInBounds_toArray, List.set_cons_zero, List.set_cons_succ])
  refine wpAnyH_take (i := 1) (oi := ({ dst := some 7, op := Op.nilCheck (Operand.tmp 6), type := 0, pos := "wordlocks.go:83", after := #[{ on := 0, ground := Ground.data }], guard := none } : Oper)) (v := ?vpm2) rfl (by kernel_rfl) (by kernel_rfl) (by kernel_rfl) (fun _ _ _ h => h) (Or.inl ⟨by rfl, fun w hSw => ?hypm2⟩) (by assumption) ?rpm2
  case hypm2 => (try dsimp only at hSw); go_simp; (try with_reducible rfl)
  (try simp only [Act.put, List.setIfInBounds_toArray, List.set_cons_zero, List.set_cons_succ])
  refine wpAnyH_take (i := 2) (oi := ({ dst := some 8, op := Op.fieldAddr 89 (Operand.tmp 7) 2, type := 0, pos := "wordlocks.go:83", after := #[{ on := 1, ground := Ground.data }], guard := none } : Oper)) (v := ?vpm3) rfl (by kernel_rfl) (by kernel_rfl) (by kernel_rfl) (fun _ _ _ h => h) (Or.inl ⟨by rfl, fun w hSw => ?hypm3⟩) (by assumption) ?rpm3
  case hypm3 => (try dsimp only at hSw); go_simp; (try with_reducible rfl)
  (try simp only [Act.put, List.setIfInBounds_toArray, List.set_cons_zero, List.set_cons_succ])
  refine wpAnyH_take (i := 3) (oi := ({ dst := some 9, op := Op.load 83 (Operand.tmp 8), type := 83, pos := "wordlocks.go:83", after := #[{ on := 2, ground := Ground.data }], guard := none } : Oper)) (v := ?vpm4) rfl (by kernel_rfl) (by kernel_rfl) (by kernel_rfl) (fun _ _ _ h => h) (Or.inl ⟨by rfl, fun w hSw => ?hypm4⟩) (by assumption) ?rpm4
  case hypm4 => (try dsimp only at hSw); go_simp; (try with_reducible rfl)
  (try simp only [Act.put, List.setIfInBounds_toArray, List.set_cons_zero, List.set_cons_succ])
  refine wpAnyH_take (i := 4) (oi := ({ dst := some 10, op := Op.fieldAddr 132 (Operand.tmp 3) 0, type := 0, pos := "wordlocks.go:83", after := #[], guard := none } : Oper)) (v := ?vpm5) rfl (by kernel_rfl) (by kernel_rfl) (by kernel_rfl) (fun _ _ _ h => h) (Or.inl ⟨by rfl, fun w hSw => ?hypm5⟩) (by assumption) ?rpm5
  case hypm5 => (try dsimp only at hSw); go_simp; (try with_reducible rfl)
  (try simp only [Act.put, List.setIfInBounds_toArray, List.set_cons_zero, List.set_cons_succ])
  refine wpAnyH_take (i := 5) (oi := ({ dst := some 11, op := Op.load 3 (Operand.tmp 10), type := 3, pos := "wordlocks.go:83", after := #[{ on := 4, ground := Ground.data }], guard := none } : Oper)) (v := ?vpm6) rfl (by kernel_rfl) (by kernel_rfl) (by kernel_rfl) (fun _ _ _ h => h) (Or.inl ⟨by rfl, fun w hSw => ?hypm6⟩) (by assumption) ?rpm6
  case hypm6 => (try dsimp only at hSw); go_simp; (try with_reducible rfl)
  (try simp only [Act.put, List.setIfInBounds_toArray, List.set_cons_zero, List.set_cons_succ])
  refine wpAnyH_ready (rs := [6]) (by kernel_rfl) (by simp) ?_
  refine AllReadyH.cons (o := ({ dst := some 12, op := Op.call { callee := Callee.value (Operand.func 28), args := #[Operand.tmp 11], argTypes := #[3] }, type := 3, pos := "wordlocks.go:83", after := #[{ on := 5, ground := Ground.data }], guard := none } : Oper)) rfl (fun Kq hKq => ?_) AllReadyH.nil
  go_simp
  (refine (HT.out _).mono ?_; rintro e w2 ⟨rfl, rfl⟩)
  refine hKq.out _ _ ?_ (fun hHeld => ?_)
  · exact hHeld
  clear hKq Kq
  (try simp only [Act.put, List.setIfInBounds_toArray, List.set_cons_zero, List.set_cons_succ])
  refine wpAnyH_ready (rs := [7]) (by kernel_rfl) (by simp) ?_
  refine AllReadyH.cons (o := ({ dst := some 13, op := Op.call { callee := Callee.value (Operand.func 191), args := #[Operand.tmp 9, Operand.tmp 12], argTypes := #[83, 3] }, type := 0, pos := "wordlocks.go:83", after := #[{ on := 3, ground := Ground.data }, { on := 6, ground := Ground.data }, { on := 6, ground := Ground.chain }], guard := none } : Oper)) rfl (fun Kq hKq => ?_) AllReadyH.nil
  go_simp
  (refine HC.out.mono ?_; rintro e w3 ⟨rfl, X3, h3g, hpB⟩; have h3 : Wl w0 w3 base WB (M.prep (2 * K.t + 1)) (r ++ [blockP Q (.cells #[.int .i64 (K.t : Int), .int .u32 (K.a : Int)] 132)]) j B K X3 := ⟨h3g, HA.out.hj⟩; have q3 := h3.pg.c.2.1; rw [hpB] at q3; have hl := h3.last HJ.out)
  refine hKq.out _ _ ?_ (fun hHeld => ?_)
  · exact ⟨cell_row hl 0, q3⟩
  clear hKq Kq
  (try simp only [Act.put, List.setIfInBounds_toArray, List.set_cons_zero, List.set_cons_succ])
  refine wpAnyH_done (by kernel_rfl) ?_ _
  clear HF
  have HF : Hid ((fun w' => w'.cell? ⟨Q, 0, none⟩ = some (.int .i64 (K.t : Int)) ∧ w'.cell? ⟨WB, 3, none⟩ = some (Pw X3.lB) ∧ w'.cell? ⟨B, 1, none⟩ = some (.int .u64 (K.st : Int))) w3.drew) := Lib.hid ⟨cell_row hl 0, h3.pg.c.2.2.1, h3.b1⟩
  have H3 := Lib.hid h3
  have hfd := field_hd b0 b1 hd
  clear hHeld q3 hl h3 h3g hpB k0 k1
  go_upto_region 2 with (fail)
  refine wp_region_held_drew (S := fun w' => w'.cell? ⟨Q, 0, none⟩ = some (.int .i64 (K.t : Int)) ∧ w'.cell? ⟨WB, 3, none⟩ = some (Pw X3.lB) ∧ w'.cell? ⟨B, 1, none⟩ = some (.int .u64 (K.st : Int))) (by kernel_rfl) ?_ (fun hHeld => ?_)
  · exact HF.out
  refine wpAnyH_take (i := 0) (oi := ({ dst := some 14, op := Op.move (Operand.tmp 2), type := 33, pos := "wordlocks.go:84", after := #[], guard := none } : Oper)) (v := ?vqm1) rfl (by kernel_rfl) (by kernel_rfl) (by kernel_rfl) (fun _ _ _ h => h) (Or.inl ⟨by rfl, fun w hSw => ?hyqm1⟩) (by assumption) ?rqm1
  case hyqm1 => (try dsimp only at hSw); go_simp; (try with_reducible rfl)
  (try simp only [Act.put, List.setIfInBounds_toArray, List.set_cons_zero, List.set_cons_succ])
  refine wpAnyH_take (i := 1) (oi := ({ dst := some 15, op := Op.nilCheck (Operand.tmp 14), type := 0, pos := "wordlocks.go:84", after := #[{ on := 0, ground := Ground.data }], guard := none } : Oper)) (v := ?vqm2) rfl (by kernel_rfl) (by kernel_rfl) (by kernel_rfl) (fun _ _ _ h => h) (Or.inl ⟨by rfl, fun w hSw => ?hyqm2⟩) (by assumption) ?rqm2
  case hyqm2 => (try dsimp only at hSw); go_simp; (try with_reducible rfl)
  (try simp only [Act.put, List.setIfInBounds_toArray, List.set_cons_zero, List.set_cons_succ])
  refine wpAnyH_take (i := 2) (oi := ({ dst := some 16, op := Op.fieldAddr 89 (Operand.tmp 15) 3, type := 0, pos := "wordlocks.go:84", after := #[{ on := 1, ground := Ground.data }], guard := none } : Oper)) (v := ?vqm3) rfl (by kernel_rfl) (by kernel_rfl) (by kernel_rfl) (fun _ _ _ h => h) (Or.inl ⟨by rfl, fun w hSw => ?hyqm3⟩) (by assumption) ?rqm3
  case hyqm3 => (try dsimp only at hSw); go_simp; (try with_reducible rfl)
  (try simp only [Act.put, List.setIfInBounds_toArray, List.set_cons_zero, List.set_cons_succ])
  refine wpAnyH_take (i := 3) (oi := ({ dst := some 17, op := Op.load 84 (Operand.tmp 16), type := 84, pos := "wordlocks.go:84", after := #[{ on := 2, ground := Ground.data }], guard := none } : Oper)) (v := ?vqm4) rfl (by kernel_rfl) (by kernel_rfl) (by kernel_rfl) (fun _ _ _ h => h) (Or.inl ⟨by rfl, fun w hSw => ?hyqm4⟩) (by assumption) ?rqm4
  case hyqm4 => (try dsimp only at hSw); go_simp; (try with_reducible rfl)
  (try simp only [Act.put, List.setIfInBounds_toArray, List.set_cons_zero, List.set_cons_succ])
  refine wpAnyH_take (i := 4) (oi := ({ dst := some 18, op := Op.fieldAddr 132 (Operand.tmp 3) 0, type := 0, pos := "wordlocks.go:84", after := #[], guard := none } : Oper)) (v := ?vqm5) rfl (by kernel_rfl) (by kernel_rfl) (by kernel_rfl) (fun _ _ _ h => h) (Or.inl ⟨by rfl, fun w hSw => ?hyqm5⟩) (by assumption) ?rqm5
  case hyqm5 => (try dsimp only at hSw); go_simp; (try with_reducible rfl)
  (try simp only [Act.put, List.setIfInBounds_toArray, List.set_cons_zero, List.set_cons_succ])
  refine wpAnyH_take (i := 5) (oi := ({ dst := some 19, op := Op.load 3 (Operand.tmp 18), type := 3, pos := "wordlocks.go:84", after := #[{ on := 4, ground := Ground.data }], guard := none } : Oper)) (v := ?vqm6) rfl (by kernel_rfl) (by kernel_rfl) (by kernel_rfl) (fun _ _ _ h => h) (Or.inl ⟨by rfl, fun w hSw => ?hyqm6⟩) (by assumption) ?rqm6
  case hyqm6 => (try dsimp only at hSw); go_simp; (try with_reducible rfl)
  (try simp only [Act.put, List.setIfInBounds_toArray, List.set_cons_zero, List.set_cons_succ])
  refine wpAnyH_take (i := 6) (oi := ({ dst := some 20, op := Op.move (Operand.tmp 1), type := 45, pos := "wordlocks.go:84", after := #[], guard := none } : Oper)) (v := ?vqm7) rfl (by kernel_rfl) (by kernel_rfl) (by kernel_rfl) (fun _ _ _ h => h) (Or.inl ⟨by rfl, fun w hSw => ?hyqm7⟩) (by assumption) ?rqm7
  case hyqm7 => (try dsimp only at hSw); go_simp; (try with_reducible rfl)
  (try simp only [Act.put, List.setIfInBounds_toArray, List.set_cons_zero, List.set_cons_succ])
  refine wpAnyH_take (i := 7) (oi := ({ dst := some 21, op := Op.nilCheck (Operand.tmp 20), type := 0, pos := "wordlocks.go:84", after := #[{ on := 6, ground := Ground.data }], guard := none } : Oper)) (v := ?vqm8) rfl (by kernel_rfl) (by kernel_rfl) (by kernel_rfl) (fun _ _ _ h => h) (Or.inl ⟨by rfl, fun w hSw => ?hyqm8⟩) (by assumption) ?rqm8
  case hyqm8 => (try dsimp only at hSw); go_simp; (try with_reducible rfl)
  (try simp only [Act.put, List.setIfInBounds_toArray, List.set_cons_zero, List.set_cons_succ])
  refine wpAnyH_take (i := 8) (oi := ({ dst := some 22, op := Op.fieldAddr 130 (Operand.tmp 21) 1, type := 0, pos := "wordlocks.go:84", after := #[{ on := 7, ground := Ground.data }], guard := none } : Oper)) (v := ?vqm9) rfl (by kernel_rfl) (by kernel_rfl) (by kernel_rfl) (fun _ _ _ h => h) (Or.inl ⟨by rfl, fun w hSw => ?hyqm9⟩) (by assumption) ?rqm9
  case hyqm9 => (try dsimp only at hSw); go_simp; (try with_reducible rfl)
  (try simp only [Act.put, List.setIfInBounds_toArray, List.set_cons_zero, List.set_cons_succ])
  refine wpAnyH_take (i := 9) (oi := ({ dst := some 23, op := Op.load 22 (Operand.tmp 22), type := 22, pos := "wordlocks.go:84", after := #[{ on := 8, ground := Ground.data }], guard := none } : Oper)) (v := ?vqm10) rfl (by kernel_rfl) (by kernel_rfl) (by kernel_rfl) (fun _ _ _ h => h) (Or.inl ⟨by rfl, fun w hSw => ?hyqm10⟩) (by assumption) ?rqm10
  case hyqm10 => (try dsimp only at hSw); go_simp; (try with_reducible rfl)
  (try simp only [Act.put, List.setIfInBounds_toArray, List.set_cons_zero, List.set_cons_succ])
  refine wpAnyH_ready (rs := [10]) (by kernel_rfl) (by simp) ?_
  refine AllReadyH.cons (o := ({ dst := some 24, op := Op.call { callee := Callee.value (Operand.func 134), args := #[Operand.tmp 23], argTypes := #[22] }, type := 73, pos := "wordlocks.go:84", after := #[{ on := 9, ground := Ground.data }], guard := none } : Oper)) rfl (fun Kq hKq => ?_) AllReadyH.nil
  go_simp
  (refine (HAS.out _).mono ?_; rintro e w4 ⟨rfl, hb4⟩; have HPQ := Lib.hid (HPU.out w4 X3 ((H3.out.new (Below.refl _ _).drew).new hb4).pg))
  refine hKq.out _ _ ?_ (fun hHeld => ?_)
  · exact ⟨bcell hb4 hHeld.1, bcell hb4 hHeld.2.1, bcell hb4 hHeld.2.2⟩
  clear hKq Kq
  (try simp only [Act.put, List.setIfInBounds_toArray, List.set_cons_zero, List.set_cons_succ])
  refine wpAnyH_take (i := 11) (oi := ({ dst := some 25, op := Op.field 73 (Operand.tmp 24) 2, type := 3, pos := "wordlocks.go:84", after := #[{ on := 10, ground := Ground.data }], guard := none } : Oper)) (v := ?vqm11) rfl (by kernel_rfl) (by kernel_rfl) (by kernel_rfl) (fun _ _ _ h => h) (Or.inl ⟨by rfl, fun w hSw => ?hyqm11⟩) (by assumption) ?rqm11
  case hyqm11 => (try dsimp only at hSw); go_simp; (try with_reducible rfl)
  (try simp only [Act.put, List.setIfInBounds_toArray, List.set_cons_zero, List.set_cons_succ])
  refine wpAnyH_ready (rs := [12]) (by kernel_rfl) (by simp) ?_
  refine AllReadyH.cons (o := ({ dst := some 26, op := Op.call { callee := Callee.value (Operand.func 192), args := #[Operand.tmp 17, Operand.tmp 19, Operand.tmp 25], argTypes := #[84, 3, 3] }, type := 0, pos := "wordlocks.go:84", after := #[{ on := 3, ground := Ground.data }, { on := 5, ground := Ground.data }, { on := 11, ground := Ground.data }, { on := 10, ground := Ground.chain }], guard := none } : Oper)) rfl (fun Kq hKq => ?_) AllReadyH.nil
  go_simp
  (refine HPQ.out.mono ?_; rintro e w5 ⟨rfl, X5, h5g, hlB⟩; have h5 : Wl w0 w5 base WB ((M.prep (2 * K.t + 1)).link (S5.pushS (M.prep (2 * K.t + 1)).lk (some K.t) (hdO K.st))) (r ++ [blockP Q (.cells #[.int .i64 (K.t : Int), .int .u32 (K.a : Int)] 132)]) j B K X5 := ⟨h5g, HA.out.hj⟩; have q5 := h5.pg.c.2.2.1; rw [hlB] at q5; have hl5 := h5.last HJ.out; have b5 := h5.b1)
  refine hKq.out _ _ ?_ (fun hHeld => ?_)
  · exact ⟨cell_row hl5 0, q5, b5⟩
  clear hKq Kq
  (try simp only [Act.put, List.setIfInBounds_toArray, List.set_cons_zero, List.set_cons_succ])
  refine wpAnyH_done (by kernel_rfl) ?_ _
  have k0 := cell_row hl5 0; have k1 := cell_row hl5 1
  simp only [List.getElem?_toArray, List.getElem?_cons_zero, List.getElem?_cons_succ] at k0 k1
  have c0 := h5.b0; have z0 := h5.fz 0
  have H5 := Lib.hid h5
  clear hHeld q5 hl5 b5 h5 h5g hlB hb4 HF
  go_wp2_with fail
  go_end0
  exact ⟨rfl, X5, (H5.out.next HH6.out 5 (by decide) _ rfl).dropB HJ.out⟩
set_option maxRecDepth 100000 in
set_option maxHeartbeats 4000000 in
theorem park_l (h : Wl w0 w base WB M r j B K X) (ok : LkOk M K) (hl : K.ln = 6) : Calls Tryz.prog 205 #[askV K.t K.a, Pw B, Pw WB] w fun e w' => e = .returned (.tuple #[]) ∧ Stepped w0 w' base WB M r j B K := by
  unfold Stepped
  rw [show stepM M K = _ from by simp only [stepM, hl]; rfl, show stepK M K = _ from by simp only [stepK, hl]; rfl]
  have hj := h.hj
  have hA := h.pushB (.cells #[.int .i64 (K.t : Int), .int .u32 (K.a : Int)] 132)
  have k0 := cell_row (heap_alloc_new w (.cells #[.int .i64 (K.t : Int), .int .u32 (K.a : Int)] 132)) 0; have k1 := cell_row (heap_alloc_new w (.cells #[.int .i64 (K.t : Int), .int .u32 (K.a : Int)] 132)) 1
  simp only [List.getElem?_toArray, List.getElem?_cons_zero, List.getElem?_cons_succ] at k0 k1
  obtain ⟨Q, hQ⟩ : ∃ Q, Q = w.heap.size := ⟨_, rfl⟩
  rw [← hQ] at hA k0 k1
  have HA := Lib.hid hA; have HJ := Lib.hid hj; have HQ := Lib.hid hQ
  obtain ⟨g, hg⟩ : ∃ g, g = (M.pf (2 * K.t + 1)).p := ⟨_, rfl⟩
  have HT := Lib.hid (fun W => word_any K.t ok.t W)
  have HC := Lib.hid ((hA.new (Below.refl _ _).drew).pg.park ok.pn (i := 2 * K.t + 1) (by have := ok.t; omega))
  rw [← hg] at HC ⊢
  have H6 := Lib.hid hl
  clear ok hl hg
  clear h hj hQ
  go_enter Tryz.func205, Tryz.ntmps205
  go_upto_region 1 with (fail)
  rw [← HQ.out]
  generalize w.alloc (.cells #[.int .i64 (K.t : Int), .int .u32 (K.a : Int)] 132) = w1 at *
  have HF : Hid ((fun w' => w'.cell? ⟨Q, 0, none⟩ = some (.int .i64 (K.t : Int)) ∧ w'.cell? ⟨WB, 2, none⟩ = some (Pw X.pB)) w1.drew) := Lib.hid ⟨k0, HA.out.pg.c.2.1⟩
  clear hA
  cases g
  · refine wp_region_held_drew (S := fun w' => w'.cell? ⟨Q, 0, none⟩ = some (.int .i64 (K.t : Int)) ∧ w'.cell? ⟨WB, 2, none⟩ = some (Pw X.pB)) (by kernel_rfl) ?_ (fun hHeld => ?_)
    · exact HF.out
    refine wpAnyH_take (i := 0) (oi := ({ dst := some 6, op := Op.move (Operand.tmp 2), type := 33, pos := "wordlocks.go:99", after := #[], guard := none } : Oper)) (v := ?vum1) rfl (by kernel_rfl) (by kernel_rfl) (by kernel_rfl) (fun _ _ _ h => h) (Or.inl ⟨by rfl, fun w hSw => ?hyum1⟩) (by assumption) ?rum1
    case hyum1 => (try dsimp only at hSw); go_simp; (try with_reducible rfl)
    (try simp only [Act.put, List.setIfInBounds_toArray, List.set_cons_zero, List.set_cons_succ])
    refine wpAnyH_take (i := 1) (oi := ({ dst := some 7, op := Op.nilCheck (Operand.tmp 6), type := 0, pos := "wordlocks.go:99", after := #[{ on := 0, ground := Ground.data }], guard := none } : Oper)) (v := ?vum2) rfl (by kernel_rfl) (by kernel_rfl) (by kernel_rfl) (fun _ _ _ h => h) (Or.inl ⟨by rfl, fun w hSw => ?hyum2⟩) (by assumption) ?rum2
    case hyum2 => (try dsimp only at hSw); go_simp; (try with_reducible rfl)
    (try simp only [Act.put, List.setIfInBounds_toArray, List.set_cons_zero, List.set_cons_succ])
    refine wpAnyH_take (i := 2) (oi := ({ dst := some 8, op := Op.fieldAddr 89 (Operand.tmp 7) 2, type := 0, pos := "wordlocks.go:99", after := #[{ on := 1, ground := Ground.data }], guard := none } : Oper)) (v := ?vum3) rfl (by kernel_rfl) (by kernel_rfl) (by kernel_rfl) (fun _ _ _ h => h) (Or.inl ⟨by rfl, fun w hSw => ?hyum3⟩) (by assumption) ?rum3
    case hyum3 => (try dsimp only at hSw); go_simp; (try with_reducible rfl)
    (try simp only [Act.put, List.setIfInBounds_toArray, List.set_cons_zero, List.set_cons_succ])
    refine wpAnyH_take (i := 3) (oi := ({ dst := some 9, op := Op.load 83 (Operand.tmp 8), type := 83, pos := "wordlocks.go:99", after := #[{ on := 2, ground := Ground.data }], guard := none } : Oper)) (v := ?vum4) rfl (by kernel_rfl) (by kernel_rfl) (by kernel_rfl) (fun _ _ _ h => h) (Or.inl ⟨by rfl, fun w hSw => ?hyum4⟩) (by assumption) ?rum4
    case hyum4 => (try dsimp only at hSw); go_simp; (try with_reducible rfl)
    (try simp only [Act.put, List.setIfInBounds_toArray, List.set_cons_zero, List.set_cons_succ])
    refine wpAnyH_take (i := 4) (oi := ({ dst := some 10, op := Op.fieldAddr 132 (Operand.tmp 3) 0, type := 0, pos := "wordlocks.go:99", after := #[], guard := none } : Oper)) (v := ?vum5) rfl (by kernel_rfl) (by kernel_rfl) (by kernel_rfl) (fun _ _ _ h => h) (Or.inl ⟨by rfl, fun w hSw => ?hyum5⟩) (by assumption) ?rum5
    case hyum5 => (try dsimp only at hSw); go_simp; (try with_reducible rfl)
    (try simp only [Act.put, List.setIfInBounds_toArray, List.set_cons_zero, List.set_cons_succ])
    refine wpAnyH_take (i := 5) (oi := ({ dst := some 11, op := Op.load 3 (Operand.tmp 10), type := 3, pos := "wordlocks.go:99", after := #[{ on := 4, ground := Ground.data }], guard := none } : Oper)) (v := ?vum6) rfl (by kernel_rfl) (by kernel_rfl) (by kernel_rfl) (fun _ _ _ h => h) (Or.inl ⟨by rfl, fun w hSw => ?hyum6⟩) (by assumption) ?rum6
    case hyum6 => (try dsimp only at hSw); go_simp; (try with_reducible rfl)
    (try simp only [Act.put, List.setIfInBounds_toArray, List.set_cons_zero, List.set_cons_succ])
    refine wpAnyH_ready (rs := [6]) (by kernel_rfl) (by simp) ?_
    refine AllReadyH.cons (o := ({ dst := some 12, op := Op.call { callee := Callee.value (Operand.func 28), args := #[Operand.tmp 11], argTypes := #[3] }, type := 3, pos := "wordlocks.go:99", after := #[{ on := 5, ground := Ground.data }], guard := none } : Oper)) rfl (fun Kq hKq => ?_) AllReadyH.nil
    go_simp
    (refine (HT.out _).mono ?_; rintro e w2 ⟨rfl, rfl⟩)
    refine hKq.out _ _ ?_ (fun hHeld => ?_)
    · exact hHeld
    clear hKq Kq
    (try simp only [Act.put, List.setIfInBounds_toArray, List.set_cons_zero, List.set_cons_succ])
    refine wpAnyH_ready (rs := [7]) (by kernel_rfl) (by simp) ?_
    refine AllReadyH.cons (o := ({ dst := some 13, op := Op.call { callee := Callee.value (Operand.func 211), args := #[Operand.tmp 9, Operand.tmp 12], argTypes := #[83, 3] }, type := 313, pos := "wordlocks.go:99", after := #[{ on := 3, ground := Ground.data }, { on := 6, ground := Ground.data }, { on := 6, ground := Ground.chain }], guard := none } : Oper)) rfl (fun Kq hKq => ?_) AllReadyH.nil
    go_simp
    (refine HC.out.mono ?_; rintro e w3 ⟨rfl, X3, h3g, hpB⟩; have h3 : Wl w0 w3 base WB (M.park (2 * K.t + 1)) (r ++ [blockP Q (.cells #[.int .i64 (K.t : Int), .int .u32 (K.a : Int)] 132)]) j B K X3 := ⟨h3g, HA.out.hj⟩; have q3 := h3.pg.c.2.1; rw [hpB] at q3; have hl := h3.last HJ.out)
    refine hKq.out _ _ ?_ (fun hHeld => ?_)
    · exact ⟨cell_row hl 0, q3⟩
    clear hKq Kq
    (try simp only [Act.put, List.setIfInBounds_toArray, List.set_cons_zero, List.set_cons_succ])
    refine wpAnyH_take (i := 8) (oi := ({ dst := some 14, op := Op.binOp BinOp.neq 313 (Operand.tmp 13) (Operand.const (Value.int IntKind.u8 1)) 313, type := 4, pos := "wordlocks.go:99", after := #[{ on := 7, ground := Ground.data }], guard := none } : Oper)) (v := ?vum7) rfl (by kernel_rfl) (by kernel_rfl) (by kernel_rfl) (fun _ _ _ h => h) (Or.inl ⟨by rfl, fun w hSw => ?hyum7⟩) (by assumption) ?rum7
    case hyum7 => (try dsimp only at hSw); go_simp; (try with_reducible rfl)
    (try simp only [Act.put, List.setIfInBounds_toArray, List.set_cons_zero, List.set_cons_succ])
    refine wpAnyH_done (by kernel_rfl) ?_ _
    have H3 := Lib.hid h3
    clear hHeld q3 hl h3 h3g hpB HF k0 k1
    go_wp2_with fail
    (try simp only [Exit.inBlock, Exit.then])
    refine bodyPost_ret (results_none rfl _ _ _) rfl ⟨rfl, X3, H3.out.dropB HJ.out⟩
  · refine wp_region_held_drew (S := fun w' => w'.cell? ⟨Q, 0, none⟩ = some (.int .i64 (K.t : Int)) ∧ w'.cell? ⟨WB, 2, none⟩ = some (Pw X.pB)) (by kernel_rfl) ?_ (fun hHeld => ?_)
    · exact HF.out
    refine wpAnyH_take (i := 0) (oi := ({ dst := some 6, op := Op.move (Operand.tmp 2), type := 33, pos := "wordlocks.go:99", after := #[], guard := none } : Oper)) (v := ?vvm1) rfl (by kernel_rfl) (by kernel_rfl) (by kernel_rfl) (fun _ _ _ h => h) (Or.inl ⟨by rfl, fun w hSw => ?hyvm1⟩) (by assumption) ?rvm1
    case hyvm1 => (try dsimp only at hSw); go_simp; (try with_reducible rfl)
    (try simp only [Act.put, List.setIfInBounds_toArray, List.set_cons_zero, List.set_cons_succ])
    refine wpAnyH_take (i := 1) (oi := ({ dst := some 7, op := Op.nilCheck (Operand.tmp 6), type := 0, pos := "wordlocks.go:99", after := #[{ on := 0, ground := Ground.data }], guard := none } : Oper)) (v := ?vvm2) rfl (by kernel_rfl) (by kernel_rfl) (by kernel_rfl) (fun _ _ _ h => h) (Or.inl ⟨by rfl, fun w hSw => ?hyvm2⟩) (by assumption) ?rvm2
    case hyvm2 => (try dsimp only at hSw); go_simp; (try with_reducible rfl)
    (try simp only [Act.put, List.setIfInBounds_toArray, List.set_cons_zero, List.set_cons_succ])
    refine wpAnyH_take (i := 2) (oi := ({ dst := some 8, op := Op.fieldAddr 89 (Operand.tmp 7) 2, type := 0, pos := "wordlocks.go:99", after := #[{ on := 1, ground := Ground.data }], guard := none } : Oper)) (v := ?vvm3) rfl (by kernel_rfl) (by kernel_rfl) (by kernel_rfl) (fun _ _ _ h => h) (Or.inl ⟨by rfl, fun w hSw => ?hyvm3⟩) (by assumption) ?rvm3
    case hyvm3 => (try dsimp only at hSw); go_simp; (try with_reducible rfl)
    (try simp only [Act.put, List.setIfInBounds_toArray, List.set_cons_zero, List.set_cons_succ])
    refine wpAnyH_take (i := 3) (oi := ({ dst := some 9, op := Op.load 83 (Operand.tmp 8), type := 83, pos := "wordlocks.go:99", after := #[{ on := 2, ground := Ground.data }], guard := none } : Oper)) (v := ?vvm4) rfl (by kernel_rfl) (by kernel_rfl) (by kernel_rfl) (fun _ _ _ h => h) (Or.inl ⟨by rfl, fun w hSw => ?hyvm4⟩) (by assumption) ?rvm4
    case hyvm4 => (try dsimp only at hSw); go_simp; (try with_reducible rfl)
    (try simp only [Act.put, List.setIfInBounds_toArray, List.set_cons_zero, List.set_cons_succ])
    refine wpAnyH_take (i := 4) (oi := ({ dst := some 10, op := Op.fieldAddr 132 (Operand.tmp 3) 0, type := 0, pos := "wordlocks.go:99", after := #[], guard := none } : Oper)) (v := ?vvm5) rfl (by kernel_rfl) (by kernel_rfl) (by kernel_rfl) (fun _ _ _ h => h) (Or.inl ⟨by rfl, fun w hSw => ?hyvm5⟩) (by assumption) ?rvm5
    case hyvm5 => (try dsimp only at hSw); go_simp; (try with_reducible rfl)
    (try simp only [Act.put, List.setIfInBounds_toArray, List.set_cons_zero, List.set_cons_succ])
    refine wpAnyH_take (i := 5) (oi := ({ dst := some 11, op := Op.load 3 (Operand.tmp 10), type := 3, pos := "wordlocks.go:99", after := #[{ on := 4, ground := Ground.data }], guard := none } : Oper)) (v := ?vvm6) rfl (by kernel_rfl) (by kernel_rfl) (by kernel_rfl) (fun _ _ _ h => h) (Or.inl ⟨by rfl, fun w hSw => ?hyvm6⟩) (by assumption) ?rvm6
    case hyvm6 => (try dsimp only at hSw); go_simp; (try with_reducible rfl)
    (try simp only [Act.put, List.setIfInBounds_toArray, List.set_cons_zero, List.set_cons_succ])
    refine wpAnyH_ready (rs := [6]) (by kernel_rfl) (by simp) ?_
    refine AllReadyH.cons (o := ({ dst := some 12, op := Op.call { callee := Callee.value (Operand.func 28), args := #[Operand.tmp 11], argTypes := #[3] }, type := 3, pos := "wordlocks.go:99", after := #[{ on := 5, ground := Ground.data }], guard := none } : Oper)) rfl (fun Kq hKq => ?_) AllReadyH.nil
    go_simp
    (refine (HT.out _).mono ?_; rintro e w2 ⟨rfl, rfl⟩)
    refine hKq.out _ _ ?_ (fun hHeld => ?_)
    · exact hHeld
    clear hKq Kq
    (try simp only [Act.put, List.setIfInBounds_toArray, List.set_cons_zero, List.set_cons_succ])
    refine wpAnyH_ready (rs := [7]) (by kernel_rfl) (by simp) ?_
    refine AllReadyH.cons (o := ({ dst := some 13, op := Op.call { callee := Callee.value (Operand.func 211), args := #[Operand.tmp 9, Operand.tmp 12], argTypes := #[83, 3] }, type := 313, pos := "wordlocks.go:99", after := #[{ on := 3, ground := Ground.data }, { on := 6, ground := Ground.data }, { on := 6, ground := Ground.chain }], guard := none } : Oper)) rfl (fun Kq hKq => ?_) AllReadyH.nil
    go_simp
    (refine HC.out.mono ?_; rintro e w3 ⟨rfl, X3, h3g, hpB⟩; have h3 : Wl w0 w3 base WB (M.park (2 * K.t + 1)) (r ++ [blockP Q (.cells #[.int .i64 (K.t : Int), .int .u32 (K.a : Int)] 132)]) j B K X3 := ⟨h3g, HA.out.hj⟩; have q3 := h3.pg.c.2.1; rw [hpB] at q3; have hl := h3.last HJ.out)
    refine hKq.out _ _ ?_ (fun hHeld => ?_)
    · exact ⟨cell_row hl 0, q3⟩
    clear hKq Kq
    (try simp only [Act.put, List.setIfInBounds_toArray, List.set_cons_zero, List.set_cons_succ])
    refine wpAnyH_take (i := 8) (oi := ({ dst := some 14, op := Op.binOp BinOp.neq 313 (Operand.tmp 13) (Operand.const (Value.int IntKind.u8 1)) 313, type := 4, pos := "wordlocks.go:99", after := #[{ on := 7, ground := Ground.data }], guard := none } : Oper)) (v := ?vvm7) rfl (by kernel_rfl) (by kernel_rfl) (by kernel_rfl) (fun _ _ _ h => h) (Or.inl ⟨by rfl, fun w hSw => ?hyvm7⟩) (by assumption) ?rvm7
    case hyvm7 => (try dsimp only at hSw); go_simp; (try with_reducible rfl)
    (try simp only [Act.put, List.setIfInBounds_toArray, List.set_cons_zero, List.set_cons_succ])
    refine wpAnyH_done (by kernel_rfl) ?_ _
    have HBG := Lib.hid (begin_l h3)
    clear hHeld q3 hl h3 h3g hpB HF k0 k1
    go_upto_region 3 with (go_at_call 99; refine HBG.out.mono ?_; rintro e w4 ⟨rfl, h4⟩)
    have hl := h4.last HJ.out
    have k0 := cell_row hl 0; have k1 := cell_row hl 1
    simp only [List.getElem?_toArray, List.getElem?_cons_zero, List.getElem?_cons_succ] at k0 k1
    have c0 := h4.b0; have z0 := h4.fz 0; have c3 := h4.b3; have z3 := h4.fz 3
    have H4 := Lib.hid h4
    clear hl h4 HBG
    go_wp2_with fail
    go_end0
    exact ⟨rfl, X3, (H4.out.next2 3 _ rfl false rfl).dropB HJ.out⟩
end
end Go.Proofs.YtlflagjnlclffaaGreat.S13
namespace Go.Proofs.YtlflagjnlclffaaGreat.S13
open Go.Proofs.YtlflagjnlclffaaGreat Go.Proofs.YtlflagjnlclffaaGreat.S11 Go.Proofs.YtlflagjnlclffaaGreat.S12
open Go.RowKit

theorem eqlN (w : World) : (binOp .eql 127 .nilFunc .nilFunc).run Tryz.prog w = .ok (.bool true) w := by kernel_rfl
theorem eqlF (f : Fn) (x y : Array Value) (w : World) : (binOp .eql 127 (.func f x y) .nilFunc).run Tryz.prog w = .ok (.bool false) w := by kernel_rfl
def LkAt (w : World) (B : Nat) (K : Lk) : Prop := w.heap[B]? = some (.cells K.cs 130 (0, 0))
set_option maxRecDepth 100000 in
theorem over_any {w : World} {B : Nat} {K : Lk} (h : LkAt w B K) (h6 : K.ln ≤ 6) : Calls Tryz.prog 42 #[Pw B] w fun e w' => e = .returned (.bool (decide (K.ln = 0))) ∧ w = w' := by
  have c0 : w.cell? ⟨B, 0, none⟩ = some (nxV K.t K.a K.ln) := cell_row h 0
  obtain ⟨n, hn⟩ : ∃ n, n = K.ln := ⟨_, rfl⟩
  rw [← hn] at c0 h6 ⊢
  clear h hn
  match n, h6 with
  | 0, _ =>
    simp only [nxV] at c0
    have he1 := eqlN
    have he2 := eqlF
    go_enter Tryz.func42, Tryz.ntmps42
    go_wp2_with fail
    go_ret
    exact ⟨rfl, rfl⟩
  | 1, _ =>
    simp only [nxV] at c0
    have he1 := eqlN
    have he2 := eqlF
    go_enter Tryz.func42, Tryz.ntmps42
    go_wp2_with fail
    go_ret
    exact ⟨rfl, rfl⟩
  | 2, _ =>
    simp only [nxV] at c0
    have he1 := eqlN
    have he2 := eqlF
    go_enter Tryz.func42, Tryz.ntmps42
    go_wp2_with fail
    go_ret
    exact ⟨rfl, rfl⟩
  | 3, _ =>
    simp only [nxV] at c0
    have he1 := eqlN
    have he2 := eqlF
    go_enter Tryz.func42, Tryz.ntmps42
    go_wp2_with fail
    go_ret
    exact ⟨rfl, rfl⟩
  | 4, _ =>
    simp only [nxV] at c0
    have he1 := eqlN
    have he2 := eqlF
    go_enter Tryz.func42, Tryz.ntmps42
    go_wp2_with fail
    go_ret
    exact ⟨rfl, rfl⟩
  | 5, _ =>
    simp only [nxV] at c0
    have he1 := eqlN
    have he2 := eqlF
    go_enter Tryz.func42, Tryz.ntmps42
    go_wp2_with fail
    go_ret
    exact ⟨rfl, rfl⟩
  | 6, _ =>
    simp only [nxV] at c0
    have he1 := eqlN
    have he2 := eqlF
    go_enter Tryz.func42, Tryz.ntmps42
    go_wp2_with fail
    go_ret
    exact ⟨rfl, rfl⟩
theorem waits_any {w : World} {B : Nat} {K : Lk} (h : LkAt w B K) : Calls Tryz.prog 25 #[Pw B] w fun e w' => e = .returned (.bool (decide (K.ln = 6))) ∧ w = w' := by
  have c3 : w.cell? ⟨B, 3, none⟩ = some (.bool (decide (K.ln = 6))) := cell_row h 3
  clear h
  generalize decide (K.ln = 6) = b at *
  go_enter Tryz.func25, Tryz.ntmps25
  go_wp2_with fail
  go_ret
  exact ⟨rfl, rfl⟩
section
variable {w0 w w' : World} {base WB : Nat} {M : Sd} {r : List Part} {j B : Nat} {K : Lk} {X : Wm}
theorem Wl.at (h : Wl w0 w base WB M r j B K X) : LkAt w B K := h.blk
theorem cas_le {x was : Nat} {K' : Lk} (h : K'.ln ≤ 6) : (K.cas x was K').ln ≤ 6 := by
  unfold Lk.cas
  split
  · exact h
  · unfold Lk.turn; split
    · show 2 ≤ 6; omega
    · split
      · split
        · show 3 ≤ 6; omega
        · show 4 ≤ 6; omega
      · show 4 ≤ 6; omega
theorem turn_le {x : Nat} : (K.turn x).ln ≤ 6 := by
  unfold Lk.turn; split
  · show 2 ≤ 6; omega
  · split
    · split
      · show 3 ≤ 6; omega
      · show 4 ≤ 6; omega
    · show 4 ≤ 6; omega
theorem step_le (h : K.ln ≤ 6) : (stepK M K).ln ≤ 6 := by
  unfold stepK
  split
  · exact cas_le (Nat.zero_le _)
  · exact cas_le (Nat.zero_le _)
  · exact turn_le
  · show 5 ≤ 6; omega
  · exact cas_le (Nat.le_refl _)
  · split
    · show 3 ≤ 6; omega
    · exact h
  · exact h
set_option maxRecDepth 100000 in
set_option maxHeartbeats 4000000 in
theorem step_any (h : Wl w0 w base WB M r j B K X) (ok : LkOk M K) (h6 : K.ln ≤ 6) : Calls Tryz.prog 14 #[Pw B, Pw WB] w fun e w' => e = .returned (.bool (decide ((stepK M K).ln = 0))) ∧ Stepped w0 w' base WB M r j B K := by
  have hov := over_any h.at h6
  have c0 := h.b0
  by_cases h0 : K.ln = 0
  · have hk : stepK M K = K := by simp only [stepK, h0]
    have hm : stepM M K = M := by simp only [stepM, h0]
    have hs : Stepped w0 w base WB M r j B K := ⟨X, by rw [hk, hm]; exact h⟩
    rw [hk]
    rw [decide_eq_true h0] at hov ⊢
    have HOV := Lib.hid hov; have HS := Lib.hid hs
    clear h ok h6 hov hs hk hm c0 h0
    go_enter Tryz.func14, Tryz.ntmps14
    go_wp2_with (go_at_call 42; refine HOV.out.mono ?_; rintro e w1 ⟨rfl, rfl⟩)
    go_ret
    exact ⟨rfl, HS.out⟩
  · rw [decide_eq_false h0] at hov
    have hnx : ∀ w', Stepped w0 w' base WB M r j B K → Calls Tryz.prog 42 #[Pw B] w' fun e w'' => e = .returned (.bool (decide ((stepK M K).ln = 0))) ∧ w' = w'' := fun w' ⟨X', h'⟩ => over_any h'.at (step_le h6)
    have HOV := Lib.hid hov; have HNX := Lib.hid hnx
    generalize decide ((stepK M K).ln = 0) = ov at *
    have hk : K.ln = 1 ∨ K.ln = 2 ∨ K.ln = 3 ∨ K.ln = 4 ∨ K.ln = 5 ∨ K.ln = 6 := by omega
    rcases hk with hk | hk | hk | hk | hk | hk
    · have HL := Lib.hid (first_l h ok hk)
      rw [hk] at c0
      simp only [nxV] at c0
      clear h ok h6 hov hnx h0 hk
      go_enter Tryz.func14, Tryz.ntmps14
      go_wp2_with (first
        | (go_at_call 41; refine HL.out.mono ?_; rintro e w2 ⟨rfl, hs⟩; have HO2 := Lib.hid (HNX.out _ hs); have HS := Lib.hid hs; clear hs)
        | (go_at_call 42; refine HO2.out.mono ?_; rintro e w3 ⟨rfl, rfl⟩)
        | (go_at_call 42; refine HOV.out.mono ?_; rintro e w1 ⟨rfl, rfl⟩))
      go_ret
      exact ⟨rfl, HS.out⟩
    · have HL := Lib.hid (take_l h ok hk)
      rw [hk] at c0
      simp only [nxV] at c0
      clear h ok h6 hov hnx h0 hk
      go_enter Tryz.func14, Tryz.ntmps14
      go_wp2_with (first
        | (go_at_call 179; refine HL.out.mono ?_; rintro e w2 ⟨rfl, hs⟩; have HO2 := Lib.hid (HNX.out _ hs); have HS := Lib.hid hs; clear hs)
        | (go_at_call 42; refine HO2.out.mono ?_; rintro e w3 ⟨rfl, rfl⟩)
        | (go_at_call 42; refine HOV.out.mono ?_; rintro e w1 ⟨rfl, rfl⟩))
      go_ret
      exact ⟨rfl, HS.out⟩
    · have HL := Lib.hid (look_l h ok hk)
      rw [hk] at c0
      simp only [nxV] at c0
      clear h ok h6 hov hnx h0 hk
      go_enter Tryz.func14, Tryz.ntmps14
      go_wp2_with (first
        | (go_at_call 181; refine HL.out.mono ?_; rintro e w2 ⟨rfl, hs⟩; have HO2 := Lib.hid (HNX.out _ hs); have HS := Lib.hid hs; clear hs)
        | (go_at_call 42; refine HO2.out.mono ?_; rintro e w3 ⟨rfl, rfl⟩)
        | (go_at_call 42; refine HOV.out.mono ?_; rintro e w1 ⟨rfl, rfl⟩))
      go_ret
      exact ⟨rfl, HS.out⟩
    · have HL := Lib.hid (prepare_l h ok hk)
      rw [hk] at c0
      simp only [nxV] at c0
      clear h ok h6 hov hnx h0 hk
      go_enter Tryz.func14, Tryz.ntmps14
      go_wp2_with (first
        | (go_at_call 182; refine HL.out.mono ?_; rintro e w2 ⟨rfl, hs⟩; have HO2 := Lib.hid (HNX.out _ hs); have HS := Lib.hid hs; clear hs)
        | (go_at_call 42; refine HO2.out.mono ?_; rintro e w3 ⟨rfl, rfl⟩)
        | (go_at_call 42; refine HOV.out.mono ?_; rintro e w1 ⟨rfl, rfl⟩))
      go_ret
      exact ⟨rfl, HS.out⟩
    · have HL := Lib.hid (queue_l h ok hk)
      rw [hk] at c0
      simp only [nxV] at c0
      clear h ok h6 hov hnx h0 hk
      go_enter Tryz.func14, Tryz.ntmps14
      go_wp2_with (first
        | (go_at_call 193; refine HL.out.mono ?_; rintro e w2 ⟨rfl, hs⟩; have HO2 := Lib.hid (HNX.out _ hs); have HS := Lib.hid hs; clear hs)
        | (go_at_call 42; refine HO2.out.mono ?_; rintro e w3 ⟨rfl, rfl⟩)
        | (go_at_call 42; refine HOV.out.mono ?_; rintro e w1 ⟨rfl, rfl⟩))
      go_ret
      exact ⟨rfl, HS.out⟩
    · have HL := Lib.hid (park_l h ok hk)
      rw [hk] at c0
      simp only [nxV] at c0
      clear h ok h6 hov hnx h0 hk
      go_enter Tryz.func14, Tryz.ntmps14
      go_wp2_with (first
        | (go_at_call 205; refine HL.out.mono ?_; rintro e w2 ⟨rfl, hs⟩; have HO2 := Lib.hid (HNX.out _ hs); have HS := Lib.hid hs; clear hs)
        | (go_at_call 42; refine HO2.out.mono ?_; rintro e w3 ⟨rfl, rfl⟩)
        | (go_at_call 42; refine HOV.out.mono ?_; rintro e w1 ⟨rfl, rfl⟩))
      go_ret
      exact ⟨rfl, HS.out⟩
end
def newK (t : Int) (a : Nat) : Lk := if 0 ≤ t ∧ t < 64 then lk1 t.toNat a else lk0
theorem new_lock (t : Int) (a : Nat) (w : World) : Calls Tryz.prog 8 #[.int .i64 t, .int .u32 (a : Int)] w fun e w' => e = .returned (Pw w.heap.size) ∧ w' = w.alloc (.cells (newK t a).cs 130) := by
  by_cases h0 : 0 ≤ t
  · by_cases h1 : t < 64
    · have hk : (newK t a).cs = #[.func (.func 41) #[.agg #[.int .i64 t, .int .u32 (a : Int)]] #[], .int .u64 0, .int .i64 0, .bool false] := by
        unfold newK; rw [if_pos ⟨h0, h1⟩]
        have e : askV t.toNat a = .agg #[.int .i64 t, .int .u32 (a : Int)] := by unfold askV; rw [Int.toNat_of_nonneg h0]
        rw [← e]; rfl
      have d0 : decide (t < 0) = false := by rw [decide_eq_false_iff_not]; omega
      have d1 : decide ((64 : Int) ≤ t) = false := by rw [decide_eq_false_iff_not]; omega
      rw [hk]
      clear hk h0 h1
      go_enter Tryz.func8, Tryz.ntmps8
      go_wp2_with fail
      go_ret
      exact ⟨rfl, rfl⟩
    · have hk : (newK t a).cs = #[.nilFunc, .int .u64 0, .int .i64 0, .bool false] := by
        unfold newK; rw [if_neg (by omega)]; rfl
      have d0 : decide (t < 0) = false := by rw [decide_eq_false_iff_not]; omega
      have d1 : decide ((64 : Int) ≤ t) = true := by rw [decide_eq_true_iff]; omega
      rw [hk]
      clear hk h0 h1
      go_enter Tryz.func8, Tryz.ntmps8
      go_wp2_with fail
      go_ret
      exact ⟨rfl, rfl⟩
  · have hk : (newK t a).cs = #[.nilFunc, .int .u64 0, .int .i64 0, .bool false] := by
      unfold newK; rw [if_neg (by omega)]; rfl
    have d0 : decide (t < 0) = true := by rw [decide_eq_true_iff]; omega
    rw [hk]
    clear hk h0
    go_enter Tryz.func8, Tryz.ntmps8
    go_wp2_with fail
    go_ret
    exact ⟨rfl, rfl⟩
end Go.Proofs.YtlflagjnlclffaaGreat.S13
namespace Go.Proofs.YtlflagjnlclffaaGreat.S13
open Go.Proofs.YtlflagjnlclffaaGreat Go.Proofs.YtlflagjnlclffaaGreat.S11 Go.Proofs.YtlflagjnlclffaaGreat.S12
open Go.RowKit

theorem rnew_lock (t : Int) (a : Nat) (w : World) : Calls Tryz.prog 9 #[.int .i64 t, .int .u32 (a : Int)] w fun e w' => e = .returned (Pw w.heap.size) ∧ w' = w.alloc (.cells (newK t a).rs 58) := by
  by_cases h0 : 0 ≤ t
  · by_cases h1 : t < 64
    · have hk : (newK t a).rs = #[.int .i64 1, .int .i64 t, .int .u32 (a : Int), .int .u64 0, .int .i64 0] := by
        unfold newK; rw [if_pos ⟨h0, h1⟩]
        have e : ((t.toNat : Nat) : Int) = t := Int.toNat_of_nonneg h0
        show #[_, Value.int .i64 ((t.toNat : Nat) : Int), _, _, _] = _
        rw [e]; rfl
      have d0 : decide (t < 0) = false := by rw [decide_eq_false_iff_not]; omega
      have d1 : decide ((63 : Int) < t) = false := by rw [decide_eq_false_iff_not]; omega
      rw [hk]
      clear hk h0 h1
      go_enter Tryz.func9, Tryz.ntmps9
      go_wp2_with fail
      go_ret
      exact ⟨rfl, rfl⟩
    · have hk : (newK t a).rs = #[.int .i64 0, .int .i64 0, .int .u32 0, .int .u64 0, .int .i64 0] := by
        unfold newK; rw [if_neg (by omega)]; rfl
      have d0 : decide (t < 0) = false := by rw [decide_eq_false_iff_not]; omega
      have d1 : decide ((63 : Int) < t) = true := by rw [decide_eq_true_iff]; omega
      rw [hk]
      clear hk h0 h1
      go_enter Tryz.func9, Tryz.ntmps9
      go_wp2_with fail
      go_ret
      exact ⟨rfl, rfl⟩
  · have hk : (newK t a).rs = #[.int .i64 0, .int .i64 0, .int .u32 0, .int .u64 0, .int .i64 0] := by
      unfold newK; rw [if_neg (by omega)]; rfl
    have d0 : decide (t < 0) = true := by rw [decide_eq_true_iff]; omega
    rw [hk]
    clear hk h0
    go_enter Tryz.func9, Tryz.ntmps9
    go_wp2_with fail
    go_ret
    exact ⟨rfl, rfl⟩
set_option maxRecDepth 100000 in
theorem op_same {w : World} {B C : Nat} {K : Lk} (hB : LkAt w B K) (hC : w.heap[C]? = some (.cells K.rs 58 (0, 0))) (h6 : K.ln ≤ 6) : Calls Tryz.prog 10 #[.agg #[Pw B, Pw C]] w fun e w' => e = .returned (.bool true) ∧ Below w.heap.size w w' := by
  have hb : Below w.heap.size w (w.alloc (.cells #[Pw B, Pw C] 50)) := below1 w _
  have hq := heap_alloc_new w (.cells #[Pw B, Pw C] 50)
  have hB1 : LkAt (w.alloc (.cells #[Pw B, Pw C] 50)) B K := (hb.block B (Array.getElem?_eq_some_iff.1 hB).1).trans hB
  have hC1 := (hb.block C (Array.getElem?_eq_some_iff.1 hC).1).trans hC
  have HB := Lib.hid hb
  obtain ⟨Q, hQ⟩ : ∃ Q, Q = w.heap.size := ⟨_, rfl⟩
  rw [← hQ] at hq
  have HQ := Lib.hid hQ
  have q0 := cell_row hq 0; have q1 := cell_row hq 1
  simp only [List.getElem?_toArray, List.getElem?_cons_zero, List.getElem?_cons_succ] at q0 q1
  clear hb hQ hq hB hC
  go_enter Tryz.func10, Tryz.ntmps10
  go_upto_region 1 with (fail)
  rw [← HQ.out]
  generalize w.alloc (.cells #[Pw B, Pw C] 50) = w1 at *
  have k0 : w1.cell? ⟨C, 0, none⟩ = some (.int .i64 (K.ln : Int)) := cell_row hC1 0
  have HOV : Hid (Calls Tryz.prog 42 #[Pw B] w1.drew fun e w' => e = .returned (.bool (decide (K.ln = 0))) ∧ w1.drew = w') := Lib.hid (over_any (w := w1.drew) hB1 h6)
  have HWT : Hid (Calls Tryz.prog 25 #[Pw B] w1.drew fun e w' => e = .returned (.bool (decide (K.ln = 6))) ∧ w1.drew = w') := Lib.hid (waits_any (w := w1.drew) hB1)
  have e0 : ((K.ln : Int) == 0) = decide (K.ln = 0) := by
    by_cases e : K.ln = 0
    · rw [e]; rfl
    · rw [decide_eq_false e, beq_eq_false_iff_ne]; omega
  have e6 : ((K.ln : Int) == 6) = decide (K.ln = 6) := by
    by_cases e : K.ln = 6
    · rw [e]; rfl
    · rw [decide_eq_false e, beq_eq_false_iff_ne]; omega
  clear hB1 hC1 h6
  generalize decide (K.ln = 0) = v0 at *
  generalize decide (K.ln = 6) = v6 at *
  refine wp_region_held_drew (S := fun w' => w'.cell? ⟨Q, 0, none⟩ = some (Pw B) ∧ w'.cell? ⟨Q, 1, none⟩ = some (Pw C) ∧ w'.cell? ⟨C, 0, none⟩ = some (.int .i64 (K.ln : Int))) (by kernel_rfl) ?_ (fun hHeld => ?_)
  · exact ⟨q0, q1, k0⟩
  refine wpAnyH_take (i := 0) (oi := ({ dst := some 3, op := Op.fieldAddr 50 (Operand.tmp 1) 0, type := 0, pos := "law.go:31", after := #[], guard := none } : Oper)) (v := ?vsm1) rfl (by kernel_rfl) (by kernel_rfl) (by kernel_rfl) (fun _ _ _ h => h) (Or.inl ⟨by rfl, fun w hSw => ?hysm1⟩) (by assumption) ?rsm1
  case hysm1 => (try dsimp only at hSw); go_simp; (try with_reducible rfl)
  (try simp only [Act.put, List.setIfInBounds_toArray, List.set_cons_zero, List.set_cons_succ])
  refine wpAnyH_take (i := 1) (oi := ({ dst := some 4, op := Op.load 45 (Operand.tmp 3), type := 45, pos := "law.go:31", after := #[{ on := 0, ground := Ground.data }], guard := none } : Oper)) (v := ?vsm2) rfl (by kernel_rfl) (by kernel_rfl) (by kernel_rfl) (fun _ _ _ h => h) (Or.inl ⟨by rfl, fun w hSw => ?hysm2⟩) (by assumption) ?rsm2
  case hysm2 => (try dsimp only at hSw); go_simp; (try with_reducible rfl)
  (try simp only [Act.put, List.setIfInBounds_toArray, List.set_cons_zero, List.set_cons_succ])
  refine wpAnyH_take (i := 3) (oi := ({ dst := some 6, op := Op.fieldAddr 50 (Operand.tmp 1) 1, type := 0, pos := "law.go:31", after := #[], guard := none } : Oper)) (v := ?vsm3) rfl (by kernel_rfl) (by kernel_rfl) (by kernel_rfl) (fun _ _ _ h => h) (Or.inl ⟨by rfl, fun w hSw => ?hysm3⟩) (by assumption) ?rsm3
  case hysm3 => (try dsimp only at hSw); go_simp; (try with_reducible rfl)
  (try simp only [Act.put, List.setIfInBounds_toArray, List.set_cons_zero, List.set_cons_succ])
  refine wpAnyH_take (i := 4) (oi := ({ dst := some 7, op := Op.load 47 (Operand.tmp 6), type := 47, pos := "law.go:31", after := #[{ on := 3, ground := Ground.data }], guard := none } : Oper)) (v := ?vsm4) rfl (by kernel_rfl) (by kernel_rfl) (by kernel_rfl) (fun _ _ _ h => h) (Or.inl ⟨by rfl, fun w hSw => ?hysm4⟩) (by assumption) ?rsm4
  case hysm4 => (try dsimp only at hSw); go_simp; (try with_reducible rfl)
  (try simp only [Act.put, List.setIfInBounds_toArray, List.set_cons_zero, List.set_cons_succ])
  refine wpAnyH_take (i := 5) (oi := ({ dst := some 8, op := Op.nilCheck (Operand.tmp 7), type := 0, pos := "law.go:31", after := #[{ on := 4, ground := Ground.data }], guard := none } : Oper)) (v := ?vsm5) rfl (by kernel_rfl) (by kernel_rfl) (by kernel_rfl) (fun _ _ _ h => h) (Or.inl ⟨by rfl, fun w hSw => ?hysm5⟩) (by assumption) ?rsm5
  case hysm5 => (try dsimp only at hSw); go_simp; (try with_reducible rfl)
  (try simp only [Act.put, List.setIfInBounds_toArray, List.set_cons_zero, List.set_cons_succ])
  refine wpAnyH_take (i := 6) (oi := ({ dst := some 9, op := Op.fieldAddr 58 (Operand.tmp 8) 0, type := 0, pos := "law.go:31", after := #[{ on := 5, ground := Ground.data }], guard := none } : Oper)) (v := ?vsm6) rfl (by kernel_rfl) (by kernel_rfl) (by kernel_rfl) (fun _ _ _ h => h) (Or.inl ⟨by rfl, fun w hSw => ?hysm6⟩) (by assumption) ?rsm6
  case hysm6 => (try dsimp only at hSw); go_simp; (try with_reducible rfl)
  (try simp only [Act.put, List.setIfInBounds_toArray, List.set_cons_zero, List.set_cons_succ])
  refine wpAnyH_take (i := 7) (oi := ({ dst := some 10, op := Op.load 3 (Operand.tmp 9), type := 3, pos := "law.go:31", after := #[{ on := 6, ground := Ground.data }], guard := none } : Oper)) (v := ?vsm7) rfl (by kernel_rfl) (by kernel_rfl) (by kernel_rfl) (fun _ _ _ h => h) (Or.inl ⟨by rfl, fun w hSw => ?hysm7⟩) (by assumption) ?rsm7
  case hysm7 => (try dsimp only at hSw); go_simp; (try with_reducible rfl)
  (try simp only [Act.put, List.setIfInBounds_toArray, List.set_cons_zero, List.set_cons_succ])
  refine wpAnyH_take (i := 8) (oi := ({ dst := some 11, op := Op.binOp BinOp.eql 3 (Operand.tmp 10) (Operand.const (Value.int IntKind.i64 0)) 3, type := 4, pos := "law.go:31", after := #[{ on := 7, ground := Ground.data }], guard := none } : Oper)) (v := ?vsm8) rfl (by kernel_rfl) (by kernel_rfl) (by kernel_rfl) (fun _ _ _ h => h) (Or.inl ⟨by rfl, fun w hSw => ?hysm8⟩) (by assumption) ?rsm8
  case hysm8 => (try dsimp only at hSw); go_simp; (try with_reducible rfl)
  (try simp only [Act.put, List.setIfInBounds_toArray, List.set_cons_zero, List.set_cons_succ])
  refine wpAnyH_ready (rs := [2]) (by kernel_rfl) (by simp) ?_
  refine AllReadyH.cons (o := ({ dst := some 5, op := Op.call { callee := Callee.value (Operand.func 42), args := #[Operand.tmp 4], argTypes := #[45] }, type := 4, pos := "law.go:31", after := #[{ on := 1, ground := Ground.data }], guard := none } : Oper)) rfl (fun Kq hKq => ?_) AllReadyH.nil
  go_simp
  (refine HOV.out.mono ?_; rintro e w8 ⟨rfl, rfl⟩)
  refine hKq.out _ _ ?_ (fun hHeld => ?_)
  · exact hHeld
  clear hKq Kq
  (try simp only [Act.put, List.setIfInBounds_toArray, List.set_cons_zero, List.set_cons_succ])
  refine wpAnyH_take (i := 9) (oi := ({ dst := some 12, op := Op.binOp BinOp.eql 4 (Operand.tmp 5) (Operand.tmp 11) 4, type := 4, pos := "law.go:31", after := #[{ on := 2, ground := Ground.data }, { on := 8, ground := Ground.data }], guard := none } : Oper)) (v := ?vsm9) rfl (by kernel_rfl) (by kernel_rfl) (by kernel_rfl) (fun _ _ _ h => h) (Or.inl ⟨by rfl, fun w hSw => ?hysm9⟩) (by assumption) ?rsm9
  case hysm9 => (try dsimp only at hSw); go_simp; (try with_reducible rfl)
  (try simp only [Act.put, List.setIfInBounds_toArray, List.set_cons_zero, List.set_cons_succ])
  refine wpAnyH_take (i := 10) (oi := ({ dst := some 13, op := Op.move (Operand.tmp 12), type := 4, pos := "law.go:31", after := #[{ on := 9, ground := Ground.data }, { on := 2, ground := Ground.chain }], guard := none } : Oper)) (v := ?vsm10) rfl (by kernel_rfl) (by kernel_rfl) (by kernel_rfl) (fun _ _ _ h => h) (Or.inl ⟨by rfl, fun w hSw => ?hysm10⟩) (by assumption) ?rsm10
  case hysm10 => (try dsimp only at hSw); go_simp; (try with_reducible rfl)
  (try simp only [Act.put, List.setIfInBounds_toArray, List.set_cons_zero, List.set_cons_succ])
  refine wpAnyH_take (i := 11) (oi := ({ dst := some 14, op := Op.fieldAddr 50 (Operand.tmp 1) 0, type := 0, pos := "law.go:31", after := #[{ on := 10, ground := Ground.guard }], guard := some (10, true) } : Oper)) (v := ?vsm11) rfl (by kernel_rfl) (by kernel_rfl) (by kernel_rfl) (fun _ _ _ h => h) (Or.inl ⟨by rfl, fun w hSw => ?hysm11⟩) (by assumption) ?rsm11
  case hysm11 => (try dsimp only at hSw); go_simp; (try with_reducible rfl)
  (try simp only [Act.put, List.setIfInBounds_toArray, List.set_cons_zero, List.set_cons_succ])
  refine wpAnyH_take (i := 12) (oi := ({ dst := some 15, op := Op.load 45 (Operand.tmp 14), type := 45, pos := "law.go:31", after := #[{ on := 11, ground := Ground.data }, { on := 10, ground := Ground.guard }], guard := some (10, true) } : Oper)) (v := ?vsm12) rfl (by kernel_rfl) (by kernel_rfl) (by kernel_rfl) (fun _ _ _ h => h) (Or.inl ⟨by rfl, fun w hSw => ?hysm12⟩) (by assumption) ?rsm12
  case hysm12 => (try dsimp only at hSw); go_simp; (try with_reducible rfl)
  (try simp only [Act.put, List.setIfInBounds_toArray, List.set_cons_zero, List.set_cons_succ])
  refine wpAnyH_take (i := 14) (oi := ({ dst := some 17, op := Op.fieldAddr 50 (Operand.tmp 1) 1, type := 0, pos := "law.go:31", after := #[{ on := 10, ground := Ground.guard }], guard := some (10, true) } : Oper)) (v := ?vsm13) rfl (by kernel_rfl) (by kernel_rfl) (by kernel_rfl) (fun _ _ _ h => h) (Or.inl ⟨by rfl, fun w hSw => ?hysm13⟩) (by assumption) ?rsm13
  case hysm13 => (try dsimp only at hSw); go_simp; (try with_reducible rfl)
  (try simp only [Act.put, List.setIfInBounds_toArray, List.set_cons_zero, List.set_cons_succ])
  refine wpAnyH_take (i := 15) (oi := ({ dst := some 18, op := Op.load 47 (Operand.tmp 17), type := 47, pos := "law.go:31", after := #[{ on := 14, ground := Ground.data }, { on := 10, ground := Ground.guard }], guard := some (10, true) } : Oper)) (v := ?vsm14) rfl (by kernel_rfl) (by kernel_rfl) (by kernel_rfl) (fun _ _ _ h => h) (Or.inl ⟨by rfl, fun w hSw => ?hysm14⟩) (by assumption) ?rsm14
  case hysm14 => (try dsimp only at hSw); go_simp; (try with_reducible rfl)
  (try simp only [Act.put, List.setIfInBounds_toArray, List.set_cons_zero, List.set_cons_succ])
  refine wpAnyH_take (i := 16) (oi := ({ dst := some 19, op := Op.nilCheck (Operand.tmp 18), type := 0, pos := "law.go:31", after := #[{ on := 15, ground := Ground.data }, { on := 10, ground := Ground.guard }], guard := some (10, true) } : Oper)) (v := ?vsm15) rfl (by kernel_rfl) (by kernel_rfl) (by kernel_rfl) (fun _ _ _ h => h) (Or.inl ⟨by rfl, fun w hSw => ?hysm15⟩) (by assumption) ?rsm15
  case hysm15 => (try dsimp only at hSw); go_simp; (try with_reducible rfl)
  (try simp only [Act.put, List.setIfInBounds_toArray, List.set_cons_zero, List.set_cons_succ])
  refine wpAnyH_take (i := 17) (oi := ({ dst := some 20, op := Op.fieldAddr 58 (Operand.tmp 19) 0, type := 0, pos := "law.go:31", after := #[{ on := 16, ground := Ground.data }, { on := 10, ground := Ground.guard }], guard := some (10, true) } : Oper)) (v := ?vsm16) rfl (by kernel_rfl) (by kernel_rfl) (by kernel_rfl) (fun _ _ _ h => h) (Or.inl ⟨by rfl, fun w hSw => ?hysm16⟩) (by assumption) ?rsm16
  case hysm16 => (try dsimp only at hSw); go_simp; (try with_reducible rfl)
  (try simp only [Act.put, List.setIfInBounds_toArray, List.set_cons_zero, List.set_cons_succ])
  refine wpAnyH_take (i := 18) (oi := ({ dst := some 21, op := Op.load 3 (Operand.tmp 20), type := 3, pos := "law.go:31", after := #[{ on := 17, ground := Ground.data }, { on := 10, ground := Ground.guard }], guard := some (10, true) } : Oper)) (v := ?vsm17) rfl (by kernel_rfl) (by kernel_rfl) (by kernel_rfl) (fun _ _ _ h => h) (Or.inl ⟨by rfl, fun w hSw => ?hysm17⟩) (by assumption) ?rsm17
  case hysm17 => (try dsimp only at hSw); go_simp; (try with_reducible rfl)
  (try simp only [Act.put, List.setIfInBounds_toArray, List.set_cons_zero, List.set_cons_succ])
  refine wpAnyH_take (i := 19) (oi := ({ dst := some 22, op := Op.binOp BinOp.eql 3 (Operand.tmp 21) (Operand.const (Value.int IntKind.i64 6)) 3, type := 4, pos := "law.go:31", after := #[{ on := 18, ground := Ground.data }, { on := 10, ground := Ground.guard }], guard := some (10, true) } : Oper)) (v := ?vsm18) rfl (by kernel_rfl) (by kernel_rfl) (by kernel_rfl) (fun _ _ _ h => h) (Or.inl ⟨by rfl, fun w hSw => ?hysm18⟩) (by assumption) ?rsm18
  case hysm18 => (try dsimp only at hSw); go_simp; (try with_reducible rfl)
  (try simp only [Act.put, List.setIfInBounds_toArray, List.set_cons_zero, List.set_cons_succ])
  refine wpAnyH_ready (rs := [13]) (by kernel_rfl) (by simp) ?_
  refine AllReadyH.cons (o := ({ dst := some 16, op := Op.call { callee := Callee.value (Operand.func 25), args := #[Operand.tmp 15], argTypes := #[45] }, type := 4, pos := "law.go:31", after := #[{ on := 12, ground := Ground.data }, { on := 10, ground := Ground.chain }, { on := 10, ground := Ground.guard }], guard := some (10, true) } : Oper)) rfl (fun Kq hKq => ?_) AllReadyH.nil
  go_simp
  (refine HWT.out.mono ?_; rintro e w8 ⟨rfl, rfl⟩)
  refine hKq.out _ _ ?_ (fun hHeld => ?_)
  · exact hHeld
  clear hKq Kq
  (try simp only [Act.put, List.setIfInBounds_toArray, List.set_cons_zero, List.set_cons_succ])
  refine wpAnyH_take (i := 20) (oi := ({ dst := some 23, op := Op.binOp BinOp.eql 4 (Operand.tmp 16) (Operand.tmp 22) 4, type := 4, pos := "law.go:31", after := #[{ on := 13, ground := Ground.data }, { on := 19, ground := Ground.data }, { on := 10, ground := Ground.guard }], guard := some (10, true) } : Oper)) (v := ?vsm19) rfl (by kernel_rfl) (by kernel_rfl) (by kernel_rfl) (fun _ _ _ h => h) (Or.inl ⟨by rfl, fun w hSw => ?hysm19⟩) (by assumption) ?rsm19
  case hysm19 => (try dsimp only at hSw); go_simp; (try with_reducible rfl)
  (try simp only [Act.put, List.setIfInBounds_toArray, List.set_cons_zero, List.set_cons_succ])
  refine wpAnyH_take (i := 21) (oi := ({ dst := some 24, op := Op.pick (Operand.tmp 13) (Operand.tmp 23) (Operand.const (Value.bool false)), type := 4, pos := "law.go:31", after := #[{ on := 10, ground := Ground.data }, { on := 20, ground := Ground.data }], guard := none } : Oper)) (v := ?vsm20) rfl (by kernel_rfl) (by kernel_rfl) (by kernel_rfl) (fun _ _ _ h => h) (Or.inl ⟨by rfl, fun w hSw => ?hysm20⟩) (by assumption) ?rsm20
  case hysm20 => (try dsimp only at hSw); go_simp; (try with_reducible rfl)
  (try simp only [Act.put, List.setIfInBounds_toArray, List.set_cons_zero, List.set_cons_succ])
  refine wpAnyH_take (i := 22) (oi := ({ dst := some 2, op := Op.assign (Operand.tmp 24), type := 4, pos := "law.go:31", after := #[{ on := 21, ground := Ground.data }, { on := 13, ground := Ground.chain }, { on := 0, ground := Ground.phase }, { on := 1, ground := Ground.phase }, { on := 2, ground := Ground.phase }, { on := 3, ground := Ground.phase }, { on := 4, ground := Ground.phase }, { on := 5, ground := Ground.phase }, { on := 6, ground := Ground.phase }, { on := 7, ground := Ground.phase }, { on := 8, ground := Ground.phase }, { on := 9, ground := Ground.phase }, { on := 10, ground := Ground.phase }, { on := 11, ground := Ground.phase }, { on := 12, ground := Ground.phase }, { on := 13, ground := Ground.phase }, { on := 14, ground := Ground.phase }, { on := 15, ground := Ground.phase }, { on := 16, ground := Ground.phase }, { on := 17, ground := Ground.phase }, { on := 18, ground := Ground.phase }, { on := 19, ground := Ground.phase }, { on := 20, ground := Ground.phase }, { on := 21, ground := Ground.phase }], guard := none } : Oper)) (v := ?vsm21) rfl (by kernel_rfl) (by kernel_rfl) (by kernel_rfl) (fun _ _ _ h => h) (Or.inl ⟨by rfl, fun w hSw => ?hysm21⟩) (by assumption) ?rsm21
  case hysm21 => (try dsimp only at hSw); go_simp; (try with_reducible rfl)
  (try simp only [Act.put, List.setIfInBounds_toArray, List.set_cons_zero, List.set_cons_succ])
  refine wpAnyH_done (by kernel_rfl) ?_ _
  go_wp2_with fail
  go_ret
  exact ⟨by simp, HB.out.drew⟩
structure SdOk (M : Sd) (N cn : Nat) : Prop where
  n : M.n ≤ cn
  pn : M.pn ≤ cn
  nD : M.nD.length ≤ cn
  pok : S4.PkOk M.pf
  byt : S2.Byt M.L
  nk : ∀ d ∈ M.nD, d.k < 256
  pkr : 0 ≤ M.pk ∧ M.pk < 256
  gd : S10.Good M.m N
  spk : 0 ≤ M.sp ∧ M.sp ≤ 16
theorem SdOk.acc {M : Sd} {N cn : Nat} (h : SdOk M N cn) (k a y : Nat) : SdOk (M.acc k a y) N (cn + 1) :=
  ⟨Nat.succ_le_succ h.n, Nat.le_succ_of_le h.pn, Nat.le_succ_of_le h.nD, h.pok, h.byt.put a y, h.nk, h.pkr, h.gd, h.spk⟩
theorem SdOk.call {M : Sd} {N cn : Nat} (h : SdOk M N cn) (k p : Int) (f : Nat → S4.Pk) (hf : S4.PkOk f) (hk : 0 ≤ k ∧ k < 256) : SdOk (M.call k p f) N (cn + 1) :=
  ⟨Nat.le_succ_of_le h.n, Nat.succ_le_succ h.pn, Nat.le_succ_of_le h.nD, hf, h.byt, h.nk, hk, h.gd, h.spk⟩
theorem SdOk.link {M : Sd} {N cn : Nat} (h : SdOk M N cn) (S : S5.Lk) : SdOk (M.link S) N cn :=
  ⟨h.n, h.pn, h.nD, h.pok, h.byt, h.nk, h.pkr, h.gd, h.spk⟩
theorem SdOk.more {M : Sd} {N cn : Nat} (h : SdOk M N cn) : SdOk M N (cn + 1) :=
  ⟨Nat.le_succ_of_le h.n, Nat.le_succ_of_le h.pn, Nat.le_succ_of_le h.nD, h.pok, h.byt, h.nk, h.pkr, h.gd, h.spk⟩
theorem SdOk.prep {M : Sd} {N cn : Nat} (h : SdOk M N cn) (i : Nat) : SdOk (M.prep i) N (cn + 1) := h.call _ _ _ (h.pok.upd (fun _ => ⟨rfl, rfl⟩)) ⟨by decide, by decide⟩
theorem SdOk.park {M : Sd} {N cn : Nat} (h : SdOk M N cn) (i : Nat) : SdOk (M.park i) N (cn + 1) :=
  h.call _ _ _ (h.pok.upd (by
    unfold S4.parkK
    split
    · exact fun _ => ⟨rfl, rfl⟩
    · exact fun hx => absurd hx (by decide))) ⟨by decide, by decide⟩
theorem SdOk.unpark {M : Sd} {N cn : Nat} (h : SdOk M N cn) (i : Nat) : SdOk (M.unpark i) N (cn + 1) := h.call _ _ _ (h.pok.upd (h.pok i)) ⟨by decide, by decide⟩
theorem SdOk.step {M : Sd} {N cn : Nat} (h : SdOk M N cn) (K : Lk) : SdOk (stepM M K) N (cn + 1) := by
  unfold stepM
  split
  · exact h.acc _ _ _
  · exact h.acc _ _ _
  · exact h.acc _ _ _
  · exact (h.prep _).link _
  · exact h.acc _ _ _
  · exact h.park _
  · exact h.more
section
variable {w0 w w' : World} {base WB RB N cn tn : Nat} {M : Sd} {E : List Part} {X : Wm} {Y : Rm}
theorem bg_ok (h : Bg w0 w base WB RB N cn tn M M E X Y) : SdOk M N cn := by
  have e := h.xm
  subst e
  exact ⟨h.xn, h.pn, h.nD, h.pok, h.byt, h.nk, h.pkr, h.gd, h.spk⟩
theorem bg_rg (h : Bg w0 w base WB RB N cn tn M M E X Y) : Rg w0 w base RB M X.parts E Y := ⟨h.pr, h.rB, h.ym, h.rb, h.bl⟩
theorem bg_pg (h : Bg w0 w base WB RB N cn tn M M E X Y) : Pg w0 w base WB M (Y.parts ++ E) X := ⟨h.pr, h.wB, h.xm, h.bl⟩
theorem bg_of (o : SdOk M N cn) (hp : Pg w0 w base WB M (Y.parts ++ E) X) (rB : Y.wB = RB) (ym : Y.sd = M) (rb : Y.rb ≤ w.heap.size) : Bg w0 w base WB RB N cn X.tn M M E X Y := by
  have e := hp.xm
  have e2 := ym
  have en : X.n = M.n := congrArg Sd.n e
  have epn : X.pn = M.pn := congrArg Sd.pn e
  have ep : X.pf = M.pf := congrArg Sd.pf e
  have eL : X.L = M.L := congrArg Sd.L e
  have eD : X.nD = M.nD := congrArg Sd.nD e
  have ek : X.pk = M.pk := congrArg Sd.pk e
  have fn : Y.n = M.n := congrArg Sd.n e2
  have fpn : Y.pn = M.pn := congrArg Sd.pn e2
  exact { pr := hp.ps, wB := hp.wB, rB := rB, xn := by rw [en]; exact o.n, yn := by rw [fn]; exact o.n, pn := by rw [epn]; exact o.pn, yp := by rw [fpn]; exact o.pn, nD := by rw [eD]; exact o.nD, pok := by rw [ep]; exact o.pok, byt := by rw [eL]; exact o.byt, nk := by rw [eD]; exact o.nk, pkr := by rw [ek]; exact o.pkr, xm := hp.xm, ym := ym, gd := o.gd, gr := o.gd, tn := Nat.le_refl _, spk := o.spk, rb := rb, bl := hp.bl }
end
end Go.Proofs.YtlflagjnlclffaaGreat.S13
namespace Go.Proofs.YtlflagjnlclffaaGreat.S13
open Go.Proofs.YtlflagjnlclffaaGreat Go.Proofs.YtlflagjnlclffaaGreat.S11 Go.Proofs.YtlflagjnlclffaaGreat.S12
open Go.RowKit

def sdN (spin : Int) (most : Nat) : Sd := ⟨L02, 0, 0, 0, 0, 0, 0, most, [], fun _ => S4.pk0, 0, 0, 0, S5.S0, S10.M0 0, [], spin⟩
theorem at0_sd {X : Wm} {spin : Int} {most : Nat} (h : At0 X spin most []) : X.sd = sdN spin most := by
  unfold Wm.sd sdN
  rw [h.L, h.n, h.k, h.a, h.was, h.is, h.T, h.most, h.D, h.pf, h.pn, h.pk, h.pp, h.lk, h.tM, h.nD, h.sp]
theorem pg_of {w0 w : World} {base : Nat} {X : Wm} (h : PW w base X) (b : Below base w0 w) : Pg w0 w base X.wB X.sd [] X :=
  ⟨by rw [List.append_nil]; exact h, rfl, rfl, b⟩
section
variable {w0 w w' : World} {base WB : Nat} {M : Sd} {r : List Part} {X : Wm}
theorem Pg.add (h : Pg w0 w base WB M r X) (ob : Obj) : Pg w0 (w.alloc ob) base WB M (r ++ [blockP w.heap.size ob]) X := by
  have hp := h.ps.push (blockP w.heap.size ob) (below1 w ob) (heap_alloc_new w ob) (fun k e => Nat.le_of_eq (show k = w.heap.size from e).symm)
  rw [List.append_assoc] at hp
  exact ⟨hp, h.wB, h.xm, h.bl.alloc h.size _⟩
theorem Pg.lock (h : Pg w0 w base WB M r X) (K : Lk) : Wl w0 (w.alloc (.cells K.cs 130)) base WB M (r ++ [lockP w.heap.size K]) r.length w.heap.size K X := by
  refine ⟨?_, by rw [List.length_append]; simp⟩
  rw [List.set_append_right _ _ (Nat.le_refl _), Nat.sub_self]
  exact Pg.add h _
end
set_option maxRecDepth 100000 in
theorem world_any (sp : Nat) (hsp : sp < 256) (w : World) : Calls Tryz.prog 23 #[.int .u8 (sp : Int)] w fun e w' => ∃ X, e = .returned (Pw X.wB) ∧ PW w' w.heap.size X ∧ At0 X ((sp % 17 : Nat) : Int) 5 [] ∧ Below w.heap.size w w' := by
  have hck : ∀ W, Below w.heap.size w W → Calls Tryz.prog 81 #[.slice none 0 0, .int .u64 ((5 : Nat) : Int)] W (S3.Made W 0 5 []) := fun W _ => S3.new_any (D := []) (b2 := 0) 0 5 (Nat.le_refl _) (by omega) (by omega) S3.Rd.nil (Nat.zero_le _) (fun d hd => by cases hd)
  have hok : okC (((sp % 17 : Nat) : Int)) 0 = true := by simp [okC]; omega
  have hnew : Calls Tryz.prog 31 #[.agg #[.int .i64 ((sp % 17 : Nat) : Int), .int .u64 5, .slice none 0 0]] w fun e w' => NewW w w' ((sp % 17 : Nat) : Int) 5 [] e := new_yes _ 5 0 0 none hok hck
  have e1 : (sp : Int).tmod 17 = ((sp % 17 : Nat) : Int) := by rw [Int.tmod_eq_emod_of_nonneg (by omega)]; omega
  have e1' : (sp : Int) % 17 = ((sp % 17 : Nat) : Int) := by omega
  have e2 : IntKind.u8.wrap ((sp % 17 : Nat) : Int) = ((sp % 17 : Nat) : Int) := by rw [IntKind.wrap_u8]; omega
  have e3 : IntKind.i64.wrap ((sp % 17 : Nat) : Int) = ((sp % 17 : Nat) : Int) := by rw [IntKind.wrap_i64]; omega
  have e4 : wrap64 ((sp % 17 : Nat) : Int) = ((sp % 17 : Nat) : Int) := by unfold wrap64; omega
  have e5 : IntKind.i64.wrap (sp : Int) = (sp : Int) := by rw [IntKind.wrap_i64]; omega
  have HN := Lib.hid hnew
  clear hck hok hnew hsp
  generalize sp % 17 = n at *
  go_enter Tryz.func23, Tryz.ntmps23
  go_wp2_with (go_at_call 31; refine HN.out.mono ?_; rintro e w1 ⟨X, rfl, hp, h0, hb⟩)
  go_ret
  exact ⟨X, rfl, hp, h0, hb⟩
def it (p : Sd × Lk) : Sd × Lk := (stepM p.1 p.2, stepK p.1 p.2)
def itn (p : Sd × Lk) : Nat → Sd × Lk
  | 0 => p
  | n + 1 => it (itn p n)
theorem meth_step (a : Addr) (w : World) : (method 434 45 (.pointer (some a)) "Step").run Tryz.prog w = .ok (14, .pointer (some a)) w := by kernel_rfl
end Go.Proofs.YtlflagjnlclffaaGreat.S13
