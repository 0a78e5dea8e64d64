/- Texts of this seat, one behind the other. -/
import Derived.Test.YtffoobepdofkkaaGreatMLawVoid24
import Derived.Deep.CutBlock
import Derived.Laws.EntriesVeiled
namespace Go.Proofs.YtffoobepdofkkaaGreat.S13
open Go.Proofs.YtffoobepdofkkaaGreat Go.Proofs.YtffoobepdofkkaaGreat.S11 Go.Proofs.YtffoobepdofkkaaGreat.S12
open Go.RowKit

section
variable {w0 w w' : World} {base WB : Nat} {M : Sd} {r : List Part} {j B : Nat} {K : Lk} {X : Wm}
/-- A block more beside them, a block less. -/
theorem Wl.pushB (h : Wl w0 w base WB M r j B K X) (ob : Obj) : Wl w0 (w.alloc ob) base WB M (r ++ [blockP w.heap.size ob]) j B K X := by
  have hp := h.pg.ps.push (blockP w.heap.size ob) (below1 w ob) (heap_alloc_new w ob) (fun k e => Nat.le_of_eq (show k = w.heap.size from e).symm)
  rw [List.append_assoc] at hp
  refine ⟨⟨?_, h.pg.wB, h.pg.xm, h.pg.bl.alloc h.pg.size _⟩, by rw [List.length_append]; have := h.hj; simp; omega⟩
  rw [List.set_append_left _ _ h.hj]
  exact hp
theorem Wl.dropB {q : Part} (h : Wl w0 w base WB M (r ++ [q]) j B K X) (hj : j < r.length) : Wl w0 w base WB M r j B K X := by
  have hp := h.pg.ps
  rw [List.set_append_left _ _ hj, ← List.append_assoc] at hp
  exact ⟨⟨Parts.left hp, h.pg.wB, h.pg.xm, h.pg.bl⟩, hj⟩
theorem Wl.last {Q : Nat} {ob : Obj} (h : Wl w0 w base WB M (r ++ [blockP Q ob]) j B K X) (hj : j < r.length) : w.heap[Q]? = some ob := by
  have hp := h.pg.ps
  rw [List.set_append_left _ _ hj, ← List.append_assoc] at hp
  refine hp.ok (X.parts ++ r.set j (lockP B K)).length (blockP Q ob) ?_
  rw [List.getElem?_append_right (Nat.le_refl _), Nat.sub_self]; rfl
theorem begin_l (h : Wl w0 w base WB M r j B K X) : Calls Tryz.prog 89 #[.pointer (some ⟨B, 2, none⟩), Pw WB] w fun e w' => e = .returned (.tuple #[]) ∧ Wl w0 w' base WB M r j B { K with sp := M.sp } X := by
  have h1 := h.put { K with sp := 0 } (set_blk h.blk 2 (.int .i64 0) _ (by simp [Lk.cs])) ((Turns.refl (fun k => k = B) w).setCell ⟨B, 2, none⟩ _ rfl)
  have h2 := h1.put { K with sp := M.sp } (set_blk h1.blk 2 (.int .i64 M.sp) _ (by simp [Lk.cs])) ((Turns.refl (fun k => k = B) _).setCell ⟨B, 2, none⟩ _ rfl)
  have c2 := h.b2; have z2 := h.fz 2; have d2 := h1.b2; have y2 := h1.fz 2
  have d6 := h1.pg.c.2.2.2
  have H2 := Lib.hid h2
  clear h h1 h2
  go_enter Tryz.func89, Tryz.ntmps89
  go_wp2_with fail
  go_end0
  exact ⟨rfl, H2.out⟩
theorem spin_l (h : Wl w0 w base WB M r j B K X) (hs : K.sp ≤ 9223372036854775807) : Calls Tryz.prog 149 #[.pointer (some ⟨B, 2, none⟩)] w fun e w' => e = .returned (.bool (decide (0 < K.sp))) ∧ Wl w0 w' base WB M r j B { K with sp := if 0 < K.sp then K.sp - 1 else K.sp } X := by
  have c2 := h.b2; have z2 := h.fz 2
  by_cases h0 : 0 < K.sp
  · rw [decide_eq_true h0, if_pos h0]
    have h1 := h.put { K with sp := K.sp - 1 } (set_blk h.blk 2 (.int .i64 (K.sp - 1)) _ (by simp [Lk.cs])) ((Turns.refl (fun k => k = B) w).setCell ⟨B, 2, none⟩ _ rfl)
    have hd : decide (K.sp ≤ 0) = false := by rw [decide_eq_false_iff_not]; omega
    have hw : wrap64 (K.sp - 1) = K.sp - 1 := by unfold wrap64; omega
    have H1 := Lib.hid h1
    clear h h0 hs h1
    generalize K.sp = v at *
    go_enter Tryz.func149, Tryz.ntmps149
    go_wp2_with fail
    go_ret
    exact ⟨rfl, H1.out⟩
  · rw [decide_eq_false h0, if_neg h0]
    have hd : decide (K.sp ≤ 0) = true := by rw [decide_eq_true_iff]; omega
    have H1 := Lib.hid h
    clear h h0 hs
    go_enter Tryz.func149, Tryz.ntmps149
    go_wp2_with fail
    go_ret
    exact ⟨rfl, H1.out⟩
set_option maxRecDepth 100000 in
set_option maxHeartbeats 4000000 in
theorem turn_l (h : Wl w0 w base WB M r j B K X) (h6 : K.ln ≠ 6) (hs : K.sp ≤ 9223372036854775807) {u : Nat} (hu : u < 18446744073709551616) :
    Calls Tryz.prog 135 #[askV K.t K.a, Pw B, .int .u64 (u : Int)] w fun e w' => e = .returned (.tuple #[]) ∧ Wl w0 w' base WB M r j B (K.turn u) X := by
  have hj := h.hj
  have hA := h.pushB (.cells #[.int .i64 (K.t : Int), .int .u32 (K.a : Int)] 115)
  obtain ⟨Q, hQ⟩ : ∃ Q, Q = w.heap.size := ⟨_, rfl⟩
  rw [← hQ] at hA
  have h1 := hA.put { K with st := u } (set_blk hA.blk 1 (.int .u64 (u : Int)) _ (by simp [Lk.cs])) ((Turns.refl (fun k => k = B) _).setCell ⟨B, 1, none⟩ _ rfl)
  have d1 := hA.b1; have y1 := hA.fz 1
  have HAS := Lib.hid (fun W => S1.as_any u hu W)
  have H1 := Lib.hid h1; have HJ := Lib.hid hj; have HQ := Lib.hid hQ
  clear h hA h1 hQ hj
  go_enter Tryz.func135, Tryz.ntmps135
  go_upto_region 1 with (fail)
  rw [← HQ.out]
  go_upto_region 2 with (fail)
  generalize (w.alloc (.cells #[.int .i64 (K.t : Int), .int .u32 (K.a : Int)] 115)).setCell ⟨B, 1, none⟩ (.int .u64 (u : Int)) = w1 at *
  clear d1 y1
  unfold S1.asV at HAS
  have HB := Lib.hid (show S1.bitB u 0 = S1.bitB u 0 from rfl)
  obtain ⟨b0, hb0⟩ : ∃ x, x = S1.bitB u 0 := ⟨_, rfl⟩
  obtain ⟨hd, hhd⟩ : ∃ x, x = S1.headN u := ⟨_, rfl⟩
  rw [← hb0, ← hhd] at HAS
  have HT := Lib.hid (And.intro hb0 hhd)
  clear HB hb0 hhd
  go_upto_block 0 with (go_at_call 147; refine (HAS.out _).mono ?_; rintro e w2 ⟨rfl, hb2⟩)
  have hw3 := heap_alloc_new w2 (.cells #[.bool b0, .bool (S1.bitB u 1), .int .i64 hd] 215)
  have h3 := H1.out.new (hb2.trans ((below1 w2 (.cells #[.bool b0, .bool (S1.bitB u 1), .int .i64 hd] 215)).mono hb2.size))
  generalize w2.alloc (.cells #[.bool b0, .bool (S1.bitB u 1), .int .i64 hd] 215) = w3 at *
  generalize w2.heap.size = Qs at *
  have x0 := cell_row hw3 0; have x2 := cell_row hw3 2
  have hl := h3.last HJ.out
  have k0 := cell_row hl 0; have k1 := cell_row hl 1
  simp only [List.getElem?_toArray, List.getElem?_cons_zero, List.getElem?_cons_succ] at x0 x2 k0 k1
  have c0 := h3.b0; have z0 := h3.fz 0
  have HSP := Lib.hid (spin_l h3 hs)
  have fin : ∀ (W : World) (ln : Nat) (sp : Int) (V : Value), Wl w0 W base WB M (r ++ [blockP Q (.cells #[.int .i64 (K.t : Int), .int .u32 (K.a : Int)] 115)]) j B { K with st := u, sp := sp } X → ln ≠ 6 → nxV K.t K.a ln = V → Wl w0 (W.setCell ⟨B, 0, none⟩ V) base WB M r j B { K with st := u, sp := sp, ln := ln } X := fun W ln sp V hW hl hV =>
    (hW.put { K with st := u, sp := sp, ln := ln } (set_blk hW.blk 0 V _ (by simp [Lk.cs, hV, hl, h6])) ((Turns.refl (fun k => k = B) _).setCell ⟨B, 0, none⟩ _ rfl)).dropB HJ.out
  have HFIN := Lib.hid fin; have H3 := Lib.hid h3
  clear fin h3 hl hw3 hb2 HAS H1
  cases b0 with
  | false =>
    have ht : K.turn u = { K with st := u, ln := 2 } := by unfold Lk.turn; rw [← HT.out.1, if_pos rfl]
    have HTN := Lib.hid ht
    clear ht HT HSP
    go_wp2_with fail
    go_end0
    exact ⟨rfl, by rw [HTN.out]; exact HFIN.out _ 2 K.sp _ H3.out (by decide) rfl⟩
  | true =>
    by_cases hh : hd = -1
    · subst hh
      by_cases hsp : 0 < K.sp
      · have ht : K.turn u = { K with st := u, ln := 3, sp := K.sp - 1 } := by unfold Lk.turn; rw [← HT.out.1, if_neg (by decide), if_pos HT.out.2.symm, if_pos hsp]
        have HTN := Lib.hid ht
        rw [decide_eq_true hsp, if_pos hsp] at HSP
        clear ht HT hsp hs
        go_wp2_with (go_at_call 149; refine HSP.out.mono ?_; rintro e w4 ⟨rfl, h4⟩; (have c0 := h4.b0; have z0 := h4.fz 0; have hl := h4.last HJ.out; have k0 := cell_row hl 0; have k1 := cell_row hl 1; simp only [List.getElem?_toArray, List.getElem?_cons_zero, List.getElem?_cons_succ] at k0 k1; have H4 := Lib.hid h4; clear hl h4))
        go_end0
        exact ⟨rfl, by rw [HTN.out]; exact HFIN.out _ 3 (K.sp - 1) _ H4.out (by decide) rfl⟩
      · have ht : K.turn u = { K with st := u, ln := 4 } := by unfold Lk.turn; rw [← HT.out.1, if_neg (by decide), if_pos HT.out.2.symm, if_neg hsp]
        have HTN := Lib.hid ht
        rw [decide_eq_false hsp, if_neg hsp] at HSP
        clear ht HT hsp hs
        go_wp2_with (go_at_call 149; refine HSP.out.mono ?_; rintro e w4 ⟨rfl, h4⟩; (have c0 := h4.b0; have z0 := h4.fz 0; have hl := h4.last HJ.out; have k0 := cell_row hl 0; have k1 := cell_row hl 1; simp only [List.getElem?_toArray, List.getElem?_cons_zero, List.getElem?_cons_succ] at k0 k1; have H4 := Lib.hid h4; clear hl h4))
        go_end0
        exact ⟨rfl, by rw [HTN.out]; exact HFIN.out _ 4 K.sp _ H4.out (by decide) rfl⟩
    · have ht : K.turn u = { K with st := u, ln := 4 } := by unfold Lk.turn; rw [← HT.out.1, if_neg (by decide), if_neg (fun e => hh (HT.out.2.trans e))]
      have HTN := Lib.hid ht
      have hne : (hd == -1) = false := by rw [beq_eq_false_iff_ne]; exact hh
      clear ht HT hh HSP
      go_wp2_with fail
      go_end0
      exact ⟨rfl, by rw [HTN.out]; exact HFIN.out _ 4 K.sp _ H3.out (by decide) rfl⟩
end
end Go.Proofs.YtffoobepdofkkaaGreat.S13
namespace Go.Proofs.YtffoobepdofkkaaGreat.S13
open Go.Proofs.YtffoobepdofkkaaGreat Go.Proofs.YtffoobepdofkkaaGreat.S11 Go.Proofs.YtffoobepdofkkaaGreat.S12
open Go.RowKit

/-- A lock, and a world, behind a CAS that wants 'was'. -/
def Lk.cas (K : Lk) (x was : Nat) (K' : Lk) : Lk := if x = was then K' else K.turn x
section
variable {w0 w w' : World} {base WB : Nat} {M : Sd} {r : List Part} {j B : Nat} {K : Lk} {X : Wm}
theorem Wl.look (h : Wl w0 w base WB M r j B K X) (a : Nat) : S2.look M.L a < 18446744073709551616 := by
  have := S2.look_lt h.pg.pw.cells.good a
  rwa [show X.L = M.L from congrArg Sd.L h.pg.xm] at this
set_option maxRecDepth 100000 in
set_option maxHeartbeats 4000000 in
theorem swap_l (h : Wl w0 w base WB M r j B K X) (h6 : K.ln ≠ 6) (hs : K.sp ≤ 9223372036854775807) (ha : K.a < 4294967296) (hn : M.n ≤ 1000000000) {was is : Nat} (his : is < 18446744073709551616) :
    Calls Tryz.prog 90 #[askV K.t K.a, Pw B, Pw WB, .int .u64 (was : Int), .int .u64 (is : Int)] w fun e w' => e = .returned (.bool (decide (S2.look M.L K.a = was))) ∧ ∃ X', Wl w0 w' base WB (M.acc 3 K.a (S2.casV (S2.look M.L K.a) was is)) r j B (K.cas (S2.look M.L K.a) was K) X' := by
  have hj := h.hj
  have hA := h.pushB (.cells #[.int .i64 (K.t : Int), .int .u32 (K.a : Int)] 115)
  have k0 := cell_row (heap_alloc_new w (.cells #[.int .i64 (K.t : Int), .int .u32 (K.a : Int)] 115)) 0; have k1 := cell_row (heap_alloc_new w (.cells #[.int .i64 (K.t : Int), .int .u32 (K.a : Int)] 115)) 1
  simp only [List.getElem?_toArray, List.getElem?_cons_zero, List.getElem?_cons_succ] at k0 k1
  obtain ⟨Q, hQ⟩ : ∃ Q, Q = w.heap.size := ⟨_, rfl⟩
  rw [← hQ] at hA k0 k1
  have HA := Lib.hid hA; have HJ := Lib.hid hj; have HQ := Lib.hid hQ
  have q0 := HA.out.pg.c.1
  have HC := Lib.hid ((HA.out.new (Below.refl _ _).drew).pg.cas ha his hn (u := was))
  obtain ⟨x, hx⟩ : ∃ x, x = S2.look M.L K.a := ⟨_, rfl⟩
  have hxl : x < 18446744073709551616 := by rw [hx]; exact HA.out.look K.a
  rw [← hx] at HC ⊢
  have HX := Lib.hid hxl
  clear hx hxl his
  clear h hj hQ
  go_enter Tryz.func90, Tryz.ntmps90
  go_upto_region 1 with (fail)
  rw [← HQ.out]
  generalize w.alloc (.cells #[.int .i64 (K.t : Int), .int .u32 (K.a : Int)] 115) = w1 at *
  refine wp_region_held_drew (S := fun w' => w'.cell? ⟨WB, 0, none⟩ = some (Pw X.cB) ∧ w'.cell? ⟨Q, 1, none⟩ = some (.int .u32 (K.a : Int))) (by kernel_rfl) ?_ (fun hHeld => ?_)
  · exact ⟨q0, k1⟩
  refine wpAnyH_take (i := 0) (oi := ({ dst := some 14, op := Op.move (Operand.tmp 2), type := 33, pos := "wordlocks.go:108", after := #[], guard := none } : Oper)) (v := ?vsm1) rfl (by kernel_rfl) (by kernel_rfl) (by kernel_rfl) (fun _ _ _ h => h) (Or.inl ⟨by rfl, fun w hSw => ?hysm1⟩) (by assumption) ?rsm1
  case hysm1 => (try dsimp only at hSw); go_simp; (try with_reducible rfl)
  (try simp only [Act.put, List.setIfInBounds_toArray, List.set_cons_zero, List.set_cons_succ])
  refine wpAnyH_take (i := 1) (oi := ({ dst := some 15, op := Op.nilCheck (Operand.tmp 14), type := 0, pos := "wordlocks.go:108", after := #[{ on := 0, ground := Ground.data }], guard := none } : Oper)) (v := ?vsm2) rfl (by kernel_rfl) (by kernel_rfl) (by kernel_rfl) (fun _ _ _ h => h) (Or.inl ⟨by rfl, fun w hSw => ?hysm2⟩) (by assumption) ?rsm2
  case hysm2 => (try dsimp only at hSw); go_simp; (try with_reducible rfl)
  (try simp only [Act.put, List.setIfInBounds_toArray, List.set_cons_zero, List.set_cons_succ])
  refine wpAnyH_take (i := 2) (oi := ({ dst := some 16, op := Op.fieldAddr 74 (Operand.tmp 15) 0, type := 0, pos := "wordlocks.go:108", after := #[{ on := 1, ground := Ground.data }], guard := none } : Oper)) (v := ?vsm3) rfl (by kernel_rfl) (by kernel_rfl) (by kernel_rfl) (fun _ _ _ h => h) (Or.inl ⟨by rfl, fun w hSw => ?hysm3⟩) (by assumption) ?rsm3
  case hysm3 => (try dsimp only at hSw); go_simp; (try with_reducible rfl)
  (try simp only [Act.put, List.setIfInBounds_toArray, List.set_cons_zero, List.set_cons_succ])
  refine wpAnyH_take (i := 3) (oi := ({ dst := some 17, op := Op.load 66 (Operand.tmp 16), type := 66, pos := "wordlocks.go:108", after := #[{ on := 2, ground := Ground.data }], guard := none } : Oper)) (v := ?vsm4) rfl (by kernel_rfl) (by kernel_rfl) (by kernel_rfl) (fun _ _ _ h => h) (Or.inl ⟨by rfl, fun w hSw => ?hysm4⟩) (by assumption) ?rsm4
  case hysm4 => (try dsimp only at hSw); go_simp; (try with_reducible rfl)
  (try simp only [Act.put, List.setIfInBounds_toArray, List.set_cons_zero, List.set_cons_succ])
  refine wpAnyH_take (i := 4) (oi := ({ dst := some 18, op := Op.fieldAddr 115 (Operand.tmp 5) 1, type := 0, pos := "wordlocks.go:108", after := #[], guard := none } : Oper)) (v := ?vsm5) rfl (by kernel_rfl) (by kernel_rfl) (by kernel_rfl) (fun _ _ _ h => h) (Or.inl ⟨by rfl, fun w hSw => ?hysm5⟩) (by assumption) ?rsm5
  case hysm5 => (try dsimp only at hSw); go_simp; (try with_reducible rfl)
  (try simp only [Act.put, List.setIfInBounds_toArray, List.set_cons_zero, List.set_cons_succ])
  refine wpAnyH_take (i := 5) (oi := ({ dst := some 19, op := Op.load 40 (Operand.tmp 18), type := 40, pos := "wordlocks.go:108", after := #[{ on := 4, ground := Ground.data }], guard := none } : Oper)) (v := ?vsm6) rfl (by kernel_rfl) (by kernel_rfl) (by kernel_rfl) (fun _ _ _ h => h) (Or.inl ⟨by rfl, fun w hSw => ?hysm6⟩) (by assumption) ?rsm6
  case hysm6 => (try dsimp only at hSw); go_simp; (try with_reducible rfl)
  (try simp only [Act.put, List.setIfInBounds_toArray, List.set_cons_zero, List.set_cons_succ])
  refine wpAnyH_take (i := 6) (oi := ({ dst := some 20, op := Op.move (Operand.tmp 3), type := 22, pos := "wordlocks.go:108", after := #[], guard := none } : Oper)) (v := ?vsm7) rfl (by kernel_rfl) (by kernel_rfl) (by kernel_rfl) (fun _ _ _ h => h) (Or.inl ⟨by rfl, fun w hSw => ?hysm7⟩) (by assumption) ?rsm7
  case hysm7 => (try dsimp only at hSw); go_simp; (try with_reducible rfl)
  (try simp only [Act.put, List.setIfInBounds_toArray, List.set_cons_zero, List.set_cons_succ])
  refine wpAnyH_take (i := 7) (oi := ({ dst := some 21, op := Op.move (Operand.tmp 4), type := 22, pos := "wordlocks.go:108", after := #[], guard := none } : Oper)) (v := ?vsm8) rfl (by kernel_rfl) (by kernel_rfl) (by kernel_rfl) (fun _ _ _ h => h) (Or.inl ⟨by rfl, fun w hSw => ?hysm8⟩) (by assumption) ?rsm8
  case hysm8 => (try dsimp only at hSw); go_simp; (try with_reducible rfl)
  (try simp only [Act.put, List.setIfInBounds_toArray, List.set_cons_zero, List.set_cons_succ])
  refine wpAnyH_ready (rs := [8]) (by kernel_rfl) (by simp) ?_
  refine AllReadyH.cons (o := ({ dst := some 22, op := Op.call { callee := Callee.value (Operand.func 134), args := #[Operand.tmp 17, Operand.tmp 19, Operand.tmp 20, Operand.tmp 21], argTypes := #[66, 40, 22, 22] }, type := 120, pos := "wordlocks.go:108", after := #[{ on := 3, ground := Ground.data }, { on := 5, ground := Ground.data }, { on := 6, ground := Ground.data }, { on := 7, ground := Ground.data }], guard := none } : Oper)) rfl (fun Kq hKq => ?_) AllReadyH.nil
  go_simp
  (refine HC.out.mono ?_; rintro e w3 ⟨rfl, X3, h3g, hcB⟩; have h3 : Wl w0 w3 base WB (M.acc 3 K.a (S2.casV x was is)) (r ++ [blockP Q (.cells #[.int .i64 (K.t : Int), .int .u32 (K.a : Int)] 115)]) j B K X3 := ⟨h3g, HA.out.hj⟩; have q3 := h3.pg.c.1; rw [hcB] at q3; have hl := h3.last HJ.out; have k1' := cell_row hl 1; simp only [List.getElem?_toArray, List.getElem?_cons_zero, List.getElem?_cons_succ] at k1')
  refine hKq.out _ _ ?_ (fun hHeld => ?_)
  · exact ⟨q3, k1'⟩
  clear hKq Kq
  (try simp only [Act.put, List.setIfInBounds_toArray, List.set_cons_zero, List.set_cons_succ])
  refine wpAnyH_take (i := 9) (oi := ({ dst := some 13, op := Op.move (Operand.tmp 22), type := 120, pos := "wordlocks.go:108", after := #[{ on := 8, ground := Ground.data }], guard := none } : Oper)) (v := ?vsm9) rfl (by kernel_rfl) (by kernel_rfl) (by kernel_rfl) (fun _ _ _ h => h) (Or.inl ⟨by rfl, fun w hSw => ?hysm9⟩) (by assumption) ?rsm9
  case hysm9 => (try dsimp only at hSw); go_simp; (try with_reducible rfl)
  (try simp only [Act.put, List.setIfInBounds_toArray, List.set_cons_zero, List.set_cons_succ])
  refine wpAnyH_take (i := 10) (oi := ({ dst := some 23, op := Op.extract (Operand.tmp 13) 0, type := 22, pos := "wordlocks.go:108", after := #[{ on := 9, ground := Ground.data }], guard := none } : Oper)) (v := ?vsm10) rfl (by kernel_rfl) (by kernel_rfl) (by kernel_rfl) (fun _ _ _ h => h) (Or.inl ⟨by rfl, fun w hSw => ?hysm10⟩) (by assumption) ?rsm10
  case hysm10 => (try dsimp only at hSw); go_simp; (try with_reducible rfl)
  (try simp only [Act.put, List.setIfInBounds_toArray, List.set_cons_zero, List.set_cons_succ])
  refine wpAnyH_take (i := 11) (oi := ({ dst := some 24, op := Op.extract (Operand.tmp 13) 1, type := 4, pos := "wordlocks.go:108", after := #[{ on := 9, ground := Ground.data }, { on := 12, ground := Ground.gcOnly Departure.lateStores }], guard := none } : Oper)) (v := ?vsm11) rfl (by kernel_rfl) (by kernel_rfl) (by kernel_rfl) (fun _ _ _ h => h) (Or.inl ⟨by rfl, fun w hSw => ?hysm11⟩) (by assumption) ?rsm11
  case hysm11 => (try dsimp only at hSw); go_simp; (try with_reducible rfl)
  (try simp only [Act.put, List.setIfInBounds_toArray, List.set_cons_zero, List.set_cons_succ])
  refine wpAnyH_take (i := 12) (oi := ({ dst := some 11, op := Op.assign (Operand.tmp 23), type := 22, pos := "wordlocks.go:108", after := #[{ on := 10, ground := Ground.data }, { on := 8, ground := Ground.chain }, { on := 0, ground := Ground.phase }, { on := 1, ground := Ground.phase }, { on := 2, ground := Ground.phase }, { on := 3, ground := Ground.phase }, { on := 4, ground := Ground.phase }, { on := 5, ground := Ground.phase }, { on := 6, ground := Ground.phase }, { on := 7, ground := Ground.phase }, { on := 8, ground := Ground.phase }, { on := 9, ground := Ground.phase }, { on := 10, ground := Ground.phase }, { on := 11, ground := Ground.textOnly Departure.lateStores }], guard := none } : Oper)) (v := ?vsm12) rfl (by kernel_rfl) (by kernel_rfl) (by kernel_rfl) (fun _ _ _ h => h) (Or.inl ⟨by rfl, fun w hSw => ?hysm12⟩) (by assumption) ?rsm12
  case hysm12 => (try dsimp only at hSw); go_simp; (try with_reducible rfl)
  (try simp only [Act.put, List.setIfInBounds_toArray, List.set_cons_zero, List.set_cons_succ])
  refine wpAnyH_take (i := 13) (oi := ({ dst := some 12, op := Op.assign (Operand.tmp 24), type := 4, pos := "wordlocks.go:108", after := #[{ on := 11, ground := Ground.data }, { on := 12, ground := Ground.chain }, { on := 0, ground := Ground.phase }, { on := 1, ground := Ground.phase }, { on := 2, ground := Ground.phase }, { on := 3, ground := Ground.phase }, { on := 4, ground := Ground.phase }, { on := 5, ground := Ground.phase }, { on := 6, ground := Ground.phase }, { on := 7, ground := Ground.phase }, { on := 8, ground := Ground.phase }, { on := 9, ground := Ground.phase }, { on := 10, ground := Ground.phase }, { on := 11, ground := Ground.phase }, { on := 12, ground := Ground.phase }], guard := none } : Oper)) (v := ?vsm13) rfl (by kernel_rfl) (by kernel_rfl) (by kernel_rfl) (fun _ _ _ h => h) (Or.inl ⟨by rfl, fun w hSw => ?hysm13⟩) (by assumption) ?rsm13
  case hysm13 => (try dsimp only at hSw); go_simp; (try with_reducible rfl)
  (try simp only [Act.put, List.setIfInBounds_toArray, List.set_cons_zero, List.set_cons_succ])
  refine wpAnyH_done (by kernel_rfl) ?_ _
  have HTN := Lib.hid (turn_l h3 h6 hs HX.out)
  have H3 := Lib.hid h3
  clear hHeld h3 h3g HC q0 hA k0 k1
  have hl := H3.out.last HJ.out; have k0 := cell_row hl 0; have k1 := cell_row hl 1; simp only [List.getElem?_toArray, List.getElem?_cons_zero, List.getElem?_cons_succ] at k0 k1
  clear hl
  by_cases e : x = was
  · have hd : decide (x = was) = true := decide_eq_true e
    have hk : K.cas x was K = K := if_pos e
    rw [hd]
    have HK := Lib.hid hk
    clear hk hd HTN
    go_wp2_with fail
    go_ret
    exact ⟨by rw [decide_eq_true e]; rfl, X3, by rw [HK.out]; exact H3.out.dropB HJ.out⟩
  · have hd : decide (x = was) = false := decide_eq_false e
    have hk : K.cas x was K = K.turn x := if_neg e
    rw [hd]
    have HK := Lib.hid hk
    clear hk hd
    go_wp2_with (go_at_call 135; refine HTN.out.mono ?_; rintro e w4 ⟨rfl, h4⟩; (have H4 := Lib.hid h4; clear h4))
    go_ret
    exact ⟨by rw [decide_eq_false e]; rfl, X3, by rw [HK.out]; exact H4.out.dropB HJ.out⟩
theorem Wl.next (h : Wl w0 w base WB M r j B K X) (h6 : K.ln ≠ 6) (ln : Nat) (hl : ln ≠ 6) (V : Value) (hV : nxV K.t K.a ln = V) : Wl w0 (w.setCell ⟨B, 0, none⟩ V) base WB M r j B { K with ln := ln } X :=
  h.put { K with ln := ln } (set_blk h.blk 0 V _ (by simp [Lk.cs, hV, hl, h6])) ((Turns.refl (fun k => k = B) _).setCell ⟨B, 0, none⟩ _ rfl)
theorem Wl.next2 (h : Wl w0 w base WB M r j B K X) (ln : Nat) (V : Value) (hV : nxV K.t K.a ln = V) (b : Bool) (hb : decide (ln = 6) = b) : Wl w0 ((w.setCell ⟨B, 0, none⟩ V).setCell ⟨B, 3, none⟩ (.bool b)) base WB M r j B { K with ln := ln } X :=
  h.put { K with ln := ln } (set_blk (set_blk h.blk 0 V _ rfl) 3 (.bool b) _ (by simp [Lk.cs, hV, ← hb])) (((Turns.refl (fun k => k = B) _).setCell ⟨B, 0, none⟩ _ rfl).setCell ⟨B, 3, none⟩ _ rfl)
end
/-- Of what is found as the head: a thread, or none. -/
def hdO (u : Nat) : Option Nat := if 1 ≤ u / 4 ∧ u / 4 ≤ 64 then some (u / 4 - 1) else none
theorem num_head (u : Nat) : S5.Num (S1.headN u) (hdO u) := by
  unfold S1.headN hdO
  by_cases h : 1 ≤ u / 4 ∧ u / 4 ≤ 64
  · rw [if_pos h, if_pos h]
    refine ⟨?_, ?_⟩ <;> omega
  · rw [if_neg h, if_neg h]
    exact S5.nm1
/-- A step: what the world is behind it, what the lock. -/
def stepM (M : Sd) (K : Lk) : Sd :=
  match K.ln with
  | 1 => M.acc 3 K.a (S2.casV (S2.look M.L K.a) 0 1)
  | 2 => M.acc 3 K.a (S2.casV (S2.look M.L K.a) K.st (S1.putU true (S1.bitB K.st 1) (S1.headN K.st)))
  | 3 => M.acc 1 K.a (S2.look M.L K.a)
  | 4 => (M.prep (2 * K.t + 1)).link (S5.pushS M.lk (some K.t) (hdO K.st))
  | 5 => M.acc 3 K.a (S2.casV (S2.look M.L K.a) K.st (S1.putU (S1.bitB K.st 0) (S1.bitB K.st 1) K.t))
  | 6 => M.park (2 * K.t + 1)
  | _ => M
def stepK (M : Sd) (K : Lk) : Lk :=
  match K.ln with
  | 1 => ({ K with sp := M.sp } : Lk).cas (S2.look M.L K.a) 0 { K with sp := M.sp, ln := 0 }
  | 2 => K.cas (S2.look M.L K.a) K.st { K with ln := 0 }
  | 3 => K.turn (S2.look M.L K.a)
  | 4 => { K with ln := 5 }
  | 5 => K.cas (S2.look M.L K.a) K.st { K with ln := 6 }
  | 6 => if (M.pf (2 * K.t + 1)).p then { K with ln := 3, sp := M.sp } else K
  | _ => K
/-- What a step leaves. -/
def Stepped (w0 w' : World) (base WB : Nat) (M : Sd) (r : List Part) (j B : Nat) (K : Lk) : Prop := ∃ X', Wl w0 w' base WB (stepM M K) r j B (stepK M K) X'
/-- What holds of a lock and its world. -/
structure LkOk (M : Sd) (K : Lk) : Prop where
  t : K.t < 64
  a : K.a < 4294967296
  st : K.st < 18446744073709551616
  sp : 0 ≤ K.sp ∧ K.sp ≤ 16
  ms : 0 ≤ M.sp ∧ M.sp ≤ 16
  n : M.n ≤ 1000000000
  pn : M.pn ≤ 1000000000
section
variable {w0 w w' : World} {base WB : Nat} {M : Sd} {r : List Part} {j B : Nat} {K : Lk} {X : Wm}
set_option maxRecDepth 100000 in
set_option maxHeartbeats 4000000 in
theorem first_l (h : Wl w0 w base WB M r j B K X) (ok : LkOk M K) (hl : K.ln = 1) : Calls Tryz.prog 35 #[askV K.t K.a, Pw B, Pw WB] w fun e w' => e = .returned (.tuple #[]) ∧ Stepped w0 w' base WB M r j B K := by
  have hM : stepM M K = M.acc 3 K.a (S2.casV (S2.look M.L K.a) 0 1) := by simp only [stepM, hl]
  have hK : stepK M K = ({ K with sp := M.sp } : Lk).cas (S2.look M.L K.a) 0 { K with sp := M.sp, ln := 0 } := by simp only [stepK, hl]
  unfold Stepped
  rw [hM, hK]
  have HPT : Hid (∀ W, Calls Tryz.prog 91 #[.agg #[.bool true, .bool false, .int .i64 (-1)]] W fun e w' => e = .returned (.int .u64 1) ∧ Below W.heap.size W w') := Lib.hid (fun W => by
    have := S1.putU_any true false (-1) (by unfold S1.isHead; omega) W
    rwa [S1.putU_one] at this)
  have hj := h.hj
  have hA := h.pushB (.cells #[.int .i64 (K.t : Int), .int .u32 (K.a : Int)] 115)
  have k0 := cell_row (heap_alloc_new w (.cells #[.int .i64 (K.t : Int), .int .u32 (K.a : Int)] 115)) 0; have k1 := cell_row (heap_alloc_new w (.cells #[.int .i64 (K.t : Int), .int .u32 (K.a : Int)] 115)) 1
  simp only [List.getElem?_toArray, List.getElem?_cons_zero, List.getElem?_cons_succ] at k0 k1
  obtain ⟨Q, hQ⟩ : ∃ Q, Q = w.heap.size := ⟨_, rfl⟩
  rw [← hQ] at hA k0 k1
  have HA := Lib.hid hA; have HJ := Lib.hid hj; have HQ := Lib.hid hQ
  have HBG := Lib.hid (begin_l hA)
  obtain ⟨x, hx⟩ : ∃ x, x = S2.look M.L K.a := ⟨_, rfl⟩
  have hsw : ∀ W, Wl w0 W base WB M (r ++ [blockP Q (.cells #[.int .i64 (K.t : Int), .int .u32 (K.a : Int)] 115)]) j B { K with sp := M.sp } X → Calls Tryz.prog 90 #[askV K.t K.a, Pw B, Pw WB, .int .u64 0, .int .u64 1] W fun e w' => e = .returned (.bool (decide (x = 0))) ∧ ∃ X', Wl w0 w' base WB (M.acc 3 K.a (S2.casV x 0 1)) (r ++ [blockP Q (.cells #[.int .i64 (K.t : Int), .int .u32 (K.a : Int)] 115)]) j B (({ K with sp := M.sp } : Lk).cas x 0 { K with sp := M.sp }) X' := fun W hW => by
    rw [hx]
    exact swap_l hW (by show K.ln ≠ 6; omega) (by show M.sp ≤ _; have := ok.ms; omega) ok.a ok.n (was := 0) (is := 1) (by omega)
  rw [← hx]
  have HSWW := Lib.hid hsw
  have H6 : Hid (K.ln ≠ 6) := Lib.hid (by omega)
  clear hsw hx ok hl hM hK
  clear h hj hQ
  go_enter Tryz.func35, Tryz.ntmps35
  go_upto_region 1 with (fail)
  rw [← HQ.out]
  generalize w.alloc (.cells #[.int .i64 (K.t : Int), .int .u32 (K.a : Int)] 115) = w1 at *
  go_upto_region 2 with (go_at_call 89; refine HBG.out.mono ?_; rintro e w3 ⟨rfl, h3⟩)
  have hl := h3.last HJ.out; have k0 := cell_row hl 0; have k1 := cell_row hl 1; simp only [List.getElem?_toArray, List.getElem?_cons_zero, List.getElem?_cons_succ] at k0 k1
  have H3 := Lib.hid h3
  clear hl h3 HBG hA
  refine wp_region_held_drew (S := fun w' => w'.cell? ⟨Q, 0, none⟩ = some (.int .i64 (K.t : Int)) ∧ w'.cell? ⟨Q, 1, none⟩ = some (.int .u32 (K.a : Int))) (by kernel_rfl) ?_ (fun hHeld => ?_)
  · exact ⟨k0, k1⟩
  refine wpAnyH_take (i := 0) (oi := ({ dst := some 11, op := Op.load 115 (Operand.tmp 3), type := 115, pos := "wordlocks.go:62", after := #[], guard := none } : Oper)) (v := ?vfm1) rfl (by kernel_rfl) (by kernel_rfl) (by kernel_rfl) (fun _ _ _ h => h) (Or.inl ⟨by rfl, fun w hSw => ?hyfm1⟩) (by assumption) ?rfm1
  case hyfm1 => (try dsimp only at hSw); go_simp; (try with_reducible rfl)
  (try simp only [Act.put, List.setIfInBounds_toArray, List.set_cons_zero, List.set_cons_succ])
  refine wpAnyH_take (i := 1) (oi := ({ dst := some 12, op := Op.move (Operand.tmp 1), type := 45, pos := "wordlocks.go:62", after := #[], guard := none } : Oper)) (v := ?vfm2) rfl (by kernel_rfl) (by kernel_rfl) (by kernel_rfl) (fun _ _ _ h => h) (Or.inl ⟨by rfl, fun w hSw => ?hyfm2⟩) (by assumption) ?rfm2
  case hyfm2 => (try dsimp only at hSw); go_simp; (try with_reducible rfl)
  (try simp only [Act.put, List.setIfInBounds_toArray, List.set_cons_zero, List.set_cons_succ])
  refine wpAnyH_take (i := 2) (oi := ({ dst := some 13, op := Op.move (Operand.tmp 2), type := 33, pos := "wordlocks.go:62", after := #[], guard := none } : Oper)) (v := ?vfm3) rfl (by kernel_rfl) (by kernel_rfl) (by kernel_rfl) (fun _ _ _ h => h) (Or.inl ⟨by rfl, fun w hSw => ?hyfm3⟩) (by assumption) ?rfm3
  case hyfm3 => (try dsimp only at hSw); go_simp; (try with_reducible rfl)
  (try simp only [Act.put, List.setIfInBounds_toArray, List.set_cons_zero, List.set_cons_succ])
  refine wpAnyH_take (i := 3) (oi := ({ dst := some 14, op := Op.build 215 #[(0, Operand.const (Value.bool true)), (2, Operand.const (Value.int IntKind.i64 (-1)))], type := 215, pos := "wordlocks.go:62", after := #[], guard := none } : Oper)) (v := ?vfm4) rfl (by kernel_rfl) (by kernel_rfl) (by kernel_rfl) (fun _ _ _ h => h) (Or.inl ⟨by rfl, fun w hSw => ?hyfm4⟩) (by assumption) ?rfm4
  case hyfm4 => (try dsimp only at hSw); go_simp; (try with_reducible rfl)
  (try simp only [Act.put, List.setIfInBounds_toArray, List.set_cons_zero, List.set_cons_succ])
  refine wpAnyH_ready (rs := [4]) (by kernel_rfl) (by simp) ?_
  refine AllReadyH.cons (o := ({ dst := some 15, op := Op.call { callee := Callee.value (Operand.func 91), args := #[Operand.tmp 14], argTypes := #[215] }, type := 22, pos := "wordlocks.go:62", after := #[{ on := 3, ground := Ground.data }], guard := none } : Oper)) rfl (fun Kq hKq => ?_) AllReadyH.nil
  go_simp
  (refine (HPT.out _).mono ?_; rintro e w4 ⟨rfl, hb4⟩; (have HSW := Lib.hid (HSWW.out w4 ((H3.out.new (Below.refl _ _).drew).new hb4))))
  refine hKq.out _ _ ?_ (fun hHeld => ?_)
  · exact ⟨bcell hb4 hHeld.1, bcell hb4 hHeld.2⟩
  clear hKq Kq
  (try simp only [Act.put, List.setIfInBounds_toArray, List.set_cons_zero, List.set_cons_succ])
  refine wpAnyH_ready (rs := [5]) (by kernel_rfl) (by simp) ?_
  refine AllReadyH.cons (o := ({ dst := some 16, op := Op.call { callee := Callee.value (Operand.func 90), args := #[Operand.tmp 11, Operand.tmp 12, Operand.tmp 13, Operand.const (Value.int IntKind.u64 0), Operand.tmp 15], argTypes := #[115, 45, 33, 22, 22] }, type := 4, pos := "wordlocks.go:62", after := #[{ on := 0, ground := Ground.data }, { on := 1, ground := Ground.data }, { on := 2, ground := Ground.data }, { on := 4, ground := Ground.data }, { on := 4, ground := Ground.chain }], guard := none } : Oper)) rfl (fun Kq hKq => ?_) AllReadyH.nil
  go_simp
  (refine HSW.out.mono ?_; rintro e w5 ⟨rfl, X5, h5⟩)
  refine hKq.out _ _ ?_ (fun hHeld => ?_)
  · (have hl := h5.last HJ.out; exact ⟨cell_row hl 0, cell_row hl 1⟩)
  clear hKq Kq
  (try simp only [Act.put, List.setIfInBounds_toArray, List.set_cons_zero, List.set_cons_succ])
  refine wpAnyH_done (by kernel_rfl) ?_ _
  clear hHeld k0 k1
  go_upto_if 16 with fail
  by_cases e : x = 0
  · rw [decide_eq_true e]
    have hk : ({ K with sp := M.sp } : Lk).cas x 0 { K with sp := M.sp, ln := 0 } = { K with sp := M.sp, ln := 0 } := if_pos e
    have hk2 : ({ K with sp := M.sp } : Lk).cas x 0 { K with sp := M.sp } = { K with sp := M.sp } := if_pos e
    rw [hk2] at h5
    have c0 := h5.b0; have z0 := h5.fz 0
    have HK := Lib.hid hk; have H5 := Lib.hid h5
    clear hk hk2 e h5 HSW HSWW
    go_wp2_with fail
    go_end0
    exact ⟨rfl, X5, by rw [HK.out]; exact (H5.out.next H6.out 0 (by decide) .nilFunc rfl).dropB HJ.out⟩
  · rw [decide_eq_false e]
    have hk : ({ K with sp := M.sp } : Lk).cas x 0 { K with sp := M.sp, ln := 0 } = ({ K with sp := M.sp } : Lk).cas x 0 { K with sp := M.sp } := (if_neg e).trans (if_neg e).symm
    have HK := Lib.hid hk; have H5 := Lib.hid h5
    clear hk e h5 HSW HSWW
    go_wp2_with fail
    go_end0
    exact ⟨rfl, X5, by rw [HK.out]; exact H5.out.dropB HJ.out⟩
end
end Go.Proofs.YtffoobepdofkkaaGreat.S13
namespace Go.Proofs.YtffoobepdofkkaaGreat.S13
open Go.Proofs.YtffoobepdofkkaaGreat Go.Proofs.YtffoobepdofkkaaGreat.S11 Go.Proofs.YtffoobepdofkkaaGreat.S12
open Go.RowKit

section
variable {w0 w w' : World} {base WB : Nat} {M : Sd} {r : List Part} {j B : Nat} {K : Lk} {X : Wm}
theorem Wl.turnLast {Q : Nat} {ob : Obj} (h : Wl w0 w base WB M (r ++ [blockP Q ob]) j B K X) (hj : j < r.length) (ob' : Obj) (hq : w'.heap[Q]? = some ob') (t : Turns (fun k => k = Q) w w') : Wl w0 w' base WB M (r ++ [blockP Q ob']) j B K X := by
  have e : ∀ q : Part, (r ++ [q]).set j (lockP B K) = r.set j (lockP B K) ++ [q] := fun q => List.set_append_left _ _ hj
  have hi : ((r ++ [blockP Q ob]).set j (lockP B K))[r.length]? = some (blockP Q ob) := by
    rw [e, List.getElem?_append_right (by rw [List.length_set]; exact Nat.le_refl _), List.length_set, Nat.sub_self]; rfl
  have := h.pg.turn hi (blockP Q ob') hq t (fun k e => .inl e)
  rw [e, List.set_append_right _ _ (by rw [List.length_set]; exact Nat.le_refl _), List.length_set, Nat.sub_self] at this
  refine ⟨?_, by rw [List.length_append]; simp; omega⟩
  rw [e]
  exact this
set_option maxRecDepth 100000 in
set_option maxHeartbeats 4000000 in
theorem take_l (h : Wl w0 w base WB M r j B K X) (ok : LkOk M K) (hl : K.ln = 2) : Calls Tryz.prog 148 #[askV K.t K.a, Pw B, Pw WB] w fun e w' => e = .returned (.tuple #[]) ∧ Stepped w0 w' base WB M r j B K := by
  unfold Stepped
  rw [show stepM M K = _ from by simp only [stepM, hl]; rfl, show stepK M K = _ from by simp only [stepK, hl]; rfl]
  have hj := h.hj
  have hA := h.pushB (.cells #[.int .i64 (K.t : Int), .int .u32 (K.a : Int)] 115)
  have k0 := cell_row (heap_alloc_new w (.cells #[.int .i64 (K.t : Int), .int .u32 (K.a : Int)] 115)) 0; have k1 := cell_row (heap_alloc_new w (.cells #[.int .i64 (K.t : Int), .int .u32 (K.a : Int)] 115)) 1
  simp only [List.getElem?_toArray, List.getElem?_cons_zero, List.getElem?_cons_succ] at k0 k1
  obtain ⟨Q, hQ⟩ : ∃ Q, Q = w.heap.size := ⟨_, rfl⟩
  rw [← hQ] at hA k0 k1
  have HA := Lib.hid hA; have HJ := Lib.hid hj; have HQ := Lib.hid hQ
  obtain ⟨b0, hb0⟩ : ∃ x, x = S1.bitB K.st 0 := ⟨_, rfl⟩
  obtain ⟨b1, hb1⟩ : ∃ x, x = S1.bitB K.st 1 := ⟨_, rfl⟩
  obtain ⟨hd, hhd⟩ : ∃ x, x = S1.headN K.st := ⟨_, rfl⟩
  have HAS : Hid (∀ W, Calls Tryz.prog 147 #[.int .u64 (K.st : Int)] W fun e w' => e = .returned (.agg #[.bool b0, .bool b1, .int .i64 hd]) ∧ Below W.heap.size W w') := Lib.hid (fun W => by
    have := S1.as_any K.st ok.st W
    unfold S1.asV at this
    rw [← hb0, ← hb1, ← hhd] at this
    exact this)
  obtain ⟨x, hx⟩ : ∃ x, x = S2.look M.L K.a := ⟨_, rfl⟩
  obtain ⟨v, hv⟩ : ∃ x, x = S1.putU true (S1.bitB K.st 1) (S1.headN K.st) := ⟨_, rfl⟩
  have hvl : v < 18446744073709551616 := by rw [hv]; exact S1.putU_lt _ _ _
  have hsw : ∀ W r', Wl w0 W base WB M r' j B K X → Calls Tryz.prog 90 #[askV K.t K.a, Pw B, Pw WB, .int .u64 (K.st : Int), .int .u64 (v : Int)] W fun e w' => e = .returned (.bool (decide (x = K.st))) ∧ ∃ X', Wl w0 w' base WB (M.acc 3 K.a (S2.casV x K.st v)) r' j B (K.cas x K.st K) X' := fun W r' hW => by
    rw [hx]
    exact swap_l hW (by omega) (by have := ok.sp; omega) ok.a ok.n hvl
  have HPT : Hid (∀ W, Calls Tryz.prog 91 #[.agg #[Value.bool true, Value.bool b1, Value.int .i64 hd]] W fun e w' => e = .returned (.int .u64 (v : Int)) ∧ Below W.heap.size W w') := Lib.hid (fun W => by
    have := S1.putU_any true b1 hd (by rw [hhd]; exact S1.head_is _) W
    rw [hb1, hhd, ← hv] at this
    rw [hb1, hhd]
    exact this)
  rw [← hv, ← hx]
  have HSWW := Lib.hid hsw
  have H6 : Hid (K.ln ≠ 6) := Lib.hid (by omega)
  clear hsw hx hv hvl ok hl hb0 hb1 hhd
  clear h hj hQ
  go_enter Tryz.func148, Tryz.ntmps148
  go_upto_region 1 with (fail)
  rw [← HQ.out]
  generalize w.alloc (.cells #[.int .i64 (K.t : Int), .int .u32 (K.a : Int)] 115) = w1 at *
  have c1 := HA.out.b1
  clear hA
  go_upto_region 2 with (go_at_call 147; refine (HAS.out _).mono ?_; rintro e w2 ⟨rfl, hb2⟩)
  have h3a := (HA.out.new hb2).pushB (.cells #[Value.bool b0, Value.bool b1, Value.int .i64 hd] 215)
  have HJ2 : Hid (j < (r ++ [blockP Q (.cells #[.int .i64 (K.t : Int), .int .u32 (K.a : Int)] 115)]).length) := Lib.hid (by rw [List.length_append]; have := HJ.out; omega)
  have hn := heap_alloc_new w2 (.cells #[Value.bool b0, Value.bool b1, Value.int .i64 hd] 215)
  have s0 := cell_row hn 0; have s1 := cell_row hn 1; have s2 := cell_row hn 2
  have f0 := froz_row hn 0
  have k0 := bcell (hb2.trans ((below1 w2 (.cells #[Value.bool b0, Value.bool b1, Value.int .i64 hd] 215)).mono hb2.size)) k0; have k1 := bcell (hb2.trans ((below1 w2 (.cells #[Value.bool b0, Value.bool b1, Value.int .i64 hd] 215)).mono hb2.size)) k1
  simp only [List.getElem?_toArray, List.getElem?_cons_zero, List.getElem?_cons_succ] at s0 s1 s2
  obtain ⟨Qs, hQs⟩ : ∃ x, x = w2.heap.size := ⟨_, rfl⟩
  rw [← hQs] at h3a hn s0 s1 s2 f0 ⊢
  have h3 := h3a.turnLast HJ2.out (.cells #[Value.bool true, Value.bool b1, Value.int .i64 hd] 215) (set_blk hn 0 (.bool true) _ (by simp)) ((Turns.refl (fun k => k = Qs) _).setCell ⟨Qs, 0, none⟩ _ rfl)
  have H3 := Lib.hid h3
  clear h3 h3a hQs hn c1
  generalize w2.alloc (.cells #[Value.bool b0, Value.bool b1, Value.int .i64 hd] 215) = w2' at *
  go_upto_region 3 with (fail)
  generalize w2'.setCell ⟨Qs, 0, none⟩ (.bool true) = w3 at *
  have hl2 := H3.out.last HJ2.out
  have hlb := (H3.out.dropB HJ2.out).last HJ.out
  have c1 : w3.drew.cell? ⟨B, 1, none⟩ = some (.int .u64 (K.st : Int)) := H3.out.b1
  have HF : Hid ((fun w' => w'.cell? ⟨Q, 0, none⟩ = some (.int .i64 (K.t : Int)) ∧ w'.cell? ⟨Q, 1, none⟩ = some (.int .u32 (K.a : Int)) ∧ w'.cell? ⟨Qs, 0, none⟩ = some (Value.bool true) ∧ w'.cell? ⟨Qs, 1, none⟩ = some (Value.bool b1) ∧ w'.cell? ⟨Qs, 2, none⟩ = some (Value.int .i64 hd)) w3.drew) := Lib.hid ⟨cell_row hlb 0, cell_row hlb 1, cell_row hl2 0, cell_row hl2 1, cell_row hl2 2⟩
  clear hl2 hlb k0 k1 s0 s1 s2 f0 HAS hb2
  refine wp_region_held_drew (S := fun w' => w'.cell? ⟨Q, 0, none⟩ = some (.int .i64 (K.t : Int)) ∧ w'.cell? ⟨Q, 1, none⟩ = some (.int .u32 (K.a : Int)) ∧ w'.cell? ⟨Qs, 0, none⟩ = some (Value.bool true) ∧ w'.cell? ⟨Qs, 1, none⟩ = some (Value.bool b1) ∧ w'.cell? ⟨Qs, 2, none⟩ = some (Value.int .i64 hd)) (by kernel_rfl) ?_ (fun hHeld => ?_)
  · exact HF.out
  refine wpAnyH_take (i := 0) (oi := ({ dst := some 13, op := Op.load 115 (Operand.tmp 3), type := 115, pos := "wordlocks.go:71", after := #[], guard := none } : Oper)) (v := ?vtx1) rfl (by kernel_rfl) (by kernel_rfl) (by kernel_rfl) (fun _ _ _ h => h) (Or.inl ⟨by rfl, fun w hSw => ?hytx1⟩) (by assumption) ?rtx1
  case hytx1 => (try dsimp only at hSw); go_simp; (try with_reducible rfl)
  (try simp only [Act.put, List.setIfInBounds_toArray, List.set_cons_zero, List.set_cons_succ])
  refine wpAnyH_take (i := 1) (oi := ({ dst := some 14, op := Op.move (Operand.tmp 1), type := 45, pos := "wordlocks.go:71", after := #[], guard := none } : Oper)) (v := ?vtx2) rfl (by kernel_rfl) (by kernel_rfl) (by kernel_rfl) (fun _ _ _ h => h) (Or.inl ⟨by rfl, fun w hSw => ?hytx2⟩) (by assumption) ?rtx2
  case hytx2 => (try dsimp only at hSw); go_simp; (try with_reducible rfl)
  (try simp only [Act.put, List.setIfInBounds_toArray, List.set_cons_zero, List.set_cons_succ])
  refine wpAnyH_take (i := 2) (oi := ({ dst := some 15, op := Op.move (Operand.tmp 2), type := 33, pos := "wordlocks.go:71", after := #[], guard := none } : Oper)) (v := ?vtx3) rfl (by kernel_rfl) (by kernel_rfl) (by kernel_rfl) (fun _ _ _ h => h) (Or.inl ⟨by rfl, fun w hSw => ?hytx3⟩) (by assumption) ?rtx3
  case hytx3 => (try dsimp only at hSw); go_simp; (try with_reducible rfl)
  (try simp only [Act.put, List.setIfInBounds_toArray, List.set_cons_zero, List.set_cons_succ])
  refine wpAnyH_take (i := 3) (oi := ({ dst := some 16, op := Op.move (Operand.tmp 1), type := 45, pos := "wordlocks.go:71", after := #[], guard := none } : Oper)) (v := ?vtx4) rfl (by kernel_rfl) (by kernel_rfl) (by kernel_rfl) (fun _ _ _ h => h) (Or.inl ⟨by rfl, fun w hSw => ?hytx4⟩) (by assumption) ?rtx4
  case hytx4 => (try dsimp only at hSw); go_simp; (try with_reducible rfl)
  (try simp only [Act.put, List.setIfInBounds_toArray, List.set_cons_zero, List.set_cons_succ])
  refine wpAnyH_take (i := 4) (oi := ({ dst := some 17, op := Op.nilCheck (Operand.tmp 16), type := 0, pos := "wordlocks.go:71", after := #[{ on := 3, ground := Ground.data }], guard := none } : Oper)) (v := ?vtx5) rfl (by kernel_rfl) (by kernel_rfl) (by kernel_rfl) (fun _ _ _ h => h) (Or.inl ⟨by rfl, fun w hSw => ?hytx5⟩) (by assumption) ?rtx5
  case hytx5 => (try dsimp only at hSw); go_simp; (try with_reducible rfl)
  (try simp only [Act.put, List.setIfInBounds_toArray, List.set_cons_zero, List.set_cons_succ])
  refine wpAnyH_take (i := 5) (oi := ({ dst := some 18, op := Op.fieldAddr 64 (Operand.tmp 17) 1, type := 0, pos := "wordlocks.go:71", after := #[{ on := 4, ground := Ground.data }], guard := none } : Oper)) (v := ?vtx6) rfl (by kernel_rfl) (by kernel_rfl) (by kernel_rfl) (fun _ _ _ h => h) (Or.inl ⟨by rfl, fun w hSw => ?hytx6⟩) (by assumption) ?rtx6
  case hytx6 => (try dsimp only at hSw); go_simp; (try with_reducible rfl)
  (try simp only [Act.put, List.setIfInBounds_toArray, List.set_cons_zero, List.set_cons_succ])
  refine wpAnyH_take (i := 7) (oi := ({ dst := some 20, op := Op.load 215 (Operand.tmp 6), type := 215, pos := "wordlocks.go:71", after := #[], guard := none } : Oper)) (v := ?vtx7) rfl (by kernel_rfl) (by kernel_rfl) (by kernel_rfl) (fun _ _ _ h => h) (Or.inl ⟨by rfl, fun w hSw => ?hytx7⟩) (by assumption) ?rtx7
  case hytx7 => (try dsimp only at hSw); go_simp; (try with_reducible rfl)
  (try simp only [Act.put, List.setIfInBounds_toArray, List.set_cons_zero, List.set_cons_succ])
  refine wpAnyH_ready (rs := [6, 8]) (by kernel_rfl) (by simp) ?_
  refine AllReadyH.cons (o := ({ dst := some 19, op := Op.load 22 (Operand.tmp 18), type := 22, pos := "wordlocks.go:71", after := #[{ on := 5, ground := Ground.data }], guard := none } : Oper)) rfl (fun Kq hKq => ?_) ?_
  · go_simp
    refine hKq.out _ _ ?_ (fun hHeld => ?_)
    · exact hHeld
    clear hKq Kq
    (try simp only [Act.put, List.setIfInBounds_toArray, List.set_cons_zero, List.set_cons_succ])
    refine wpAnyH_ready (rs := [8]) (by kernel_rfl) (by simp) ?_
    refine AllReadyH.cons (o := ({ dst := some 21, op := Op.call { callee := Callee.value (Operand.func 91), args := #[Operand.tmp 20], argTypes := #[215] }, type := 22, pos := "wordlocks.go:71", after := #[{ on := 7, ground := Ground.data }], guard := none } : Oper)) rfl (fun Kq hKq => ?_) AllReadyH.nil
    go_simp
    (refine (HPT.out _).mono ?_; rintro e w4 ⟨rfl, hb4⟩; have c1 := bcell hb4 c1; have HSW := Lib.hid (HSWW.out w4 _ ((H3.out.new (Below.refl _ _).drew).new hb4)))
    refine hKq.out _ _ ?_ (fun hHeld => ?_)
    · exact ⟨bcell hb4 hHeld.1, bcell hb4 hHeld.2.1, bcell hb4 hHeld.2.2.1, bcell hb4 hHeld.2.2.2.1, bcell hb4 hHeld.2.2.2.2⟩
    clear hKq Kq
    (try simp only [Act.put, List.setIfInBounds_toArray, List.set_cons_zero, List.set_cons_succ])
    refine wpAnyH_ready (rs := [9]) (by kernel_rfl) (by simp) ?_
    refine AllReadyH.cons (o := ({ dst := some 22, op := Op.call { callee := Callee.value (Operand.func 90), args := #[Operand.tmp 13, Operand.tmp 14, Operand.tmp 15, Operand.tmp 19, Operand.tmp 21], argTypes := #[115, 45, 33, 22, 22] }, type := 4, pos := "wordlocks.go:71", after := #[{ on := 0, ground := Ground.data }, { on := 1, ground := Ground.data }, { on := 2, ground := Ground.data }, { on := 6, ground := Ground.data }, { on := 8, ground := Ground.data }, { on := 8, ground := Ground.chain }], guard := none } : Oper)) rfl (fun Kq hKq => ?_) AllReadyH.nil
    go_simp
    (refine HSW.out.mono ?_; rintro e w5 ⟨rfl, X5, h5⟩)
    refine hKq.out _ _ ?_ (fun hHeld => ?_)
    · (have hl := (h5.dropB HJ2.out).last HJ.out; have hl2 := h5.last HJ2.out; exact ⟨cell_row hl 0, cell_row hl 1, cell_row hl2 0, cell_row hl2 1, cell_row hl2 2⟩)
    clear hKq Kq
    (try simp only [Act.put, List.setIfInBounds_toArray, List.set_cons_zero, List.set_cons_succ])
    refine wpAnyH_done (by kernel_rfl) ?_ _
    have h7 := (h5.dropB HJ2.out)
    have hl := h7.last HJ.out
    have k0 := cell_row hl 0; have k1 := cell_row hl 1
    simp only [List.getElem?_toArray, List.getElem?_cons_zero, List.getElem?_cons_succ] at k0 k1
    clear hl hHeld c1 h5
    go_upto_if 22 with fail
    by_cases e : x = K.st
    · rw [decide_eq_true e]
      have hk2 : K.cas x K.st K = K := if_pos e
      rw [hk2] at h7
      have c0 := h7.b0; have z0 := h7.fz 0; have c3 := h7.b3; have z3 := h7.fz 3
      have HK := Lib.hid (show K.cas x K.st { K with ln := 0 } = { K with ln := 0 } from if_pos e); have H5 := Lib.hid h7
      clear hk2 e h7 HSW HSWW
      go_wp2_with fail
      go_end0
      exact ⟨rfl, X5, by rw [HK.out]; exact (H5.out.next H6.out 0 (by decide) .nilFunc rfl).dropB HJ.out⟩
    · rw [decide_eq_false e]
      have HK := Lib.hid (show K.cas x K.st { K with ln := 0 } = K.cas x K.st K from (if_neg e).trans (if_neg e).symm); have H5 := Lib.hid h7
      clear e h7 HSW HSWW
      go_wp2_with fail
      go_end0
      exact ⟨rfl, X5, by rw [HK.out]; exact H5.out.dropB HJ.out⟩
  refine AllReadyH.cons (o := ({ dst := some 21, op := Op.call { callee := Callee.value (Operand.func 91), args := #[Operand.tmp 20], argTypes := #[215] }, type := 22, pos := "wordlocks.go:71", after := #[{ on := 7, ground := Ground.data }], guard := none } : Oper)) rfl (fun Kq hKq => ?_) AllReadyH.nil
  go_simp
  (refine (HPT.out _).mono ?_; rintro e w4 ⟨rfl, hb4⟩; have c1 := bcell hb4 c1; have HSW := Lib.hid (HSWW.out w4 _ ((H3.out.new (Below.refl _ _).drew).new hb4)))
  refine hKq.out _ _ ?_ (fun hHeld => ?_)
  · exact ⟨bcell hb4 hHeld.1, bcell hb4 hHeld.2.1, bcell hb4 hHeld.2.2.1, bcell hb4 hHeld.2.2.2.1, bcell hb4 hHeld.2.2.2.2⟩
  clear hKq Kq
  (try simp only [Act.put, List.setIfInBounds_toArray, List.set_cons_zero, List.set_cons_succ])
  refine wpAnyH_ready (rs := [6]) (by kernel_rfl) (by simp) ?_
  refine AllReadyH.cons (o := ({ dst := some 19, op := Op.load 22 (Operand.tmp 18), type := 22, pos := "wordlocks.go:71", after := #[{ on := 5, ground := Ground.data }], guard := none } : Oper)) rfl (fun Kq hKq => ?_) AllReadyH.nil
  go_simp
  refine hKq.out _ _ ?_ (fun hHeld => ?_)
  · exact hHeld
  clear hKq Kq
  (try simp only [Act.put, List.setIfInBounds_toArray, List.set_cons_zero, List.set_cons_succ])
  refine wpAnyH_ready (rs := [9]) (by kernel_rfl) (by simp) ?_
  refine AllReadyH.cons (o := ({ dst := some 22, op := Op.call { callee := Callee.value (Operand.func 90), args := #[Operand.tmp 13, Operand.tmp 14, Operand.tmp 15, Operand.tmp 19, Operand.tmp 21], argTypes := #[115, 45, 33, 22, 22] }, type := 4, pos := "wordlocks.go:71", after := #[{ on := 0, ground := Ground.data }, { on := 1, ground := Ground.data }, { on := 2, ground := Ground.data }, { on := 6, ground := Ground.data }, { on := 8, ground := Ground.data }, { on := 8, ground := Ground.chain }], guard := none } : Oper)) rfl (fun Kq hKq => ?_) AllReadyH.nil
  go_simp
  (refine HSW.out.mono ?_; rintro e w5 ⟨rfl, X5, h5⟩)
  refine hKq.out _ _ ?_ (fun hHeld => ?_)
  · (have hl := (h5.dropB HJ2.out).last HJ.out; have hl2 := h5.last HJ2.out; exact ⟨cell_row hl 0, cell_row hl 1, cell_row hl2 0, cell_row hl2 1, cell_row hl2 2⟩)
  clear hKq Kq
  (try simp only [Act.put, List.setIfInBounds_toArray, List.set_cons_zero, List.set_cons_succ])
  refine wpAnyH_done (by kernel_rfl) ?_ _
  have h7 := (h5.dropB HJ2.out)
  have hl := h7.last HJ.out
  have k0 := cell_row hl 0; have k1 := cell_row hl 1
  simp only [List.getElem?_toArray, List.getElem?_cons_zero, List.getElem?_cons_succ] at k0 k1
  clear hl hHeld c1 h5
  go_upto_if 22 with fail
  by_cases e : x = K.st
  · rw [decide_eq_true e]
    have hk2 : K.cas x K.st K = K := if_pos e
    rw [hk2] at h7
    have c0 := h7.b0; have z0 := h7.fz 0; have c3 := h7.b3; have z3 := h7.fz 3
    have HK := Lib.hid (show K.cas x K.st { K with ln := 0 } = { K with ln := 0 } from if_pos e); have H5 := Lib.hid h7
    clear hk2 e h7 HSW HSWW
    go_wp2_with fail
    go_end0
    exact ⟨rfl, X5, by rw [HK.out]; exact (H5.out.next H6.out 0 (by decide) .nilFunc rfl).dropB HJ.out⟩
  · rw [decide_eq_false e]
    have HK := Lib.hid (show K.cas x K.st { K with ln := 0 } = K.cas x K.st K from (if_neg e).trans (if_neg e).symm); have H5 := Lib.hid h7
    clear e h7 HSW HSWW
    go_wp2_with fail
    go_end0
    exact ⟨rfl, X5, by rw [HK.out]; exact H5.out.dropB HJ.out⟩
set_option maxRecDepth 100000 in
set_option maxHeartbeats 4000000 in
theorem queue_l (h : Wl w0 w base WB M r j B K X) (ok : LkOk M K) (hl : K.ln = 5) : Calls Tryz.prog 160 #[askV K.t K.a, Pw B, Pw WB] w fun e w' => e = .returned (.tuple #[]) ∧ Stepped w0 w' base WB M r j B K := by
  unfold Stepped
  rw [show stepM M K = _ from by simp only [stepM, hl]; rfl, show stepK M K = _ from by simp only [stepK, hl]; rfl]
  have hj := h.hj
  have hA := h.pushB (.cells #[.int .i64 (K.t : Int), .int .u32 (K.a : Int)] 115)
  have k0 := cell_row (heap_alloc_new w (.cells #[.int .i64 (K.t : Int), .int .u32 (K.a : Int)] 115)) 0; have k1 := cell_row (heap_alloc_new w (.cells #[.int .i64 (K.t : Int), .int .u32 (K.a : Int)] 115)) 1
  simp only [List.getElem?_toArray, List.getElem?_cons_zero, List.getElem?_cons_succ] at k0 k1
  obtain ⟨Q, hQ⟩ : ∃ Q, Q = w.heap.size := ⟨_, rfl⟩
  rw [← hQ] at hA k0 k1
  have HA := Lib.hid hA; have HJ := Lib.hid hj; have HQ := Lib.hid hQ
  obtain ⟨b0, hb0⟩ : ∃ x, x = S1.bitB K.st 0 := ⟨_, rfl⟩
  obtain ⟨b1, hb1⟩ : ∃ x, x = S1.bitB K.st 1 := ⟨_, rfl⟩
  obtain ⟨hd, hhd⟩ : ∃ x, x = S1.headN K.st := ⟨_, rfl⟩
  have HAS : Hid (∀ W, Calls Tryz.prog 147 #[.int .u64 (K.st : Int)] W fun e w' => e = .returned (.agg #[.bool b0, .bool b1, .int .i64 hd]) ∧ Below W.heap.size W w') := Lib.hid (fun W => by
    have := S1.as_any K.st ok.st W
    unfold S1.asV at this
    rw [← hb0, ← hb1, ← hhd] at this
    exact this)
  obtain ⟨x, hx⟩ : ∃ x, x = S2.look M.L K.a := ⟨_, rfl⟩
  obtain ⟨v, hv⟩ : ∃ x, x = S1.putU (S1.bitB K.st 0) (S1.bitB K.st 1) K.t := ⟨_, rfl⟩
  have hvl : v < 18446744073709551616 := by rw [hv]; exact S1.putU_lt _ _ _
  have hsw : ∀ W r', Wl w0 W base WB M r' j B K X → Calls Tryz.prog 90 #[askV K.t K.a, Pw B, Pw WB, .int .u64 (K.st : Int), .int .u64 (v : Int)] W fun e w' => e = .returned (.bool (decide (x = K.st))) ∧ ∃ X', Wl w0 w' base WB (M.acc 3 K.a (S2.casV x K.st v)) r' j B (K.cas x K.st K) X' := fun W r' hW => by
    rw [hx]
    exact swap_l hW (by omega) (by have := ok.sp; omega) ok.a ok.n hvl
  have HPT : Hid (∀ W, Calls Tryz.prog 91 #[.agg #[Value.bool b0, Value.bool b1, Value.int .i64 (K.t : Int)]] W fun e w' => e = .returned (.int .u64 (v : Int)) ∧ Below W.heap.size W w') := Lib.hid (fun W => by
    have := S1.putU_any b0 b1 (K.t : Int) (by unfold S1.isHead; have := ok.t; omega) W
    rw [hb0, hb1, ← hv] at this
    rw [hb0, hb1]
    exact this)
  rw [← hv, ← hx]
  have HSWW := Lib.hid hsw
  have H6 : Hid (K.ln ≠ 6) := Lib.hid (by omega)
  clear hsw hx hv hvl ok hl hb0 hb1 hhd
  clear h hj hQ
  go_enter Tryz.func160, Tryz.ntmps160
  go_upto_region 1 with (fail)
  rw [← HQ.out]
  generalize w.alloc (.cells #[.int .i64 (K.t : Int), .int .u32 (K.a : Int)] 115) = w1 at *
  have c1 := HA.out.b1
  clear hA
  go_upto_region 2 with (go_at_call 147; refine (HAS.out _).mono ?_; rintro e w2 ⟨rfl, hb2⟩)
  have h3a := (HA.out.new hb2).pushB (.cells #[Value.bool b0, Value.bool b1, Value.int .i64 hd] 215)
  have HJ2 : Hid (j < (r ++ [blockP Q (.cells #[.int .i64 (K.t : Int), .int .u32 (K.a : Int)] 115)]).length) := Lib.hid (by rw [List.length_append]; have := HJ.out; omega)
  have hn := heap_alloc_new w2 (.cells #[Value.bool b0, Value.bool b1, Value.int .i64 hd] 215)
  have s0 := cell_row hn 0; have s1 := cell_row hn 1; have s2 := cell_row hn 2
  have f0 := froz_row hn 2
  have k0 := bcell (hb2.trans ((below1 w2 (.cells #[Value.bool b0, Value.bool b1, Value.int .i64 hd] 215)).mono hb2.size)) k0; have k1 := bcell (hb2.trans ((below1 w2 (.cells #[Value.bool b0, Value.bool b1, Value.int .i64 hd] 215)).mono hb2.size)) k1
  simp only [List.getElem?_toArray, List.getElem?_cons_zero, List.getElem?_cons_succ] at s0 s1 s2
  obtain ⟨Qs, hQs⟩ : ∃ x, x = w2.heap.size := ⟨_, rfl⟩
  rw [← hQs] at h3a hn s0 s1 s2 f0 ⊢
  have h3 := h3a.turnLast HJ2.out (.cells #[Value.bool b0, Value.bool b1, Value.int .i64 (K.t : Int)] 215) (set_blk hn 2 (.int .i64 (K.t : Int)) _ (by simp)) ((Turns.refl (fun k => k = Qs) _).setCell ⟨Qs, 2, none⟩ _ rfl)
  have H3 := Lib.hid h3
  clear h3 h3a hQs hn c1
  generalize w2.alloc (.cells #[Value.bool b0, Value.bool b1, Value.int .i64 hd] 215) = w2' at *
  go_upto_region 3 with (fail)
  generalize w2'.setCell ⟨Qs, 2, none⟩ (.int .i64 (K.t : Int)) = w3 at *
  have hl2 := H3.out.last HJ2.out
  have hlb := (H3.out.dropB HJ2.out).last HJ.out
  have c1 : w3.drew.cell? ⟨B, 1, none⟩ = some (.int .u64 (K.st : Int)) := H3.out.b1
  have HF : Hid ((fun w' => w'.cell? ⟨Q, 0, none⟩ = some (.int .i64 (K.t : Int)) ∧ w'.cell? ⟨Q, 1, none⟩ = some (.int .u32 (K.a : Int)) ∧ w'.cell? ⟨Qs, 0, none⟩ = some (Value.bool b0) ∧ w'.cell? ⟨Qs, 1, none⟩ = some (Value.bool b1) ∧ w'.cell? ⟨Qs, 2, none⟩ = some (Value.int .i64 (K.t : Int))) w3.drew) := Lib.hid ⟨cell_row hlb 0, cell_row hlb 1, cell_row hl2 0, cell_row hl2 1, cell_row hl2 2⟩
  clear hl2 hlb k0 k1 s0 s1 s2 f0 HAS hb2
  refine wp_region_held_drew (S := fun w' => w'.cell? ⟨Q, 0, none⟩ = some (.int .i64 (K.t : Int)) ∧ w'.cell? ⟨Q, 1, none⟩ = some (.int .u32 (K.a : Int)) ∧ w'.cell? ⟨Qs, 0, none⟩ = some (Value.bool b0) ∧ w'.cell? ⟨Qs, 1, none⟩ = some (Value.bool b1) ∧ w'.cell? ⟨Qs, 2, none⟩ = some (Value.int .i64 (K.t : Int))) (by kernel_rfl) ?_ (fun hHeld => ?_)
  · exact HF.out
  refine wpAnyH_take (i := 0) (oi := ({ dst := some 15, op := Op.load 115 (Operand.tmp 3), type := 115, pos := "wordlocks.go:92", after := #[], guard := none } : Oper)) (v := ?vqx1) rfl (by kernel_rfl) (by kernel_rfl) (by kernel_rfl) (fun _ _ _ h => h) (Or.inl ⟨by rfl, fun w hSw => ?hyqx1⟩) (by assumption) ?rqx1
  case hyqx1 => (try dsimp only at hSw); go_simp; (try with_reducible rfl)
  (try simp only [Act.put, List.setIfInBounds_toArray, List.set_cons_zero, List.set_cons_succ])
  refine wpAnyH_take (i := 1) (oi := ({ dst := some 16, op := Op.move (Operand.tmp 1), type := 45, pos := "wordlocks.go:92", after := #[], guard := none } : Oper)) (v := ?vqx2) rfl (by kernel_rfl) (by kernel_rfl) (by kernel_rfl) (fun _ _ _ h => h) (Or.inl ⟨by rfl, fun w hSw => ?hyqx2⟩) (by assumption) ?rqx2
  case hyqx2 => (try dsimp only at hSw); go_simp; (try with_reducible rfl)
  (try simp only [Act.put, List.setIfInBounds_toArray, List.set_cons_zero, List.set_cons_succ])
  refine wpAnyH_take (i := 2) (oi := ({ dst := some 17, op := Op.move (Operand.tmp 2), type := 33, pos := "wordlocks.go:92", after := #[], guard := none } : Oper)) (v := ?vqx3) rfl (by kernel_rfl) (by kernel_rfl) (by kernel_rfl) (fun _ _ _ h => h) (Or.inl ⟨by rfl, fun w hSw => ?hyqx3⟩) (by assumption) ?rqx3
  case hyqx3 => (try dsimp only at hSw); go_simp; (try with_reducible rfl)
  (try simp only [Act.put, List.setIfInBounds_toArray, List.set_cons_zero, List.set_cons_succ])
  refine wpAnyH_take (i := 3) (oi := ({ dst := some 18, op := Op.move (Operand.tmp 1), type := 45, pos := "wordlocks.go:92", after := #[], guard := none } : Oper)) (v := ?vqx4) rfl (by kernel_rfl) (by kernel_rfl) (by kernel_rfl) (fun _ _ _ h => h) (Or.inl ⟨by rfl, fun w hSw => ?hyqx4⟩) (by assumption) ?rqx4
  case hyqx4 => (try dsimp only at hSw); go_simp; (try with_reducible rfl)
  (try simp only [Act.put, List.setIfInBounds_toArray, List.set_cons_zero, List.set_cons_succ])
  refine wpAnyH_take (i := 4) (oi := ({ dst := some 19, op := Op.nilCheck (Operand.tmp 18), type := 0, pos := "wordlocks.go:92", after := #[{ on := 3, ground := Ground.data }], guard := none } : Oper)) (v := ?vqx5) rfl (by kernel_rfl) (by kernel_rfl) (by kernel_rfl) (fun _ _ _ h => h) (Or.inl ⟨by rfl, fun w hSw => ?hyqx5⟩) (by assumption) ?rqx5
  case hyqx5 => (try dsimp only at hSw); go_simp; (try with_reducible rfl)
  (try simp only [Act.put, List.setIfInBounds_toArray, List.set_cons_zero, List.set_cons_succ])
  refine wpAnyH_take (i := 5) (oi := ({ dst := some 20, op := Op.fieldAddr 64 (Operand.tmp 19) 1, type := 0, pos := "wordlocks.go:92", after := #[{ on := 4, ground := Ground.data }], guard := none } : Oper)) (v := ?vqx6) rfl (by kernel_rfl) (by kernel_rfl) (by kernel_rfl) (fun _ _ _ h => h) (Or.inl ⟨by rfl, fun w hSw => ?hyqx6⟩) (by assumption) ?rqx6
  case hyqx6 => (try dsimp only at hSw); go_simp; (try with_reducible rfl)
  (try simp only [Act.put, List.setIfInBounds_toArray, List.set_cons_zero, List.set_cons_succ])
  refine wpAnyH_take (i := 7) (oi := ({ dst := some 22, op := Op.load 215 (Operand.tmp 6), type := 215, pos := "wordlocks.go:92", after := #[], guard := none } : Oper)) (v := ?vqx7) rfl (by kernel_rfl) (by kernel_rfl) (by kernel_rfl) (fun _ _ _ h => h) (Or.inl ⟨by rfl, fun w hSw => ?hyqx7⟩) (by assumption) ?rqx7
  case hyqx7 => (try dsimp only at hSw); go_simp; (try with_reducible rfl)
  (try simp only [Act.put, List.setIfInBounds_toArray, List.set_cons_zero, List.set_cons_succ])
  refine wpAnyH_ready (rs := [6, 8]) (by kernel_rfl) (by simp) ?_
  refine AllReadyH.cons (o := ({ dst := some 21, op := Op.load 22 (Operand.tmp 20), type := 22, pos := "wordlocks.go:92", after := #[{ on := 5, ground := Ground.data }], guard := none } : Oper)) rfl (fun Kq hKq => ?_) ?_
  · go_simp
    refine hKq.out _ _ ?_ (fun hHeld => ?_)
    · exact hHeld
    clear hKq Kq
    (try simp only [Act.put, List.setIfInBounds_toArray, List.set_cons_zero, List.set_cons_succ])
    refine wpAnyH_ready (rs := [8]) (by kernel_rfl) (by simp) ?_
    refine AllReadyH.cons (o := ({ dst := some 23, op := Op.call { callee := Callee.value (Operand.func 91), args := #[Operand.tmp 22], argTypes := #[215] }, type := 22, pos := "wordlocks.go:92", after := #[{ on := 7, ground := Ground.data }], guard := none } : Oper)) rfl (fun Kq hKq => ?_) AllReadyH.nil
    go_simp
    (refine (HPT.out _).mono ?_; rintro e w4 ⟨rfl, hb4⟩; have c1 := bcell hb4 c1; have HSW := Lib.hid (HSWW.out w4 _ ((H3.out.new (Below.refl _ _).drew).new hb4)))
    refine hKq.out _ _ ?_ (fun hHeld => ?_)
    · exact ⟨bcell hb4 hHeld.1, bcell hb4 hHeld.2.1, bcell hb4 hHeld.2.2.1, bcell hb4 hHeld.2.2.2.1, bcell hb4 hHeld.2.2.2.2⟩
    clear hKq Kq
    (try simp only [Act.put, List.setIfInBounds_toArray, List.set_cons_zero, List.set_cons_succ])
    refine wpAnyH_ready (rs := [9]) (by kernel_rfl) (by simp) ?_
    refine AllReadyH.cons (o := ({ dst := some 24, op := Op.call { callee := Callee.value (Operand.func 90), args := #[Operand.tmp 15, Operand.tmp 16, Operand.tmp 17, Operand.tmp 21, Operand.tmp 23], argTypes := #[115, 45, 33, 22, 22] }, type := 4, pos := "wordlocks.go:92", after := #[{ on := 0, ground := Ground.data }, { on := 1, ground := Ground.data }, { on := 2, ground := Ground.data }, { on := 6, ground := Ground.data }, { on := 8, ground := Ground.data }, { on := 8, ground := Ground.chain }], guard := none } : Oper)) rfl (fun Kq hKq => ?_) AllReadyH.nil
    go_simp
    (refine HSW.out.mono ?_; rintro e w5 ⟨rfl, X5, h5⟩)
    refine hKq.out _ _ ?_ (fun hHeld => ?_)
    · (have hl := (h5.dropB HJ2.out).last HJ.out; have hl2 := h5.last HJ2.out; exact ⟨cell_row hl 0, cell_row hl 1, cell_row hl2 0, cell_row hl2 1, cell_row hl2 2⟩)
    clear hKq Kq
    (try simp only [Act.put, List.setIfInBounds_toArray, List.set_cons_zero, List.set_cons_succ])
    refine wpAnyH_done (by kernel_rfl) ?_ _
    have h7 := (h5.dropB HJ2.out)
    have hl := h7.last HJ.out
    have k0 := cell_row hl 0; have k1 := cell_row hl 1
    simp only [List.getElem?_toArray, List.getElem?_cons_zero, List.getElem?_cons_succ] at k0 k1
    clear hl hHeld c1 h5
    go_upto_if 24 with fail
    by_cases e : x = K.st
    · rw [decide_eq_true e]
      have hk2 : K.cas x K.st K = K := if_pos e
      rw [hk2] at h7
      have c0 := h7.b0; have z0 := h7.fz 0; have c3 := h7.b3; have z3 := h7.fz 3
      have HK := Lib.hid (show K.cas x K.st { K with ln := 6 } = { K with ln := 6 } from if_pos e); have H5 := Lib.hid h7
      clear hk2 e h7 HSW HSWW
      go_wp2_with fail
      go_end0
      exact ⟨rfl, X5, by rw [HK.out]; exact (H5.out.next2 6 _ rfl true rfl).dropB HJ.out⟩
    · rw [decide_eq_false e]
      have HK := Lib.hid (show K.cas x K.st { K with ln := 6 } = K.cas x K.st K from (if_neg e).trans (if_neg e).symm); have H5 := Lib.hid h7
      clear e h7 HSW HSWW
      go_wp2_with fail
      go_end0
      exact ⟨rfl, X5, by rw [HK.out]; exact H5.out.dropB HJ.out⟩
  refine AllReadyH.cons (o := ({ dst := some 23, op := Op.call { callee := Callee.value (Operand.func 91), args := #[Operand.tmp 22], argTypes := #[215] }, type := 22, pos := "wordlocks.go:92", after := #[{ on := 7, ground := Ground.data }], guard := none } : Oper)) rfl (fun Kq hKq => ?_) AllReadyH.nil
  go_simp
  (refine (HPT.out _).mono ?_; rintro e w4 ⟨rfl, hb4⟩; have c1 := bcell hb4 c1; have HSW := Lib.hid (HSWW.out w4 _ ((H3.out.new (Below.refl _ _).drew).new hb4)))
  refine hKq.out _ _ ?_ (fun hHeld => ?_)
  · exact ⟨bcell hb4 hHeld.1, bcell hb4 hHeld.2.1, bcell hb4 hHeld.2.2.1, bcell hb4 hHeld.2.2.2.1, bcell hb4 hHeld.2.2.2.2⟩
  clear hKq Kq
  (try simp only [Act.put, List.setIfInBounds_toArray, List.set_cons_zero, List.set_cons_succ])
  refine wpAnyH_ready (rs := [6]) (by kernel_rfl) (by simp) ?_
  refine AllReadyH.cons (o := ({ dst := some 21, op := Op.load 22 (Operand.tmp 20), type := 22, pos := "wordlocks.go:92", after := #[{ on := 5, ground := Ground.data }], guard := none } : Oper)) rfl (fun Kq hKq => ?_) AllReadyH.nil
  go_simp
  refine hKq.out _ _ ?_ (fun hHeld => ?_)
  · exact hHeld
  clear hKq Kq
  (try simp only [Act.put, List.setIfInBounds_toArray, List.set_cons_zero, List.set_cons_succ])
  refine wpAnyH_ready (rs := [9]) (by kernel_rfl) (by simp) ?_
  refine AllReadyH.cons (o := ({ dst := some 24, op := Op.call { callee := Callee.value (Operand.func 90), args := #[Operand.tmp 15, Operand.tmp 16, Operand.tmp 17, Operand.tmp 21, Operand.tmp 23], argTypes := #[115, 45, 33, 22, 22] }, type := 4, pos := "wordlocks.go:92", after := #[{ on := 0, ground := Ground.data }, { on := 1, ground := Ground.data }, { on := 2, ground := Ground.data }, { on := 6, ground := Ground.data }, { on := 8, ground := Ground.data }, { on := 8, ground := Ground.chain }], guard := none } : Oper)) rfl (fun Kq hKq => ?_) AllReadyH.nil
  go_simp
  (refine HSW.out.mono ?_; rintro e w5 ⟨rfl, X5, h5⟩)
  refine hKq.out _ _ ?_ (fun hHeld => ?_)
  · (have hl := (h5.dropB HJ2.out).last HJ.out; have hl2 := h5.last HJ2.out; exact ⟨cell_row hl 0, cell_row hl 1, cell_row hl2 0, cell_row hl2 1, cell_row hl2 2⟩)
  clear hKq Kq
  (try simp only [Act.put, List.setIfInBounds_toArray, List.set_cons_zero, List.set_cons_succ])
  refine wpAnyH_done (by kernel_rfl) ?_ _
  have h7 := (h5.dropB HJ2.out)
  have hl := h7.last HJ.out
  have k0 := cell_row hl 0; have k1 := cell_row hl 1
  simp only [List.getElem?_toArray, List.getElem?_cons_zero, List.getElem?_cons_succ] at k0 k1
  clear hl hHeld c1 h5
  go_upto_if 24 with fail
  by_cases e : x = K.st
  · rw [decide_eq_true e]
    have hk2 : K.cas x K.st K = K := if_pos e
    rw [hk2] at h7
    have c0 := h7.b0; have z0 := h7.fz 0; have c3 := h7.b3; have z3 := h7.fz 3
    have HK := Lib.hid (show K.cas x K.st { K with ln := 6 } = { K with ln := 6 } from if_pos e); have H5 := Lib.hid h7
    clear hk2 e h7 HSW HSWW
    go_wp2_with fail
    go_end0
    exact ⟨rfl, X5, by rw [HK.out]; exact (H5.out.next2 6 _ rfl true rfl).dropB HJ.out⟩
  · rw [decide_eq_false e]
    have HK := Lib.hid (show K.cas x K.st { K with ln := 6 } = K.cas x K.st K from (if_neg e).trans (if_neg e).symm); have H5 := Lib.hid h7
    clear e h7 HSW HSWW
    go_wp2_with fail
    go_end0
    exact ⟨rfl, X5, by rw [HK.out]; exact H5.out.dropB HJ.out⟩
end
end Go.Proofs.YtffoobepdofkkaaGreat.S13
namespace Go.Proofs.YtffoobepdofkkaaGreat.S13
open Go.Proofs.YtffoobepdofkkaaGreat Go.Proofs.YtffoobepdofkkaaGreat.S11 Go.Proofs.YtffoobepdofkkaaGreat.S12
open Go.RowKit

theorem field_hd (a b : Bool) (h : Int) (w : World) : (Instr.field 215 (.agg #[.bool a, .bool b, .int .i64 h]) 2).run Tryz.prog w = .ok (.int .i64 h) w := by kernel_rfl

section
variable {w0 w w' : World} {base WB : Nat} {M : Sd} {r : List Part} {j B : Nat} {K : Lk} {X : Wm}
set_option maxRecDepth 100000 in
set_option maxHeartbeats 4000000 in
theorem look_l (h : Wl w0 w base WB M r j B K X) (ok : LkOk M K) (hl : K.ln = 3) : Calls Tryz.prog 150 #[askV K.t K.a, Pw B, Pw WB] w fun e w' => e = .returned (.tuple #[]) ∧ Stepped w0 w' base WB M r j B K := by
  unfold Stepped
  rw [show stepM M K = _ from by simp only [stepM, hl]; rfl, show stepK M K = _ from by simp only [stepK, hl]; rfl]
  have hj := h.hj
  have hA := h.pushB (.cells #[.int .i64 (K.t : Int), .int .u32 (K.a : Int)] 115)
  have k0 := cell_row (heap_alloc_new w (.cells #[.int .i64 (K.t : Int), .int .u32 (K.a : Int)] 115)) 0; have k1 := cell_row (heap_alloc_new w (.cells #[.int .i64 (K.t : Int), .int .u32 (K.a : Int)] 115)) 1
  simp only [List.getElem?_toArray, List.getElem?_cons_zero, List.getElem?_cons_succ] at k0 k1
  obtain ⟨Q, hQ⟩ : ∃ Q, Q = w.heap.size := ⟨_, rfl⟩
  rw [← hQ] at hA k0 k1
  have HA := Lib.hid hA; have HJ := Lib.hid hj; have HQ := Lib.hid hQ
  obtain ⟨x, hx⟩ : ∃ x, x = S2.look M.L K.a := ⟨_, rfl⟩
  have hxl : x < 18446744073709551616 := by rw [hx]; exact hA.look K.a
  have HC := Lib.hid ((hA.new (Below.refl _ _).drew).pg.load ok.a ok.n)
  rw [← hx] at HC ⊢
  have HTT : Hid (∀ W M' X', Wl w0 W base WB M' (r ++ [blockP Q (.cells #[.int .i64 (K.t : Int), .int .u32 (K.a : Int)] 115)]) j B K X' → Calls Tryz.prog 135 #[askV K.t K.a, Pw B, .int .u64 (x : Int)] W fun e w' => e = .returned (.tuple #[]) ∧ Wl w0 w' base WB M' (r ++ [blockP Q (.cells #[.int .i64 (K.t : Int), .int .u32 (K.a : Int)] 115)]) j B (K.turn x) X') := Lib.hid (fun W M' X' hW => turn_l hW (by omega) (by have := ok.sp; omega) hxl)
  clear hx hxl ok hl
  clear h hj hQ
  go_enter Tryz.func150, Tryz.ntmps150
  go_upto_region 1 with (fail)
  rw [← HQ.out]
  generalize w.alloc (.cells #[.int .i64 (K.t : Int), .int .u32 (K.a : Int)] 115) = w1 at *
  have HF : Hid ((fun w' => w'.cell? ⟨Q, 0, none⟩ = some (.int .i64 (K.t : Int)) ∧ w'.cell? ⟨Q, 1, none⟩ = some (.int .u32 (K.a : Int)) ∧ w'.cell? ⟨WB, 0, none⟩ = some (Pw X.cB)) w1.drew) := Lib.hid ⟨k0, k1, HA.out.pg.c.1⟩
  clear hA
  refine wp_region_held_drew (S := fun w' => w'.cell? ⟨Q, 0, none⟩ = some (.int .i64 (K.t : Int)) ∧ w'.cell? ⟨Q, 1, none⟩ = some (.int .u32 (K.a : Int)) ∧ w'.cell? ⟨WB, 0, none⟩ = some (Pw X.cB)) (by kernel_rfl) ?_ (fun hHeld => ?_)
  · exact HF.out
  refine wpAnyH_take (i := 0) (oi := ({ dst := some 6, op := Op.load 115 (Operand.tmp 3), type := 115, pos := "wordlocks.go:78", after := #[], guard := none } : Oper)) (v := ?vkm1) rfl (by kernel_rfl) (by kernel_rfl) (by kernel_rfl) (fun _ _ _ h => h) (Or.inl ⟨by rfl, fun w hSw => ?hykm1⟩) (by assumption) ?rkm1
  case hykm1 => (try dsimp only at hSw); go_simp; (try with_reducible rfl)
  (try simp only [Act.put, List.setIfInBounds_toArray, List.set_cons_zero, List.set_cons_succ])
  refine wpAnyH_take (i := 1) (oi := ({ dst := some 7, op := Op.move (Operand.tmp 1), type := 45, pos := "wordlocks.go:78", after := #[], guard := none } : Oper)) (v := ?vkm2) rfl (by kernel_rfl) (by kernel_rfl) (by kernel_rfl) (fun _ _ _ h => h) (Or.inl ⟨by rfl, fun w hSw => ?hykm2⟩) (by assumption) ?rkm2
  case hykm2 => (try dsimp only at hSw); go_simp; (try with_reducible rfl)
  (try simp only [Act.put, List.setIfInBounds_toArray, List.set_cons_zero, List.set_cons_succ])
  refine wpAnyH_take (i := 2) (oi := ({ dst := some 8, op := Op.move (Operand.tmp 2), type := 33, pos := "wordlocks.go:78", after := #[], guard := none } : Oper)) (v := ?vkm3) rfl (by kernel_rfl) (by kernel_rfl) (by kernel_rfl) (fun _ _ _ h => h) (Or.inl ⟨by rfl, fun w hSw => ?hykm3⟩) (by assumption) ?rkm3
  case hykm3 => (try dsimp only at hSw); go_simp; (try with_reducible rfl)
  (try simp only [Act.put, List.setIfInBounds_toArray, List.set_cons_zero, List.set_cons_succ])
  refine wpAnyH_take (i := 3) (oi := ({ dst := some 9, op := Op.nilCheck (Operand.tmp 8), type := 0, pos := "wordlocks.go:78", after := #[{ on := 2, ground := Ground.data }], guard := none } : Oper)) (v := ?vkm4) rfl (by kernel_rfl) (by kernel_rfl) (by kernel_rfl) (fun _ _ _ h => h) (Or.inl ⟨by rfl, fun w hSw => ?hykm4⟩) (by assumption) ?rkm4
  case hykm4 => (try dsimp only at hSw); go_simp; (try with_reducible rfl)
  (try simp only [Act.put, List.setIfInBounds_toArray, List.set_cons_zero, List.set_cons_succ])
  refine wpAnyH_take (i := 4) (oi := ({ dst := some 10, op := Op.fieldAddr 74 (Operand.tmp 9) 0, type := 0, pos := "wordlocks.go:78", after := #[{ on := 3, ground := Ground.data }], guard := none } : Oper)) (v := ?vkm5) rfl (by kernel_rfl) (by kernel_rfl) (by kernel_rfl) (fun _ _ _ h => h) (Or.inl ⟨by rfl, fun w hSw => ?hykm5⟩) (by assumption) ?rkm5
  case hykm5 => (try dsimp only at hSw); go_simp; (try with_reducible rfl)
  (try simp only [Act.put, List.setIfInBounds_toArray, List.set_cons_zero, List.set_cons_succ])
  refine wpAnyH_take (i := 5) (oi := ({ dst := some 11, op := Op.load 66 (Operand.tmp 10), type := 66, pos := "wordlocks.go:78", after := #[{ on := 4, ground := Ground.data }], guard := none } : Oper)) (v := ?vkm6) rfl (by kernel_rfl) (by kernel_rfl) (by kernel_rfl) (fun _ _ _ h => h) (Or.inl ⟨by rfl, fun w hSw => ?hykm6⟩) (by assumption) ?rkm6
  case hykm6 => (try dsimp only at hSw); go_simp; (try with_reducible rfl)
  (try simp only [Act.put, List.setIfInBounds_toArray, List.set_cons_zero, List.set_cons_succ])
  refine wpAnyH_take (i := 6) (oi := ({ dst := some 12, op := Op.fieldAddr 115 (Operand.tmp 3) 1, type := 0, pos := "wordlocks.go:78", after := #[], guard := none } : Oper)) (v := ?vkm7) rfl (by kernel_rfl) (by kernel_rfl) (by kernel_rfl) (fun _ _ _ h => h) (Or.inl ⟨by rfl, fun w hSw => ?hykm7⟩) (by assumption) ?rkm7
  case hykm7 => (try dsimp only at hSw); go_simp; (try with_reducible rfl)
  (try simp only [Act.put, List.setIfInBounds_toArray, List.set_cons_zero, List.set_cons_succ])
  refine wpAnyH_take (i := 7) (oi := ({ dst := some 13, op := Op.load 40 (Operand.tmp 12), type := 40, pos := "wordlocks.go:78", after := #[{ on := 6, ground := Ground.data }], guard := none } : Oper)) (v := ?vkm8) rfl (by kernel_rfl) (by kernel_rfl) (by kernel_rfl) (fun _ _ _ h => h) (Or.inl ⟨by rfl, fun w hSw => ?hykm8⟩) (by assumption) ?rkm8
  case hykm8 => (try dsimp only at hSw); go_simp; (try with_reducible rfl)
  (try simp only [Act.put, List.setIfInBounds_toArray, List.set_cons_zero, List.set_cons_succ])
  refine wpAnyH_ready (rs := [8]) (by kernel_rfl) (by simp) ?_
  refine AllReadyH.cons (o := ({ dst := some 14, op := Op.call { callee := Callee.value (Operand.func 157), args := #[Operand.tmp 11, Operand.tmp 13], argTypes := #[66, 40] }, type := 22, pos := "wordlocks.go:78", after := #[{ on := 5, ground := Ground.data }, { on := 7, ground := Ground.data }], guard := none } : Oper)) rfl (fun Kq hKq => ?_) AllReadyH.nil
  go_simp
  (refine HC.out.mono ?_; rintro e w3 ⟨rfl, X3, h3g, hcB⟩; have h3 : Wl w0 w3 base WB (M.acc 1 K.a x) (r ++ [blockP Q (.cells #[.int .i64 (K.t : Int), .int .u32 (K.a : Int)] 115)]) j B K X3 := ⟨h3g, HA.out.hj⟩; have HTN := Lib.hid (HTT.out _ _ _ h3); have q3 := h3.pg.c.1; rw [hcB] at q3; have hl := h3.last HJ.out; have HCB := Lib.hid hcB)
  refine hKq.out _ _ ?_ (fun hHeld => ?_)
  · exact ⟨cell_row hl 0, cell_row hl 1, q3⟩
  clear hKq Kq
  (try simp only [Act.put, List.setIfInBounds_toArray, List.set_cons_zero, List.set_cons_succ])
  refine wpAnyH_ready (rs := [9]) (by kernel_rfl) (by simp) ?_
  refine AllReadyH.cons (o := ({ dst := some 15, op := Op.call { callee := Callee.value (Operand.func 135), args := #[Operand.tmp 6, Operand.tmp 7, Operand.tmp 14], argTypes := #[115, 45, 22] }, type := 0, pos := "wordlocks.go:78", after := #[{ on := 0, ground := Ground.data }, { on := 1, ground := Ground.data }, { on := 8, ground := Ground.data }, { on := 8, ground := Ground.chain }], guard := none } : Oper)) rfl (fun Kq hKq => ?_) AllReadyH.nil
  go_simp
  (refine HTN.out.mono ?_; rintro e w4 ⟨rfl, h4⟩; have q4 := h4.pg.c.1; rw [HCB.out] at q4; have hl4 := h4.last HJ.out)
  refine hKq.out _ _ ?_ (fun hHeld => ?_)
  · exact ⟨cell_row hl4 0, cell_row hl4 1, q4⟩
  clear hKq Kq
  (try simp only [Act.put, List.setIfInBounds_toArray, List.set_cons_zero, List.set_cons_succ])
  refine wpAnyH_done (by kernel_rfl) ?_ _
  have H4 := Lib.hid h4
  clear hHeld q3 hl q4 hl4 h3 h3g h4 hcB
  go_wp2_with fail
  go_end0
  exact ⟨rfl, X3, H4.out.dropB HJ.out⟩
set_option maxRecDepth 100000 in
set_option maxHeartbeats 4000000 in
theorem prepare_l (h : Wl w0 w base WB M r j B K X) (ok : LkOk M K) (hl : K.ln = 4) : Calls Tryz.prog 151 #[askV K.t K.a, Pw B, Pw WB] w fun e w' => e = .returned (.tuple #[]) ∧ Stepped w0 w' base WB M r j B K := by
  unfold Stepped
  rw [show stepM M K = _ from by simp only [stepM, hl]; rfl, show stepK M K = _ from by simp only [stepK, hl]; rfl]
  have hj := h.hj
  have hA := h.pushB (.cells #[.int .i64 (K.t : Int), .int .u32 (K.a : Int)] 115)
  have k0 := cell_row (heap_alloc_new w (.cells #[.int .i64 (K.t : Int), .int .u32 (K.a : Int)] 115)) 0; have k1 := cell_row (heap_alloc_new w (.cells #[.int .i64 (K.t : Int), .int .u32 (K.a : Int)] 115)) 1
  simp only [List.getElem?_toArray, List.getElem?_cons_zero, List.getElem?_cons_succ] at k0 k1
  obtain ⟨Q, hQ⟩ : ∃ Q, Q = w.heap.size := ⟨_, rfl⟩
  rw [← hQ] at hA k0 k1
  have HA := Lib.hid hA; have HJ := Lib.hid hj; have HQ := Lib.hid hQ
  obtain ⟨b0, hb0⟩ : ∃ x, x = S1.bitB K.st 0 := ⟨_, rfl⟩
  obtain ⟨b1, hb1⟩ : ∃ x, x = S1.bitB K.st 1 := ⟨_, rfl⟩
  obtain ⟨hd, hhd⟩ : ∃ x, x = S1.headN K.st := ⟨_, rfl⟩
  have HAS : Hid (∀ W, Calls Tryz.prog 147 #[.int .u64 (K.st : Int)] W fun e w' => e = .returned (.agg #[.bool b0, .bool b1, .int .i64 hd]) ∧ Below W.heap.size W w') := Lib.hid (fun W => by
    have := S1.as_any K.st ok.st W
    unfold S1.asV at this
    rw [← hb0, ← hb1, ← hhd] at this
    exact this)
  have HT := Lib.hid (fun W => word_any K.t ok.t W)
  have HC := Lib.hid ((hA.new (Below.refl _ _).drew).pg.prep ok.pn (i := 2 * K.t + 1) (by have := ok.t; omega))
  have hnt : S5.Num (K.t : Int) (some K.t) := S5.nm K.t ok.t
  have hnh := num_head K.st
  rw [← hhd] at hnh
  have HPU : Hid (∀ W X', Pg w0 W base WB (M.prep (2 * K.t + 1)) ((r ++ [blockP Q (.cells #[.int .i64 (K.t : Int), .int .u32 (K.a : Int)] 115)]).set j (lockP B K)) X' → Calls Tryz.prog 159 #[Pw X'.lB, .int .i64 (K.t : Int), .int .i64 hd] W fun e w' => e = .returned (.tuple #[]) ∧ ∃ X'', Pg w0 w' base WB ((M.prep (2 * K.t + 1)).link (S5.pushS (M.prep (2 * K.t + 1)).lk (some K.t) (hdO K.st))) ((r ++ [blockP Q (.cells #[.int .i64 (K.t : Int), .int .u32 (K.a : Int)] 115)]).set j (lockP B K)) X'' ∧ X''.lB = X'.lB) := Lib.hid (fun W X' hW => hW.push hnt hnh)
  have HH6 : Hid (K.ln ≠ 6) := Lib.hid (by omega)
  clear ok hl hb0 hb1 hhd hnt hnh
  clear h hj hQ
  go_enter Tryz.func151, Tryz.ntmps151
  go_upto_region 1 with (fail)
  rw [← HQ.out]
  generalize w.alloc (.cells #[.int .i64 (K.t : Int), .int .u32 (K.a : Int)] 115) = w1 at *
  have HF : Hid ((fun w' => w'.cell? ⟨Q, 0, none⟩ = some (.int .i64 (K.t : Int)) ∧ w'.cell? ⟨WB, 2, none⟩ = some (Pw X.pB)) w1.drew) := Lib.hid ⟨k0, HA.out.pg.c.2.1⟩
  clear hA
  refine wp_region_held_drew (S := fun w' => w'.cell? ⟨Q, 0, none⟩ = some (.int .i64 (K.t : Int)) ∧ w'.cell? ⟨WB, 2, none⟩ = some (Pw X.pB)) (by kernel_rfl) ?_ (fun hHeld => ?_)
  · exact HF.out
  refine wpAnyH_take (i := 0) (oi := ({ dst := some 6, op := Op.move (Operand.tmp 2), type := 33, pos := "wordlocks.go:83", after := #[], guard := none } : Oper)) (v := ?vpm1) rfl (by kernel_rfl) (by kernel_rfl) (by kernel_rfl) (fun _ _ _ h => h) (Or.inl ⟨by rfl, fun w hSw => ?hypm1⟩) (by assumption) ?rpm1
  case hypm1 => (try dsimp only at hSw); go_simp; (try with_reducible rfl)
  (try simp only [Act.put, List.setIfInBounds_toArray, List.set_cons_zero, List.set_cons_succ])
  refine wpAnyH_take (i := 1) (oi := ({ dst := some 7, op := Op.nilCheck (Operand.tmp 6), type := 0, pos := "wordlocks.go:83", after := #[{ on := 0, ground := Ground.data }], guard := none } : Oper)) (v := ?vpm2) rfl (by kernel_rfl) (by kernel_rfl) (by kernel_rfl) (fun _ _ _ h => h) (Or.inl ⟨by rfl, fun w hSw => ?hypm2⟩) (by assumption) ?rpm2
  case hypm2 => (try dsimp only at hSw); go_simp; (try with_reducible rfl)
  (try simp only [Act.put, List.setIfInBounds_toArray, List.set_cons_zero, List.set_cons_succ])
  refine wpAnyH_take (i := 2) (oi := ({ dst := some 8, op := Op.fieldAddr 74 (Operand.tmp 7) 2, type := 0, pos := "wordlocks.go:83", after := #[{ on := 1, ground := Ground.data }], guard := none } : Oper)) (v := ?vpm3) rfl (by kernel_rfl) (by kernel_rfl) (by kernel_rfl) (fun _ _ _ h => h) (Or.inl ⟨by rfl, fun w hSw => ?hypm3⟩) (by assumption) ?rpm3
  case hypm3 => (try dsimp only at hSw); go_simp; (try with_reducible rfl)
  (try simp only [Act.put, List.setIfInBounds_toArray, List.set_cons_zero, List.set_cons_succ])
  refine wpAnyH_take (i := 3) (oi := ({ dst := some 9, op := Op.load 68 (Operand.tmp 8), type := 68, pos := "wordlocks.go:83", after := #[{ on := 2, ground := Ground.data }], guard := none } : Oper)) (v := ?vpm4) rfl (by kernel_rfl) (by kernel_rfl) (by kernel_rfl) (fun _ _ _ h => h) (Or.inl ⟨by rfl, fun w hSw => ?hypm4⟩) (by assumption) ?rpm4
  case hypm4 => (try dsimp only at hSw); go_simp; (try with_reducible rfl)
  (try simp only [Act.put, List.setIfInBounds_toArray, List.set_cons_zero, List.set_cons_succ])
  refine wpAnyH_take (i := 4) (oi := ({ dst := some 10, op := Op.fieldAddr 115 (Operand.tmp 3) 0, type := 0, pos := "wordlocks.go:83", after := #[], guard := none } : Oper)) (v := ?vpm5) rfl (by kernel_rfl) (by kernel_rfl) (by kernel_rfl) (fun _ _ _ h => h) (Or.inl ⟨by rfl, fun w hSw => ?hypm5⟩) (by assumption) ?rpm5
  case hypm5 => (try dsimp only at hSw); go_simp; (try with_reducible rfl)
  (try simp only [Act.put, List.setIfInBounds_toArray, List.set_cons_zero, List.set_cons_succ])
  refine wpAnyH_take (i := 5) (oi := ({ dst := some 11, op := Op.load 3 (Operand.tmp 10), type := 3, pos := "wordlocks.go:83", after := #[{ on := 4, ground := Ground.data }], guard := none } : Oper)) (v := ?vpm6) rfl (by kernel_rfl) (by kernel_rfl) (by kernel_rfl) (fun _ _ _ h => h) (Or.inl ⟨by rfl, fun w hSw => ?hypm6⟩) (by assumption) ?rpm6
  case hypm6 => (try dsimp only at hSw); go_simp; (try with_reducible rfl)
  (try simp only [Act.put, List.setIfInBounds_toArray, List.set_cons_zero, List.set_cons_succ])
  refine wpAnyH_ready (rs := [6]) (by kernel_rfl) (by simp) ?_
  refine AllReadyH.cons (o := ({ dst := some 12, op := Op.call { callee := Callee.value (Operand.func 22), args := #[Operand.tmp 11], argTypes := #[3] }, type := 3, pos := "wordlocks.go:83", after := #[{ on := 5, ground := Ground.data }], guard := none } : Oper)) rfl (fun Kq hKq => ?_) AllReadyH.nil
  go_simp
  (refine (HT.out _).mono ?_; rintro e w2 ⟨rfl, rfl⟩)
  refine hKq.out _ _ ?_ (fun hHeld => ?_)
  · exact hHeld
  clear hKq Kq
  (try simp only [Act.put, List.setIfInBounds_toArray, List.set_cons_zero, List.set_cons_succ])
  refine wpAnyH_ready (rs := [7]) (by kernel_rfl) (by simp) ?_
  refine AllReadyH.cons (o := ({ dst := some 13, op := Op.call { callee := Callee.value (Operand.func 158), args := #[Operand.tmp 9, Operand.tmp 12], argTypes := #[68, 3] }, type := 0, pos := "wordlocks.go:83", after := #[{ on := 3, ground := Ground.data }, { on := 6, ground := Ground.data }, { on := 6, ground := Ground.chain }], guard := none } : Oper)) rfl (fun Kq hKq => ?_) AllReadyH.nil
  go_simp
  (refine HC.out.mono ?_; rintro e w3 ⟨rfl, X3, h3g, hpB⟩; have h3 : Wl w0 w3 base WB (M.prep (2 * K.t + 1)) (r ++ [blockP Q (.cells #[.int .i64 (K.t : Int), .int .u32 (K.a : Int)] 115)]) j B K X3 := ⟨h3g, HA.out.hj⟩; have q3 := h3.pg.c.2.1; rw [hpB] at q3; have hl := h3.last HJ.out)
  refine hKq.out _ _ ?_ (fun hHeld => ?_)
  · exact ⟨cell_row hl 0, q3⟩
  clear hKq Kq
  (try simp only [Act.put, List.setIfInBounds_toArray, List.set_cons_zero, List.set_cons_succ])
  refine wpAnyH_done (by kernel_rfl) ?_ _
  clear HF
  have HF : Hid ((fun w' => w'.cell? ⟨Q, 0, none⟩ = some (.int .i64 (K.t : Int)) ∧ w'.cell? ⟨WB, 3, none⟩ = some (Pw X3.lB) ∧ w'.cell? ⟨B, 1, none⟩ = some (.int .u64 (K.st : Int))) w3.drew) := Lib.hid ⟨cell_row hl 0, h3.pg.c.2.2.1, h3.b1⟩
  have H3 := Lib.hid h3
  have hfd := field_hd b0 b1 hd
  clear hHeld q3 hl h3 h3g hpB k0 k1
  go_upto_region 2 with (fail)
  refine wp_region_held_drew (S := fun w' => w'.cell? ⟨Q, 0, none⟩ = some (.int .i64 (K.t : Int)) ∧ w'.cell? ⟨WB, 3, none⟩ = some (Pw X3.lB) ∧ w'.cell? ⟨B, 1, none⟩ = some (.int .u64 (K.st : Int))) (by kernel_rfl) ?_ (fun hHeld => ?_)
  · exact HF.out
  refine wpAnyH_take (i := 0) (oi := ({ dst := some 14, op := Op.move (Operand.tmp 2), type := 33, pos := "wordlocks.go:84", after := #[], guard := none } : Oper)) (v := ?vqm1) rfl (by kernel_rfl) (by kernel_rfl) (by kernel_rfl) (fun _ _ _ h => h) (Or.inl ⟨by rfl, fun w hSw => ?hyqm1⟩) (by assumption) ?rqm1
  case hyqm1 => (try dsimp only at hSw); go_simp; (try with_reducible rfl)
  (try simp only [Act.put, List.setIfInBounds_toArray, List.set_cons_zero, List.set_cons_succ])
  refine wpAnyH_take (i := 1) (oi := ({ dst := some 15, op := Op.nilCheck (Operand.tmp 14), type := 0, pos := "wordlocks.go:84", after := #[{ on := 0, ground := Ground.data }], guard := none } : Oper)) (v := ?vqm2) rfl (by kernel_rfl) (by kernel_rfl) (by kernel_rfl) (fun _ _ _ h => h) (Or.inl ⟨by rfl, fun w hSw => ?hyqm2⟩) (by assumption) ?rqm2
  case hyqm2 => (try dsimp only at hSw); go_simp; (try with_reducible rfl)
  (try simp only [Act.put, List.setIfInBounds_toArray, List.set_cons_zero, List.set_cons_succ])
  refine wpAnyH_take (i := 2) (oi := ({ dst := some 16, op := Op.fieldAddr 74 (Operand.tmp 15) 3, type := 0, pos := "wordlocks.go:84", after := #[{ on := 1, ground := Ground.data }], guard := none } : Oper)) (v := ?vqm3) rfl (by kernel_rfl) (by kernel_rfl) (by kernel_rfl) (fun _ _ _ h => h) (Or.inl ⟨by rfl, fun w hSw => ?hyqm3⟩) (by assumption) ?rqm3
  case hyqm3 => (try dsimp only at hSw); go_simp; (try with_reducible rfl)
  (try simp only [Act.put, List.setIfInBounds_toArray, List.set_cons_zero, List.set_cons_succ])
  refine wpAnyH_take (i := 3) (oi := ({ dst := some 17, op := Op.load 69 (Operand.tmp 16), type := 69, pos := "wordlocks.go:84", after := #[{ on := 2, ground := Ground.data }], guard := none } : Oper)) (v := ?vqm4) rfl (by kernel_rfl) (by kernel_rfl) (by kernel_rfl) (fun _ _ _ h => h) (Or.inl ⟨by rfl, fun w hSw => ?hyqm4⟩) (by assumption) ?rqm4
  case hyqm4 => (try dsimp only at hSw); go_simp; (try with_reducible rfl)
  (try simp only [Act.put, List.setIfInBounds_toArray, List.set_cons_zero, List.set_cons_succ])
  refine wpAnyH_take (i := 4) (oi := ({ dst := some 18, op := Op.fieldAddr 115 (Operand.tmp 3) 0, type := 0, pos := "wordlocks.go:84", after := #[], guard := none } : Oper)) (v := ?vqm5) rfl (by kernel_rfl) (by kernel_rfl) (by kernel_rfl) (fun _ _ _ h => h) (Or.inl ⟨by rfl, fun w hSw => ?hyqm5⟩) (by assumption) ?rqm5
  case hyqm5 => (try dsimp only at hSw); go_simp; (try with_reducible rfl)
  (try simp only [Act.put, List.setIfInBounds_toArray, List.set_cons_zero, List.set_cons_succ])
  refine wpAnyH_take (i := 5) (oi := ({ dst := some 19, op := Op.load 3 (Operand.tmp 18), type := 3, pos := "wordlocks.go:84", after := #[{ on := 4, ground := Ground.data }], guard := none } : Oper)) (v := ?vqm6) rfl (by kernel_rfl) (by kernel_rfl) (by kernel_rfl) (fun _ _ _ h => h) (Or.inl ⟨by rfl, fun w hSw => ?hyqm6⟩) (by assumption) ?rqm6
  case hyqm6 => (try dsimp only at hSw); go_simp; (try with_reducible rfl)
  (try simp only [Act.put, List.setIfInBounds_toArray, List.set_cons_zero, List.set_cons_succ])
  refine wpAnyH_take (i := 6) (oi := ({ dst := some 20, op := Op.move (Operand.tmp 1), type := 45, pos := "wordlocks.go:84", after := #[], guard := none } : Oper)) (v := ?vqm7) rfl (by kernel_rfl) (by kernel_rfl) (by kernel_rfl) (fun _ _ _ h => h) (Or.inl ⟨by rfl, fun w hSw => ?hyqm7⟩) (by assumption) ?rqm7
  case hyqm7 => (try dsimp only at hSw); go_simp; (try with_reducible rfl)
  (try simp only [Act.put, List.setIfInBounds_toArray, List.set_cons_zero, List.set_cons_succ])
  refine wpAnyH_take (i := 7) (oi := ({ dst := some 21, op := Op.nilCheck (Operand.tmp 20), type := 0, pos := "wordlocks.go:84", after := #[{ on := 6, ground := Ground.data }], guard := none } : Oper)) (v := ?vqm8) rfl (by kernel_rfl) (by kernel_rfl) (by kernel_rfl) (fun _ _ _ h => h) (Or.inl ⟨by rfl, fun w hSw => ?hyqm8⟩) (by assumption) ?rqm8
  case hyqm8 => (try dsimp only at hSw); go_simp; (try with_reducible rfl)
  (try simp only [Act.put, List.setIfInBounds_toArray, List.set_cons_zero, List.set_cons_succ])
  refine wpAnyH_take (i := 8) (oi := ({ dst := some 22, op := Op.fieldAddr 64 (Operand.tmp 21) 1, type := 0, pos := "wordlocks.go:84", after := #[{ on := 7, ground := Ground.data }], guard := none } : Oper)) (v := ?vqm9) rfl (by kernel_rfl) (by kernel_rfl) (by kernel_rfl) (fun _ _ _ h => h) (Or.inl ⟨by rfl, fun w hSw => ?hyqm9⟩) (by assumption) ?rqm9
  case hyqm9 => (try dsimp only at hSw); go_simp; (try with_reducible rfl)
  (try simp only [Act.put, List.setIfInBounds_toArray, List.set_cons_zero, List.set_cons_succ])
  refine wpAnyH_take (i := 9) (oi := ({ dst := some 23, op := Op.load 22 (Operand.tmp 22), type := 22, pos := "wordlocks.go:84", after := #[{ on := 8, ground := Ground.data }], guard := none } : Oper)) (v := ?vqm10) rfl (by kernel_rfl) (by kernel_rfl) (by kernel_rfl) (fun _ _ _ h => h) (Or.inl ⟨by rfl, fun w hSw => ?hyqm10⟩) (by assumption) ?rqm10
  case hyqm10 => (try dsimp only at hSw); go_simp; (try with_reducible rfl)
  (try simp only [Act.put, List.setIfInBounds_toArray, List.set_cons_zero, List.set_cons_succ])
  refine wpAnyH_ready (rs := [10]) (by kernel_rfl) (by simp) ?_
  refine AllReadyH.cons (o := ({ dst := some 24, op := Op.call { callee := Callee.value (Operand.func 147), args := #[Operand.tmp 23], argTypes := #[22] }, type := 215, pos := "wordlocks.go:84", after := #[{ on := 9, ground := Ground.data }], guard := none } : Oper)) rfl (fun Kq hKq => ?_) AllReadyH.nil
  go_simp
  (refine (HAS.out _).mono ?_; rintro e w4 ⟨rfl, hb4⟩; have HPQ := Lib.hid (HPU.out w4 X3 ((H3.out.new (Below.refl _ _).drew).new hb4).pg))
  refine hKq.out _ _ ?_ (fun hHeld => ?_)
  · exact ⟨bcell hb4 hHeld.1, bcell hb4 hHeld.2.1, bcell hb4 hHeld.2.2⟩
  clear hKq Kq
  (try simp only [Act.put, List.setIfInBounds_toArray, List.set_cons_zero, List.set_cons_succ])
  refine wpAnyH_take (i := 11) (oi := ({ dst := some 25, op := Op.field 215 (Operand.tmp 24) 2, type := 3, pos := "wordlocks.go:84", after := #[{ on := 10, ground := Ground.data }], guard := none } : Oper)) (v := ?vqm11) rfl (by kernel_rfl) (by kernel_rfl) (by kernel_rfl) (fun _ _ _ h => h) (Or.inl ⟨by rfl, fun w hSw => ?hyqm11⟩) (by assumption) ?rqm11
  case hyqm11 => (try dsimp only at hSw); go_simp; (try with_reducible rfl)
  (try simp only [Act.put, List.setIfInBounds_toArray, List.set_cons_zero, List.set_cons_succ])
  refine wpAnyH_ready (rs := [12]) (by kernel_rfl) (by simp) ?_
  refine AllReadyH.cons (o := ({ dst := some 26, op := Op.call { callee := Callee.value (Operand.func 159), args := #[Operand.tmp 17, Operand.tmp 19, Operand.tmp 25], argTypes := #[69, 3, 3] }, type := 0, pos := "wordlocks.go:84", after := #[{ on := 3, ground := Ground.data }, { on := 5, ground := Ground.data }, { on := 11, ground := Ground.data }, { on := 10, ground := Ground.chain }], guard := none } : Oper)) rfl (fun Kq hKq => ?_) AllReadyH.nil
  go_simp
  (refine HPQ.out.mono ?_; rintro e w5 ⟨rfl, X5, h5g, hlB⟩; have h5 : Wl w0 w5 base WB ((M.prep (2 * K.t + 1)).link (S5.pushS (M.prep (2 * K.t + 1)).lk (some K.t) (hdO K.st))) (r ++ [blockP Q (.cells #[.int .i64 (K.t : Int), .int .u32 (K.a : Int)] 115)]) j B K X5 := ⟨h5g, HA.out.hj⟩; have q5 := h5.pg.c.2.2.1; rw [hlB] at q5; have hl5 := h5.last HJ.out; have b5 := h5.b1)
  refine hKq.out _ _ ?_ (fun hHeld => ?_)
  · exact ⟨cell_row hl5 0, q5, b5⟩
  clear hKq Kq
  (try simp only [Act.put, List.setIfInBounds_toArray, List.set_cons_zero, List.set_cons_succ])
  refine wpAnyH_done (by kernel_rfl) ?_ _
  have k0 := cell_row hl5 0; have k1 := cell_row hl5 1
  simp only [List.getElem?_toArray, List.getElem?_cons_zero, List.getElem?_cons_succ] at k0 k1
  have c0 := h5.b0; have z0 := h5.fz 0
  have H5 := Lib.hid h5
  clear hHeld q5 hl5 b5 h5 h5g hlB hb4 HF
  go_wp2_with fail
  go_end0
  exact ⟨rfl, X5, (H5.out.next HH6.out 5 (by decide) _ rfl).dropB HJ.out⟩
set_option maxRecDepth 100000 in
set_option maxHeartbeats 4000000 in
theorem park_l (h : Wl w0 w base WB M r j B K X) (ok : LkOk M K) (hl : K.ln = 6) : Calls Tryz.prog 173 #[askV K.t K.a, Pw B, Pw WB] w fun e w' => e = .returned (.tuple #[]) ∧ Stepped w0 w' base WB M r j B K := by
  unfold Stepped
  rw [show stepM M K = _ from by simp only [stepM, hl]; rfl, show stepK M K = _ from by simp only [stepK, hl]; rfl]
  have hj := h.hj
  have hA := h.pushB (.cells #[.int .i64 (K.t : Int), .int .u32 (K.a : Int)] 115)
  have k0 := cell_row (heap_alloc_new w (.cells #[.int .i64 (K.t : Int), .int .u32 (K.a : Int)] 115)) 0; have k1 := cell_row (heap_alloc_new w (.cells #[.int .i64 (K.t : Int), .int .u32 (K.a : Int)] 115)) 1
  simp only [List.getElem?_toArray, List.getElem?_cons_zero, List.getElem?_cons_succ] at k0 k1
  obtain ⟨Q, hQ⟩ : ∃ Q, Q = w.heap.size := ⟨_, rfl⟩
  rw [← hQ] at hA k0 k1
  have HA := Lib.hid hA; have HJ := Lib.hid hj; have HQ := Lib.hid hQ
  obtain ⟨g, hg⟩ : ∃ g, g = (M.pf (2 * K.t + 1)).p := ⟨_, rfl⟩
  have HT := Lib.hid (fun W => word_any K.t ok.t W)
  have HC := Lib.hid ((hA.new (Below.refl _ _).drew).pg.park ok.pn (i := 2 * K.t + 1) (by have := ok.t; omega))
  rw [← hg] at HC ⊢
  have H6 := Lib.hid hl
  clear ok hl hg
  clear h hj hQ
  go_enter Tryz.func173, Tryz.ntmps173
  go_upto_region 1 with (fail)
  rw [← HQ.out]
  generalize w.alloc (.cells #[.int .i64 (K.t : Int), .int .u32 (K.a : Int)] 115) = w1 at *
  have HF : Hid ((fun w' => w'.cell? ⟨Q, 0, none⟩ = some (.int .i64 (K.t : Int)) ∧ w'.cell? ⟨WB, 2, none⟩ = some (Pw X.pB)) w1.drew) := Lib.hid ⟨k0, HA.out.pg.c.2.1⟩
  clear hA
  cases g
  · refine wp_region_held_drew (S := fun w' => w'.cell? ⟨Q, 0, none⟩ = some (.int .i64 (K.t : Int)) ∧ w'.cell? ⟨WB, 2, none⟩ = some (Pw X.pB)) (by kernel_rfl) ?_ (fun hHeld => ?_)
    · exact HF.out
    refine wpAnyH_take (i := 0) (oi := ({ dst := some 6, op := Op.move (Operand.tmp 2), type := 33, pos := "wordlocks.go:99", after := #[], guard := none } : Oper)) (v := ?vum1) rfl (by kernel_rfl) (by kernel_rfl) (by kernel_rfl) (fun _ _ _ h => h) (Or.inl ⟨by rfl, fun w hSw => ?hyum1⟩) (by assumption) ?rum1
    case hyum1 => (try dsimp only at hSw); go_simp; (try with_reducible rfl)
    (try simp only [Act.put, List.setIfInBounds_toArray, List.set_cons_zero, List.set_cons_succ])
    refine wpAnyH_take (i := 1) (oi := ({ dst := some 7, op := Op.nilCheck (Operand.tmp 6), type := 0, pos := "wordlocks.go:99", after := #[{ on := 0, ground := Ground.data }], guard := none } : Oper)) (v := ?vum2) rfl (by kernel_rfl) (by kernel_rfl) (by kernel_rfl) (fun _ _ _ h => h) (Or.inl ⟨by rfl, fun w hSw => ?hyum2⟩) (by assumption) ?rum2
    case hyum2 => (try dsimp only at hSw); go_simp; (try with_reducible rfl)
    (try simp only [Act.put, List.setIfInBounds_toArray, List.set_cons_zero, List.set_cons_succ])
    refine wpAnyH_take (i := 2) (oi := ({ dst := some 8, op := Op.fieldAddr 74 (Operand.tmp 7) 2, type := 0, pos := "wordlocks.go:99", after := #[{ on := 1, ground := Ground.data }], guard := none } : Oper)) (v := ?vum3) rfl (by kernel_rfl) (by kernel_rfl) (by kernel_rfl) (fun _ _ _ h => h) (Or.inl ⟨by rfl, fun w hSw => ?hyum3⟩) (by assumption) ?rum3
    case hyum3 => (try dsimp only at hSw); go_simp; (try with_reducible rfl)
    (try simp only [Act.put, List.setIfInBounds_toArray, List.set_cons_zero, List.set_cons_succ])
    refine wpAnyH_take (i := 3) (oi := ({ dst := some 9, op := Op.load 68 (Operand.tmp 8), type := 68, pos := "wordlocks.go:99", after := #[{ on := 2, ground := Ground.data }], guard := none } : Oper)) (v := ?vum4) rfl (by kernel_rfl) (by kernel_rfl) (by kernel_rfl) (fun _ _ _ h => h) (Or.inl ⟨by rfl, fun w hSw => ?hyum4⟩) (by assumption) ?rum4
    case hyum4 => (try dsimp only at hSw); go_simp; (try with_reducible rfl)
    (try simp only [Act.put, List.setIfInBounds_toArray, List.set_cons_zero, List.set_cons_succ])
    refine wpAnyH_take (i := 4) (oi := ({ dst := some 10, op := Op.fieldAddr 115 (Operand.tmp 3) 0, type := 0, pos := "wordlocks.go:99", after := #[], guard := none } : Oper)) (v := ?vum5) rfl (by kernel_rfl) (by kernel_rfl) (by kernel_rfl) (fun _ _ _ h => h) (Or.inl ⟨by rfl, fun w hSw => ?hyum5⟩) (by assumption) ?rum5
    case hyum5 => (try dsimp only at hSw); go_simp; (try with_reducible rfl)
    (try simp only [Act.put, List.setIfInBounds_toArray, List.set_cons_zero, List.set_cons_succ])
    refine wpAnyH_take (i := 5) (oi := ({ dst := some 11, op := Op.load 3 (Operand.tmp 10), type := 3, pos := "wordlocks.go:99", after := #[{ on := 4, ground := Ground.data }], guard := none } : Oper)) (v := ?vum6) rfl (by kernel_rfl) (by kernel_rfl) (by kernel_rfl) (fun _ _ _ h => h) (Or.inl ⟨by rfl, fun w hSw => ?hyum6⟩) (by assumption) ?rum6
    case hyum6 => (try dsimp only at hSw); go_simp; (try with_reducible rfl)
    (try simp only [Act.put, List.setIfInBounds_toArray, List.set_cons_zero, List.set_cons_succ])
    refine wpAnyH_ready (rs := [6]) (by kernel_rfl) (by simp) ?_
    refine AllReadyH.cons (o := ({ dst := some 12, op := Op.call { callee := Callee.value (Operand.func 22), args := #[Operand.tmp 11], argTypes := #[3] }, type := 3, pos := "wordlocks.go:99", after := #[{ on := 5, ground := Ground.data }], guard := none } : Oper)) rfl (fun Kq hKq => ?_) AllReadyH.nil
    go_simp
    (refine (HT.out _).mono ?_; rintro e w2 ⟨rfl, rfl⟩)
    refine hKq.out _ _ ?_ (fun hHeld => ?_)
    · exact hHeld
    clear hKq Kq
    (try simp only [Act.put, List.setIfInBounds_toArray, List.set_cons_zero, List.set_cons_succ])
    refine wpAnyH_ready (rs := [7]) (by kernel_rfl) (by simp) ?_
    refine AllReadyH.cons (o := ({ dst := some 13, op := Op.call { callee := Callee.value (Operand.func 179), args := #[Operand.tmp 9, Operand.tmp 12], argTypes := #[68, 3] }, type := 292, pos := "wordlocks.go:99", after := #[{ on := 3, ground := Ground.data }, { on := 6, ground := Ground.data }, { on := 6, ground := Ground.chain }], guard := none } : Oper)) rfl (fun Kq hKq => ?_) AllReadyH.nil
    go_simp
    (refine HC.out.mono ?_; rintro e w3 ⟨rfl, X3, h3g, hpB⟩; have h3 : Wl w0 w3 base WB (M.park (2 * K.t + 1)) (r ++ [blockP Q (.cells #[.int .i64 (K.t : Int), .int .u32 (K.a : Int)] 115)]) j B K X3 := ⟨h3g, HA.out.hj⟩; have q3 := h3.pg.c.2.1; rw [hpB] at q3; have hl := h3.last HJ.out)
    refine hKq.out _ _ ?_ (fun hHeld => ?_)
    · exact ⟨cell_row hl 0, q3⟩
    clear hKq Kq
    (try simp only [Act.put, List.setIfInBounds_toArray, List.set_cons_zero, List.set_cons_succ])
    refine wpAnyH_take (i := 8) (oi := ({ dst := some 14, op := Op.binOp BinOp.neq 292 (Operand.tmp 13) (Operand.const (Value.int IntKind.u8 1)) 292, type := 4, pos := "wordlocks.go:99", after := #[{ on := 7, ground := Ground.data }], guard := none } : Oper)) (v := ?vum7) rfl (by kernel_rfl) (by kernel_rfl) (by kernel_rfl) (fun _ _ _ h => h) (Or.inl ⟨by rfl, fun w hSw => ?hyum7⟩) (by assumption) ?rum7
    case hyum7 => (try dsimp only at hSw); go_simp; (try with_reducible rfl)
    (try simp only [Act.put, List.setIfInBounds_toArray, List.set_cons_zero, List.set_cons_succ])
    refine wpAnyH_done (by kernel_rfl) ?_ _
    have H3 := Lib.hid h3
    clear hHeld q3 hl h3 h3g hpB HF k0 k1
    go_wp2_with fail
    (try simp only [Exit.inBlock, Exit.then])
    refine bodyPost_ret (results_none rfl _ _ _) rfl ⟨rfl, X3, H3.out.dropB HJ.out⟩
  · refine wp_region_held_drew (S := fun w' => w'.cell? ⟨Q, 0, none⟩ = some (.int .i64 (K.t : Int)) ∧ w'.cell? ⟨WB, 2, none⟩ = some (Pw X.pB)) (by kernel_rfl) ?_ (fun hHeld => ?_)
    · exact HF.out
    refine wpAnyH_take (i := 0) (oi := ({ dst := some 6, op := Op.move (Operand.tmp 2), type := 33, pos := "wordlocks.go:99", after := #[], guard := none } : Oper)) (v := ?vvm1) rfl (by kernel_rfl) (by kernel_rfl) (by kernel_rfl) (fun _ _ _ h => h) (Or.inl ⟨by rfl, fun w hSw => ?hyvm1⟩) (by assumption) ?rvm1
    case hyvm1 => (try dsimp only at hSw); go_simp; (try with_reducible rfl)
    (try simp only [Act.put, List.setIfInBounds_toArray, List.set_cons_zero, List.set_cons_succ])
    refine wpAnyH_take (i := 1) (oi := ({ dst := some 7, op := Op.nilCheck (Operand.tmp 6), type := 0, pos := "wordlocks.go:99", after := #[{ on := 0, ground := Ground.data }], guard := none } : Oper)) (v := ?vvm2) rfl (by kernel_rfl) (by kernel_rfl) (by kernel_rfl) (fun _ _ _ h => h) (Or.inl ⟨by rfl, fun w hSw => ?hyvm2⟩) (by assumption) ?rvm2
    case hyvm2 => (try dsimp only at hSw); go_simp; (try with_reducible rfl)
    (try simp only [Act.put, List.setIfInBounds_toArray, List.set_cons_zero, List.set_cons_succ])
    refine wpAnyH_take (i := 2) (oi := ({ dst := some 8, op := Op.fieldAddr 74 (Operand.tmp 7) 2, type := 0, pos := "wordlocks.go:99", after := #[{ on := 1, ground := Ground.data }], guard := none } : Oper)) (v := ?vvm3) rfl (by kernel_rfl) (by kernel_rfl) (by kernel_rfl) (fun _ _ _ h => h) (Or.inl ⟨by rfl, fun w hSw => ?hyvm3⟩) (by assumption) ?rvm3
    case hyvm3 => (try dsimp only at hSw); go_simp; (try with_reducible rfl)
    (try simp only [Act.put, List.setIfInBounds_toArray, List.set_cons_zero, List.set_cons_succ])
    refine wpAnyH_take (i := 3) (oi := ({ dst := some 9, op := Op.load 68 (Operand.tmp 8), type := 68, pos := "wordlocks.go:99", after := #[{ on := 2, ground := Ground.data }], guard := none } : Oper)) (v := ?vvm4) rfl (by kernel_rfl) (by kernel_rfl) (by kernel_rfl) (fun _ _ _ h => h) (Or.inl ⟨by rfl, fun w hSw => ?hyvm4⟩) (by assumption) ?rvm4
    case hyvm4 => (try dsimp only at hSw); go_simp; (try with_reducible rfl)
    (try simp only [Act.put, List.setIfInBounds_toArray, List.set_cons_zero, List.set_cons_succ])
    refine wpAnyH_take (i := 4) (oi := ({ dst := some 10, op := Op.fieldAddr 115 (Operand.tmp 3) 0, type := 0, pos := "wordlocks.go:99", after := #[], guard := none } : Oper)) (v := ?vvm5) rfl (by kernel_rfl) (by kernel_rfl) (by kernel_rfl) (fun _ _ _ h => h) (Or.inl ⟨by rfl, fun w hSw => ?hyvm5⟩) (by assumption) ?rvm5
    case hyvm5 => (try dsimp only at hSw); go_simp; (try with_reducible rfl)
    (try simp only [Act.put, List.setIfInBounds_toArray, List.set_cons_zero, List.set_cons_succ])
    refine wpAnyH_take (i := 5) (oi := ({ dst := some 11, op := Op.load 3 (Operand.tmp 10), type := 3, pos := "wordlocks.go:99", after := #[{ on := 4, ground := Ground.data }], guard := none } : Oper)) (v := ?vvm6) rfl (by kernel_rfl) (by kernel_rfl) (by kernel_rfl) (fun _ _ _ h => h) (Or.inl ⟨by rfl, fun w hSw => ?hyvm6⟩) (by assumption) ?rvm6
    case hyvm6 => (try dsimp only at hSw); go_simp; (try with_reducible rfl)
    (try simp only [Act.put, List.setIfInBounds_toArray, List.set_cons_zero, List.set_cons_succ])
    refine wpAnyH_ready (rs := [6]) (by kernel_rfl) (by simp) ?_
    refine AllReadyH.cons (o := ({ dst := some 12, op := Op.call { callee := Callee.value (Operand.func 22), args := #[Operand.tmp 11], argTypes := #[3] }, type := 3, pos := "wordlocks.go:99", after := #[{ on := 5, ground := Ground.data }], guard := none } : Oper)) rfl (fun Kq hKq => ?_) AllReadyH.nil
    go_simp
    (refine (HT.out _).mono ?_; rintro e w2 ⟨rfl, rfl⟩)
    refine hKq.out _ _ ?_ (fun hHeld => ?_)
    · exact hHeld
    clear hKq Kq
    (try simp only [Act.put, List.setIfInBounds_toArray, List.set_cons_zero, List.set_cons_succ])
    refine wpAnyH_ready (rs := [7]) (by kernel_rfl) (by simp) ?_
    refine AllReadyH.cons (o := ({ dst := some 13, op := Op.call { callee := Callee.value (Operand.func 179), args := #[Operand.tmp 9, Operand.tmp 12], argTypes := #[68, 3] }, type := 292, pos := "wordlocks.go:99", after := #[{ on := 3, ground := Ground.data }, { on := 6, ground := Ground.data }, { on := 6, ground := Ground.chain }], guard := none } : Oper)) rfl (fun Kq hKq => ?_) AllReadyH.nil
    go_simp
    (refine HC.out.mono ?_; rintro e w3 ⟨rfl, X3, h3g, hpB⟩; have h3 : Wl w0 w3 base WB (M.park (2 * K.t + 1)) (r ++ [blockP Q (.cells #[.int .i64 (K.t : Int), .int .u32 (K.a : Int)] 115)]) j B K X3 := ⟨h3g, HA.out.hj⟩; have q3 := h3.pg.c.2.1; rw [hpB] at q3; have hl := h3.last HJ.out)
    refine hKq.out _ _ ?_ (fun hHeld => ?_)
    · exact ⟨cell_row hl 0, q3⟩
    clear hKq Kq
    (try simp only [Act.put, List.setIfInBounds_toArray, List.set_cons_zero, List.set_cons_succ])
    refine wpAnyH_take (i := 8) (oi := ({ dst := some 14, op := Op.binOp BinOp.neq 292 (Operand.tmp 13) (Operand.const (Value.int IntKind.u8 1)) 292, type := 4, pos := "wordlocks.go:99", after := #[{ on := 7, ground := Ground.data }], guard := none } : Oper)) (v := ?vvm7) rfl (by kernel_rfl) (by kernel_rfl) (by kernel_rfl) (fun _ _ _ h => h) (Or.inl ⟨by rfl, fun w hSw => ?hyvm7⟩) (by assumption) ?rvm7
    case hyvm7 => (try dsimp only at hSw); go_simp; (try with_reducible rfl)
    (try simp only [Act.put, List.setIfInBounds_toArray, List.set_cons_zero, List.set_cons_succ])
    refine wpAnyH_done (by kernel_rfl) ?_ _
    have HBG := Lib.hid (begin_l h3)
    clear hHeld q3 hl h3 h3g hpB HF k0 k1
    go_upto_region 3 with (go_at_call 89; refine HBG.out.mono ?_; rintro e w4 ⟨rfl, h4⟩)
    have hl := h4.last HJ.out
    have k0 := cell_row hl 0; have k1 := cell_row hl 1
    simp only [List.getElem?_toArray, List.getElem?_cons_zero, List.getElem?_cons_succ] at k0 k1
    have c0 := h4.b0; have z0 := h4.fz 0; have c3 := h4.b3; have z3 := h4.fz 3
    have H4 := Lib.hid h4
    clear hl h4 HBG
    go_wp2_with fail
    go_end0
    exact ⟨rfl, X3, (H4.out.next2 3 _ rfl false rfl).dropB HJ.out⟩
end
end Go.Proofs.YtffoobepdofkkaaGreat.S13
namespace Go.Proofs.YtffoobepdofkkaaGreat.S13
open Go.Proofs.YtffoobepdofkkaaGreat Go.Proofs.YtffoobepdofkkaaGreat.S11 Go.Proofs.YtffoobepdofkkaaGreat.S12
open Go.RowKit

theorem over_nil (w : World) : Calls Tryz.prog 16 #[.pointer none] w fun e w' => e = .returned (.bool true) ∧ w = w' := by
  go_enter Tryz.func16, Tryz.ntmps16
  go_wp2_with fail
  go_ret
  exact ⟨rfl, rfl⟩
theorem waits_nil (w : World) : Calls Tryz.prog 17 #[.pointer none] w fun e w' => e = .returned (.bool false) ∧ w = w' := by
  go_enter Tryz.func17, Tryz.ntmps17
  go_wp2_with fail
  go_ret
  exact ⟨rfl, rfl⟩
theorem eqlN (w : World) : (binOp .eql 61 .nilFunc .nilFunc).run Tryz.prog w = .ok (.bool true) w := by kernel_rfl
theorem eqlF (f : Fn) (x y : Array Value) (w : World) : (binOp .eql 61 (.func f x y) .nilFunc).run Tryz.prog w = .ok (.bool false) w := by kernel_rfl
/-- What a lock in memory is. -/
def LkAt (w : World) (B : Nat) (K : Lk) : Prop := w.heap[B]? = some (.cells K.cs 64 (0, 0))
set_option maxRecDepth 100000 in
theorem over_any {w : World} {B : Nat} {K : Lk} (h : LkAt w B K) (h6 : K.ln ≤ 6) : Calls Tryz.prog 16 #[Pw B] w fun e w' => e = .returned (.bool (decide (K.ln = 0))) ∧ w = w' := by
  have c0 : w.cell? ⟨B, 0, none⟩ = some (nxV K.t K.a K.ln) := cell_row h 0
  obtain ⟨n, hn⟩ : ∃ n, n = K.ln := ⟨_, rfl⟩
  rw [← hn] at c0 h6 ⊢
  clear h hn
  match n, h6 with
  | 0, _ =>
    simp only [nxV] at c0
    have he1 := eqlN
    have he2 := eqlF
    go_enter Tryz.func16, Tryz.ntmps16
    go_wp2_with fail
    go_ret
    exact ⟨rfl, rfl⟩
  | 1, _ =>
    simp only [nxV] at c0
    have he1 := eqlN
    have he2 := eqlF
    go_enter Tryz.func16, Tryz.ntmps16
    go_wp2_with fail
    go_ret
    exact ⟨rfl, rfl⟩
  | 2, _ =>
    simp only [nxV] at c0
    have he1 := eqlN
    have he2 := eqlF
    go_enter Tryz.func16, Tryz.ntmps16
    go_wp2_with fail
    go_ret
    exact ⟨rfl, rfl⟩
  | 3, _ =>
    simp only [nxV] at c0
    have he1 := eqlN
    have he2 := eqlF
    go_enter Tryz.func16, Tryz.ntmps16
    go_wp2_with fail
    go_ret
    exact ⟨rfl, rfl⟩
  | 4, _ =>
    simp only [nxV] at c0
    have he1 := eqlN
    have he2 := eqlF
    go_enter Tryz.func16, Tryz.ntmps16
    go_wp2_with fail
    go_ret
    exact ⟨rfl, rfl⟩
  | 5, _ =>
    simp only [nxV] at c0
    have he1 := eqlN
    have he2 := eqlF
    go_enter Tryz.func16, Tryz.ntmps16
    go_wp2_with fail
    go_ret
    exact ⟨rfl, rfl⟩
  | 6, _ =>
    simp only [nxV] at c0
    have he1 := eqlN
    have he2 := eqlF
    go_enter Tryz.func16, Tryz.ntmps16
    go_wp2_with fail
    go_ret
    exact ⟨rfl, rfl⟩
theorem waits_any {w : World} {B : Nat} {K : Lk} (h : LkAt w B K) : Calls Tryz.prog 17 #[Pw B] w fun e w' => e = .returned (.bool (decide (K.ln = 6))) ∧ w = w' := by
  have c3 : w.cell? ⟨B, 3, none⟩ = some (.bool (decide (K.ln = 6))) := cell_row h 3
  clear h
  generalize decide (K.ln = 6) = b at *
  go_enter Tryz.func17, Tryz.ntmps17
  go_wp2_with fail
  go_ret
  exact ⟨rfl, rfl⟩
section
variable {w0 w w' : World} {base WB : Nat} {M : Sd} {r : List Part} {j B : Nat} {K : Lk} {X : Wm}
theorem Wl.at (h : Wl w0 w base WB M r j B K X) : LkAt w B K := h.blk
theorem cas_le {x was : Nat} {K' : Lk} (h : K'.ln ≤ 6) : (K.cas x was K').ln ≤ 6 := by
  unfold Lk.cas
  split
  · exact h
  · unfold Lk.turn; split
    · show 2 ≤ 6; omega
    · split
      · split
        · show 3 ≤ 6; omega
        · show 4 ≤ 6; omega
      · show 4 ≤ 6; omega
theorem turn_le {x : Nat} : (K.turn x).ln ≤ 6 := by
  unfold Lk.turn; split
  · show 2 ≤ 6; omega
  · split
    · split
      · show 3 ≤ 6; omega
      · show 4 ≤ 6; omega
    · show 4 ≤ 6; omega
theorem step_le (h : K.ln ≤ 6) : (stepK M K).ln ≤ 6 := by
  unfold stepK
  split
  · exact cas_le (Nat.zero_le _)
  · exact cas_le (Nat.zero_le _)
  · exact turn_le
  · show 5 ≤ 6; omega
  · exact cas_le (Nat.le_refl _)
  · split
    · show 3 ≤ 6; omega
    · exact h
  · exact h
set_option maxRecDepth 100000 in
set_option maxHeartbeats 4000000 in
/-- A step. -/
theorem step_any (h : Wl w0 w base WB M r j B K X) (ok : LkOk M K) (h6 : K.ln ≤ 6) : Calls Tryz.prog 13 #[Pw B, Pw WB] w fun e w' => e = .returned (.bool (decide ((stepK M K).ln = 0))) ∧ Stepped w0 w' base WB M r j B K := by
  have hov := over_any h.at h6
  have c0 := h.b0
  by_cases h0 : K.ln = 0
  · have hk : stepK M K = K := by simp only [stepK, h0]
    have hm : stepM M K = M := by simp only [stepM, h0]
    have hs : Stepped w0 w base WB M r j B K := ⟨X, by rw [hk, hm]; exact h⟩
    rw [hk]
    rw [decide_eq_true h0] at hov ⊢
    have HOV := Lib.hid hov; have HS := Lib.hid hs
    clear h ok h6 hov hs hk hm c0 h0
    go_enter Tryz.func13, Tryz.ntmps13
    go_wp2_with (go_at_call 16; refine HOV.out.mono ?_; rintro e w1 ⟨rfl, rfl⟩)
    go_ret
    exact ⟨rfl, HS.out⟩
  · rw [decide_eq_false h0] at hov
    have hnx : ∀ w', Stepped w0 w' base WB M r j B K → Calls Tryz.prog 16 #[Pw B] w' fun e w'' => e = .returned (.bool (decide ((stepK M K).ln = 0))) ∧ w' = w'' := fun w' ⟨X', h'⟩ => over_any h'.at (step_le h6)
    have HOV := Lib.hid hov; have HNX := Lib.hid hnx
    generalize decide ((stepK M K).ln = 0) = ov at *
    have hk : K.ln = 1 ∨ K.ln = 2 ∨ K.ln = 3 ∨ K.ln = 4 ∨ K.ln = 5 ∨ K.ln = 6 := by omega
    rcases hk with hk | hk | hk | hk | hk | hk
    · have HL := Lib.hid (first_l h ok hk)
      rw [hk] at c0
      simp only [nxV] at c0
      clear h ok h6 hov hnx h0 hk
      go_enter Tryz.func13, Tryz.ntmps13
      go_wp2_with (first
        | (go_at_call 35; refine HL.out.mono ?_; rintro e w2 ⟨rfl, hs⟩; have HO2 := Lib.hid (HNX.out _ hs); have HS := Lib.hid hs; clear hs)
        | (go_at_call 16; refine HO2.out.mono ?_; rintro e w3 ⟨rfl, rfl⟩)
        | (go_at_call 16; refine HOV.out.mono ?_; rintro e w1 ⟨rfl, rfl⟩))
      go_ret
      exact ⟨rfl, HS.out⟩
    · have HL := Lib.hid (take_l h ok hk)
      rw [hk] at c0
      simp only [nxV] at c0
      clear h ok h6 hov hnx h0 hk
      go_enter Tryz.func13, Tryz.ntmps13
      go_wp2_with (first
        | (go_at_call 148; refine HL.out.mono ?_; rintro e w2 ⟨rfl, hs⟩; have HO2 := Lib.hid (HNX.out _ hs); have HS := Lib.hid hs; clear hs)
        | (go_at_call 16; refine HO2.out.mono ?_; rintro e w3 ⟨rfl, rfl⟩)
        | (go_at_call 16; refine HOV.out.mono ?_; rintro e w1 ⟨rfl, rfl⟩))
      go_ret
      exact ⟨rfl, HS.out⟩
    · have HL := Lib.hid (look_l h ok hk)
      rw [hk] at c0
      simp only [nxV] at c0
      clear h ok h6 hov hnx h0 hk
      go_enter Tryz.func13, Tryz.ntmps13
      go_wp2_with (first
        | (go_at_call 150; refine HL.out.mono ?_; rintro e w2 ⟨rfl, hs⟩; have HO2 := Lib.hid (HNX.out _ hs); have HS := Lib.hid hs; clear hs)
        | (go_at_call 16; refine HO2.out.mono ?_; rintro e w3 ⟨rfl, rfl⟩)
        | (go_at_call 16; refine HOV.out.mono ?_; rintro e w1 ⟨rfl, rfl⟩))
      go_ret
      exact ⟨rfl, HS.out⟩
    · have HL := Lib.hid (prepare_l h ok hk)
      rw [hk] at c0
      simp only [nxV] at c0
      clear h ok h6 hov hnx h0 hk
      go_enter Tryz.func13, Tryz.ntmps13
      go_wp2_with (first
        | (go_at_call 151; refine HL.out.mono ?_; rintro e w2 ⟨rfl, hs⟩; have HO2 := Lib.hid (HNX.out _ hs); have HS := Lib.hid hs; clear hs)
        | (go_at_call 16; refine HO2.out.mono ?_; rintro e w3 ⟨rfl, rfl⟩)
        | (go_at_call 16; refine HOV.out.mono ?_; rintro e w1 ⟨rfl, rfl⟩))
      go_ret
      exact ⟨rfl, HS.out⟩
    · have HL := Lib.hid (queue_l h ok hk)
      rw [hk] at c0
      simp only [nxV] at c0
      clear h ok h6 hov hnx h0 hk
      go_enter Tryz.func13, Tryz.ntmps13
      go_wp2_with (first
        | (go_at_call 160; refine HL.out.mono ?_; rintro e w2 ⟨rfl, hs⟩; have HO2 := Lib.hid (HNX.out _ hs); have HS := Lib.hid hs; clear hs)
        | (go_at_call 16; refine HO2.out.mono ?_; rintro e w3 ⟨rfl, rfl⟩)
        | (go_at_call 16; refine HOV.out.mono ?_; rintro e w1 ⟨rfl, rfl⟩))
      go_ret
      exact ⟨rfl, HS.out⟩
    · have HL := Lib.hid (park_l h ok hk)
      rw [hk] at c0
      simp only [nxV] at c0
      clear h ok h6 hov hnx h0 hk
      go_enter Tryz.func13, Tryz.ntmps13
      go_wp2_with (first
        | (go_at_call 173; refine HL.out.mono ?_; rintro e w2 ⟨rfl, hs⟩; have HO2 := Lib.hid (HNX.out _ hs); have HS := Lib.hid hs; clear hs)
        | (go_at_call 16; refine HO2.out.mono ?_; rintro e w3 ⟨rfl, rfl⟩)
        | (go_at_call 16; refine HOV.out.mono ?_; rintro e w1 ⟨rfl, rfl⟩))
      go_ret
      exact ⟨rfl, HS.out⟩
end
set_option maxRecDepth 100000 in
/-- A step in no world. -/
theorem step_none {w : World} {B : Nat} {K : Lk} (h : LkAt w B K) (h6 : K.ln ≤ 6) : Calls Tryz.prog 13 #[Pw B, .pointer none] w fun e w' => e = .returned (.bool (decide (K.ln = 0))) ∧ w = w' := by
  have HOV := Lib.hid (over_any h h6)
  clear h h6
  cases hb : decide (K.ln = 0)
  · rw [hb] at HOV
    clear hb
    go_enter Tryz.func13, Tryz.ntmps13
    go_wp2_with (go_at_call 16; refine HOV.out.mono ?_; rintro e w1 ⟨rfl, rfl⟩)
    go_ret
    exact ⟨rfl, rfl⟩
  · rw [hb] at HOV
    clear hb
    go_enter Tryz.func13, Tryz.ntmps13
    go_wp2_with (go_at_call 16; refine HOV.out.mono ?_; rintro e w1 ⟨rfl, rfl⟩)
    go_ret
    exact ⟨rfl, rfl⟩
theorem step_nil (x : Value) (w : World) : Calls Tryz.prog 13 #[.pointer none, x] w fun e w' => e = .returned (.bool true) ∧ w = w' := by
  have HOV := Lib.hid (over_nil)
  go_enter Tryz.func13, Tryz.ntmps13
  go_wp2_with (go_at_call 16; refine (HOV.out _).mono ?_; rintro e w1 ⟨rfl, rfl⟩)
  go_ret
  exact ⟨rfl, rfl⟩
/-- One that begins. -/
def newK (t : Int) (a : Nat) : Lk := if 0 ≤ t ∧ t < 64 then lk1 t.toNat a else lk0
theorem new_lock (t : Int) (a : Nat) (w : World) : Calls Tryz.prog 7 #[.int .i64 t, .int .u32 (a : Int)] w fun e w' => e = .returned (Pw w.heap.size) ∧ w' = w.alloc (.cells (newK t a).cs 64) := by
  by_cases h0 : 0 ≤ t
  · by_cases h1 : t < 64
    · have hk : (newK t a).cs = #[.func (.func 35) #[.agg #[.int .i64 t, .int .u32 (a : Int)]] #[], .int .u64 0, .int .i64 0, .bool false] := by
        unfold newK; rw [if_pos ⟨h0, h1⟩]
        have e : askV t.toNat a = .agg #[.int .i64 t, .int .u32 (a : Int)] := by unfold askV; rw [Int.toNat_of_nonneg h0]
        rw [← e]; rfl
      have d0 : decide (t < 0) = false := by rw [decide_eq_false_iff_not]; omega
      have d1 : decide ((64 : Int) ≤ t) = false := by rw [decide_eq_false_iff_not]; omega
      rw [hk]
      clear hk h0 h1
      go_enter Tryz.func7, Tryz.ntmps7
      go_wp2_with fail
      go_ret
      exact ⟨rfl, rfl⟩
    · have hk : (newK t a).cs = #[.nilFunc, .int .u64 0, .int .i64 0, .bool false] := by
        unfold newK; rw [if_neg (by omega)]; rfl
      have d0 : decide (t < 0) = false := by rw [decide_eq_false_iff_not]; omega
      have d1 : decide ((64 : Int) ≤ t) = true := by rw [decide_eq_true_iff]; omega
      rw [hk]
      clear hk h0 h1
      go_enter Tryz.func7, Tryz.ntmps7
      go_wp2_with fail
      go_ret
      exact ⟨rfl, rfl⟩
  · have hk : (newK t a).cs = #[.nilFunc, .int .u64 0, .int .i64 0, .bool false] := by
      unfold newK; rw [if_neg (by omega)]; rfl
    have d0 : decide (t < 0) = true := by rw [decide_eq_true_iff]; omega
    rw [hk]
    clear hk h0
    go_enter Tryz.func7, Tryz.ntmps7
    go_wp2_with fail
    go_ret
    exact ⟨rfl, rfl⟩
end Go.Proofs.YtffoobepdofkkaaGreat.S13
namespace Go.Proofs.YtffoobepdofkkaaGreat.S13
open Go.Proofs.YtffoobepdofkkaaGreat Go.Proofs.YtffoobepdofkkaaGreat.S11 Go.Proofs.YtffoobepdofkkaaGreat.S12
open Go.RowKit

theorem zv0 : Tryz.zeroCells74[0]? = some (.pointer none) := by kernel_rfl
theorem zv6 : Tryz.zeroCells74[6]? = some (.int .i64 0) := by kernel_rfl
theorem cas_nil (a u v : Nat) (w : World) : Calls Tryz.prog 134 #[.pointer none, .int .u32 (a : Int), .int .u64 (u : Int), .int .u64 (v : Int)] w fun e w' => e = .returned (.tuple #[.int .u64 ((0 : Nat) : Int), .bool false]) ∧ w = w' := by
  go_enter Tryz.func134, Tryz.ntmps134
  go_wp2_with fail
  go_ret2
  exact ⟨rfl, rfl⟩
section
variable {w0 w w' : World} {base WB : Nat} {M : Sd} {r : List Part} {j B : Nat} {K : Lk} {X : Wm}
theorem Wl.void (h : Wl w0 w base WB M r j B K X) {i VB : Nat} {ob : Obj} (hv : r[i]? = some (blockP VB ob)) (hij : i ≠ j) : w.heap[VB]? = some ob :=
  h.pg.ps.ok _ _ (h.pg.part (j := i) (p := blockP VB ob) (by rw [List.getElem?_set_ne (Ne.symm hij)]; exact hv))
theorem begin_v (h : Wl w0 w base WB M r j B K X) {i VB : Nat} (hv : r[i]? = some (blockP VB (.cells Tryz.zeroCells74 74))) (hij : i ≠ j) : Calls Tryz.prog 89 #[.pointer (some ⟨B, 2, none⟩), Pw VB] w fun e w' => e = .returned (.tuple #[]) ∧ Wl w0 w' base WB M r j B { K with sp := 0 } X := by
  have h1 := h.put { K with sp := 0 } (set_blk h.blk 2 (.int .i64 0) _ (by simp [Lk.cs])) ((Turns.refl (fun k => k = B) w).setCell ⟨B, 2, none⟩ _ rfl)
  have h2 := h1.put { K with sp := 0 } (set_blk h1.blk 2 (.int .i64 0) _ (by simp [Lk.cs])) ((Turns.refl (fun k => k = B) _).setCell ⟨B, 2, none⟩ _ rfl)
  have c2 := h.b2; have z2 := h.fz 2; have d2 := h1.b2; have y2 := h1.fz 2
  have d6 := (cell_row (h1.void hv hij) 6).trans zv6
  have H2 := Lib.hid h2
  clear h h1 h2 hv hij
  go_enter Tryz.func89, Tryz.ntmps89
  go_wp2_with fail
  go_end0
  exact ⟨rfl, H2.out⟩
set_option maxRecDepth 100000 in
set_option maxHeartbeats 4000000 in
theorem swap_v (h : Wl w0 w base WB M r j B K X) {i VB : Nat} (hv : r[i]? = some (blockP VB (.cells Tryz.zeroCells74 74))) (hij : i ≠ j) (h6 : K.ln ≠ 6) (hs : K.sp ≤ 9223372036854775807) (was is : Nat) :
    Calls Tryz.prog 90 #[askV K.t K.a, Pw B, Pw VB, .int .u64 (was : Int), .int .u64 (is : Int)] w fun e w' => e = .returned (.bool false) ∧ Wl w0 w' base WB M r j B (K.turn 0) X := by
  have hj := h.hj
  have hA := h.pushB (.cells #[.int .i64 (K.t : Int), .int .u32 (K.a : Int)] 115)
  have k0 := cell_row (heap_alloc_new w (.cells #[.int .i64 (K.t : Int), .int .u32 (K.a : Int)] 115)) 0; have k1 := cell_row (heap_alloc_new w (.cells #[.int .i64 (K.t : Int), .int .u32 (K.a : Int)] 115)) 1
  simp only [List.getElem?_toArray, List.getElem?_cons_zero, List.getElem?_cons_succ] at k0 k1
  obtain ⟨Q, hQ⟩ : ∃ Q, Q = w.heap.size := ⟨_, rfl⟩
  rw [← hQ] at hA k0 k1
  have HA := Lib.hid hA; have HJ := Lib.hid hj; have HQ := Lib.hid hQ
  have hi := (List.getElem?_eq_some_iff.1 hv).1
  have hv2 : ∀ q : Part, (r ++ [q])[i]? = some (blockP VB (.cells Tryz.zeroCells74 74)) := fun q => by rw [List.getElem?_append_left hi]; exact hv
  have q0 := (cell_row (HA.out.void (hv2 _) hij) 0).trans zv0
  have HC := Lib.hid (fun W => cas_nil K.a was is W)
  have HTN := Lib.hid (turn_l (HA.out.new (Below.refl _ _).drew) h6 hs (u := 0) (by decide))
  have H3 := Lib.hid (HA.out.new (Below.refl _ _).drew)
  clear hi hv hv2 hij hs h6
  clear h hj hQ
  go_enter Tryz.func90, Tryz.ntmps90
  go_upto_region 1 with (fail)
  rw [← HQ.out]
  generalize w.alloc (.cells #[.int .i64 (K.t : Int), .int .u32 (K.a : Int)] 115) = w1 at *
  refine wp_region_held_drew (S := fun w' => w'.cell? ⟨VB, 0, none⟩ = some (.pointer none) ∧ w'.cell? ⟨Q, 1, none⟩ = some (.int .u32 (K.a : Int))) (by kernel_rfl) ?_ (fun hHeld => ?_)
  · exact ⟨q0, k1⟩
  refine wpAnyH_take (i := 0) (oi := ({ dst := some 14, op := Op.move (Operand.tmp 2), type := 33, pos := "wordlocks.go:108", after := #[], guard := none } : Oper)) (v := ?vqm1) rfl (by kernel_rfl) (by kernel_rfl) (by kernel_rfl) (fun _ _ _ h => h) (Or.inl ⟨by rfl, fun w hSw => ?hyqm1⟩) (by assumption) ?rqm1
  case hyqm1 => (try dsimp only at hSw); go_simp; (try with_reducible rfl)
  (try simp only [Act.put, List.setIfInBounds_toArray, List.set_cons_zero, List.set_cons_succ])
  refine wpAnyH_take (i := 1) (oi := ({ dst := some 15, op := Op.nilCheck (Operand.tmp 14), type := 0, pos := "wordlocks.go:108", after := #[{ on := 0, ground := Ground.data }], guard := none } : Oper)) (v := ?vqm2) rfl (by kernel_rfl) (by kernel_rfl) (by kernel_rfl) (fun _ _ _ h => h) (Or.inl ⟨by rfl, fun w hSw => ?hyqm2⟩) (by assumption) ?rqm2
  case hyqm2 => (try dsimp only at hSw); go_simp; (try with_reducible rfl)
  (try simp only [Act.put, List.setIfInBounds_toArray, List.set_cons_zero, List.set_cons_succ])
  refine wpAnyH_take (i := 2) (oi := ({ dst := some 16, op := Op.fieldAddr 74 (Operand.tmp 15) 0, type := 0, pos := "wordlocks.go:108", after := #[{ on := 1, ground := Ground.data }], guard := none } : Oper)) (v := ?vqm3) rfl (by kernel_rfl) (by kernel_rfl) (by kernel_rfl) (fun _ _ _ h => h) (Or.inl ⟨by rfl, fun w hSw => ?hyqm3⟩) (by assumption) ?rqm3
  case hyqm3 => (try dsimp only at hSw); go_simp; (try with_reducible rfl)
  (try simp only [Act.put, List.setIfInBounds_toArray, List.set_cons_zero, List.set_cons_succ])
  refine wpAnyH_take (i := 3) (oi := ({ dst := some 17, op := Op.load 66 (Operand.tmp 16), type := 66, pos := "wordlocks.go:108", after := #[{ on := 2, ground := Ground.data }], guard := none } : Oper)) (v := ?vqm4) rfl (by kernel_rfl) (by kernel_rfl) (by kernel_rfl) (fun _ _ _ h => h) (Or.inl ⟨by rfl, fun w hSw => ?hyqm4⟩) (by assumption) ?rqm4
  case hyqm4 => (try dsimp only at hSw); go_simp; (try with_reducible rfl)
  (try simp only [Act.put, List.setIfInBounds_toArray, List.set_cons_zero, List.set_cons_succ])
  refine wpAnyH_take (i := 4) (oi := ({ dst := some 18, op := Op.fieldAddr 115 (Operand.tmp 5) 1, type := 0, pos := "wordlocks.go:108", after := #[], guard := none } : Oper)) (v := ?vqm5) rfl (by kernel_rfl) (by kernel_rfl) (by kernel_rfl) (fun _ _ _ h => h) (Or.inl ⟨by rfl, fun w hSw => ?hyqm5⟩) (by assumption) ?rqm5
  case hyqm5 => (try dsimp only at hSw); go_simp; (try with_reducible rfl)
  (try simp only [Act.put, List.setIfInBounds_toArray, List.set_cons_zero, List.set_cons_succ])
  refine wpAnyH_take (i := 5) (oi := ({ dst := some 19, op := Op.load 40 (Operand.tmp 18), type := 40, pos := "wordlocks.go:108", after := #[{ on := 4, ground := Ground.data }], guard := none } : Oper)) (v := ?vqm6) rfl (by kernel_rfl) (by kernel_rfl) (by kernel_rfl) (fun _ _ _ h => h) (Or.inl ⟨by rfl, fun w hSw => ?hyqm6⟩) (by assumption) ?rqm6
  case hyqm6 => (try dsimp only at hSw); go_simp; (try with_reducible rfl)
  (try simp only [Act.put, List.setIfInBounds_toArray, List.set_cons_zero, List.set_cons_succ])
  refine wpAnyH_take (i := 6) (oi := ({ dst := some 20, op := Op.move (Operand.tmp 3), type := 22, pos := "wordlocks.go:108", after := #[], guard := none } : Oper)) (v := ?vqm7) rfl (by kernel_rfl) (by kernel_rfl) (by kernel_rfl) (fun _ _ _ h => h) (Or.inl ⟨by rfl, fun w hSw => ?hyqm7⟩) (by assumption) ?rqm7
  case hyqm7 => (try dsimp only at hSw); go_simp; (try with_reducible rfl)
  (try simp only [Act.put, List.setIfInBounds_toArray, List.set_cons_zero, List.set_cons_succ])
  refine wpAnyH_take (i := 7) (oi := ({ dst := some 21, op := Op.move (Operand.tmp 4), type := 22, pos := "wordlocks.go:108", after := #[], guard := none } : Oper)) (v := ?vqm8) rfl (by kernel_rfl) (by kernel_rfl) (by kernel_rfl) (fun _ _ _ h => h) (Or.inl ⟨by rfl, fun w hSw => ?hyqm8⟩) (by assumption) ?rqm8
  case hyqm8 => (try dsimp only at hSw); go_simp; (try with_reducible rfl)
  (try simp only [Act.put, List.setIfInBounds_toArray, List.set_cons_zero, List.set_cons_succ])
  refine wpAnyH_ready (rs := [8]) (by kernel_rfl) (by simp) ?_
  refine AllReadyH.cons (o := ({ dst := some 22, op := Op.call { callee := Callee.value (Operand.func 134), args := #[Operand.tmp 17, Operand.tmp 19, Operand.tmp 20, Operand.tmp 21], argTypes := #[66, 40, 22, 22] }, type := 120, pos := "wordlocks.go:108", after := #[{ on := 3, ground := Ground.data }, { on := 5, ground := Ground.data }, { on := 6, ground := Ground.data }, { on := 7, ground := Ground.data }], guard := none } : Oper)) rfl (fun Kq hKq => ?_) AllReadyH.nil
  go_simp
  (refine (HC.out _).mono ?_; rintro e w3 ⟨rfl, rfl⟩)
  refine hKq.out _ _ ?_ (fun hHeld => ?_)
  · exact hHeld
  clear hKq Kq
  (try simp only [Act.put, List.setIfInBounds_toArray, List.set_cons_zero, List.set_cons_succ])
  refine wpAnyH_take (i := 9) (oi := ({ dst := some 13, op := Op.move (Operand.tmp 22), type := 120, pos := "wordlocks.go:108", after := #[{ on := 8, ground := Ground.data }], guard := none } : Oper)) (v := ?vqm9) rfl (by kernel_rfl) (by kernel_rfl) (by kernel_rfl) (fun _ _ _ h => h) (Or.inl ⟨by rfl, fun w hSw => ?hyqm9⟩) (by assumption) ?rqm9
  case hyqm9 => (try dsimp only at hSw); go_simp; (try with_reducible rfl)
  (try simp only [Act.put, List.setIfInBounds_toArray, List.set_cons_zero, List.set_cons_succ])
  refine wpAnyH_take (i := 10) (oi := ({ dst := some 23, op := Op.extract (Operand.tmp 13) 0, type := 22, pos := "wordlocks.go:108", after := #[{ on := 9, ground := Ground.data }], guard := none } : Oper)) (v := ?vqm10) rfl (by kernel_rfl) (by kernel_rfl) (by kernel_rfl) (fun _ _ _ h => h) (Or.inl ⟨by rfl, fun w hSw => ?hyqm10⟩) (by assumption) ?rqm10
  case hyqm10 => (try dsimp only at hSw); go_simp; (try with_reducible rfl)
  (try simp only [Act.put, List.setIfInBounds_toArray, List.set_cons_zero, List.set_cons_succ])
  refine wpAnyH_take (i := 11) (oi := ({ dst := some 24, op := Op.extract (Operand.tmp 13) 1, type := 4, pos := "wordlocks.go:108", after := #[{ on := 9, ground := Ground.data }, { on := 12, ground := Ground.gcOnly Departure.lateStores }], guard := none } : Oper)) (v := ?vqm11) rfl (by kernel_rfl) (by kernel_rfl) (by kernel_rfl) (fun _ _ _ h => h) (Or.inl ⟨by rfl, fun w hSw => ?hyqm11⟩) (by assumption) ?rqm11
  case hyqm11 => (try dsimp only at hSw); go_simp; (try with_reducible rfl)
  (try simp only [Act.put, List.setIfInBounds_toArray, List.set_cons_zero, List.set_cons_succ])
  refine wpAnyH_take (i := 12) (oi := ({ dst := some 11, op := Op.assign (Operand.tmp 23), type := 22, pos := "wordlocks.go:108", after := #[{ on := 10, ground := Ground.data }, { on := 8, ground := Ground.chain }, { on := 0, ground := Ground.phase }, { on := 1, ground := Ground.phase }, { on := 2, ground := Ground.phase }, { on := 3, ground := Ground.phase }, { on := 4, ground := Ground.phase }, { on := 5, ground := Ground.phase }, { on := 6, ground := Ground.phase }, { on := 7, ground := Ground.phase }, { on := 8, ground := Ground.phase }, { on := 9, ground := Ground.phase }, { on := 10, ground := Ground.phase }, { on := 11, ground := Ground.textOnly Departure.lateStores }], guard := none } : Oper)) (v := ?vqm12) rfl (by kernel_rfl) (by kernel_rfl) (by kernel_rfl) (fun _ _ _ h => h) (Or.inl ⟨by rfl, fun w hSw => ?hyqm12⟩) (by assumption) ?rqm12
  case hyqm12 => (try dsimp only at hSw); go_simp; (try with_reducible rfl)
  (try simp only [Act.put, List.setIfInBounds_toArray, List.set_cons_zero, List.set_cons_succ])
  refine wpAnyH_take (i := 13) (oi := ({ dst := some 12, op := Op.assign (Operand.tmp 24), type := 4, pos := "wordlocks.go:108", after := #[{ on := 11, ground := Ground.data }, { on := 12, ground := Ground.chain }, { on := 0, ground := Ground.phase }, { on := 1, ground := Ground.phase }, { on := 2, ground := Ground.phase }, { on := 3, ground := Ground.phase }, { on := 4, ground := Ground.phase }, { on := 5, ground := Ground.phase }, { on := 6, ground := Ground.phase }, { on := 7, ground := Ground.phase }, { on := 8, ground := Ground.phase }, { on := 9, ground := Ground.phase }, { on := 10, ground := Ground.phase }, { on := 11, ground := Ground.phase }, { on := 12, ground := Ground.phase }], guard := none } : Oper)) (v := ?vqm13) rfl (by kernel_rfl) (by kernel_rfl) (by kernel_rfl) (fun _ _ _ h => h) (Or.inl ⟨by rfl, fun w hSw => ?hyqm13⟩) (by assumption) ?rqm13
  case hyqm13 => (try dsimp only at hSw); go_simp; (try with_reducible rfl)
  (try simp only [Act.put, List.setIfInBounds_toArray, List.set_cons_zero, List.set_cons_succ])
  refine wpAnyH_done (by kernel_rfl) ?_ _
  clear hHeld HC q0 hA k0 k1
  have hl := H3.out.last HJ.out; have k0 := cell_row hl 0; have k1 := cell_row hl 1; simp only [List.getElem?_toArray, List.getElem?_cons_zero, List.getElem?_cons_succ] at k0 k1
  clear hl
  go_wp2_with (go_at_call 135; refine HTN.out.mono ?_; rintro e w4 ⟨rfl, h4⟩; (have H4 := Lib.hid h4; clear h4))
  go_ret
  exact ⟨rfl, H4.out.dropB HJ.out⟩
set_option maxRecDepth 100000 in
set_option maxHeartbeats 4000000 in
theorem first_v (h : Wl w0 w base WB M r j B K X) {i VB : Nat} (hv : r[i]? = some (blockP VB (.cells Tryz.zeroCells74 74))) (hij : i ≠ j) (hl : K.ln = 1) : Calls Tryz.prog 35 #[askV K.t K.a, Pw B, Pw VB] w fun e w' => e = .returned (.tuple #[]) ∧ Wl w0 w' base WB M r j B (({ K with sp := 0 } : Lk).turn 0) X := by
  have HPT : Hid (∀ W, Calls Tryz.prog 91 #[.agg #[.bool true, .bool false, .int .i64 (-1)]] W fun e w' => e = .returned (.int .u64 1) ∧ Below W.heap.size W w') := Lib.hid (fun W => by
    have := S1.putU_any true false (-1) (by unfold S1.isHead; omega) W
    rwa [S1.putU_one] at this)
  have hj := h.hj
  have hA := h.pushB (.cells #[.int .i64 (K.t : Int), .int .u32 (K.a : Int)] 115)
  have k0 := cell_row (heap_alloc_new w (.cells #[.int .i64 (K.t : Int), .int .u32 (K.a : Int)] 115)) 0; have k1 := cell_row (heap_alloc_new w (.cells #[.int .i64 (K.t : Int), .int .u32 (K.a : Int)] 115)) 1
  simp only [List.getElem?_toArray, List.getElem?_cons_zero, List.getElem?_cons_succ] at k0 k1
  obtain ⟨Q, hQ⟩ : ∃ Q, Q = w.heap.size := ⟨_, rfl⟩
  rw [← hQ] at hA k0 k1
  have HA := Lib.hid hA; have HJ := Lib.hid hj; have HQ := Lib.hid hQ
  have hi := (List.getElem?_eq_some_iff.1 hv).1
  have hv2 : ∀ q : Part, (r ++ [q])[i]? = some (blockP VB (.cells Tryz.zeroCells74 74)) := fun q => by rw [List.getElem?_append_left hi]; exact hv
  have HBG := Lib.hid (begin_v hA (hv2 _) hij)
  have HSWW := Lib.hid (fun W (hW : Wl w0 W base WB M (r ++ [blockP Q (.cells #[.int .i64 (K.t : Int), .int .u32 (K.a : Int)] 115)]) j B { K with sp := 0 } X) => swap_v hW (hv2 _) hij (by show K.ln ≠ 6; omega) (by show (0 : Int) ≤ _; decide) 0 1)
  have H6 : Hid (K.ln ≠ 6) := Lib.hid (by omega)
  clear hl hi hv hv2 hij
  clear h hj hQ
  go_enter Tryz.func35, Tryz.ntmps35
  go_upto_region 1 with (fail)
  rw [← HQ.out]
  generalize w.alloc (.cells #[.int .i64 (K.t : Int), .int .u32 (K.a : Int)] 115) = w1 at *
  go_upto_region 2 with (go_at_call 89; refine HBG.out.mono ?_; rintro e w3 ⟨rfl, h3⟩)
  have hl := h3.last HJ.out; have k0 := cell_row hl 0; have k1 := cell_row hl 1; simp only [List.getElem?_toArray, List.getElem?_cons_zero, List.getElem?_cons_succ] at k0 k1
  have H3 := Lib.hid h3
  clear hl h3 HBG hA
  refine wp_region_held_drew (S := fun w' => w'.cell? ⟨Q, 0, none⟩ = some (.int .i64 (K.t : Int)) ∧ w'.cell? ⟨Q, 1, none⟩ = some (.int .u32 (K.a : Int))) (by kernel_rfl) ?_ (fun hHeld => ?_)
  · exact ⟨k0, k1⟩
  refine wpAnyH_take (i := 0) (oi := ({ dst := some 11, op := Op.load 115 (Operand.tmp 3), type := 115, pos := "wordlocks.go:62", after := #[], guard := none } : Oper)) (v := ?vgm1) rfl (by kernel_rfl) (by kernel_rfl) (by kernel_rfl) (fun _ _ _ h => h) (Or.inl ⟨by rfl, fun w hSw => ?hygm1⟩) (by assumption) ?rgm1
  case hygm1 => (try dsimp only at hSw); go_simp; (try with_reducible rfl)
  (try simp only [Act.put, List.setIfInBounds_toArray, List.set_cons_zero, List.set_cons_succ])
  refine wpAnyH_take (i := 1) (oi := ({ dst := some 12, op := Op.move (Operand.tmp 1), type := 45, pos := "wordlocks.go:62", after := #[], guard := none } : Oper)) (v := ?vgm2) rfl (by kernel_rfl) (by kernel_rfl) (by kernel_rfl) (fun _ _ _ h => h) (Or.inl ⟨by rfl, fun w hSw => ?hygm2⟩) (by assumption) ?rgm2
  case hygm2 => (try dsimp only at hSw); go_simp; (try with_reducible rfl)
  (try simp only [Act.put, List.setIfInBounds_toArray, List.set_cons_zero, List.set_cons_succ])
  refine wpAnyH_take (i := 2) (oi := ({ dst := some 13, op := Op.move (Operand.tmp 2), type := 33, pos := "wordlocks.go:62", after := #[], guard := none } : Oper)) (v := ?vgm3) rfl (by kernel_rfl) (by kernel_rfl) (by kernel_rfl) (fun _ _ _ h => h) (Or.inl ⟨by rfl, fun w hSw => ?hygm3⟩) (by assumption) ?rgm3
  case hygm3 => (try dsimp only at hSw); go_simp; (try with_reducible rfl)
  (try simp only [Act.put, List.setIfInBounds_toArray, List.set_cons_zero, List.set_cons_succ])
  refine wpAnyH_take (i := 3) (oi := ({ dst := some 14, op := Op.build 215 #[(0, Operand.const (Value.bool true)), (2, Operand.const (Value.int IntKind.i64 (-1)))], type := 215, pos := "wordlocks.go:62", after := #[], guard := none } : Oper)) (v := ?vgm4) rfl (by kernel_rfl) (by kernel_rfl) (by kernel_rfl) (fun _ _ _ h => h) (Or.inl ⟨by rfl, fun w hSw => ?hygm4⟩) (by assumption) ?rgm4
  case hygm4 => (try dsimp only at hSw); go_simp; (try with_reducible rfl)
  (try simp only [Act.put, List.setIfInBounds_toArray, List.set_cons_zero, List.set_cons_succ])
  refine wpAnyH_ready (rs := [4]) (by kernel_rfl) (by simp) ?_
  refine AllReadyH.cons (o := ({ dst := some 15, op := Op.call { callee := Callee.value (Operand.func 91), args := #[Operand.tmp 14], argTypes := #[215] }, type := 22, pos := "wordlocks.go:62", after := #[{ on := 3, ground := Ground.data }], guard := none } : Oper)) rfl (fun Kq hKq => ?_) AllReadyH.nil
  go_simp
  (refine (HPT.out _).mono ?_; rintro e w4 ⟨rfl, hb4⟩; (have HSW := Lib.hid (HSWW.out w4 ((H3.out.new (Below.refl _ _).drew).new hb4))))
  refine hKq.out _ _ ?_ (fun hHeld => ?_)
  · exact ⟨bcell hb4 hHeld.1, bcell hb4 hHeld.2⟩
  clear hKq Kq
  (try simp only [Act.put, List.setIfInBounds_toArray, List.set_cons_zero, List.set_cons_succ])
  refine wpAnyH_ready (rs := [5]) (by kernel_rfl) (by simp) ?_
  refine AllReadyH.cons (o := ({ dst := some 16, op := Op.call { callee := Callee.value (Operand.func 90), args := #[Operand.tmp 11, Operand.tmp 12, Operand.tmp 13, Operand.const (Value.int IntKind.u64 0), Operand.tmp 15], argTypes := #[115, 45, 33, 22, 22] }, type := 4, pos := "wordlocks.go:62", after := #[{ on := 0, ground := Ground.data }, { on := 1, ground := Ground.data }, { on := 2, ground := Ground.data }, { on := 4, ground := Ground.data }, { on := 4, ground := Ground.chain }], guard := none } : Oper)) rfl (fun Kq hKq => ?_) AllReadyH.nil
  go_simp
  (refine HSW.out.mono ?_; rintro e w5 ⟨rfl, h5⟩)
  refine hKq.out _ _ ?_ (fun hHeld => ?_)
  · (have hl := h5.last HJ.out; exact ⟨cell_row hl 0, cell_row hl 1⟩)
  clear hKq Kq
  (try simp only [Act.put, List.setIfInBounds_toArray, List.set_cons_zero, List.set_cons_succ])
  refine wpAnyH_done (by kernel_rfl) ?_ _
  clear hHeld k0 k1
  have H5 := Lib.hid h5
  clear h5 HSW HSWW
  go_wp2_with fail
  go_end0
  exact ⟨rfl, H5.out.dropB HJ.out⟩
set_option maxRecDepth 100000 in
/-- A step at a void world: it turns to take what is not there. -/
theorem step_v (h : Wl w0 w base WB M r j B K X) {i VB : Nat} (hv : r[i]? = some (blockP VB (.cells Tryz.zeroCells74 74))) (hij : i ≠ j) (hl : K.ln = 1) : Calls Tryz.prog 13 #[Pw B, Pw VB] w fun e w' => e = .returned (.bool false) ∧ Wl w0 w' base WB M r j B (({ K with sp := 0 } : Lk).turn 0) X := by
  have hov := over_any h.at (by omega)
  have c0 := h.b0
  rw [hl] at hov c0
  simp only [nxV] at c0
  have hln : (({ K with sp := 0 } : Lk).turn 0).ln = 2 := by unfold Lk.turn; rw [if_pos (by decide)]
  have HNX : Hid (∀ w', Wl w0 w' base WB M r j B (({ K with sp := 0 } : Lk).turn 0) X → Calls Tryz.prog 16 #[Pw B] w' fun e w'' => e = .returned (.bool false) ∧ w' = w'') := Lib.hid (fun w' h' => by
    have := over_any h'.at (by rw [hln]; decide)
    rw [hln] at this
    exact this)
  have HOV : Hid (Calls Tryz.prog 16 #[Pw B] w fun e w' => e = .returned (.bool false) ∧ w = w') := Lib.hid hov
  have HL := Lib.hid (first_v h hv hij hl)
  clear h hv hij hl hov hln
  go_enter Tryz.func13, Tryz.ntmps13
  go_wp2_with (first
    | (go_at_call 35; refine HL.out.mono ?_; rintro e w2 ⟨rfl, hs⟩; have HO2 := Lib.hid (HNX.out _ hs); have HS := Lib.hid hs; clear hs)
    | (go_at_call 16; refine HO2.out.mono ?_; rintro e w3 ⟨rfl, rfl⟩)
    | (go_at_call 16; refine HOV.out.mono ?_; rintro e w1 ⟨rfl, rfl⟩))
  go_ret
  exact ⟨rfl, HS.out⟩
end
set_option maxRecDepth 100000 in
/-- A step of one that is over, in any world. -/
theorem step_over {w : World} {B : Nat} {K : Lk} (h : LkAt w B K) (h0 : K.ln = 0) (x : Value) (hx : ∃ o, x = .pointer o) : Calls Tryz.prog 13 #[Pw B, x] w fun e w' => e = .returned (.bool true) ∧ w = w' := by
  have hov := over_any h (by omega)
  rw [h0] at hov
  have HOV : Hid (Calls Tryz.prog 16 #[Pw B] w fun e w' => e = .returned (.bool true) ∧ w = w') := Lib.hid hov
  obtain ⟨o, rfl⟩ := hx
  clear h h0 hov
  go_enter Tryz.func13, Tryz.ntmps13
  go_wp2_with (go_at_call 16; refine HOV.out.mono ?_; rintro e w1 ⟨rfl, rfl⟩)
  go_ret
  exact ⟨rfl, rfl⟩
end Go.Proofs.YtffoobepdofkkaaGreat.S13
namespace Go.Proofs.YtffoobepdofkkaaGreat.S13
open Go.Proofs.YtffoobepdofkkaaGreat Go.Proofs.YtffoobepdofkkaaGreat.S11 Go.Proofs.YtffoobepdofkkaaGreat.S12
open Go.RowKit

/-- What a new world says. -/
def sdN (spin : Int) (most : Nat) : Sd := ⟨L02, 0, 0, 0, 0, 0, 0, most, [], fun _ => S4.pk0, 0, 0, 0, S5.S0, S10.M0 0, [], spin⟩
theorem at0_sd {X : Wm} {spin : Int} {most : Nat} (h : At0 X spin most []) : X.sd = sdN spin most := by
  unfold Wm.sd sdN
  rw [h.L, h.n, h.k, h.a, h.was, h.is, h.T, h.most, h.D, h.pf, h.pn, h.pk, h.pp, h.lk, h.tM, h.nD, h.sp]
theorem pg_of {w0 w : World} {base : Nat} {X : Wm} (h : PW w base X) (b : Below base w0 w) : Pg w0 w base X.wB X.sd [] X :=
  ⟨by rw [List.append_nil]; exact h, rfl, rfl, b⟩
section
variable {w0 w w' : World} {base WB : Nat} {M : Sd} {r : List Part} {X : Wm}
theorem Pg.add (h : Pg w0 w base WB M r X) (ob : Obj) : Pg w0 (w.alloc ob) base WB M (r ++ [blockP w.heap.size ob]) X := by
  have hp := h.ps.push (blockP w.heap.size ob) (below1 w ob) (heap_alloc_new w ob) (fun k e => Nat.le_of_eq (show k = w.heap.size from e).symm)
  rw [List.append_assoc] at hp
  exact ⟨hp, h.wB, h.xm, h.bl.alloc h.size _⟩
/-- A lock that begins, beside the world. -/
theorem Pg.lock (h : Pg w0 w base WB M r X) (K : Lk) : Wl w0 (w.alloc (.cells K.cs 64)) base WB M (r ++ [lockP w.heap.size K]) r.length w.heap.size K X := by
  refine ⟨?_, by rw [List.length_append]; simp⟩
  rw [List.set_append_right _ _ (Nat.le_refl _), Nat.sub_self]
  exact Pg.add h _
end
set_option maxRecDepth 100000 in
theorem world_any (sp : Nat) (hsp : sp < 256) (w : World) : Calls Tryz.prog 18 #[.int .u8 (sp : Int)] w fun e w' => ∃ X, e = .returned (Pw X.wB) ∧ PW w' w.heap.size X ∧ At0 X ((sp % 17 : Nat) : Int) 5 [] ∧ Below w.heap.size w w' := by
  have hck : ∀ W, Below w.heap.size w W → Calls Tryz.prog 71 #[.slice none 0 0, .int .u64 ((5 : Nat) : Int)] W (S3.Made W 0 5 []) := fun W _ => S3.new_any (D := []) (b2 := 0) 0 5 (Nat.le_refl _) (by omega) (by omega) S3.Rd.nil (Nat.zero_le _) (fun d hd => by cases hd)
  have hok : okC (((sp % 17 : Nat) : Int)) 0 = true := by simp [okC]; omega
  have hnew : Calls Tryz.prog 25 #[.agg #[.int .i64 ((sp % 17 : Nat) : Int), .int .u64 5, .slice none 0 0]] w fun e w' => NewW w w' ((sp % 17 : Nat) : Int) 5 [] e := new_yes _ 5 0 0 none hok hck
  have e1 : (sp : Int).tmod 17 = ((sp % 17 : Nat) : Int) := by rw [Int.tmod_eq_emod_of_nonneg (by omega)]; omega
  have e1' : (sp : Int) % 17 = ((sp % 17 : Nat) : Int) := by omega
  have e2 : IntKind.u8.wrap ((sp % 17 : Nat) : Int) = ((sp % 17 : Nat) : Int) := by rw [IntKind.wrap_u8]; omega
  have e3 : IntKind.i64.wrap ((sp % 17 : Nat) : Int) = ((sp % 17 : Nat) : Int) := by rw [IntKind.wrap_i64]; omega
  have e4 : wrap64 ((sp % 17 : Nat) : Int) = ((sp % 17 : Nat) : Int) := by unfold wrap64; omega
  have e5 : IntKind.i64.wrap (sp : Int) = (sp : Int) := by rw [IntKind.wrap_i64]; omega
  have HN := Lib.hid hnew
  clear hck hok hnew hsp
  generalize sp % 17 = n at *
  go_enter Tryz.func18, Tryz.ntmps18
  go_wp2_with (go_at_call 25; refine HN.out.mono ?_; rintro e w1 ⟨X, rfl, hp, h0, hb⟩)
  go_ret
  exact ⟨X, rfl, hp, h0, hb⟩
/-- A lock's steps, one behind the other. -/
def it (p : Sd × Lk) : Sd × Lk := (stepM p.1 p.2, stepK p.1 p.2)
def itn (p : Sd × Lk) : Nat → Sd × Lk
  | 0 => p
  | n + 1 => it (itn p n)
theorem meth_step (a : Addr) (w : World) : (method 413 45 (.pointer (some a)) "Step").run Tryz.prog w = .ok (13, .pointer (some a)) w := by kernel_rfl
end Go.Proofs.YtffoobepdofkkaaGreat.S13
namespace Go.Proofs.YtffoobepdofkkaaGreat.S13
open Go.Proofs.YtffoobepdofkkaaGreat Go.Proofs.YtffoobepdofkkaaGreat.S11 Go.Proofs.YtffoobepdofkkaaGreat.S12
open Go.RowKit

theorem step_pos {M : Sd} {K : Lk} (h : K.ln ≠ 0) (h6 : K.ln ≤ 6) : (stepM M K).n + (stepM M K).pn = M.n + M.pn + 1 := by
  have hk : K.ln = 1 ∨ K.ln = 2 ∨ K.ln = 3 ∨ K.ln = 4 ∨ K.ln = 5 ∨ K.ln = 6 := by omega
  unfold stepM
  rcases hk with e | e | e | e | e | e <;> rw [e] <;> simp only [Sd.acc, Sd.prep, Sd.link, Sd.park, Sd.call] <;> omega
/-- A lock goes on alone. -/
structure LkGo (M : Sd) (K : Lk) (c : Nat) : Prop where
  ok : LkOk M K
  ln : K.ln ≤ 6
  lk : ∀ a, S2.look M.L a < 18446744073709551616
  n : M.n ≤ c
  pn : M.pn ≤ c
theorem cas_st {K K' : Lk} {x was : Nat} (hx : x < 18446744073709551616) (h : K'.st < 18446744073709551616) : (K.cas x was K').st < 18446744073709551616 := by
  unfold Lk.cas Lk.turn
  repeat (first | split | exact hx | exact h)
theorem turn_st {K : Lk} {x : Nat} (hx : x < 18446744073709551616) : (K.turn x).st < 18446744073709551616 := by
  unfold Lk.turn
  repeat (first | split | exact hx)
theorem turn_sp {K : Lk} {x : Nat} (h : 0 ≤ K.sp ∧ K.sp ≤ 16) : 0 ≤ (K.turn x).sp ∧ (K.turn x).sp ≤ 16 := by
  unfold Lk.turn
  repeat (first | split | exact h | (show 0 ≤ K.sp - 1 ∧ K.sp - 1 ≤ 16; omega))
theorem cas_sp {K K' : Lk} {x was : Nat} (h : 0 ≤ K.sp ∧ K.sp ≤ 16) (h' : 0 ≤ K'.sp ∧ K'.sp ≤ 16) : 0 ≤ (K.cas x was K').sp ∧ (K.cas x was K').sp ≤ 16 := by
  unfold Lk.cas
  split
  · exact h'
  · exact turn_sp h
theorem turn_t {K : Lk} {x : Nat} : (K.turn x).t = K.t ∧ (K.turn x).a = K.a := by
  unfold Lk.turn
  repeat (first | split | exact ⟨rfl, rfl⟩)
theorem cas_t {K K' : Lk} {x was : Nat} (h : K'.t = K.t ∧ K'.a = K.a) : (K.cas x was K').t = K.t ∧ (K.cas x was K').a = K.a := by
  unfold Lk.cas
  split
  · exact h
  · exact turn_t
theorem stepK_t (M : Sd) (K : Lk) : (stepK M K).t = K.t ∧ (stepK M K).a = K.a := by
  unfold stepK
  split
  · exact cas_t (K := ({ K with sp := M.sp } : Lk)) ⟨rfl, rfl⟩
  · exact cas_t ⟨rfl, rfl⟩
  · exact turn_t
  · exact ⟨rfl, rfl⟩
  · exact cas_t ⟨rfl, rfl⟩
  · split <;> exact ⟨rfl, rfl⟩
  · exact ⟨rfl, rfl⟩
theorem stepM_sp (M : Sd) (K : Lk) : (stepM M K).sp = M.sp := by
  unfold stepM
  split <;> rfl
theorem look_acc {M : Sd} {k a y : Nat} (h : ∀ b, S2.look M.L b < 18446744073709551616) (hy : y < 18446744073709551616) (b : Nat) : S2.look (M.acc k a y).L b < 18446744073709551616 := by
  show S2.look (S2.putL M.L a (S2.bring a y)) b < _
  by_cases e : b = a
  · subst e; rw [S2.look_put_same]; exact S2.bring_lt hy
  · rw [S2.look_put_other _ e]; exact h b
theorem LkGo.step {M : Sd} {K : Lk} {c : Nat} (h : LkGo M K c) (hc : c < 1000000000) : LkGo (stepM M K) (stepK M K) (c + 1) := by
  have hl := h.lk K.a
  have hcas : ∀ u v, v < 18446744073709551616 → S2.casV (S2.look M.L K.a) u v < 18446744073709551616 := fun u v hv => S2.casV_lt hl hv
  have hnp : (stepM M K).n ≤ c + 1 ∧ (stepM M K).pn ≤ c + 1 := by
    have := h.n; have := h.pn
    unfold stepM
    split <;> (first | (simp only [Sd.acc, Sd.prep, Sd.link, Sd.park, Sd.call]; omega) | omega)
  have hlk : ∀ b, S2.look (stepM M K).L b < 18446744073709551616 := by
    intro b
    unfold stepM
    split
    · exact look_acc h.lk (hcas _ _ (by omega)) b
    · exact look_acc h.lk (hcas _ _ (S1.putU_lt _ _ _)) b
    · exact look_acc h.lk hl b
    · exact h.lk b
    · exact look_acc h.lk (hcas _ _ (S1.putU_lt _ _ _)) b
    · exact h.lk b
    · exact h.lk b
  refine ⟨⟨?_, ?_, ?_, ?_, ?_, by omega, by omega⟩, step_le h.ln, hlk, hnp.1, hnp.2⟩
  · rw [(stepK_t M K).1]; exact h.ok.t
  · rw [(stepK_t M K).2]; exact h.ok.a
  · unfold stepK
    split
    · exact cas_st hl h.ok.st
    · exact cas_st hl h.ok.st
    · exact turn_st hl
    · exact h.ok.st
    · exact cas_st hl h.ok.st
    · split <;> exact h.ok.st
    · exact h.ok.st
  · unfold stepK
    split
    · exact cas_sp (K := ({ K with sp := M.sp } : Lk)) h.ok.ms h.ok.ms
    · exact cas_sp h.ok.sp h.ok.sp
    · exact turn_sp h.ok.sp
    · exact h.ok.sp
    · exact cas_sp h.ok.sp h.ok.sp
    · split
      · exact h.ok.ms
      · exact h.ok.sp
    · exact h.ok.sp
  · rw [stepM_sp]; exact h.ok.ms
theorem LkGo.itn {p : Sd × Lk} {c : Nat} (h : LkGo p.1 p.2 c) : ∀ n, c + n < 1000000000 → LkGo (itn p n).1 (itn p n).2 (c + n)
  | 0, _ => h
  | n + 1, hn => (LkGo.itn h n (by omega)).step (by omega)
/-- The examples' states. -/
def exM : Sd := sdN 1 5
def exA : Sd × Lk := it (exM, lk1 3 260)
def exB : Sd × Lk := (exA.1, lk1 5 260)
theorem ex_over : exA.2.ln = 0 := by kernel_rfl
theorem ex_ln : (itn exB 0).2.ln = 1 ∧ (itn exB 1).2.ln = 3 ∧ (itn exB 2).2.ln = 4 ∧ (itn exB 3).2.ln = 5 ∧ (itn exB 4).2.ln = 6 ∧ (itn exB 5).2.ln = 6 := ⟨by kernel_rfl, by kernel_rfl, by kernel_rfl, by kernel_rfl, by kernel_rfl, by kernel_rfl⟩
theorem ex_word : S2.look (itn exB 5).1.L 260 = 25 := by kernel_rfl
theorem ex_asleep : ((itn exB 5).1.pf 11).a = true := by kernel_rfl
theorem l02_lt (a : Nat) : S2.look L02 a < 18446744073709551616 := by
  have e : L02 = [(0, 2)] := by kernel_rfl
  rw [e]
  unfold S2.look
  simp only [List.find?]
  split
  · rename_i p hp
    split at hp
    · injection hp with hp; subst hp; decide
    · cases hp
  · decide
theorem ex_go0 : LkGo exM (lk1 3 260) 0 := ⟨⟨by decide, by decide, by decide, by decide, by decide, by decide, by decide⟩, by decide, l02_lt, by decide, by decide⟩
theorem ex_go1 : LkGo exB.1 exB.2 1 := by
  have h := ex_go0.step (by decide)
  exact ⟨⟨by decide, by decide, by decide, by decide, h.ok.ms, h.ok.n, h.ok.pn⟩, by decide, h.lk, h.n, h.pn⟩
theorem ex_go (n : Nat) (hn : n ≤ 5) : LkGo (itn exB n).1 (itn exB n).2 (1 + n) := LkGo.itn ex_go1 n (by omega)
theorem ex_pos (n : Nat) (hn : n < 5) : (itn exB (n + 1)).2.ln ≠ 0 := by
  have h := ex_ln
  match n, hn with
  | 0, _ => rw [h.2.1]; decide
  | 1, _ => rw [h.2.2.1]; decide
  | 2, _ => rw [h.2.2.2.1]; decide
  | 3, _ => rw [h.2.2.2.2.1]; decide
  | 4, _ => rw [h.2.2.2.2.2]; decide
set_option maxRecDepth 100000 in
theorem run_one {w : World} {B WB : Nat} {K : Lk} {P : World → Prop} (h : Calls Tryz.prog 13 #[Pw B, Pw WB] w fun e w' => e = .returned (.bool true) ∧ P w') : Calls Tryz.prog 19 #[Pw WB, .iface 45 (Pw B), .int .i64 9] w fun e w' => e = .returned (.int .i64 1) ∧ P w' := by
  have H := Lib.hid h
  have hm := meth_step ⟨B, 0, none⟩
  clear h
  go_enter Tryz.func19, Tryz.ntmps19
  go_wp2_with fail
  go_loopg [7] 1 (fun q s7 wx => q = 1 ∧ s7 = .int .i64 1 ∧ wx = w)
  case atStart => exact ⟨rfl, rfl, rfl⟩
  case round =>
    obtain ⟨rfl, rfl, rfl⟩ := hrel
    go_wp2_with (go_at_call 13; refine H.out.mono ?_; rintro e w1 ⟨rfl, hp⟩)
    go_ret
    exact ⟨rfl, hp⟩
set_option maxRecDepth 100000 in
set_option maxHeartbeats 4000000 in
theorem lives_any (w : World) : Calls Tryz.prog 5 #[] w fun e w' => e = .returned (.bool true) ∧ Below w.heap.size w w' := by
  have HW : Hid (Calls Tryz.prog 18 #[.int .u8 1] w fun e w' => ∃ X, e = .returned (Pw X.wB) ∧ PW w' w.heap.size X ∧ At0 X 1 5 [] ∧ Below w.heap.size w w') := Lib.hid (world_any 1 (by decide) w)
  have HNL : ∀ (t : Int) (W : World), Calls Tryz.prog 7 #[.int .i64 t, .int .u32 260] W fun e w' => e = .returned (Pw W.heap.size) ∧ w' = W.alloc (.cells (newK t 260).cs 64) := fun t W => new_lock t 260 W
  have HN3 : Hid (∀ W, Calls Tryz.prog 7 #[.int .i64 3, .int .u32 260] W fun e w' => e = .returned (Pw W.heap.size) ∧ w' = W.alloc (.cells (lk1 3 260).cs 64)) := Lib.hid (fun W => HNL 3 W)
  have HN5 : Hid (∀ W, Calls Tryz.prog 7 #[.int .i64 5, .int .u32 260] W fun e w' => e = .returned (Pw W.heap.size) ∧ w' = W.alloc (.cells (lk1 5 260).cs 64)) := Lib.hid (fun W => HNL 5 W)
  clear HNL
  go_enter Tryz.func5, Tryz.ntmps5
  go_upto_region 4 with (go_at_call 18; refine HW.out.mono ?_; rintro e w1 ⟨X, rfl, hp, h0, hb⟩)
  have hpg := pg_of hp hb
  rw [at0_sd h0] at hpg
  obtain ⟨WB, hWB⟩ : ∃ x, x = X.wB := ⟨_, rfl⟩
  rw [← hWB] at hpg ⊢
  have hlk := Pg.lock hpg (lk1 3 260)
  have HR := Lib.hid (run_one (K := lk1 3 260) (P := fun w' => Stepped w w' w.heap.size WB exM [lockP w1.heap.size (lk1 3 260)] 0 w1.heap.size (lk1 3 260)) (by
    have := step_any hlk ex_go0.ok (by decide)
    refine this.mono ?_
    rintro e w' ⟨rfl, hs⟩
    exact ⟨by have e9 : (stepK (sdN 1 5) (lk1 3 260)).ln = 0 := ex_over
              rw [e9]; rfl, hs⟩))
  clear hpg hlk hp h0 hb hWB
  go_upto_region 5 with (first
    | (go_at_call 7; refine (HN3.out _).mono ?_; rintro e w2 ⟨rfl, rfl⟩)
    | (go_at_call 19; refine HR.out.mono ?_; rintro e w3 ⟨rfl, hs⟩))
  obtain ⟨X3, h3⟩ := hs
  have h3g := h3.pg
  obtain ⟨r3, hr3⟩ : ∃ r, r = [lockP w1.heap.size (lk1 3 260)].set 0 (lockP w1.heap.size (stepK exM (lk1 3 260))) := ⟨_, rfl⟩
  rw [← hr3] at h3g
  have h5 := Pg.lock h3g (lk1 5 260)
  have H5 := Lib.hid h5
  clear h3 h3g h5 hr3 HR
  go_upto_region 6 with (go_at_call 7; refine (HN5.out _).mono ?_; rintro e w4 ⟨rfl, rfl⟩)
  generalize w3.alloc (.cells (lk1 5 260).cs 64) = w5 at *
  generalize w3.heap.size = B at *
  go_wp2_with fail
  go_loopg [4] 5 (fun q s4 wx => ∃ i : Nat, i ≤ 5 ∧ q = 5 - i ∧ s4 = .int .i64 (i : Int) ∧ ∃ X, Wl w wx w.heap.size WB (itn exB i).1 (r3 ++ [lockP B (lk1 5 260)]) r3.length B (itn exB i).2 X)
  case atStart => exact ⟨0, by omega, rfl, rfl, X3, H5.out⟩
  case round =>
    obtain ⟨i, hi, rfl, rfl, X5, h⟩ := hrel
    by_cases hi5 : i < 5
    · have hst := step_any h (ex_go i (by omega)).ok (ex_go i (by omega)).ln
      rw [decide_eq_false (show ¬ (stepK (itn exB i).1 (itn exB i).2).ln = 0 from ex_pos i hi5)] at hst
      have HST := Lib.hid hst; have HI := Lib.hid hi5
      have d1 : (i : Int) < 5 := by omega
      clear hst h hi hi5
      go_wp2_with (go_at_call 13; refine HST.out.mono ?_; rintro e w6 ⟨rfl, hs⟩)
      go_roundg (5 - (i + 1))
      case measure => have := HI.out; omega
      case rel => exact ⟨i + 1, by have := HI.out; omega, rfl, by go_num, hs⟩
    · obtain rfl : i = 5 := by omega
      have hcB := h.pg.c
      have HWT : Hid (Calls Tryz.prog 17 #[Pw B] wr.drew fun e w' => e = .returned (.bool true) ∧ wr.drew = w') := Lib.hid (by
        have := waits_any (h.new (Below.refl _ _).drew).at
        rwa [ex_ln.2.2.2.2.2] at this)
      have HPK : Hid (Calls Tryz.prog 20 #[Pw X5.cB, .int .u32 260] wr.drew fun e w' => e = .returned (.int .u64 25) ∧ wr.drew = w') := Lib.hid (by
        have hg := (h.new (Below.refl _ _).drew).pg
        have := S2.peek_any _ X5.cB X5.cM X5.L X5.n X5.k X5.a X5.was X5.is 260 hg.pw.cells (by omega)
        rw [show X5.L = (itn exB 5).1.L from congrArg Sd.L hg.xm, ex_word] at this
        exact this)
      have HWD : Hid (∀ W, Calls Tryz.prog 22 #[.int .i64 5] W fun e w' => e = .returned (.int .i64 11) ∧ W = w') := Lib.hid (fun W => word_any 5 (by decide) W)
      have HSL : Hid (Calls Tryz.prog 21 #[Pw X5.pB, .int .i64 11] wr.drew fun e w' => e = .returned (.bool true) ∧ wr.drew = w') := Lib.hid (by
        have hg := (h.new (Below.refl _ _).drew).pg
        have := S4.asleep_yes hg.pw.permits (i := 11) (by decide)
        rw [show X5.pf = (itn exB 5).1.pf from congrArg Sd.pf hg.xm, ex_asleep] at this
        exact this)
      have HF : Hid ((fun w' => w'.cell? ⟨WB, 0, none⟩ = some (Pw X5.cB) ∧ w'.cell? ⟨WB, 2, none⟩ = some (Pw X5.pB)) wr.drew) := Lib.hid ⟨hcB.1, hcB.2.1⟩
      have HB := Lib.hid h.pg.bl
      clear h hcB hi hi5
      go_upto_region 11 with (fail)
      refine wp_region_held_drew (S := fun w' => w'.cell? ⟨WB, 0, none⟩ = some (Pw X5.cB) ∧ w'.cell? ⟨WB, 2, none⟩ = some (Pw X5.pB)) (by kernel_rfl) ?_ (fun hHeld => ?_)
      · exact HF.out
      refine wpAnyH_take (i := 0) (oi := ({ dst := some 20, op := Op.move (Operand.tmp 2), type := 3, pos := "outright.go:27", after := #[], guard := none } : Oper)) (v := ?vzm1) rfl (by kernel_rfl) (by kernel_rfl) (by kernel_rfl) (fun _ _ _ h => h) (Or.inl ⟨by rfl, fun w hSw => ?hyzm1⟩) (by assumption) ?rzm1
      case hyzm1 => (try dsimp only at hSw); go_simp; (try with_reducible rfl)
      (try simp only [Act.put, List.setIfInBounds_toArray, List.set_cons_zero, List.set_cons_succ])
      refine wpAnyH_take (i := 1) (oi := ({ dst := some 21, op := Op.binOp BinOp.eql 3 (Operand.tmp 20) (Operand.const (Value.int IntKind.i64 1)) 3, type := 4, pos := "outright.go:27", after := #[{ on := 0, ground := Ground.data }], guard := none } : Oper)) (v := ?vzm2) rfl (by kernel_rfl) (by kernel_rfl) (by kernel_rfl) (fun _ _ _ h => h) (Or.inl ⟨by rfl, fun w hSw => ?hyzm2⟩) (by assumption) ?rzm2
      case hyzm2 => (try dsimp only at hSw); go_simp; (try with_reducible rfl)
      (try simp only [Act.put, List.setIfInBounds_toArray, List.set_cons_zero, List.set_cons_succ])
      refine wpAnyH_take (i := 2) (oi := ({ dst := some 22, op := Op.move (Operand.tmp 21), type := 4, pos := "outright.go:27", after := #[{ on := 1, ground := Ground.data }], guard := none } : Oper)) (v := ?vzm3) rfl (by kernel_rfl) (by kernel_rfl) (by kernel_rfl) (fun _ _ _ h => h) (Or.inl ⟨by rfl, fun w hSw => ?hyzm3⟩) (by assumption) ?rzm3
      case hyzm3 => (try dsimp only at hSw); go_simp; (try with_reducible rfl)
      (try simp only [Act.put, List.setIfInBounds_toArray, List.set_cons_zero, List.set_cons_succ])
      refine wpAnyH_take (i := 3) (oi := ({ dst := some 23, op := Op.move (Operand.tmp 3), type := 45, pos := "outright.go:27", after := #[{ on := 2, ground := Ground.guard }], guard := some (2, true) } : Oper)) (v := ?vzm4) rfl (by kernel_rfl) (by kernel_rfl) (by kernel_rfl) (fun _ _ _ h => h) (Or.inl ⟨by rfl, fun w hSw => ?hyzm4⟩) (by assumption) ?rzm4
      case hyzm4 => (try dsimp only at hSw); go_simp; (try with_reducible rfl)
      (try simp only [Act.put, List.setIfInBounds_toArray, List.set_cons_zero, List.set_cons_succ])
      refine wpAnyH_ready (rs := [4]) (by kernel_rfl) (by simp) ?_
      refine AllReadyH.cons (o := ({ dst := some 24, op := Op.call { callee := Callee.value (Operand.func 17), args := #[Operand.tmp 23], argTypes := #[45] }, type := 4, pos := "outright.go:27", after := #[{ on := 3, ground := Ground.data }, { on := 2, ground := Ground.chain }, { on := 2, ground := Ground.guard }], guard := some (2, true) } : Oper)) rfl (fun Kq hKq => ?_) AllReadyH.nil
      go_simp
      (refine HWT.out.mono ?_; rintro e w8 ⟨rfl, rfl⟩)
      refine hKq.out _ _ ?_ (fun hHeld => ?_)
      · exact hHeld
      clear hKq Kq
      (try simp only [Act.put, List.setIfInBounds_toArray, List.set_cons_zero, List.set_cons_succ])
      refine wpAnyH_take (i := 5) (oi := ({ dst := some 25, op := Op.pick (Operand.tmp 22) (Operand.tmp 24) (Operand.const (Value.bool false)), type := 4, pos := "outright.go:27", after := #[{ on := 2, ground := Ground.data }, { on := 4, ground := Ground.data }], guard := none } : Oper)) (v := ?vzm5) rfl (by kernel_rfl) (by kernel_rfl) (by kernel_rfl) (fun _ _ _ h => h) (Or.inl ⟨by rfl, fun w hSw => ?hyzm5⟩) (by assumption) ?rzm5
      case hyzm5 => (try dsimp only at hSw); go_simp; (try with_reducible rfl)
      (try simp only [Act.put, List.setIfInBounds_toArray, List.set_cons_zero, List.set_cons_succ])
      refine wpAnyH_take (i := 6) (oi := ({ dst := some 26, op := Op.move (Operand.tmp 25), type := 4, pos := "outright.go:27", after := #[{ on := 5, ground := Ground.data }, { on := 4, ground := Ground.chain }], guard := none } : Oper)) (v := ?vzm6) rfl (by kernel_rfl) (by kernel_rfl) (by kernel_rfl) (fun _ _ _ h => h) (Or.inl ⟨by rfl, fun w hSw => ?hyzm6⟩) (by assumption) ?rzm6
      case hyzm6 => (try dsimp only at hSw); go_simp; (try with_reducible rfl)
      (try simp only [Act.put, List.setIfInBounds_toArray, List.set_cons_zero, List.set_cons_succ])
      refine wpAnyH_take (i := 7) (oi := ({ dst := some 27, op := Op.move (Operand.tmp 1), type := 33, pos := "outright.go:27", after := #[{ on := 6, ground := Ground.guard }], guard := some (6, true) } : Oper)) (v := ?vzm7) rfl (by kernel_rfl) (by kernel_rfl) (by kernel_rfl) (fun _ _ _ h => h) (Or.inl ⟨by rfl, fun w hSw => ?hyzm7⟩) (by assumption) ?rzm7
      case hyzm7 => (try dsimp only at hSw); go_simp; (try with_reducible rfl)
      (try simp only [Act.put, List.setIfInBounds_toArray, List.set_cons_zero, List.set_cons_succ])
      refine wpAnyH_take (i := 8) (oi := ({ dst := some 28, op := Op.nilCheck (Operand.tmp 27), type := 0, pos := "outright.go:27", after := #[{ on := 7, ground := Ground.data }, { on := 6, ground := Ground.guard }], guard := some (6, true) } : Oper)) (v := ?vzm8) rfl (by kernel_rfl) (by kernel_rfl) (by kernel_rfl) (fun _ _ _ h => h) (Or.inl ⟨by rfl, fun w hSw => ?hyzm8⟩) (by assumption) ?rzm8
      case hyzm8 => (try dsimp only at hSw); go_simp; (try with_reducible rfl)
      (try simp only [Act.put, List.setIfInBounds_toArray, List.set_cons_zero, List.set_cons_succ])
      refine wpAnyH_take (i := 9) (oi := ({ dst := some 29, op := Op.fieldAddr 74 (Operand.tmp 28) 0, type := 0, pos := "outright.go:27", after := #[{ on := 8, ground := Ground.data }, { on := 6, ground := Ground.guard }], guard := some (6, true) } : Oper)) (v := ?vzm9) rfl (by kernel_rfl) (by kernel_rfl) (by kernel_rfl) (fun _ _ _ h => h) (Or.inl ⟨by rfl, fun w hSw => ?hyzm9⟩) (by assumption) ?rzm9
      case hyzm9 => (try dsimp only at hSw); go_simp; (try with_reducible rfl)
      (try simp only [Act.put, List.setIfInBounds_toArray, List.set_cons_zero, List.set_cons_succ])
      refine wpAnyH_take (i := 10) (oi := ({ dst := some 30, op := Op.load 66 (Operand.tmp 29), type := 66, pos := "outright.go:27", after := #[{ on := 9, ground := Ground.data }, { on := 6, ground := Ground.guard }], guard := some (6, true) } : Oper)) (v := ?vzm10) rfl (by kernel_rfl) (by kernel_rfl) (by kernel_rfl) (fun _ _ _ h => h) (Or.inl ⟨by rfl, fun w hSw => ?hyzm10⟩) (by assumption) ?rzm10
      case hyzm10 => (try dsimp only at hSw); go_simp; (try with_reducible rfl)
      (try simp only [Act.put, List.setIfInBounds_toArray, List.set_cons_zero, List.set_cons_succ])
      refine wpAnyH_ready (rs := [11]) (by kernel_rfl) (by simp) ?_
      refine AllReadyH.cons (o := ({ dst := some 31, op := Op.call { callee := Callee.value (Operand.func 20), args := #[Operand.tmp 30, Operand.const (Value.int IntKind.u32 260)], argTypes := #[66, 40] }, type := 22, pos := "outright.go:27", after := #[{ on := 10, ground := Ground.data }, { on := 6, ground := Ground.chain }, { on := 6, ground := Ground.guard }], guard := some (6, true) } : Oper)) rfl (fun Kq hKq => ?_) AllReadyH.nil
      go_simp
      (refine HPK.out.mono ?_; rintro e w8 ⟨rfl, rfl⟩)
      refine hKq.out _ _ ?_ (fun hHeld => ?_)
      · exact hHeld
      clear hKq Kq
      (try simp only [Act.put, List.setIfInBounds_toArray, List.set_cons_zero, List.set_cons_succ])
      refine wpAnyH_take (i := 12) (oi := ({ dst := some 32, op := Op.binOp BinOp.eql 22 (Operand.tmp 31) (Operand.const (Value.int IntKind.u64 25)) 22, type := 4, pos := "outright.go:27", after := #[{ on := 11, ground := Ground.data }, { on := 6, ground := Ground.guard }], guard := some (6, true) } : Oper)) (v := ?vzm11) rfl (by kernel_rfl) (by kernel_rfl) (by kernel_rfl) (fun _ _ _ h => h) (Or.inl ⟨by rfl, fun w hSw => ?hyzm11⟩) (by assumption) ?rzm11
      case hyzm11 => (try dsimp only at hSw); go_simp; (try with_reducible rfl)
      (try simp only [Act.put, List.setIfInBounds_toArray, List.set_cons_zero, List.set_cons_succ])
      refine wpAnyH_take (i := 13) (oi := ({ dst := some 33, op := Op.pick (Operand.tmp 26) (Operand.tmp 32) (Operand.const (Value.bool false)), type := 4, pos := "outright.go:27", after := #[{ on := 6, ground := Ground.data }, { on := 12, ground := Ground.data }], guard := none } : Oper)) (v := ?vzm12) rfl (by kernel_rfl) (by kernel_rfl) (by kernel_rfl) (fun _ _ _ h => h) (Or.inl ⟨by rfl, fun w hSw => ?hyzm12⟩) (by assumption) ?rzm12
      case hyzm12 => (try dsimp only at hSw); go_simp; (try with_reducible rfl)
      (try simp only [Act.put, List.setIfInBounds_toArray, List.set_cons_zero, List.set_cons_succ])
      refine wpAnyH_take (i := 14) (oi := ({ dst := some 34, op := Op.move (Operand.tmp 33), type := 4, pos := "outright.go:27", after := #[{ on := 13, ground := Ground.data }, { on := 11, ground := Ground.chain }], guard := none } : Oper)) (v := ?vzm13) rfl (by kernel_rfl) (by kernel_rfl) (by kernel_rfl) (fun _ _ _ h => h) (Or.inl ⟨by rfl, fun w hSw => ?hyzm13⟩) (by assumption) ?rzm13
      case hyzm13 => (try dsimp only at hSw); go_simp; (try with_reducible rfl)
      (try simp only [Act.put, List.setIfInBounds_toArray, List.set_cons_zero, List.set_cons_succ])
      refine wpAnyH_take (i := 15) (oi := ({ dst := some 35, op := Op.move (Operand.tmp 1), type := 33, pos := "outright.go:27", after := #[{ on := 14, ground := Ground.guard }], guard := some (14, true) } : Oper)) (v := ?vzm14) rfl (by kernel_rfl) (by kernel_rfl) (by kernel_rfl) (fun _ _ _ h => h) (Or.inl ⟨by rfl, fun w hSw => ?hyzm14⟩) (by assumption) ?rzm14
      case hyzm14 => (try dsimp only at hSw); go_simp; (try with_reducible rfl)
      (try simp only [Act.put, List.setIfInBounds_toArray, List.set_cons_zero, List.set_cons_succ])
      refine wpAnyH_take (i := 16) (oi := ({ dst := some 36, op := Op.nilCheck (Operand.tmp 35), type := 0, pos := "outright.go:27", after := #[{ on := 15, ground := Ground.data }, { on := 14, ground := Ground.guard }], guard := some (14, true) } : Oper)) (v := ?vzm15) rfl (by kernel_rfl) (by kernel_rfl) (by kernel_rfl) (fun _ _ _ h => h) (Or.inl ⟨by rfl, fun w hSw => ?hyzm15⟩) (by assumption) ?rzm15
      case hyzm15 => (try dsimp only at hSw); go_simp; (try with_reducible rfl)
      (try simp only [Act.put, List.setIfInBounds_toArray, List.set_cons_zero, List.set_cons_succ])
      refine wpAnyH_take (i := 17) (oi := ({ dst := some 37, op := Op.fieldAddr 74 (Operand.tmp 36) 2, type := 0, pos := "outright.go:27", after := #[{ on := 16, ground := Ground.data }, { on := 14, ground := Ground.guard }], guard := some (14, true) } : Oper)) (v := ?vzm16) rfl (by kernel_rfl) (by kernel_rfl) (by kernel_rfl) (fun _ _ _ h => h) (Or.inl ⟨by rfl, fun w hSw => ?hyzm16⟩) (by assumption) ?rzm16
      case hyzm16 => (try dsimp only at hSw); go_simp; (try with_reducible rfl)
      (try simp only [Act.put, List.setIfInBounds_toArray, List.set_cons_zero, List.set_cons_succ])
      refine wpAnyH_take (i := 18) (oi := ({ dst := some 38, op := Op.load 68 (Operand.tmp 37), type := 68, pos := "outright.go:27", after := #[{ on := 17, ground := Ground.data }, { on := 14, ground := Ground.guard }], guard := some (14, true) } : Oper)) (v := ?vzm17) rfl (by kernel_rfl) (by kernel_rfl) (by kernel_rfl) (fun _ _ _ h => h) (Or.inl ⟨by rfl, fun w hSw => ?hyzm17⟩) (by assumption) ?rzm17
      case hyzm17 => (try dsimp only at hSw); go_simp; (try with_reducible rfl)
      (try simp only [Act.put, List.setIfInBounds_toArray, List.set_cons_zero, List.set_cons_succ])
      refine wpAnyH_ready (rs := [19]) (by kernel_rfl) (by simp) ?_
      refine AllReadyH.cons (o := ({ dst := some 39, op := Op.call { callee := Callee.value (Operand.func 22), args := #[Operand.const (Value.int IntKind.i64 5)], argTypes := #[3] }, type := 3, pos := "outright.go:27", after := #[{ on := 14, ground := Ground.chain }, { on := 14, ground := Ground.guard }], guard := some (14, true) } : Oper)) rfl (fun Kq hKq => ?_) AllReadyH.nil
      go_simp
      (refine (HWD.out _).mono ?_; rintro e w8 ⟨rfl, rfl⟩)
      refine hKq.out _ _ ?_ (fun hHeld => ?_)
      · exact hHeld
      clear hKq Kq
      (try simp only [Act.put, List.setIfInBounds_toArray, List.set_cons_zero, List.set_cons_succ])
      refine wpAnyH_ready (rs := [20]) (by kernel_rfl) (by simp) ?_
      refine AllReadyH.cons (o := ({ dst := some 40, op := Op.call { callee := Callee.value (Operand.func 21), args := #[Operand.tmp 38, Operand.tmp 39], argTypes := #[68, 3] }, type := 4, pos := "outright.go:27", after := #[{ on := 18, ground := Ground.data }, { on := 19, ground := Ground.data }, { on := 19, ground := Ground.chain }, { on := 14, ground := Ground.guard }], guard := some (14, true) } : Oper)) rfl (fun Kq hKq => ?_) AllReadyH.nil
      go_simp
      (refine HSL.out.mono ?_; rintro e w8 ⟨rfl, rfl⟩)
      refine hKq.out _ _ ?_ (fun hHeld => ?_)
      · exact hHeld
      clear hKq Kq
      (try simp only [Act.put, List.setIfInBounds_toArray, List.set_cons_zero, List.set_cons_succ])
      refine wpAnyH_take (i := 21) (oi := ({ dst := some 41, op := Op.pick (Operand.tmp 34) (Operand.tmp 40) (Operand.const (Value.bool false)), type := 4, pos := "outright.go:27", after := #[{ on := 14, ground := Ground.data }, { on := 20, ground := Ground.data }], guard := none } : Oper)) (v := ?vzm18) rfl (by kernel_rfl) (by kernel_rfl) (by kernel_rfl) (fun _ _ _ h => h) (Or.inl ⟨by rfl, fun w hSw => ?hyzm18⟩) (by assumption) ?rzm18
      case hyzm18 => (try dsimp only at hSw); go_simp; (try with_reducible rfl)
      (try simp only [Act.put, List.setIfInBounds_toArray, List.set_cons_zero, List.set_cons_succ])
      refine wpAnyH_take (i := 22) (oi := ({ dst := some 0, op := Op.assign (Operand.tmp 41), type := 4, pos := "outright.go:27", after := #[{ on := 21, ground := Ground.data }, { on := 20, ground := Ground.chain }, { on := 0, ground := Ground.phase }, { on := 1, ground := Ground.phase }, { on := 2, ground := Ground.phase }, { on := 3, ground := Ground.phase }, { on := 4, ground := Ground.phase }, { on := 5, ground := Ground.phase }, { on := 6, ground := Ground.phase }, { on := 7, ground := Ground.phase }, { on := 8, ground := Ground.phase }, { on := 9, ground := Ground.phase }, { on := 10, ground := Ground.phase }, { on := 11, ground := Ground.phase }, { on := 12, ground := Ground.phase }, { on := 13, ground := Ground.phase }, { on := 14, ground := Ground.phase }, { on := 15, ground := Ground.phase }, { on := 16, ground := Ground.phase }, { on := 17, ground := Ground.phase }, { on := 18, ground := Ground.phase }, { on := 19, ground := Ground.phase }, { on := 20, ground := Ground.phase }, { on := 21, ground := Ground.phase }], guard := none } : Oper)) (v := ?vzm19) rfl (by kernel_rfl) (by kernel_rfl) (by kernel_rfl) (fun _ _ _ h => h) (Or.inl ⟨by rfl, fun w hSw => ?hyzm19⟩) (by assumption) ?rzm19
      case hyzm19 => (try dsimp only at hSw); go_simp; (try with_reducible rfl)
      (try simp only [Act.put, List.setIfInBounds_toArray, List.set_cons_zero, List.set_cons_succ])
      refine wpAnyH_done (by kernel_rfl) ?_ _
      go_wp2_with fail
      go_ret
      exact ⟨rfl, HB.out.drew⟩
end Go.Proofs.YtffoobepdofkkaaGreat.S13
namespace Go.Proofs.YtffoobepdofkkaaGreat.S12
open Go.Proofs.YtffoobepdofkkaaGreat Go.Proofs.YtffoobepdofkkaaGreat.S11
open Go.RowKit

section
variable {w0 w w' : World} {base WB RB N cn tn : Nat} {M RM : Sd} {E : List Part} {X : Wm} {Y : Rm}
theorem Bg.wstore (h : Bg w0 w base WB RB N cn tn M RM E X Y) {a v : Nat} (ha : a < 4294967296) (hv : v < 18446744073709551616) (hc : cn ≤ 1000000) :
    Calls Tryz.prog 37 #[Pw RB, .int .u32 a, .int .u64 v] w fun e w' => e = .returned (.int .u64 (S2.look Y.L a : Nat)) ∧ ∃ Y', Bg w0 w' base WB RB N (cn + 1) tn M (RM.store a v) E X Y' := by
  have HS := Lib.hid (h.rstore ha hv hc)
  obtain ⟨_, _, _, c3, _, _⟩ := h.c
  clear h ha hv hc
  generalize (S2.look Y.L a : Nat) = z at *
  go_enter Tryz.func37, Tryz.ntmps37
  go_wp2_with (go_at_call 94; refine HS.out.mono ?_; rintro e w1 ⟨rfl, hy⟩)
  go_ret
  exact ⟨rfl, hy⟩
set_option maxRecDepth 100000 in
set_option maxHeartbeats 4000000 in
theorem pair_storeS (h : Bg w0 w base WB RB N cn tn M M E X Y) {a v : Nat} (ha : a < 4294967296) (hv : v < 18446744073709551616) (hc : cn ≤ 999999) :
    Calls Tryz.prog 10 #[.agg #[Pw WB, Pw RB], .agg #[.int .u32 a, .int .u64 v]] w fun e w' => e = .returned (.tuple #[]) ∧ ∃ X' Y', Bg w0 w' base WB RB N (cn + 2) tn (M.store a v) (M.store a v) E X' Y' := by
  have hb : Below w.heap.size w ((w.alloc (.cells #[Pw WB, Pw RB] 36)).alloc (.cells #[.int .u32 (a : Int), .int .u64 (v : Int)] 42)) := ((Below.refl _ _).alloc (Nat.le_refl _) _).alloc (by simp) _
  have h0 : ((w.alloc (.cells #[Pw WB, Pw RB] 36)).alloc (.cells #[.int .u32 (a : Int), .int .u64 (v : Int)] 42)).heap[w.heap.size]? = some (.cells #[Pw WB, Pw RB] 36 (0, 0)) := (((Below.refl _ (w.alloc (.cells #[Pw WB, Pw RB] 36))).alloc (Nat.le_refl _) _).block w.heap.size (by simp)).trans (heap_alloc_new _ _)
  have h1 : ((w.alloc (.cells #[Pw WB, Pw RB] 36)).alloc (.cells #[.int .u32 (a : Int), .int .u64 (v : Int)] 42)).heap[w.heap.size + 1]? = some (.cells #[.int .u32 (a : Int), .int .u64 (v : Int)] 42 (0, 0)) := by
    have := heap_alloc_new (w.alloc (.cells #[Pw WB, Pw RB] 36)) (.cells #[.int .u32 (a : Int), .int .u64 (v : Int)] 42)
    rwa [show (w.alloc (.cells #[Pw WB, Pw RB] 36)).heap.size = w.heap.size + 1 by simp] at this
  have hn := h.new hb
  have HLT : Hid (∀ k, Foot X k → k < w.heap.size) := Lib.hid (fun k hk => h.pr.pw.foot_lt hk)
  obtain ⟨B0, hB0⟩ : ∃ B0, B0 = w.heap.size := ⟨_, rfl⟩
  obtain ⟨B1, hB1⟩ : ∃ B1, B1 = w.heap.size + 1 := ⟨_, rfl⟩
  rw [← hB0] at h0
  rw [← hB1] at h1
  have hcx := hn.xn
  have c0 := cell_row h0 0; have c1 := cell_row h0 1; have d0 := cell_row h1 0; have d1 := cell_row h1 1
  simp only [List.getElem?_toArray, List.getElem?_cons_zero, List.getElem?_cons_succ] at c0 c1 d0 d1
  have hst := hn.store ha hv (by omega)
  obtain ⟨k0, _, _, _, _, _⟩ := hn.c
  have HST : Hid (∀ W, W = ((w.alloc (.cells #[Pw WB, Pw RB] 36)).alloc (.cells #[.int .u32 (a : Int), .int .u64 (v : Int)] 42)).drew → Calls Tryz.prog 36 #[Pw X.cB, .int .u32 a, .int .u64 v] W fun e w' => e = .returned (.int .u64 (S2.look X.L a : Nat)) ∧ ∃ X', Bg w0 w' base WB RB N (cn + 1) tn (M.store a v) M E X' Y ∧ w'.heap[B0]? = some (.cells #[Pw WB, Pw RB] 36 (0, 0)) ∧ w'.heap[B1]? = some (.cells #[.int .u32 (a : Int), .int .u64 (v : Int)] 42 (0, 0)) ∧ w'.cell? ⟨WB, 0, none⟩ = some (Pw X.cB)) := Lib.hid (fun W e => by
    subst e
    have hn2 := hn.new ((Below.refl _ _).drew)
    refine (S2.store_any _ X.cB X.cM X.L X.n X.k X.a X.was X.is a v hn2.pr.pw.cells ha hv (by omega)).mono ?_
    rintro e w' ⟨rfl, hl⟩
    obtain ⟨X', h', hcB, _⟩ := hn2.left hl
    obtain ⟨_, _, _, t⟩ := hl
    have nf : ∀ k, w.heap.size ≤ k → ¬ S2.Fp X.cB X.cM k := fun k hk hf => by
      have := HLT.out k ⟨0, _, rfl, hf⟩; omega
    exact ⟨rfl, X', h',
      (t.block B0 (Array.getElem?_eq_some_iff.1 h0).1 (nf _ (by omega))).trans h0, (t.block B1 (Array.getElem?_eq_some_iff.1 h1).1 (nf _ (by omega))).trans h1, by
        have := h'.c.1
        rw [hcB] at this; exact this⟩)
  have HHB : Hid (Below w.heap.size w w) := Lib.hid (Below.refl _ _)
  clear hst hn hb h0 h1 h HLT hcx
  go_enter Tryz.func10, Tryz.ntmps10
  go_upto_region 1 with (fail)
  rw [← hB0, show B0 + 1 = B1 by omega]
  have HQ := Lib.hid (And.intro ha (And.intro hv hc))
  clear hB0 hB1 HHB ha hv hc
  generalize (w.alloc (.cells #[Pw WB, Pw RB] 36)).alloc (.cells #[.int .u32 (a : Int), .int .u64 (v : Int)] 42) = w1 at *
  refine wp_region_held_drew (S := fun w' => w'.cell? ⟨B0, 0, none⟩ = some (Pw WB) ∧ w'.cell? ⟨B1, 0, none⟩ = some (.int .u32 (a : Int)) ∧ w'.cell? ⟨B1, 1, none⟩ = some (.int .u64 (v : Int)) ∧ w'.cell? ⟨WB, 0, none⟩ = some (Pw X.cB)) (by kernel_rfl) ?_ (fun hHeld => ?_)
  · exact ⟨c0, d0, d1, k0⟩
  refine wpAnyH_take (i := 0) (oi := ({ dst := some 4, op := Op.fieldAddr 36 (Operand.tmp 2) 0, type := 0, pos := "help.go:86", after := #[], guard := none } : Oper)) (v := ?vax1) rfl (by kernel_rfl) (by kernel_rfl) (by kernel_rfl) (fun _ _ _ h => h) (Or.inl ⟨by rfl, fun w hSw => ?hyax1⟩) (by assumption) ?rax1
  case hyax1 => (try dsimp only at hSw); go_simp; (try with_reducible rfl)
  (try simp only [Act.put, List.setIfInBounds_toArray, List.set_cons_zero, List.set_cons_succ])
  refine wpAnyH_take (i := 1) (oi := ({ dst := some 5, op := Op.load 33 (Operand.tmp 4), type := 33, pos := "help.go:86", after := #[{ on := 0, ground := Ground.data }], guard := none } : Oper)) (v := ?vax2) rfl (by kernel_rfl) (by kernel_rfl) (by kernel_rfl) (fun _ _ _ h => h) (Or.inl ⟨by rfl, fun w hSw => ?hyax2⟩) (by assumption) ?rax2
  case hyax2 => (try dsimp only at hSw); go_simp; (try with_reducible rfl)
  (try simp only [Act.put, List.setIfInBounds_toArray, List.set_cons_zero, List.set_cons_succ])
  refine wpAnyH_take (i := 2) (oi := ({ dst := some 6, op := Op.nilCheck (Operand.tmp 5), type := 0, pos := "help.go:86", after := #[{ on := 1, ground := Ground.data }], guard := none } : Oper)) (v := ?vax3) rfl (by kernel_rfl) (by kernel_rfl) (by kernel_rfl) (fun _ _ _ h => h) (Or.inl ⟨by rfl, fun w hSw => ?hyax3⟩) (by assumption) ?rax3
  case hyax3 => (try dsimp only at hSw); go_simp; (try with_reducible rfl)
  (try simp only [Act.put, List.setIfInBounds_toArray, List.set_cons_zero, List.set_cons_succ])
  refine wpAnyH_take (i := 3) (oi := ({ dst := some 7, op := Op.fieldAddr 74 (Operand.tmp 6) 0, type := 0, pos := "help.go:86", after := #[{ on := 2, ground := Ground.data }], guard := none } : Oper)) (v := ?vax4) rfl (by kernel_rfl) (by kernel_rfl) (by kernel_rfl) (fun _ _ _ h => h) (Or.inl ⟨by rfl, fun w hSw => ?hyax4⟩) (by assumption) ?rax4
  case hyax4 => (try dsimp only at hSw); go_simp; (try with_reducible rfl)
  (try simp only [Act.put, List.setIfInBounds_toArray, List.set_cons_zero, List.set_cons_succ])
  refine wpAnyH_take (i := 4) (oi := ({ dst := some 8, op := Op.load 66 (Operand.tmp 7), type := 66, pos := "help.go:86", after := #[{ on := 3, ground := Ground.data }], guard := none } : Oper)) (v := ?vax5) rfl (by kernel_rfl) (by kernel_rfl) (by kernel_rfl) (fun _ _ _ h => h) (Or.inl ⟨by rfl, fun w hSw => ?hyax5⟩) (by assumption) ?rax5
  case hyax5 => (try dsimp only at hSw); go_simp; (try with_reducible rfl)
  (try simp only [Act.put, List.setIfInBounds_toArray, List.set_cons_zero, List.set_cons_succ])
  refine wpAnyH_take (i := 5) (oi := ({ dst := some 9, op := Op.fieldAddr 42 (Operand.tmp 3) 0, type := 0, pos := "help.go:86", after := #[], guard := none } : Oper)) (v := ?vax6) rfl (by kernel_rfl) (by kernel_rfl) (by kernel_rfl) (fun _ _ _ h => h) (Or.inl ⟨by rfl, fun w hSw => ?hyax6⟩) (by assumption) ?rax6
  case hyax6 => (try dsimp only at hSw); go_simp; (try with_reducible rfl)
  (try simp only [Act.put, List.setIfInBounds_toArray, List.set_cons_zero, List.set_cons_succ])
  refine wpAnyH_take (i := 6) (oi := ({ dst := some 10, op := Op.load 40 (Operand.tmp 9), type := 40, pos := "help.go:86", after := #[{ on := 5, ground := Ground.data }], guard := none } : Oper)) (v := ?vax7) rfl (by kernel_rfl) (by kernel_rfl) (by kernel_rfl) (fun _ _ _ h => h) (Or.inl ⟨by rfl, fun w hSw => ?hyax7⟩) (by assumption) ?rax7
  case hyax7 => (try dsimp only at hSw); go_simp; (try with_reducible rfl)
  (try simp only [Act.put, List.setIfInBounds_toArray, List.set_cons_zero, List.set_cons_succ])
  refine wpAnyH_take (i := 7) (oi := ({ dst := some 11, op := Op.fieldAddr 42 (Operand.tmp 3) 1, type := 0, pos := "help.go:86", after := #[], guard := none } : Oper)) (v := ?vax8) rfl (by kernel_rfl) (by kernel_rfl) (by kernel_rfl) (fun _ _ _ h => h) (Or.inl ⟨by rfl, fun w hSw => ?hyax8⟩) (by assumption) ?rax8
  case hyax8 => (try dsimp only at hSw); go_simp; (try with_reducible rfl)
  (try simp only [Act.put, List.setIfInBounds_toArray, List.set_cons_zero, List.set_cons_succ])
  refine wpAnyH_take (i := 8) (oi := ({ dst := some 12, op := Op.load 22 (Operand.tmp 11), type := 22, pos := "help.go:86", after := #[{ on := 7, ground := Ground.data }], guard := none } : Oper)) (v := ?vax9) rfl (by kernel_rfl) (by kernel_rfl) (by kernel_rfl) (fun _ _ _ h => h) (Or.inl ⟨by rfl, fun w hSw => ?hyax9⟩) (by assumption) ?rax9
  case hyax9 => (try dsimp only at hSw); go_simp; (try with_reducible rfl)
  (try simp only [Act.put, List.setIfInBounds_toArray, List.set_cons_zero, List.set_cons_succ])
  refine wpAnyH_ready (rs := [9]) (by kernel_rfl) (by simp) ?_
  refine AllReadyH.cons (o := ({ dst := some 13, op := Op.call { callee := Callee.value (Operand.func 36), args := #[Operand.tmp 8, Operand.tmp 10, Operand.tmp 12], argTypes := #[66, 40, 22] }, type := 22, pos := "help.go:86", after := #[{ on := 4, ground := Ground.data }, { on := 6, ground := Ground.data }, { on := 8, ground := Ground.data }], guard := none } : Oper)) rfl (fun Kq hKq => ?_) AllReadyH.nil
  go_simp
  (refine (HST.out _ rfl).mono ?_; rintro e w3 ⟨rfl, X3, h3, i0, i1, i2⟩)
  have j0 := cell_row i0 0; have j1 := cell_row i0 1; have l0 := cell_row i1 0; have l1 := cell_row i1 1
  simp only [List.getElem?_toArray, List.getElem?_cons_zero, List.getElem?_cons_succ] at j0 j1 l0 l1
  refine hKq.out _ _ ?_ (fun hHeld => ?_)
  · exact ⟨j0, l0, l1, i2⟩
  clear hKq Kq
  (try simp only [Act.put, List.setIfInBounds_toArray, List.set_cons_zero, List.set_cons_succ])
  refine wpAnyH_done (by kernel_rfl) ?_ _
  have hws := h3.wstore HQ.out.1 HQ.out.2.1 (by have := HQ.out.2.2; omega)
  have HWS := Lib.hid hws
  clear hHeld h3 hws i0 i1 i2 c0 c1 d0 d1 k0
  go_wp2_with (go_at_call 37; refine HWS.out.mono ?_; rintro e w4 ⟨rfl, Y4, h4⟩)
  go_end0
  exact ⟨rfl, X3, Y4, h4⟩
theorem pair_store (h : Bg w0 w base WB RB N cn tn M M E X Y) {a v : Nat} (ha : a < 4294967296) (hv : v < 18446744073709551616) (hc : cn ≤ 999999) :
    Calls Tryz.prog 10 #[.agg #[Pw WB, Pw RB], .agg #[.int .u32 a, .int .u64 v]] w fun e w' => e = .returned (.tuple #[]) ∧ BgE w0 w' base WB RB N (cn + 2) tn E := by
  refine (pair_storeS h ha hv hc).mono ?_
  rintro e w' ⟨rfl, X', Y', h'⟩
  exact ⟨rfl, _, X', Y', h'⟩
end
end Go.Proofs.YtffoobepdofkkaaGreat.S12
namespace Go.Proofs.YtffoobepdofkkaaGreat.S12
open Go.Proofs.YtffoobepdofkkaaGreat Go.Proofs.YtffoobepdofkkaaGreat.S11
open Go.RowKit

section
variable {w0 w w' : World} {base WB RB N cn tn : Nat} {M RM : Sd} {E : List Part} {X : Wm} {Y : Rm}
set_option maxRecDepth 100000 in
set_option maxHeartbeats 4000000 in
theorem pair_tickS (h : Bg w0 w base WB RB N cn tn M M E X Y) {n : Nat} (hn : n ≤ 18446744073709551615) :
    Calls Tryz.prog 34 #[.agg #[Pw WB, Pw RB], .int .u64 n] w fun e w' => e = .returned (.tuple #[]) ∧ ∃ X' Y', Bg w0 w' base WB RB N cn tn (M.tick n) (M.tick n) E X' Y' := by
  have hb : Below w.heap.size w (w.alloc (.cells #[Pw WB, Pw RB] 36)) := (Below.refl _ _).alloc (Nat.le_refl _) _
  have h0 := heap_alloc_new w (.cells #[Pw WB, Pw RB] 36)
  have HLT : Hid (∀ k, Foot X k → k < w.heap.size) := Lib.hid (fun k hk => h.pr.pw.foot_lt hk)
  obtain ⟨B0, hB0⟩ : ∃ B0, B0 = w.heap.size := ⟨_, rfl⟩
  rw [← hB0] at h0
  have h1 := h.new hb
  have c0 := cell_row h0 0; have c1 := cell_row h0 1
  simp only [List.getElem?_toArray, List.getElem?_cons_zero, List.getElem?_cons_succ] at c0 c1
  obtain ⟨_, k1, _, _, _, _⟩ := h1.c
  have HST : Hid (Calls Tryz.prog 87 #[Pw X.kB, .int .u64 n] (w.alloc (.cells #[Pw WB, Pw RB] 36)) fun e w' => e = .returned (.tuple #[]) ∧ ∃ X', Bg w0 w' base WB RB N cn tn (M.tick n) M E X' Y ∧ w'.heap[B0]? = some (.cells #[Pw WB, Pw RB] 36 (0, 0))) := Lib.hid (by
    refine (S3.tick_any h1.pr.pw.clock n hn).mono ?_
    rintro e w' ⟨rfl, hc, t⟩
    obtain ⟨X', h'⟩ := h1.tickd hc t
    exact ⟨rfl, X', h',
      (t.block B0 (Array.getElem?_eq_some_iff.1 h0).1 (fun e => by have := HLT.out X.kB ⟨1, _, rfl, .inl rfl⟩; omega)).trans h0⟩)
  have HB0 := Lib.hid hB0
  clear hb h0 h1 h HLT hB0
  go_enter Tryz.func34, Tryz.ntmps34
  go_upto_region 1 with (fail)
  rw [← HB0.out]
  clear HB0
  generalize w.alloc (.cells #[Pw WB, Pw RB] 36) = w1 at *
  go_upto_region 2 with (go_at_call 87; refine HST.out.mono ?_; rintro e w3 ⟨rfl, X3, h3, i0⟩)
  have j1 := cell_row i0 1
  simp only [List.getElem?_toArray, List.getElem?_cons_zero, List.getElem?_cons_succ] at j1
  obtain ⟨_, _, _, _, k5, _⟩ := h3.c
  have HRT := Lib.hid (h3.rtick hn)
  clear h3 i0 HST c0 c1 k1
  go_wp2_with (go_at_call 88; refine HRT.out.mono ?_; rintro e w4 ⟨rfl, Y4, h4⟩)
  go_end0
  exact ⟨rfl, X3, Y4, h4⟩
theorem pair_tick (h : Bg w0 w base WB RB N cn tn M M E X Y) {n : Nat} (hn : n ≤ 18446744073709551615) :
    Calls Tryz.prog 34 #[.agg #[Pw WB, Pw RB], .int .u64 n] w fun e w' => e = .returned (.tuple #[]) ∧ BgE w0 w' base WB RB N cn tn E := by
  refine (pair_tickS h hn).mono ?_
  rintro e w' ⟨rfl, X', Y', h'⟩
  exact ⟨rfl, _, X', Y', h'⟩
end
end Go.Proofs.YtffoobepdofkkaaGreat.S12
namespace Go.Proofs.YtffoobepdofkkaaGreat.S12
open Go.Proofs.YtffoobepdofkkaaGreat Go.Proofs.YtffoobepdofkkaaGreat.S11
open Go.RowKit

theorem rnew_lo (spin most : Int) (n c : Nat) (A : Option Addr) (h : spin < 0) (w : World) : Calls Tryz.prog 23 #[.agg #[.int .i64 spin, .int .u64 most, .slice A n c]] w fun e w' => e = .returned (.tuple #[.pointer none, .int .i64 1]) ∧ Below w.heap.size w w' := by
  have HB : Hid (Below w.heap.size w (w.alloc (.cells #[.int .i64 spin, .int .u64 most, .slice A n c] 84))) := Lib.hid ((Below.refl _ _).alloc (Nat.le_refl _) _)
  have h1 : decide (spin < 0) = true := by simpa using h
  clear h
  go_enter Tryz.func23, Tryz.ntmps23
  go_wp2_with fail
  go_ret2
  exact ⟨rfl, HB.out⟩
theorem rnew_hi (spin most : Int) (n c : Nat) (A : Option Addr) (h : 16 < spin) (w : World) : Calls Tryz.prog 23 #[.agg #[.int .i64 spin, .int .u64 most, .slice A n c]] w fun e w' => e = .returned (.tuple #[.pointer none, .int .i64 1]) ∧ Below w.heap.size w w' := by
  have HB : Hid (Below w.heap.size w (w.alloc (.cells #[.int .i64 spin, .int .u64 most, .slice A n c] 84))) := Lib.hid ((Below.refl _ _).alloc (Nat.le_refl _) _)
  have h1 : decide (spin < 0) = false := by simp; omega
  have h2 : decide (16 < spin) = true := by simpa using h
  clear h
  go_enter Tryz.func23, Tryz.ntmps23
  go_wp2_with fail
  go_ret2
  exact ⟨rfl, HB.out⟩
theorem rnew_big (spin most : Int) (n c : Nat) (A : Option Addr) (h : 0 ≤ spin ∧ spin ≤ 16) (hn : 65536 < n) (w : World) : Calls Tryz.prog 23 #[.agg #[.int .i64 spin, .int .u64 most, .slice A n c]] w fun e w' => e = .returned (.tuple #[.pointer none, .int .i64 1]) ∧ Below w.heap.size w w' := by
  have HB : Hid (Below w.heap.size w (w.alloc (.cells #[.int .i64 spin, .int .u64 most, .slice A n c] 84))) := Lib.hid ((Below.refl _ _).alloc (Nat.le_refl _) _)
  have h1 : decide (spin < 0) = false := by simp; omega
  have h2 : decide (16 < spin) = false := by simp; omega
  have h3 : decide ((65536 : Int) < (n : Int)) = true := by simp; omega
  clear h hn
  go_enter Tryz.func23, Tryz.ntmps23
  go_wp2_with fail
  go_ret2
  exact ⟨rfl, HB.out⟩
theorem rnew_no (spin most : Int) (n c : Nat) (A : Option Addr) (h : okC spin n = false) (w : World) : Calls Tryz.prog 23 #[.agg #[.int .i64 spin, .int .u64 most, .slice A n c]] w fun e w' => e = .returned (.tuple #[.pointer none, .int .i64 1]) ∧ Below w.heap.size w w' := by
  by_cases h1 : spin < 0
  · exact rnew_lo spin most n c A h1 w
  · by_cases h2 : 16 < spin
    · exact rnew_hi spin most n c A h2 w
    · refine rnew_big spin most n c A ⟨by omega, by omega⟩ ?_ w
      simp [okC] at h
      have := h (by omega) (by omega)
      omega
/-- The document's world as at first. -/
structure RAt0 (Y : Rm) (spin : Int) (most : Nat) (D : List Nat) : Prop where
  L : Y.L = L02
  n : Y.n = 0
  k : Y.k = 0
  a : Y.a = 0
  was : Y.was = 0
  is : Y.is = 0
  T : Y.T = 0
  most : Y.most = most
  D : Y.D = D
  M : Y.M = S10.M0 0
  pf : Y.pf = fun _ => S4.pk0
  pn : Y.pn = 0
  pk : Y.pk = 0
  pp : Y.pp = 0
  lk : Y.lk = S5.S0
  nD : Y.nD = []
  sp : Y.sp = spin
theorem r177 : Tryz.zeroCells177 = S5.Z192 := by kernel_rfl
theorem LAt.at_first {T : Nat} {K : IntKind} {w : World} {p : Nat} (h : w.heap[p]? = some (.cells #[.slice none 0 0] T (0, 0))) : S11.LAt T K w p p (.slice none 0 0) [] :=
  ⟨h, row_nil _ _ _, by intro e; simp [Value.ownBlock] at e, Nat.le_refl _⟩
theorem rworld_y {w w' : World} {spin : Int} {most : Nat} {D : List Nat} {Bw : Nat} (h : RWorld w w' spin most D Bw) : ∃ Y : Rm, Y.wB = Bw ∧ Parts w' w.heap.size Y.parts ∧ RAt0 Y spin most (D.take 65536) ∧ Y.rb ≤ w'.heap.size := by
  obtain ⟨q, Bc, Bk, Bp, Bl, Bt, Bn, bc, bk, bt, sc, sk, own, hp⟩ := h
  have h2 := Parts.right hp
  have hc : S2.RefAt w' bc Bc sc L02 0 0 0 0 0 := h2.ok 0 _ rfl
  have hl : bc ≤ w'.heap.size := by
    obtain ⟨p, cap, e, hg⟩ := S2.row_slice hc.own
    obtain ⟨g, rfl⟩ := hg (by decide)
    have := hc.own.lt g (by rw [e]; rfl)
    omega
  have e3 : w'.heap[Bp]? = some (.cells Tryz.zeroCells140 140) := h2.ok 3 _ rfl
  rw [S4.rzero140] at e3
  have h3 := Parts.recast (i := 3) h2 rfl (rpermitsP Bp (fun _ => S4.pk0) ((0 : Nat) : Int) 0 0) (S4.rpk_row e3) (fun k e => e)
  have e4 : w'.heap[Bl]? = some (.cells Tryz.zeroCells177 177) := h2.ok 4 _ rfl
  rw [r177] at e4
  have h4 := Parts.recast (i := 4) h3 rfl (linksP Bl S5.S0) (S5.has_row e4) (fun k e => e)
  have e5 : w'.heap[Bn]? = some (.cells #[.slice none 0 0] 143) := h2.ok 5 _ rfl
  have h5 := Parts.recast (i := 5) h4 rfl (notesP 143 .i64 Bn Bn (.slice none 0 0) []) (LAt.at_first e5) (fun k e => by
    rcases e with e | e
    · exact e
    · simp [Value.ownBlock] at e)
  exact ⟨{ rb := bc, rB := Bc, rs := sc, L := L02, n := 0, k := 0, a := 0, was := 0, is := 0, kb := bk, kB := Bk, T := 0, most := most, ks := sk, D := D.take 65536, tb := bt, tO := own, ts := Pw Bt, M := S10.M0 0, pB := Bp, pf := fun _ => S4.pk0, pn := 0, pk := 0, pp := 0, lB := Bl, lk := S5.S0, nb := Bn, nB := Bn, ns := .slice none 0 0, nD := [], wB := Bw, sp := spin }, rfl, h5, ⟨rfl, rfl, rfl, rfl, rfl, rfl, rfl, rfl, rfl, rfl, rfl, rfl, rfl, rfl, rfl, rfl, rfl⟩, hl⟩
/-- What the document's New leaves. -/
def RNewE (w w' : World) (spin : Int) (most : Nat) (D : List Nat) (v : Value) (er : Int) : Prop :=
  (okC spin D.length = true ∧ er = 0 ∧ ∃ Y : Rm, v = Pw Y.wB ∧ Parts w' w.heap.size Y.parts ∧ RAt0 Y spin most D ∧ Y.rb ≤ w'.heap.size) ∨ (okC spin D.length = false ∧ v = .pointer none ∧ er = 1)
theorem rnew_any {w : World} (spin : Int) (most c : Nat) {A : Option Addr} {D : List Nat} {b2 : Nat} (hn : D.length ≤ c) (hc : c ≤ 9223372036854775807) (hm : most ≤ 18446744073709551615) (hr : S3.Rd w b2 A D) (hb2 : b2 ≤ w.heap.size) (hD : ∀ d ∈ D, d ≤ 18446744073709551615) :
    Calls Tryz.prog 23 #[.agg #[.int .i64 spin, .int .u64 (most : Int), .slice A D.length c]] w fun e w' => ∃ v er, e = .returned (.tuple #[.pointer v, .int .i64 er]) ∧ RNewE w w' spin most D (.pointer v) er ∧ Below w.heap.size w w' := by
  cases hok : okC spin D.length
  · refine (rnew_no spin most D.length c A hok w).mono ?_
    rintro e w' ⟨rfl, hb⟩
    exact ⟨_, _, rfl, .inr ⟨hok, rfl, rfl⟩, hb⟩
  · have hb : 0 ≤ spin ∧ spin ≤ 16 ∧ D.length ≤ 65536 := by simp [okC] at hok; omega
    refine (rworld_any spin most D.length c A (D := D) ⟨hb.1, hb.2.1⟩ hb.2.2 (fun W q => S3.rnew_any c most hn hc hm (hr.below q hb2) (Nat.le_trans hb2 q.size) hD)).mono ?_
    rintro e w' ⟨Bw, rfl, hw, hbl⟩
    obtain ⟨Y, h1, h2, h3, h4⟩ := rworld_y hw
    rw [List.take_of_length_le hb.2.2] at h3
    exact ⟨_, _, rfl, .inl ⟨hok, rfl, Y, by rw [h1], h2, h3, h4⟩, hbl⟩
/-- What the program's New leaves. -/
def WNewE (w w' : World) (spin : Int) (most : Nat) (D : List Nat) (v : Value) (er : Int) : Prop :=
  (okC spin D.length = true ∧ er = 0 ∧ ∃ X : Wm, v = Pw X.wB ∧ PW w' w.heap.size X ∧ At0 X spin most D) ∨ (okC spin D.length = false ∧ v = .pointer none ∧ er = 1)
theorem wnew_any {w : World} (spin : Int) (most c : Nat) {A : Option Addr} {D : List Nat} {b2 : Nat} (hn : D.length ≤ c) (hc : c ≤ 9223372036854775807) (hm : most ≤ 18446744073709551615) (hr : S3.Rd w b2 A D) (hb2 : b2 ≤ w.heap.size) (hD : ∀ d ∈ D, d ≤ 18446744073709551615) :
    Calls Tryz.prog 25 #[.agg #[.int .i64 spin, .int .u64 (most : Int), .slice A D.length c]] w fun e w' => ∃ v er, e = .returned (.tuple #[.pointer v, .int .i64 er]) ∧ WNewE w w' spin most D (.pointer v) er ∧ Below w.heap.size w w' := by
  cases hok : okC spin D.length
  · refine (new_no spin most D.length c A hok w).mono ?_
    rintro e w' ⟨rfl, hb⟩
    exact ⟨_, _, rfl, .inr ⟨hok, rfl, rfl⟩, hb⟩
  · have hb : 0 ≤ spin ∧ spin ≤ 16 ∧ D.length ≤ 65536 := by simp [okC] at hok; omega
    refine (new_yes spin most D.length c A (D := D) hok (fun W q => by
      have := S3.new_any c most hn hc hm (hr.below q hb2) (Nat.le_trans hb2 q.size) hD
      rw [List.take_of_length_le hb.2.2] at this
      exact this)).mono ?_
    rintro e w' ⟨X, rfl, hp, h0, hbl⟩
    exact ⟨_, _, rfl, .inl ⟨hok, rfl, X, rfl, hp, h0⟩, hbl⟩
theorem byt02 : S2.Byt L02 := by
  have e : L02 = [(0, 2)] := by kernel_rfl
  rw [e]
  intro p hp _
  simp at hp
  subst hp
  decide
/-- What both say at first. -/
def sd0 (spin : Int) (most : Nat) (D : List Nat) : Sd := ⟨L02, 0, 0, 0, 0, 0, 0, most, D, fun _ => S4.pk0, 0, 0, 0, S5.S0, S10.M0 0, [], spin⟩
theorem At0.sd {X : Wm} {spin : Int} {most : Nat} {D : List Nat} (h : At0 X spin most D) : X.sd = sd0 spin most D := by
  unfold Wm.sd sd0
  rw [h.L, h.n, h.k, h.a, h.was, h.is, h.T, h.most, h.D, h.pf, h.pn, h.pk, h.pp, h.lk, h.tM, h.nD, h.sp]
theorem RAt0.sd {Y : Rm} {spin : Int} {most : Nat} {D : List Nat} (h : RAt0 Y spin most D) : Y.sd = sd0 spin most D := by
  unfold Rm.sd sd0
  rw [h.L, h.n, h.k, h.a, h.was, h.is, h.T, h.most, h.D, h.pf, h.pn, h.pk, h.pp, h.lk, h.M, h.nD, h.sp]
/-- Both, as they are made one behind the other. -/
theorem bg_first {w0 w1 w2 : World} {base : Nat} {X : Wm} {Y : Rm} {spin : Int} {most : Nat} {D : List Nat} (hY : Parts w1 base Y.parts) (hr : RAt0 Y spin most D) (hb : Y.rb ≤ w1.heap.size) (hX : PW w2 w1.heap.size X) (hx : At0 X spin most D) (b : Below w1.heap.size w1 w2) (hbl : Below base w0 w2) :
    Bg w0 w2 base X.wB Y.wB 0 0 1 (sd0 spin most D) (sd0 spin most D) [] X Y := by
  have hj := hY.join b hX (Nat.le_refl _)
  refine { pr := ?_, wB := rfl, rB := rfl, xn := by rw [hx.n]; omega, yn := by rw [hr.n]; omega, pn := by rw [hx.pn]; omega, yp := by rw [hr.pn]; omega, nD := by rw [hx.nD]; simp, pok := by rw [hx.pf]; exact S4.pkok0, byt := by rw [hx.L]; exact byt02, pkr := (by rw [hx.pk]; decide), nk := (by rw [hx.nD]; intro d hd; cases hd), xm := hx.sd, ym := hr.sd, gd := S10.good_first 0, gr := S10.good_first 0, tn := by rw [hx.tn]; omega, rb := Nat.le_trans hb b.size, bl := hbl }
  unfold PairAt
  rw [List.append_nil]
  exact hj
end Go.Proofs.YtffoobepdofkkaaGreat.S12
