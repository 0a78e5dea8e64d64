/- Texts of this seat, one behind the other. -/
import Derived.Test.YtlflagjnlclffaaGreatMLawPlay1427
import Derived.Deep.CutBlock
import Derived.Laws.EntriesVeiled
set_option linter.unusedVariables false
set_option linter.unusedSimpArgs false
namespace Go.Proofs.YtlflagjnlclffaaGreat.S13
set_option maxRecDepth 100000
set_option maxHeartbeats 16000000
open Go.Proofs.YtlflagjnlclffaaGreat Go.Proofs.YtlflagjnlclffaaGreat.S11 Go.Proofs.YtlflagjnlclffaaGreat.S12
open Go.RowKit
section
variable {w0 w w' : World} {base WB : Nat} {M : Sd} {r : List Part} {j B : Nat} {K : Lk} {X : Wm}
theorem Wl.pushB (h : Wl w0 w base WB M r j B K X) (ob : Obj) : Wl w0 (w.alloc ob) base WB M (r ++ [blockP w.heap.size ob]) j B K X := by
  have hp := h.pg.ps.push (blockP w.heap.size ob) (below1 w ob) (heap_alloc_new w ob) (fun k e => Nat.le_of_eq (show k = w.heap.size from e).symm)
  rw [List.append_assoc] at hp
  refine ⟨⟨?_, h.pg.wB, h.pg.xm, h.pg.bl.alloc h.pg.size _⟩, by rw [List.length_append]; have := h.hj; simp; omega⟩
  rw [List.set_append_left _ _ h.hj]
  exact hp
theorem Wl.dropB {q : Part} (h : Wl w0 w base WB M (r ++ [q]) j B K X) (hj : j < r.length) : Wl w0 w base WB M r j B K X := by
  have hp := h.pg.ps
  rw [List.set_append_left _ _ hj, ← List.append_assoc] at hp
  exact ⟨⟨Parts.left hp, h.pg.wB, h.pg.xm, h.pg.bl⟩, hj⟩
theorem Wl.last {Q : Nat} {ob : Obj} (h : Wl w0 w base WB M (r ++ [blockP Q ob]) j B K X) (hj : j < r.length) : w.heap[Q]? = some ob := by
  have hp := h.pg.ps
  rw [List.set_append_left _ _ hj, ← List.append_assoc] at hp
  refine hp.ok (X.parts ++ r.set j (lockP B K)).length (blockP Q ob) ?_
  rw [List.getElem?_append_right (Nat.le_refl _), Nat.sub_self]; rfl
theorem begin_l (h : Wl w0 w base WB M r j B K X) : Calls Tryz.prog 99 #[.pointer (some ⟨B, 2, none⟩), Pw WB] w fun e w' => e = .returned (.tuple #[]) ∧ Wl w0 w' base WB M r j B { K with sp := M.sp } X := by
  have h1 := h.put { K with sp := 0 } (set_blk h.blk 2 (.int .i64 0) _ (by simp [Lk.cs])) ((Turns.refl (fun k => k = B) w).setCell ⟨B, 2, none⟩ _ rfl)
  have h2 := h1.put { K with sp := M.sp } (set_blk h1.blk 2 (.int .i64 M.sp) _ (by simp [Lk.cs])) ((Turns.refl (fun k => k = B) _).setCell ⟨B, 2, none⟩ _ rfl)
  have c2 := h.b2; have z2 := h.fz 2; have d2 := h1.b2; have y2 := h1.fz 2
  have d6 := h1.pg.c.2.2.2
  have H2 := Lib.hid h2
  clear h h1 h2
  go_enter Tryz.func99, Tryz.ntmps99
  go_wp2_with fail
  go_end0
  exact ⟨rfl, H2.out⟩
theorem spin_l (h : Wl w0 w base WB M r j B K X) (hs : K.sp ≤ 9223372036854775807) : Calls Tryz.prog 180 #[.pointer (some ⟨B, 2, none⟩)] w fun e w' => e = .returned (.bool (decide (0 < K.sp))) ∧ Wl w0 w' base WB M r j B { K with sp := if 0 < K.sp then K.sp - 1 else K.sp } X := by
  have c2 := h.b2; have z2 := h.fz 2
  by_cases h0 : 0 < K.sp
  · rw [decide_eq_true h0, if_pos h0]
    have h1 := h.put { K with sp := K.sp - 1 } (set_blk h.blk 2 (.int .i64 (K.sp - 1)) _ (by simp [Lk.cs])) ((Turns.refl (fun k => k = B) w).setCell ⟨B, 2, none⟩ _ rfl)
    have hd : decide (K.sp ≤ 0) = false := by rw [decide_eq_false_iff_not]; omega
    have hw : wrap64 (K.sp - 1) = K.sp - 1 := by unfold wrap64; omega
    have H1 := Lib.hid h1
    clear h h0 hs h1
    generalize K.sp = v at *
    go_enter Tryz.func180, Tryz.ntmps180
    go_wp2_with fail
    go_ret
    exact ⟨rfl, H1.out⟩
  · rw [decide_eq_false h0, if_neg h0]
    have hd : decide (K.sp ≤ 0) = true := by rw [decide_eq_true_iff]; omega
    have H1 := Lib.hid h
    clear h h0 hs
    go_enter Tryz.func180, Tryz.ntmps180
    go_wp2_with fail
    go_ret
    exact ⟨rfl, H1.out⟩
theorem turn_l (h : Wl w0 w base WB M r j B K X) (h6 : K.ln ≠ 6) (hs : K.sp ≤ 9223372036854775807) {u : Nat} (hu : u < 18446744073709551616) :
    Calls Tryz.prog 159 #[askV K.t K.a, Pw B, .int .u64 (u : Int)] w fun e w' => e = .returned (.tuple #[]) ∧ Wl w0 w' base WB M r j B (K.turn u) X := by
  have hj := h.hj
  have hA := h.pushB (.cells #[.int .i64 (K.t : Int), .int .u32 (K.a : Int)] 132)
  obtain ⟨Q, hQ⟩ : ∃ Q, Q = w.heap.size := ⟨_, rfl⟩
  rw [← hQ] at hA
  have h1 := hA.put { K with st := u } (set_blk hA.blk 1 (.int .u64 (u : Int)) _ (by simp [Lk.cs])) ((Turns.refl (fun k => k = B) _).setCell ⟨B, 1, none⟩ _ rfl)
  have d1 := hA.b1; have y1 := hA.fz 1
  have HAS := Lib.hid (fun W => S1.as_any u hu W)
  have H1 := Lib.hid h1; have HJ := Lib.hid hj; have HQ := Lib.hid hQ
  clear h hA h1 hQ hj
  go_enter Tryz.func159, Tryz.ntmps159
  go_upto_region 1 with (fail)
  rw [← HQ.out]
  go_upto_region 2 with (fail)
  generalize (w.alloc (.cells #[.int .i64 (K.t : Int), .int .u32 (K.a : Int)] 132)).setCell ⟨B, 1, none⟩ (.int .u64 (u : Int)) = w1 at *
  clear d1 y1
  unfold S1.asV at HAS
  have HB := Lib.hid (show S1.bitB u 0 = S1.bitB u 0 from rfl)
  obtain ⟨b0, hb0⟩ : ∃ x, x = S1.bitB u 0 := ⟨_, rfl⟩
  obtain ⟨hd, hhd⟩ : ∃ x, x = S1.headN u := ⟨_, rfl⟩
  rw [← hb0, ← hhd] at HAS
  have HT := Lib.hid (And.intro hb0 hhd)
  clear HB hb0 hhd
  go_upto_block 0 with (go_at_call 134; refine (HAS.out _).mono ?_; rintro e w2 ⟨rfl, hb2⟩)
  have hw3 := heap_alloc_new w2 (.cells #[.bool b0, .bool (S1.bitB u 1), .int .i64 hd] 73)
  have h3 := H1.out.new (hb2.trans ((below1 w2 (.cells #[.bool b0, .bool (S1.bitB u 1), .int .i64 hd] 73)).mono hb2.size))
  generalize w2.alloc (.cells #[.bool b0, .bool (S1.bitB u 1), .int .i64 hd] 73) = w3 at *
  generalize w2.heap.size = Qs at *
  have x0 := cell_row hw3 0; have x2 := cell_row hw3 2
  have hl := h3.last HJ.out
  have k0 := cell_row hl 0; have k1 := cell_row hl 1
  simp only [List.getElem?_toArray, List.getElem?_cons_zero, List.getElem?_cons_succ] at x0 x2 k0 k1
  have c0 := h3.b0; have z0 := h3.fz 0
  have HSP := Lib.hid (spin_l h3 hs)
  have fin : ∀ (W : World) (ln : Nat) (sp : Int) (V : Value), Wl w0 W base WB M (r ++ [blockP Q (.cells #[.int .i64 (K.t : Int), .int .u32 (K.a : Int)] 132)]) j B { K with st := u, sp := sp } X → ln ≠ 6 → nxV K.t K.a ln = V → Wl w0 (W.setCell ⟨B, 0, none⟩ V) base WB M r j B { K with st := u, sp := sp, ln := ln } X := fun W ln sp V hW hl hV =>
    (hW.put { K with st := u, sp := sp, ln := ln } (set_blk hW.blk 0 V _ (by simp [Lk.cs, hV, hl, h6])) ((Turns.refl (fun k => k = B) _).setCell ⟨B, 0, none⟩ _ rfl)).dropB HJ.out
  have HFIN := Lib.hid fin; have H3 := Lib.hid h3
  clear fin h3 hl hw3 hb2 HAS H1
  cases b0 with
  | false =>
    have ht : K.turn u = { K with st := u, ln := 2 } := by unfold Lk.turn; rw [← HT.out.1, if_pos rfl]
    have HTN := Lib.hid ht
    clear ht HT HSP
    go_wp2_with fail
    go_end0
    exact ⟨rfl, by rw [HTN.out]; exact HFIN.out _ 2 K.sp _ H3.out (by decide) rfl⟩
  | true =>
    by_cases hh : hd = -1
    · subst hh
      by_cases hsp : 0 < K.sp
      · have ht : K.turn u = { K with st := u, ln := 3, sp := K.sp - 1 } := by unfold Lk.turn; rw [← HT.out.1, if_neg (by decide), if_pos HT.out.2.symm, if_pos hsp]
        have HTN := Lib.hid ht
        rw [decide_eq_true hsp, if_pos hsp] at HSP
        clear ht HT hsp hs
        go_wp2_with (go_at_call 180; refine HSP.out.mono ?_; rintro e w4 ⟨rfl, h4⟩; (have c0 := h4.b0; have z0 := h4.fz 0; have hl := h4.last HJ.out; have k0 := cell_row hl 0; have k1 := cell_row hl 1; simp only [List.getElem?_toArray, List.getElem?_cons_zero, List.getElem?_cons_succ] at k0 k1; have H4 := Lib.hid h4; clear hl h4))
        go_end0
        exact ⟨rfl, by rw [HTN.out]; exact HFIN.out _ 3 (K.sp - 1) _ H4.out (by decide) rfl⟩
      · have ht : K.turn u = { K with st := u, ln := 4 } := by unfold Lk.turn; rw [← HT.out.1, if_neg (by decide), if_pos HT.out.2.symm, if_neg hsp]
        have HTN := Lib.hid ht
        rw [decide_eq_false hsp, if_neg hsp] at HSP
        clear ht HT hsp hs
        go_wp2_with (go_at_call 180; refine HSP.out.mono ?_; rintro e w4 ⟨rfl, h4⟩; (have c0 := h4.b0; have z0 := h4.fz 0; have hl := h4.last HJ.out; have k0 := cell_row hl 0; have k1 := cell_row hl 1; simp only [List.getElem?_toArray, List.getElem?_cons_zero, List.getElem?_cons_succ] at k0 k1; have H4 := Lib.hid h4; clear hl h4))
        go_end0
        exact ⟨rfl, by rw [HTN.out]; exact HFIN.out _ 4 K.sp _ H4.out (by decide) rfl⟩
    · have ht : K.turn u = { K with st := u, ln := 4 } := by unfold Lk.turn; rw [← HT.out.1, if_neg (by decide), if_neg (fun e => hh (HT.out.2.trans e))]
      have HTN := Lib.hid ht
      have hne : (hd == -1) = false := by rw [beq_eq_false_iff_ne]; exact hh
      clear ht HT hh HSP
      go_wp2_with fail
      go_end0
      exact ⟨rfl, by rw [HTN.out]; exact HFIN.out _ 4 K.sp _ H3.out (by decide) rfl⟩
end
end Go.Proofs.YtlflagjnlclffaaGreat.S13
namespace Go.Proofs.YtlflagjnlclffaaGreat.S13
set_option maxRecDepth 100000
set_option maxHeartbeats 16000000
open Go.Proofs.YtlflagjnlclffaaGreat Go.Proofs.YtlflagjnlclffaaGreat.S11 Go.Proofs.YtlflagjnlclffaaGreat.S12
open Go.RowKit
def Lk.cas (K : Lk) (x was : Nat) (K' : Lk) : Lk := if x = was then K' else K.turn x
section
variable {w0 w w' : World} {base WB : Nat} {M : Sd} {r : List Part} {j B : Nat} {K : Lk} {X : Wm}
theorem Wl.look (h : Wl w0 w base WB M r j B K X) (a : Nat) : S2.look M.L a < 18446744073709551616 := by
  have := S2.look_lt h.pg.pw.cells.good a
  rwa [show X.L = M.L from congrArg Sd.L h.pg.xm] at this
theorem swap_l (h : Wl w0 w base WB M r j B K X) (h6 : K.ln ≠ 6) (hs : K.sp ≤ 9223372036854775807) (ha : K.a < 4294967296) (hn : M.n ≤ 1000000000) {was is : Nat} (his : is < 18446744073709551616) :
    Calls Tryz.prog 100 #[askV K.t K.a, Pw B, Pw WB, .int .u64 (was : Int), .int .u64 (is : Int)] w fun e w' => e = .returned (.bool (decide (S2.look M.L K.a = was))) ∧ ∃ X', Wl w0 w' base WB (M.acc 3 K.a (S2.casV (S2.look M.L K.a) was is)) r j B (K.cas (S2.look M.L K.a) was K) X' := by
  have hj := h.hj
  have hA := h.pushB (.cells #[.int .i64 (K.t : Int), .int .u32 (K.a : Int)] 132)
  have k0 := cell_row (heap_alloc_new w (.cells #[.int .i64 (K.t : Int), .int .u32 (K.a : Int)] 132)) 0; have k1 := cell_row (heap_alloc_new w (.cells #[.int .i64 (K.t : Int), .int .u32 (K.a : Int)] 132)) 1
  simp only [List.getElem?_toArray, List.getElem?_cons_zero, List.getElem?_cons_succ] at k0 k1
  obtain ⟨Q, hQ⟩ : ∃ Q, Q = w.heap.size := ⟨_, rfl⟩
  rw [← hQ] at hA k0 k1
  have HA := Lib.hid hA; have HJ := Lib.hid hj; have HQ := Lib.hid hQ
  have q0 := HA.out.pg.c.1
  have HC := Lib.hid ((HA.out.new (Below.refl _ _).drew).pg.cas ha his hn (u := was))
  obtain ⟨x, hx⟩ : ∃ x, x = S2.look M.L K.a := ⟨_, rfl⟩
  have hxl : x < 18446744073709551616 := by rw [hx]; exact HA.out.look K.a
  rw [← hx] at HC ⊢
  have HX := Lib.hid hxl
  clear hx hxl his
  clear h hj hQ
  go_enter Tryz.func100, Tryz.ntmps100
  go_upto_region 1 with (fail)
  rw [← HQ.out]
  generalize w.alloc (.cells #[.int .i64 (K.t : Int), .int .u32 (K.a : Int)] 132) = w1 at *
  refine wp_region_held_drew (S := fun w' => w'.cell? ⟨WB, 0, none⟩ = some (Pw X.cB) ∧ w'.cell? ⟨Q, 1, none⟩ = some (.int .u32 (K.a : Int))) (by kernel_rfl) ?_ (fun hHeld => ?_)
  · exact ⟨q0, k1⟩
  refine tA 0 ⟨some 14, .move (.tmp 2), 33, "wordlocks.go:108", #[], none⟩ ?vsm1 ?rsm1
  (try simp only [Act.put, tC, tD, tE])
  refine tA 1 ⟨some 15, .nilCheck (.tmp 14), 0, "wordlocks.go:108", #[⟨0, .data⟩], none⟩ ?vsm2 ?rsm2
  (try simp only [Act.put, tC, tD, tE])
  refine tA 2 ⟨some 16, .fieldAddr 89 (.tmp 15) 0, 0, "wordlocks.go:108", #[⟨1, .data⟩], none⟩ ?vsm3 ?rsm3
  (try simp only [Act.put, tC, tD, tE])
  refine tA 3 ⟨some 17, .load 81 (.tmp 16), 81, "wordlocks.go:108", #[⟨2, .data⟩], none⟩ ?vsm4 ?rsm4
  (try simp only [Act.put, tC, tD, tE])
  refine tA 4 ⟨some 18, .fieldAddr 132 (.tmp 5) 1, 0, "wordlocks.go:108", #[], none⟩ ?vsm5 ?rsm5
  (try simp only [Act.put, tC, tD, tE])
  refine tA 5 ⟨some 19, .load 40 (.tmp 18), 40, "wordlocks.go:108", #[⟨4, .data⟩], none⟩ ?vsm6 ?rsm6
  (try simp only [Act.put, tC, tD, tE])
  refine tA 6 ⟨some 20, .move (.tmp 3), 22, "wordlocks.go:108", #[], none⟩ ?vsm7 ?rsm7
  (try simp only [Act.put, tC, tD, tE])
  refine tA 7 ⟨some 21, .move (.tmp 4), 22, "wordlocks.go:108", #[], none⟩ ?vsm8 ?rsm8
  (try simp only [Act.put, tC, tD, tE])
  refine wpAnyH_ready (rs := [8]) (by kernel_rfl) (by simp) ?_
  refine AllReadyH.cons (o := ⟨some 22, .call ⟨.value (.func 158), #[.tmp 17, .tmp 19, .tmp 20, .tmp 21], #[81, 40, 22, 22]⟩, 136, "wordlocks.go:108", #[⟨3, .data⟩, ⟨5, .data⟩, ⟨6, .data⟩, ⟨7, .data⟩], none⟩) rfl (fun Kq hKq => ?_) AllReadyH.nil
  go_simp
  (refine HC.out.mono ?_; rintro e w3 ⟨rfl, X3, h3g, hcB⟩; have h3 : Wl w0 w3 base WB (M.acc 3 K.a (S2.casV x was is)) (r ++ [blockP Q (.cells #[.int .i64 (K.t : Int), .int .u32 (K.a : Int)] 132)]) j B K X3 := ⟨h3g, HA.out.hj⟩; have q3 := h3.pg.c.1; rw [hcB] at q3; have hl := h3.last HJ.out; have k1' := cell_row hl 1; simp only [List.getElem?_toArray, List.getElem?_cons_zero, List.getElem?_cons_succ] at k1')
  refine hKq.out _ _ ?_ (fun hHeld => ?_)
  · exact ⟨q3, k1'⟩
  clear hKq Kq
  (try simp only [Act.put, tC, tD, tE])
  refine tA 9 ⟨some 13, .move (.tmp 22), 136, "wordlocks.go:108", #[⟨8, .data⟩], none⟩ ?vsm9 ?rsm9
  (try simp only [Act.put, tC, tD, tE])
  refine tA 10 ⟨some 23, .extract (.tmp 13) 0, 22, "wordlocks.go:108", #[⟨9, .data⟩], none⟩ ?vsm10 ?rsm10
  (try simp only [Act.put, tC, tD, tE])
  refine tA 11 ⟨some 24, .extract (.tmp 13) 1, 4, "wordlocks.go:108", #[⟨9, .data⟩, ⟨12, .gcOnly .lateStores⟩], none⟩ ?vsm11 ?rsm11
  (try simp only [Act.put, tC, tD, tE])
  refine tA 12 ⟨some 11, .assign (.tmp 23), 22, "wordlocks.go:108", #[⟨10, .data⟩, ⟨8, .chain⟩, ⟨0, .phase⟩, ⟨1, .phase⟩, ⟨2, .phase⟩, ⟨3, .phase⟩, ⟨4, .phase⟩, ⟨5, .phase⟩, ⟨6, .phase⟩, ⟨7, .phase⟩, ⟨8, .phase⟩, ⟨9, .phase⟩, ⟨10, .phase⟩, ⟨11, .textOnly .lateStores⟩], none⟩ ?vsm12 ?rsm12
  (try simp only [Act.put, tC, tD, tE])
  refine tA 13 ⟨some 12, .assign (.tmp 24), 4, "wordlocks.go:108", #[⟨11, .data⟩, ⟨12, .chain⟩, ⟨0, .phase⟩, ⟨1, .phase⟩, ⟨2, .phase⟩, ⟨3, .phase⟩, ⟨4, .phase⟩, ⟨5, .phase⟩, ⟨6, .phase⟩, ⟨7, .phase⟩, ⟨8, .phase⟩, ⟨9, .phase⟩, ⟨10, .phase⟩, ⟨11, .phase⟩, ⟨12, .phase⟩], none⟩ ?vsm13 ?rsm13
  (try simp only [Act.put, tC, tD, tE])
  refine wpAnyH_done (by kernel_rfl) ?_ _
  have HTN := Lib.hid (turn_l h3 h6 hs HX.out)
  have H3 := Lib.hid h3
  clear hHeld h3 h3g HC q0 hA k0 k1
  have hl := H3.out.last HJ.out; have k0 := cell_row hl 0; have k1 := cell_row hl 1; simp only [List.getElem?_toArray, List.getElem?_cons_zero, List.getElem?_cons_succ] at k0 k1
  clear hl
  by_cases e : x = was
  · have hd : decide (x = was) = true := decide_eq_true e
    have hk : K.cas x was K = K := if_pos e
    rw [hd]
    have HK := Lib.hid hk
    clear hk hd HTN
    go_wp2_with fail
    go_ret
    exact ⟨by rw [decide_eq_true e]; rfl, X3, by rw [HK.out]; exact H3.out.dropB HJ.out⟩
  · have hd : decide (x = was) = false := decide_eq_false e
    have hk : K.cas x was K = K.turn x := if_neg e
    rw [hd]
    have HK := Lib.hid hk
    clear hk hd
    go_wp2_with (go_at_call 159; refine HTN.out.mono ?_; rintro e w4 ⟨rfl, h4⟩; (have H4 := Lib.hid h4; clear h4))
    go_ret
    exact ⟨by rw [decide_eq_false e]; rfl, X3, by rw [HK.out]; exact H4.out.dropB HJ.out⟩
theorem Wl.next (h : Wl w0 w base WB M r j B K X) (h6 : K.ln ≠ 6) (ln : Nat) (hl : ln ≠ 6) (V : Value) (hV : nxV K.t K.a ln = V) : Wl w0 (w.setCell ⟨B, 0, none⟩ V) base WB M r j B { K with ln := ln } X :=
  h.put { K with ln := ln } (set_blk h.blk 0 V _ (by simp [Lk.cs, hV, hl, h6])) ((Turns.refl (fun k => k = B) _).setCell ⟨B, 0, none⟩ _ rfl)
theorem Wl.next2 (h : Wl w0 w base WB M r j B K X) (ln : Nat) (V : Value) (hV : nxV K.t K.a ln = V) (b : Bool) (hb : decide (ln = 6) = b) : Wl w0 ((w.setCell ⟨B, 0, none⟩ V).setCell ⟨B, 3, none⟩ (.bool b)) base WB M r j B { K with ln := ln } X :=
  h.put { K with ln := ln } (set_blk (set_blk h.blk 0 V _ rfl) 3 (.bool b) _ (by simp [Lk.cs, hV, ← hb])) (((Turns.refl (fun k => k = B) _).setCell ⟨B, 0, none⟩ _ rfl).setCell ⟨B, 3, none⟩ _ rfl)
end
def hdO (u : Nat) : Option Nat := if 1 ≤ u / 4 ∧ u / 4 ≤ 64 then some (u / 4 - 1) else none
theorem num_head (u : Nat) : S5.Num (S1.headN u) (hdO u) := by
  unfold S1.headN hdO
  by_cases h : 1 ≤ u / 4 ∧ u / 4 ≤ 64
  · rw [if_pos h, if_pos h]
    refine ⟨?_, ?_⟩ <;> omega
  · rw [if_neg h, if_neg h]
    exact S5.nm1
def stepM (M : Sd) (K : Lk) : Sd :=
  match K.ln with
  | 1 => M.acc 3 K.a (S2.casV (S2.look M.L K.a) 0 1)
  | 2 => M.acc 3 K.a (S2.casV (S2.look M.L K.a) K.st (S1.putU true (S1.bitB K.st 1) (S1.headN K.st)))
  | 3 => M.acc 1 K.a (S2.look M.L K.a)
  | 4 => (M.prep (2 * K.t + 1)).link (S5.pushS M.lk (some K.t) (hdO K.st))
  | 5 => M.acc 3 K.a (S2.casV (S2.look M.L K.a) K.st (S1.putU (S1.bitB K.st 0) (S1.bitB K.st 1) K.t))
  | 6 => M.park (2 * K.t + 1)
  | _ => M
def stepK (M : Sd) (K : Lk) : Lk :=
  match K.ln with
  | 1 => ({ K with sp := M.sp } : Lk).cas (S2.look M.L K.a) 0 { K with sp := M.sp, ln := 0 }
  | 2 => K.cas (S2.look M.L K.a) K.st { K with ln := 0 }
  | 3 => K.turn (S2.look M.L K.a)
  | 4 => { K with ln := 5 }
  | 5 => K.cas (S2.look M.L K.a) K.st { K with ln := 6 }
  | 6 => if (M.pf (2 * K.t + 1)).p then { K with ln := 3, sp := M.sp } else K
  | _ => K
def Stepped (w0 w' : World) (base WB : Nat) (M : Sd) (r : List Part) (j B : Nat) (K : Lk) : Prop := ∃ X', Wl w0 w' base WB (stepM M K) r j B (stepK M K) X'
structure LkOk (M : Sd) (K : Lk) : Prop where
  t : K.t < 64
  a : K.a < 4294967296
  st : K.st < 18446744073709551616
  sp : 0 ≤ K.sp ∧ K.sp ≤ 16
  ms : 0 ≤ M.sp ∧ M.sp ≤ 16
  n : M.n ≤ 1000000000
  pn : M.pn ≤ 1000000000
section
variable {w0 w w' : World} {base WB : Nat} {M : Sd} {r : List Part} {j B : Nat} {K : Lk} {X : Wm}
theorem first_l (h : Wl w0 w base WB M r j B K X) (ok : LkOk M K) (hl : K.ln = 1) : Calls Tryz.prog 41 #[askV K.t K.a, Pw B, Pw WB] w fun e w' => e = .returned (.tuple #[]) ∧ Stepped w0 w' base WB M r j B K := by
  have hM : stepM M K = M.acc 3 K.a (S2.casV (S2.look M.L K.a) 0 1) := by simp only [stepM, hl]
  have hK : stepK M K = ({ K with sp := M.sp } : Lk).cas (S2.look M.L K.a) 0 { K with sp := M.sp, ln := 0 } := by simp only [stepK, hl]
  unfold Stepped
  rw [hM, hK]
  have HPT : Hid (∀ W, Calls Tryz.prog 101 #[.agg #[.bool true, .bool false, .int .i64 (-1)]] W fun e w' => e = .returned (.int .u64 1) ∧ Below W.heap.size W w') := Lib.hid (fun W => by
    have := S1.putU_any true false (-1) (by unfold S1.isHead; omega) W
    rwa [S1.putU_one] at this)
  have hj := h.hj
  have hA := h.pushB (.cells #[.int .i64 (K.t : Int), .int .u32 (K.a : Int)] 132)
  have k0 := cell_row (heap_alloc_new w (.cells #[.int .i64 (K.t : Int), .int .u32 (K.a : Int)] 132)) 0; have k1 := cell_row (heap_alloc_new w (.cells #[.int .i64 (K.t : Int), .int .u32 (K.a : Int)] 132)) 1
  simp only [List.getElem?_toArray, List.getElem?_cons_zero, List.getElem?_cons_succ] at k0 k1
  obtain ⟨Q, hQ⟩ : ∃ Q, Q = w.heap.size := ⟨_, rfl⟩
  rw [← hQ] at hA k0 k1
  have HA := Lib.hid hA; have HJ := Lib.hid hj; have HQ := Lib.hid hQ
  have HBG := Lib.hid (begin_l hA)
  obtain ⟨x, hx⟩ : ∃ x, x = S2.look M.L K.a := ⟨_, rfl⟩
  have hsw : ∀ W, Wl w0 W base WB M (r ++ [blockP Q (.cells #[.int .i64 (K.t : Int), .int .u32 (K.a : Int)] 132)]) j B { K with sp := M.sp } X → Calls Tryz.prog 100 #[askV K.t K.a, Pw B, Pw WB, .int .u64 0, .int .u64 1] W fun e w' => e = .returned (.bool (decide (x = 0))) ∧ ∃ X', Wl w0 w' base WB (M.acc 3 K.a (S2.casV x 0 1)) (r ++ [blockP Q (.cells #[.int .i64 (K.t : Int), .int .u32 (K.a : Int)] 132)]) j B (({ K with sp := M.sp } : Lk).cas x 0 { K with sp := M.sp }) X' := fun W hW => by
    rw [hx]
    exact swap_l hW (by show K.ln ≠ 6; omega) (by show M.sp ≤ _; have := ok.ms; omega) ok.a ok.n (was := 0) (is := 1) (by omega)
  rw [← hx]
  have HSWW := Lib.hid hsw
  have H6 : Hid (K.ln ≠ 6) := Lib.hid (by omega)
  clear hsw hx ok hl hM hK
  clear h hj hQ
  go_enter Tryz.func41, Tryz.ntmps41
  go_upto_region 1 with (fail)
  rw [← HQ.out]
  generalize w.alloc (.cells #[.int .i64 (K.t : Int), .int .u32 (K.a : Int)] 132) = w1 at *
  go_upto_region 2 with (go_at_call 99; refine HBG.out.mono ?_; rintro e w3 ⟨rfl, h3⟩)
  have hl := h3.last HJ.out; have k0 := cell_row hl 0; have k1 := cell_row hl 1; simp only [List.getElem?_toArray, List.getElem?_cons_zero, List.getElem?_cons_succ] at k0 k1
  have H3 := Lib.hid h3
  clear hl h3 HBG hA
  refine wp_region_held_drew (S := fun w' => w'.cell? ⟨Q, 0, none⟩ = some (.int .i64 (K.t : Int)) ∧ w'.cell? ⟨Q, 1, none⟩ = some (.int .u32 (K.a : Int))) (by kernel_rfl) ?_ (fun hHeld => ?_)
  · exact ⟨k0, k1⟩
  refine tA 0 ⟨some 11, .load 132 (.tmp 3), 132, "wordlocks.go:62", #[], none⟩ ?vfm1 ?rfm1
  (try simp only [Act.put, tC, tD, tE])
  refine tA 1 ⟨some 12, .move (.tmp 1), 45, "wordlocks.go:62", #[], none⟩ ?vfm2 ?rfm2
  (try simp only [Act.put, tC, tD, tE])
  refine tA 2 ⟨some 13, .move (.tmp 2), 33, "wordlocks.go:62", #[], none⟩ ?vfm3 ?rfm3
  (try simp only [Act.put, tC, tD, tE])
  refine tA 3 ⟨some 14, .build 73 #[(0, .const (.bool true)), (2, .const (.int .i64 (-1)))], 73, "wordlocks.go:62", #[], none⟩ ?vfm4 ?rfm4
  (try simp only [Act.put, tC, tD, tE])
  refine wpAnyH_ready (rs := [4]) (by kernel_rfl) (by simp) ?_
  refine AllReadyH.cons (o := ⟨some 15, .call ⟨.value (.func 101), #[.tmp 14], #[73]⟩, 22, "wordlocks.go:62", #[⟨3, .data⟩], none⟩) rfl (fun Kq hKq => ?_) AllReadyH.nil
  go_simp
  (refine (HPT.out _).mono ?_; rintro e w4 ⟨rfl, hb4⟩; (have HSW := Lib.hid (HSWW.out w4 ((H3.out.new (Below.refl _ _).drew).new hb4))))
  refine hKq.out _ _ ?_ (fun hHeld => ?_)
  · exact ⟨bcell hb4 hHeld.1, bcell hb4 hHeld.2⟩
  clear hKq Kq
  (try simp only [Act.put, tC, tD, tE])
  refine wpAnyH_ready (rs := [5]) (by kernel_rfl) (by simp) ?_
  refine AllReadyH.cons (o := ⟨some 16, .call ⟨.value (.func 100), #[.tmp 11, .tmp 12, .tmp 13, .const (.int .u64 0), .tmp 15], #[132, 45, 33, 22, 22]⟩, 4, "wordlocks.go:62", #[⟨0, .data⟩, ⟨1, .data⟩, ⟨2, .data⟩, ⟨4, .data⟩, ⟨4, .chain⟩], none⟩) rfl (fun Kq hKq => ?_) AllReadyH.nil
  go_simp
  (refine HSW.out.mono ?_; rintro e w5 ⟨rfl, X5, h5⟩)
  refine hKq.out _ _ ?_ (fun hHeld => ?_)
  · (have hl := h5.last HJ.out; exact ⟨cell_row hl 0, cell_row hl 1⟩)
  clear hKq Kq
  (try simp only [Act.put, tC, tD, tE])
  refine wpAnyH_done (by kernel_rfl) ?_ _
  clear hHeld k0 k1
  go_upto_if 16 with fail
  by_cases e : x = 0
  · rw [decide_eq_true e]
    have hk : ({ K with sp := M.sp } : Lk).cas x 0 { K with sp := M.sp, ln := 0 } = { K with sp := M.sp, ln := 0 } := if_pos e
    have hk2 : ({ K with sp := M.sp } : Lk).cas x 0 { K with sp := M.sp } = { K with sp := M.sp } := if_pos e
    rw [hk2] at h5
    have c0 := h5.b0; have z0 := h5.fz 0
    have HK := Lib.hid hk; have H5 := Lib.hid h5
    clear hk hk2 e h5 HSW HSWW
    go_wp2_with fail
    go_end0
    exact ⟨rfl, X5, by rw [HK.out]; exact (H5.out.next H6.out 0 (by decide) .nilFunc rfl).dropB HJ.out⟩
  · rw [decide_eq_false e]
    have hk : ({ K with sp := M.sp } : Lk).cas x 0 { K with sp := M.sp, ln := 0 } = ({ K with sp := M.sp } : Lk).cas x 0 { K with sp := M.sp } := (if_neg e).trans (if_neg e).symm
    have HK := Lib.hid hk; have H5 := Lib.hid h5
    clear hk e h5 HSW HSWW
    go_wp2_with fail
    go_end0
    exact ⟨rfl, X5, by rw [HK.out]; exact H5.out.dropB HJ.out⟩
end
end Go.Proofs.YtlflagjnlclffaaGreat.S13
namespace Go.Proofs.YtlflagjnlclffaaGreat.S13
open Go.Proofs.YtlflagjnlclffaaGreat Go.Proofs.YtlflagjnlclffaaGreat.S11 Go.Proofs.YtlflagjnlclffaaGreat.S12
open Go.RowKit
structure Rg (w0 w : World) (base RB : Nat) (M : Sd) (l r : List Part) (Y : Rm) : Prop where
  ps : Parts w base (l ++ (Y.parts ++ r))
  rB : Y.wB = RB
  ym : Y.sd = M
  rb : Y.rb ≤ w.heap.size
  bl : Below base w0 w
section
variable {w0 w w' : World} {base RB : Nat} {M : Sd} {l r : List Part} {Y : Rm}
theorem Rg.new (h : Rg w0 w base RB M l r Y) (b : Below w.heap.size w w') : Rg w0 w' base RB M l r Y := ⟨h.ps.new b, h.rB, h.ym, Nat.le_trans h.rb b.size, h.bl.trans (b.mono h.ps.size)⟩
theorem Rg.size (h : Rg w0 w base RB M l r Y) : base ≤ w.heap.size := h.ps.size
theorem set_mid {α : Type} (l m : List α) (i : Nat) (q : α) : (l ++ m).set (l.length + i) q = l ++ m.set i q := by
  rw [List.set_append_right _ _ (by omega), Nat.add_sub_cancel_left]
theorem get_mid {α : Type} (l m : List α) (i : Nat) : (l ++ m)[l.length + i]? = m[i]? := by
  rw [List.getElem?_append_right (by omega), Nat.add_sub_cancel_left]
theorem Rg.at (h : Rg w0 w base RB M l r Y) {i : Nat} {p : Part} (hi : (Y.parts ++ r)[i]? = some p) : (l ++ (Y.parts ++ r))[l.length + i]? = some p := by rw [get_mid]; exact hi
theorem Rg.part (h : Rg w0 w base RB M l r Y) {j : Nat} {p : Part} (hj : r[j]? = some p) : (l ++ (Y.parts ++ r))[l.length + (7 + j)]? = some p := by
  rw [get_mid]
  have : Y.parts.length = 7 := rfl
  rw [← this, get_mid]; exact hj
theorem Rg.turn (h : Rg w0 w base RB M l r Y) {j : Nat} {p : Part} (hj : r[j]? = some p) (q : Part) (hq : q.ok w') (t : Turns p.fp w w') (hf : ∀ k, q.fp k → p.fp k ∨ w.heap.size ≤ k) : Rg w0 w' base RB M l (r.set j q) Y := by
  obtain ⟨hp, hb⟩ := h.ps.turn (h.part hj) q hq t hf
  refine ⟨?_, h.rB, h.ym, Nat.le_trans h.rb t.size, h.bl.trans hb⟩
  have : Y.parts.length = 7 := rfl
  rw [set_mid, ← this, set_mid] at hp
  exact hp
theorem Rg.rcells (h : Rg w0 w base RB M l r Y) : S2.RefAt w Y.rb Y.rB Y.rs Y.L Y.n Y.k Y.a Y.was Y.is := h.ps.ok _ _ (h.at (i := 0) rfl)
theorem Rg.rpermits (h : Rg w0 w base RB M l r Y) : S4.RPkAt w Y.pB Y.pf (Y.pn : Int) Y.pk Y.pp := h.ps.ok _ _ (h.at (i := 3) rfl)
theorem Rg.rlinks (h : Rg w0 w base RB M l r Y) : S5.Has w Y.lB Y.lk := h.ps.ok _ _ (h.at (i := 4) rfl)
theorem Rg.rown (h : Rg w0 w base RB M l r Y) : w.heap[Y.wB]? = some (.cells Y.cs 107) := h.ps.ok _ _ (h.at (i := 6) rfl)
theorem Rg.c (h : Rg w0 w base RB M l r Y) : w.cell? ⟨RB, 0, none⟩ = some (Pw Y.rB) ∧ w.cell? ⟨RB, 2, none⟩ = some (Pw Y.pB) ∧ w.cell? ⟨RB, 3, none⟩ = some (Pw Y.lB) ∧ w.cell? ⟨RB, 6, none⟩ = some (.int .i64 M.sp) := by
  rw [← h.rB, ← h.ym]
  exact ⟨(cell_row h.rown 0).trans (rc0 _ _ _ _ _ _ _), (cell_row h.rown 2).trans (rc2 _ _ _ _ _ _ _), (cell_row h.rown 3).trans (rc3 _ _ _ _ _ _ _), (cell_row h.rown 6).trans (rc6 _ _ _ _ _ _ _)⟩
theorem Rg.acc (h : Rg w0 w base RB M l r Y) {k a y : Nat} {s' : Value} {L' : S2.LL} {was is : Nat} (c : S2.RefAt w' Y.rb Y.rB s' L' (Y.n + 1) k a was is) (e1 : L' = S2.putL Y.L a (S2.bring a y)) (e2 : was = S2.look Y.L a) (e3 : is = S2.bring a y) (ho : ∀ g, s'.ownBlock = some g → Y.rs.ownBlock = some g ∨ w.heap.size ≤ g) (t : S2.Turns (fun k => k = Y.rB ∨ Y.rs.ownBlock = some k) w w') :
    ∃ Y', Rg w0 w' base RB (M.acc k a y) l r Y' ∧ Y'.rB = Y.rB := by
  subst e1 e2 e3
  obtain ⟨hp, hb⟩ := t_rcells (i := l.length + 0) h.ps (h.at (i := 0) rfl) c ho t
  rw [set_mid] at hp
  refine ⟨{ Y with rs := s', L := S2.putL Y.L a (S2.bring a y), n := Y.n + 1, k := k, a := a, was := S2.look Y.L a, is := S2.bring a y }, ⟨hp, h.rB, ?_, Nat.le_trans h.rb t.size, h.bl.trans hb⟩, rfl⟩
  rw [← h.ym]; rfl
theorem Rg.perm (h : Rg w0 w base RB M l r Y) {k p : Int} {f : Nat → S4.Pk} (hl : S4.RPSets w w' Y.pB f ((Y.pn : Int) + 1) k p) : ∃ Y', Rg w0 w' base RB (M.call k p f) l r Y' ∧ Y'.pB = Y.pB := by
  obtain ⟨hp, hb⟩ := t_rpermits (i := l.length + 3) h.ps (h.at (i := 3) rfl) hl
  rw [set_mid] at hp
  refine ⟨{ Y with pf := f, pn := Y.pn + 1, pk := k, pp := p }, ⟨hp, h.rB, ?_, Nat.le_trans h.rb (Nat.le_of_eq hl.2.2.symm), h.bl.trans hb⟩, rfl⟩
  rw [← h.ym]; rfl
theorem Rg.links (h : Rg w0 w base RB M l r Y) {S : S5.Lk} (hl : S5.Sets w w' Y.lB S) : ∃ Y', Rg w0 w' base RB (M.link S) l r Y' ∧ Y'.lB = Y.lB := by
  obtain ⟨hp, hb⟩ := t_links (i := l.length + 4) h.ps (h.at (i := 4) rfl) hl
  rw [set_mid] at hp
  refine ⟨{ Y with lk := S }, ⟨hp, h.rB, ?_, Nat.le_trans h.rb hl.2.size, h.bl.trans hb⟩, rfl⟩
  rw [← h.ym]; rfl
theorem Rg.cas (h : Rg w0 w base RB M l r Y) {a u v : Nat} (ha : a < 4294967296) (hv : v < 18446744073709551616) (hn : M.n ≤ 1000000000) :
    Calls Tryz.prog 49 #[Pw RB, .int .u32 a, .int .u64 u, .int .u64 v] w fun e w' => e = .returned (.tuple #[.int .u64 (S2.look M.L a : Nat), .bool (decide (S2.look M.L a = u))]) ∧ ∃ Y', Rg w0 w' base RB (M.acc 3 a (S2.casV (S2.look M.L a) u v)) l r Y' := by
  have e : Y.L = M.L := congrArg Sd.L h.ym
  have e2 : Y.n = M.n := congrArg Sd.n h.ym
  rw [← e]
  have hc := S2.rcas_any w Y.rb Y.rB Y.rs Y.L Y.n Y.k Y.a Y.was Y.is a u v h.rcells h.rb ha (by omega) hv
  have HC : Hid (Calls Tryz.prog 108 #[Pw Y.rB, .int .u32 a, .int .u64 u, .int .u64 v] w fun e w' => e = .returned (.tuple #[.int .u64 (S2.look Y.L a : Nat), .bool (decide (S2.look Y.L a = u))]) ∧ ∃ Y', Rg w0 w' base RB (M.acc 3 a (S2.casV (S2.look Y.L a) u v)) l r Y') := Lib.hid (hc.mono (by
    rintro e w' ⟨rfl, s', c, ho, t⟩
    obtain ⟨Y', h', _⟩ := h.acc c rfl rfl rfl (fun g hg => .inr (ho g hg)) (t.mono (fun k _ e => .inl e))
    exact ⟨rfl, Y', h'⟩))
  have c0 := h.c.1
  clear hc h e e2 ha hv hn
  generalize S2.look Y.L a = x at *
  generalize decide (x = u) = b at *
  go_enter Tryz.func49, Tryz.ntmps49
  go_wp2_with (go_at_call 108; refine HC.out.mono ?_; rintro e w1 ⟨rfl, hy⟩)
  go_ret2
  exact ⟨rfl, hy⟩
theorem Rg.load (h : Rg w0 w base RB M l r Y) {a : Nat} (hb : S2.Byt M.L) (ha : a < 4294967296) (hn : M.n ≤ 1000000000) :
    Calls Tryz.prog 52 #[Pw RB, .int .u32 a] w fun e w' => e = .returned (.int .u64 (S2.look M.L a : Nat)) ∧ ∃ Y', Rg w0 w' base RB (M.acc 1 a (S2.look M.L a)) l r Y' := by
  have e : Y.L = M.L := congrArg Sd.L h.ym
  have e2 : Y.n = M.n := congrArg Sd.n h.ym
  rw [← e] at hb ⊢
  have hc := S2.rload_any w Y.rb Y.rB Y.rs Y.L Y.n Y.k Y.a Y.was Y.is a h.rcells (by omega)
  have HC : Hid (Calls Tryz.prog 110 #[Pw Y.rB, .int .u32 a] w fun e w' => e = .returned (.int .u64 (S2.look Y.L a : Nat)) ∧ ∃ Y', Rg w0 w' base RB (M.acc 1 a (S2.look Y.L a)) l r Y') := Lib.hid (hc.mono (by
    rintro e w' ⟨rfl, c, t⟩
    have hbr := S2.bring_look hb a
    obtain ⟨Y', h', _⟩ := h.acc c (by rw [hbr]; exact (S2.putL_look h.rcells.good ha).symm) rfl hbr.symm (fun g hg => .inl hg) (t.mono (fun k _ e => .inl e))
    exact ⟨rfl, Y', h'⟩))
  have c0 := h.c.1
  clear hc h e e2 ha hb hn
  generalize S2.look Y.L a = x at *
  go_enter Tryz.func52, Tryz.ntmps52
  go_wp2_with (go_at_call 110; refine HC.out.mono ?_; rintro e w1 ⟨rfl, hy⟩)
  go_ret
  exact ⟨rfl, hy⟩
theorem Rg.prep (h : Rg w0 w base RB M l r Y) (hn : M.pn ≤ 1000000000) {i : Nat} (hi : i < 128) :
    Calls Tryz.prog 53 #[Pw RB, .int .i64 (i : Int)] w fun e w' => e = .returned (.tuple #[]) ∧ ∃ Y', Rg w0 w' base RB (M.prep i) l r Y' := by
  have e2 : Y.pn = M.pn := congrArg Sd.pn h.ym
  have HC : Hid (Calls Tryz.prog 111 #[Pw Y.pB, .int .i64 (i : Int)] w fun e w' => e = .returned (.tuple #[]) ∧ ∃ Y', Rg w0 w' base RB (M.prep i) l r Y') := Lib.hid ((S4.rprepare_yes h.rpermits (by omega) hi).mono (by
    rintro e w' ⟨rfl, hl⟩
    rw [show Y.pf = M.pf from congrArg Sd.pf h.ym] at hl
    obtain ⟨Y', h', _⟩ := h.perm hl
    exact ⟨rfl, Y', h'⟩))
  have c0 := h.c.2.1
  clear h e2 hn hi
  go_enter Tryz.func53, Tryz.ntmps53
  go_wp2_with (go_at_call 111; refine HC.out.mono ?_; rintro e w1 ⟨rfl, hy⟩)
  go_end0
  exact ⟨rfl, hy⟩
theorem Rg.park (h : Rg w0 w base RB M l r Y) (hn : M.pn ≤ 1000000000) {i : Nat} (hi : i < 128) :
    Calls Tryz.prog 55 #[Pw RB, .int .i64 (i : Int)] w fun e w' => e = .returned (.int .i64 (if (M.pf i).p then 1 else 0)) ∧ ∃ Y', Rg w0 w' base RB (M.park i) l r Y' := by
  have e2 : Y.pn = M.pn := congrArg Sd.pn h.ym
  have HC : Hid (Calls Tryz.prog 113 #[Pw Y.pB, .int .i64 (i : Int)] w fun e w' => e = .returned (.int .i64 (if (M.pf i).p then 1 else 0)) ∧ ∃ Y', Rg w0 w' base RB (M.park i) l r Y') := Lib.hid ((S4.rpark_yes h.rpermits (by omega) hi).mono (by
    rintro e w' ⟨rfl, hl⟩
    rw [show Y.pf = M.pf from congrArg Sd.pf h.ym] at hl ⊢
    obtain ⟨Y', h', _⟩ := h.perm hl
    exact ⟨rfl, Y', h'⟩))
  have c0 := h.c.2.1
  clear h e2 hn hi
  generalize (if (M.pf i).p then (1 : Int) else 0) = z at *
  go_enter Tryz.func55, Tryz.ntmps55
  go_wp2_with (go_at_call 113; refine HC.out.mono ?_; rintro e w1 ⟨rfl, hy⟩)
  go_ret
  exact ⟨rfl, hy⟩
theorem Rg.unpark (h : Rg w0 w base RB M l r Y) (hn : M.pn ≤ 1000000000) {i : Nat} (hi : i < 128) :
    Calls Tryz.prog 46 #[Pw RB, .int .i64 (i : Int)] w fun e w' => e = .returned (.tuple #[]) ∧ ∃ Y', Rg w0 w' base RB (M.unpark i) l r Y' := by
  have e2 : Y.pn = M.pn := congrArg Sd.pn h.ym
  have HC : Hid (Calls Tryz.prog 106 #[Pw Y.pB, .int .i64 (i : Int)] w fun e w' => e = .returned (.tuple #[]) ∧ ∃ Y', Rg w0 w' base RB (M.unpark i) l r Y') := Lib.hid ((S4.runpark_yes h.rpermits (by omega) hi).mono (by
    rintro e w' ⟨rfl, hl⟩
    rw [show Y.pf = M.pf from congrArg Sd.pf h.ym] at hl
    obtain ⟨Y', h', _⟩ := h.perm hl
    exact ⟨rfl, Y', h'⟩))
  have c0 := h.c.2.1
  clear h e2 hn hi
  go_enter Tryz.func46, Tryz.ntmps46
  go_wp2_with (go_at_call 106; refine HC.out.mono ?_; rintro e w1 ⟨rfl, hy⟩)
  go_end0
  exact ⟨rfl, hy⟩
theorem Rg.push (h : Rg w0 w base RB M l r Y) {x y : Int} {t hd : Option Nat} (hx : S5.Num x t) (hy : S5.Num y hd) :
    Calls Tryz.prog 54 #[Pw RB, .int .i64 x, .int .i64 y] w fun e w' => e = .returned (.tuple #[]) ∧ ∃ Y', Rg w0 w' base RB (M.link (S5.pushS M.lk t hd)) l r Y' := by
  have HC : Hid (Calls Tryz.prog 112 #[Pw Y.lB, .int .i64 x, .int .i64 y] w fun e w' => e = .returned (.tuple #[]) ∧ ∃ Y', Rg w0 w' base RB (M.link (S5.pushS M.lk t hd)) l r Y') := Lib.hid ((S5.rpush_any h.rlinks hx hy).mono (by
    rintro e w' ⟨rfl, hl⟩
    rw [show Y.lk = M.lk from congrArg Sd.lk h.ym] at hl
    obtain ⟨Y', h', _⟩ := h.links hl
    exact ⟨rfl, Y', h'⟩))
  have c0 := h.c.2.2.1
  clear h hx hy
  go_enter Tryz.func54, Tryz.ntmps54
  go_wp2_with (go_at_call 112; refine HC.out.mono ?_; rintro e w1 ⟨rfl, hy⟩)
  go_end0
  exact ⟨rfl, hy⟩
end
end Go.Proofs.YtlflagjnlclffaaGreat.S13
namespace Go.Proofs.YtlflagjnlclffaaGreat.S13
set_option maxRecDepth 100000
set_option maxHeartbeats 16000000
open Go.Proofs.YtlflagjnlclffaaGreat Go.Proofs.YtlflagjnlclffaaGreat.S11 Go.Proofs.YtlflagjnlclffaaGreat.S12
open Go.RowKit
def Lk.rs (K : Lk) : Array Value := #[.int .i64 (K.ln : Int), .int .i64 (K.t : Int), .int .u32 (K.a : Int), .int .u64 (K.st : Int), .int .i64 K.sp]
def lockRP (B : Nat) (K : Lk) : Part := blockP B (.cells K.rs 58)
structure Wr (w0 w : World) (base RB : Nat) (M : Sd) (l r : List Part) (j B : Nat) (K : Lk) (Y : Rm) : Prop where
  pg : Rg w0 w base RB M l (r.set j (lockRP B K)) Y
  hj : j < r.length
section
variable {w0 w w' : World} {base RB : Nat} {M : Sd} {l r : List Part} {j B : Nat} {K : Lk} {Y : Rm}
theorem Wr.new (h : Wr w0 w base RB M l r j B K Y) (b : Below w.heap.size w w') : Wr w0 w' base RB M l r j B K Y := ⟨h.pg.new b, h.hj⟩
theorem Wr.part (h : Wr w0 w base RB M l r j B K Y) : (r.set j (lockRP B K))[j]? = some (lockRP B K) := List.getElem?_set_self h.hj
theorem Wr.blk (h : Wr w0 w base RB M l r j B K Y) : w.heap[B]? = some (.cells K.rs 58 (0, 0)) := h.pg.ps.ok _ _ (h.pg.part h.part)
theorem Wr.b0 (h : Wr w0 w base RB M l r j B K Y) : w.cell? ⟨B, 0, none⟩ = some (.int .i64 (K.ln : Int)) := cell_row h.blk 0
theorem Wr.b1 (h : Wr w0 w base RB M l r j B K Y) : w.cell? ⟨B, 1, none⟩ = some (.int .i64 (K.t : Int)) := cell_row h.blk 1
theorem Wr.b2 (h : Wr w0 w base RB M l r j B K Y) : w.cell? ⟨B, 2, none⟩ = some (.int .u32 (K.a : Int)) := cell_row h.blk 2
theorem Wr.b3 (h : Wr w0 w base RB M l r j B K Y) : w.cell? ⟨B, 3, none⟩ = some (.int .u64 (K.st : Int)) := cell_row h.blk 3
theorem Wr.b4 (h : Wr w0 w base RB M l r j B K Y) : w.cell? ⟨B, 4, none⟩ = some (.int .i64 K.sp) := cell_row h.blk 4
theorem Wr.fz (h : Wr w0 w base RB M l r j B K Y) (i : Nat) : w.frozen? ⟨B, i, none⟩ = false := froz_row h.blk i
theorem Wr.put (h : Wr w0 w base RB M l r j B K Y) (K' : Lk) (hq : w'.heap[B]? = some (.cells K'.rs 58 (0, 0))) (t : Turns (fun k => k = B) w w') : Wr w0 w' base RB M l r j B K' Y := by
  have := h.pg.turn h.part (lockRP B K') hq t (fun k e => .inl e)
  rw [List.set_set] at this
  exact ⟨this, h.hj⟩
theorem Wr.ln (h : Wr w0 w base RB M l r j B K Y) (n : Nat) : Wr w0 (w.setCell ⟨B, 0, none⟩ (.int .i64 (n : Int))) base RB M l r j B { K with ln := n } Y :=
  h.put { K with ln := n } (set_blk h.blk 0 (.int .i64 (n : Int)) _ (by simp [Lk.rs])) ((Turns.refl (fun k => k = B) w).setCell ⟨B, 0, none⟩ _ rfl)
theorem Wr.pushB (h : Wr w0 w base RB M l r j B K Y) (ob : Obj) : Wr w0 (w.alloc ob) base RB M l (r ++ [blockP w.heap.size ob]) j B K Y := by
  have hp := h.pg.ps.push (blockP w.heap.size ob) (below1 w ob) (heap_alloc_new w ob) (fun k e => Nat.le_of_eq (show k = w.heap.size from e).symm)
  rw [List.append_assoc, List.append_assoc] at hp
  refine ⟨⟨?_, h.pg.rB, h.pg.ym, Nat.le_trans h.pg.rb (by simp), h.pg.bl.alloc h.pg.size _⟩, by rw [List.length_append]; have := h.hj; simp; omega⟩
  rw [List.set_append_left _ _ h.hj]
  exact hp
theorem Wr.dropB {q : Part} (h : Wr w0 w base RB M l (r ++ [q]) j B K Y) (hj : j < r.length) : Wr w0 w base RB M l r j B K Y := by
  have hp := h.pg.ps
  rw [List.set_append_left _ _ hj, ← List.append_assoc, ← List.append_assoc, List.append_assoc l] at hp
  exact ⟨⟨Parts.left hp, h.pg.rB, h.pg.ym, h.pg.rb, h.pg.bl⟩, hj⟩
theorem Wr.last {Q : Nat} {ob : Obj} (h : Wr w0 w base RB M l (r ++ [blockP Q ob]) j B K Y) (hj : j < r.length) : w.heap[Q]? = some ob := by
  refine h.pg.ps.ok _ (blockP Q ob) (h.pg.part (j := r.length) ?_)
  rw [List.set_append_left _ _ hj, List.getElem?_append_right (by rw [List.length_set]; exact Nat.le_refl _), List.length_set, Nat.sub_self]; rfl
theorem begin_r (h : Wr w0 w base RB M l r j B K Y) : Calls Tryz.prog 48 #[.pointer (some ⟨B, 4, none⟩), Pw RB] w fun e w' => e = .returned (.tuple #[]) ∧ Wr w0 w' base RB M l r j B { K with sp := M.sp } Y := by
  have h2 := h.put { K with sp := M.sp } (set_blk h.blk 4 (.int .i64 M.sp) _ (by simp [Lk.rs])) ((Turns.refl (fun k => k = B) _).setCell ⟨B, 4, none⟩ _ rfl)
  have c4 := h.b4; have z4 := h.fz 4
  have d6 := h.pg.c.2.2.2
  have H2 := Lib.hid h2
  clear h h2
  go_enter Tryz.func48, Tryz.ntmps48
  go_wp2_with fail
  go_end0
  exact ⟨rfl, H2.out⟩
theorem spin_r (h : Wr w0 w base RB M l r j B K Y) (hs : K.sp ≤ 9223372036854775807) : Calls Tryz.prog 109 #[.pointer (some ⟨B, 4, none⟩)] w fun e w' => e = .returned (.bool (decide (0 < K.sp))) ∧ Wr w0 w' base RB M l r j B { K with sp := if 0 < K.sp then K.sp - 1 else K.sp } Y := by
  have c2 := h.b4; have z2 := h.fz 4
  by_cases h0 : 0 < K.sp
  · rw [decide_eq_true h0, if_pos h0]
    have h1 := h.put { K with sp := K.sp - 1 } (set_blk h.blk 4 (.int .i64 (K.sp - 1)) _ (by simp [Lk.rs])) ((Turns.refl (fun k => k = B) w).setCell ⟨B, 4, none⟩ _ rfl)
    have hd : decide (K.sp ≤ 0) = false := by rw [decide_eq_false_iff_not]; omega
    have hw : wrap64 (K.sp - 1) = K.sp - 1 := by unfold wrap64; omega
    have H1 := Lib.hid h1
    clear h h0 hs h1
    generalize K.sp = v at *
    go_enter Tryz.func109, Tryz.ntmps109
    go_wp2_with fail
    go_ret
    exact ⟨rfl, H1.out⟩
  · rw [decide_eq_false h0, if_neg h0]
    have hd : decide (K.sp ≤ 0) = true := by rw [decide_eq_true_iff]; omega
    have H1 := Lib.hid h
    clear h h0 hs
    go_enter Tryz.func109, Tryz.ntmps109
    go_wp2_with fail
    go_ret
    exact ⟨rfl, H1.out⟩
theorem turn_r (h : Wr w0 w base RB M l r j B K Y) (hs : K.sp ≤ 9223372036854775807) {u : Nat} (hu : u < 18446744073709551616) :
    Calls Tryz.prog 50 #[Pw B, .int .u64 (u : Int)] w fun e w' => e = .returned (.tuple #[]) ∧ Wr w0 w' base RB M l r j B (K.turn u) Y := by
  have HJ := Lib.hid h.hj
  have h1 := h.put { K with st := u } (set_blk h.blk 3 (.int .u64 (u : Int)) _ (by simp [Lk.rs])) ((Turns.refl (fun k => k = B) _).setCell ⟨B, 3, none⟩ _ rfl)
  have d1 := h.b3; have y1 := h.fz 3
  have HAS := Lib.hid (fun W => S1.ras_any u hu W)
  have H1 := Lib.hid h1
  have HS := Lib.hid hs
  clear h h1 hs
  go_enter Tryz.func50, Tryz.ntmps50
  go_upto_region 1 with (fail)
  generalize w.setCell ⟨B, 3, none⟩ (.int .u64 (u : Int)) = w1 at *
  clear d1 y1
  unfold S1.asV at HAS
  obtain ⟨b0, hb0⟩ : ∃ x, x = S1.bitB u 0 := ⟨_, rfl⟩
  obtain ⟨b1, hb1⟩ : ∃ x, x = S1.bitB u 1 := ⟨_, rfl⟩
  obtain ⟨hd, hhd⟩ : ∃ x, x = S1.headN u := ⟨_, rfl⟩
  rw [← hb0, ← hb1, ← hhd] at HAS
  have HT := Lib.hid (And.intro hb0 hhd)
  clear hb0 hb1 hhd
  go_upto_region 2 with (go_at_call 47; refine (HAS.out _).mono ?_; rintro e w2 ⟨rfl, hb2⟩)
  have h3 := (H1.out.new hb2).pushB (.cells #[.bool b0, .bool b1, .int .i64 hd] 134)
  generalize w2.alloc (.cells #[.bool b0, .bool b1, .int .i64 hd] 134) = w3 at *
  generalize w2.heap.size = Q at *
  have hl := h3.last HJ.out
  have x0 := cell_row hl 0; have x2 := cell_row hl 2
  simp only [List.getElem?_toArray, List.getElem?_cons_zero, List.getElem?_cons_succ] at x0 x2
  have c0 := h3.b0; have z0 := h3.fz 0
  have H3 := Lib.hid h3
  clear h3 hl hb2 HAS H1
  cases b0 with
  | false =>
    have ht : K.turn u = { K with st := u, ln := 2 } := by unfold Lk.turn; rw [← HT.out.1, if_pos rfl]
    have HTN := Lib.hid ht
    clear ht HT
    go_wp2_with fail
    (try simp only [Exit.inBlock, Exit.then])
    refine bodyPost_ret (results_none rfl _ _ _) rfl ?_
    exact ⟨rfl, by rw [HTN.out]; exact (H3.out.ln 2).dropB HJ.out⟩
  | true =>
    have h4 := H3.out.ln 4
    clear x2
    go_upto_region 5 with (fail)
    generalize w3.setCell ⟨B, 0, none⟩ (.int .i64 4) = w4 at *
    have hl := h4.last HJ.out
    have x2 := cell_row hl 2
    simp only [List.getElem?_toArray, List.getElem?_cons_zero, List.getElem?_cons_succ] at x2
    have c0 := h4.b0; have z0 := h4.fz 0
    have HSP := Lib.hid (spin_r h4 HS.out)
    have H4 := Lib.hid h4
    clear h4 hl H3 x0
    by_cases hh : hd = -1
    · subst hh
      by_cases hsp : 0 < K.sp
      · have ht : K.turn u = { K with st := u, ln := 3, sp := K.sp - 1 } := by unfold Lk.turn; rw [← HT.out.1, if_neg (by decide), if_pos HT.out.2.symm, if_pos hsp]
        have HTN := Lib.hid ht
        simp only [decide_eq_true hsp, if_pos hsp] at HSP
        clear ht HT hsp HS
        go_wp2_with (go_at_call 109; refine HSP.out.mono ?_; rintro e w5 ⟨rfl, h5⟩; (have c0 := h5.b0; have z0 := h5.fz 0; have H5 := Lib.hid h5; clear h5))
        go_end0
        exact ⟨rfl, by rw [HTN.out]; exact (H5.out.ln 3).dropB HJ.out⟩
      · have ht : K.turn u = { K with st := u, ln := 4 } := by unfold Lk.turn; rw [← HT.out.1, if_neg (by decide), if_pos HT.out.2.symm, if_neg hsp]
        have HTN := Lib.hid ht
        simp only [decide_eq_false hsp, if_neg hsp] at HSP
        clear ht HT hsp HS
        go_wp2_with (go_at_call 109; refine HSP.out.mono ?_; rintro e w5 ⟨rfl, h5⟩; (have H5 := Lib.hid h5; clear h5))
        go_end0
        exact ⟨rfl, by rw [HTN.out]; exact H5.out.dropB HJ.out⟩
    · have ht : K.turn u = { K with st := u, ln := 4 } := by unfold Lk.turn; rw [← HT.out.1, if_neg (by decide), if_neg (fun e => hh (HT.out.2.trans e))]
      have HTN := Lib.hid ht
      have hne : (hd == -1) = false := by rw [beq_eq_false_iff_ne]; exact hh
      clear ht HT hh HSP
      go_wp2_with fail
      go_end0
      exact ⟨rfl, by rw [HTN.out]; exact H4.out.dropB HJ.out⟩
end
end Go.Proofs.YtlflagjnlclffaaGreat.S13
namespace Go.Proofs.YtlflagjnlclffaaGreat.S13
set_option maxRecDepth 100000
set_option maxHeartbeats 16000000
open Go.Proofs.YtlflagjnlclffaaGreat Go.Proofs.YtlflagjnlclffaaGreat.S11 Go.Proofs.YtlflagjnlclffaaGreat.S12
open Go.RowKit
def SteppedR (w0 w' : World) (base RB : Nat) (M : Sd) (l r : List Part) (j B : Nat) (K : Lk) : Prop := ∃ Y', Wr w0 w' base RB (stepM M K) l r j B (stepK M K) Y'
theorem turn_ln (K : Lk) (n x : Nat) : ({ K with ln := n } : Lk).turn x = K.turn x := rfl
section
variable {w0 w w' : World} {base RB : Nat} {M : Sd} {l r : List Part} {j B : Nat} {K : Lk} {Y : Rm}
theorem Wr.look (h : Wr w0 w base RB M l r j B K Y) (a : Nat) : S2.look M.L a < 18446744073709551616 := by
  have := S2.look_lt h.pg.rcells.good a
  rwa [show Y.L = M.L from congrArg Sd.L h.pg.ym] at this
theorem Wr.turnLast {Q : Nat} {ob : Obj} (h : Wr w0 w base RB M l (r ++ [blockP Q ob]) j B K Y) (hj : j < r.length) (ob' : Obj) (hq : w'.heap[Q]? = some ob') (t : Turns (fun k => k = Q) w w') : Wr w0 w' base RB M l (r ++ [blockP Q ob']) j B K Y := by
  have e : ∀ q : Part, (r ++ [q]).set j (lockRP B K) = r.set j (lockRP B K) ++ [q] := fun q => List.set_append_left _ _ hj
  have hi : ((r ++ [blockP Q ob]).set j (lockRP B K))[r.length]? = some (blockP Q ob) := by
    rw [e, List.getElem?_append_right (by rw [List.length_set]; exact Nat.le_refl _), List.length_set, Nat.sub_self]; rfl
  have := h.pg.turn hi (blockP Q ob') hq t (fun k e => .inl e)
  rw [e, List.set_append_right _ _ (by rw [List.length_set]; exact Nat.le_refl _), List.length_set, Nat.sub_self] at this
  refine ⟨?_, by rw [List.length_append]; simp; omega⟩
  rw [e]
  exact this
theorem rstep0 (h : Wr w0 w base RB M l r j B K Y) (ok : LkOk M K) (hl : K.ln = 0) : Calls Tryz.prog 13 #[Pw B, Pw RB] w fun e w' => e = .returned (.tuple #[]) ∧ SteppedR w0 w' base RB M l r j B K := by
  unfold SteppedR
  rw [show stepM M K = M from by simp only [stepM, hl], show stepK M K = K from by simp only [stepK, hl]]
  have HJ := Lib.hid h.hj
  have HLK := Lib.hid h.look
  have HAS := Lib.hid (fun W => S1.ras_any K.st ok.st W)
  unfold S1.asV at HAS
  obtain ⟨b0, hb0⟩ : ∃ x, x = S1.bitB K.st 0 := ⟨_, rfl⟩
  obtain ⟨b1, hb1⟩ : ∃ x, x = S1.bitB K.st 1 := ⟨_, rfl⟩
  obtain ⟨hd, hhd⟩ : ∃ x, x = S1.headN K.st := ⟨_, rfl⟩
  have HHD : Hid (S1.isHead hd) := Lib.hid (by rw [hhd]; exact S1.head_is _)
  rw [← hb0, ← hb1, ← hhd] at HAS
  have HT := Lib.hid (And.intro hb0 (And.intro hb1 hhd))
  clear hb0 hb1 hhd
  have c3 := h.b3
  have HW := Lib.hid h
  have HOK := Lib.hid ok; have HLN := Lib.hid hl
  clear h ok hl
  go_enter Tryz.func13, Tryz.ntmps13
  go_upto_region 1 with (go_at_call 47; refine (HAS.out _).mono ?_; rintro e w1 ⟨rfl, hb1⟩)
  have h1 := (HW.out.new hb1).pushB (.cells #[.bool b0, .bool b1, .int .i64 hd] 134)
  generalize w1.alloc (.cells #[.bool b0, .bool b1, .int .i64 hd] 134) = w2 at *
  generalize w1.heap.size = Q at *
  have c0 : w2.cell? ⟨B, 0, none⟩ = some (.int .i64 0) := by have := h1.b0; rw [HLN.out] at this; exact this
  clear c3 HAS hb1 HW
  have H1 := Lib.hid h1
  clear h1
  go_wp2_with fail
  go_end0
  exact ⟨rfl, Y, H1.out.dropB HJ.out⟩
theorem rstep1 (h : Wr w0 w base RB M l r j B K Y) (ok : LkOk M K) (hl : K.ln = 1) : Calls Tryz.prog 13 #[Pw B, Pw RB] w fun e w' => e = .returned (.tuple #[]) ∧ SteppedR w0 w' base RB M l r j B K := by
  unfold SteppedR
  rw [show stepM M K = _ from by simp only [stepM, hl]; rfl, show stepK M K = ({ K with sp := M.sp } : Lk).cas (S2.look M.L K.a) 0 { K with sp := M.sp, ln := 0 } from by simp only [stepK, hl]]
  have HJ := Lib.hid h.hj
  have HLK := Lib.hid h.look
  have HAS := Lib.hid (fun W => S1.ras_any K.st ok.st W)
  unfold S1.asV at HAS
  obtain ⟨b0, hb0⟩ : ∃ x, x = S1.bitB K.st 0 := ⟨_, rfl⟩
  obtain ⟨b1, hb1⟩ : ∃ x, x = S1.bitB K.st 1 := ⟨_, rfl⟩
  obtain ⟨hd, hhd⟩ : ∃ x, x = S1.headN K.st := ⟨_, rfl⟩
  have HHD : Hid (S1.isHead hd) := Lib.hid (by rw [hhd]; exact S1.head_is _)
  obtain ⟨x, hx⟩ : ∃ x, x = S2.look M.L K.a := ⟨_, rfl⟩
  rw [← hx]
  have HX : Hid (x < 18446744073709551616) := Lib.hid (by rw [hx]; exact HLK.out K.a)
  have HXE := Lib.hid hx
  clear hx
  rw [← hb0, ← hb1, ← hhd] at HAS
  have HT := Lib.hid (And.intro hb0 (And.intro hb1 hhd))
  clear hb0 hb1 hhd
  have c3 := h.b3
  have HW := Lib.hid h
  have HOK := Lib.hid ok; have HLN := Lib.hid hl
  clear h ok hl
  go_enter Tryz.func13, Tryz.ntmps13
  go_upto_region 1 with (go_at_call 47; refine (HAS.out _).mono ?_; rintro e w1 ⟨rfl, hb1⟩)
  have h1 := (HW.out.new hb1).pushB (.cells #[.bool b0, .bool b1, .int .i64 hd] 134)
  generalize w1.alloc (.cells #[.bool b0, .bool b1, .int .i64 hd] 134) = w2 at *
  generalize w1.heap.size = Q at *
  have c0 : w2.cell? ⟨B, 0, none⟩ = some (.int .i64 1) := by have := h1.b0; rw [HLN.out] at this; exact this
  clear c3 HAS hb1 HW
  have HBG := Lib.hid (begin_r h1)
  clear h1
  go_upto_region 4 with (go_at_call 48; refine HBG.out.mono ?_; rintro e w3 ⟨rfl, h3⟩)
  have hc := h3.pg.cas HOK.out.a (u := 0) (v := 1) (by decide) HOK.out.n
  rw [← HXE.out] at hc
  have HC : Hid (Calls Tryz.prog 49 #[Pw RB, .int .u32 (K.a : Int), .int .u64 0, .int .u64 1] w3 fun e w' => e = .returned (.tuple #[.int .u64 (x : Int), .bool (decide (x = 0))]) ∧ ∃ Y', Rg w0 w' base RB (M.acc 3 K.a (S2.casV x 0 1)) l ((r ++ [blockP Q (.cells #[.bool b0, .bool b1, .int .i64 hd] 134)]).set j (lockRP B ({ K with sp := M.sp } : Lk))) Y') := Lib.hid hc
  have c2 := h3.b2
  have HJ3 := Lib.hid h3.hj
  have HSP : Hid (({ K with sp := M.sp } : Lk).sp ≤ 9223372036854775807) := Lib.hid (by show M.sp ≤ _; have := HOK.out.ms; omega)
  clear hc h3 c0 HBG
  go_upto_region 5 with (go_at_call 49; refine HC.out.mono ?_; rintro e w5 ⟨rfl, Y5, h5g⟩)
  have h5 : Wr w0 w5 base RB (M.acc 3 K.a (S2.casV x 0 1)) l (r ++ [blockP Q (.cells #[.bool b0, .bool b1, .int .i64 hd] 134)]) j B ({ K with sp := M.sp } : Lk) Y5 := ⟨h5g, HJ3.out⟩
  have c0 := h5.b0; have z0 := h5.fz 0
  have H5 := Lib.hid h5
  clear h5 h5g c2 HC
  by_cases e : x = 0
  · have hd1 : decide (x = 0) = true := decide_eq_true e
    rw [hd1]
    have HK := Lib.hid (show ({ K with sp := M.sp } : Lk).cas x 0 { K with sp := M.sp, ln := 0 } = { K with sp := M.sp, ln := 0 } from if_pos e)
    clear hd1 e
    go_wp2_with fail
    go_end0
    exact ⟨rfl, Y5, by rw [HK.out]; exact (H5.out.ln 0).dropB HJ.out⟩
  · have hd1 : decide (x = 0) = false := decide_eq_false e
    rw [hd1]
    have HK := Lib.hid (show ({ K with sp := M.sp } : Lk).cas x 0 { K with sp := M.sp, ln := 0 } = ({ K with sp := M.sp, ln := 0 } : Lk).turn x from (if_neg e).trans (turn_ln _ 0 x).symm)
    have HTN := Lib.hid (turn_r (H5.out.ln 0) HSP.out HX.out)
    clear hd1 e
    go_upto_region 6 with (fail)
    generalize w5.setCell ⟨B, 0, none⟩ (.int .i64 0) = w6 at *
    clear c0 z0
    go_wp2_with (go_at_call 50; refine HTN.out.mono ?_; rintro e w7 ⟨rfl, h7⟩)
    go_end0
    exact ⟨rfl, Y5, by rw [HK.out]; exact h7.dropB HJ.out⟩
theorem rstep3 (h : Wr w0 w base RB M l r j B K Y) (ok : LkOk M K) (hl : K.ln = 3) (hby : S2.Byt M.L) : Calls Tryz.prog 13 #[Pw B, Pw RB] w fun e w' => e = .returned (.tuple #[]) ∧ SteppedR w0 w' base RB M l r j B K := by
  unfold SteppedR
  rw [show stepM M K = _ from by simp only [stepM, hl]; rfl, show stepK M K = _ from by simp only [stepK, hl]; rfl]
  have HJ := Lib.hid h.hj
  have HLK := Lib.hid h.look
  have HAS := Lib.hid (fun W => S1.ras_any K.st ok.st W)
  unfold S1.asV at HAS
  obtain ⟨b0, hb0⟩ : ∃ x, x = S1.bitB K.st 0 := ⟨_, rfl⟩
  obtain ⟨b1, hb1⟩ : ∃ x, x = S1.bitB K.st 1 := ⟨_, rfl⟩
  obtain ⟨hd, hhd⟩ : ∃ x, x = S1.headN K.st := ⟨_, rfl⟩
  have HHD : Hid (S1.isHead hd) := Lib.hid (by rw [hhd]; exact S1.head_is _)
  obtain ⟨x, hx⟩ : ∃ x, x = S2.look M.L K.a := ⟨_, rfl⟩
  rw [← hx]
  have HX : Hid (x < 18446744073709551616) := Lib.hid (by rw [hx]; exact HLK.out K.a)
  have HXE := Lib.hid hx
  clear hx
  rw [← hb0, ← hb1, ← hhd] at HAS
  have HT := Lib.hid (And.intro hb0 (And.intro hb1 hhd))
  clear hb0 hb1 hhd
  have c3 := h.b3
  have HW := Lib.hid h
  have HOK := Lib.hid ok; have HLN := Lib.hid hl
  clear h ok hl
  go_enter Tryz.func13, Tryz.ntmps13
  go_upto_region 1 with (go_at_call 47; refine (HAS.out _).mono ?_; rintro e w1 ⟨rfl, hb1⟩)
  have h1 := (HW.out.new hb1).pushB (.cells #[.bool b0, .bool b1, .int .i64 hd] 134)
  generalize w1.alloc (.cells #[.bool b0, .bool b1, .int .i64 hd] 134) = w2 at *
  generalize w1.heap.size = Q at *
  have c0 : w2.cell? ⟨B, 0, none⟩ = some (.int .i64 3) := by have := h1.b0; rw [HLN.out] at this; exact this
  clear c3 HAS hb1 HW
  have hc := h1.pg.load hby HOK.out.a HOK.out.n
  rw [← HXE.out] at hc
  have HC : Hid (Calls Tryz.prog 52 #[Pw RB, .int .u32 (K.a : Int)] w2 fun e w' => e = .returned (.int .u64 (x : Int)) ∧ ∃ Y', Rg w0 w' base RB (M.acc 1 K.a x) l ((r ++ [blockP Q (.cells #[.bool b0, .bool b1, .int .i64 hd] 134)]).set j (lockRP B K)) Y') := Lib.hid hc
  have c2 := h1.b2
  have HJ3 := Lib.hid h1.hj
  have HTN : Hid (∀ W Y', Rg w0 W base RB (M.acc 1 K.a x) l ((r ++ [blockP Q (.cells #[.bool b0, .bool b1, .int .i64 hd] 134)]).set j (lockRP B K)) Y' → Calls Tryz.prog 50 #[Pw B, .int .u64 (x : Int)] W fun e w' => e = .returned (.tuple #[]) ∧ Wr w0 w' base RB (M.acc 1 K.a x) l (r ++ [blockP Q (.cells #[.bool b0, .bool b1, .int .i64 hd] 134)]) j B (K.turn x) Y') := Lib.hid (fun W Y' h' => turn_r ⟨h', HJ3.out⟩ (by have := HOK.out.sp; omega) HX.out)
  clear hc h1 hby
  go_wp2_with (first
    | (go_at_call 50; refine HT5.out.mono ?_; rintro e w6 ⟨rfl, h6⟩)
    | (go_at_call 52; refine HC.out.mono ?_; rintro e w5 ⟨rfl, Y5, h5g⟩; have HT5 := Lib.hid (HTN.out _ _ h5g); clear h5g))
  go_end0
  exact ⟨rfl, Y5, h6.dropB HJ.out⟩
theorem rstep6 (h : Wr w0 w base RB M l r j B K Y) (ok : LkOk M K) (hl : K.ln = 6) : Calls Tryz.prog 13 #[Pw B, Pw RB] w fun e w' => e = .returned (.tuple #[]) ∧ SteppedR w0 w' base RB M l r j B K := by
  unfold SteppedR
  rw [show stepM M K = _ from by simp only [stepM, hl]; rfl, show stepK M K = _ from by simp only [stepK, hl]; rfl]
  have HJ := Lib.hid h.hj
  have HLK := Lib.hid h.look
  have HAS := Lib.hid (fun W => S1.ras_any K.st ok.st W)
  unfold S1.asV at HAS
  obtain ⟨b0, hb0⟩ : ∃ x, x = S1.bitB K.st 0 := ⟨_, rfl⟩
  obtain ⟨b1, hb1⟩ : ∃ x, x = S1.bitB K.st 1 := ⟨_, rfl⟩
  obtain ⟨hd, hhd⟩ : ∃ x, x = S1.headN K.st := ⟨_, rfl⟩
  have HHD : Hid (S1.isHead hd) := Lib.hid (by rw [hhd]; exact S1.head_is _)
  obtain ⟨p, hp⟩ : ∃ p, p = (M.pf (2 * K.t + 1)).p := ⟨_, rfl⟩
  rw [← hp]
  have HPE := Lib.hid hp
  clear hp
  rw [← hb0, ← hb1, ← hhd] at HAS
  have HT := Lib.hid (And.intro hb0 (And.intro hb1 hhd))
  clear hb0 hb1 hhd
  have c3 := h.b3
  have HW := Lib.hid h
  have HOK := Lib.hid ok; have HLN := Lib.hid hl
  clear h ok hl
  go_enter Tryz.func13, Tryz.ntmps13
  go_upto_region 1 with (go_at_call 47; refine (HAS.out _).mono ?_; rintro e w1 ⟨rfl, hb1⟩)
  have h1 := (HW.out.new hb1).pushB (.cells #[.bool b0, .bool b1, .int .i64 hd] 134)
  generalize w1.alloc (.cells #[.bool b0, .bool b1, .int .i64 hd] 134) = w2 at *
  generalize w1.heap.size = Q at *
  have c0 : w2.cell? ⟨B, 0, none⟩ = some (.int .i64 6) := by have := h1.b0; rw [HLN.out] at this; exact this
  clear c3 HAS hb1 HW
  have e1 : wrap64 (2 * (K.t : Int)) = 2 * (K.t : Int) := by have := HOK.out.t; unfold wrap64; omega
  have e2 : wrap64 (2 * (K.t : Int) + 1) = ((2 * K.t + 1 : Nat) : Int) := by have := HOK.out.t; unfold wrap64; omega
  have hc := h1.pg.park HOK.out.pn (i := 2 * K.t + 1) (by have := HOK.out.t; omega)
  have c1 := h1.b1
  have HJ3 := Lib.hid h1.hj
  rw [← HPE.out] at hc
  have HC := Lib.hid hc
  clear hc h1 HPE
  cases p with
  | false =>
    go_wp2_with (go_at_call 55; refine HC.out.mono ?_; rintro e w3 ⟨rfl, Y3, h3g⟩)
    go_end0
    exact ⟨rfl, Y3, Wr.dropB ⟨h3g, HJ3.out⟩ HJ.out⟩
  | true =>
    go_upto_region 28 with (go_at_call 55; refine HC.out.mono ?_; rintro e w3 ⟨rfl, Y3, h3g⟩)
    have h3 : Wr w0 w3 base RB (M.park (2 * K.t + 1)) l (r ++ [blockP Q (.cells #[.bool b0, .bool b1, .int .i64 hd] 134)]) j B K Y3 := ⟨h3g, HJ3.out⟩
    have HBG := Lib.hid (begin_r h3)
    clear h3 h3g c0 c1 HC e1 e2
    go_upto_region 29 with (go_at_call 48; refine HBG.out.mono ?_; rintro e w4 ⟨rfl, h4⟩)
    have c0 := h4.b0; have z0 := h4.fz 0
    have H4 := Lib.hid h4
    clear h4 HBG
    go_wp2_with fail
    go_end0
    exact ⟨rfl, Y3, (H4.out.ln 3).dropB HJ.out⟩
theorem rstep4 (h : Wr w0 w base RB M l r j B K Y) (ok : LkOk M K) (hl : K.ln = 4) : Calls Tryz.prog 13 #[Pw B, Pw RB] w fun e w' => e = .returned (.tuple #[]) ∧ SteppedR w0 w' base RB M l r j B K := by
  unfold SteppedR
  rw [show stepM M K = _ from by simp only [stepM, hl]; rfl, show stepK M K = _ from by simp only [stepK, hl]; rfl]
  have HJ := Lib.hid h.hj
  have HLK := Lib.hid h.look
  have HAS := Lib.hid (fun W => S1.ras_any K.st ok.st W)
  unfold S1.asV at HAS
  obtain ⟨b0, hb0⟩ : ∃ x, x = S1.bitB K.st 0 := ⟨_, rfl⟩
  obtain ⟨b1, hb1⟩ : ∃ x, x = S1.bitB K.st 1 := ⟨_, rfl⟩
  obtain ⟨hd, hhd⟩ : ∃ x, x = S1.headN K.st := ⟨_, rfl⟩
  have HHD : Hid (S1.isHead hd) := Lib.hid (by rw [hhd]; exact S1.head_is _)
  rw [← hb0, ← hb1, ← hhd] at HAS
  have HT := Lib.hid (And.intro hb0 (And.intro hb1 hhd))
  clear hb0 hb1 hhd
  have c3 := h.b3
  have HW := Lib.hid h
  have HOK := Lib.hid ok; have HLN := Lib.hid hl
  clear h ok hl
  go_enter Tryz.func13, Tryz.ntmps13
  go_upto_region 1 with (go_at_call 47; refine (HAS.out _).mono ?_; rintro e w1 ⟨rfl, hb1⟩)
  have h1 := (HW.out.new hb1).pushB (.cells #[.bool b0, .bool b1, .int .i64 hd] 134)
  generalize w1.alloc (.cells #[.bool b0, .bool b1, .int .i64 hd] 134) = w2 at *
  generalize w1.heap.size = Q at *
  have c0 : w2.cell? ⟨B, 0, none⟩ = some (.int .i64 4) := by have := h1.b0; rw [HLN.out] at this; exact this
  clear c3 HAS hb1 HW
  have e1 : wrap64 (2 * (K.t : Int)) = 2 * (K.t : Int) := by have := HOK.out.t; unfold wrap64; omega
  have e2 : wrap64 (2 * (K.t : Int) + 1) = ((2 * K.t + 1 : Nat) : Int) := by have := HOK.out.t; unfold wrap64; omega
  have hc := h1.pg.prep HOK.out.pn (i := 2 * K.t + 1) (by have := HOK.out.t; omega)
  have HC := Lib.hid hc
  have c1 := h1.b1
  have HJ3 := Lib.hid h1.hj
  have HNH : Hid (S5.Num hd (hdO K.st)) := Lib.hid (by rw [HT.out.2.2]; exact num_head K.st)
  clear hc h1
  go_upto_region 18 with (go_at_call 53; refine HC.out.mono ?_; rintro e w3 ⟨rfl, Y3, h3g⟩)
  have h3 : Wr w0 w3 base RB (M.prep (2 * K.t + 1)) l (r ++ [blockP Q (.cells #[.bool b0, .bool b1, .int .i64 hd] 134)]) j B K Y3 := ⟨h3g, HJ3.out⟩
  have hl3 := h3.last HJ.out
  have k2 := cell_row hl3 2
  simp only [List.getElem?_toArray, List.getElem?_cons_zero, List.getElem?_cons_succ] at k2
  have c1 := h3.b1
  have HPU : Hid (Calls Tryz.prog 54 #[Pw RB, .int .i64 (K.t : Int), .int .i64 hd] w3.drew fun e w' => e = .returned (.tuple #[]) ∧ ∃ Y', Wr w0 w' base RB ((M.prep (2 * K.t + 1)).link (S5.pushS M.lk (some K.t) (hdO K.st))) l (r ++ [blockP Q (.cells #[.bool b0, .bool b1, .int .i64 hd] 134)]) j B K Y') := Lib.hid (by
    have hd3 := h3.new (Below.refl _ _).drew
    refine (hd3.pg.push (S5.nm K.t HOK.out.t) HNH.out).mono ?_
    rintro e w' ⟨rfl, Y', h'⟩
    exact ⟨rfl, Y', h', hd3.hj⟩)
  clear h3 h3g hl3 c0 HC e1 e2
  refine wp_region_held_drew (S := fun w' => w'.cell? ⟨B, 1, none⟩ = some (.int .i64 (K.t : Int)) ∧ w'.cell? ⟨Q, 2, none⟩ = some (.int .i64 hd)) (by kernel_rfl) ?_ (fun hHeld => ?_)
  · exact ⟨c1, k2⟩
  refine tA 0 ⟨some 90, .move (.tmp 1), 34, "ref.go:63", #[], none⟩ ?vem1 ?rem1
  (try simp only [Act.put, tC, tD, tE])
  refine tA 1 ⟨some 91, .move (.tmp 0), 47, "ref.go:63", #[], none⟩ ?vem2 ?rem2
  (try simp only [Act.put, tC, tD, tE])
  refine tA 2 ⟨some 92, .nilCheck (.tmp 91), 0, "ref.go:63", #[⟨1, .data⟩], none⟩ ?vem3 ?rem3
  (try simp only [Act.put, tC, tD, tE])
  refine tA 3 ⟨some 93, .fieldAddr 58 (.tmp 92) 1, 0, "ref.go:63", #[⟨2, .data⟩], none⟩ ?vem4 ?rem4
  (try simp only [Act.put, tC, tD, tE])
  refine tA 4 ⟨some 94, .load 3 (.tmp 93), 3, "ref.go:63", #[⟨3, .data⟩], none⟩ ?vem5 ?rem5
  (try simp only [Act.put, tC, tD, tE])
  refine tA 5 ⟨some 95, .fieldAddr 134 (.tmp 4) 2, 0, "ref.go:63", #[], none⟩ ?vem6 ?rem6
  (try simp only [Act.put, tC, tD, tE])
  refine tA 6 ⟨some 96, .load 3 (.tmp 95), 3, "ref.go:63", #[⟨5, .data⟩], none⟩ ?vem7 ?rem7
  (try simp only [Act.put, tC, tD, tE])
  refine wpAnyH_ready (rs := [7]) (by kernel_rfl) (by simp) ?_
  refine AllReadyH.cons (o := ⟨some 97, .call ⟨.value (.func 54), #[.tmp 90, .tmp 94, .tmp 96], #[34, 3, 3]⟩, 0, "ref.go:63", #[⟨0, .data⟩, ⟨4, .data⟩, ⟨6, .data⟩], none⟩) rfl (fun Kq hKq => ?_) AllReadyH.nil
  go_simp
  (refine HPU.out.mono ?_; rintro e w5 ⟨rfl, Y5, h5⟩)
  refine hKq.out _ _ ?_ (fun hHeld => ?_)
  · (have hq := h5.last HJ.out; exact ⟨h5.b1, cell_row hq 2⟩)
  clear hKq Kq
  (try simp only [Act.put, tC, tD, tE])
  refine wpAnyH_done (by kernel_rfl) ?_ _
  have c0 := h5.b0; have z0 := h5.fz 0
  have H5 := Lib.hid h5
  clear h5 hHeld c1 k2 HPU
  go_wp2_with fail
  go_end0
  exact ⟨rfl, Y5, (H5.out.ln 5).dropB HJ.out⟩
theorem rstep5 (h : Wr w0 w base RB M l r j B K Y) (ok : LkOk M K) (hl : K.ln = 5) : Calls Tryz.prog 13 #[Pw B, Pw RB] w fun e w' => e = .returned (.tuple #[]) ∧ SteppedR w0 w' base RB M l r j B K := by
  unfold SteppedR
  rw [show stepM M K = _ from by simp only [stepM, hl]; rfl, show stepK M K = _ from by simp only [stepK, hl]; rfl]
  have HJ := Lib.hid h.hj
  have HLK := Lib.hid h.look
  have HAS := Lib.hid (fun W => S1.ras_any K.st ok.st W)
  unfold S1.asV at HAS
  obtain ⟨b0, hb0⟩ : ∃ x, x = S1.bitB K.st 0 := ⟨_, rfl⟩
  obtain ⟨b1, hb1⟩ : ∃ x, x = S1.bitB K.st 1 := ⟨_, rfl⟩
  obtain ⟨hd, hhd⟩ : ∃ x, x = S1.headN K.st := ⟨_, rfl⟩
  have HHD : Hid (S1.isHead hd) := Lib.hid (by rw [hhd]; exact S1.head_is _)
  obtain ⟨x, hx⟩ : ∃ x, x = S2.look M.L K.a := ⟨_, rfl⟩
  rw [← hx]
  have HX : Hid (x < 18446744073709551616) := Lib.hid (by rw [hx]; exact HLK.out K.a)
  have HXE := Lib.hid hx
  clear hx
  obtain ⟨pu, hpu⟩ : ∃ x, x = S1.putU (S1.bitB K.st 0) (S1.bitB K.st 1) K.t := ⟨_, rfl⟩
  have HPL : Hid (pu < 18446744073709551616) := Lib.hid (by rw [hpu]; exact S1.putU_lt _ _ _)
  have HPT : Hid (∀ W, Calls Tryz.prog 51 #[.agg #[.bool b0, .bool b1, .int .i64 (K.t : Int)]] W fun e w' => e = .returned (.int .u64 (pu : Int)) ∧ Below W.heap.size W w') := Lib.hid (fun W => by rw [hpu, ← hb0, ← hb1]; exact S1.rputU_any b0 b1 (K.t : Int) (by unfold S1.isHead; have := ok.t; omega) W)
  rw [← hpu]
  clear hpu
  rw [← hb0, ← hb1, ← hhd] at HAS
  have HT := Lib.hid (And.intro hb0 (And.intro hb1 hhd))
  clear hb0 hb1 hhd
  have c3 := h.b3
  have HW := Lib.hid h
  have HOK := Lib.hid ok; have HLN := Lib.hid hl
  clear h ok hl
  go_enter Tryz.func13, Tryz.ntmps13
  go_upto_region 1 with (go_at_call 47; refine (HAS.out _).mono ?_; rintro e w1 ⟨rfl, hb1⟩)
  have h1 := (HW.out.new hb1).pushB (.cells #[.bool b0, .bool b1, .int .i64 hd] 134)
  generalize w1.alloc (.cells #[.bool b0, .bool b1, .int .i64 hd] 134) = w2 at *
  generalize w1.heap.size = Q at *
  have c0 : w2.cell? ⟨B, 0, none⟩ = some (.int .i64 5) := by have := h1.b0; rw [HLN.out] at this; exact this
  clear c3 HAS hb1 HW
  have hl1 := h1.last HJ.out
  have x0 := cell_row hl1 2; have xz := froz_row hl1 2
  simp only [List.getElem?_toArray, List.getElem?_cons_zero, List.getElem?_cons_succ] at x0
  have h3 := h1.turnLast HJ.out (.cells #[.bool b0, .bool b1, .int .i64 (K.t : Int)] 134) (set_blk hl1 2 (.int .i64 (K.t : Int)) _ (by simp)) ((Turns.refl (fun k => k = Q) w2).setCell ⟨Q, 2, none⟩ _ rfl)
  have c1 := h1.b1
  clear h1 hl1
  go_upto_region 22 with (fail)
  generalize w2.setCell ⟨Q, 2, none⟩ (.int .i64 (K.t : Int)) = w3 at *
  have hl3 := h3.last HJ.out
  have k0 := cell_row hl3 0; have k1 := cell_row hl3 1; have k2 := cell_row hl3 2
  simp only [List.getElem?_toArray, List.getElem?_cons_zero, List.getElem?_cons_succ] at k0 k1 k2
  have c2 := h3.b2; have c3 := h3.b3
  have HCC : Hid (∀ W, Wr w0 W base RB M l (r ++ [blockP Q (.cells #[.bool b0, .bool b1, .int .i64 (K.t : Int)] 134)]) j B K Y → Calls Tryz.prog 49 #[Pw RB, .int .u32 (K.a : Int), .int .u64 (K.st : Int), .int .u64 (pu : Int)] W fun e w' => e = .returned (.tuple #[.int .u64 (x : Int), .bool (decide (x = K.st))]) ∧ ∃ Y', Wr w0 w' base RB (M.acc 3 K.a (S2.casV x K.st pu)) l (r ++ [blockP Q (.cells #[.bool b0, .bool b1, .int .i64 (K.t : Int)] 134)]) j B K Y') := Lib.hid (fun W hW => by
    have := hW.pg.cas HOK.out.a (u := K.st) (v := pu) HPL.out HOK.out.n
    rw [← HXE.out] at this
    refine this.mono ?_
    rintro e w' ⟨rfl, Y', h'⟩
    exact ⟨rfl, Y', h', hW.hj⟩)
  have H3 := Lib.hid h3
  have HSP : Hid (K.sp ≤ 9223372036854775807) := Lib.hid (by have := HOK.out.sp; omega)
  clear h3 hl3 x0 xz c0
  refine wp_region_held_drew (S := fun w' => w'.cell? ⟨B, 2, none⟩ = some (.int .u32 (K.a : Int)) ∧ w'.cell? ⟨B, 3, none⟩ = some (.int .u64 (K.st : Int)) ∧ w'.cell? ⟨Q, 0, none⟩ = some (.bool b0) ∧ w'.cell? ⟨Q, 1, none⟩ = some (.bool b1) ∧ w'.cell? ⟨Q, 2, none⟩ = some (.int .i64 (K.t : Int))) (by kernel_rfl) ?_ (fun hHeld => ?_)
  · exact ⟨c2, c3, k0, k1, k2⟩
  refine tA 0 ⟨some 109, .move (.tmp 1), 34, "ref.go:67", #[], none⟩ ?vd22m1 ?rd22m1
  (try simp only [Act.put, tC, tD, tE])
  refine tA 1 ⟨some 110, .move (.tmp 0), 47, "ref.go:67", #[], none⟩ ?vd22m2 ?rd22m2
  (try simp only [Act.put, tC, tD, tE])
  refine tA 2 ⟨some 111, .nilCheck (.tmp 110), 0, "ref.go:67", #[⟨1, .data⟩], none⟩ ?vd22m3 ?rd22m3
  (try simp only [Act.put, tC, tD, tE])
  refine tA 3 ⟨some 112, .fieldAddr 58 (.tmp 111) 2, 0, "ref.go:67", #[⟨2, .data⟩], none⟩ ?vd22m4 ?rd22m4
  (try simp only [Act.put, tC, tD, tE])
  refine tA 4 ⟨some 113, .load 40 (.tmp 112), 40, "ref.go:67", #[⟨3, .data⟩], none⟩ ?vd22m5 ?rd22m5
  (try simp only [Act.put, tC, tD, tE])
  refine tA 5 ⟨some 114, .move (.tmp 0), 47, "ref.go:67", #[], none⟩ ?vd22m6 ?rd22m6
  (try simp only [Act.put, tC, tD, tE])
  refine tA 6 ⟨some 115, .nilCheck (.tmp 114), 0, "ref.go:67", #[⟨5, .data⟩], none⟩ ?vd22m7 ?rd22m7
  (try simp only [Act.put, tC, tD, tE])
  refine tA 7 ⟨some 116, .fieldAddr 58 (.tmp 115) 3, 0, "ref.go:67", #[⟨6, .data⟩], none⟩ ?vd22m8 ?rd22m8
  (try simp only [Act.put, tC, tD, tE])
  refine tA 8 ⟨some 117, .load 22 (.tmp 116), 22, "ref.go:67", #[⟨7, .data⟩], none⟩ ?vd22m9 ?rd22m9
  (try simp only [Act.put, tC, tD, tE])
  refine tA 9 ⟨some 118, .load 134 (.tmp 4), 134, "ref.go:67", #[], none⟩ ?vd22m10 ?rd22m10
  (try simp only [Act.put, tC, tD, tE])
  refine wpAnyH_ready (rs := [10]) (by kernel_rfl) (by simp) ?_
  refine AllReadyH.cons (o := ⟨some 119, .call ⟨.value (.func 51), #[.tmp 118], #[134]⟩, 22, "ref.go:67", #[⟨9, .data⟩], none⟩) rfl (fun Kq hKq => ?_) AllReadyH.nil
  go_simp
  (refine (HPT.out _).mono ?_; rintro e w4 ⟨rfl, hb4⟩; (have HCX := Lib.hid (HCC.out w4 ((H3.out.new (Below.refl _ _).drew).new hb4))))
  refine hKq.out _ _ ?_ (fun hHeld => ?_)
  · exact ⟨bcell hb4 hHeld.1, bcell hb4 hHeld.2.1, bcell hb4 hHeld.2.2.1, bcell hb4 hHeld.2.2.2.1, bcell hb4 hHeld.2.2.2.2⟩
  clear hKq Kq
  (try simp only [Act.put, tC, tD, tE])
  refine wpAnyH_ready (rs := [11]) (by kernel_rfl) (by simp) ?_
  refine AllReadyH.cons (o := ⟨some 120, .call ⟨.value (.func 49), #[.tmp 109, .tmp 113, .tmp 117, .tmp 119], #[34, 40, 22, 22]⟩, 136, "ref.go:67", #[⟨0, .data⟩, ⟨4, .data⟩, ⟨8, .data⟩, ⟨10, .data⟩, ⟨10, .chain⟩], none⟩) rfl (fun Kq hKq => ?_) AllReadyH.nil
  go_simp
  (refine HCX.out.mono ?_; rintro e w5 ⟨rfl, Y5, h5⟩)
  refine hKq.out _ _ ?_ (fun hHeld => ?_)
  · (have hq := h5.last HJ.out; exact ⟨h5.b2, h5.b3, cell_row hq 0, cell_row hq 1, cell_row hq 2⟩)
  clear hKq Kq
  (try simp only [Act.put, tC, tD, tE])
  refine tA 12 ⟨some 108, .move (.tmp 120), 136, "ref.go:67", #[⟨11, .data⟩], none⟩ ?vd22m11 ?rd22m11
  (try simp only [Act.put, tC, tD, tE])
  refine tA 13 ⟨some 121, .extract (.tmp 108) 0, 22, "ref.go:67", #[⟨12, .data⟩], none⟩ ?vd22m12 ?rd22m12
  (try simp only [Act.put, tC, tD, tE])
  refine tA 14 ⟨some 122, .extract (.tmp 108) 1, 4, "ref.go:67", #[⟨12, .data⟩, ⟨15, .gcOnly .lateStores⟩], none⟩ ?vd22m13 ?rd22m13
  (try simp only [Act.put, tC, tD, tE])
  refine tA 15 ⟨some 9, .assign (.tmp 121), 22, "ref.go:67", #[⟨13, .data⟩, ⟨11, .chain⟩, ⟨0, .phase⟩, ⟨1, .phase⟩, ⟨2, .phase⟩, ⟨3, .phase⟩, ⟨4, .phase⟩, ⟨5, .phase⟩, ⟨6, .phase⟩, ⟨7, .phase⟩, ⟨8, .phase⟩, ⟨9, .phase⟩, ⟨10, .phase⟩, ⟨11, .phase⟩, ⟨12, .phase⟩, ⟨13, .phase⟩, ⟨14, .textOnly .lateStores⟩], none⟩ ?vd22m14 ?rd22m14
  (try simp only [Act.put, tC, tD, tE])
  refine tA 16 ⟨some 10, .assign (.tmp 122), 4, "ref.go:67", #[⟨14, .data⟩, ⟨15, .chain⟩, ⟨0, .phase⟩, ⟨1, .phase⟩, ⟨2, .phase⟩, ⟨3, .phase⟩, ⟨4, .phase⟩, ⟨5, .phase⟩, ⟨6, .phase⟩, ⟨7, .phase⟩, ⟨8, .phase⟩, ⟨9, .phase⟩, ⟨10, .phase⟩, ⟨11, .phase⟩, ⟨12, .phase⟩, ⟨13, .phase⟩, ⟨14, .phase⟩, ⟨15, .phase⟩], none⟩ ?vd22m15 ?rd22m15
  (try simp only [Act.put, tC, tD, tE])
  refine wpAnyH_done (by kernel_rfl) ?_ _
  have c0 := h5.b0; have z0 := h5.fz 0
  have H5 := Lib.hid h5
  clear h5 hHeld c2 c3 k0 k1 k2 HPT HCC HCX
  by_cases e : x = K.st
  · have hd1 : decide (x = K.st) = true := decide_eq_true e
    rw [hd1]
    have HK := Lib.hid (show K.cas x K.st { K with ln := 6 } = { K with ln := 6 } from if_pos e)
    clear hd1 e
    go_wp2_with fail
    go_end0
    exact ⟨rfl, Y5, by rw [HK.out]; exact (H5.out.ln 6).dropB HJ.out⟩
  · have hd1 : decide (x = K.st) = false := decide_eq_false e
    rw [hd1]
    have HK := Lib.hid (show K.cas x K.st { K with ln := 6 } = ({ K with ln := 6 } : Lk).turn x from (if_neg e).trans (turn_ln _ 6 x).symm)
    have HTN := Lib.hid (turn_r (H5.out.ln 6) HSP.out HX.out)
    clear hd1 e
    go_upto_region 24 with (fail)
    generalize w5.setCell ⟨B, 0, none⟩ (.int .i64 6) = w6 at *
    clear c0 z0
    go_wp2_with (go_at_call 50; refine HTN.out.mono ?_; rintro e w7 ⟨rfl, h7⟩)
    go_end0
    exact ⟨rfl, Y5, by rw [HK.out]; exact h7.dropB HJ.out⟩
theorem rstep2 (h : Wr w0 w base RB M l r j B K Y) (ok : LkOk M K) (hl : K.ln = 2) : Calls Tryz.prog 13 #[Pw B, Pw RB] w fun e w' => e = .returned (.tuple #[]) ∧ SteppedR w0 w' base RB M l r j B K := by
  unfold SteppedR
  rw [show stepM M K = _ from by simp only [stepM, hl]; rfl, show stepK M K = _ from by simp only [stepK, hl]; rfl]
  have HJ := Lib.hid h.hj
  have HLK := Lib.hid h.look
  have HAS := Lib.hid (fun W => S1.ras_any K.st ok.st W)
  unfold S1.asV at HAS
  obtain ⟨b0, hb0⟩ : ∃ x, x = S1.bitB K.st 0 := ⟨_, rfl⟩
  obtain ⟨b1, hb1⟩ : ∃ x, x = S1.bitB K.st 1 := ⟨_, rfl⟩
  obtain ⟨hd, hhd⟩ : ∃ x, x = S1.headN K.st := ⟨_, rfl⟩
  have HHD : Hid (S1.isHead hd) := Lib.hid (by rw [hhd]; exact S1.head_is _)
  obtain ⟨x, hx⟩ : ∃ x, x = S2.look M.L K.a := ⟨_, rfl⟩
  rw [← hx]
  have HX : Hid (x < 18446744073709551616) := Lib.hid (by rw [hx]; exact HLK.out K.a)
  have HXE := Lib.hid hx
  clear hx
  obtain ⟨pu, hpu⟩ : ∃ x, x = S1.putU true (S1.bitB K.st 1) (S1.headN K.st) := ⟨_, rfl⟩
  have HPL : Hid (pu < 18446744073709551616) := Lib.hid (by rw [hpu]; exact S1.putU_lt _ _ _)
  have HPT : Hid (∀ W, Calls Tryz.prog 51 #[.agg #[.bool true, .bool b1, .int .i64 hd]] W fun e w' => e = .returned (.int .u64 (pu : Int)) ∧ Below W.heap.size W w') := Lib.hid (fun W => by rw [hpu, ← hb1, ← hhd]; exact S1.rputU_any true b1 hd HHD.out W)
  rw [← hpu]
  clear hpu
  rw [← hb0, ← hb1, ← hhd] at HAS
  have HT := Lib.hid (And.intro hb0 (And.intro hb1 hhd))
  clear hb0 hb1 hhd
  have c3 := h.b3
  have HW := Lib.hid h
  have HOK := Lib.hid ok; have HLN := Lib.hid hl
  clear h ok hl
  go_enter Tryz.func13, Tryz.ntmps13
  go_upto_region 1 with (go_at_call 47; refine (HAS.out _).mono ?_; rintro e w1 ⟨rfl, hb1⟩)
  have h1 := (HW.out.new hb1).pushB (.cells #[.bool b0, .bool b1, .int .i64 hd] 134)
  generalize w1.alloc (.cells #[.bool b0, .bool b1, .int .i64 hd] 134) = w2 at *
  generalize w1.heap.size = Q at *
  have c0 : w2.cell? ⟨B, 0, none⟩ = some (.int .i64 2) := by have := h1.b0; rw [HLN.out] at this; exact this
  clear c3 HAS hb1 HW
  have hl1 := h1.last HJ.out
  have x0 := cell_row hl1 0; have xz := froz_row hl1 0
  simp only [List.getElem?_toArray, List.getElem?_cons_zero, List.getElem?_cons_succ] at x0
  have h3 := h1.turnLast HJ.out (.cells #[.bool true, .bool b1, .int .i64 hd] 134) (set_blk hl1 0 (.bool true) _ (by simp)) ((Turns.refl (fun k => k = Q) w2).setCell ⟨Q, 0, none⟩ _ rfl)
  clear h1 hl1
  go_upto_region 10 with (fail)
  generalize w2.setCell ⟨Q, 0, none⟩ (.bool true) = w3 at *
  have hl3 := h3.last HJ.out
  have k0 := cell_row hl3 0; have k1 := cell_row hl3 1; have k2 := cell_row hl3 2
  simp only [List.getElem?_toArray, List.getElem?_cons_zero, List.getElem?_cons_succ] at k0 k1 k2
  have c2 := h3.b2; have c3 := h3.b3
  have HCC : Hid (∀ W, Wr w0 W base RB M l (r ++ [blockP Q (.cells #[.bool true, .bool b1, .int .i64 hd] 134)]) j B K Y → Calls Tryz.prog 49 #[Pw RB, .int .u32 (K.a : Int), .int .u64 (K.st : Int), .int .u64 (pu : Int)] W fun e w' => e = .returned (.tuple #[.int .u64 (x : Int), .bool (decide (x = K.st))]) ∧ ∃ Y', Wr w0 w' base RB (M.acc 3 K.a (S2.casV x K.st pu)) l (r ++ [blockP Q (.cells #[.bool true, .bool b1, .int .i64 hd] 134)]) j B K Y') := Lib.hid (fun W hW => by
    have := hW.pg.cas HOK.out.a (u := K.st) (v := pu) HPL.out HOK.out.n
    rw [← HXE.out] at this
    refine this.mono ?_
    rintro e w' ⟨rfl, Y', h'⟩
    exact ⟨rfl, Y', h', hW.hj⟩)
  have H3 := Lib.hid h3
  have HSP : Hid (K.sp ≤ 9223372036854775807) := Lib.hid (by have := HOK.out.sp; omega)
  clear h3 hl3 x0 xz c0
  refine wp_region_held_drew (S := fun w' => w'.cell? ⟨B, 2, none⟩ = some (.int .u32 (K.a : Int)) ∧ w'.cell? ⟨B, 3, none⟩ = some (.int .u64 (K.st : Int)) ∧ w'.cell? ⟨Q, 0, none⟩ = some (.bool true) ∧ w'.cell? ⟨Q, 1, none⟩ = some (.bool b1) ∧ w'.cell? ⟨Q, 2, none⟩ = some (.int .i64 hd)) (by kernel_rfl) ?_ (fun hHeld => ?_)
  · exact ⟨c2, c3, k0, k1, k2⟩
  refine tA 0 ⟨some 48, .move (.tmp 1), 34, "ref.go:54", #[], none⟩ ?vd10m1 ?rd10m1
  (try simp only [Act.put, tC, tD, tE])
  refine tA 1 ⟨some 49, .move (.tmp 0), 47, "ref.go:54", #[], none⟩ ?vd10m2 ?rd10m2
  (try simp only [Act.put, tC, tD, tE])
  refine tA 2 ⟨some 50, .nilCheck (.tmp 49), 0, "ref.go:54", #[⟨1, .data⟩], none⟩ ?vd10m3 ?rd10m3
  (try simp only [Act.put, tC, tD, tE])
  refine tA 3 ⟨some 51, .fieldAddr 58 (.tmp 50) 2, 0, "ref.go:54", #[⟨2, .data⟩], none⟩ ?vd10m4 ?rd10m4
  (try simp only [Act.put, tC, tD, tE])
  refine tA 4 ⟨some 52, .load 40 (.tmp 51), 40, "ref.go:54", #[⟨3, .data⟩], none⟩ ?vd10m5 ?rd10m5
  (try simp only [Act.put, tC, tD, tE])
  refine tA 5 ⟨some 53, .move (.tmp 0), 47, "ref.go:54", #[], none⟩ ?vd10m6 ?rd10m6
  (try simp only [Act.put, tC, tD, tE])
  refine tA 6 ⟨some 54, .nilCheck (.tmp 53), 0, "ref.go:54", #[⟨5, .data⟩], none⟩ ?vd10m7 ?rd10m7
  (try simp only [Act.put, tC, tD, tE])
  refine tA 7 ⟨some 55, .fieldAddr 58 (.tmp 54) 3, 0, "ref.go:54", #[⟨6, .data⟩], none⟩ ?vd10m8 ?rd10m8
  (try simp only [Act.put, tC, tD, tE])
  refine tA 8 ⟨some 56, .load 22 (.tmp 55), 22, "ref.go:54", #[⟨7, .data⟩], none⟩ ?vd10m9 ?rd10m9
  (try simp only [Act.put, tC, tD, tE])
  refine tA 9 ⟨some 57, .load 134 (.tmp 4), 134, "ref.go:54", #[], none⟩ ?vd10m10 ?rd10m10
  (try simp only [Act.put, tC, tD, tE])
  refine wpAnyH_ready (rs := [10]) (by kernel_rfl) (by simp) ?_
  refine AllReadyH.cons (o := ⟨some 58, .call ⟨.value (.func 51), #[.tmp 57], #[134]⟩, 22, "ref.go:54", #[⟨9, .data⟩], none⟩) rfl (fun Kq hKq => ?_) AllReadyH.nil
  go_simp
  (refine (HPT.out _).mono ?_; rintro e w4 ⟨rfl, hb4⟩; (have HCX := Lib.hid (HCC.out w4 ((H3.out.new (Below.refl _ _).drew).new hb4))))
  refine hKq.out _ _ ?_ (fun hHeld => ?_)
  · exact ⟨bcell hb4 hHeld.1, bcell hb4 hHeld.2.1, bcell hb4 hHeld.2.2.1, bcell hb4 hHeld.2.2.2.1, bcell hb4 hHeld.2.2.2.2⟩
  clear hKq Kq
  (try simp only [Act.put, tC, tD, tE])
  refine wpAnyH_ready (rs := [11]) (by kernel_rfl) (by simp) ?_
  refine AllReadyH.cons (o := ⟨some 59, .call ⟨.value (.func 49), #[.tmp 48, .tmp 52, .tmp 56, .tmp 58], #[34, 40, 22, 22]⟩, 136, "ref.go:54", #[⟨0, .data⟩, ⟨4, .data⟩, ⟨8, .data⟩, ⟨10, .data⟩, ⟨10, .chain⟩], none⟩) rfl (fun Kq hKq => ?_) AllReadyH.nil
  go_simp
  (refine HCX.out.mono ?_; rintro e w5 ⟨rfl, Y5, h5⟩)
  refine hKq.out _ _ ?_ (fun hHeld => ?_)
  · (have hq := h5.last HJ.out; exact ⟨h5.b2, h5.b3, cell_row hq 0, cell_row hq 1, cell_row hq 2⟩)
  clear hKq Kq
  (try simp only [Act.put, tC, tD, tE])
  refine tA 12 ⟨some 47, .move (.tmp 59), 136, "ref.go:54", #[⟨11, .data⟩], none⟩ ?vd10m11 ?rd10m11
  (try simp only [Act.put, tC, tD, tE])
  refine tA 13 ⟨some 60, .extract (.tmp 47) 0, 22, "ref.go:54", #[⟨12, .data⟩], none⟩ ?vd10m12 ?rd10m12
  (try simp only [Act.put, tC, tD, tE])
  refine tA 14 ⟨some 61, .extract (.tmp 47) 1, 4, "ref.go:54", #[⟨12, .data⟩, ⟨15, .gcOnly .lateStores⟩], none⟩ ?vd10m13 ?rd10m13
  (try simp only [Act.put, tC, tD, tE])
  refine tA 15 ⟨some 7, .assign (.tmp 60), 22, "ref.go:54", #[⟨13, .data⟩, ⟨11, .chain⟩, ⟨0, .phase⟩, ⟨1, .phase⟩, ⟨2, .phase⟩, ⟨3, .phase⟩, ⟨4, .phase⟩, ⟨5, .phase⟩, ⟨6, .phase⟩, ⟨7, .phase⟩, ⟨8, .phase⟩, ⟨9, .phase⟩, ⟨10, .phase⟩, ⟨11, .phase⟩, ⟨12, .phase⟩, ⟨13, .phase⟩, ⟨14, .textOnly .lateStores⟩], none⟩ ?vd10m14 ?rd10m14
  (try simp only [Act.put, tC, tD, tE])
  refine tA 16 ⟨some 8, .assign (.tmp 61), 4, "ref.go:54", #[⟨14, .data⟩, ⟨15, .chain⟩, ⟨0, .phase⟩, ⟨1, .phase⟩, ⟨2, .phase⟩, ⟨3, .phase⟩, ⟨4, .phase⟩, ⟨5, .phase⟩, ⟨6, .phase⟩, ⟨7, .phase⟩, ⟨8, .phase⟩, ⟨9, .phase⟩, ⟨10, .phase⟩, ⟨11, .phase⟩, ⟨12, .phase⟩, ⟨13, .phase⟩, ⟨14, .phase⟩, ⟨15, .phase⟩], none⟩ ?vd10m15 ?rd10m15
  (try simp only [Act.put, tC, tD, tE])
  refine wpAnyH_done (by kernel_rfl) ?_ _
  have c0 := h5.b0; have z0 := h5.fz 0
  have H5 := Lib.hid h5
  clear h5 hHeld c2 c3 k0 k1 k2 HPT HCC HCX
  by_cases e : x = K.st
  · have hd1 : decide (x = K.st) = true := decide_eq_true e
    rw [hd1]
    have HK := Lib.hid (show K.cas x K.st { K with ln := 0 } = { K with ln := 0 } from if_pos e)
    clear hd1 e
    go_wp2_with fail
    go_end0
    exact ⟨rfl, Y5, by rw [HK.out]; exact (H5.out.ln 0).dropB HJ.out⟩
  · have hd1 : decide (x = K.st) = false := decide_eq_false e
    rw [hd1]
    have HK := Lib.hid (show K.cas x K.st { K with ln := 0 } = ({ K with ln := 0 } : Lk).turn x from (if_neg e).trans (turn_ln _ 0 x).symm)
    have HTN := Lib.hid (turn_r (H5.out.ln 0) HSP.out HX.out)
    clear hd1 e
    go_upto_region 12 with (fail)
    generalize w5.setCell ⟨B, 0, none⟩ (.int .i64 0) = w6 at *
    clear c0 z0
    go_wp2_with (go_at_call 50; refine HTN.out.mono ?_; rintro e w7 ⟨rfl, h7⟩)
    go_end0
    exact ⟨rfl, Y5, by rw [HK.out]; exact h7.dropB HJ.out⟩
theorem step_r (h : Wr w0 w base RB M l r j B K Y) (ok : LkOk M K) (h6 : K.ln ≤ 6) (hby : S2.Byt M.L) : Calls Tryz.prog 13 #[Pw B, Pw RB] w fun e w' => e = .returned (.tuple #[]) ∧ SteppedR w0 w' base RB M l r j B K := by
  have hk : K.ln = 0 ∨ K.ln = 1 ∨ K.ln = 2 ∨ K.ln = 3 ∨ K.ln = 4 ∨ K.ln = 5 ∨ K.ln = 6 := by omega
  rcases hk with hk | hk | hk | hk | hk | hk | hk
  · exact rstep0 h ok hk
  · exact rstep1 h ok hk
  · exact rstep2 h ok hk
  · exact rstep3 h ok hk hby
  · exact rstep4 h ok hk
  · exact rstep5 h ok hk
  · exact rstep6 h ok hk
end
end Go.Proofs.YtlflagjnlclffaaGreat.S13
namespace Go.Proofs.YtlflagjnlclffaaGreat.S13
set_option maxRecDepth 100000
set_option maxHeartbeats 16000000
open Go.Proofs.YtlflagjnlclffaaGreat Go.Proofs.YtlflagjnlclffaaGreat.S11 Go.Proofs.YtlflagjnlclffaaGreat.S12
open Go.RowKit
section
variable {w0 w w' : World} {base WB : Nat} {M : Sd} {r : List Part} {j B : Nat} {K : Lk} {X : Wm}
theorem Wl.turnLast {Q : Nat} {ob : Obj} (h : Wl w0 w base WB M (r ++ [blockP Q ob]) j B K X) (hj : j < r.length) (ob' : Obj) (hq : w'.heap[Q]? = some ob') (t : Turns (fun k => k = Q) w w') : Wl w0 w' base WB M (r ++ [blockP Q ob']) j B K X := by
  have e : ∀ q : Part, (r ++ [q]).set j (lockP B K) = r.set j (lockP B K) ++ [q] := fun q => List.set_append_left _ _ hj
  have hi : ((r ++ [blockP Q ob]).set j (lockP B K))[r.length]? = some (blockP Q ob) := by
    rw [e, List.getElem?_append_right (by rw [List.length_set]; exact Nat.le_refl _), List.length_set, Nat.sub_self]; rfl
  have := h.pg.turn hi (blockP Q ob') hq t (fun k e => .inl e)
  rw [e, List.set_append_right _ _ (by rw [List.length_set]; exact Nat.le_refl _), List.length_set, Nat.sub_self] at this
  refine ⟨?_, by rw [List.length_append]; simp; omega⟩
  rw [e]
  exact this
theorem take_l (h : Wl w0 w base WB M r j B K X) (ok : LkOk M K) (hl : K.ln = 2) : Calls Tryz.prog 179 #[askV K.t K.a, Pw B, Pw WB] w fun e w' => e = .returned (.tuple #[]) ∧ Stepped w0 w' base WB M r j B K := by
  unfold Stepped
  rw [show stepM M K = _ from by simp only [stepM, hl]; rfl, show stepK M K = _ from by simp only [stepK, hl]; rfl]
  have hj := h.hj
  have hA := h.pushB (.cells #[.int .i64 (K.t : Int), .int .u32 (K.a : Int)] 132)
  have k0 := cell_row (heap_alloc_new w (.cells #[.int .i64 (K.t : Int), .int .u32 (K.a : Int)] 132)) 0; have k1 := cell_row (heap_alloc_new w (.cells #[.int .i64 (K.t : Int), .int .u32 (K.a : Int)] 132)) 1
  simp only [List.getElem?_toArray, List.getElem?_cons_zero, List.getElem?_cons_succ] at k0 k1
  obtain ⟨Q, hQ⟩ : ∃ Q, Q = w.heap.size := ⟨_, rfl⟩
  rw [← hQ] at hA k0 k1
  have HA := Lib.hid hA; have HJ := Lib.hid hj; have HQ := Lib.hid hQ
  obtain ⟨b0, hb0⟩ : ∃ x, x = S1.bitB K.st 0 := ⟨_, rfl⟩
  obtain ⟨b1, hb1⟩ : ∃ x, x = S1.bitB K.st 1 := ⟨_, rfl⟩
  obtain ⟨hd, hhd⟩ : ∃ x, x = S1.headN K.st := ⟨_, rfl⟩
  have HAS : Hid (∀ W, Calls Tryz.prog 134 #[.int .u64 (K.st : Int)] W fun e w' => e = .returned (.agg #[.bool b0, .bool b1, .int .i64 hd]) ∧ Below W.heap.size W w') := Lib.hid (fun W => by
    have := S1.as_any K.st ok.st W
    unfold S1.asV at this
    rw [← hb0, ← hb1, ← hhd] at this
    exact this)
  obtain ⟨x, hx⟩ : ∃ x, x = S2.look M.L K.a := ⟨_, rfl⟩
  obtain ⟨v, hv⟩ : ∃ x, x = S1.putU true (S1.bitB K.st 1) (S1.headN K.st) := ⟨_, rfl⟩
  have hvl : v < 18446744073709551616 := by rw [hv]; exact S1.putU_lt _ _ _
  have hsw : ∀ W r', Wl w0 W base WB M r' j B K X → Calls Tryz.prog 100 #[askV K.t K.a, Pw B, Pw WB, .int .u64 (K.st : Int), .int .u64 (v : Int)] W fun e w' => e = .returned (.bool (decide (x = K.st))) ∧ ∃ X', Wl w0 w' base WB (M.acc 3 K.a (S2.casV x K.st v)) r' j B (K.cas x K.st K) X' := fun W r' hW => by
    rw [hx]
    exact swap_l hW (by omega) (by have := ok.sp; omega) ok.a ok.n hvl
  have HPT : Hid (∀ W, Calls Tryz.prog 101 #[.agg #[Value.bool true, Value.bool b1, Value.int .i64 hd]] W fun e w' => e = .returned (.int .u64 (v : Int)) ∧ Below W.heap.size W w') := Lib.hid (fun W => by
    have := S1.putU_any true b1 hd (by rw [hhd]; exact S1.head_is _) W
    rw [hb1, hhd, ← hv] at this
    rw [hb1, hhd]
    exact this)
  rw [← hv, ← hx]
  have HSWW := Lib.hid hsw
  have H6 : Hid (K.ln ≠ 6) := Lib.hid (by omega)
  clear hsw hx hv hvl ok hl hb0 hb1 hhd
  clear h hj hQ
  go_enter Tryz.func179, Tryz.ntmps179
  go_upto_region 1 with (fail)
  rw [← HQ.out]
  generalize w.alloc (.cells #[.int .i64 (K.t : Int), .int .u32 (K.a : Int)] 132) = w1 at *
  have c1 := HA.out.b1
  clear hA
  go_upto_region 2 with (go_at_call 134; refine (HAS.out _).mono ?_; rintro e w2 ⟨rfl, hb2⟩)
  have h3a := (HA.out.new hb2).pushB (.cells #[Value.bool b0, Value.bool b1, Value.int .i64 hd] 73)
  have HJ2 : Hid (j < (r ++ [blockP Q (.cells #[.int .i64 (K.t : Int), .int .u32 (K.a : Int)] 132)]).length) := Lib.hid (by rw [List.length_append]; have := HJ.out; omega)
  have hn := heap_alloc_new w2 (.cells #[Value.bool b0, Value.bool b1, Value.int .i64 hd] 73)
  have s0 := cell_row hn 0; have s1 := cell_row hn 1; have s2 := cell_row hn 2
  have f0 := froz_row hn 0
  have k0 := bcell (hb2.trans ((below1 w2 (.cells #[Value.bool b0, Value.bool b1, Value.int .i64 hd] 73)).mono hb2.size)) k0; have k1 := bcell (hb2.trans ((below1 w2 (.cells #[Value.bool b0, Value.bool b1, Value.int .i64 hd] 73)).mono hb2.size)) k1
  simp only [List.getElem?_toArray, List.getElem?_cons_zero, List.getElem?_cons_succ] at s0 s1 s2
  obtain ⟨Qs, hQs⟩ : ∃ x, x = w2.heap.size := ⟨_, rfl⟩
  rw [← hQs] at h3a hn s0 s1 s2 f0 ⊢
  have h3 := h3a.turnLast HJ2.out (.cells #[Value.bool true, Value.bool b1, Value.int .i64 hd] 73) (set_blk hn 0 (.bool true) _ (by simp)) ((Turns.refl (fun k => k = Qs) _).setCell ⟨Qs, 0, none⟩ _ rfl)
  have H3 := Lib.hid h3
  clear h3 h3a hQs hn c1
  generalize w2.alloc (.cells #[Value.bool b0, Value.bool b1, Value.int .i64 hd] 73) = w2' at *
  go_upto_region 3 with (fail)
  generalize w2'.setCell ⟨Qs, 0, none⟩ (.bool true) = w3 at *
  have hl2 := H3.out.last HJ2.out
  have hlb := (H3.out.dropB HJ2.out).last HJ.out
  have c1 : w3.drew.cell? ⟨B, 1, none⟩ = some (.int .u64 (K.st : Int)) := H3.out.b1
  have HF : Hid ((fun w' => w'.cell? ⟨Q, 0, none⟩ = some (.int .i64 (K.t : Int)) ∧ w'.cell? ⟨Q, 1, none⟩ = some (.int .u32 (K.a : Int)) ∧ w'.cell? ⟨Qs, 0, none⟩ = some (Value.bool true) ∧ w'.cell? ⟨Qs, 1, none⟩ = some (Value.bool b1) ∧ w'.cell? ⟨Qs, 2, none⟩ = some (Value.int .i64 hd)) w3.drew) := Lib.hid ⟨cell_row hlb 0, cell_row hlb 1, cell_row hl2 0, cell_row hl2 1, cell_row hl2 2⟩
  clear hl2 hlb k0 k1 s0 s1 s2 f0 HAS hb2
  refine wp_region_held_drew (S := fun w' => w'.cell? ⟨Q, 0, none⟩ = some (.int .i64 (K.t : Int)) ∧ w'.cell? ⟨Q, 1, none⟩ = some (.int .u32 (K.a : Int)) ∧ w'.cell? ⟨Qs, 0, none⟩ = some (Value.bool true) ∧ w'.cell? ⟨Qs, 1, none⟩ = some (Value.bool b1) ∧ w'.cell? ⟨Qs, 2, none⟩ = some (Value.int .i64 hd)) (by kernel_rfl) ?_ (fun hHeld => ?_)
  · exact HF.out
  refine tA 0 ⟨some 13, .load 132 (.tmp 3), 132, "wordlocks.go:71", #[], none⟩ ?vtx1 ?rtx1
  (try simp only [Act.put, tC, tD, tE])
  refine tA 1 ⟨some 14, .move (.tmp 1), 45, "wordlocks.go:71", #[], none⟩ ?vtx2 ?rtx2
  (try simp only [Act.put, tC, tD, tE])
  refine tA 2 ⟨some 15, .move (.tmp 2), 33, "wordlocks.go:71", #[], none⟩ ?vtx3 ?rtx3
  (try simp only [Act.put, tC, tD, tE])
  refine tA 3 ⟨some 16, .move (.tmp 1), 45, "wordlocks.go:71", #[], none⟩ ?vtx4 ?rtx4
  (try simp only [Act.put, tC, tD, tE])
  refine tA 4 ⟨some 17, .nilCheck (.tmp 16), 0, "wordlocks.go:71", #[⟨3, .data⟩], none⟩ ?vtx5 ?rtx5
  (try simp only [Act.put, tC, tD, tE])
  refine tA 5 ⟨some 18, .fieldAddr 130 (.tmp 17) 1, 0, "wordlocks.go:71", #[⟨4, .data⟩], none⟩ ?vtx6 ?rtx6
  (try simp only [Act.put, tC, tD, tE])
  refine tA 7 ⟨some 20, .load 73 (.tmp 6), 73, "wordlocks.go:71", #[], none⟩ ?vtx7 ?rtx7
  (try simp only [Act.put, tC, tD, tE])
  refine wpAnyH_ready (rs := [6, 8]) (by kernel_rfl) (by simp) ?_
  refine AllReadyH.cons (o := ⟨some 19, .load 22 (.tmp 18), 22, "wordlocks.go:71", #[⟨5, .data⟩], none⟩) rfl (fun Kq hKq => ?_) ?_
  · go_simp
    refine hKq.out _ _ ?_ (fun hHeld => ?_)
    · exact hHeld
    clear hKq Kq
    (try simp only [Act.put, tC, tD, tE])
    refine wpAnyH_ready (rs := [8]) (by kernel_rfl) (by simp) ?_
    refine AllReadyH.cons (o := ⟨some 21, .call ⟨.value (.func 101), #[.tmp 20], #[73]⟩, 22, "wordlocks.go:71", #[⟨7, .data⟩], none⟩) rfl (fun Kq hKq => ?_) AllReadyH.nil
    go_simp
    (refine (HPT.out _).mono ?_; rintro e w4 ⟨rfl, hb4⟩; have c1 := bcell hb4 c1; have HSW := Lib.hid (HSWW.out w4 _ ((H3.out.new (Below.refl _ _).drew).new hb4)))
    refine hKq.out _ _ ?_ (fun hHeld => ?_)
    · exact ⟨bcell hb4 hHeld.1, bcell hb4 hHeld.2.1, bcell hb4 hHeld.2.2.1, bcell hb4 hHeld.2.2.2.1, bcell hb4 hHeld.2.2.2.2⟩
    clear hKq Kq
    (try simp only [Act.put, tC, tD, tE])
    refine wpAnyH_ready (rs := [9]) (by kernel_rfl) (by simp) ?_
    refine AllReadyH.cons (o := ⟨some 22, .call ⟨.value (.func 100), #[.tmp 13, .tmp 14, .tmp 15, .tmp 19, .tmp 21], #[132, 45, 33, 22, 22]⟩, 4, "wordlocks.go:71", #[⟨0, .data⟩, ⟨1, .data⟩, ⟨2, .data⟩, ⟨6, .data⟩, ⟨8, .data⟩, ⟨8, .chain⟩], none⟩) rfl (fun Kq hKq => ?_) AllReadyH.nil
    go_simp
    (refine HSW.out.mono ?_; rintro e w5 ⟨rfl, X5, h5⟩)
    refine hKq.out _ _ ?_ (fun hHeld => ?_)
    · (have hl := (h5.dropB HJ2.out).last HJ.out; have hl2 := h5.last HJ2.out; exact ⟨cell_row hl 0, cell_row hl 1, cell_row hl2 0, cell_row hl2 1, cell_row hl2 2⟩)
    clear hKq Kq
    (try simp only [Act.put, tC, tD, tE])
    refine wpAnyH_done (by kernel_rfl) ?_ _
    have h7 := (h5.dropB HJ2.out)
    have hl := h7.last HJ.out
    have k0 := cell_row hl 0; have k1 := cell_row hl 1
    simp only [List.getElem?_toArray, List.getElem?_cons_zero, List.getElem?_cons_succ] at k0 k1
    clear hl hHeld c1 h5
    go_upto_if 22 with fail
    by_cases e : x = K.st
    · rw [decide_eq_true e]
      have hk2 : K.cas x K.st K = K := if_pos e
      rw [hk2] at h7
      have c0 := h7.b0; have z0 := h7.fz 0; have c3 := h7.b3; have z3 := h7.fz 3
      have HK := Lib.hid (show K.cas x K.st { K with ln := 0 } = { K with ln := 0 } from if_pos e); have H5 := Lib.hid h7
      clear hk2 e h7 HSW HSWW
      go_wp2_with fail
      go_end0
      exact ⟨rfl, X5, by rw [HK.out]; exact (H5.out.next H6.out 0 (by decide) .nilFunc rfl).dropB HJ.out⟩
    · rw [decide_eq_false e]
      have HK := Lib.hid (show K.cas x K.st { K with ln := 0 } = K.cas x K.st K from (if_neg e).trans (if_neg e).symm); have H5 := Lib.hid h7
      clear e h7 HSW HSWW
      go_wp2_with fail
      go_end0
      exact ⟨rfl, X5, by rw [HK.out]; exact H5.out.dropB HJ.out⟩
  refine AllReadyH.cons (o := ⟨some 21, .call ⟨.value (.func 101), #[.tmp 20], #[73]⟩, 22, "wordlocks.go:71", #[⟨7, .data⟩], none⟩) rfl (fun Kq hKq => ?_) AllReadyH.nil
  go_simp
  (refine (HPT.out _).mono ?_; rintro e w4 ⟨rfl, hb4⟩; have c1 := bcell hb4 c1; have HSW := Lib.hid (HSWW.out w4 _ ((H3.out.new (Below.refl _ _).drew).new hb4)))
  refine hKq.out _ _ ?_ (fun hHeld => ?_)
  · exact ⟨bcell hb4 hHeld.1, bcell hb4 hHeld.2.1, bcell hb4 hHeld.2.2.1, bcell hb4 hHeld.2.2.2.1, bcell hb4 hHeld.2.2.2.2⟩
  clear hKq Kq
  (try simp only [Act.put, tC, tD, tE])
  refine wpAnyH_ready (rs := [6]) (by kernel_rfl) (by simp) ?_
  refine AllReadyH.cons (o := ⟨some 19, .load 22 (.tmp 18), 22, "wordlocks.go:71", #[⟨5, .data⟩], none⟩) rfl (fun Kq hKq => ?_) AllReadyH.nil
  go_simp
  refine hKq.out _ _ ?_ (fun hHeld => ?_)
  · exact hHeld
  clear hKq Kq
  (try simp only [Act.put, tC, tD, tE])
  refine wpAnyH_ready (rs := [9]) (by kernel_rfl) (by simp) ?_
  refine AllReadyH.cons (o := ⟨some 22, .call ⟨.value (.func 100), #[.tmp 13, .tmp 14, .tmp 15, .tmp 19, .tmp 21], #[132, 45, 33, 22, 22]⟩, 4, "wordlocks.go:71", #[⟨0, .data⟩, ⟨1, .data⟩, ⟨2, .data⟩, ⟨6, .data⟩, ⟨8, .data⟩, ⟨8, .chain⟩], none⟩) rfl (fun Kq hKq => ?_) AllReadyH.nil
  go_simp
  (refine HSW.out.mono ?_; rintro e w5 ⟨rfl, X5, h5⟩)
  refine hKq.out _ _ ?_ (fun hHeld => ?_)
  · (have hl := (h5.dropB HJ2.out).last HJ.out; have hl2 := h5.last HJ2.out; exact ⟨cell_row hl 0, cell_row hl 1, cell_row hl2 0, cell_row hl2 1, cell_row hl2 2⟩)
  clear hKq Kq
  (try simp only [Act.put, tC, tD, tE])
  refine wpAnyH_done (by kernel_rfl) ?_ _
  have h7 := (h5.dropB HJ2.out)
  have hl := h7.last HJ.out
  have k0 := cell_row hl 0; have k1 := cell_row hl 1
  simp only [List.getElem?_toArray, List.getElem?_cons_zero, List.getElem?_cons_succ] at k0 k1
  clear hl hHeld c1 h5
  go_upto_if 22 with fail
  by_cases e : x = K.st
  · rw [decide_eq_true e]
    have hk2 : K.cas x K.st K = K := if_pos e
    rw [hk2] at h7
    have c0 := h7.b0; have z0 := h7.fz 0; have c3 := h7.b3; have z3 := h7.fz 3
    have HK := Lib.hid (show K.cas x K.st { K with ln := 0 } = { K with ln := 0 } from if_pos e); have H5 := Lib.hid h7
    clear hk2 e h7 HSW HSWW
    go_wp2_with fail
    go_end0
    exact ⟨rfl, X5, by rw [HK.out]; exact (H5.out.next H6.out 0 (by decide) .nilFunc rfl).dropB HJ.out⟩
  · rw [decide_eq_false e]
    have HK := Lib.hid (show K.cas x K.st { K with ln := 0 } = K.cas x K.st K from (if_neg e).trans (if_neg e).symm); have H5 := Lib.hid h7
    clear e h7 HSW HSWW
    go_wp2_with fail
    go_end0
    exact ⟨rfl, X5, by rw [HK.out]; exact H5.out.dropB HJ.out⟩
theorem queue_l (h : Wl w0 w base WB M r j B K X) (ok : LkOk M K) (hl : K.ln = 5) : Calls Tryz.prog 193 #[askV K.t K.a, Pw B, Pw WB] w fun e w' => e = .returned (.tuple #[]) ∧ Stepped w0 w' base WB M r j B K := by
  unfold Stepped
  rw [show stepM M K = _ from by simp only [stepM, hl]; rfl, show stepK M K = _ from by simp only [stepK, hl]; rfl]
  have hj := h.hj
  have hA := h.pushB (.cells #[.int .i64 (K.t : Int), .int .u32 (K.a : Int)] 132)
  have k0 := cell_row (heap_alloc_new w (.cells #[.int .i64 (K.t : Int), .int .u32 (K.a : Int)] 132)) 0; have k1 := cell_row (heap_alloc_new w (.cells #[.int .i64 (K.t : Int), .int .u32 (K.a : Int)] 132)) 1
  simp only [List.getElem?_toArray, List.getElem?_cons_zero, List.getElem?_cons_succ] at k0 k1
  obtain ⟨Q, hQ⟩ : ∃ Q, Q = w.heap.size := ⟨_, rfl⟩
  rw [← hQ] at hA k0 k1
  have HA := Lib.hid hA; have HJ := Lib.hid hj; have HQ := Lib.hid hQ
  obtain ⟨b0, hb0⟩ : ∃ x, x = S1.bitB K.st 0 := ⟨_, rfl⟩
  obtain ⟨b1, hb1⟩ : ∃ x, x = S1.bitB K.st 1 := ⟨_, rfl⟩
  obtain ⟨hd, hhd⟩ : ∃ x, x = S1.headN K.st := ⟨_, rfl⟩
  have HAS : Hid (∀ W, Calls Tryz.prog 134 #[.int .u64 (K.st : Int)] W fun e w' => e = .returned (.agg #[.bool b0, .bool b1, .int .i64 hd]) ∧ Below W.heap.size W w') := Lib.hid (fun W => by
    have := S1.as_any K.st ok.st W
    unfold S1.asV at this
    rw [← hb0, ← hb1, ← hhd] at this
    exact this)
  obtain ⟨x, hx⟩ : ∃ x, x = S2.look M.L K.a := ⟨_, rfl⟩
  obtain ⟨v, hv⟩ : ∃ x, x = S1.putU (S1.bitB K.st 0) (S1.bitB K.st 1) K.t := ⟨_, rfl⟩
  have hvl : v < 18446744073709551616 := by rw [hv]; exact S1.putU_lt _ _ _
  have hsw : ∀ W r', Wl w0 W base WB M r' j B K X → Calls Tryz.prog 100 #[askV K.t K.a, Pw B, Pw WB, .int .u64 (K.st : Int), .int .u64 (v : Int)] W fun e w' => e = .returned (.bool (decide (x = K.st))) ∧ ∃ X', Wl w0 w' base WB (M.acc 3 K.a (S2.casV x K.st v)) r' j B (K.cas x K.st K) X' := fun W r' hW => by
    rw [hx]
    exact swap_l hW (by omega) (by have := ok.sp; omega) ok.a ok.n hvl
  have HPT : Hid (∀ W, Calls Tryz.prog 101 #[.agg #[Value.bool b0, Value.bool b1, Value.int .i64 (K.t : Int)]] W fun e w' => e = .returned (.int .u64 (v : Int)) ∧ Below W.heap.size W w') := Lib.hid (fun W => by
    have := S1.putU_any b0 b1 (K.t : Int) (by unfold S1.isHead; have := ok.t; omega) W
    rw [hb0, hb1, ← hv] at this
    rw [hb0, hb1]
    exact this)
  rw [← hv, ← hx]
  have HSWW := Lib.hid hsw
  have H6 : Hid (K.ln ≠ 6) := Lib.hid (by omega)
  clear hsw hx hv hvl ok hl hb0 hb1 hhd
  clear h hj hQ
  go_enter Tryz.func193, Tryz.ntmps193
  go_upto_region 1 with (fail)
  rw [← HQ.out]
  generalize w.alloc (.cells #[.int .i64 (K.t : Int), .int .u32 (K.a : Int)] 132) = w1 at *
  have c1 := HA.out.b1
  clear hA
  go_upto_region 2 with (go_at_call 134; refine (HAS.out _).mono ?_; rintro e w2 ⟨rfl, hb2⟩)
  have h3a := (HA.out.new hb2).pushB (.cells #[Value.bool b0, Value.bool b1, Value.int .i64 hd] 73)
  have HJ2 : Hid (j < (r ++ [blockP Q (.cells #[.int .i64 (K.t : Int), .int .u32 (K.a : Int)] 132)]).length) := Lib.hid (by rw [List.length_append]; have := HJ.out; omega)
  have hn := heap_alloc_new w2 (.cells #[Value.bool b0, Value.bool b1, Value.int .i64 hd] 73)
  have s0 := cell_row hn 0; have s1 := cell_row hn 1; have s2 := cell_row hn 2
  have f0 := froz_row hn 2
  have k0 := bcell (hb2.trans ((below1 w2 (.cells #[Value.bool b0, Value.bool b1, Value.int .i64 hd] 73)).mono hb2.size)) k0; have k1 := bcell (hb2.trans ((below1 w2 (.cells #[Value.bool b0, Value.bool b1, Value.int .i64 hd] 73)).mono hb2.size)) k1
  simp only [List.getElem?_toArray, List.getElem?_cons_zero, List.getElem?_cons_succ] at s0 s1 s2
  obtain ⟨Qs, hQs⟩ : ∃ x, x = w2.heap.size := ⟨_, rfl⟩
  rw [← hQs] at h3a hn s0 s1 s2 f0 ⊢
  have h3 := h3a.turnLast HJ2.out (.cells #[Value.bool b0, Value.bool b1, Value.int .i64 (K.t : Int)] 73) (set_blk hn 2 (.int .i64 (K.t : Int)) _ (by simp)) ((Turns.refl (fun k => k = Qs) _).setCell ⟨Qs, 2, none⟩ _ rfl)
  have H3 := Lib.hid h3
  clear h3 h3a hQs hn c1
  generalize w2.alloc (.cells #[Value.bool b0, Value.bool b1, Value.int .i64 hd] 73) = w2' at *
  go_upto_region 3 with (fail)
  generalize w2'.setCell ⟨Qs, 2, none⟩ (.int .i64 (K.t : Int)) = w3 at *
  have hl2 := H3.out.last HJ2.out
  have hlb := (H3.out.dropB HJ2.out).last HJ.out
  have c1 : w3.drew.cell? ⟨B, 1, none⟩ = some (.int .u64 (K.st : Int)) := H3.out.b1
  have HF : Hid ((fun w' => w'.cell? ⟨Q, 0, none⟩ = some (.int .i64 (K.t : Int)) ∧ w'.cell? ⟨Q, 1, none⟩ = some (.int .u32 (K.a : Int)) ∧ w'.cell? ⟨Qs, 0, none⟩ = some (Value.bool b0) ∧ w'.cell? ⟨Qs, 1, none⟩ = some (Value.bool b1) ∧ w'.cell? ⟨Qs, 2, none⟩ = some (Value.int .i64 (K.t : Int))) w3.drew) := Lib.hid ⟨cell_row hlb 0, cell_row hlb 1, cell_row hl2 0, cell_row hl2 1, cell_row hl2 2⟩
  clear hl2 hlb k0 k1 s0 s1 s2 f0 HAS hb2
  refine wp_region_held_drew (S := fun w' => w'.cell? ⟨Q, 0, none⟩ = some (.int .i64 (K.t : Int)) ∧ w'.cell? ⟨Q, 1, none⟩ = some (.int .u32 (K.a : Int)) ∧ w'.cell? ⟨Qs, 0, none⟩ = some (Value.bool b0) ∧ w'.cell? ⟨Qs, 1, none⟩ = some (Value.bool b1) ∧ w'.cell? ⟨Qs, 2, none⟩ = some (Value.int .i64 (K.t : Int))) (by kernel_rfl) ?_ (fun hHeld => ?_)
  · exact HF.out
  refine tA 0 ⟨some 15, .load 132 (.tmp 3), 132, "wordlocks.go:92", #[], none⟩ ?vqx1 ?rqx1
  (try simp only [Act.put, tC, tD, tE])
  refine tA 1 ⟨some 16, .move (.tmp 1), 45, "wordlocks.go:92", #[], none⟩ ?vqx2 ?rqx2
  (try simp only [Act.put, tC, tD, tE])
  refine tA 2 ⟨some 17, .move (.tmp 2), 33, "wordlocks.go:92", #[], none⟩ ?vqx3 ?rqx3
  (try simp only [Act.put, tC, tD, tE])
  refine tA 3 ⟨some 18, .move (.tmp 1), 45, "wordlocks.go:92", #[], none⟩ ?vqx4 ?rqx4
  (try simp only [Act.put, tC, tD, tE])
  refine tA 4 ⟨some 19, .nilCheck (.tmp 18), 0, "wordlocks.go:92", #[⟨3, .data⟩], none⟩ ?vqx5 ?rqx5
  (try simp only [Act.put, tC, tD, tE])
  refine tA 5 ⟨some 20, .fieldAddr 130 (.tmp 19) 1, 0, "wordlocks.go:92", #[⟨4, .data⟩], none⟩ ?vqx6 ?rqx6
  (try simp only [Act.put, tC, tD, tE])
  refine tA 7 ⟨some 22, .load 73 (.tmp 6), 73, "wordlocks.go:92", #[], none⟩ ?vqx7 ?rqx7
  (try simp only [Act.put, tC, tD, tE])
  refine wpAnyH_ready (rs := [6, 8]) (by kernel_rfl) (by simp) ?_
  refine AllReadyH.cons (o := ⟨some 21, .load 22 (.tmp 20), 22, "wordlocks.go:92", #[⟨5, .data⟩], none⟩) rfl (fun Kq hKq => ?_) ?_
  · go_simp
    refine hKq.out _ _ ?_ (fun hHeld => ?_)
    · exact hHeld
    clear hKq Kq
    (try simp only [Act.put, tC, tD, tE])
    refine wpAnyH_ready (rs := [8]) (by kernel_rfl) (by simp) ?_
    refine AllReadyH.cons (o := ⟨some 23, .call ⟨.value (.func 101), #[.tmp 22], #[73]⟩, 22, "wordlocks.go:92", #[⟨7, .data⟩], none⟩) rfl (fun Kq hKq => ?_) AllReadyH.nil
    go_simp
    (refine (HPT.out _).mono ?_; rintro e w4 ⟨rfl, hb4⟩; have c1 := bcell hb4 c1; have HSW := Lib.hid (HSWW.out w4 _ ((H3.out.new (Below.refl _ _).drew).new hb4)))
    refine hKq.out _ _ ?_ (fun hHeld => ?_)
    · exact ⟨bcell hb4 hHeld.1, bcell hb4 hHeld.2.1, bcell hb4 hHeld.2.2.1, bcell hb4 hHeld.2.2.2.1, bcell hb4 hHeld.2.2.2.2⟩
    clear hKq Kq
    (try simp only [Act.put, tC, tD, tE])
    refine wpAnyH_ready (rs := [9]) (by kernel_rfl) (by simp) ?_
    refine AllReadyH.cons (o := ⟨some 24, .call ⟨.value (.func 100), #[.tmp 15, .tmp 16, .tmp 17, .tmp 21, .tmp 23], #[132, 45, 33, 22, 22]⟩, 4, "wordlocks.go:92", #[⟨0, .data⟩, ⟨1, .data⟩, ⟨2, .data⟩, ⟨6, .data⟩, ⟨8, .data⟩, ⟨8, .chain⟩], none⟩) rfl (fun Kq hKq => ?_) AllReadyH.nil
    go_simp
    (refine HSW.out.mono ?_; rintro e w5 ⟨rfl, X5, h5⟩)
    refine hKq.out _ _ ?_ (fun hHeld => ?_)
    · (have hl := (h5.dropB HJ2.out).last HJ.out; have hl2 := h5.last HJ2.out; exact ⟨cell_row hl 0, cell_row hl 1, cell_row hl2 0, cell_row hl2 1, cell_row hl2 2⟩)
    clear hKq Kq
    (try simp only [Act.put, tC, tD, tE])
    refine wpAnyH_done (by kernel_rfl) ?_ _
    have h7 := (h5.dropB HJ2.out)
    have hl := h7.last HJ.out
    have k0 := cell_row hl 0; have k1 := cell_row hl 1
    simp only [List.getElem?_toArray, List.getElem?_cons_zero, List.getElem?_cons_succ] at k0 k1
    clear hl hHeld c1 h5
    go_upto_if 24 with fail
    by_cases e : x = K.st
    · rw [decide_eq_true e]
      have hk2 : K.cas x K.st K = K := if_pos e
      rw [hk2] at h7
      have c0 := h7.b0; have z0 := h7.fz 0; have c3 := h7.b3; have z3 := h7.fz 3
      have HK := Lib.hid (show K.cas x K.st { K with ln := 6 } = { K with ln := 6 } from if_pos e); have H5 := Lib.hid h7
      clear hk2 e h7 HSW HSWW
      go_wp2_with fail
      go_end0
      exact ⟨rfl, X5, by rw [HK.out]; exact (H5.out.next2 6 _ rfl true rfl).dropB HJ.out⟩
    · rw [decide_eq_false e]
      have HK := Lib.hid (show K.cas x K.st { K with ln := 6 } = K.cas x K.st K from (if_neg e).trans (if_neg e).symm); have H5 := Lib.hid h7
      clear e h7 HSW HSWW
      go_wp2_with fail
      go_end0
      exact ⟨rfl, X5, by rw [HK.out]; exact H5.out.dropB HJ.out⟩
  refine AllReadyH.cons (o := ⟨some 23, .call ⟨.value (.func 101), #[.tmp 22], #[73]⟩, 22, "wordlocks.go:92", #[⟨7, .data⟩], none⟩) rfl (fun Kq hKq => ?_) AllReadyH.nil
  go_simp
  (refine (HPT.out _).mono ?_; rintro e w4 ⟨rfl, hb4⟩; have c1 := bcell hb4 c1; have HSW := Lib.hid (HSWW.out w4 _ ((H3.out.new (Below.refl _ _).drew).new hb4)))
  refine hKq.out _ _ ?_ (fun hHeld => ?_)
  · exact ⟨bcell hb4 hHeld.1, bcell hb4 hHeld.2.1, bcell hb4 hHeld.2.2.1, bcell hb4 hHeld.2.2.2.1, bcell hb4 hHeld.2.2.2.2⟩
  clear hKq Kq
  (try simp only [Act.put, tC, tD, tE])
  refine wpAnyH_ready (rs := [6]) (by kernel_rfl) (by simp) ?_
  refine AllReadyH.cons (o := ⟨some 21, .load 22 (.tmp 20), 22, "wordlocks.go:92", #[⟨5, .data⟩], none⟩) rfl (fun Kq hKq => ?_) AllReadyH.nil
  go_simp
  refine hKq.out _ _ ?_ (fun hHeld => ?_)
  · exact hHeld
  clear hKq Kq
  (try simp only [Act.put, tC, tD, tE])
  refine wpAnyH_ready (rs := [9]) (by kernel_rfl) (by simp) ?_
  refine AllReadyH.cons (o := ⟨some 24, .call ⟨.value (.func 100), #[.tmp 15, .tmp 16, .tmp 17, .tmp 21, .tmp 23], #[132, 45, 33, 22, 22]⟩, 4, "wordlocks.go:92", #[⟨0, .data⟩, ⟨1, .data⟩, ⟨2, .data⟩, ⟨6, .data⟩, ⟨8, .data⟩, ⟨8, .chain⟩], none⟩) rfl (fun Kq hKq => ?_) AllReadyH.nil
  go_simp
  (refine HSW.out.mono ?_; rintro e w5 ⟨rfl, X5, h5⟩)
  refine hKq.out _ _ ?_ (fun hHeld => ?_)
  · (have hl := (h5.dropB HJ2.out).last HJ.out; have hl2 := h5.last HJ2.out; exact ⟨cell_row hl 0, cell_row hl 1, cell_row hl2 0, cell_row hl2 1, cell_row hl2 2⟩)
  clear hKq Kq
  (try simp only [Act.put, tC, tD, tE])
  refine wpAnyH_done (by kernel_rfl) ?_ _
  have h7 := (h5.dropB HJ2.out)
  have hl := h7.last HJ.out
  have k0 := cell_row hl 0; have k1 := cell_row hl 1
  simp only [List.getElem?_toArray, List.getElem?_cons_zero, List.getElem?_cons_succ] at k0 k1
  clear hl hHeld c1 h5
  go_upto_if 24 with fail
  by_cases e : x = K.st
  · rw [decide_eq_true e]
    have hk2 : K.cas x K.st K = K := if_pos e
    rw [hk2] at h7
    have c0 := h7.b0; have z0 := h7.fz 0; have c3 := h7.b3; have z3 := h7.fz 3
    have HK := Lib.hid (show K.cas x K.st { K with ln := 6 } = { K with ln := 6 } from if_pos e); have H5 := Lib.hid h7
    clear hk2 e h7 HSW HSWW
    go_wp2_with fail
    go_end0
    exact ⟨rfl, X5, by rw [HK.out]; exact (H5.out.next2 6 _ rfl true rfl).dropB HJ.out⟩
  · rw [decide_eq_false e]
    have HK := Lib.hid (show K.cas x K.st { K with ln := 6 } = K.cas x K.st K from (if_neg e).trans (if_neg e).symm); have H5 := Lib.hid h7
    clear e h7 HSW HSWW
    go_wp2_with fail
    go_end0
    exact ⟨rfl, X5, by rw [HK.out]; exact H5.out.dropB HJ.out⟩
end
end Go.Proofs.YtlflagjnlclffaaGreat.S13
namespace Go.Proofs.YtlflagjnlclffaaGreat.S13
set_option maxRecDepth 100000
set_option maxHeartbeats 16000000
open Go.Proofs.YtlflagjnlclffaaGreat Go.Proofs.YtlflagjnlclffaaGreat.S11 Go.Proofs.YtlflagjnlclffaaGreat.S12
open Go.RowKit
theorem field_hd (a b : Bool) (h : Int) (w : World) : (Instr.field 73 (.agg #[.bool a, .bool b, .int .i64 h]) 2).run Tryz.prog w = .ok (.int .i64 h) w := by kernel_rfl
section
variable {w0 w w' : World} {base WB : Nat} {M : Sd} {r : List Part} {j B : Nat} {K : Lk} {X : Wm}
theorem look_l (h : Wl w0 w base WB M r j B K X) (ok : LkOk M K) (hl : K.ln = 3) : Calls Tryz.prog 181 #[askV K.t K.a, Pw B, Pw WB] w fun e w' => e = .returned (.tuple #[]) ∧ Stepped w0 w' base WB M r j B K := by
  unfold Stepped
  rw [show stepM M K = _ from by simp only [stepM, hl]; rfl, show stepK M K = _ from by simp only [stepK, hl]; rfl]
  have hj := h.hj
  have hA := h.pushB (.cells #[.int .i64 (K.t : Int), .int .u32 (K.a : Int)] 132)
  have k0 := cell_row (heap_alloc_new w (.cells #[.int .i64 (K.t : Int), .int .u32 (K.a : Int)] 132)) 0; have k1 := cell_row (heap_alloc_new w (.cells #[.int .i64 (K.t : Int), .int .u32 (K.a : Int)] 132)) 1
  simp only [List.getElem?_toArray, List.getElem?_cons_zero, List.getElem?_cons_succ] at k0 k1
  obtain ⟨Q, hQ⟩ : ∃ Q, Q = w.heap.size := ⟨_, rfl⟩
  rw [← hQ] at hA k0 k1
  have HA := Lib.hid hA; have HJ := Lib.hid hj; have HQ := Lib.hid hQ
  obtain ⟨x, hx⟩ : ∃ x, x = S2.look M.L K.a := ⟨_, rfl⟩
  have hxl : x < 18446744073709551616 := by rw [hx]; exact hA.look K.a
  have HC := Lib.hid ((hA.new (Below.refl _ _).drew).pg.load ok.a ok.n)
  rw [← hx] at HC ⊢
  have HTT : Hid (∀ W M' X', Wl w0 W base WB M' (r ++ [blockP Q (.cells #[.int .i64 (K.t : Int), .int .u32 (K.a : Int)] 132)]) j B K X' → Calls Tryz.prog 159 #[askV K.t K.a, Pw B, .int .u64 (x : Int)] W fun e w' => e = .returned (.tuple #[]) ∧ Wl w0 w' base WB M' (r ++ [blockP Q (.cells #[.int .i64 (K.t : Int), .int .u32 (K.a : Int)] 132)]) j B (K.turn x) X') := Lib.hid (fun W M' X' hW => turn_l hW (by omega) (by have := ok.sp; omega) hxl)
  clear hx hxl ok hl
  clear h hj hQ
  go_enter Tryz.func181, Tryz.ntmps181
  go_upto_region 1 with (fail)
  rw [← HQ.out]
  generalize w.alloc (.cells #[.int .i64 (K.t : Int), .int .u32 (K.a : Int)] 132) = w1 at *
  have HF : Hid ((fun w' => w'.cell? ⟨Q, 0, none⟩ = some (.int .i64 (K.t : Int)) ∧ w'.cell? ⟨Q, 1, none⟩ = some (.int .u32 (K.a : Int)) ∧ w'.cell? ⟨WB, 0, none⟩ = some (Pw X.cB)) w1.drew) := Lib.hid ⟨k0, k1, HA.out.pg.c.1⟩
  clear hA
  refine wp_region_held_drew (S := fun w' => w'.cell? ⟨Q, 0, none⟩ = some (.int .i64 (K.t : Int)) ∧ w'.cell? ⟨Q, 1, none⟩ = some (.int .u32 (K.a : Int)) ∧ w'.cell? ⟨WB, 0, none⟩ = some (Pw X.cB)) (by kernel_rfl) ?_ (fun hHeld => ?_)
  · exact HF.out
  refine tA 0 ⟨some 6, .load 132 (.tmp 3), 132, "wordlocks.go:78", #[], none⟩ ?vkm1 ?rkm1
  (try simp only [Act.put, tC, tD, tE])
  refine tA 1 ⟨some 7, .move (.tmp 1), 45, "wordlocks.go:78", #[], none⟩ ?vkm2 ?rkm2
  (try simp only [Act.put, tC, tD, tE])
  refine tA 2 ⟨some 8, .move (.tmp 2), 33, "wordlocks.go:78", #[], none⟩ ?vkm3 ?rkm3
  (try simp only [Act.put, tC, tD, tE])
  refine tA 3 ⟨some 9, .nilCheck (.tmp 8), 0, "wordlocks.go:78", #[⟨2, .data⟩], none⟩ ?vkm4 ?rkm4
  (try simp only [Act.put, tC, tD, tE])
  refine tA 4 ⟨some 10, .fieldAddr 89 (.tmp 9) 0, 0, "wordlocks.go:78", #[⟨3, .data⟩], none⟩ ?vkm5 ?rkm5
  (try simp only [Act.put, tC, tD, tE])
  refine tA 5 ⟨some 11, .load 81 (.tmp 10), 81, "wordlocks.go:78", #[⟨4, .data⟩], none⟩ ?vkm6 ?rkm6
  (try simp only [Act.put, tC, tD, tE])
  refine tA 6 ⟨some 12, .fieldAddr 132 (.tmp 3) 1, 0, "wordlocks.go:78", #[], none⟩ ?vkm7 ?rkm7
  (try simp only [Act.put, tC, tD, tE])
  refine tA 7 ⟨some 13, .load 40 (.tmp 12), 40, "wordlocks.go:78", #[⟨6, .data⟩], none⟩ ?vkm8 ?rkm8
  (try simp only [Act.put, tC, tD, tE])
  refine wpAnyH_ready (rs := [8]) (by kernel_rfl) (by simp) ?_
  refine AllReadyH.cons (o := ⟨some 14, .call ⟨.value (.func 137), #[.tmp 11, .tmp 13], #[81, 40]⟩, 22, "wordlocks.go:78", #[⟨5, .data⟩, ⟨7, .data⟩], none⟩) rfl (fun Kq hKq => ?_) AllReadyH.nil
  go_simp
  (refine HC.out.mono ?_; rintro e w3 ⟨rfl, X3, h3g, hcB⟩; have h3 : Wl w0 w3 base WB (M.acc 1 K.a x) (r ++ [blockP Q (.cells #[.int .i64 (K.t : Int), .int .u32 (K.a : Int)] 132)]) j B K X3 := ⟨h3g, HA.out.hj⟩; have HTN := Lib.hid (HTT.out _ _ _ h3); have q3 := h3.pg.c.1; rw [hcB] at q3; have hl := h3.last HJ.out; have HCB := Lib.hid hcB)
  refine hKq.out _ _ ?_ (fun hHeld => ?_)
  · exact ⟨cell_row hl 0, cell_row hl 1, q3⟩
  clear hKq Kq
  (try simp only [Act.put, tC, tD, tE])
  refine wpAnyH_ready (rs := [9]) (by kernel_rfl) (by simp) ?_
  refine AllReadyH.cons (o := ⟨some 15, .call ⟨.value (.func 159), #[.tmp 6, .tmp 7, .tmp 14], #[132, 45, 22]⟩, 0, "wordlocks.go:78", #[⟨0, .data⟩, ⟨1, .data⟩, ⟨8, .data⟩, ⟨8, .chain⟩], none⟩) rfl (fun Kq hKq => ?_) AllReadyH.nil
  go_simp
  (refine HTN.out.mono ?_; rintro e w4 ⟨rfl, h4⟩; have q4 := h4.pg.c.1; rw [HCB.out] at q4; have hl4 := h4.last HJ.out)
  refine hKq.out _ _ ?_ (fun hHeld => ?_)
  · exact ⟨cell_row hl4 0, cell_row hl4 1, q4⟩
  clear hKq Kq
  (try simp only [Act.put, tC, tD, tE])
  refine wpAnyH_done (by kernel_rfl) ?_ _
  have H4 := Lib.hid h4
  clear hHeld q3 hl q4 hl4 h3 h3g h4 hcB
  go_wp2_with fail
  go_end0
  exact ⟨rfl, X3, H4.out.dropB HJ.out⟩
theorem prepare_l (h : Wl w0 w base WB M r j B K X) (ok : LkOk M K) (hl : K.ln = 4) : Calls Tryz.prog 182 #[askV K.t K.a, Pw B, Pw WB] w fun e w' => e = .returned (.tuple #[]) ∧ Stepped w0 w' base WB M r j B K := by
  unfold Stepped
  rw [show stepM M K = _ from by simp only [stepM, hl]; rfl, show stepK M K = _ from by simp only [stepK, hl]; rfl]
  have hj := h.hj
  have hA := h.pushB (.cells #[.int .i64 (K.t : Int), .int .u32 (K.a : Int)] 132)
  have k0 := cell_row (heap_alloc_new w (.cells #[.int .i64 (K.t : Int), .int .u32 (K.a : Int)] 132)) 0; have k1 := cell_row (heap_alloc_new w (.cells #[.int .i64 (K.t : Int), .int .u32 (K.a : Int)] 132)) 1
  simp only [List.getElem?_toArray, List.getElem?_cons_zero, List.getElem?_cons_succ] at k0 k1
  obtain ⟨Q, hQ⟩ : ∃ Q, Q = w.heap.size := ⟨_, rfl⟩
  rw [← hQ] at hA k0 k1
  have HA := Lib.hid hA; have HJ := Lib.hid hj; have HQ := Lib.hid hQ
  obtain ⟨b0, hb0⟩ : ∃ x, x = S1.bitB K.st 0 := ⟨_, rfl⟩
  obtain ⟨b1, hb1⟩ : ∃ x, x = S1.bitB K.st 1 := ⟨_, rfl⟩
  obtain ⟨hd, hhd⟩ : ∃ x, x = S1.headN K.st := ⟨_, rfl⟩
  have HAS : Hid (∀ W, Calls Tryz.prog 134 #[.int .u64 (K.st : Int)] W fun e w' => e = .returned (.agg #[.bool b0, .bool b1, .int .i64 hd]) ∧ Below W.heap.size W w') := Lib.hid (fun W => by
    have := S1.as_any K.st ok.st W
    unfold S1.asV at this
    rw [← hb0, ← hb1, ← hhd] at this
    exact this)
  have HT := Lib.hid (fun W => word_any K.t ok.t W)
  have HC := Lib.hid ((hA.new (Below.refl _ _).drew).pg.prep ok.pn (i := 2 * K.t + 1) (by have := ok.t; omega))
  have hnt : S5.Num (K.t : Int) (some K.t) := S5.nm K.t ok.t
  have hnh := num_head K.st
  rw [← hhd] at hnh
  have HPU : Hid (∀ W X', Pg w0 W base WB (M.prep (2 * K.t + 1)) ((r ++ [blockP Q (.cells #[.int .i64 (K.t : Int), .int .u32 (K.a : Int)] 132)]).set j (lockP B K)) X' → Calls Tryz.prog 192 #[Pw X'.lB, .int .i64 (K.t : Int), .int .i64 hd] W fun e w' => e = .returned (.tuple #[]) ∧ ∃ X'', Pg w0 w' base WB ((M.prep (2 * K.t + 1)).link (S5.pushS (M.prep (2 * K.t + 1)).lk (some K.t) (hdO K.st))) ((r ++ [blockP Q (.cells #[.int .i64 (K.t : Int), .int .u32 (K.a : Int)] 132)]).set j (lockP B K)) X'' ∧ X''.lB = X'.lB) := Lib.hid (fun W X' hW => hW.push hnt hnh)
  have HH6 : Hid (K.ln ≠ 6) := Lib.hid (by omega)
  clear ok hl hb0 hb1 hhd hnt hnh
  clear h hj hQ
  go_enter Tryz.func182, Tryz.ntmps182
  go_upto_region 1 with (fail)
  rw [← HQ.out]
  generalize w.alloc (.cells #[.int .i64 (K.t : Int), .int .u32 (K.a : Int)] 132) = w1 at *
  have HF : Hid ((fun w' => w'.cell? ⟨Q, 0, none⟩ = some (.int .i64 (K.t : Int)) ∧ w'.cell? ⟨WB, 2, none⟩ = some (Pw X.pB)) w1.drew) := Lib.hid ⟨k0, HA.out.pg.c.2.1⟩
  clear hA
  refine wp_region_held_drew (S := fun w' => w'.cell? ⟨Q, 0, none⟩ = some (.int .i64 (K.t : Int)) ∧ w'.cell? ⟨WB, 2, none⟩ = some (Pw X.pB)) (by kernel_rfl) ?_ (fun hHeld => ?_)
  · exact HF.out
  refine tA 0 ⟨some 6, .move (.tmp 2), 33, "wordlocks.go:83", #[], none⟩ ?vpm1 ?rpm1
  (try simp only [Act.put, tC, tD, tE])
  refine tA 1 ⟨some 7, .nilCheck (.tmp 6), 0, "wordlocks.go:83", #[⟨0, .data⟩], none⟩ ?vpm2 ?rpm2
  (try simp only [Act.put, tC, tD, tE])
  refine tA 2 ⟨some 8, .fieldAddr 89 (.tmp 7) 2, 0, "wordlocks.go:83", #[⟨1, .data⟩], none⟩ ?vpm3 ?rpm3
  (try simp only [Act.put, tC, tD, tE])
  refine tA 3 ⟨some 9, .load 83 (.tmp 8), 83, "wordlocks.go:83", #[⟨2, .data⟩], none⟩ ?vpm4 ?rpm4
  (try simp only [Act.put, tC, tD, tE])
  refine tA 4 ⟨some 10, .fieldAddr 132 (.tmp 3) 0, 0, "wordlocks.go:83", #[], none⟩ ?vpm5 ?rpm5
  (try simp only [Act.put, tC, tD, tE])
  refine tA 5 ⟨some 11, .load 3 (.tmp 10), 3, "wordlocks.go:83", #[⟨4, .data⟩], none⟩ ?vpm6 ?rpm6
  (try simp only [Act.put, tC, tD, tE])
  refine wpAnyH_ready (rs := [6]) (by kernel_rfl) (by simp) ?_
  refine AllReadyH.cons (o := ⟨some 12, .call ⟨.value (.func 28), #[.tmp 11], #[3]⟩, 3, "wordlocks.go:83", #[⟨5, .data⟩], none⟩) rfl (fun Kq hKq => ?_) AllReadyH.nil
  go_simp
  (refine (HT.out _).mono ?_; rintro e w2 ⟨rfl, rfl⟩)
  refine hKq.out _ _ ?_ (fun hHeld => ?_)
  · exact hHeld
  clear hKq Kq
  (try simp only [Act.put, tC, tD, tE])
  refine wpAnyH_ready (rs := [7]) (by kernel_rfl) (by simp) ?_
  refine AllReadyH.cons (o := ⟨some 13, .call ⟨.value (.func 191), #[.tmp 9, .tmp 12], #[83, 3]⟩, 0, "wordlocks.go:83", #[⟨3, .data⟩, ⟨6, .data⟩, ⟨6, .chain⟩], none⟩) rfl (fun Kq hKq => ?_) AllReadyH.nil
  go_simp
  (refine HC.out.mono ?_; rintro e w3 ⟨rfl, X3, h3g, hpB⟩; have h3 : Wl w0 w3 base WB (M.prep (2 * K.t + 1)) (r ++ [blockP Q (.cells #[.int .i64 (K.t : Int), .int .u32 (K.a : Int)] 132)]) j B K X3 := ⟨h3g, HA.out.hj⟩; have q3 := h3.pg.c.2.1; rw [hpB] at q3; have hl := h3.last HJ.out)
  refine hKq.out _ _ ?_ (fun hHeld => ?_)
  · exact ⟨cell_row hl 0, q3⟩
  clear hKq Kq
  (try simp only [Act.put, tC, tD, tE])
  refine wpAnyH_done (by kernel_rfl) ?_ _
  clear HF
  have HF : Hid ((fun w' => w'.cell? ⟨Q, 0, none⟩ = some (.int .i64 (K.t : Int)) ∧ w'.cell? ⟨WB, 3, none⟩ = some (Pw X3.lB) ∧ w'.cell? ⟨B, 1, none⟩ = some (.int .u64 (K.st : Int))) w3.drew) := Lib.hid ⟨cell_row hl 0, h3.pg.c.2.2.1, h3.b1⟩
  have H3 := Lib.hid h3
  have hfd := field_hd b0 b1 hd
  clear hHeld q3 hl h3 h3g hpB k0 k1
  go_upto_region 2 with (fail)
  refine wp_region_held_drew (S := fun w' => w'.cell? ⟨Q, 0, none⟩ = some (.int .i64 (K.t : Int)) ∧ w'.cell? ⟨WB, 3, none⟩ = some (Pw X3.lB) ∧ w'.cell? ⟨B, 1, none⟩ = some (.int .u64 (K.st : Int))) (by kernel_rfl) ?_ (fun hHeld => ?_)
  · exact HF.out
  refine tA 0 ⟨some 14, .move (.tmp 2), 33, "wordlocks.go:84", #[], none⟩ ?vqm1 ?rqm1
  (try simp only [Act.put, tC, tD, tE])
  refine tA 1 ⟨some 15, .nilCheck (.tmp 14), 0, "wordlocks.go:84", #[⟨0, .data⟩], none⟩ ?vqm2 ?rqm2
  (try simp only [Act.put, tC, tD, tE])
  refine tA 2 ⟨some 16, .fieldAddr 89 (.tmp 15) 3, 0, "wordlocks.go:84", #[⟨1, .data⟩], none⟩ ?vqm3 ?rqm3
  (try simp only [Act.put, tC, tD, tE])
  refine tA 3 ⟨some 17, .load 84 (.tmp 16), 84, "wordlocks.go:84", #[⟨2, .data⟩], none⟩ ?vqm4 ?rqm4
  (try simp only [Act.put, tC, tD, tE])
  refine tA 4 ⟨some 18, .fieldAddr 132 (.tmp 3) 0, 0, "wordlocks.go:84", #[], none⟩ ?vqm5 ?rqm5
  (try simp only [Act.put, tC, tD, tE])
  refine tA 5 ⟨some 19, .load 3 (.tmp 18), 3, "wordlocks.go:84", #[⟨4, .data⟩], none⟩ ?vqm6 ?rqm6
  (try simp only [Act.put, tC, tD, tE])
  refine tA 6 ⟨some 20, .move (.tmp 1), 45, "wordlocks.go:84", #[], none⟩ ?vqm7 ?rqm7
  (try simp only [Act.put, tC, tD, tE])
  refine tA 7 ⟨some 21, .nilCheck (.tmp 20), 0, "wordlocks.go:84", #[⟨6, .data⟩], none⟩ ?vqm8 ?rqm8
  (try simp only [Act.put, tC, tD, tE])
  refine tA 8 ⟨some 22, .fieldAddr 130 (.tmp 21) 1, 0, "wordlocks.go:84", #[⟨7, .data⟩], none⟩ ?vqm9 ?rqm9
  (try simp only [Act.put, tC, tD, tE])
  refine tA 9 ⟨some 23, .load 22 (.tmp 22), 22, "wordlocks.go:84", #[⟨8, .data⟩], none⟩ ?vqm10 ?rqm10
  (try simp only [Act.put, tC, tD, tE])
  refine wpAnyH_ready (rs := [10]) (by kernel_rfl) (by simp) ?_
  refine AllReadyH.cons (o := ⟨some 24, .call ⟨.value (.func 134), #[.tmp 23], #[22]⟩, 73, "wordlocks.go:84", #[⟨9, .data⟩], none⟩) rfl (fun Kq hKq => ?_) AllReadyH.nil
  go_simp
  (refine (HAS.out _).mono ?_; rintro e w4 ⟨rfl, hb4⟩; have HPQ := Lib.hid (HPU.out w4 X3 ((H3.out.new (Below.refl _ _).drew).new hb4).pg))
  refine hKq.out _ _ ?_ (fun hHeld => ?_)
  · exact ⟨bcell hb4 hHeld.1, bcell hb4 hHeld.2.1, bcell hb4 hHeld.2.2⟩
  clear hKq Kq
  (try simp only [Act.put, tC, tD, tE])
  refine tA 11 ⟨some 25, .field 73 (.tmp 24) 2, 3, "wordlocks.go:84", #[⟨10, .data⟩], none⟩ ?vqm11 ?rqm11
  (try simp only [Act.put, tC, tD, tE])
  refine wpAnyH_ready (rs := [12]) (by kernel_rfl) (by simp) ?_
  refine AllReadyH.cons (o := ⟨some 26, .call ⟨.value (.func 192), #[.tmp 17, .tmp 19, .tmp 25], #[84, 3, 3]⟩, 0, "wordlocks.go:84", #[⟨3, .data⟩, ⟨5, .data⟩, ⟨11, .data⟩, ⟨10, .chain⟩], none⟩) rfl (fun Kq hKq => ?_) AllReadyH.nil
  go_simp
  (refine HPQ.out.mono ?_; rintro e w5 ⟨rfl, X5, h5g, hlB⟩; have h5 : Wl w0 w5 base WB ((M.prep (2 * K.t + 1)).link (S5.pushS (M.prep (2 * K.t + 1)).lk (some K.t) (hdO K.st))) (r ++ [blockP Q (.cells #[.int .i64 (K.t : Int), .int .u32 (K.a : Int)] 132)]) j B K X5 := ⟨h5g, HA.out.hj⟩; have q5 := h5.pg.c.2.2.1; rw [hlB] at q5; have hl5 := h5.last HJ.out; have b5 := h5.b1)
  refine hKq.out _ _ ?_ (fun hHeld => ?_)
  · exact ⟨cell_row hl5 0, q5, b5⟩
  clear hKq Kq
  (try simp only [Act.put, tC, tD, tE])
  refine wpAnyH_done (by kernel_rfl) ?_ _
  have k0 := cell_row hl5 0; have k1 := cell_row hl5 1
  simp only [List.getElem?_toArray, List.getElem?_cons_zero, List.getElem?_cons_succ] at k0 k1
  have c0 := h5.b0; have z0 := h5.fz 0
  have H5 := Lib.hid h5
  clear hHeld q5 hl5 b5 h5 h5g hlB hb4 HF
  go_wp2_with fail
  go_end0
  exact ⟨rfl, X5, (H5.out.next HH6.out 5 (by decide) _ rfl).dropB HJ.out⟩
theorem park_l (h : Wl w0 w base WB M r j B K X) (ok : LkOk M K) (hl : K.ln = 6) : Calls Tryz.prog 205 #[askV K.t K.a, Pw B, Pw WB] w fun e w' => e = .returned (.tuple #[]) ∧ Stepped w0 w' base WB M r j B K := by
  unfold Stepped
  rw [show stepM M K = _ from by simp only [stepM, hl]; rfl, show stepK M K = _ from by simp only [stepK, hl]; rfl]
  have hj := h.hj
  have hA := h.pushB (.cells #[.int .i64 (K.t : Int), .int .u32 (K.a : Int)] 132)
  have k0 := cell_row (heap_alloc_new w (.cells #[.int .i64 (K.t : Int), .int .u32 (K.a : Int)] 132)) 0; have k1 := cell_row (heap_alloc_new w (.cells #[.int .i64 (K.t : Int), .int .u32 (K.a : Int)] 132)) 1
  simp only [List.getElem?_toArray, List.getElem?_cons_zero, List.getElem?_cons_succ] at k0 k1
  obtain ⟨Q, hQ⟩ : ∃ Q, Q = w.heap.size := ⟨_, rfl⟩
  rw [← hQ] at hA k0 k1
  have HA := Lib.hid hA; have HJ := Lib.hid hj; have HQ := Lib.hid hQ
  obtain ⟨g, hg⟩ : ∃ g, g = (M.pf (2 * K.t + 1)).p := ⟨_, rfl⟩
  have HT := Lib.hid (fun W => word_any K.t ok.t W)
  have HC := Lib.hid ((hA.new (Below.refl _ _).drew).pg.park ok.pn (i := 2 * K.t + 1) (by have := ok.t; omega))
  rw [← hg] at HC ⊢
  have H6 := Lib.hid hl
  clear ok hl hg
  clear h hj hQ
  go_enter Tryz.func205, Tryz.ntmps205
  go_upto_region 1 with (fail)
  rw [← HQ.out]
  generalize w.alloc (.cells #[.int .i64 (K.t : Int), .int .u32 (K.a : Int)] 132) = w1 at *
  have HF : Hid ((fun w' => w'.cell? ⟨Q, 0, none⟩ = some (.int .i64 (K.t : Int)) ∧ w'.cell? ⟨WB, 2, none⟩ = some (Pw X.pB)) w1.drew) := Lib.hid ⟨k0, HA.out.pg.c.2.1⟩
  clear hA
  cases g
  · refine wp_region_held_drew (S := fun w' => w'.cell? ⟨Q, 0, none⟩ = some (.int .i64 (K.t : Int)) ∧ w'.cell? ⟨WB, 2, none⟩ = some (Pw X.pB)) (by kernel_rfl) ?_ (fun hHeld => ?_)
    · exact HF.out
    refine tA 0 ⟨some 6, .move (.tmp 2), 33, "wordlocks.go:99", #[], none⟩ ?vum1 ?rum1
    (try simp only [Act.put, tC, tD, tE])
    refine tA 1 ⟨some 7, .nilCheck (.tmp 6), 0, "wordlocks.go:99", #[⟨0, .data⟩], none⟩ ?vum2 ?rum2
    (try simp only [Act.put, tC, tD, tE])
    refine tA 2 ⟨some 8, .fieldAddr 89 (.tmp 7) 2, 0, "wordlocks.go:99", #[⟨1, .data⟩], none⟩ ?vum3 ?rum3
    (try simp only [Act.put, tC, tD, tE])
    refine tA 3 ⟨some 9, .load 83 (.tmp 8), 83, "wordlocks.go:99", #[⟨2, .data⟩], none⟩ ?vum4 ?rum4
    (try simp only [Act.put, tC, tD, tE])
    refine tA 4 ⟨some 10, .fieldAddr 132 (.tmp 3) 0, 0, "wordlocks.go:99", #[], none⟩ ?vum5 ?rum5
    (try simp only [Act.put, tC, tD, tE])
    refine tA 5 ⟨some 11, .load 3 (.tmp 10), 3, "wordlocks.go:99", #[⟨4, .data⟩], none⟩ ?vum6 ?rum6
    (try simp only [Act.put, tC, tD, tE])
    refine wpAnyH_ready (rs := [6]) (by kernel_rfl) (by simp) ?_
    refine AllReadyH.cons (o := ⟨some 12, .call ⟨.value (.func 28), #[.tmp 11], #[3]⟩, 3, "wordlocks.go:99", #[⟨5, .data⟩], none⟩) rfl (fun Kq hKq => ?_) AllReadyH.nil
    go_simp
    (refine (HT.out _).mono ?_; rintro e w2 ⟨rfl, rfl⟩)
    refine hKq.out _ _ ?_ (fun hHeld => ?_)
    · exact hHeld
    clear hKq Kq
    (try simp only [Act.put, tC, tD, tE])
    refine wpAnyH_ready (rs := [7]) (by kernel_rfl) (by simp) ?_
    refine AllReadyH.cons (o := ⟨some 13, .call ⟨.value (.func 211), #[.tmp 9, .tmp 12], #[83, 3]⟩, 313, "wordlocks.go:99", #[⟨3, .data⟩, ⟨6, .data⟩, ⟨6, .chain⟩], none⟩) rfl (fun Kq hKq => ?_) AllReadyH.nil
    go_simp
    (refine HC.out.mono ?_; rintro e w3 ⟨rfl, X3, h3g, hpB⟩; have h3 : Wl w0 w3 base WB (M.park (2 * K.t + 1)) (r ++ [blockP Q (.cells #[.int .i64 (K.t : Int), .int .u32 (K.a : Int)] 132)]) j B K X3 := ⟨h3g, HA.out.hj⟩; have q3 := h3.pg.c.2.1; rw [hpB] at q3; have hl := h3.last HJ.out)
    refine hKq.out _ _ ?_ (fun hHeld => ?_)
    · exact ⟨cell_row hl 0, q3⟩
    clear hKq Kq
    (try simp only [Act.put, tC, tD, tE])
    refine tA 8 ⟨some 14, .binOp .neq 313 (.tmp 13) (.const (.int .u8 1)) 313, 4, "wordlocks.go:99", #[⟨7, .data⟩], none⟩ ?vum7 ?rum7
    (try simp only [Act.put, tC, tD, tE])
    refine wpAnyH_done (by kernel_rfl) ?_ _
    have H3 := Lib.hid h3
    clear hHeld q3 hl h3 h3g hpB HF k0 k1
    go_wp2_with fail
    (try simp only [Exit.inBlock, Exit.then])
    refine bodyPost_ret (results_none rfl _ _ _) rfl ⟨rfl, X3, H3.out.dropB HJ.out⟩
  · refine wp_region_held_drew (S := fun w' => w'.cell? ⟨Q, 0, none⟩ = some (.int .i64 (K.t : Int)) ∧ w'.cell? ⟨WB, 2, none⟩ = some (Pw X.pB)) (by kernel_rfl) ?_ (fun hHeld => ?_)
    · exact HF.out
    refine tA 0 ⟨some 6, .move (.tmp 2), 33, "wordlocks.go:99", #[], none⟩ ?vvm1 ?rvm1
    (try simp only [Act.put, tC, tD, tE])
    refine tA 1 ⟨some 7, .nilCheck (.tmp 6), 0, "wordlocks.go:99", #[⟨0, .data⟩], none⟩ ?vvm2 ?rvm2
    (try simp only [Act.put, tC, tD, tE])
    refine tA 2 ⟨some 8, .fieldAddr 89 (.tmp 7) 2, 0, "wordlocks.go:99", #[⟨1, .data⟩], none⟩ ?vvm3 ?rvm3
    (try simp only [Act.put, tC, tD, tE])
    refine tA 3 ⟨some 9, .load 83 (.tmp 8), 83, "wordlocks.go:99", #[⟨2, .data⟩], none⟩ ?vvm4 ?rvm4
    (try simp only [Act.put, tC, tD, tE])
    refine tA 4 ⟨some 10, .fieldAddr 132 (.tmp 3) 0, 0, "wordlocks.go:99", #[], none⟩ ?vvm5 ?rvm5
    (try simp only [Act.put, tC, tD, tE])
    refine tA 5 ⟨some 11, .load 3 (.tmp 10), 3, "wordlocks.go:99", #[⟨4, .data⟩], none⟩ ?vvm6 ?rvm6
    (try simp only [Act.put, tC, tD, tE])
    refine wpAnyH_ready (rs := [6]) (by kernel_rfl) (by simp) ?_
    refine AllReadyH.cons (o := ⟨some 12, .call ⟨.value (.func 28), #[.tmp 11], #[3]⟩, 3, "wordlocks.go:99", #[⟨5, .data⟩], none⟩) rfl (fun Kq hKq => ?_) AllReadyH.nil
    go_simp
    (refine (HT.out _).mono ?_; rintro e w2 ⟨rfl, rfl⟩)
    refine hKq.out _ _ ?_ (fun hHeld => ?_)
    · exact hHeld
    clear hKq Kq
    (try simp only [Act.put, tC, tD, tE])
    refine wpAnyH_ready (rs := [7]) (by kernel_rfl) (by simp) ?_
    refine AllReadyH.cons (o := ⟨some 13, .call ⟨.value (.func 211), #[.tmp 9, .tmp 12], #[83, 3]⟩, 313, "wordlocks.go:99", #[⟨3, .data⟩, ⟨6, .data⟩, ⟨6, .chain⟩], none⟩) rfl (fun Kq hKq => ?_) AllReadyH.nil
    go_simp
    (refine HC.out.mono ?_; rintro e w3 ⟨rfl, X3, h3g, hpB⟩; have h3 : Wl w0 w3 base WB (M.park (2 * K.t + 1)) (r ++ [blockP Q (.cells #[.int .i64 (K.t : Int), .int .u32 (K.a : Int)] 132)]) j B K X3 := ⟨h3g, HA.out.hj⟩; have q3 := h3.pg.c.2.1; rw [hpB] at q3; have hl := h3.last HJ.out)
    refine hKq.out _ _ ?_ (fun hHeld => ?_)
    · exact ⟨cell_row hl 0, q3⟩
    clear hKq Kq
    (try simp only [Act.put, tC, tD, tE])
    refine tA 8 ⟨some 14, .binOp .neq 313 (.tmp 13) (.const (.int .u8 1)) 313, 4, "wordlocks.go:99", #[⟨7, .data⟩], none⟩ ?vvm7 ?rvm7
    (try simp only [Act.put, tC, tD, tE])
    refine wpAnyH_done (by kernel_rfl) ?_ _
    have HBG := Lib.hid (begin_l h3)
    clear hHeld q3 hl h3 h3g hpB HF k0 k1
    go_upto_region 3 with (go_at_call 99; refine HBG.out.mono ?_; rintro e w4 ⟨rfl, h4⟩)
    have hl := h4.last HJ.out
    have k0 := cell_row hl 0; have k1 := cell_row hl 1
    simp only [List.getElem?_toArray, List.getElem?_cons_zero, List.getElem?_cons_succ] at k0 k1
    have c0 := h4.b0; have z0 := h4.fz 0; have c3 := h4.b3; have z3 := h4.fz 3
    have H4 := Lib.hid h4
    clear hl h4 HBG
    go_wp2_with fail
    go_end0
    exact ⟨rfl, X3, (H4.out.next2 3 _ rfl false rfl).dropB HJ.out⟩
end
end Go.Proofs.YtlflagjnlclffaaGreat.S13
namespace Go.Proofs.YtlflagjnlclffaaGreat.S13
set_option maxRecDepth 100000
set_option maxHeartbeats 16000000
open Go.Proofs.YtlflagjnlclffaaGreat Go.Proofs.YtlflagjnlclffaaGreat.S11 Go.Proofs.YtlflagjnlclffaaGreat.S12
open Go.RowKit
theorem eqlN (w : World) : (binOp .eql 127 .nilFunc .nilFunc).run Tryz.prog w = .ok (.bool true) w := by kernel_rfl
theorem eqlF (f : Fn) (x y : Array Value) (w : World) : (binOp .eql 127 (.func f x y) .nilFunc).run Tryz.prog w = .ok (.bool false) w := by kernel_rfl
def LkAt (w : World) (B : Nat) (K : Lk) : Prop := w.heap[B]? = some (.cells K.cs 130 (0, 0))
theorem over_any {w : World} {B : Nat} {K : Lk} (h : LkAt w B K) (h6 : K.ln ≤ 6) : Calls Tryz.prog 42 #[Pw B] w fun e w' => e = .returned (.bool (decide (K.ln = 0))) ∧ w = w' := by
  have c0 : w.cell? ⟨B, 0, none⟩ = some (nxV K.t K.a K.ln) := cell_row h 0
  obtain ⟨n, hn⟩ : ∃ n, n = K.ln := ⟨_, rfl⟩
  rw [← hn] at c0 h6 ⊢
  clear h hn
  match n, h6 with
  | 0, _ =>
    simp only [nxV] at c0
    have he1 := eqlN
    have he2 := eqlF
    go_enter Tryz.func42, Tryz.ntmps42
    go_wp2_with fail
    go_ret
    exact ⟨rfl, rfl⟩
  | 1, _ =>
    simp only [nxV] at c0
    have he1 := eqlN
    have he2 := eqlF
    go_enter Tryz.func42, Tryz.ntmps42
    go_wp2_with fail
    go_ret
    exact ⟨rfl, rfl⟩
  | 2, _ =>
    simp only [nxV] at c0
    have he1 := eqlN
    have he2 := eqlF
    go_enter Tryz.func42, Tryz.ntmps42
    go_wp2_with fail
    go_ret
    exact ⟨rfl, rfl⟩
  | 3, _ =>
    simp only [nxV] at c0
    have he1 := eqlN
    have he2 := eqlF
    go_enter Tryz.func42, Tryz.ntmps42
    go_wp2_with fail
    go_ret
    exact ⟨rfl, rfl⟩
  | 4, _ =>
    simp only [nxV] at c0
    have he1 := eqlN
    have he2 := eqlF
    go_enter Tryz.func42, Tryz.ntmps42
    go_wp2_with fail
    go_ret
    exact ⟨rfl, rfl⟩
  | 5, _ =>
    simp only [nxV] at c0
    have he1 := eqlN
    have he2 := eqlF
    go_enter Tryz.func42, Tryz.ntmps42
    go_wp2_with fail
    go_ret
    exact ⟨rfl, rfl⟩
  | 6, _ =>
    simp only [nxV] at c0
    have he1 := eqlN
    have he2 := eqlF
    go_enter Tryz.func42, Tryz.ntmps42
    go_wp2_with fail
    go_ret
    exact ⟨rfl, rfl⟩
theorem waits_any {w : World} {B : Nat} {K : Lk} (h : LkAt w B K) : Calls Tryz.prog 25 #[Pw B] w fun e w' => e = .returned (.bool (decide (K.ln = 6))) ∧ w = w' := by
  have c3 : w.cell? ⟨B, 3, none⟩ = some (.bool (decide (K.ln = 6))) := cell_row h 3
  clear h
  generalize decide (K.ln = 6) = b at *
  go_enter Tryz.func25, Tryz.ntmps25
  go_wp2_with fail
  go_ret
  exact ⟨rfl, rfl⟩
section
variable {w0 w w' : World} {base WB : Nat} {M : Sd} {r : List Part} {j B : Nat} {K : Lk} {X : Wm}
theorem Wl.at (h : Wl w0 w base WB M r j B K X) : LkAt w B K := h.blk
theorem cas_le {x was : Nat} {K' : Lk} (h : K'.ln ≤ 6) : (K.cas x was K').ln ≤ 6 := by
  unfold Lk.cas
  split
  · exact h
  · unfold Lk.turn; split
    · show 2 ≤ 6; omega
    · split
      · split
        · show 3 ≤ 6; omega
        · show 4 ≤ 6; omega
      · show 4 ≤ 6; omega
theorem turn_le {x : Nat} : (K.turn x).ln ≤ 6 := by
  unfold Lk.turn; split
  · show 2 ≤ 6; omega
  · split
    · split
      · show 3 ≤ 6; omega
      · show 4 ≤ 6; omega
    · show 4 ≤ 6; omega
theorem step_le (h : K.ln ≤ 6) : (stepK M K).ln ≤ 6 := by
  unfold stepK
  split
  · exact cas_le (Nat.zero_le _)
  · exact cas_le (Nat.zero_le _)
  · exact turn_le
  · show 5 ≤ 6; omega
  · exact cas_le (Nat.le_refl _)
  · split
    · show 3 ≤ 6; omega
    · exact h
  · exact h
theorem step_any (h : Wl w0 w base WB M r j B K X) (ok : LkOk M K) (h6 : K.ln ≤ 6) : Calls Tryz.prog 14 #[Pw B, Pw WB] w fun e w' => e = .returned (.bool (decide ((stepK M K).ln = 0))) ∧ Stepped w0 w' base WB M r j B K := by
  have hov := over_any h.at h6
  have c0 := h.b0
  by_cases h0 : K.ln = 0
  · have hk : stepK M K = K := by simp only [stepK, h0]
    have hm : stepM M K = M := by simp only [stepM, h0]
    have hs : Stepped w0 w base WB M r j B K := ⟨X, by rw [hk, hm]; exact h⟩
    rw [hk]
    rw [decide_eq_true h0] at hov ⊢
    have HOV := Lib.hid hov; have HS := Lib.hid hs
    clear h ok h6 hov hs hk hm c0 h0
    go_enter Tryz.func14, Tryz.ntmps14
    go_wp2_with (go_at_call 42; refine HOV.out.mono ?_; rintro e w1 ⟨rfl, rfl⟩)
    go_ret
    exact ⟨rfl, HS.out⟩
  · rw [decide_eq_false h0] at hov
    have hnx : ∀ w', Stepped w0 w' base WB M r j B K → Calls Tryz.prog 42 #[Pw B] w' fun e w'' => e = .returned (.bool (decide ((stepK M K).ln = 0))) ∧ w' = w'' := fun w' ⟨X', h'⟩ => over_any h'.at (step_le h6)
    have HOV := Lib.hid hov; have HNX := Lib.hid hnx
    generalize decide ((stepK M K).ln = 0) = ov at *
    have hk : K.ln = 1 ∨ K.ln = 2 ∨ K.ln = 3 ∨ K.ln = 4 ∨ K.ln = 5 ∨ K.ln = 6 := by omega
    rcases hk with hk | hk | hk | hk | hk | hk
    · have HL := Lib.hid (first_l h ok hk)
      rw [hk] at c0
      simp only [nxV] at c0
      clear h ok h6 hov hnx h0 hk
      go_enter Tryz.func14, Tryz.ntmps14
      go_wp2_with (first
        | (go_at_call 41; refine HL.out.mono ?_; rintro e w2 ⟨rfl, hs⟩; have HO2 := Lib.hid (HNX.out _ hs); have HS := Lib.hid hs; clear hs)
        | (go_at_call 42; refine HO2.out.mono ?_; rintro e w3 ⟨rfl, rfl⟩)
        | (go_at_call 42; refine HOV.out.mono ?_; rintro e w1 ⟨rfl, rfl⟩))
      go_ret
      exact ⟨rfl, HS.out⟩
    · have HL := Lib.hid (take_l h ok hk)
      rw [hk] at c0
      simp only [nxV] at c0
      clear h ok h6 hov hnx h0 hk
      go_enter Tryz.func14, Tryz.ntmps14
      go_wp2_with (first
        | (go_at_call 179; refine HL.out.mono ?_; rintro e w2 ⟨rfl, hs⟩; have HO2 := Lib.hid (HNX.out _ hs); have HS := Lib.hid hs; clear hs)
        | (go_at_call 42; refine HO2.out.mono ?_; rintro e w3 ⟨rfl, rfl⟩)
        | (go_at_call 42; refine HOV.out.mono ?_; rintro e w1 ⟨rfl, rfl⟩))
      go_ret
      exact ⟨rfl, HS.out⟩
    · have HL := Lib.hid (look_l h ok hk)
      rw [hk] at c0
      simp only [nxV] at c0
      clear h ok h6 hov hnx h0 hk
      go_enter Tryz.func14, Tryz.ntmps14
      go_wp2_with (first
        | (go_at_call 181; refine HL.out.mono ?_; rintro e w2 ⟨rfl, hs⟩; have HO2 := Lib.hid (HNX.out _ hs); have HS := Lib.hid hs; clear hs)
        | (go_at_call 42; refine HO2.out.mono ?_; rintro e w3 ⟨rfl, rfl⟩)
        | (go_at_call 42; refine HOV.out.mono ?_; rintro e w1 ⟨rfl, rfl⟩))
      go_ret
      exact ⟨rfl, HS.out⟩
    · have HL := Lib.hid (prepare_l h ok hk)
      rw [hk] at c0
      simp only [nxV] at c0
      clear h ok h6 hov hnx h0 hk
      go_enter Tryz.func14, Tryz.ntmps14
      go_wp2_with (first
        | (go_at_call 182; refine HL.out.mono ?_; rintro e w2 ⟨rfl, hs⟩; have HO2 := Lib.hid (HNX.out _ hs); have HS := Lib.hid hs; clear hs)
        | (go_at_call 42; refine HO2.out.mono ?_; rintro e w3 ⟨rfl, rfl⟩)
        | (go_at_call 42; refine HOV.out.mono ?_; rintro e w1 ⟨rfl, rfl⟩))
      go_ret
      exact ⟨rfl, HS.out⟩
    · have HL := Lib.hid (queue_l h ok hk)
      rw [hk] at c0
      simp only [nxV] at c0
      clear h ok h6 hov hnx h0 hk
      go_enter Tryz.func14, Tryz.ntmps14
      go_wp2_with (first
        | (go_at_call 193; refine HL.out.mono ?_; rintro e w2 ⟨rfl, hs⟩; have HO2 := Lib.hid (HNX.out _ hs); have HS := Lib.hid hs; clear hs)
        | (go_at_call 42; refine HO2.out.mono ?_; rintro e w3 ⟨rfl, rfl⟩)
        | (go_at_call 42; refine HOV.out.mono ?_; rintro e w1 ⟨rfl, rfl⟩))
      go_ret
      exact ⟨rfl, HS.out⟩
    · have HL := Lib.hid (park_l h ok hk)
      rw [hk] at c0
      simp only [nxV] at c0
      clear h ok h6 hov hnx h0 hk
      go_enter Tryz.func14, Tryz.ntmps14
      go_wp2_with (first
        | (go_at_call 205; refine HL.out.mono ?_; rintro e w2 ⟨rfl, hs⟩; have HO2 := Lib.hid (HNX.out _ hs); have HS := Lib.hid hs; clear hs)
        | (go_at_call 42; refine HO2.out.mono ?_; rintro e w3 ⟨rfl, rfl⟩)
        | (go_at_call 42; refine HOV.out.mono ?_; rintro e w1 ⟨rfl, rfl⟩))
      go_ret
      exact ⟨rfl, HS.out⟩
end
def newK (t : Int) (a : Nat) : Lk := if 0 ≤ t ∧ t < 64 then lk1 t.toNat a else lk0
theorem new_lock (t : Int) (a : Nat) (w : World) : Calls Tryz.prog 8 #[.int .i64 t, .int .u32 (a : Int)] w fun e w' => e = .returned (Pw w.heap.size) ∧ w' = w.alloc (.cells (newK t a).cs 130) := by
  by_cases h0 : 0 ≤ t
  · by_cases h1 : t < 64
    · have hk : (newK t a).cs = #[.func (.func 41) #[.agg #[.int .i64 t, .int .u32 (a : Int)]] #[], .int .u64 0, .int .i64 0, .bool false] := by
        unfold newK; rw [if_pos ⟨h0, h1⟩]
        have e : askV t.toNat a = .agg #[.int .i64 t, .int .u32 (a : Int)] := by unfold askV; rw [Int.toNat_of_nonneg h0]
        rw [← e]; rfl
      have d0 : decide (t < 0) = false := by rw [decide_eq_false_iff_not]; omega
      have d1 : decide ((64 : Int) ≤ t) = false := by rw [decide_eq_false_iff_not]; omega
      rw [hk]
      clear hk h0 h1
      go_enter Tryz.func8, Tryz.ntmps8
      go_wp2_with fail
      go_ret
      exact ⟨rfl, rfl⟩
    · have hk : (newK t a).cs = #[.nilFunc, .int .u64 0, .int .i64 0, .bool false] := by
        unfold newK; rw [if_neg (by omega)]; rfl
      have d0 : decide (t < 0) = false := by rw [decide_eq_false_iff_not]; omega
      have d1 : decide ((64 : Int) ≤ t) = true := by rw [decide_eq_true_iff]; omega
      rw [hk]
      clear hk h0 h1
      go_enter Tryz.func8, Tryz.ntmps8
      go_wp2_with fail
      go_ret
      exact ⟨rfl, rfl⟩
  · have hk : (newK t a).cs = #[.nilFunc, .int .u64 0, .int .i64 0, .bool false] := by
      unfold newK; rw [if_neg (by omega)]; rfl
    have d0 : decide (t < 0) = true := by rw [decide_eq_true_iff]; omega
    rw [hk]
    clear hk h0
    go_enter Tryz.func8, Tryz.ntmps8
    go_wp2_with fail
    go_ret
    exact ⟨rfl, rfl⟩
end Go.Proofs.YtlflagjnlclffaaGreat.S13
namespace Go.Proofs.YtlflagjnlclffaaGreat.S13
set_option maxRecDepth 100000
set_option maxHeartbeats 16000000
open Go.Proofs.YtlflagjnlclffaaGreat Go.Proofs.YtlflagjnlclffaaGreat.S11 Go.Proofs.YtlflagjnlclffaaGreat.S12
open Go.RowKit
theorem rnew_lock (t : Int) (a : Nat) (w : World) : Calls Tryz.prog 9 #[.int .i64 t, .int .u32 (a : Int)] w fun e w' => e = .returned (Pw w.heap.size) ∧ w' = w.alloc (.cells (newK t a).rs 58) := by
  by_cases h0 : 0 ≤ t
  · by_cases h1 : t < 64
    · have hk : (newK t a).rs = #[.int .i64 1, .int .i64 t, .int .u32 (a : Int), .int .u64 0, .int .i64 0] := by
        unfold newK; rw [if_pos ⟨h0, h1⟩]
        have e : ((t.toNat : Nat) : Int) = t := Int.toNat_of_nonneg h0
        show #[_, Value.int .i64 ((t.toNat : Nat) : Int), _, _, _] = _
        rw [e]; rfl
      have d0 : decide (t < 0) = false := by rw [decide_eq_false_iff_not]; omega
      have d1 : decide ((63 : Int) < t) = false := by rw [decide_eq_false_iff_not]; omega
      rw [hk]
      clear hk h0 h1
      go_enter Tryz.func9, Tryz.ntmps9
      go_wp2_with fail
      go_ret
      exact ⟨rfl, rfl⟩
    · have hk : (newK t a).rs = #[.int .i64 0, .int .i64 0, .int .u32 0, .int .u64 0, .int .i64 0] := by
        unfold newK; rw [if_neg (by omega)]; rfl
      have d0 : decide (t < 0) = false := by rw [decide_eq_false_iff_not]; omega
      have d1 : decide ((63 : Int) < t) = true := by rw [decide_eq_true_iff]; omega
      rw [hk]
      clear hk h0 h1
      go_enter Tryz.func9, Tryz.ntmps9
      go_wp2_with fail
      go_ret
      exact ⟨rfl, rfl⟩
  · have hk : (newK t a).rs = #[.int .i64 0, .int .i64 0, .int .u32 0, .int .u64 0, .int .i64 0] := by
      unfold newK; rw [if_neg (by omega)]; rfl
    have d0 : decide (t < 0) = true := by rw [decide_eq_true_iff]; omega
    rw [hk]
    clear hk h0
    go_enter Tryz.func9, Tryz.ntmps9
    go_wp2_with fail
    go_ret
    exact ⟨rfl, rfl⟩
theorem op_same {w : World} {B C : Nat} {K : Lk} (hB : LkAt w B K) (hC : w.heap[C]? = some (.cells K.rs 58 (0, 0))) (h6 : K.ln ≤ 6) : Calls Tryz.prog 10 #[.agg #[Pw B, Pw C]] w fun e w' => e = .returned (.bool true) ∧ Below w.heap.size w w' := by
  have hb : Below w.heap.size w (w.alloc (.cells #[Pw B, Pw C] 50)) := below1 w _
  have hq := heap_alloc_new w (.cells #[Pw B, Pw C] 50)
  have hB1 : LkAt (w.alloc (.cells #[Pw B, Pw C] 50)) B K := (hb.block B (Array.getElem?_eq_some_iff.1 hB).1).trans hB
  have hC1 := (hb.block C (Array.getElem?_eq_some_iff.1 hC).1).trans hC
  have HB := Lib.hid hb
  obtain ⟨Q, hQ⟩ : ∃ Q, Q = w.heap.size := ⟨_, rfl⟩
  rw [← hQ] at hq
  have HQ := Lib.hid hQ
  have q0 := cell_row hq 0; have q1 := cell_row hq 1
  simp only [List.getElem?_toArray, List.getElem?_cons_zero, List.getElem?_cons_succ] at q0 q1
  clear hb hQ hq hB hC
  go_enter Tryz.func10, Tryz.ntmps10
  go_upto_region 1 with (fail)
  rw [← HQ.out]
  generalize w.alloc (.cells #[Pw B, Pw C] 50) = w1 at *
  have k0 : w1.cell? ⟨C, 0, none⟩ = some (.int .i64 (K.ln : Int)) := cell_row hC1 0
  have HOV : Hid (Calls Tryz.prog 42 #[Pw B] w1.drew fun e w' => e = .returned (.bool (decide (K.ln = 0))) ∧ w1.drew = w') := Lib.hid (over_any (w := w1.drew) hB1 h6)
  have HWT : Hid (Calls Tryz.prog 25 #[Pw B] w1.drew fun e w' => e = .returned (.bool (decide (K.ln = 6))) ∧ w1.drew = w') := Lib.hid (waits_any (w := w1.drew) hB1)
  have e0 : ((K.ln : Int) == 0) = decide (K.ln = 0) := by
    by_cases e : K.ln = 0
    · rw [e]; rfl
    · rw [decide_eq_false e, beq_eq_false_iff_ne]; omega
  have e6 : ((K.ln : Int) == 6) = decide (K.ln = 6) := by
    by_cases e : K.ln = 6
    · rw [e]; rfl
    · rw [decide_eq_false e, beq_eq_false_iff_ne]; omega
  clear hB1 hC1 h6
  generalize decide (K.ln = 0) = v0 at *
  generalize decide (K.ln = 6) = v6 at *
  refine wp_region_held_drew (S := fun w' => w'.cell? ⟨Q, 0, none⟩ = some (Pw B) ∧ w'.cell? ⟨Q, 1, none⟩ = some (Pw C) ∧ w'.cell? ⟨C, 0, none⟩ = some (.int .i64 (K.ln : Int))) (by kernel_rfl) ?_ (fun hHeld => ?_)
  · exact ⟨q0, q1, k0⟩
  refine tA 0 ⟨some 3, .fieldAddr 50 (.tmp 1) 0, 0, "law.go:31", #[], none⟩ ?vsm1 ?rsm1
  (try simp only [Act.put, tC, tD, tE])
  refine tA 1 ⟨some 4, .load 45 (.tmp 3), 45, "law.go:31", #[⟨0, .data⟩], none⟩ ?vsm2 ?rsm2
  (try simp only [Act.put, tC, tD, tE])
  refine tA 3 ⟨some 6, .fieldAddr 50 (.tmp 1) 1, 0, "law.go:31", #[], none⟩ ?vsm3 ?rsm3
  (try simp only [Act.put, tC, tD, tE])
  refine tA 4 ⟨some 7, .load 47 (.tmp 6), 47, "law.go:31", #[⟨3, .data⟩], none⟩ ?vsm4 ?rsm4
  (try simp only [Act.put, tC, tD, tE])
  refine tA 5 ⟨some 8, .nilCheck (.tmp 7), 0, "law.go:31", #[⟨4, .data⟩], none⟩ ?vsm5 ?rsm5
  (try simp only [Act.put, tC, tD, tE])
  refine tA 6 ⟨some 9, .fieldAddr 58 (.tmp 8) 0, 0, "law.go:31", #[⟨5, .data⟩], none⟩ ?vsm6 ?rsm6
  (try simp only [Act.put, tC, tD, tE])
  refine tA 7 ⟨some 10, .load 3 (.tmp 9), 3, "law.go:31", #[⟨6, .data⟩], none⟩ ?vsm7 ?rsm7
  (try simp only [Act.put, tC, tD, tE])
  refine tA 8 ⟨some 11, .binOp .eql 3 (.tmp 10) (.const (.int .i64 0)) 3, 4, "law.go:31", #[⟨7, .data⟩], none⟩ ?vsm8 ?rsm8
  (try simp only [Act.put, tC, tD, tE])
  refine wpAnyH_ready (rs := [2]) (by kernel_rfl) (by simp) ?_
  refine AllReadyH.cons (o := ⟨some 5, .call ⟨.value (.func 42), #[.tmp 4], #[45]⟩, 4, "law.go:31", #[⟨1, .data⟩], none⟩) rfl (fun Kq hKq => ?_) AllReadyH.nil
  go_simp
  (refine HOV.out.mono ?_; rintro e w8 ⟨rfl, rfl⟩)
  refine hKq.out _ _ ?_ (fun hHeld => ?_)
  · exact hHeld
  clear hKq Kq
  (try simp only [Act.put, tC, tD, tE])
  refine tA 9 ⟨some 12, .binOp .eql 4 (.tmp 5) (.tmp 11) 4, 4, "law.go:31", #[⟨2, .data⟩, ⟨8, .data⟩], none⟩ ?vsm9 ?rsm9
  (try simp only [Act.put, tC, tD, tE])
  refine tA 10 ⟨some 13, .move (.tmp 12), 4, "law.go:31", #[⟨9, .data⟩, ⟨2, .chain⟩], none⟩ ?vsm10 ?rsm10
  (try simp only [Act.put, tC, tD, tE])
  refine tA 11 ⟨some 14, .fieldAddr 50 (.tmp 1) 0, 0, "law.go:31", #[⟨10, .guard⟩], some (10, true)⟩ ?vsm11 ?rsm11
  (try simp only [Act.put, tC, tD, tE])
  refine tA 12 ⟨some 15, .load 45 (.tmp 14), 45, "law.go:31", #[⟨11, .data⟩, ⟨10, .guard⟩], some (10, true)⟩ ?vsm12 ?rsm12
  (try simp only [Act.put, tC, tD, tE])
  refine tA 14 ⟨some 17, .fieldAddr 50 (.tmp 1) 1, 0, "law.go:31", #[⟨10, .guard⟩], some (10, true)⟩ ?vsm13 ?rsm13
  (try simp only [Act.put, tC, tD, tE])
  refine tA 15 ⟨some 18, .load 47 (.tmp 17), 47, "law.go:31", #[⟨14, .data⟩, ⟨10, .guard⟩], some (10, true)⟩ ?vsm14 ?rsm14
  (try simp only [Act.put, tC, tD, tE])
  refine tA 16 ⟨some 19, .nilCheck (.tmp 18), 0, "law.go:31", #[⟨15, .data⟩, ⟨10, .guard⟩], some (10, true)⟩ ?vsm15 ?rsm15
  (try simp only [Act.put, tC, tD, tE])
  refine tA 17 ⟨some 20, .fieldAddr 58 (.tmp 19) 0, 0, "law.go:31", #[⟨16, .data⟩, ⟨10, .guard⟩], some (10, true)⟩ ?vsm16 ?rsm16
  (try simp only [Act.put, tC, tD, tE])
  refine tA 18 ⟨some 21, .load 3 (.tmp 20), 3, "law.go:31", #[⟨17, .data⟩, ⟨10, .guard⟩], some (10, true)⟩ ?vsm17 ?rsm17
  (try simp only [Act.put, tC, tD, tE])
  refine tA 19 ⟨some 22, .binOp .eql 3 (.tmp 21) (.const (.int .i64 6)) 3, 4, "law.go:31", #[⟨18, .data⟩, ⟨10, .guard⟩], some (10, true)⟩ ?vsm18 ?rsm18
  (try simp only [Act.put, tC, tD, tE])
  refine wpAnyH_ready (rs := [13]) (by kernel_rfl) (by simp) ?_
  refine AllReadyH.cons (o := ⟨some 16, .call ⟨.value (.func 25), #[.tmp 15], #[45]⟩, 4, "law.go:31", #[⟨12, .data⟩, ⟨10, .chain⟩, ⟨10, .guard⟩], some (10, true)⟩) rfl (fun Kq hKq => ?_) AllReadyH.nil
  go_simp
  (refine HWT.out.mono ?_; rintro e w8 ⟨rfl, rfl⟩)
  refine hKq.out _ _ ?_ (fun hHeld => ?_)
  · exact hHeld
  clear hKq Kq
  (try simp only [Act.put, tC, tD, tE])
  refine tA 20 ⟨some 23, .binOp .eql 4 (.tmp 16) (.tmp 22) 4, 4, "law.go:31", #[⟨13, .data⟩, ⟨19, .data⟩, ⟨10, .guard⟩], some (10, true)⟩ ?vsm19 ?rsm19
  (try simp only [Act.put, tC, tD, tE])
  refine tA 21 ⟨some 24, .pick (.tmp 13) (.tmp 23) (.const (.bool false)), 4, "law.go:31", #[⟨10, .data⟩, ⟨20, .data⟩], none⟩ ?vsm20 ?rsm20
  (try simp only [Act.put, tC, tD, tE])
  refine tA 22 ⟨some 2, .assign (.tmp 24), 4, "law.go:31", #[⟨21, .data⟩, ⟨13, .chain⟩, ⟨0, .phase⟩, ⟨1, .phase⟩, ⟨2, .phase⟩, ⟨3, .phase⟩, ⟨4, .phase⟩, ⟨5, .phase⟩, ⟨6, .phase⟩, ⟨7, .phase⟩, ⟨8, .phase⟩, ⟨9, .phase⟩, ⟨10, .phase⟩, ⟨11, .phase⟩, ⟨12, .phase⟩, ⟨13, .phase⟩, ⟨14, .phase⟩, ⟨15, .phase⟩, ⟨16, .phase⟩, ⟨17, .phase⟩, ⟨18, .phase⟩, ⟨19, .phase⟩, ⟨20, .phase⟩, ⟨21, .phase⟩], none⟩ ?vsm21 ?rsm21
  (try simp only [Act.put, tC, tD, tE])
  refine wpAnyH_done (by kernel_rfl) ?_ _
  go_wp2_with fail
  go_ret
  exact ⟨by simp, HB.out.drew⟩
structure SdOk (M : Sd) (N cn : Nat) : Prop where
  n : M.n ≤ cn
  pn : M.pn ≤ cn
  nD : M.nD.length ≤ cn
  pok : S4.PkOk M.pf
  byt : S2.Byt M.L
  nk : ∀ d ∈ M.nD, d.k < 256
  pkr : 0 ≤ M.pk ∧ M.pk < 256
  gd : S10.Good M.m N
  spk : 0 ≤ M.sp ∧ M.sp ≤ 16
theorem SdOk.acc {M : Sd} {N cn : Nat} (h : SdOk M N cn) (k a y : Nat) : SdOk (M.acc k a y) N (cn + 1) :=
  ⟨Nat.succ_le_succ h.n, Nat.le_succ_of_le h.pn, Nat.le_succ_of_le h.nD, h.pok, h.byt.put a y, h.nk, h.pkr, h.gd, h.spk⟩
theorem SdOk.call {M : Sd} {N cn : Nat} (h : SdOk M N cn) (k p : Int) (f : Nat → S4.Pk) (hf : S4.PkOk f) (hk : 0 ≤ k ∧ k < 256) : SdOk (M.call k p f) N (cn + 1) :=
  ⟨Nat.le_succ_of_le h.n, Nat.succ_le_succ h.pn, Nat.le_succ_of_le h.nD, hf, h.byt, h.nk, hk, h.gd, h.spk⟩
theorem SdOk.link {M : Sd} {N cn : Nat} (h : SdOk M N cn) (S : S5.Lk) : SdOk (M.link S) N cn :=
  ⟨h.n, h.pn, h.nD, h.pok, h.byt, h.nk, h.pkr, h.gd, h.spk⟩
theorem SdOk.more {M : Sd} {N cn : Nat} (h : SdOk M N cn) : SdOk M N (cn + 1) :=
  ⟨Nat.le_succ_of_le h.n, Nat.le_succ_of_le h.pn, Nat.le_succ_of_le h.nD, h.pok, h.byt, h.nk, h.pkr, h.gd, h.spk⟩
theorem SdOk.prep {M : Sd} {N cn : Nat} (h : SdOk M N cn) (i : Nat) : SdOk (M.prep i) N (cn + 1) := h.call _ _ _ (h.pok.upd (fun _ => ⟨rfl, rfl⟩)) ⟨by decide, by decide⟩
theorem SdOk.park {M : Sd} {N cn : Nat} (h : SdOk M N cn) (i : Nat) : SdOk (M.park i) N (cn + 1) :=
  h.call _ _ _ (h.pok.upd (by
    unfold S4.parkK
    split
    · exact fun _ => ⟨rfl, rfl⟩
    · exact fun hx => absurd hx (by decide))) ⟨by decide, by decide⟩
theorem SdOk.unpark {M : Sd} {N cn : Nat} (h : SdOk M N cn) (i : Nat) : SdOk (M.unpark i) N (cn + 1) := h.call _ _ _ (h.pok.upd (h.pok i)) ⟨by decide, by decide⟩
theorem SdOk.step {M : Sd} {N cn : Nat} (h : SdOk M N cn) (K : Lk) : SdOk (stepM M K) N (cn + 1) := by
  unfold stepM
  split
  · exact h.acc _ _ _
  · exact h.acc _ _ _
  · exact h.acc _ _ _
  · exact (h.prep _).link _
  · exact h.acc _ _ _
  · exact h.park _
  · exact h.more
section
variable {w0 w w' : World} {base WB RB N cn tn : Nat} {M : Sd} {E : List Part} {X : Wm} {Y : Rm}
theorem bg_ok (h : Bg w0 w base WB RB N cn tn M M E X Y) : SdOk M N cn := by
  have e := h.xm
  subst e
  exact ⟨h.xn, h.pn, h.nD, h.pok, h.byt, h.nk, h.pkr, h.gd, h.spk⟩
theorem bg_rg (h : Bg w0 w base WB RB N cn tn M M E X Y) : Rg w0 w base RB M X.parts E Y := ⟨h.pr, h.rB, h.ym, h.rb, h.bl⟩
theorem bg_pg (h : Bg w0 w base WB RB N cn tn M M E X Y) : Pg w0 w base WB M (Y.parts ++ E) X := ⟨h.pr, h.wB, h.xm, h.bl⟩
theorem bg_of (o : SdOk M N cn) (hp : Pg w0 w base WB M (Y.parts ++ E) X) (rB : Y.wB = RB) (ym : Y.sd = M) (rb : Y.rb ≤ w.heap.size) : Bg w0 w base WB RB N cn X.tn M M E X Y := by
  have e := hp.xm
  have e2 := ym
  have en : X.n = M.n := congrArg Sd.n e
  have epn : X.pn = M.pn := congrArg Sd.pn e
  have ep : X.pf = M.pf := congrArg Sd.pf e
  have eL : X.L = M.L := congrArg Sd.L e
  have eD : X.nD = M.nD := congrArg Sd.nD e
  have ek : X.pk = M.pk := congrArg Sd.pk e
  have fn : Y.n = M.n := congrArg Sd.n e2
  have fpn : Y.pn = M.pn := congrArg Sd.pn e2
  exact { pr := hp.ps, wB := hp.wB, rB := rB, xn := by rw [en]; exact o.n, yn := by rw [fn]; exact o.n, pn := by rw [epn]; exact o.pn, yp := by rw [fpn]; exact o.pn, nD := by rw [eD]; exact o.nD, pok := by rw [ep]; exact o.pok, byt := by rw [eL]; exact o.byt, nk := by rw [eD]; exact o.nk, pkr := by rw [ek]; exact o.pkr, xm := hp.xm, ym := ym, gd := o.gd, gr := o.gd, tn := Nat.le_refl _, spk := o.spk, rb := rb, bl := hp.bl }
end
end Go.Proofs.YtlflagjnlclffaaGreat.S13
namespace Go.Proofs.YtlflagjnlclffaaGreat.S13
set_option maxRecDepth 100000
set_option maxHeartbeats 16000000
open Go.Proofs.YtlflagjnlclffaaGreat Go.Proofs.YtlflagjnlclffaaGreat.S11 Go.Proofs.YtlflagjnlclffaaGreat.S12
open Go.RowKit
def sdN (spin : Int) (most : Nat) : Sd := ⟨L02, 0, 0, 0, 0, 0, 0, most, [], fun _ => S4.pk0, 0, 0, 0, S5.S0, S10.M0 0, [], spin⟩
theorem at0_sd {X : Wm} {spin : Int} {most : Nat} (h : At0 X spin most []) : X.sd = sdN spin most := by
  unfold Wm.sd sdN
  rw [h.L, h.n, h.k, h.a, h.was, h.is, h.T, h.most, h.D, h.pf, h.pn, h.pk, h.pp, h.lk, h.tM, h.nD, h.sp]
theorem pg_of {w0 w : World} {base : Nat} {X : Wm} (h : PW w base X) (b : Below base w0 w) : Pg w0 w base X.wB X.sd [] X :=
  ⟨by rw [List.append_nil]; exact h, rfl, rfl, b⟩
section
variable {w0 w w' : World} {base WB : Nat} {M : Sd} {r : List Part} {X : Wm}
theorem Pg.add (h : Pg w0 w base WB M r X) (ob : Obj) : Pg w0 (w.alloc ob) base WB M (r ++ [blockP w.heap.size ob]) X := by
  have hp := h.ps.push (blockP w.heap.size ob) (below1 w ob) (heap_alloc_new w ob) (fun k e => Nat.le_of_eq (show k = w.heap.size from e).symm)
  rw [List.append_assoc] at hp
  exact ⟨hp, h.wB, h.xm, h.bl.alloc h.size _⟩
theorem Pg.lock (h : Pg w0 w base WB M r X) (K : Lk) : Wl w0 (w.alloc (.cells K.cs 130)) base WB M (r ++ [lockP w.heap.size K]) r.length w.heap.size K X := by
  refine ⟨?_, by rw [List.length_append]; simp⟩
  rw [List.set_append_right _ _ (Nat.le_refl _), Nat.sub_self]
  exact Pg.add h _
end
theorem world_any (sp : Nat) (hsp : sp < 256) (w : World) : Calls Tryz.prog 23 #[.int .u8 (sp : Int)] w fun e w' => ∃ X, e = .returned (Pw X.wB) ∧ PW w' w.heap.size X ∧ At0 X ((sp % 17 : Nat) : Int) 5 [] ∧ Below w.heap.size w w' := by
  have hck : ∀ W, Below w.heap.size w W → Calls Tryz.prog 81 #[.slice none 0 0, .int .u64 ((5 : Nat) : Int)] W (S3.Made W 0 5 []) := fun W _ => S3.new_any (D := []) (b2 := 0) 0 5 (Nat.le_refl _) (by omega) (by omega) S3.Rd.nil (Nat.zero_le _) (fun d hd => by cases hd)
  have hok : okC (((sp % 17 : Nat) : Int)) 0 = true := by simp [okC]; omega
  have hnew : Calls Tryz.prog 31 #[.agg #[.int .i64 ((sp % 17 : Nat) : Int), .int .u64 5, .slice none 0 0]] w fun e w' => NewW w w' ((sp % 17 : Nat) : Int) 5 [] e := new_yes _ 5 0 0 none hok hck
  have e1 : (sp : Int).tmod 17 = ((sp % 17 : Nat) : Int) := by rw [Int.tmod_eq_emod_of_nonneg (by omega)]; omega
  have e1' : (sp : Int) % 17 = ((sp % 17 : Nat) : Int) := by omega
  have e2 : IntKind.u8.wrap ((sp % 17 : Nat) : Int) = ((sp % 17 : Nat) : Int) := by rw [IntKind.wrap_u8]; omega
  have e3 : IntKind.i64.wrap ((sp % 17 : Nat) : Int) = ((sp % 17 : Nat) : Int) := by rw [IntKind.wrap_i64]; omega
  have e4 : wrap64 ((sp % 17 : Nat) : Int) = ((sp % 17 : Nat) : Int) := by unfold wrap64; omega
  have e5 : IntKind.i64.wrap (sp : Int) = (sp : Int) := by rw [IntKind.wrap_i64]; omega
  have HN := Lib.hid hnew
  clear hck hok hnew hsp
  generalize sp % 17 = n at *
  go_enter Tryz.func23, Tryz.ntmps23
  go_wp2_with (go_at_call 31; refine HN.out.mono ?_; rintro e w1 ⟨X, rfl, hp, h0, hb⟩)
  go_ret
  exact ⟨X, rfl, hp, h0, hb⟩
def it (p : Sd × Lk) : Sd × Lk := (stepM p.1 p.2, stepK p.1 p.2)
end Go.Proofs.YtlflagjnlclffaaGreat.S13
namespace Go.Proofs.YtlflagjnlclffaaGreat.S13
open Go.Proofs.YtlflagjnlclffaaGreat Go.Proofs.YtlflagjnlclffaaGreat.S11 Go.Proofs.YtlflagjnlclffaaGreat.S12
open Go.RowKit
structure LkGo (M : Sd) (K : Lk) (c : Nat) : Prop where
  ok : LkOk M K
  ln : K.ln ≤ 6
  lk : ∀ a, S2.look M.L a < 18446744073709551616
  n : M.n ≤ c
  pn : M.pn ≤ c
theorem cas_st {K K' : Lk} {x was : Nat} (hx : x < 18446744073709551616) (h : K'.st < 18446744073709551616) : (K.cas x was K').st < 18446744073709551616 := by
  unfold Lk.cas Lk.turn
  repeat (first | split | exact hx | exact h)
theorem turn_st {K : Lk} {x : Nat} (hx : x < 18446744073709551616) : (K.turn x).st < 18446744073709551616 := by
  unfold Lk.turn
  repeat (first | split | exact hx)
theorem turn_sp {K : Lk} {x : Nat} (h : 0 ≤ K.sp ∧ K.sp ≤ 16) : 0 ≤ (K.turn x).sp ∧ (K.turn x).sp ≤ 16 := by
  unfold Lk.turn
  repeat (first | split | exact h | (show 0 ≤ K.sp - 1 ∧ K.sp - 1 ≤ 16; omega))
theorem cas_sp {K K' : Lk} {x was : Nat} (h : 0 ≤ K.sp ∧ K.sp ≤ 16) (h' : 0 ≤ K'.sp ∧ K'.sp ≤ 16) : 0 ≤ (K.cas x was K').sp ∧ (K.cas x was K').sp ≤ 16 := by
  unfold Lk.cas
  split
  · exact h'
  · exact turn_sp h
theorem turn_t {K : Lk} {x : Nat} : (K.turn x).t = K.t ∧ (K.turn x).a = K.a := by
  unfold Lk.turn
  repeat (first | split | exact ⟨rfl, rfl⟩)
theorem cas_t {K K' : Lk} {x was : Nat} (h : K'.t = K.t ∧ K'.a = K.a) : (K.cas x was K').t = K.t ∧ (K.cas x was K').a = K.a := by
  unfold Lk.cas
  split
  · exact h
  · exact turn_t
theorem stepK_t (M : Sd) (K : Lk) : (stepK M K).t = K.t ∧ (stepK M K).a = K.a := by
  unfold stepK
  split
  · exact cas_t (K := ({ K with sp := M.sp } : Lk)) ⟨rfl, rfl⟩
  · exact cas_t ⟨rfl, rfl⟩
  · exact turn_t
  · exact ⟨rfl, rfl⟩
  · exact cas_t ⟨rfl, rfl⟩
  · split <;> exact ⟨rfl, rfl⟩
  · exact ⟨rfl, rfl⟩
theorem stepM_sp (M : Sd) (K : Lk) : (stepM M K).sp = M.sp := by
  unfold stepM
  split <;> rfl
theorem look_acc {M : Sd} {k a y : Nat} (h : ∀ b, S2.look M.L b < 18446744073709551616) (hy : y < 18446744073709551616) (b : Nat) : S2.look (M.acc k a y).L b < 18446744073709551616 := by
  show S2.look (S2.putL M.L a (S2.bring a y)) b < _
  by_cases e : b = a
  · subst e; rw [S2.look_put_same]; exact S2.bring_lt hy
  · rw [S2.look_put_other _ e]; exact h b
theorem LkGo.step {M : Sd} {K : Lk} {c : Nat} (h : LkGo M K c) (hc : c < 1000000000) : LkGo (stepM M K) (stepK M K) (c + 1) := by
  have hl := h.lk K.a
  have hcas : ∀ u v, v < 18446744073709551616 → S2.casV (S2.look M.L K.a) u v < 18446744073709551616 := fun u v hv => S2.casV_lt hl hv
  have hnp : (stepM M K).n ≤ c + 1 ∧ (stepM M K).pn ≤ c + 1 := by
    have := h.n; have := h.pn
    unfold stepM
    split <;> (first | (simp only [Sd.acc, Sd.prep, Sd.link, Sd.park, Sd.call]; omega) | omega)
  have hlk : ∀ b, S2.look (stepM M K).L b < 18446744073709551616 := by
    intro b
    unfold stepM
    split
    · exact look_acc h.lk (hcas _ _ (by omega)) b
    · exact look_acc h.lk (hcas _ _ (S1.putU_lt _ _ _)) b
    · exact look_acc h.lk hl b
    · exact h.lk b
    · exact look_acc h.lk (hcas _ _ (S1.putU_lt _ _ _)) b
    · exact h.lk b
    · exact h.lk b
  refine ⟨⟨?_, ?_, ?_, ?_, ?_, by omega, by omega⟩, step_le h.ln, hlk, hnp.1, hnp.2⟩
  · rw [(stepK_t M K).1]; exact h.ok.t
  · rw [(stepK_t M K).2]; exact h.ok.a
  · unfold stepK
    split
    · exact cas_st hl h.ok.st
    · exact cas_st hl h.ok.st
    · exact turn_st hl
    · exact h.ok.st
    · exact cas_st hl h.ok.st
    · split <;> exact h.ok.st
    · exact h.ok.st
  · unfold stepK
    split
    · exact cas_sp (K := ({ K with sp := M.sp } : Lk)) h.ok.ms h.ok.ms
    · exact cas_sp h.ok.sp h.ok.sp
    · exact turn_sp h.ok.sp
    · exact h.ok.sp
    · exact cas_sp h.ok.sp h.ok.sp
    · split
      · exact h.ok.ms
      · exact h.ok.sp
    · exact h.ok.sp
  · rw [stepM_sp]; exact h.ok.ms
end Go.Proofs.YtlflagjnlclffaaGreat.S13
namespace Go.Proofs.YtlflagjnlclffaaGreat.S13
open Go.Proofs.YtlflagjnlclffaaGreat Go.Proofs.YtlflagjnlclffaaGreat.S11 Go.Proofs.YtlflagjnlclffaaGreat.S12
open Go.RowKit
theorem set_self {α : Type} {l : List α} {j : Nat} {p : α} (h : l[j]? = some p) : l.set j p = l := by
  obtain ⟨hj, he⟩ := List.getElem?_eq_some_iff.1 h
  rw [← he]; exact List.set_getElem_self hj
section
variable {w0 w w' : World} {base WB RB N cn tn : Nat} {M : Sd} {E : List Part} {X : Wm} {Y : Rm}
theorem bg_drop1 {q : Part} (h : Bg w0 w base WB RB N cn tn M M (E ++ [q]) X Y) : Bg w0 w base WB RB N cn tn M M E X Y := by
  have hp := h.pr
  unfold PairAt at hp
  rw [← List.append_assoc, ← List.append_assoc, List.append_assoc X.parts] at hp
  exact { h with pr := Parts.left hp }
theorem Pg.tail {r : List Part} {Q : Nat} {ob : Obj} (h : Pg w0 w base WB M (r ++ [blockP Q ob]) X) : w.heap[Q]? = some ob :=
  h.ps.ok _ (blockP Q ob) (h.part (j := r.length) (by rw [List.getElem?_append_right (Nat.le_refl _), Nat.sub_self]; rfl))
theorem bg_unpark1 {q : Nat} {ob : Obj} (h : Bg w0 w base WB RB N cn tn M M (E ++ [blockP q ob]) X Y) (hc : cn ≤ 100000000) {i : Nat} (hi : i < 128) :
    Calls Tryz.prog 45 #[Pw X.pB, .int .i64 (i : Int)] w fun e w' => e = .returned (.tuple #[]) ∧ w'.heap[q]? = some ob ∧ (Calls Tryz.prog 46 #[Pw RB, .int .i64 (i : Int)] w' fun e w'' => e = .returned (.tuple #[]) ∧ ∃ tn' M' X' Y', Bg w0 w'' base WB RB N (cn + 1) tn' M' M' E X' Y') := by
  have o := bg_ok h
  have hp : Pg w w base WB M (Y.parts ++ (E ++ [blockP q ob])) X := ⟨h.pr, h.wB, h.xm, Below.refl _ _⟩
  refine (hp.unpark (by have := o.pn; omega) hi).mono ?_
  rintro e w2 ⟨rfl, X2, h2, _⟩
  have hr : Rg w w2 base RB M X2.parts (E ++ [blockP q ob]) Y := ⟨h2.ps, h.rB, h.ym, Nat.le_trans h.rb h2.bl.size, h2.bl⟩
  refine ⟨rfl, Pg.tail (r := Y.parts ++ E) (by rw [List.append_assoc]; exact h2), ?_⟩
  refine (hr.unpark (by have := o.pn; omega) hi).mono ?_
  rintro e w3 ⟨rfl, Y3, h3⟩
  exact ⟨rfl, _, _, X2, Y3, bg_drop1 (bg_of (o.unpark i) ⟨h3.ps, h2.wB, h2.xm, h.bl.trans h3.bl⟩ h3.rB h3.ym h3.rb)⟩
theorem bg_more (h : Bg w0 w base WB RB N cn tn M M E X Y) : Bg w0 w base WB RB N (cn + 1) tn M M E X Y := h.mono (Nat.le_refl _) (Nat.le_succ _) (Nat.le_refl _)
theorem pair_unpark (h : Bg w0 w base WB RB N cn tn M M E X Y) (hc : cn ≤ 100000000) (n : Int) :
    Calls Tryz.prog 12 #[.agg #[Pw WB, Pw RB], .int .i64 n] w fun e w' => e = .returned (.tuple #[]) ∧ ∃ tn' M' X' Y', Bg w0 w' base WB RB N (cn + 1) tn' M' M' E X' Y' := by
  have h1 := h.push (blockP w.heap.size (.cells #[Pw WB, Pw RB] 36)) (below1 w _) (heap_alloc_new w _) (fun k e => Nat.le_of_eq (show k = w.heap.size from e).symm)
  have hq := heap_alloc_new w (.cells #[Pw WB, Pw RB] 36)
  obtain ⟨Q, hQ⟩ : ∃ Q, Q = w.heap.size := ⟨_, rfl⟩
  rw [← hQ] at h1 hq
  have HQ := Lib.hid hQ
  have c0 := cell_row hq 0; have c1 := cell_row hq 1
  simp only [List.getElem?_toArray, List.getElem?_cons_zero, List.getElem?_cons_succ] at c0 c1
  have x2 := (bg_pg h1).c.2.1
  have HA : Hid (Calls Tryz.prog 45 #[Pw X.pB, .int .i64 n] (w.alloc (.cells #[Pw WB, Pw RB] 36)) fun e w' => e = .returned (.tuple #[]) ∧ w'.heap[Q]? = some (.cells #[Pw WB, Pw RB] 36 (0, 0)) ∧ (Calls Tryz.prog 46 #[Pw RB, .int .i64 n] w' fun e w'' => e = .returned (.tuple #[]) ∧ ∃ tn' M' X' Y', Bg w0 w'' base WB RB N (cn + 1) tn' M' M' E X' Y')) := Lib.hid (by
    by_cases hn : 0 ≤ n ∧ n < 128
    · obtain ⟨i, rfl⟩ := Int.eq_ofNat_of_zero_le hn.1
      exact bg_unpark1 h1 hc (by omega)
    · refine (S4.unpark_no X.pB n hn _).mono ?_
      rintro e w' ⟨rfl, rfl⟩
      refine ⟨rfl, hq, ?_⟩
      have y2 := (bg_rg h1).c.2.1
      have HR := Lib.hid (S4.runpark_no Y.pB n hn)
      have HH : Hid (∃ tn' M' X' Y', Bg w0 (w.alloc (.cells #[Pw WB, Pw RB] 36)) base WB RB N (cn + 1) tn' M' M' E X' Y') := Lib.hid ⟨_, _, _, _, bg_more (bg_drop1 h1)⟩
      clear h h1 hq c0 c1 x2 hn
      generalize w.alloc (.cells #[Pw WB, Pw RB] 36) = w1 at *
      go_enter Tryz.func46, Tryz.ntmps46
      go_wp2_with (go_at_call 106; refine (HR.out _).mono ?_; rintro e w1 ⟨rfl, rfl⟩)
      go_end0
      exact ⟨rfl, HH.out⟩)
  clear h h1 hq hQ hc
  go_enter Tryz.func12, Tryz.ntmps12
  go_upto_region 1 with (fail)
  rw [← HQ.out]
  generalize w.alloc (.cells #[Pw WB, Pw RB] 36) = w1 at *
  go_upto_region 2 with (go_at_call 45; refine HA.out.mono ?_; rintro e w2 ⟨rfl, hq2, hb⟩)
  have c1 := cell_row hq2 1
  simp only [List.getElem?_toArray, List.getElem?_cons_zero, List.getElem?_cons_succ] at c1
  have HB := Lib.hid hb
  clear hq2 hb HA c0 x2
  go_wp2_with (go_at_call 46; refine HB.out.mono ?_; rintro e w3 ⟨rfl, hb3⟩)
  go_end0
  exact ⟨rfl, hb3⟩
structure Mid (w0 w : World) (base WB RB : Nat) (M : Sd) (K : Lk) (E : List Part) (X : Wm) (Y : Rm) : Prop where
  rg : Rg w0 w base RB (stepM M K) X.parts E Y
  wB : X.wB = WB
  xm : X.sd = M
theorem bg_rstep (h : Bg w0 w base WB RB N cn tn M M E X Y) {j C : Nat} {K : Lk} (hj : E[j]? = some (lockRP C K)) (ok : LkOk M K) (h6 : K.ln ≤ 6) :
    Calls Tryz.prog 13 #[Pw C, Pw RB] w fun e w' => e = .returned (.tuple #[]) ∧ ∃ Y', Mid w0 w' base WB RB M K (E.set j (lockRP C (stepK M K))) X Y' := by
  have hr : Wr w0 w base RB M X.parts E j C K Y := ⟨by rw [set_self hj]; exact bg_rg h, (List.getElem?_eq_some_iff.1 hj).1⟩
  refine (step_r hr ok h6 (bg_ok h).byt).mono ?_
  rintro e w' ⟨rfl, Y', h'⟩
  exact ⟨rfl, Y', h'.pg, h.wB, h.xm⟩
theorem mid_step {K : Lk} (h : Mid w0 w base WB RB M K E X Y) (o : SdOk M N cn) {j B : Nat} (hj : E[j]? = some (lockP B K)) (ok : LkOk M K) (h6 : K.ln ≤ 6) :
    Calls Tryz.prog 14 #[Pw B, Pw WB] w fun e w' => e = .returned (.bool (decide ((stepK M K).ln = 0))) ∧ ∃ tn' X', Bg w0 w' base WB RB N (cn + 1) tn' (stepM M K) (stepM M K) (E.set j (lockP B (stepK M K))) X' Y := by
  have hy : Y.parts.length = 7 := rfl
  have hj2 : (Y.parts ++ E)[Y.parts.length + j]? = some (lockP B K) := by rw [get_mid]; exact hj
  have hp : Wl w w base WB M (Y.parts ++ E) (Y.parts.length + j) B K X := ⟨⟨by rw [set_self hj2]; exact h.rg.ps, h.wB, h.xm, Below.refl _ _⟩, (List.getElem?_eq_some_iff.1 hj2).1⟩
  refine (step_any hp ok h6).mono ?_
  rintro e w' ⟨rfl, X', h'⟩
  have hg := h'.pg
  rw [set_mid] at hg
  exact ⟨rfl, _, X', bg_of (o.step K) ⟨hg.ps, hg.wB, hg.xm, h.rg.bl.trans hg.bl⟩ h.rg.rB h.rg.ym (Nat.le_trans h.rg.rb hg.bl.size)⟩
end
structure KOk (K : Lk) : Prop where
  t : K.t < 64
  a : K.a < 4294967296
  st : K.st < 18446744073709551616
  sp : 0 ≤ K.sp ∧ K.sp ≤ 16
  ln : K.ln ≤ 6
theorem KOk.ok {M : Sd} {K : Lk} {N cn : Nat} (h : KOk K) (o : SdOk M N cn) (hc : cn ≤ 100000000) : LkOk M K :=
  ⟨h.t, h.a, h.st, h.sp, o.spk, by have := o.n; omega, by have := o.pn; omega⟩
theorem KOk.step {M : Sd} {K : Lk} {N cn : Nat} (h : KOk K) (o : SdOk M N cn) (hc : cn ≤ 100000000) (hl : ∀ a, S2.look M.L a < 18446744073709551616) : KOk (stepK M K) := by
  have g : LkGo M K cn := ⟨h.ok o hc, h.ln, hl, o.n, o.pn⟩
  have g2 := g.step (by omega)
  exact ⟨g2.ok.t, g2.ok.a, g2.ok.st, g2.ok.sp, g2.ln⟩
theorem kok_new (t : Int) (a : Nat) (ha : a < 4294967296) : KOk (newK t a) := by
  unfold newK
  split
  · rename_i h
    exact ⟨by show t.toNat < 64; omega, ha, by show 0 < 18446744073709551616; decide, ⟨by show (0 : Int) ≤ 0; decide, by show (0 : Int) ≤ 16; decide⟩, by show 1 ≤ 6; decide⟩
  · exact ⟨by decide, by decide, by decide, by decide, by decide⟩
theorem bg_look {w0 w : World} {base WB RB N cn tn : Nat} {M : Sd} {E : List Part} {X : Wm} {Y : Rm} (h : Bg w0 w base WB RB N cn tn M M E X Y) (a : Nat) : S2.look M.L a < 18446744073709551616 := by
  have := S2.look_lt h.pr.pw.cells.good a
  rwa [show X.L = M.L from congrArg Sd.L h.xm] at this
abbrev O3 := Nat × Nat × Lk
def lp (o : O3) : List Part := [lockP o.1 o.2.2, lockRP o.2.1 o.2.2]
def lparts (L : List O3) : List Part := L.flatMap lp
def lcs (L : List O3) : List Value := L.flatMap fun o => [Pw o.1, Pw o.2.1]
theorem lparts_get : ∀ (L : List O3) (i : Nat) (o : O3), L[i]? = some o → (lparts L)[2 * i]? = some (lockP o.1 o.2.2) ∧ (lparts L)[2 * i + 1]? = some (lockRP o.2.1 o.2.2) ∧ (lcs L)[i * 2]? = some (Pw o.1) ∧ (lcs L)[i * 2 + 1]? = some (Pw o.2.1)
  | [], i, o, h => by simp at h
  | p :: r, 0, o, h => by
    simp only [List.getElem?_cons_zero, Option.some.injEq] at h; subst h; exact ⟨rfl, rfl, rfl, rfl⟩
  | p :: r, i + 1, o, h => by
    simp only [List.getElem?_cons_succ] at h
    obtain ⟨h1, h2, h3, h4⟩ := lparts_get r i o h
    have e : lparts (p :: r) = lockP p.1 p.2.2 :: lockRP p.2.1 p.2.2 :: lparts r := rfl
    have e2 : lcs (p :: r) = Pw p.1 :: Pw p.2.1 :: lcs r := rfl
    rw [e, e2, show 2 * (i + 1) = 2 * i + 1 + 1 by omega, show 2 * i + 1 + 1 + 1 = (2 * i + 1) + 1 + 1 by omega, show (i + 1) * 2 = i * 2 + 1 + 1 by omega]
    exact ⟨h1, h2, h3, h4⟩
theorem lparts_set : ∀ (L : List O3) (i : Nat) (o : O3) (K : Lk), L[i]? = some o → ((lparts L).set (2 * i + 1) (lockRP o.2.1 K)).set (2 * i) (lockP o.1 K) = lparts (L.set i (o.1, o.2.1, K)) ∧ lcs (L.set i (o.1, o.2.1, K)) = lcs L
  | [], i, o, K, h => by simp at h
  | p :: r, 0, o, K, h => by
    simp only [List.getElem?_cons_zero, Option.some.injEq] at h; subst h; exact ⟨rfl, rfl⟩
  | p :: r, i + 1, o, K, h => by
    simp only [List.getElem?_cons_succ] at h
    obtain ⟨h1, h2⟩ := lparts_set r i o K h
    have e : lparts (p :: r) = lockP p.1 p.2.2 :: lockRP p.2.1 p.2.2 :: lparts r := rfl
    have e3 : lparts ((p :: r).set (i + 1) (o.1, o.2.1, K)) = lockP p.1 p.2.2 :: lockRP p.2.1 p.2.2 :: lparts (r.set i (o.1, o.2.1, K)) := rfl
    have e4 : lcs ((p :: r).set (i + 1) (o.1, o.2.1, K)) = Pw p.1 :: Pw p.2.1 :: lcs (r.set i (o.1, o.2.1, K)) := rfl
    rw [e, e3, e4, show 2 * (i + 1) = 2 * i + 1 + 1 by omega, show 2 * i + 1 + 1 + 1 = (2 * i + 1) + 1 + 1 by omega, h2]
    simp only [List.set_cons_succ]
    rw [h1]
    exact ⟨rfl, rfl⟩
def rowP (base sz : Nat) (v : Value) (n : Nat) (cs : List Value) : Part where
  ok w := S10.Row w base sz v n cs
  fp k := v.ownBlock = some k
  lt w h k e := (h.lt k e).2
  kept S w w' h t hs := h.keep (S := S) ⟨t.os, t.tape, t.output, t.size, t.block⟩ (fun g hg => hs g hg)
end Go.Proofs.YtlflagjnlclffaaGreat.S13
namespace Go.Proofs.YtlflagjnlclffaaGreat.S12
set_option maxRecDepth 100000
set_option maxHeartbeats 16000000
open Go.Proofs.YtlflagjnlclffaaGreat Go.Proofs.YtlflagjnlclffaaGreat.S11
open Go.RowKit
section
variable {w0 w w' : World} {base WB RB N cn tn : Nat} {M RM : Sd} {E : List Part} {X : Wm} {Y : Rm}
theorem Bg.wstore (h : Bg w0 w base WB RB N cn tn M RM E X Y) {a v : Nat} (ha : a < 4294967296) (hv : v < 18446744073709551616) (hc : cn ≤ 100000000) :
    Calls Tryz.prog 44 #[Pw RB, .int .u32 a, .int .u64 v] w fun e w' => e = .returned (.int .u64 (S2.look Y.L a : Nat)) ∧ ∃ Y', Bg w0 w' base WB RB N (cn + 1) tn M (RM.store a v) E X Y' := by
  have HS := Lib.hid (h.rstore ha hv hc)
  obtain ⟨_, _, _, c3, _, _⟩ := h.c
  clear h ha hv hc
  generalize (S2.look Y.L a : Nat) = z at *
  go_enter Tryz.func44, Tryz.ntmps44
  go_wp2_with (go_at_call 104; refine HS.out.mono ?_; rintro e w1 ⟨rfl, hy⟩)
  go_ret
  exact ⟨rfl, hy⟩
theorem pair_storeS (h : Bg w0 w base WB RB N cn tn M M E X Y) {a v : Nat} (ha : a < 4294967296) (hv : v < 18446744073709551616) (hc : cn ≤ 99999999) :
    Calls Tryz.prog 11 #[.agg #[Pw WB, Pw RB], .agg #[.int .u32 a, .int .u64 v]] w fun e w' => e = .returned (.tuple #[]) ∧ ∃ X' Y', Bg w0 w' base WB RB N (cn + 2) tn (M.store a v) (M.store a v) E X' Y' := by
  have hb : Below w.heap.size w ((w.alloc (.cells #[Pw WB, Pw RB] 36)).alloc (.cells #[.int .u32 (a : Int), .int .u64 (v : Int)] 42)) := ((Below.refl _ _).alloc (Nat.le_refl _) _).alloc (by simp) _
  have h0 : ((w.alloc (.cells #[Pw WB, Pw RB] 36)).alloc (.cells #[.int .u32 (a : Int), .int .u64 (v : Int)] 42)).heap[w.heap.size]? = some (.cells #[Pw WB, Pw RB] 36 (0, 0)) := (((Below.refl _ (w.alloc (.cells #[Pw WB, Pw RB] 36))).alloc (Nat.le_refl _) _).block w.heap.size (by simp)).trans (heap_alloc_new _ _)
  have h1 : ((w.alloc (.cells #[Pw WB, Pw RB] 36)).alloc (.cells #[.int .u32 (a : Int), .int .u64 (v : Int)] 42)).heap[w.heap.size + 1]? = some (.cells #[.int .u32 (a : Int), .int .u64 (v : Int)] 42 (0, 0)) := by
    have := heap_alloc_new (w.alloc (.cells #[Pw WB, Pw RB] 36)) (.cells #[.int .u32 (a : Int), .int .u64 (v : Int)] 42)
    rwa [show (w.alloc (.cells #[Pw WB, Pw RB] 36)).heap.size = w.heap.size + 1 by simp] at this
  have hn := h.new hb
  have HLT : Hid (∀ k, Foot X k → k < w.heap.size) := Lib.hid (fun k hk => h.pr.pw.foot_lt hk)
  obtain ⟨B0, hB0⟩ : ∃ B0, B0 = w.heap.size := ⟨_, rfl⟩
  obtain ⟨B1, hB1⟩ : ∃ B1, B1 = w.heap.size + 1 := ⟨_, rfl⟩
  rw [← hB0] at h0
  rw [← hB1] at h1
  have hcx := hn.xn
  have c0 := cell_row h0 0; have c1 := cell_row h0 1; have d0 := cell_row h1 0; have d1 := cell_row h1 1
  simp only [List.getElem?_toArray, List.getElem?_cons_zero, List.getElem?_cons_succ] at c0 c1 d0 d1
  have hst := hn.store ha hv (by omega)
  obtain ⟨k0, _, _, _, _, _⟩ := hn.c
  have HST : Hid (∀ W, W = ((w.alloc (.cells #[Pw WB, Pw RB] 36)).alloc (.cells #[.int .u32 (a : Int), .int .u64 (v : Int)] 42)).drew → Calls Tryz.prog 43 #[Pw X.cB, .int .u32 a, .int .u64 v] W fun e w' => e = .returned (.int .u64 (S2.look X.L a : Nat)) ∧ ∃ X', Bg w0 w' base WB RB N (cn + 1) tn (M.store a v) M E X' Y ∧ w'.heap[B0]? = some (.cells #[Pw WB, Pw RB] 36 (0, 0)) ∧ w'.heap[B1]? = some (.cells #[.int .u32 (a : Int), .int .u64 (v : Int)] 42 (0, 0)) ∧ w'.cell? ⟨WB, 0, none⟩ = some (Pw X.cB)) := Lib.hid (fun W e => by
    subst e
    have hn2 := hn.new ((Below.refl _ _).drew)
    refine (S2.store_any _ X.cB X.cM X.L X.n X.k X.a X.was X.is a v hn2.pr.pw.cells ha hv (by omega)).mono ?_
    rintro e w' ⟨rfl, hl⟩
    obtain ⟨X', h', hcB, _⟩ := hn2.left hl
    obtain ⟨_, _, _, t⟩ := hl
    have nf : ∀ k, w.heap.size ≤ k → ¬ S2.Fp X.cB X.cM k := fun k hk hf => by
      have := HLT.out k ⟨0, _, rfl, hf⟩; omega
    exact ⟨rfl, X', h',
      (t.block B0 (Array.getElem?_eq_some_iff.1 h0).1 (nf _ (by omega))).trans h0, (t.block B1 (Array.getElem?_eq_some_iff.1 h1).1 (nf _ (by omega))).trans h1, by
        have := h'.c.1
        rw [hcB] at this; exact this⟩)
  have HHB : Hid (Below w.heap.size w w) := Lib.hid (Below.refl _ _)
  clear hst hn hb h0 h1 h HLT hcx
  go_enter Tryz.func11, Tryz.ntmps11
  go_upto_region 1 with (fail)
  rw [← hB0, show B0 + 1 = B1 by omega]
  have HQ := Lib.hid (And.intro ha (And.intro hv hc))
  clear hB0 hB1 HHB ha hv hc
  generalize (w.alloc (.cells #[Pw WB, Pw RB] 36)).alloc (.cells #[.int .u32 (a : Int), .int .u64 (v : Int)] 42) = w1 at *
  refine wp_region_held_drew (S := fun w' => w'.cell? ⟨B0, 0, none⟩ = some (Pw WB) ∧ w'.cell? ⟨B1, 0, none⟩ = some (.int .u32 (a : Int)) ∧ w'.cell? ⟨B1, 1, none⟩ = some (.int .u64 (v : Int)) ∧ w'.cell? ⟨WB, 0, none⟩ = some (Pw X.cB)) (by kernel_rfl) ?_ (fun hHeld => ?_)
  · exact ⟨c0, d0, d1, k0⟩
  refine tA 0 ⟨some 4, .fieldAddr 36 (.tmp 2) 0, 0, "help.go:86", #[], none⟩ ?vax1 ?rax1
  (try simp only [Act.put, tC, tD, tE])
  refine tA 1 ⟨some 5, .load 33 (.tmp 4), 33, "help.go:86", #[⟨0, .data⟩], none⟩ ?vax2 ?rax2
  (try simp only [Act.put, tC, tD, tE])
  refine tA 2 ⟨some 6, .nilCheck (.tmp 5), 0, "help.go:86", #[⟨1, .data⟩], none⟩ ?vax3 ?rax3
  (try simp only [Act.put, tC, tD, tE])
  refine tA 3 ⟨some 7, .fieldAddr 89 (.tmp 6) 0, 0, "help.go:86", #[⟨2, .data⟩], none⟩ ?vax4 ?rax4
  (try simp only [Act.put, tC, tD, tE])
  refine tA 4 ⟨some 8, .load 81 (.tmp 7), 81, "help.go:86", #[⟨3, .data⟩], none⟩ ?vax5 ?rax5
  (try simp only [Act.put, tC, tD, tE])
  refine tA 5 ⟨some 9, .fieldAddr 42 (.tmp 3) 0, 0, "help.go:86", #[], none⟩ ?vax6 ?rax6
  (try simp only [Act.put, tC, tD, tE])
  refine tA 6 ⟨some 10, .load 40 (.tmp 9), 40, "help.go:86", #[⟨5, .data⟩], none⟩ ?vax7 ?rax7
  (try simp only [Act.put, tC, tD, tE])
  refine tA 7 ⟨some 11, .fieldAddr 42 (.tmp 3) 1, 0, "help.go:86", #[], none⟩ ?vax8 ?rax8
  (try simp only [Act.put, tC, tD, tE])
  refine tA 8 ⟨some 12, .load 22 (.tmp 11), 22, "help.go:86", #[⟨7, .data⟩], none⟩ ?vax9 ?rax9
  (try simp only [Act.put, tC, tD, tE])
  refine wpAnyH_ready (rs := [9]) (by kernel_rfl) (by simp) ?_
  refine AllReadyH.cons (o := ⟨some 13, .call ⟨.value (.func 43), #[.tmp 8, .tmp 10, .tmp 12], #[81, 40, 22]⟩, 22, "help.go:86", #[⟨4, .data⟩, ⟨6, .data⟩, ⟨8, .data⟩], none⟩) rfl (fun Kq hKq => ?_) AllReadyH.nil
  go_simp
  (refine (HST.out _ rfl).mono ?_; rintro e w3 ⟨rfl, X3, h3, i0, i1, i2⟩)
  have j0 := cell_row i0 0; have j1 := cell_row i0 1; have l0 := cell_row i1 0; have l1 := cell_row i1 1
  simp only [List.getElem?_toArray, List.getElem?_cons_zero, List.getElem?_cons_succ] at j0 j1 l0 l1
  refine hKq.out _ _ ?_ (fun hHeld => ?_)
  · exact ⟨j0, l0, l1, i2⟩
  clear hKq Kq
  (try simp only [Act.put, tC, tD, tE])
  refine wpAnyH_done (by kernel_rfl) ?_ _
  have hws := h3.wstore HQ.out.1 HQ.out.2.1 (by have := HQ.out.2.2; omega)
  have HWS := Lib.hid hws
  clear hHeld h3 hws i0 i1 i2 c0 c1 d0 d1 k0
  go_wp2_with (go_at_call 44; refine HWS.out.mono ?_; rintro e w4 ⟨rfl, Y4, h4⟩)
  go_end0
  exact ⟨rfl, X3, Y4, h4⟩
theorem pair_store (h : Bg w0 w base WB RB N cn tn M M E X Y) {a v : Nat} (ha : a < 4294967296) (hv : v < 18446744073709551616) (hc : cn ≤ 99999999) :
    Calls Tryz.prog 11 #[.agg #[Pw WB, Pw RB], .agg #[.int .u32 a, .int .u64 v]] w fun e w' => e = .returned (.tuple #[]) ∧ BgE w0 w' base WB RB N (cn + 2) tn E := by
  refine (pair_storeS h ha hv hc).mono ?_
  rintro e w' ⟨rfl, X', Y', h'⟩
  exact ⟨rfl, _, X', Y', h'⟩
end
end Go.Proofs.YtlflagjnlclffaaGreat.S12
namespace Go.Proofs.YtlflagjnlclffaaGreat.S12
set_option maxRecDepth 100000
set_option maxHeartbeats 16000000
open Go.Proofs.YtlflagjnlclffaaGreat Go.Proofs.YtlflagjnlclffaaGreat.S11
open Go.RowKit
section
variable {w0 w w' : World} {base WB RB N cn tn : Nat} {M RM : Sd} {E : List Part} {X : Wm} {Y : Rm}
theorem pair_tickS (h : Bg w0 w base WB RB N cn tn M M E X Y) {n : Nat} (hn : n ≤ 18446744073709551615) :
    Calls Tryz.prog 40 #[.agg #[Pw WB, Pw RB], .int .u64 n] w fun e w' => e = .returned (.tuple #[]) ∧ ∃ X' Y', Bg w0 w' base WB RB N cn tn (M.tick n) (M.tick n) E X' Y' := by
  have hb : Below w.heap.size w (w.alloc (.cells #[Pw WB, Pw RB] 36)) := (Below.refl _ _).alloc (Nat.le_refl _) _
  have h0 := heap_alloc_new w (.cells #[Pw WB, Pw RB] 36)
  have HLT : Hid (∀ k, Foot X k → k < w.heap.size) := Lib.hid (fun k hk => h.pr.pw.foot_lt hk)
  obtain ⟨B0, hB0⟩ : ∃ B0, B0 = w.heap.size := ⟨_, rfl⟩
  rw [← hB0] at h0
  have h1 := h.new hb
  have c0 := cell_row h0 0; have c1 := cell_row h0 1
  simp only [List.getElem?_toArray, List.getElem?_cons_zero, List.getElem?_cons_succ] at c0 c1
  obtain ⟨_, k1, _, _, _, _⟩ := h1.c
  have HST : Hid (Calls Tryz.prog 97 #[Pw X.kB, .int .u64 n] (w.alloc (.cells #[Pw WB, Pw RB] 36)) fun e w' => e = .returned (.tuple #[]) ∧ ∃ X', Bg w0 w' base WB RB N cn tn (M.tick n) M E X' Y ∧ w'.heap[B0]? = some (.cells #[Pw WB, Pw RB] 36 (0, 0))) := Lib.hid (by
    refine (S3.tick_any h1.pr.pw.clock n hn).mono ?_
    rintro e w' ⟨rfl, hc, t⟩
    obtain ⟨X', h'⟩ := h1.tickd hc t
    exact ⟨rfl, X', h',
      (t.block B0 (Array.getElem?_eq_some_iff.1 h0).1 (fun e => by have := HLT.out X.kB ⟨1, _, rfl, .inl rfl⟩; omega)).trans h0⟩)
  have HB0 := Lib.hid hB0
  clear hb h0 h1 h HLT hB0
  go_enter Tryz.func40, Tryz.ntmps40
  go_upto_region 1 with (fail)
  rw [← HB0.out]
  clear HB0
  generalize w.alloc (.cells #[Pw WB, Pw RB] 36) = w1 at *
  go_upto_region 2 with (go_at_call 97; refine HST.out.mono ?_; rintro e w3 ⟨rfl, X3, h3, i0⟩)
  have j1 := cell_row i0 1
  simp only [List.getElem?_toArray, List.getElem?_cons_zero, List.getElem?_cons_succ] at j1
  obtain ⟨_, _, _, _, k5, _⟩ := h3.c
  have HRT := Lib.hid (h3.rtick hn)
  clear h3 i0 HST c0 c1 k1
  go_wp2_with (go_at_call 98; refine HRT.out.mono ?_; rintro e w4 ⟨rfl, Y4, h4⟩)
  go_end0
  exact ⟨rfl, X3, Y4, h4⟩
theorem pair_tick (h : Bg w0 w base WB RB N cn tn M M E X Y) {n : Nat} (hn : n ≤ 18446744073709551615) :
    Calls Tryz.prog 40 #[.agg #[Pw WB, Pw RB], .int .u64 n] w fun e w' => e = .returned (.tuple #[]) ∧ BgE w0 w' base WB RB N cn tn E := by
  refine (pair_tickS h hn).mono ?_
  rintro e w' ⟨rfl, X', Y', h'⟩
  exact ⟨rfl, _, X', Y', h'⟩
end
end Go.Proofs.YtlflagjnlclffaaGreat.S12
namespace Go.Proofs.YtlflagjnlclffaaGreat.S12
open Go.Proofs.YtlflagjnlclffaaGreat Go.Proofs.YtlflagjnlclffaaGreat.S11
open Go.RowKit
theorem rnew_lo (spin most : Int) (n c : Nat) (A : Option Addr) (h : spin < 0) (w : World) : Calls Tryz.prog 29 #[.agg #[.int .i64 spin, .int .u64 most, .slice A n c]] w fun e w' => e = .returned (.tuple #[.pointer none, .int .i64 1]) ∧ Below w.heap.size w w' := by
  have HB : Hid (Below w.heap.size w (w.alloc (.cells #[.int .i64 spin, .int .u64 most, .slice A n c] 96))) := Lib.hid ((Below.refl _ _).alloc (Nat.le_refl _) _)
  have h1 : decide (spin < 0) = true := by simpa using h
  clear h
  go_enter Tryz.func29, Tryz.ntmps29
  go_wp2_with fail
  go_ret2
  exact ⟨rfl, HB.out⟩
theorem rnew_hi (spin most : Int) (n c : Nat) (A : Option Addr) (h : 16 < spin) (w : World) : Calls Tryz.prog 29 #[.agg #[.int .i64 spin, .int .u64 most, .slice A n c]] w fun e w' => e = .returned (.tuple #[.pointer none, .int .i64 1]) ∧ Below w.heap.size w w' := by
  have HB : Hid (Below w.heap.size w (w.alloc (.cells #[.int .i64 spin, .int .u64 most, .slice A n c] 96))) := Lib.hid ((Below.refl _ _).alloc (Nat.le_refl _) _)
  have h1 : decide (spin < 0) = false := by simp; omega
  have h2 : decide (16 < spin) = true := by simpa using h
  clear h
  go_enter Tryz.func29, Tryz.ntmps29
  go_wp2_with fail
  go_ret2
  exact ⟨rfl, HB.out⟩
theorem rnew_big (spin most : Int) (n c : Nat) (A : Option Addr) (h : 0 ≤ spin ∧ spin ≤ 16) (hn : 65536 < n) (w : World) : Calls Tryz.prog 29 #[.agg #[.int .i64 spin, .int .u64 most, .slice A n c]] w fun e w' => e = .returned (.tuple #[.pointer none, .int .i64 1]) ∧ Below w.heap.size w w' := by
  have HB : Hid (Below w.heap.size w (w.alloc (.cells #[.int .i64 spin, .int .u64 most, .slice A n c] 96))) := Lib.hid ((Below.refl _ _).alloc (Nat.le_refl _) _)
  have h1 : decide (spin < 0) = false := by simp; omega
  have h2 : decide (16 < spin) = false := by simp; omega
  have h3 : decide ((65536 : Int) < (n : Int)) = true := by simp; omega
  clear h hn
  go_enter Tryz.func29, Tryz.ntmps29
  go_wp2_with fail
  go_ret2
  exact ⟨rfl, HB.out⟩
theorem rnew_no (spin most : Int) (n c : Nat) (A : Option Addr) (h : okC spin n = false) (w : World) : Calls Tryz.prog 29 #[.agg #[.int .i64 spin, .int .u64 most, .slice A n c]] w fun e w' => e = .returned (.tuple #[.pointer none, .int .i64 1]) ∧ Below w.heap.size w w' := by
  by_cases h1 : spin < 0
  · exact rnew_lo spin most n c A h1 w
  · by_cases h2 : 16 < spin
    · exact rnew_hi spin most n c A h2 w
    · refine rnew_big spin most n c A ⟨by omega, by omega⟩ ?_ w
      simp [okC] at h
      have := h (by omega) (by omega)
      omega
structure RAt0 (Y : Rm) (spin : Int) (most : Nat) (D : List Nat) : Prop where
  L : Y.L = L02
  n : Y.n = 0
  k : Y.k = 0
  a : Y.a = 0
  was : Y.was = 0
  is : Y.is = 0
  T : Y.T = 0
  most : Y.most = most
  D : Y.D = D
  M : Y.M = S10.M0 0
  pf : Y.pf = fun _ => S4.pk0
  pn : Y.pn = 0
  pk : Y.pk = 0
  pp : Y.pp = 0
  lk : Y.lk = S5.S0
  nD : Y.nD = []
  sp : Y.sp = spin
theorem r177 : Tryz.zeroCells197 = S5.Z192 := by kernel_rfl
theorem LAt.at_first {T : Nat} {K : IntKind} {w : World} {p : Nat} (h : w.heap[p]? = some (.cells #[.slice none 0 0] T (0, 0))) : S11.LAt T K w p p (.slice none 0 0) [] :=
  ⟨h, row_nil _ _ _, by intro e; simp [Value.ownBlock] at e, Nat.le_refl _⟩
theorem rworld_y {w w' : World} {spin : Int} {most : Nat} {D : List Nat} {Bw : Nat} (h : RWorld w w' spin most D Bw) : ∃ Y : Rm, Y.wB = Bw ∧ Parts w' w.heap.size Y.parts ∧ RAt0 Y spin most (D.take 65536) ∧ Y.rb ≤ w'.heap.size := by
  obtain ⟨q, Bc, Bk, Bp, Bl, Bt, Bn, bc, bk, bt, sc, sk, own, hp⟩ := h
  have h2 := Parts.right hp
  have hc : S2.RefAt w' bc Bc sc L02 0 0 0 0 0 := h2.ok 0 _ rfl
  have hl : bc ≤ w'.heap.size := by
    obtain ⟨p, cap, e, hg⟩ := S2.row_slice hc.own
    obtain ⟨g, rfl⟩ := hg (by decide)
    have := hc.own.lt g (by rw [e]; rfl)
    omega
  have e3 : w'.heap[Bp]? = some (.cells Tryz.zeroCells156 156) := h2.ok 3 _ rfl
  rw [S4.rzero140] at e3
  have h3 := Parts.recast (i := 3) h2 rfl (rpermitsP Bp (fun _ => S4.pk0) ((0 : Nat) : Int) 0 0) (S4.rpk_row e3) (fun k e => e)
  have e4 : w'.heap[Bl]? = some (.cells Tryz.zeroCells197 197) := h2.ok 4 _ rfl
  rw [r177] at e4
  have h4 := Parts.recast (i := 4) h3 rfl (linksP Bl S5.S0) (S5.has_row e4) (fun k e => e)
  have e5 : w'.heap[Bn]? = some (.cells #[.slice none 0 0] 159) := h2.ok 5 _ rfl
  have h5 := Parts.recast (i := 5) h4 rfl (notesP 159 .i64 Bn Bn (.slice none 0 0) []) (LAt.at_first e5) (fun k e => by
    rcases e with e | e
    · exact e
    · simp [Value.ownBlock] at e)
  exact ⟨{ rb := bc, rB := Bc, rs := sc, L := L02, n := 0, k := 0, a := 0, was := 0, is := 0, kb := bk, kB := Bk, T := 0, most := most, ks := sk, D := D.take 65536, tb := bt, tO := own, ts := Pw Bt, M := S10.M0 0, pB := Bp, pf := fun _ => S4.pk0, pn := 0, pk := 0, pp := 0, lB := Bl, lk := S5.S0, nb := Bn, nB := Bn, ns := .slice none 0 0, nD := [], wB := Bw, sp := spin }, rfl, h5, ⟨rfl, rfl, rfl, rfl, rfl, rfl, rfl, rfl, rfl, rfl, rfl, rfl, rfl, rfl, rfl, rfl, rfl⟩, hl⟩
def RNewE (w w' : World) (spin : Int) (most : Nat) (D : List Nat) (v : Value) (er : Int) : Prop :=
  (okC spin D.length = true ∧ er = 0 ∧ ∃ Y : Rm, v = Pw Y.wB ∧ Parts w' w.heap.size Y.parts ∧ RAt0 Y spin most D ∧ Y.rb ≤ w'.heap.size) ∨ (okC spin D.length = false ∧ v = .pointer none ∧ er = 1)
theorem rnew_any {w : World} (spin : Int) (most c : Nat) {A : Option Addr} {D : List Nat} {b2 : Nat} (hn : D.length ≤ c) (hc : c ≤ 9223372036854775807) (hm : most ≤ 18446744073709551615) (hr : S3.Rd w b2 A D) (hb2 : b2 ≤ w.heap.size) (hD : ∀ d ∈ D, d ≤ 18446744073709551615) :
    Calls Tryz.prog 29 #[.agg #[.int .i64 spin, .int .u64 (most : Int), .slice A D.length c]] w fun e w' => ∃ v er, e = .returned (.tuple #[.pointer v, .int .i64 er]) ∧ RNewE w w' spin most D (.pointer v) er ∧ Below w.heap.size w w' := by
  cases hok : okC spin D.length
  · refine (rnew_no spin most D.length c A hok w).mono ?_
    rintro e w' ⟨rfl, hb⟩
    exact ⟨_, _, rfl, .inr ⟨hok, rfl, rfl⟩, hb⟩
  · have hb : 0 ≤ spin ∧ spin ≤ 16 ∧ D.length ≤ 65536 := by simp [okC] at hok; omega
    refine (rworld_any spin most D.length c A (D := D) ⟨hb.1, hb.2.1⟩ hb.2.2 (fun W q => S3.rnew_any c most hn hc hm (hr.below q hb2) (Nat.le_trans hb2 q.size) hD)).mono ?_
    rintro e w' ⟨Bw, rfl, hw, hbl⟩
    obtain ⟨Y, h1, h2, h3, h4⟩ := rworld_y hw
    rw [List.take_of_length_le hb.2.2] at h3
    exact ⟨_, _, rfl, .inl ⟨hok, rfl, Y, by rw [h1], h2, h3, h4⟩, hbl⟩
def WNewE (w w' : World) (spin : Int) (most : Nat) (D : List Nat) (v : Value) (er : Int) : Prop :=
  (okC spin D.length = true ∧ er = 0 ∧ ∃ X : Wm, v = Pw X.wB ∧ PW w' w.heap.size X ∧ At0 X spin most D) ∨ (okC spin D.length = false ∧ v = .pointer none ∧ er = 1)
theorem wnew_any {w : World} (spin : Int) (most c : Nat) {A : Option Addr} {D : List Nat} {b2 : Nat} (hn : D.length ≤ c) (hc : c ≤ 9223372036854775807) (hm : most ≤ 18446744073709551615) (hr : S3.Rd w b2 A D) (hb2 : b2 ≤ w.heap.size) (hD : ∀ d ∈ D, d ≤ 18446744073709551615) :
    Calls Tryz.prog 31 #[.agg #[.int .i64 spin, .int .u64 (most : Int), .slice A D.length c]] w fun e w' => ∃ v er, e = .returned (.tuple #[.pointer v, .int .i64 er]) ∧ WNewE w w' spin most D (.pointer v) er ∧ Below w.heap.size w w' := by
  cases hok : okC spin D.length
  · refine (new_no spin most D.length c A hok w).mono ?_
    rintro e w' ⟨rfl, hb⟩
    exact ⟨_, _, rfl, .inr ⟨hok, rfl, rfl⟩, hb⟩
  · have hb : 0 ≤ spin ∧ spin ≤ 16 ∧ D.length ≤ 65536 := by simp [okC] at hok; omega
    refine (new_yes spin most D.length c A (D := D) hok (fun W q => by
      have := S3.new_any c most hn hc hm (hr.below q hb2) (Nat.le_trans hb2 q.size) hD
      rw [List.take_of_length_le hb.2.2] at this
      exact this)).mono ?_
    rintro e w' ⟨X, rfl, hp, h0, hbl⟩
    exact ⟨_, _, rfl, .inl ⟨hok, rfl, X, rfl, hp, h0⟩, hbl⟩
theorem byt02 : S2.Byt L02 := by
  have e : L02 = [(0, 2)] := by kernel_rfl
  rw [e]
  intro p hp _
  simp at hp
  subst hp
  decide
def sd0 (spin : Int) (most : Nat) (D : List Nat) : Sd := ⟨L02, 0, 0, 0, 0, 0, 0, most, D, fun _ => S4.pk0, 0, 0, 0, S5.S0, S10.M0 0, [], spin⟩
theorem At0.sd {X : Wm} {spin : Int} {most : Nat} {D : List Nat} (h : At0 X spin most D) : X.sd = sd0 spin most D := by
  unfold Wm.sd sd0
  rw [h.L, h.n, h.k, h.a, h.was, h.is, h.T, h.most, h.D, h.pf, h.pn, h.pk, h.pp, h.lk, h.tM, h.nD, h.sp]
theorem RAt0.sd {Y : Rm} {spin : Int} {most : Nat} {D : List Nat} (h : RAt0 Y spin most D) : Y.sd = sd0 spin most D := by
  unfold Rm.sd sd0
  rw [h.L, h.n, h.k, h.a, h.was, h.is, h.T, h.most, h.D, h.pf, h.pn, h.pk, h.pp, h.lk, h.M, h.nD, h.sp]
theorem bg_first {w0 w1 w2 : World} {base : Nat} {X : Wm} {Y : Rm} {spin : Int} {most : Nat} {D : List Nat} (hY : Parts w1 base Y.parts) (hr : RAt0 Y spin most D) (hb : Y.rb ≤ w1.heap.size) (hX : PW w2 w1.heap.size X) (hx : At0 X spin most D) (b : Below w1.heap.size w1 w2) (hbl : Below base w0 w2) (hsp : 0 ≤ spin ∧ spin ≤ 16) :
    Bg w0 w2 base X.wB Y.wB 0 0 1 (sd0 spin most D) (sd0 spin most D) [] X Y := by
  have hj := hY.join b hX (Nat.le_refl _)
  refine { pr := ?_, wB := rfl, rB := rfl, xn := by rw [hx.n]; omega, yn := by rw [hr.n]; omega, pn := by rw [hx.pn]; omega, yp := by rw [hr.pn]; omega, nD := by rw [hx.nD]; simp, pok := by rw [hx.pf]; exact S4.pkok0, byt := by rw [hx.L]; exact byt02, spk := hsp, pkr := (by rw [hx.pk]; decide), nk := (by rw [hx.nD]; intro d hd; cases hd), xm := hx.sd, ym := hr.sd, gd := S10.good_first 0, gr := S10.good_first 0, tn := by rw [hx.tn]; omega, rb := Nat.le_trans hb b.size, bl := hbl }
  unfold PairAt
  rw [List.append_nil]
  exact hj
end Go.Proofs.YtlflagjnlclffaaGreat.S12
namespace Go.Proofs.YtlflagjnlclffaaGreat.S12
set_option maxRecDepth 100000
set_option maxHeartbeats 16000000
open Go.Proofs.YtlflagjnlclffaaGreat Go.Proofs.YtlflagjnlclffaaGreat.S11
open Go.RowKit
theorem rsteps_any {w : World} {RB rB pB : Nat} {n pn : Nat} (h0 : w.cell? ⟨RB, 0, none⟩ = some (Pw rB)) (h2 : w.cell? ⟨RB, 2, none⟩ = some (Pw pB)) (c : w.cell? ⟨rB, 1, none⟩ = some (.int .i64 (n : Int))) (p : w.cell? ⟨pB, 512, none⟩ = some (.int .i64 (pn : Int))) (h1 : n ≤ 1000000000) (h3 : pn ≤ 1000000000) :
    Calls Tryz.prog 58 #[Pw RB] w fun e w' => e = .returned (.int .i64 ((n + pn : Nat) : Int)) ∧ Below w.heap.size w w' := by
  have hw : IntKind.i64.wrap ((n : Int) + (pn : Int)) = ((n + pn : Nat) : Int) := by rw [IntKind.wrap_i64]; omega
  have hw2 : wrap64 ((n : Int) + (pn : Int)) = ((n + pn : Nat) : Int) := by unfold wrap64; omega
  go_enter Tryz.func58, Tryz.ntmps58
  go_wp2_with fail
  go_quiet (fail)
  go_wp2_with fail
  go_ret
  exact ⟨rfl, rfl, rfl, rfl, Nat.le_refl _, fun _ _ => rfl⟩
theorem eql131 (k a x y : Int) (w : World) : (binOp .eql 147 (.agg #[.int .u8 k, .int .u32 a, .int .u64 x, .int .u64 y]) (.agg #[.int .u8 k, .int .u32 a, .int .u64 x, .int .u64 y])).run Tryz.prog w = .ok (.bool true) w := by
  simp [go_sem, Tryz.underlying147]
def SameF (w2 : World) (B0 B1 WB RB cB kB nB rB rkB rpB rnB k a was is nl nc kl kc : Nat) (kd pp : Int) (nA kA : Option Addr) (w' : World) : Prop := Below w2.heap.size w2 w' ∧ w'.cell? ⟨B0, 0, none⟩ = some (Pw WB) ∧ w'.cell? ⟨B0, 1, none⟩ = some (Pw RB) ∧ w'.cell? ⟨B1, 0, none⟩ = some (.int .u8 kd) ∧ w'.cell? ⟨B1, 1, none⟩ = some (.int .i64 pp) ∧ w'.cell? ⟨WB, 0, none⟩ = some (Pw cB) ∧ w'.cell? ⟨WB, 1, none⟩ = some (Pw kB) ∧ w'.cell? ⟨WB, 5, none⟩ = some (Pw nB) ∧ w'.cell? ⟨RB, 0, none⟩ = some (Pw rB) ∧ w'.cell? ⟨RB, 1, none⟩ = some (Pw rkB) ∧ w'.cell? ⟨RB, 2, none⟩ = some (Pw rpB) ∧ w'.cell? ⟨RB, 5, none⟩ = some (Pw rnB) ∧ w'.cell? ⟨rB, 2, none⟩ = some (.int .u8 k) ∧ w'.cell? ⟨rB, 3, none⟩ = some (.int .u32 a) ∧ w'.cell? ⟨rB, 4, none⟩ = some (.int .u64 was) ∧ w'.cell? ⟨rB, 5, none⟩ = some (.int .u64 is) ∧ w'.cell? ⟨rpB, 513, none⟩ = some (.int .i64 kd) ∧ w'.cell? ⟨rpB, 514, none⟩ = some (.int .i64 pp) ∧ w'.cell? ⟨rnB, 0, none⟩ = some (.slice nA nl nc) ∧ w'.cell? ⟨rkB, 1, none⟩ = some (.slice kA kl kc)
theorem SameF.new {w2 w' w'' : World} {B0 B1 WB RB cB kB nB rB rkB rpB rnB k a was is nl nc kl kc : Nat} {kd pp : Int} {nA kA : Option Addr} (h : SameF w2 B0 B1 WB RB cB kB nB rB rkB rpB rnB k a was is nl nc kl kc kd pp nA kA w') (hb : Below w'.heap.size w' w'') : SameF w2 B0 B1 WB RB cB kB nB rB rkB rpB rnB k a was is nl nc kl kc kd pp nA kA w'' := by
  obtain ⟨hb0, c0, c1, c2, c3, c4, c5, c6, c7, c8, c9, c10, c11, c12, c13, c14, c15, c16, c17, c18⟩ := h
  exact ⟨hb0.trans (hb.mono hb0.size), bcell hb c0, bcell hb c1, bcell hb c2, bcell hb c3, bcell hb c4, bcell hb c5, bcell hb c6, bcell hb c7, bcell hb c8, bcell hb c9, bcell hb c10, bcell hb c11, bcell hb c12, bcell hb c13, bcell hb c14, bcell hb c15, bcell hb c16, bcell hb c17, bcell hb c18⟩
theorem pair_same {w0 w : World} {base WB RB N cn tn : Nat} {M : Sd} {E : List Part} {X : Wm} {Y : Rm} (h : Bg w0 w base WB RB N cn tn M M E X Y) (hc : cn ≤ 100000000) :
    Calls Tryz.prog 15 #[.agg #[Pw WB, Pw RB]] w fun e w' => e = .returned (.bool true) ∧ Below w.heap.size w w' := by
  have hb1 : Below w.heap.size w (w.alloc (.cells #[Pw WB, Pw RB] 36)) := (Below.refl _ _).alloc (Nat.le_refl _) _
  have hq0 := heap_alloc_new w (.cells #[Pw WB, Pw RB] 36)
  have h1 := h.new hb1
  obtain ⟨B0, hB0⟩ : ∃ B0, B0 = w.heap.size := ⟨_, rfl⟩
  rw [← hB0] at hq0
  have c0 := cell_row hq0 0; have c1 := cell_row hq0 1
  simp only [List.getElem?_toArray, List.getElem?_cons_zero, List.getElem?_cons_succ] at c0 c1
  have k2 := h1.pr.pw.c2
  rw [h1.wB] at k2
  have HL := Lib.hid (fun (W : World) (q : Below (w.alloc (.cells #[Pw WB, Pw RB] 36)).heap.size (w.alloc (.cells #[Pw WB, Pw RB] 36)) W) => S4.last_any (h1.new q).pr.pw.permits)
  have H1 := Lib.hid h1; have HB1 := Lib.hid hb1; have HQ0 := Lib.hid hq0
  have HB0 := Lib.hid hB0
  clear hb1 hq0 h1 h hB0
  go_enter Tryz.func15, Tryz.ntmps15
  go_upto_region 3 with (fail)
  rw [← HB0.out]
  generalize w.alloc (.cells #[Pw WB, Pw RB] 36) = w1 at *
  go_upto_region 4 with (go_at_call 56; refine (HL.out _ (Below.refl _ _)).mono ?_; rintro e wl ⟨rfl, hbl⟩)
  have hn := heap_alloc_new wl (.cells #[.int .u8 X.pk, .int .i64 X.pp] 142)
  have hbx : Below w1.heap.size w1 (wl.alloc (.cells #[.int .u8 X.pk, .int .i64 X.pp] 142)) := hbl.alloc hbl.size _
  have h2 := H1.out.new hbx
  have e0 := (hbx.block B0 (Array.getElem?_eq_some_iff.1 HQ0.out).1).trans HQ0.out
  obtain ⟨B1, hB1⟩ : ∃ B1, B1 = wl.heap.size := ⟨_, rfl⟩
  rw [← hB1] at hn ⊢
  have HBX := Lib.hid (HB1.out.trans (hbx.mono HB1.out.size))
  clear hbx hbl c0 c1 k2 HL
  generalize wl.alloc (.cells #[.int .u8 X.pk, .int .i64 X.pp] 142) = w2 at *
  have b0 := cell_row e0 0; have b1 := cell_row e0 1; have d0 := cell_row hn 0; have d1 := cell_row hn 1
  simp only [List.getElem?_toArray, List.getElem?_cons_zero, List.getElem?_cons_succ] at b0 b1 d0 d1
  obtain ⟨nA, nc, hns, _⟩ := h2.pr.rnotes.own.shape
  obtain ⟨kA, kc, hks, _⟩ := h2.pr.rclock.own
  have heq : X.sd = Y.sd := by rw [h2.xm, h2.ym]
  have e_n : X.n = Y.n := congrArg Sd.n heq
  have e_pn : X.pn = Y.pn := congrArg Sd.pn heq
  have e_k : X.k = Y.k := congrArg Sd.k heq
  have e_a : X.a = Y.a := congrArg Sd.a heq
  have e_was : X.was = Y.was := congrArg Sd.was heq
  have e_is : X.is = Y.is := congrArg Sd.is heq
  have e_pk : X.pk = Y.pk := congrArg Sd.pk heq
  have e_pp : X.pp = Y.pp := congrArg Sd.pp heq
  have e_nD : X.nD = Y.nD := congrArg Sd.nD heq
  have e_D : X.D = Y.D := congrArg Sd.D heq
  have hst : ∀ W, Below w2.heap.size w2 W → Calls Tryz.prog 57 #[Pw WB] W fun e w' => e = .returned (.int .i64 ((X.n + X.pn : Nat) : Int)) ∧ Below W.heap.size W w' := fun W q => by
    have := h2.new q
    rw [← this.wB]
    exact steps_any this.pr.pw (by have := h2.xn; omega) (by have := h2.pn; omega)
  have hrs : ∀ W, Below w2.heap.size w2 W → Calls Tryz.prog 58 #[Pw RB] W fun e w' => e = .returned (.int .i64 ((X.n + X.pn : Nat) : Int)) ∧ Below W.heap.size W w' := fun W q => by
    have g := h2.new q
    rw [← g.rB, e_n, e_pn]
    exact rsteps_any g.pr.r0 g.pr.r2 (cell_row g.pr.rcells.row 1) g.pr.rpermits.cn (by have := h2.yn; omega) (by have := h2.yp; omega)
  have hcl : ∀ W, Below w2.heap.size w2 W → Calls Tryz.prog 59 #[Pw X.cB] W fun e w' => e = .returned (.agg #[.int .u8 X.k, .int .u32 X.a, .int .u64 X.was, .int .u64 X.is]) ∧ Below W.heap.size W w' := fun W q => S2.last_any W _ _ _ _ _ _ _ _ (h2.new q).pr.pw.cells
  have hnc : ∀ W, Below w2.heap.size w2 W → Calls Tryz.prog 60 #[Pw X.nB] W fun e w' => e = .returned (.int .i64 (X.nD.length : Nat)) ∧ W = w' := fun W q => S11.count_any (h2.new q).pr.pw.notes
  have hlf : ∀ W, Below w2.heap.size w2 W → Calls Tryz.prog 61 #[Pw X.kB] W fun e w' => e = .returned (.int .i64 (X.D.length : Nat)) ∧ W = w' := fun W q => S3.left_any (h2.new q).pr.pw.clock
  have f4 := h2.pr.pw.c0; have f5 := h2.pr.pw.c1; have f6 := h2.pr.pw.c5
  have f7 := h2.pr.r0; have f8 := h2.pr.r1; have f9 := h2.pr.r2; have f10 := h2.pr.r5
  have f11 := cell_row h2.pr.rcells.row 2; have f12 := cell_row h2.pr.rcells.row 3; have f13 := cell_row h2.pr.rcells.row 4; have f14 := cell_row h2.pr.rcells.row 5
  simp only [List.getElem?_toArray, List.getElem?_cons_zero, List.getElem?_cons_succ] at f11 f12 f13 f14
  have f15 := h2.pr.rpermits.ck; have f16 := h2.pr.rpermits.cp
  have f17 := h2.pr.rnotes.cell
  have f18 := cell_row h2.pr.rclock.row 1
  simp only [List.getElem?_toArray, List.getElem?_cons_zero, List.getElem?_cons_succ] at f18
  rw [hns] at f17
  rw [hks] at f18
  rw [h2.wB] at f4 f5 f6
  rw [h2.rB] at f7 f8 f9 f10
  rw [← e_k] at f11; rw [← e_a] at f12; rw [← e_was] at f13; rw [← e_is] at f14; rw [← e_pk] at f15; rw [← e_pp] at f16; rw [← e_nD] at f17; rw [← e_D] at f18
  have hpk := h2.pkr
  have hwk : IntKind.i64.wrap X.pk = X.pk := by rw [IntKind.wrap_i64]; omega
  have hwk2 : wrap64 X.pk = X.pk := by unfold wrap64; omega
  obtain ⟨kB, hkB⟩ : ∃ x, x = X.kB := ⟨_, rfl⟩
  obtain ⟨cB, hcB⟩ : ∃ x, x = X.cB := ⟨_, rfl⟩
  obtain ⟨nB, hnB⟩ : ∃ x, x = X.nB := ⟨_, rfl⟩
  obtain ⟨rB, hrB⟩ : ∃ x, x = Y.rB := ⟨_, rfl⟩
  obtain ⟨rkB, hrkB⟩ : ∃ x, x = Y.kB := ⟨_, rfl⟩
  obtain ⟨rpB, hrpB⟩ : ∃ x, x = Y.pB := ⟨_, rfl⟩
  obtain ⟨rnB, hrnB⟩ : ∃ x, x = Y.nB := ⟨_, rfl⟩
  obtain ⟨k, hk⟩ : ∃ x, x = X.k := ⟨_, rfl⟩
  obtain ⟨a, ha⟩ : ∃ x, x = X.a := ⟨_, rfl⟩
  obtain ⟨was, hwas⟩ : ∃ x, x = X.was := ⟨_, rfl⟩
  obtain ⟨is, his⟩ : ∃ x, x = X.is := ⟨_, rfl⟩
  obtain ⟨nl, hnl⟩ : ∃ x, x = X.nD.length := ⟨_, rfl⟩
  obtain ⟨kl, hkl⟩ : ∃ x, x = X.D.length := ⟨_, rfl⟩
  obtain ⟨nn, hnn⟩ : ∃ x, x = X.n + X.pn := ⟨_, rfl⟩
  obtain ⟨kd, hkd⟩ : ∃ x, x = X.pk := ⟨_, rfl⟩
  obtain ⟨pp, hpp⟩ : ∃ x, x = X.pp := ⟨_, rfl⟩
  rw [← hnn] at hst hrs
  rw [← hcB, ← hk, ← ha, ← hwas, ← his] at hcl
  rw [← hnB, ← hnl] at hnc
  rw [← hkB, ← hkl] at hlf
  rw [← hcB] at f4; rw [← hkB] at f5; rw [← hnB] at f6; rw [← hrB] at f7 f11 f12 f13 f14; rw [← hrkB] at f8 f18; rw [← hrpB] at f9 f15 f16; rw [← hrnB] at f10 f17
  rw [← hk] at f11; rw [← ha] at f12; rw [← hwas] at f13; rw [← his] at f14; rw [← hkd] at f15 hwk hwk2 d0; rw [← hpp] at f16 d1; rw [← hnl] at f17; rw [← hkl] at f18
  have hev := fun W => eql131 k a was is W
  have HST := Lib.hid hst; have HRS := Lib.hid hrs; have HCL := Lib.hid hcl; have HNC := Lib.hid hnc; have HLF := Lib.hid hlf
  have HF : Hid (w2.drew.cell? ⟨B0, 0, none⟩ = some (Pw WB) ∧ w2.drew.cell? ⟨B0, 1, none⟩ = some (Pw RB) ∧ w2.drew.cell? ⟨B1, 0, none⟩ = some (.int .u8 kd) ∧ w2.drew.cell? ⟨B1, 1, none⟩ = some (.int .i64 pp) ∧ w2.drew.cell? ⟨WB, 0, none⟩ = some (Pw cB) ∧ w2.drew.cell? ⟨WB, 1, none⟩ = some (Pw kB) ∧ w2.drew.cell? ⟨WB, 5, none⟩ = some (Pw nB) ∧ w2.drew.cell? ⟨RB, 0, none⟩ = some (Pw rB) ∧ w2.drew.cell? ⟨RB, 1, none⟩ = some (Pw rkB) ∧ w2.drew.cell? ⟨RB, 2, none⟩ = some (Pw rpB) ∧ w2.drew.cell? ⟨RB, 5, none⟩ = some (Pw rnB) ∧ w2.drew.cell? ⟨rB, 2, none⟩ = some (.int .u8 k) ∧ w2.drew.cell? ⟨rB, 3, none⟩ = some (.int .u32 a) ∧ w2.drew.cell? ⟨rB, 4, none⟩ = some (.int .u64 was) ∧ w2.drew.cell? ⟨rB, 5, none⟩ = some (.int .u64 is) ∧ w2.drew.cell? ⟨rpB, 513, none⟩ = some (.int .i64 kd) ∧ w2.drew.cell? ⟨rpB, 514, none⟩ = some (.int .i64 pp) ∧ w2.drew.cell? ⟨rnB, 0, none⟩ = some (.slice nA nl nc) ∧ w2.drew.cell? ⟨rkB, 1, none⟩ = some (.slice kA kl kc)) := Lib.hid ⟨b0, b1, d0, d1, f4, f5, f6, f7, f8, f9, f10, f11, f12, f13, f14, f15, f16, f17, f18⟩
  clear hst hrs hcl hnc hlf b0 b1 d0 d1 f4 f5 f6 f7 f8 f9 f10 f11 f12 f13 f14 f15 f16 f17 f18 e0 hn h2 heq e_n e_pn e_k e_a e_was e_is e_pk e_pp e_nD e_D hns hks H1 HB1 HQ0 hpk hcB hkB hnB hrB hrkB hrpB hrnB hk ha hwas his hnl hkl hnn hkd hpp hB1 HB0 hc
  (try simp only [List.append_eq, List.cons_append, List.nil_append])
  refine wp_region_held_drew (S := fun w' => Below w2.heap.size w2 w' ∧ w'.cell? ⟨B0, 0, none⟩ = some (Pw WB) ∧ w'.cell? ⟨B0, 1, none⟩ = some (Pw RB) ∧ w'.cell? ⟨B1, 0, none⟩ = some (.int .u8 kd) ∧ w'.cell? ⟨B1, 1, none⟩ = some (.int .i64 pp) ∧ w'.cell? ⟨WB, 0, none⟩ = some (Pw cB) ∧ w'.cell? ⟨WB, 1, none⟩ = some (Pw kB) ∧ w'.cell? ⟨WB, 5, none⟩ = some (Pw nB) ∧ w'.cell? ⟨RB, 0, none⟩ = some (Pw rB) ∧ w'.cell? ⟨RB, 1, none⟩ = some (Pw rkB) ∧ w'.cell? ⟨RB, 2, none⟩ = some (Pw rpB) ∧ w'.cell? ⟨RB, 5, none⟩ = some (Pw rnB) ∧ w'.cell? ⟨rB, 2, none⟩ = some (.int .u8 k) ∧ w'.cell? ⟨rB, 3, none⟩ = some (.int .u32 a) ∧ w'.cell? ⟨rB, 4, none⟩ = some (.int .u64 was) ∧ w'.cell? ⟨rB, 5, none⟩ = some (.int .u64 is) ∧ w'.cell? ⟨rpB, 513, none⟩ = some (.int .i64 kd) ∧ w'.cell? ⟨rpB, 514, none⟩ = some (.int .i64 pp) ∧ w'.cell? ⟨rnB, 0, none⟩ = some (.slice nA nl nc) ∧ w'.cell? ⟨rkB, 1, none⟩ = some (.slice kA kl kc)) (by kernel_rfl) ?_ (fun hHeld => ?_)
  · exact ⟨(Below.refl _ _).drew, HF.out⟩
  refine tA 0 ⟨some 18, .fieldAddr 36 (.tmp 1) 0, 0, "help.go:108", #[], none⟩ ?vam1 ?ram1
  (try simp only [Act.put, tC, tD, tE])
  refine tA 1 ⟨some 19, .load 33 (.tmp 18), 33, "help.go:108", #[⟨0, .data⟩], none⟩ ?vam2 ?ram2
  (try simp only [Act.put, tC, tD, tE])
  refine tA 3 ⟨some 21, .fieldAddr 36 (.tmp 1) 1, 0, "help.go:108", #[], none⟩ ?vam3 ?ram3
  (try simp only [Act.put, tC, tD, tE])
  refine tA 4 ⟨some 22, .load 34 (.tmp 21), 34, "help.go:108", #[⟨3, .data⟩], none⟩ ?vam4 ?ram4
  (try simp only [Act.put, tC, tD, tE])
  refine wpAnyH_ready (rs := [2]) (by kernel_rfl) (by simp) ?_
  refine AllReadyH.cons (o := ⟨some 20, .call ⟨.value (.func 57), #[.tmp 19], #[33]⟩, 3, "help.go:108", #[⟨1, .data⟩], none⟩) rfl (fun Kq hKq => ?_) AllReadyH.nil
  go_simp
  (refine (HST.out _ hHeld.1).mono ?_; rintro e w3 ⟨rfl, hb⟩)
  refine hKq.out _ _ ?_ (fun hHeld => ?_)
  · exact SameF.new hHeld hb
  clear hKq Kq
  (try simp only [Act.put, tC, tD, tE])
  refine wpAnyH_ready (rs := [5]) (by kernel_rfl) (by simp) ?_
  refine AllReadyH.cons (o := ⟨some 23, .call ⟨.value (.func 58), #[.tmp 22], #[34]⟩, 3, "help.go:108", #[⟨4, .data⟩, ⟨2, .chain⟩], none⟩) rfl (fun Kq hKq => ?_) AllReadyH.nil
  go_simp
  (refine (HRS.out _ hHeld.1).mono ?_; rintro e w3 ⟨rfl, hb⟩)
  refine hKq.out _ _ ?_ (fun hHeld => ?_)
  · exact SameF.new hHeld hb
  clear hKq Kq
  (try simp only [Act.put, tC, tD, tE])
  refine tA 6 ⟨some 24, .binOp .eql 3 (.tmp 20) (.tmp 23) 3, 4, "help.go:108", #[⟨2, .data⟩, ⟨5, .data⟩], none⟩ ?vam5 ?ram5
  (try simp only [Act.put, tC, tD, tE])
  refine tA 7 ⟨some 25, .move (.tmp 24), 4, "help.go:108", #[⟨6, .data⟩, ⟨5, .chain⟩], none⟩ ?vam6 ?ram6
  (try simp only [Act.put, tC, tD, tE])
  refine tA 8 ⟨some 26, .fieldAddr 36 (.tmp 1) 0, 0, "help.go:108", #[⟨7, .guard⟩], some (7, true)⟩ ?vam7 ?ram7
  (try simp only [Act.put, tC, tD, tE])
  refine tA 9 ⟨some 27, .load 33 (.tmp 26), 33, "help.go:108", #[⟨8, .data⟩, ⟨7, .guard⟩], some (7, true)⟩ ?vam8 ?ram8
  (try simp only [Act.put, tC, tD, tE])
  refine tA 10 ⟨some 28, .nilCheck (.tmp 27), 0, "help.go:108", #[⟨9, .data⟩, ⟨7, .guard⟩], some (7, true)⟩ ?vam9 ?ram9
  (try simp only [Act.put, tC, tD, tE])
  refine tA 11 ⟨some 29, .fieldAddr 89 (.tmp 28) 0, 0, "help.go:108", #[⟨10, .data⟩, ⟨7, .guard⟩], some (7, true)⟩ ?vam10 ?ram10
  (try simp only [Act.put, tC, tD, tE])
  refine tA 12 ⟨some 30, .load 81 (.tmp 29), 81, "help.go:108", #[⟨11, .data⟩, ⟨7, .guard⟩], some (7, true)⟩ ?vam11 ?ram11
  (try simp only [Act.put, tC, tD, tE])
  refine tA 14 ⟨some 32, .fieldAddr 36 (.tmp 1) 1, 0, "help.go:108", #[⟨7, .guard⟩], some (7, true)⟩ ?vam12 ?ram12
  (try simp only [Act.put, tC, tD, tE])
  refine tA 15 ⟨some 33, .load 34 (.tmp 32), 34, "help.go:108", #[⟨14, .data⟩, ⟨7, .guard⟩], some (7, true)⟩ ?vam13 ?ram13
  (try simp only [Act.put, tC, tD, tE])
  refine tA 16 ⟨some 34, .nilCheck (.tmp 33), 0, "help.go:108", #[⟨15, .data⟩, ⟨7, .guard⟩], some (7, true)⟩ ?vam14 ?ram14
  (try simp only [Act.put, tC, tD, tE])
  refine tA 17 ⟨some 35, .fieldAddr 107 (.tmp 34) 0, 0, "help.go:108", #[⟨16, .data⟩, ⟨7, .guard⟩], some (7, true)⟩ ?vam15 ?ram15
  (try simp only [Act.put, tC, tD, tE])
  refine tA 18 ⟨some 36, .load 100 (.tmp 35), 100, "help.go:108", #[⟨17, .data⟩, ⟨7, .guard⟩], some (7, true)⟩ ?vam16 ?ram16
  (try simp only [Act.put, tC, tD, tE])
  refine tA 19 ⟨some 37, .nilCheck (.tmp 36), 0, "help.go:108", #[⟨18, .data⟩, ⟨7, .guard⟩], some (7, true)⟩ ?vam17 ?ram17
  (try simp only [Act.put, tC, tD, tE])
  refine tA 20 ⟨some 38, .fieldAddr 151 (.tmp 37) 2, 0, "help.go:108", #[⟨19, .data⟩, ⟨7, .guard⟩], some (7, true)⟩ ?vam18 ?ram18
  (try simp only [Act.put, tC, tD, tE])
  refine tA 21 ⟨some 39, .load 147 (.tmp 38), 147, "help.go:108", #[⟨20, .data⟩, ⟨7, .guard⟩], some (7, true)⟩ ?vam19 ?ram19
  (try simp only [Act.put, tC, tD, tE])
  refine wpAnyH_ready (rs := [13]) (by kernel_rfl) (by simp) ?_
  refine AllReadyH.cons (o := ⟨some 31, .call ⟨.value (.func 59), #[.tmp 30], #[81]⟩, 147, "help.go:108", #[⟨12, .data⟩, ⟨7, .chain⟩, ⟨7, .guard⟩], some (7, true)⟩) rfl (fun Kq hKq => ?_) AllReadyH.nil
  go_simp
  (refine (HCL.out _ hHeld.1).mono ?_; rintro e w3 ⟨rfl, hb⟩)
  refine hKq.out _ _ ?_ (fun hHeld => ?_)
  · exact SameF.new hHeld hb
  clear hKq Kq
  (try simp only [Act.put, tC, tD, tE])
  refine tA 22 ⟨some 40, .binOp .eql 147 (.tmp 31) (.tmp 39) 147, 4, "help.go:108", #[⟨13, .data⟩, ⟨21, .data⟩, ⟨7, .guard⟩], some (7, true)⟩ ?vam20 ?ram20
  (try simp only [Act.put, tC, tD, tE])
  refine tA 23 ⟨some 41, .pick (.tmp 25) (.tmp 40) (.const (.bool false)), 4, "help.go:108", #[⟨7, .data⟩, ⟨22, .data⟩], none⟩ ?vam21 ?ram21
  (try simp only [Act.put, tC, tD, tE])
  refine tA 24 ⟨some 42, .move (.tmp 41), 4, "help.go:108", #[⟨23, .data⟩, ⟨13, .chain⟩], none⟩ ?vam22 ?ram22
  (try simp only [Act.put, tC, tD, tE])
  refine tA 25 ⟨some 43, .fieldAddr 142 (.tmp 3) 0, 0, "help.go:108", #[⟨24, .guard⟩], some (24, true)⟩ ?vam23 ?ram23
  (try simp only [Act.put, tC, tD, tE])
  refine tA 26 ⟨some 44, .load 140 (.tmp 43), 140, "help.go:108", #[⟨25, .data⟩, ⟨24, .guard⟩], some (24, true)⟩ ?vam24 ?ram24
  (try simp only [Act.put, tC, tD, tE])
  refine tA 27 ⟨some 45, .convert 140 3 (.tmp 44), 3, "help.go:108", #[⟨26, .data⟩, ⟨24, .guard⟩], some (24, true)⟩ ?vam25 ?ram25
  (try simp only [Act.put, tC, tD, tE])
  refine tA 28 ⟨some 46, .fieldAddr 36 (.tmp 1) 1, 0, "help.go:108", #[⟨24, .guard⟩], some (24, true)⟩ ?vam26 ?ram26
  (try simp only [Act.put, tC, tD, tE])
  refine tA 29 ⟨some 47, .load 34 (.tmp 46), 34, "help.go:108", #[⟨28, .data⟩, ⟨24, .guard⟩], some (24, true)⟩ ?vam27 ?ram27
  (try simp only [Act.put, tC, tD, tE])
  refine tA 30 ⟨some 48, .nilCheck (.tmp 47), 0, "help.go:108", #[⟨29, .data⟩, ⟨24, .guard⟩], some (24, true)⟩ ?vam28 ?ram28
  (try simp only [Act.put, tC, tD, tE])
  refine tA 31 ⟨some 49, .fieldAddr 107 (.tmp 48) 2, 0, "help.go:108", #[⟨30, .data⟩, ⟨24, .guard⟩], some (24, true)⟩ ?vam29 ?ram29
  (try simp only [Act.put, tC, tD, tE])
  refine tA 32 ⟨some 50, .load 102 (.tmp 49), 102, "help.go:108", #[⟨31, .data⟩, ⟨24, .guard⟩], some (24, true)⟩ ?vam30 ?ram30
  (try simp only [Act.put, tC, tD, tE])
  refine tA 33 ⟨some 51, .nilCheck (.tmp 50), 0, "help.go:108", #[⟨32, .data⟩, ⟨24, .guard⟩], some (24, true)⟩ ?vam31 ?ram31
  (try simp only [Act.put, tC, tD, tE])
  refine tA 34 ⟨some 52, .fieldAddr 156 (.tmp 51) 2, 0, "help.go:108", #[⟨33, .data⟩, ⟨24, .guard⟩], some (24, true)⟩ ?vam32 ?ram32
  (try simp only [Act.put, tC, tD, tE])
  refine tA 35 ⟨some 53, .load 3 (.tmp 52), 3, "help.go:108", #[⟨34, .data⟩, ⟨24, .guard⟩], some (24, true)⟩ ?vam33 ?ram33
  (try simp only [Act.put, tC, tD, tE])
  refine tA 36 ⟨some 54, .binOp .eql 3 (.tmp 45) (.tmp 53) 3, 4, "help.go:108", #[⟨27, .data⟩, ⟨35, .data⟩, ⟨24, .guard⟩], some (24, true)⟩ ?vam34 ?ram34
  (try simp only [Act.put, tC, tD, tE])
  refine tA 37 ⟨some 55, .pick (.tmp 42) (.tmp 54) (.const (.bool false)), 4, "help.go:108", #[⟨24, .data⟩, ⟨36, .data⟩], none⟩ ?vam35 ?ram35
  (try simp only [Act.put, tC, tD, tE])
  refine tA 38 ⟨some 56, .move (.tmp 55), 4, "help.go:108", #[⟨37, .data⟩, ⟨24, .chain⟩], none⟩ ?vam36 ?ram36
  (try simp only [Act.put, tC, tD, tE])
  refine tA 39 ⟨some 57, .fieldAddr 142 (.tmp 3) 1, 0, "help.go:108", #[⟨38, .guard⟩], some (38, true)⟩ ?vam37 ?ram37
  (try simp only [Act.put, tC, tD, tE])
  refine tA 40 ⟨some 58, .load 3 (.tmp 57), 3, "help.go:108", #[⟨39, .data⟩, ⟨38, .guard⟩], some (38, true)⟩ ?vam38 ?ram38
  (try simp only [Act.put, tC, tD, tE])
  refine tA 41 ⟨some 59, .fieldAddr 36 (.tmp 1) 1, 0, "help.go:108", #[⟨38, .guard⟩], some (38, true)⟩ ?vam39 ?ram39
  (try simp only [Act.put, tC, tD, tE])
  refine tA 42 ⟨some 60, .load 34 (.tmp 59), 34, "help.go:108", #[⟨41, .data⟩, ⟨38, .guard⟩], some (38, true)⟩ ?vam40 ?ram40
  (try simp only [Act.put, tC, tD, tE])
  refine tA 43 ⟨some 61, .nilCheck (.tmp 60), 0, "help.go:108", #[⟨42, .data⟩, ⟨38, .guard⟩], some (38, true)⟩ ?vam41 ?ram41
  (try simp only [Act.put, tC, tD, tE])
  refine tA 44 ⟨some 62, .fieldAddr 107 (.tmp 61) 2, 0, "help.go:108", #[⟨43, .data⟩, ⟨38, .guard⟩], some (38, true)⟩ ?vam42 ?ram42
  (try simp only [Act.put, tC, tD, tE])
  refine tA 45 ⟨some 63, .load 102 (.tmp 62), 102, "help.go:108", #[⟨44, .data⟩, ⟨38, .guard⟩], some (38, true)⟩ ?vam43 ?ram43
  (try simp only [Act.put, tC, tD, tE])
  refine tA 46 ⟨some 64, .nilCheck (.tmp 63), 0, "help.go:108", #[⟨45, .data⟩, ⟨38, .guard⟩], some (38, true)⟩ ?vam44 ?ram44
  (try simp only [Act.put, tC, tD, tE])
  refine tA 47 ⟨some 65, .fieldAddr 156 (.tmp 64) 3, 0, "help.go:108", #[⟨46, .data⟩, ⟨38, .guard⟩], some (38, true)⟩ ?vam45 ?ram45
  (try simp only [Act.put, tC, tD, tE])
  refine tA 48 ⟨some 66, .load 3 (.tmp 65), 3, "help.go:108", #[⟨47, .data⟩, ⟨38, .guard⟩], some (38, true)⟩ ?vam46 ?ram46
  (try simp only [Act.put, tC, tD, tE])
  refine tA 49 ⟨some 67, .binOp .eql 3 (.tmp 58) (.tmp 66) 3, 4, "help.go:108", #[⟨40, .data⟩, ⟨48, .data⟩, ⟨38, .guard⟩], some (38, true)⟩ ?vam47 ?ram47
  (try simp only [Act.put, tC, tD, tE])
  refine tA 50 ⟨some 68, .pick (.tmp 56) (.tmp 67) (.const (.bool false)), 4, "help.go:108", #[⟨38, .data⟩, ⟨49, .data⟩], none⟩ ?vam48 ?ram48
  (try simp only [Act.put, tC, tD, tE])
  refine tA 51 ⟨some 69, .move (.tmp 68), 4, "help.go:108", #[⟨50, .data⟩, ⟨38, .chain⟩], none⟩ ?vam49 ?ram49
  (try simp only [Act.put, tC, tD, tE])
  refine tA 52 ⟨some 70, .fieldAddr 36 (.tmp 1) 0, 0, "help.go:108", #[⟨51, .guard⟩], some (51, true)⟩ ?vam50 ?ram50
  (try simp only [Act.put, tC, tD, tE])
  refine tA 53 ⟨some 71, .load 33 (.tmp 70), 33, "help.go:108", #[⟨52, .data⟩, ⟨51, .guard⟩], some (51, true)⟩ ?vam51 ?ram51
  (try simp only [Act.put, tC, tD, tE])
  refine tA 54 ⟨some 72, .nilCheck (.tmp 71), 0, "help.go:108", #[⟨53, .data⟩, ⟨51, .guard⟩], some (51, true)⟩ ?vam52 ?ram52
  (try simp only [Act.put, tC, tD, tE])
  refine tA 55 ⟨some 73, .fieldAddr 89 (.tmp 72) 5, 0, "help.go:108", #[⟨54, .data⟩, ⟨51, .guard⟩], some (51, true)⟩ ?vam53 ?ram53
  (try simp only [Act.put, tC, tD, tE])
  refine tA 56 ⟨some 74, .load 86 (.tmp 73), 86, "help.go:108", #[⟨55, .data⟩, ⟨51, .guard⟩], some (51, true)⟩ ?vam54 ?ram54
  (try simp only [Act.put, tC, tD, tE])
  refine tA 58 ⟨some 76, .fieldAddr 36 (.tmp 1) 1, 0, "help.go:108", #[⟨51, .guard⟩], some (51, true)⟩ ?vam55 ?ram55
  (try simp only [Act.put, tC, tD, tE])
  refine tA 59 ⟨some 77, .load 34 (.tmp 76), 34, "help.go:108", #[⟨58, .data⟩, ⟨51, .guard⟩], some (51, true)⟩ ?vam56 ?ram56
  (try simp only [Act.put, tC, tD, tE])
  refine tA 60 ⟨some 78, .nilCheck (.tmp 77), 0, "help.go:108", #[⟨59, .data⟩, ⟨51, .guard⟩], some (51, true)⟩ ?vam57 ?ram57
  (try simp only [Act.put, tC, tD, tE])
  refine tA 61 ⟨some 79, .fieldAddr 107 (.tmp 78) 5, 0, "help.go:108", #[⟨60, .data⟩, ⟨51, .guard⟩], some (51, true)⟩ ?vam58 ?ram58
  (try simp only [Act.put, tC, tD, tE])
  refine tA 62 ⟨some 80, .load 105 (.tmp 79), 105, "help.go:108", #[⟨61, .data⟩, ⟨51, .guard⟩], some (51, true)⟩ ?vam59 ?ram59
  (try simp only [Act.put, tC, tD, tE])
  refine tA 63 ⟨some 81, .nilCheck (.tmp 80), 0, "help.go:108", #[⟨62, .data⟩, ⟨51, .guard⟩], some (51, true)⟩ ?vam60 ?ram60
  (try simp only [Act.put, tC, tD, tE])
  refine tA 64 ⟨some 82, .fieldAddr 159 (.tmp 81) 0, 0, "help.go:108", #[⟨63, .data⟩, ⟨51, .guard⟩], some (51, true)⟩ ?vam61 ?ram61
  (try simp only [Act.put, tC, tD, tE])
  refine tA 65 ⟨some 83, .load 157 (.tmp 82), 157, "help.go:108", #[⟨64, .data⟩, ⟨51, .guard⟩], some (51, true)⟩ ?vam62 ?ram62
  (try simp only [Act.put, tC, tD, tE])
  refine tA 66 ⟨some 84, .call ⟨.builtin .len, #[.tmp 83], #[157]⟩, 3, "help.go:108", #[⟨65, .data⟩, ⟨51, .guard⟩], some (51, true)⟩ ?vam63 ?ram63
  (try simp only [Act.put, tC, tD, tE])
  refine wpAnyH_ready (rs := [57]) (by kernel_rfl) (by simp) ?_
  refine AllReadyH.cons (o := ⟨some 75, .call ⟨.value (.func 60), #[.tmp 74], #[86]⟩, 3, "help.go:108", #[⟨56, .data⟩, ⟨51, .chain⟩, ⟨51, .guard⟩], some (51, true)⟩) rfl (fun Kq hKq => ?_) AllReadyH.nil
  go_simp
  (refine (HNC.out _ hHeld.1).mono ?_; rintro e w3 ⟨rfl, rfl⟩)
  refine hKq.out _ _ ?_ (fun hHeld => ?_)
  · exact hHeld
  clear hKq Kq
  (try simp only [Act.put, tC, tD, tE])
  refine tA 67 ⟨some 85, .binOp .eql 3 (.tmp 75) (.tmp 84) 3, 4, "help.go:108", #[⟨57, .data⟩, ⟨66, .data⟩, ⟨51, .guard⟩], some (51, true)⟩ ?vam64 ?ram64
  (try simp only [Act.put, tC, tD, tE])
  refine tA 68 ⟨some 86, .pick (.tmp 69) (.tmp 85) (.const (.bool false)), 4, "help.go:108", #[⟨51, .data⟩, ⟨67, .data⟩], none⟩ ?vam65 ?ram65
  (try simp only [Act.put, tC, tD, tE])
  refine tA 69 ⟨some 87, .move (.tmp 86), 4, "help.go:108", #[⟨68, .data⟩, ⟨57, .chain⟩], none⟩ ?vam66 ?ram66
  (try simp only [Act.put, tC, tD, tE])
  refine tA 70 ⟨some 88, .fieldAddr 36 (.tmp 1) 0, 0, "help.go:108", #[⟨69, .guard⟩], some (69, true)⟩ ?vam67 ?ram67
  (try simp only [Act.put, tC, tD, tE])
  refine tA 71 ⟨some 89, .load 33 (.tmp 88), 33, "help.go:108", #[⟨70, .data⟩, ⟨69, .guard⟩], some (69, true)⟩ ?vam68 ?ram68
  (try simp only [Act.put, tC, tD, tE])
  refine tA 72 ⟨some 90, .nilCheck (.tmp 89), 0, "help.go:108", #[⟨71, .data⟩, ⟨69, .guard⟩], some (69, true)⟩ ?vam69 ?ram69
  (try simp only [Act.put, tC, tD, tE])
  refine tA 73 ⟨some 91, .fieldAddr 89 (.tmp 90) 1, 0, "help.go:108", #[⟨72, .data⟩, ⟨69, .guard⟩], some (69, true)⟩ ?vam70 ?ram70
  (try simp only [Act.put, tC, tD, tE])
  refine tA 74 ⟨some 92, .load 82 (.tmp 91), 82, "help.go:108", #[⟨73, .data⟩, ⟨69, .guard⟩], some (69, true)⟩ ?vam71 ?ram71
  (try simp only [Act.put, tC, tD, tE])
  refine tA 76 ⟨some 94, .fieldAddr 36 (.tmp 1) 1, 0, "help.go:108", #[⟨69, .guard⟩], some (69, true)⟩ ?vam72 ?ram72
  (try simp only [Act.put, tC, tD, tE])
  refine tA 77 ⟨some 95, .load 34 (.tmp 94), 34, "help.go:108", #[⟨76, .data⟩, ⟨69, .guard⟩], some (69, true)⟩ ?vam73 ?ram73
  (try simp only [Act.put, tC, tD, tE])
  refine tA 78 ⟨some 96, .nilCheck (.tmp 95), 0, "help.go:108", #[⟨77, .data⟩, ⟨69, .guard⟩], some (69, true)⟩ ?vam74 ?ram74
  (try simp only [Act.put, tC, tD, tE])
  refine tA 79 ⟨some 97, .fieldAddr 107 (.tmp 96) 1, 0, "help.go:108", #[⟨78, .data⟩, ⟨69, .guard⟩], some (69, true)⟩ ?vam75 ?ram75
  (try simp only [Act.put, tC, tD, tE])
  refine tA 80 ⟨some 98, .load 101 (.tmp 97), 101, "help.go:108", #[⟨79, .data⟩, ⟨69, .guard⟩], some (69, true)⟩ ?vam76 ?ram76
  (try simp only [Act.put, tC, tD, tE])
  refine tA 81 ⟨some 99, .nilCheck (.tmp 98), 0, "help.go:108", #[⟨80, .data⟩, ⟨69, .guard⟩], some (69, true)⟩ ?vam77 ?ram77
  (try simp only [Act.put, tC, tD, tE])
  refine tA 82 ⟨some 100, .fieldAddr 161 (.tmp 99) 1, 0, "help.go:108", #[⟨81, .data⟩, ⟨69, .guard⟩], some (69, true)⟩ ?vam78 ?ram78
  (try simp only [Act.put, tC, tD, tE])
  refine tA 83 ⟨some 101, .load 23 (.tmp 100), 23, "help.go:108", #[⟨82, .data⟩, ⟨69, .guard⟩], some (69, true)⟩ ?vam79 ?ram79
  (try simp only [Act.put, tC, tD, tE])
  refine tA 84 ⟨some 102, .call ⟨.builtin .len, #[.tmp 101], #[23]⟩, 3, "help.go:108", #[⟨83, .data⟩, ⟨69, .guard⟩], some (69, true)⟩ ?vam80 ?ram80
  (try simp only [Act.put, tC, tD, tE])
  refine wpAnyH_ready (rs := [75]) (by kernel_rfl) (by simp) ?_
  refine AllReadyH.cons (o := ⟨some 93, .call ⟨.value (.func 61), #[.tmp 92], #[82]⟩, 3, "help.go:108", #[⟨74, .data⟩, ⟨69, .chain⟩, ⟨69, .guard⟩], some (69, true)⟩) rfl (fun Kq hKq => ?_) AllReadyH.nil
  go_simp
  (refine (HLF.out _ hHeld.1).mono ?_; rintro e w3 ⟨rfl, rfl⟩)
  refine hKq.out _ _ ?_ (fun hHeld => ?_)
  · exact hHeld
  clear hKq Kq
  (try simp only [Act.put, tC, tD, tE])
  refine tA 85 ⟨some 103, .binOp .eql 3 (.tmp 93) (.tmp 102) 3, 4, "help.go:108", #[⟨75, .data⟩, ⟨84, .data⟩, ⟨69, .guard⟩], some (69, true)⟩ ?vam81 ?ram81
  (try simp only [Act.put, tC, tD, tE])
  refine tA 86 ⟨some 104, .pick (.tmp 87) (.tmp 103) (.const (.bool false)), 4, "help.go:108", #[⟨69, .data⟩, ⟨85, .data⟩], none⟩ ?vam82 ?ram82
  (try simp only [Act.put, tC, tD, tE])
  refine wpAnyH_take (i := 87) (oi := ({ dst := some 2, op := Op.assign (Operand.tmp 104), type := 4, pos := "help.go:108", after := ([{ on := 86, ground := Ground.data }, { on := 75, ground := Ground.chain }, { on := 0, ground := Ground.phase }, { on := 1, ground := Ground.phase }, { on := 2, ground := Ground.phase }, { on := 3, ground := Ground.phase }, { on := 4, ground := Ground.phase }, { on := 5, ground := Ground.phase }, { on := 6, ground := Ground.phase }, { on := 7, ground := Ground.phase }, { on := 8, ground := Ground.phase }, { on := 9, ground := Ground.phase }, { on := 10, ground := Ground.phase }, { on := 11, ground := Ground.phase }, { on := 12, ground := Ground.phase }, { on := 13, ground := Ground.phase }, { on := 14, ground := Ground.phase }, { on := 15, ground := Ground.phase }, { on := 16, ground := Ground.phase }, { on := 17, ground := Ground.phase }, { on := 18, ground := Ground.phase }, { on := 19, ground := Ground.phase }, { on := 20, ground := Ground.phase }, { on := 21, ground := Ground.phase }, { on := 22, ground := Ground.phase }, { on := 23, ground := Ground.phase }, { on := 24, ground := Ground.phase }, { on := 25, ground := Ground.phase }, { on := 26, ground := Ground.phase }, { on := 27, ground := Ground.phase }, { on := 28, ground := Ground.phase }, { on := 29, ground := Ground.phase }, { on := 30, ground := Ground.phase }, { on := 31, ground := Ground.phase }, { on := 32, ground := Ground.phase }, { on := 33, ground := Ground.phase }, { on := 34, ground := Ground.phase }, { on := 35, ground := Ground.phase }, { on := 36, ground := Ground.phase }, { on := 37, ground := Ground.phase }, { on := 38, ground := Ground.phase }, { on := 39, ground := Ground.phase }, { on := 40, ground := Ground.phase }, { on := 41, ground := Ground.phase }].append [{ on := 42, ground := Ground.phase }, { on := 43, ground := Ground.phase }, { on := 44, ground := Ground.phase }, { on := 45, ground := Ground.phase }, { on := 46, ground := Ground.phase }, { on := 47, ground := Ground.phase }, { on := 48, ground := Ground.phase }, { on := 49, ground := Ground.phase }, { on := 50, ground := Ground.phase }, { on := 51, ground := Ground.phase }, { on := 52, ground := Ground.phase }, { on := 53, ground := Ground.phase }, { on := 54, ground := Ground.phase }, { on := 55, ground := Ground.phase }, { on := 56, ground := Ground.phase }, { on := 57, ground := Ground.phase }, { on := 58, ground := Ground.phase }, { on := 59, ground := Ground.phase }, { on := 60, ground := Ground.phase }, { on := 61, ground := Ground.phase }, { on := 62, ground := Ground.phase }, { on := 63, ground := Ground.phase }, { on := 64, ground := Ground.phase }, { on := 65, ground := Ground.phase }, { on := 66, ground := Ground.phase }, { on := 67, ground := Ground.phase }, { on := 68, ground := Ground.phase }, { on := 69, ground := Ground.phase }, { on := 70, ground := Ground.phase }, { on := 71, ground := Ground.phase }, { on := 72, ground := Ground.phase }, { on := 73, ground := Ground.phase }, { on := 74, ground := Ground.phase }, { on := 75, ground := Ground.phase }, { on := 76, ground := Ground.phase }, { on := 77, ground := Ground.phase }, { on := 78, ground := Ground.phase }, { on := 79, ground := Ground.phase }, { on := 80, ground := Ground.phase }, { on := 81, ground := Ground.phase }, { on := 82, ground := Ground.phase }, { on := 83, ground := Ground.phase }, { on := 84, ground := Ground.phase }, { on := 85, ground := Ground.phase }, { on := 86, ground := Ground.phase }]).toArray, guard := none } : Oper)) (v := ?vam83) rfl (by kernel_rfl) (by kernel_rfl) (by kernel_rfl) (fun _ _ _ h => h) (Or.inl ⟨by rfl, fun w hSw => ?hyam83⟩) (by assumption) ?ram83
  case hyam83 => (try dsimp only at hSw); go_simp; (try with_reducible rfl)
  (try simp only [Act.put, tC, tD, tE])
  refine wpAnyH_done (by kernel_rfl) ?_ _
  go_wp2_with fail
  go_ret
  exact ⟨rfl, HBX.out.trans (hHeld.1.mono HBX.out.size)⟩
end Go.Proofs.YtlflagjnlclffaaGreat.S12
namespace Go.Proofs.YtlflagjnlclffaaGreat.S10
set_option maxRecDepth 100000
set_option maxHeartbeats 16000000
open Go.Proofs.YtlflagjnlclffaaGreat
open Go.RowKit
theorem keep3 {w w' : World} {base g o : Nat} {d : Ent} (hb : Below base w w') (hg : g < base) (h : w.cell? ⟨g, o, none⟩ = some (.int .i64 d.t) ∧ w.cell? ⟨g, o + 1, none⟩ = some (.int .u32 d.k) ∧ w.cell? ⟨g, o + 2, none⟩ = some (.int .u64 d.z)) :
    w'.cell? ⟨g, o, none⟩ = some (.int .i64 d.t) ∧ w'.cell? ⟨g, o + 1, none⟩ = some (.int .u32 d.k) ∧ w'.cell? ⟨g, o + 2, none⟩ = some (.int .u64 d.z) :=
  ⟨(hb.cell (by exact hg)).trans h.1, (hb.cell (by exact hg)).trans h.2.1, (hb.cell (by exact hg)).trans h.2.2⟩
theorem same_any {w : World} {b1 b2 : Nat} {A B : Option Addr} {D : List Ent} (c c' : Nat) (hr1 : Rd w b1 A (flat D)) (hr2 : Rd w b2 B (flat D)) (hb1 : b1 ≤ w.heap.size) (hb2 : b2 ≤ w.heap.size) (hlen : D.length ≤ 1000000) :
    Calls Tryz.prog 122 #[.slice A D.length c, .slice B D.length c'] w fun e w' => e = .returned (.bool true) ∧ Below w.heap.size w w' := by
  have H1 := Lib.hid hr1; have H2 := Lib.hid hr2; have HS1 := Lib.hid hb1; have HS2 := Lib.hid hb2
  clear hr1 hr2 hb1 hb2
  obtain ⟨n, hn⟩ : ∃ n, n = D.length := ⟨_, rfl⟩
  rw [← hn]
  have HN := Lib.hid hn
  have hn6 : n ≤ 1000000 := by omega
  clear hn hlen
  go_enter Tryz.func122, Tryz.ntmps122
  go_wp2_with fail
  go_loopg [5] n (fun q s5 wx => ∃ k : Nat, k ≤ n ∧ q = n - k ∧ s5 = .int .i64 (k : Int) ∧ Below w.heap.size w wx)
  case atStart => exact ⟨0, by omega, rfl, rfl, Below.refl _ _⟩
  case round =>
    obtain ⟨k, hk, rfl, rfl, hb⟩ := hrel
    have HB := Lib.hid hb
    clear hb
    by_cases hkn : k < n
    · obtain ⟨g1, o1, rfl, hg1, c0, c1, c2⟩ := (H1.out.below HB.out HS1.out).ent (i := k) (by have := HN.out; omega)
      obtain ⟨g2, o2, rfl, hg2, d0, d1, d2⟩ := (H2.out.below HB.out HS2.out).ent (i := k) (by have := HN.out; omega)
      have hl1 : g1 < wr.heap.size := by have := HB.out.size; have := HS1.out; omega
      have hl2 : g2 < wr.heap.size := by have := HB.out.size; have := HS2.out; omega
      generalize hd : D[k]! = d at *
      clear hd
      have hne := fun W => neqO d d W
      simp only [decide_true, Bool.not_true] at hne
      go_upto_region 6 with (fail)
      refine wp_region_held_drew (S := fun w' => (w'.cell? ⟨g1, o1 + k * 3, none⟩ = some (.int .i64 d.t) ∧ w'.cell? ⟨g1, o1 + k * 3 + 1, none⟩ = some (.int .u32 d.k) ∧ w'.cell? ⟨g1, o1 + k * 3 + 2, none⟩ = some (.int .u64 d.z)) ∧ (w'.cell? ⟨g2, o2 + k * 3, none⟩ = some (.int .i64 d.t) ∧ w'.cell? ⟨g2, o2 + k * 3 + 1, none⟩ = some (.int .u32 d.k) ∧ w'.cell? ⟨g2, o2 + k * 3 + 2, none⟩ = some (.int .u64 d.z)) ∧ Below wr.heap.size wr w') (by kernel_rfl) ?_ (fun hHeld => ?_)
      · exact ⟨⟨c0, c1, c2⟩, ⟨d0, d1, d2⟩, (Below.refl _ wr).drew⟩
      refine tA 0 ⟨some 17, .move (.tmp 0), 111, "help.go:28", #[], none⟩ ?v0 ?r0
      (try simp only [Act.put, tC, tD, tE])
      refine tA 1 ⟨some 18, .move (.tmp 5), 3, "help.go:28", #[], none⟩ ?v1 ?r1
      (try simp only [Act.put, tC, tD, tE])
      refine tA 2 ⟨some 19, .indexAddr 111 (.tmp 17) (.tmp 18), 0, "help.go:28", #[⟨0, .data⟩, ⟨1, .data⟩], none⟩ ?v2 ?r2
      (try simp only [Act.put, tC, tD, tE])
      refine tA 3 ⟨some 20, .load 231 (.tmp 19), 231, "help.go:28", #[⟨2, .data⟩], none⟩ ?v3 ?r3
      (try simp only [Act.put, tC, tD, tE])
      refine tA 5 ⟨some 22, .move (.tmp 1), 120, "help.go:28", #[], none⟩ ?v5 ?r5
      (try simp only [Act.put, tC, tD, tE])
      refine tA 6 ⟨some 23, .move (.tmp 5), 3, "help.go:28", #[], none⟩ ?v6 ?r6
      (try simp only [Act.put, tC, tD, tE])
      refine tA 7 ⟨some 24, .indexAddr 120 (.tmp 22) (.tmp 23), 0, "help.go:28", #[⟨5, .data⟩, ⟨6, .data⟩], none⟩ ?v7 ?r7
      (try simp only [Act.put, tC, tD, tE])
      refine tA 8 ⟨some 25, .load 229 (.tmp 24), 229, "help.go:28", #[⟨7, .data⟩], none⟩ ?v8 ?r8
      (try simp only [Act.put, tC, tD, tE])
      refine wpAnyH_ready (rs := [4]) (by kernel_rfl) (by simp) ?_
      refine AllReadyH.cons (o := ⟨some 21, .call ⟨.value (.func 96), #[.tmp 20], #[231]⟩, 229, "help.go:28", #[⟨3, .data⟩], none⟩) rfl (fun Kq hKq => ?_) AllReadyH.nil
      go_simp
      (refine (other_any d _).mono ?_; rintro e w1 ⟨rfl, hb1⟩)
      refine hKq.out _ _ ?_ (fun hHeld => ?_)
      · exact ⟨keep3 hb1 (by have := hHeld.2.2.size; omega) hHeld.1, keep3 hb1 (by have := hHeld.2.2.size; omega) hHeld.2.1, hHeld.2.2.trans (hb1.mono hHeld.2.2.size)⟩
      clear hKq Kq
      (try simp only [Act.put, tC, tD, tE])
      refine tA 9 ⟨some 26, .binOp .neq 229 (.tmp 21) (.tmp 25) 229, 4, "help.go:28", #[⟨4, .data⟩, ⟨8, .data⟩], none⟩ ?v9 ?r9
      (try simp only [Act.put, tC, tD, tE])
      refine wpAnyH_done (by kernel_rfl) ?_ _
      have HH := Lib.hid hHeld.2.2
      clear hHeld
      go_wp2_with fail
      go_roundg (n - (k + 1))
      case measure => omega
      case rel => exact ⟨k + 1, by omega, rfl, by go_num, HB.out.trans (HH.out.mono HB.out.size)⟩
    · obtain rfl : k = n := by omega
      go_wp2_with fail
      go_ret
      exact ⟨rfl, HB.out⟩
end Go.Proofs.YtlflagjnlclffaaGreat.S10
