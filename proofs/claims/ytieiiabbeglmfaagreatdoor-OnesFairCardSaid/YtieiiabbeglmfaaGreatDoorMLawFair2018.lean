/- Texts of this seat, one behind the other. -/
import Derived.Test.YtieiiabbeglmfaaGreatDoorMLawFair201
import Derived.Test.YtieiiabbeglmfaaGreatDoorMLawFair2017
import Derived.Deep.CutBlock
import Derived.Laws.EntriesVeiled
set_option linter.unusedVariables false
set_option linter.unusedSimpArgs false
set_option linter.unusedVariables false
set_option linter.unusedSimpArgs false
namespace Go.Proofs.YtieiiabbeglmfaaGreatDoor.S13
set_option maxRecDepth 100000
set_option maxHeartbeats 16000000
open Go.Proofs.YtieiiabbeglmfaaGreatDoor Go.Proofs.YtieiiabbeglmfaaGreatDoor.S11 Go.Proofs.YtieiiabbeglmfaaGreatDoor.S12
open Go.RowKit
section
variable {w0 w w' : World} {base WB : Nat} {M : Sd} {r : List Part} {j B : Nat} {K : Lk} {X : Wm}
theorem Wl.pushB (h : Wl w0 w base WB M r j B K X) (ob : Obj) : Wl w0 (w.alloc ob) base WB M (r ++ [blockP w.heap.size ob]) j B K X := by
  have hp := h.pg.ps.push (blockP w.heap.size ob) (below1 w ob) (heap_alloc_new w ob) (fun k e => Nat.le_of_eq (show k = w.heap.size from e).symm)
  rw [List.append_assoc] at hp
  refine ⟨⟨?_, h.pg.wB, h.pg.xm, h.pg.bl.alloc h.pg.size _⟩, by rw [List.length_append]; have := h.hj; simp; omega⟩
  rw [List.set_append_left _ _ h.hj]
  exact hp
theorem Wl.dropB {q : Part} (h : Wl w0 w base WB M (r ++ [q]) j B K X) (hj : j < r.length) : Wl w0 w base WB M r j B K X := by
  have hp := h.pg.ps
  rw [List.set_append_left _ _ hj, ← List.append_assoc] at hp
  exact ⟨⟨Parts.left hp, h.pg.wB, h.pg.xm, h.pg.bl⟩, hj⟩
theorem Wl.last {Q : Nat} {ob : Obj} (h : Wl w0 w base WB M (r ++ [blockP Q ob]) j B K X) (hj : j < r.length) : w.heap[Q]? = some ob := by
  have hp := h.pg.ps
  rw [List.set_append_left _ _ hj, ← List.append_assoc] at hp
  refine hp.ok (X.parts ++ r.set j (lockP B K)).length (blockP Q ob) ?_
  rw [List.getElem?_append_right (Nat.le_refl _), Nat.sub_self]; rfl
theorem begin_l (h : Wl w0 w base WB M r j B K X) : Calls Tryz.prog 320 #[.pointer (some ⟨B, 2, none⟩), Pw WB] w fun e w' => e = .returned (.tuple #[]) ∧ Wl w0 w' base WB M r j B { K with sp := M.sp } X := by
  have h1 := h.put { K with sp := 0 } (set_blk h.blk 2 (.int .i64 0) _ (by simp [Lk.cs])) ((Turns.refl (fun k => k = B) w).setCell ⟨B, 2, none⟩ _ rfl)
  have h2 := h1.put { K with sp := M.sp } (set_blk h1.blk 2 (.int .i64 M.sp) _ (by simp [Lk.cs])) ((Turns.refl (fun k => k = B) _).setCell ⟨B, 2, none⟩ _ rfl)
  have c2 := h.b2; have z2 := h.fz 2; have d2 := h1.b2; have y2 := h1.fz 2
  have d6 := h1.pg.c.2.2.2
  have H2 := Lib.hid h2
  clear h h1 h2
  go_enter Tryz.func320, Tryz.ntmps320
  go_wp2_with fail
  go_end0
  exact ⟨rfl, H2.out⟩
theorem spin_l (h : Wl w0 w base WB M r j B K X) (hs : K.sp ≤ 9223372036854775807) : Calls Tryz.prog 324 #[.pointer (some ⟨B, 2, none⟩)] w fun e w' => e = .returned (.bool (decide (0 < K.sp))) ∧ Wl w0 w' base WB M r j B { K with sp := if 0 < K.sp then K.sp - 1 else K.sp } X := by
  have c2 := h.b2; have z2 := h.fz 2
  by_cases h0 : 0 < K.sp
  · rw [decide_eq_true h0, if_pos h0]
    have h1 := h.put { K with sp := K.sp - 1 } (set_blk h.blk 2 (.int .i64 (K.sp - 1)) _ (by simp [Lk.cs])) ((Turns.refl (fun k => k = B) w).setCell ⟨B, 2, none⟩ _ rfl)
    have hd : decide (K.sp ≤ 0) = false := by rw [decide_eq_false_iff_not]; omega
    have hw : wrap64 (K.sp - 1) = K.sp - 1 := by unfold wrap64; omega
    have H1 := Lib.hid h1
    clear h h0 hs h1
    generalize K.sp = v at *
    go_enter Tryz.func324, Tryz.ntmps324
    go_wp2_with fail
    go_ret
    exact ⟨rfl, H1.out⟩
  · rw [decide_eq_false h0, if_neg h0]
    have hd : decide (K.sp ≤ 0) = true := by rw [decide_eq_true_iff]; omega
    have H1 := Lib.hid h
    clear h h0 hs
    go_enter Tryz.func324, Tryz.ntmps324
    go_wp2_with fail
    go_ret
    exact ⟨rfl, H1.out⟩
theorem turn_l (h : Wl w0 w base WB M r j B K X) (h6 : K.ln ≠ 6) (hs : K.sp ≤ 9223372036854775807) {u : Nat} (hu : u < 18446744073709551616) :
    Calls Tryz.prog 322 #[askV K.t K.a, Pw B, .int .u64 (u : Int)] w fun e w' => e = .returned (.tuple #[]) ∧ Wl w0 w' base WB M r j B (K.turn u) X := by
  have hj := h.hj
  have hA := h.pushB (.cells #[.int .i64 (K.t : Int), .int .u32 (K.a : Int)] 453)
  obtain ⟨Q, hQ⟩ : ∃ Q, Q = w.heap.size := ⟨_, rfl⟩
  rw [← hQ] at hA
  have h1 := hA.put { K with st := u } (set_blk hA.blk 1 (.int .u64 (u : Int)) _ (by simp [Lk.cs])) ((Turns.refl (fun k => k = B) _).setCell ⟨B, 1, none⟩ _ rfl)
  have d1 := hA.b1; have y1 := hA.fz 1
  have HAS := Lib.hid (fun W => S1.as_any u hu W)
  have H1 := Lib.hid h1; have HJ := Lib.hid hj; have HQ := Lib.hid hQ
  clear h hA h1 hQ hj
  go_enter Tryz.func322, Tryz.ntmps322
  go_upto_region 1 with (fail)
  rw [← HQ.out]
  go_upto_region 2 with (fail)
  generalize (w.alloc (.cells #[.int .i64 (K.t : Int), .int .u32 (K.a : Int)] 453)).setCell ⟨B, 1, none⟩ (.int .u64 (u : Int)) = w1 at *
  clear d1 y1
  unfold S1.asV at HAS
  have HB := Lib.hid (show S1.bitB u 0 = S1.bitB u 0 from rfl)
  obtain ⟨b0, hb0⟩ : ∃ x, x = S1.bitB u 0 := ⟨_, rfl⟩
  obtain ⟨hd, hhd⟩ : ∃ x, x = S1.headN u := ⟨_, rfl⟩
  rw [← hb0, ← hhd] at HAS
  have HT := Lib.hid (And.intro hb0 hhd)
  clear HB hb0 hhd
  go_upto_block 0 with (go_at_call 204; refine (HAS.out _).mono ?_; rintro e w2 ⟨rfl, hb2⟩)
  have hw3 := heap_alloc_new w2 (.cells #[.bool b0, .bool (S1.bitB u 1), .int .i64 hd] 339)
  have h3 := H1.out.new (hb2.trans ((below1 w2 (.cells #[.bool b0, .bool (S1.bitB u 1), .int .i64 hd] 339)).mono hb2.size))
  generalize w2.alloc (.cells #[.bool b0, .bool (S1.bitB u 1), .int .i64 hd] 339) = w3 at *
  generalize w2.heap.size = Qs at *
  have x0 := cell_row hw3 0; have x2 := cell_row hw3 2
  have hl := h3.last HJ.out
  have k0 := cell_row hl 0; have k1 := cell_row hl 1
  simp only [List.getElem?_toArray, List.getElem?_cons_zero, List.getElem?_cons_succ] at x0 x2 k0 k1
  have c0 := h3.b0; have z0 := h3.fz 0
  have HSP := Lib.hid (spin_l h3 hs)
  have fin : ∀ (W : World) (ln : Nat) (sp : Int) (V : Value), Wl w0 W base WB M (r ++ [blockP Q (.cells #[.int .i64 (K.t : Int), .int .u32 (K.a : Int)] 453)]) j B { K with st := u, sp := sp } X → ln ≠ 6 → nxV K.t K.a ln = V → Wl w0 (W.setCell ⟨B, 0, none⟩ V) base WB M r j B { K with st := u, sp := sp, ln := ln } X := fun W ln sp V hW hl hV =>
    (hW.put { K with st := u, sp := sp, ln := ln } (set_blk hW.blk 0 V _ (by simp [Lk.cs, hV, hl, h6])) ((Turns.refl (fun k => k = B) _).setCell ⟨B, 0, none⟩ _ rfl)).dropB HJ.out
  have HFIN := Lib.hid fin; have H3 := Lib.hid h3
  clear fin h3 hl hw3 hb2 HAS H1
  cases b0 with
  | false =>
    have ht : K.turn u = { K with st := u, ln := 2 } := by unfold Lk.turn; rw [← HT.out.1, if_pos rfl]
    have HTN := Lib.hid ht
    clear ht HT HSP
    go_wp2_with fail
    go_end0
    exact ⟨rfl, by rw [HTN.out]; exact HFIN.out _ 2 K.sp _ H3.out (by decide) rfl⟩
  | true =>
    by_cases hh : hd = -1
    · subst hh
      by_cases hsp : 0 < K.sp
      · have ht : K.turn u = { K with st := u, ln := 3, sp := K.sp - 1 } := by unfold Lk.turn; rw [← HT.out.1, if_neg (by decide), if_pos HT.out.2.symm, if_pos hsp]
        have HTN := Lib.hid ht
        rw [decide_eq_true hsp, if_pos hsp] at HSP
        clear ht HT hsp hs
        go_wp2_with (go_at_call 324; refine HSP.out.mono ?_; rintro e w4 ⟨rfl, h4⟩; (have c0 := h4.b0; have z0 := h4.fz 0; have hl := h4.last HJ.out; have k0 := cell_row hl 0; have k1 := cell_row hl 1; simp only [List.getElem?_toArray, List.getElem?_cons_zero, List.getElem?_cons_succ] at k0 k1; have H4 := Lib.hid h4; clear hl h4))
        go_end0
        exact ⟨rfl, by rw [HTN.out]; exact HFIN.out _ 3 (K.sp - 1) _ H4.out (by decide) rfl⟩
      · have ht : K.turn u = { K with st := u, ln := 4 } := by unfold Lk.turn; rw [← HT.out.1, if_neg (by decide), if_pos HT.out.2.symm, if_neg hsp]
        have HTN := Lib.hid ht
        rw [decide_eq_false hsp, if_neg hsp] at HSP
        clear ht HT hsp hs
        go_wp2_with (go_at_call 324; refine HSP.out.mono ?_; rintro e w4 ⟨rfl, h4⟩; (have c0 := h4.b0; have z0 := h4.fz 0; have hl := h4.last HJ.out; have k0 := cell_row hl 0; have k1 := cell_row hl 1; simp only [List.getElem?_toArray, List.getElem?_cons_zero, List.getElem?_cons_succ] at k0 k1; have H4 := Lib.hid h4; clear hl h4))
        go_end0
        exact ⟨rfl, by rw [HTN.out]; exact HFIN.out _ 4 K.sp _ H4.out (by decide) rfl⟩
    · have ht : K.turn u = { K with st := u, ln := 4 } := by unfold Lk.turn; rw [← HT.out.1, if_neg (by decide), if_neg (fun e => hh (HT.out.2.trans e))]
      have HTN := Lib.hid ht
      have hne : (hd == -1) = false := by rw [beq_eq_false_iff_ne]; exact hh
      clear ht HT hh HSP
      go_wp2_with fail
      go_end0
      exact ⟨rfl, by rw [HTN.out]; exact HFIN.out _ 4 K.sp _ H3.out (by decide) rfl⟩
end
end Go.Proofs.YtieiiabbeglmfaaGreatDoor.S13
namespace Go.Proofs.YtieiiabbeglmfaaGreatDoor.S13
set_option maxRecDepth 100000
set_option maxHeartbeats 16000000
open Go.Proofs.YtieiiabbeglmfaaGreatDoor Go.Proofs.YtieiiabbeglmfaaGreatDoor.S11 Go.Proofs.YtieiiabbeglmfaaGreatDoor.S12
open Go.RowKit
def Lk.cas (K : Lk) (x was : Nat) (K' : Lk) : Lk := if x = was then K' else K.turn x
section
variable {w0 w w' : World} {base WB : Nat} {M : Sd} {r : List Part} {j B : Nat} {K : Lk} {X : Wm}
theorem Wl.look (h : Wl w0 w base WB M r j B K X) (a : Nat) : S2.look M.L a < 18446744073709551616 := by
  have := S2.look_lt h.pg.pw.cells.good a
  rwa [show X.L = M.L from congrArg Sd.L h.pg.xm] at this
theorem swap_l (h : Wl w0 w base WB M r j B K X) (h6 : K.ln ≠ 6) (hs : K.sp ≤ 9223372036854775807) (ha : K.a < 4294967296) (hn : M.n ≤ 1000000000) {was is : Nat} (his : is < 18446744073709551616) :
    Calls Tryz.prog 321 #[askV K.t K.a, Pw B, Pw WB, .int .u64 (was : Int), .int .u64 (is : Int)] w fun e w' => e = .returned (.bool (decide (S2.look M.L K.a = was))) ∧ ∃ X', Wl w0 w' base WB (M.acc 3 K.a (S2.casV (S2.look M.L K.a) was is)) r j B (K.cas (S2.look M.L K.a) was K) X' := by
  have hj := h.hj
  have hA := h.pushB (.cells #[.int .i64 (K.t : Int), .int .u32 (K.a : Int)] 453)
  have k0 := cell_row (heap_alloc_new w (.cells #[.int .i64 (K.t : Int), .int .u32 (K.a : Int)] 453)) 0; have k1 := cell_row (heap_alloc_new w (.cells #[.int .i64 (K.t : Int), .int .u32 (K.a : Int)] 453)) 1
  simp only [List.getElem?_toArray, List.getElem?_cons_zero, List.getElem?_cons_succ] at k0 k1
  obtain ⟨Q, hQ⟩ : ∃ Q, Q = w.heap.size := ⟨_, rfl⟩
  rw [← hQ] at hA k0 k1
  have HA := Lib.hid hA; have HJ := Lib.hid hj; have HQ := Lib.hid hQ
  have q0 := HA.out.pg.c.1
  have HC := Lib.hid ((HA.out.new (Below.refl _ _).drew).pg.cas ha his hn (u := was))
  obtain ⟨x, hx⟩ : ∃ x, x = S2.look M.L K.a := ⟨_, rfl⟩
  have hxl : x < 18446744073709551616 := by rw [hx]; exact HA.out.look K.a
  rw [← hx] at HC ⊢
  have HX := Lib.hid hxl
  clear hx hxl his
  clear h hj hQ
  go_enter Tryz.func321, Tryz.ntmps321
  go_upto_region 1 with (fail)
  rw [← HQ.out]
  generalize w.alloc (.cells #[.int .i64 (K.t : Int), .int .u32 (K.a : Int)] 453) = w1 at *
  refine wp_region_held_drew (S := fun w' => w'.cell? ⟨WB, 0, none⟩ = some (Pw X.cB) ∧ w'.cell? ⟨Q, 1, none⟩ = some (.int .u32 (K.a : Int))) (by kernel_rfl) ?_ (fun hHeld => ?_)
  · exact ⟨q0, k1⟩
  refine tA 0 ⟨some 14, .move (.tmp 2), 24, "wordlocks.go:108", #[], none⟩ ?vsm1 ?rsm1
  (try simp only [Act.put, tC, tD, tE])
  refine tA 1 ⟨some 15, .nilCheck (.tmp 14), 0, "wordlocks.go:108", #[⟨0, .data⟩], none⟩ ?vsm2 ?rsm2
  (try simp only [Act.put, tC, tD, tE])
  refine tA 2 ⟨some 16, .fieldAddr 47 (.tmp 15) 0, 0, "wordlocks.go:108", #[⟨1, .data⟩], none⟩ ?vsm3 ?rsm3
  (try simp only [Act.put, tC, tD, tE])
  refine tA 3 ⟨some 17, .load 39 (.tmp 16), 39, "wordlocks.go:108", #[⟨2, .data⟩], none⟩ ?vsm4 ?rsm4
  (try simp only [Act.put, tC, tD, tE])
  refine tA 4 ⟨some 18, .fieldAddr 453 (.tmp 5) 1, 0, "wordlocks.go:108", #[], none⟩ ?vsm5 ?rsm5
  (try simp only [Act.put, tC, tD, tE])
  refine tA 5 ⟨some 19, .load 35 (.tmp 18), 35, "wordlocks.go:108", #[⟨4, .data⟩], none⟩ ?vsm6 ?rsm6
  (try simp only [Act.put, tC, tD, tE])
  refine tA 6 ⟨some 20, .move (.tmp 3), 23, "wordlocks.go:108", #[], none⟩ ?vsm7 ?rsm7
  (try simp only [Act.put, tC, tD, tE])
  refine tA 7 ⟨some 21, .move (.tmp 4), 23, "wordlocks.go:108", #[], none⟩ ?vsm8 ?rsm8
  (try simp only [Act.put, tC, tD, tE])
  refine wpAnyH_ready (rs := [8]) (by kernel_rfl) (by simp) ?_
  refine AllReadyH.cons (o := ⟨some 22, .call ⟨.value (.func 245), #[.tmp 17, .tmp 19, .tmp 20, .tmp 21], #[39, 35, 23, 23]⟩, 393, "wordlocks.go:108", #[⟨3, .data⟩, ⟨5, .data⟩, ⟨6, .data⟩, ⟨7, .data⟩], none⟩) rfl (fun Kq hKq => ?_) AllReadyH.nil
  go_simp
  (refine HC.out.mono ?_; rintro e w3 ⟨rfl, X3, h3g, hcB⟩; have h3 : Wl w0 w3 base WB (M.acc 3 K.a (S2.casV x was is)) (r ++ [blockP Q (.cells #[.int .i64 (K.t : Int), .int .u32 (K.a : Int)] 453)]) j B K X3 := ⟨h3g, HA.out.hj⟩; have q3 := h3.pg.c.1; rw [hcB] at q3; have hl := h3.last HJ.out; have k1' := cell_row hl 1; simp only [List.getElem?_toArray, List.getElem?_cons_zero, List.getElem?_cons_succ] at k1')
  refine hKq.out _ _ ?_ (fun hHeld => ?_)
  · exact ⟨q3, k1'⟩
  clear hKq Kq
  (try simp only [Act.put, tC, tD, tE])
  refine tA 9 ⟨some 13, .move (.tmp 22), 393, "wordlocks.go:108", #[⟨8, .data⟩], none⟩ ?vsm9 ?rsm9
  (try simp only [Act.put, tC, tD, tE])
  refine tA 10 ⟨some 23, .extract (.tmp 13) 0, 23, "wordlocks.go:108", #[⟨9, .data⟩], none⟩ ?vsm10 ?rsm10
  (try simp only [Act.put, tC, tD, tE])
  refine tA 11 ⟨some 24, .extract (.tmp 13) 1, 4, "wordlocks.go:108", #[⟨9, .data⟩, ⟨12, .gcOnly .lateStores⟩], none⟩ ?vsm11 ?rsm11
  (try simp only [Act.put, tC, tD, tE])
  refine tA 12 ⟨some 11, .assign (.tmp 23), 23, "wordlocks.go:108", #[⟨10, .data⟩, ⟨8, .chain⟩, ⟨0, .phase⟩, ⟨1, .phase⟩, ⟨2, .phase⟩, ⟨3, .phase⟩, ⟨4, .phase⟩, ⟨5, .phase⟩, ⟨6, .phase⟩, ⟨7, .phase⟩, ⟨8, .phase⟩, ⟨9, .phase⟩, ⟨10, .phase⟩, ⟨11, .textOnly .lateStores⟩], none⟩ ?vsm12 ?rsm12
  (try simp only [Act.put, tC, tD, tE])
  refine tA 13 ⟨some 12, .assign (.tmp 24), 4, "wordlocks.go:108", #[⟨11, .data⟩, ⟨12, .chain⟩, ⟨0, .phase⟩, ⟨1, .phase⟩, ⟨2, .phase⟩, ⟨3, .phase⟩, ⟨4, .phase⟩, ⟨5, .phase⟩, ⟨6, .phase⟩, ⟨7, .phase⟩, ⟨8, .phase⟩, ⟨9, .phase⟩, ⟨10, .phase⟩, ⟨11, .phase⟩, ⟨12, .phase⟩], none⟩ ?vsm13 ?rsm13
  (try simp only [Act.put, tC, tD, tE])
  refine wpAnyH_done (by kernel_rfl) ?_ _
  have HTN := Lib.hid (turn_l h3 h6 hs HX.out)
  have H3 := Lib.hid h3
  clear hHeld h3 h3g HC q0 hA k0 k1
  have hl := H3.out.last HJ.out; have k0 := cell_row hl 0; have k1 := cell_row hl 1; simp only [List.getElem?_toArray, List.getElem?_cons_zero, List.getElem?_cons_succ] at k0 k1
  clear hl
  by_cases e : x = was
  · have hd : decide (x = was) = true := decide_eq_true e
    have hk : K.cas x was K = K := if_pos e
    rw [hd]
    have HK := Lib.hid hk
    clear hk hd HTN
    go_wp2_with fail
    go_ret
    exact ⟨by rw [decide_eq_true e]; rfl, X3, by rw [HK.out]; exact H3.out.dropB HJ.out⟩
  · have hd : decide (x = was) = false := decide_eq_false e
    have hk : K.cas x was K = K.turn x := if_neg e
    rw [hd]
    have HK := Lib.hid hk
    clear hk hd
    go_wp2_with (go_at_call 322; refine HTN.out.mono ?_; rintro e w4 ⟨rfl, h4⟩; (have H4 := Lib.hid h4; clear h4))
    go_ret
    exact ⟨by rw [decide_eq_false e]; rfl, X3, by rw [HK.out]; exact H4.out.dropB HJ.out⟩
theorem Wl.next (h : Wl w0 w base WB M r j B K X) (h6 : K.ln ≠ 6) (ln : Nat) (hl : ln ≠ 6) (V : Value) (hV : nxV K.t K.a ln = V) : Wl w0 (w.setCell ⟨B, 0, none⟩ V) base WB M r j B { K with ln := ln } X :=
  h.put { K with ln := ln } (set_blk h.blk 0 V _ (by simp [Lk.cs, hV, hl, h6])) ((Turns.refl (fun k => k = B) _).setCell ⟨B, 0, none⟩ _ rfl)
theorem Wl.next2 (h : Wl w0 w base WB M r j B K X) (ln : Nat) (V : Value) (hV : nxV K.t K.a ln = V) (b : Bool) (hb : decide (ln = 6) = b) : Wl w0 ((w.setCell ⟨B, 0, none⟩ V).setCell ⟨B, 3, none⟩ (.bool b)) base WB M r j B { K with ln := ln } X :=
  h.put { K with ln := ln } (set_blk (set_blk h.blk 0 V _ rfl) 3 (.bool b) _ (by simp [Lk.cs, hV, ← hb])) (((Turns.refl (fun k => k = B) _).setCell ⟨B, 0, none⟩ _ rfl).setCell ⟨B, 3, none⟩ _ rfl)
end
def hdO (u : Nat) : Option Nat := if 1 ≤ u / 4 ∧ u / 4 ≤ 64 then some (u / 4 - 1) else none
theorem num_head (u : Nat) : S5.Num (S1.headN u) (hdO u) := by
  unfold S1.headN hdO
  by_cases h : 1 ≤ u / 4 ∧ u / 4 ≤ 64
  · rw [if_pos h, if_pos h]
    refine ⟨?_, ?_⟩ <;> omega
  · rw [if_neg h, if_neg h]
    exact S5.nm1
def stepM (M : Sd) (K : Lk) : Sd :=
  match K.ln with
  | 1 => M.acc 3 K.a (S2.casV (S2.look M.L K.a) 0 1)
  | 2 => M.acc 3 K.a (S2.casV (S2.look M.L K.a) K.st (S1.putU true (S1.bitB K.st 1) (S1.headN K.st)))
  | 3 => M.acc 1 K.a (S2.look M.L K.a)
  | 4 => (M.prep (2 * K.t + 1)).link (S5.pushS M.lk (some K.t) (hdO K.st))
  | 5 => M.acc 3 K.a (S2.casV (S2.look M.L K.a) K.st (S1.putU (S1.bitB K.st 0) (S1.bitB K.st 1) K.t))
  | 6 => M.park (2 * K.t + 1)
  | _ => M
def stepK (M : Sd) (K : Lk) : Lk :=
  match K.ln with
  | 1 => ({ K with sp := M.sp } : Lk).cas (S2.look M.L K.a) 0 { K with sp := M.sp, ln := 0 }
  | 2 => K.cas (S2.look M.L K.a) K.st { K with ln := 0 }
  | 3 => K.turn (S2.look M.L K.a)
  | 4 => { K with ln := 5 }
  | 5 => K.cas (S2.look M.L K.a) K.st { K with ln := 6 }
  | 6 => if (M.pf (2 * K.t + 1)).p then { K with ln := 3, sp := M.sp } else K
  | _ => K
def Stepped (w0 w' : World) (base WB : Nat) (M : Sd) (r : List Part) (j B : Nat) (K : Lk) : Prop := ∃ X', Wl w0 w' base WB (stepM M K) r j B (stepK M K) X'
structure LkOk (M : Sd) (K : Lk) : Prop where
  t : K.t < 64
  a : K.a < 4294967296
  st : K.st < 18446744073709551616
  sp : 0 ≤ K.sp ∧ K.sp ≤ 16
  ms : 0 ≤ M.sp ∧ M.sp ≤ 16
  n : M.n ≤ 1000000000
  pn : M.pn ≤ 1000000000
section
variable {w0 w w' : World} {base WB : Nat} {M : Sd} {r : List Part} {j B : Nat} {K : Lk} {X : Wm}
theorem first_l (h : Wl w0 w base WB M r j B K X) (ok : LkOk M K) (hl : K.ln = 1) : Calls Tryz.prog 319 #[askV K.t K.a, Pw B, Pw WB] w fun e w' => e = .returned (.tuple #[]) ∧ Stepped w0 w' base WB M r j B K := by
  have hM : stepM M K = M.acc 3 K.a (S2.casV (S2.look M.L K.a) 0 1) := by simp only [stepM, hl]
  have hK : stepK M K = ({ K with sp := M.sp } : Lk).cas (S2.look M.L K.a) 0 { K with sp := M.sp, ln := 0 } := by simp only [stepK, hl]
  unfold Stepped
  rw [hM, hK]
  have HPT : Hid (∀ W, Calls Tryz.prog 210 #[.agg #[.bool true, .bool false, .int .i64 (-1)]] W fun e w' => e = .returned (.int .u64 1) ∧ Below W.heap.size W w') := Lib.hid (fun W => by
    have := S1.putU_any true false (-1) (by unfold S1.isHead; omega) W
    rwa [S1.putU_one] at this)
  have hj := h.hj
  have hA := h.pushB (.cells #[.int .i64 (K.t : Int), .int .u32 (K.a : Int)] 453)
  have k0 := cell_row (heap_alloc_new w (.cells #[.int .i64 (K.t : Int), .int .u32 (K.a : Int)] 453)) 0; have k1 := cell_row (heap_alloc_new w (.cells #[.int .i64 (K.t : Int), .int .u32 (K.a : Int)] 453)) 1
  simp only [List.getElem?_toArray, List.getElem?_cons_zero, List.getElem?_cons_succ] at k0 k1
  obtain ⟨Q, hQ⟩ : ∃ Q, Q = w.heap.size := ⟨_, rfl⟩
  rw [← hQ] at hA k0 k1
  have HA := Lib.hid hA; have HJ := Lib.hid hj; have HQ := Lib.hid hQ
  have HBG := Lib.hid (begin_l hA)
  obtain ⟨x, hx⟩ : ∃ x, x = S2.look M.L K.a := ⟨_, rfl⟩
  have hsw : ∀ W, Wl w0 W base WB M (r ++ [blockP Q (.cells #[.int .i64 (K.t : Int), .int .u32 (K.a : Int)] 453)]) j B { K with sp := M.sp } X → Calls Tryz.prog 321 #[askV K.t K.a, Pw B, Pw WB, .int .u64 0, .int .u64 1] W fun e w' => e = .returned (.bool (decide (x = 0))) ∧ ∃ X', Wl w0 w' base WB (M.acc 3 K.a (S2.casV x 0 1)) (r ++ [blockP Q (.cells #[.int .i64 (K.t : Int), .int .u32 (K.a : Int)] 453)]) j B (({ K with sp := M.sp } : Lk).cas x 0 { K with sp := M.sp }) X' := fun W hW => by
    rw [hx]
    exact swap_l hW (by show K.ln ≠ 6; omega) (by show M.sp ≤ _; have := ok.ms; omega) ok.a ok.n (was := 0) (is := 1) (by omega)
  rw [← hx]
  have HSWW := Lib.hid hsw
  have H6 : Hid (K.ln ≠ 6) := Lib.hid (by omega)
  clear hsw hx ok hl hM hK
  clear h hj hQ
  go_enter Tryz.func319, Tryz.ntmps319
  go_upto_region 1 with (fail)
  rw [← HQ.out]
  generalize w.alloc (.cells #[.int .i64 (K.t : Int), .int .u32 (K.a : Int)] 453) = w1 at *
  go_upto_region 2 with (go_at_call 320; refine HBG.out.mono ?_; rintro e w3 ⟨rfl, h3⟩)
  have hl := h3.last HJ.out; have k0 := cell_row hl 0; have k1 := cell_row hl 1; simp only [List.getElem?_toArray, List.getElem?_cons_zero, List.getElem?_cons_succ] at k0 k1
  have H3 := Lib.hid h3
  clear hl h3 HBG hA
  refine wp_region_held_drew (S := fun w' => w'.cell? ⟨Q, 0, none⟩ = some (.int .i64 (K.t : Int)) ∧ w'.cell? ⟨Q, 1, none⟩ = some (.int .u32 (K.a : Int))) (by kernel_rfl) ?_ (fun hHeld => ?_)
  · exact ⟨k0, k1⟩
  refine tA 0 ⟨some 11, .load 453 (.tmp 3), 453, "wordlocks.go:62", #[], none⟩ ?vfm1 ?rfm1
  (try simp only [Act.put, tC, tD, tE])
  refine tA 1 ⟨some 12, .move (.tmp 1), 444, "wordlocks.go:62", #[], none⟩ ?vfm2 ?rfm2
  (try simp only [Act.put, tC, tD, tE])
  refine tA 2 ⟨some 13, .move (.tmp 2), 24, "wordlocks.go:62", #[], none⟩ ?vfm3 ?rfm3
  (try simp only [Act.put, tC, tD, tE])
  refine tA 3 ⟨some 14, .build 339 #[(0, .const (.bool true)), (2, .const (.int .i64 (-1)))], 339, "wordlocks.go:62", #[], none⟩ ?vfm4 ?rfm4
  (try simp only [Act.put, tC, tD, tE])
  refine wpAnyH_ready (rs := [4]) (by kernel_rfl) (by simp) ?_
  refine AllReadyH.cons (o := ⟨some 15, .call ⟨.value (.func 210), #[.tmp 14], #[339]⟩, 23, "wordlocks.go:62", #[⟨3, .data⟩], none⟩) rfl (fun Kq hKq => ?_) AllReadyH.nil
  go_simp
  (refine (HPT.out _).mono ?_; rintro e w4 ⟨rfl, hb4⟩; (have HSW := Lib.hid (HSWW.out w4 ((H3.out.new (Below.refl _ _).drew).new hb4))))
  refine hKq.out _ _ ?_ (fun hHeld => ?_)
  · exact ⟨bcell hb4 hHeld.1, bcell hb4 hHeld.2⟩
  clear hKq Kq
  (try simp only [Act.put, tC, tD, tE])
  refine wpAnyH_ready (rs := [5]) (by kernel_rfl) (by simp) ?_
  refine AllReadyH.cons (o := ⟨some 16, .call ⟨.value (.func 321), #[.tmp 11, .tmp 12, .tmp 13, .const (.int .u64 0), .tmp 15], #[453, 444, 24, 23, 23]⟩, 4, "wordlocks.go:62", #[⟨0, .data⟩, ⟨1, .data⟩, ⟨2, .data⟩, ⟨4, .data⟩, ⟨4, .chain⟩], none⟩) rfl (fun Kq hKq => ?_) AllReadyH.nil
  go_simp
  (refine HSW.out.mono ?_; rintro e w5 ⟨rfl, X5, h5⟩)
  refine hKq.out _ _ ?_ (fun hHeld => ?_)
  · (have hl := h5.last HJ.out; exact ⟨cell_row hl 0, cell_row hl 1⟩)
  clear hKq Kq
  (try simp only [Act.put, tC, tD, tE])
  refine wpAnyH_done (by kernel_rfl) ?_ _
  clear hHeld k0 k1
  go_upto_if 16 with fail
  by_cases e : x = 0
  · rw [decide_eq_true e]
    have hk : ({ K with sp := M.sp } : Lk).cas x 0 { K with sp := M.sp, ln := 0 } = { K with sp := M.sp, ln := 0 } := if_pos e
    have hk2 : ({ K with sp := M.sp } : Lk).cas x 0 { K with sp := M.sp } = { K with sp := M.sp } := if_pos e
    rw [hk2] at h5
    have c0 := h5.b0; have z0 := h5.fz 0
    have HK := Lib.hid hk; have H5 := Lib.hid h5
    clear hk hk2 e h5 HSW HSWW
    go_wp2_with fail
    go_end0
    exact ⟨rfl, X5, by rw [HK.out]; exact (H5.out.next H6.out 0 (by decide) .nilFunc rfl).dropB HJ.out⟩
  · rw [decide_eq_false e]
    have hk : ({ K with sp := M.sp } : Lk).cas x 0 { K with sp := M.sp, ln := 0 } = ({ K with sp := M.sp } : Lk).cas x 0 { K with sp := M.sp } := (if_neg e).trans (if_neg e).symm
    have HK := Lib.hid hk; have H5 := Lib.hid h5
    clear hk e h5 HSW HSWW
    go_wp2_with fail
    go_end0
    exact ⟨rfl, X5, by rw [HK.out]; exact H5.out.dropB HJ.out⟩
end
end Go.Proofs.YtieiiabbeglmfaaGreatDoor.S13
