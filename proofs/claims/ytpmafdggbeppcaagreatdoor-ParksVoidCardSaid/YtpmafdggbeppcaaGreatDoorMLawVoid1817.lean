/- Texts of this seat, one behind the other. -/
import Derived.Test.YtpmafdggbeppcaaGreatDoorMLawVoid1816
import Derived.Deep.CutBlock
import Derived.Laws.EntriesVeiled
set_option linter.unusedVariables false
set_option linter.unusedSimpArgs false
namespace Go.Proofs.YtpmafdggbeppcaaGreatDoor.S13
set_option maxRecDepth 100000
set_option maxHeartbeats 16000000
open Go.Proofs.YtpmafdggbeppcaaGreatDoor Go.Proofs.YtpmafdggbeppcaaGreatDoor.S11 Go.Proofs.YtpmafdggbeppcaaGreatDoor.S12
open Go.RowKit
section
variable {w0 w w' : World} {base WB : Nat} {M : Sd} {r : List Part} {j B : Nat} {K : Lk} {X : Wm}
theorem Wl.pushB (h : Wl w0 w base WB M r j B K X) (ob : Obj) : Wl w0 (w.alloc ob) base WB M (r ++ [blockP w.heap.size ob]) j B K X := by
  have hp := h.pg.ps.push (blockP w.heap.size ob) (below1 w ob) (heap_alloc_new w ob) (fun k e => Nat.le_of_eq (show k = w.heap.size from e).symm)
  rw [List.append_assoc] at hp
  refine ⟨⟨?_, h.pg.wB, h.pg.xm, h.pg.bl.alloc h.pg.size _⟩, by rw [List.length_append]; have := h.hj; simp; omega⟩
  rw [List.set_append_left _ _ h.hj]
  exact hp
theorem Wl.dropB {q : Part} (h : Wl w0 w base WB M (r ++ [q]) j B K X) (hj : j < r.length) : Wl w0 w base WB M r j B K X := by
  have hp := h.pg.ps
  rw [List.set_append_left _ _ hj, ← List.append_assoc] at hp
  exact ⟨⟨Parts.left hp, h.pg.wB, h.pg.xm, h.pg.bl⟩, hj⟩
theorem Wl.last {Q : Nat} {ob : Obj} (h : Wl w0 w base WB M (r ++ [blockP Q ob]) j B K X) (hj : j < r.length) : w.heap[Q]? = some ob := by
  have hp := h.pg.ps
  rw [List.set_append_left _ _ hj, ← List.append_assoc] at hp
  refine hp.ok (X.parts ++ r.set j (lockP B K)).length (blockP Q ob) ?_
  rw [List.getElem?_append_right (Nat.le_refl _), Nat.sub_self]; rfl
theorem begin_l (h : Wl w0 w base WB M r j B K X) : Calls Tryz.prog 261 #[.pointer (some ⟨B, 2, none⟩), Pw WB] w fun e w' => e = .returned (.tuple #[]) ∧ Wl w0 w' base WB M r j B { K with sp := M.sp } X := by
  have h1 := h.put { K with sp := 0 } (set_blk h.blk 2 (.int .i64 0) _ (by simp [Lk.cs])) ((Turns.refl (fun k => k = B) w).setCell ⟨B, 2, none⟩ _ rfl)
  have h2 := h1.put { K with sp := M.sp } (set_blk h1.blk 2 (.int .i64 M.sp) _ (by simp [Lk.cs])) ((Turns.refl (fun k => k = B) _).setCell ⟨B, 2, none⟩ _ rfl)
  have c2 := h.b2; have z2 := h.fz 2; have d2 := h1.b2; have y2 := h1.fz 2
  have d6 := h1.pg.c.2.2.2
  have H2 := Lib.hid h2
  clear h h1 h2
  go_enter Tryz.func261, Tryz.ntmps261
  go_wp2_with fail
  go_end0
  exact ⟨rfl, H2.out⟩
theorem spin_l (h : Wl w0 w base WB M r j B K X) (hs : K.sp ≤ 9223372036854775807) : Calls Tryz.prog 269 #[.pointer (some ⟨B, 2, none⟩)] w fun e w' => e = .returned (.bool (decide (0 < K.sp))) ∧ Wl w0 w' base WB M r j B { K with sp := if 0 < K.sp then K.sp - 1 else K.sp } X := by
  have c2 := h.b2; have z2 := h.fz 2
  by_cases h0 : 0 < K.sp
  · rw [decide_eq_true h0, if_pos h0]
    have h1 := h.put { K with sp := K.sp - 1 } (set_blk h.blk 2 (.int .i64 (K.sp - 1)) _ (by simp [Lk.cs])) ((Turns.refl (fun k => k = B) w).setCell ⟨B, 2, none⟩ _ rfl)
    have hd : decide (K.sp ≤ 0) = false := by rw [decide_eq_false_iff_not]; omega
    have hw : wrap64 (K.sp - 1) = K.sp - 1 := by unfold wrap64; omega
    have H1 := Lib.hid h1
    clear h h0 hs h1
    generalize K.sp = v at *
    go_enter Tryz.func269, Tryz.ntmps269
    go_wp2_with fail
    go_ret
    exact ⟨rfl, H1.out⟩
  · rw [decide_eq_false h0, if_neg h0]
    have hd : decide (K.sp ≤ 0) = true := by rw [decide_eq_true_iff]; omega
    have H1 := Lib.hid h
    clear h h0 hs
    go_enter Tryz.func269, Tryz.ntmps269
    go_wp2_with fail
    go_ret
    exact ⟨rfl, H1.out⟩
theorem turn_l (h : Wl w0 w base WB M r j B K X) (h6 : K.ln ≠ 6) (hs : K.sp ≤ 9223372036854775807) {u : Nat} (hu : u < 18446744073709551616) :
    Calls Tryz.prog 265 #[askV K.t K.a, Pw B, .int .u64 (u : Int)] w fun e w' => e = .returned (.tuple #[]) ∧ Wl w0 w' base WB M r j B (K.turn u) X := by
  have hj := h.hj
  have hA := h.pushB (.cells #[.int .i64 (K.t : Int), .int .u32 (K.a : Int)] 403)
  obtain ⟨Q, hQ⟩ : ∃ Q, Q = w.heap.size := ⟨_, rfl⟩
  rw [← hQ] at hA
  have h1 := hA.put { K with st := u } (set_blk hA.blk 1 (.int .u64 (u : Int)) _ (by simp [Lk.cs])) ((Turns.refl (fun k => k = B) _).setCell ⟨B, 1, none⟩ _ rfl)
  have d1 := hA.b1; have y1 := hA.fz 1
  have HAS := Lib.hid (fun W => S1.as_any u hu W)
  have H1 := Lib.hid h1; have HJ := Lib.hid hj; have HQ := Lib.hid hQ
  clear h hA h1 hQ hj
  go_enter Tryz.func265, Tryz.ntmps265
  go_upto_region 1 with (fail)
  rw [← HQ.out]
  go_upto_region 2 with (fail)
  generalize (w.alloc (.cells #[.int .i64 (K.t : Int), .int .u32 (K.a : Int)] 403)).setCell ⟨B, 1, none⟩ (.int .u64 (u : Int)) = w1 at *
  clear d1 y1
  unfold S1.asV at HAS
  have HB := Lib.hid (show S1.bitB u 0 = S1.bitB u 0 from rfl)
  obtain ⟨b0, hb0⟩ : ∃ x, x = S1.bitB u 0 := ⟨_, rfl⟩
  obtain ⟨hd, hhd⟩ : ∃ x, x = S1.headN u := ⟨_, rfl⟩
  rw [← hb0, ← hhd] at HAS
  have HT := Lib.hid (And.intro hb0 hhd)
  clear HB hb0 hhd
  go_upto_block 0 with (go_at_call 267; refine (HAS.out _).mono ?_; rintro e w2 ⟨rfl, hb2⟩)
  have hw3 := heap_alloc_new w2 (.cells #[.bool b0, .bool (S1.bitB u 1), .int .i64 hd] 330)
  have h3 := H1.out.new (hb2.trans ((below1 w2 (.cells #[.bool b0, .bool (S1.bitB u 1), .int .i64 hd] 330)).mono hb2.size))
  generalize w2.alloc (.cells #[.bool b0, .bool (S1.bitB u 1), .int .i64 hd] 330) = w3 at *
  generalize w2.heap.size = Qs at *
  have x0 := cell_row hw3 0; have x2 := cell_row hw3 2
  have hl := h3.last HJ.out
  have k0 := cell_row hl 0; have k1 := cell_row hl 1
  simp only [List.getElem?_toArray, List.getElem?_cons_zero, List.getElem?_cons_succ] at x0 x2 k0 k1
  have c0 := h3.b0; have z0 := h3.fz 0
  have HSP := Lib.hid (spin_l h3 hs)
  have fin : ∀ (W : World) (ln : Nat) (sp : Int) (V : Value), Wl w0 W base WB M (r ++ [blockP Q (.cells #[.int .i64 (K.t : Int), .int .u32 (K.a : Int)] 403)]) j B { K with st := u, sp := sp } X → ln ≠ 6 → nxV K.t K.a ln = V → Wl w0 (W.setCell ⟨B, 0, none⟩ V) base WB M r j B { K with st := u, sp := sp, ln := ln } X := fun W ln sp V hW hl hV =>
    (hW.put { K with st := u, sp := sp, ln := ln } (set_blk hW.blk 0 V _ (by simp [Lk.cs, hV, hl, h6])) ((Turns.refl (fun k => k = B) _).setCell ⟨B, 0, none⟩ _ rfl)).dropB HJ.out
  have HFIN := Lib.hid fin; have H3 := Lib.hid h3
  clear fin h3 hl hw3 hb2 HAS H1
  cases b0 with
  | false =>
    have ht : K.turn u = { K with st := u, ln := 2 } := by unfold Lk.turn; rw [← HT.out.1, if_pos rfl]
    have HTN := Lib.hid ht
    clear ht HT HSP
    go_wp2_with fail
    go_end0
    exact ⟨rfl, by rw [HTN.out]; exact HFIN.out _ 2 K.sp _ H3.out (by decide) rfl⟩
  | true =>
    by_cases hh : hd = -1
    · subst hh
      by_cases hsp : 0 < K.sp
      · have ht : K.turn u = { K with st := u, ln := 3, sp := K.sp - 1 } := by unfold Lk.turn; rw [← HT.out.1, if_neg (by decide), if_pos HT.out.2.symm, if_pos hsp]
        have HTN := Lib.hid ht
        rw [decide_eq_true hsp, if_pos hsp] at HSP
        clear ht HT hsp hs
        go_wp2_with (go_at_call 269; refine HSP.out.mono ?_; rintro e w4 ⟨rfl, h4⟩; (have c0 := h4.b0; have z0 := h4.fz 0; have hl := h4.last HJ.out; have k0 := cell_row hl 0; have k1 := cell_row hl 1; simp only [List.getElem?_toArray, List.getElem?_cons_zero, List.getElem?_cons_succ] at k0 k1; have H4 := Lib.hid h4; clear hl h4))
        go_end0
        exact ⟨rfl, by rw [HTN.out]; exact HFIN.out _ 3 (K.sp - 1) _ H4.out (by decide) rfl⟩
      · have ht : K.turn u = { K with st := u, ln := 4 } := by unfold Lk.turn; rw [← HT.out.1, if_neg (by decide), if_pos HT.out.2.symm, if_neg hsp]
        have HTN := Lib.hid ht
        rw [decide_eq_false hsp, if_neg hsp] at HSP
        clear ht HT hsp hs
        go_wp2_with (go_at_call 269; refine HSP.out.mono ?_; rintro e w4 ⟨rfl, h4⟩; (have c0 := h4.b0; have z0 := h4.fz 0; have hl := h4.last HJ.out; have k0 := cell_row hl 0; have k1 := cell_row hl 1; simp only [List.getElem?_toArray, List.getElem?_cons_zero, List.getElem?_cons_succ] at k0 k1; have H4 := Lib.hid h4; clear hl h4))
        go_end0
        exact ⟨rfl, by rw [HTN.out]; exact HFIN.out _ 4 K.sp _ H4.out (by decide) rfl⟩
    · have ht : K.turn u = { K with st := u, ln := 4 } := by unfold Lk.turn; rw [← HT.out.1, if_neg (by decide), if_neg (fun e => hh (HT.out.2.trans e))]
      have HTN := Lib.hid ht
      have hne : (hd == -1) = false := by rw [beq_eq_false_iff_ne]; exact hh
      clear ht HT hh HSP
      go_wp2_with fail
      go_end0
      exact ⟨rfl, by rw [HTN.out]; exact HFIN.out _ 4 K.sp _ H3.out (by decide) rfl⟩
end
end Go.Proofs.YtpmafdggbeppcaaGreatDoor.S13
namespace Go.Proofs.YtpmafdggbeppcaaGreatDoor.S13
set_option maxRecDepth 100000
set_option maxHeartbeats 16000000
open Go.Proofs.YtpmafdggbeppcaaGreatDoor Go.Proofs.YtpmafdggbeppcaaGreatDoor.S11 Go.Proofs.YtpmafdggbeppcaaGreatDoor.S12
open Go.RowKit
def Lk.cas (K : Lk) (x was : Nat) (K' : Lk) : Lk := if x = was then K' else K.turn x
section
variable {w0 w w' : World} {base WB : Nat} {M : Sd} {r : List Part} {j B : Nat} {K : Lk} {X : Wm}
theorem Wl.look (h : Wl w0 w base WB M r j B K X) (a : Nat) : S2.look M.L a < 18446744073709551616 := by
  have := S2.look_lt h.pg.pw.cells.good a
  rwa [show X.L = M.L from congrArg Sd.L h.pg.xm] at this
theorem swap_l (h : Wl w0 w base WB M r j B K X) (h6 : K.ln ≠ 6) (hs : K.sp ≤ 9223372036854775807) (ha : K.a < 4294967296) (hn : M.n ≤ 1000000000) {was is : Nat} (his : is < 18446744073709551616) :
    Calls Tryz.prog 262 #[askV K.t K.a, Pw B, Pw WB, .int .u64 (was : Int), .int .u64 (is : Int)] w fun e w' => e = .returned (.bool (decide (S2.look M.L K.a = was))) ∧ ∃ X', Wl w0 w' base WB (M.acc 3 K.a (S2.casV (S2.look M.L K.a) was is)) r j B (K.cas (S2.look M.L K.a) was K) X' := by
  have hj := h.hj
  have hA := h.pushB (.cells #[.int .i64 (K.t : Int), .int .u32 (K.a : Int)] 403)
  have k0 := cell_row (heap_alloc_new w (.cells #[.int .i64 (K.t : Int), .int .u32 (K.a : Int)] 403)) 0; have k1 := cell_row (heap_alloc_new w (.cells #[.int .i64 (K.t : Int), .int .u32 (K.a : Int)] 403)) 1
  simp only [List.getElem?_toArray, List.getElem?_cons_zero, List.getElem?_cons_succ] at k0 k1
  obtain ⟨Q, hQ⟩ : ∃ Q, Q = w.heap.size := ⟨_, rfl⟩
  rw [← hQ] at hA k0 k1
  have HA := Lib.hid hA; have HJ := Lib.hid hj; have HQ := Lib.hid hQ
  have q0 := HA.out.pg.c.1
  have HC := Lib.hid ((HA.out.new (Below.refl _ _).drew).pg.cas ha his hn (u := was))
  obtain ⟨x, hx⟩ : ∃ x, x = S2.look M.L K.a := ⟨_, rfl⟩
  have hxl : x < 18446744073709551616 := by rw [hx]; exact HA.out.look K.a
  rw [← hx] at HC ⊢
  have HX := Lib.hid hxl
  clear hx hxl his
  clear h hj hQ
  go_enter Tryz.func262, Tryz.ntmps262
  go_upto_region 1 with (fail)
  rw [← HQ.out]
  generalize w.alloc (.cells #[.int .i64 (K.t : Int), .int .u32 (K.a : Int)] 403) = w1 at *
  refine wp_region_held_drew (S := fun w' => w'.cell? ⟨WB, 0, none⟩ = some (Pw X.cB) ∧ w'.cell? ⟨Q, 1, none⟩ = some (.int .u32 (K.a : Int))) (by kernel_rfl) ?_ (fun hHeld => ?_)
  · exact ⟨q0, k1⟩
  refine tA 0 ⟨some 14, .move (.tmp 2), 24, "wordlocks.go:108", #[], none⟩ ?vsm1 ?rsm1
  (try simp only [Act.put, tC, tD, tE])
  refine tA 1 ⟨some 15, .nilCheck (.tmp 14), 0, "wordlocks.go:108", #[⟨0, .data⟩], none⟩ ?vsm2 ?rsm2
  (try simp only [Act.put, tC, tD, tE])
  refine tA 2 ⟨some 16, .fieldAddr 74 (.tmp 15) 0, 0, "wordlocks.go:108", #[⟨1, .data⟩], none⟩ ?vsm3 ?rsm3
  (try simp only [Act.put, tC, tD, tE])
  refine tA 3 ⟨some 17, .load 66 (.tmp 16), 66, "wordlocks.go:108", #[⟨2, .data⟩], none⟩ ?vsm4 ?rsm4
  (try simp only [Act.put, tC, tD, tE])
  refine tA 4 ⟨some 18, .fieldAddr 403 (.tmp 5) 1, 0, "wordlocks.go:108", #[], none⟩ ?vsm5 ?rsm5
  (try simp only [Act.put, tC, tD, tE])
  refine tA 5 ⟨some 19, .load 23 (.tmp 18), 23, "wordlocks.go:108", #[⟨4, .data⟩], none⟩ ?vsm6 ?rsm6
  (try simp only [Act.put, tC, tD, tE])
  refine tA 6 ⟨some 20, .move (.tmp 3), 29, "wordlocks.go:108", #[], none⟩ ?vsm7 ?rsm7
  (try simp only [Act.put, tC, tD, tE])
  refine tA 7 ⟨some 21, .move (.tmp 4), 29, "wordlocks.go:108", #[], none⟩ ?vsm8 ?rsm8
  (try simp only [Act.put, tC, tD, tE])
  refine wpAnyH_ready (rs := [8]) (by kernel_rfl) (by simp) ?_
  refine AllReadyH.cons (o := ⟨some 22, .call ⟨.value (.func 264), #[.tmp 17, .tmp 19, .tmp 20, .tmp 21], #[66, 23, 29, 29]⟩, 407, "wordlocks.go:108", #[⟨3, .data⟩, ⟨5, .data⟩, ⟨6, .data⟩, ⟨7, .data⟩], none⟩) rfl (fun Kq hKq => ?_) AllReadyH.nil
  go_simp
  (refine HC.out.mono ?_; rintro e w3 ⟨rfl, X3, h3g, hcB⟩; have h3 : Wl w0 w3 base WB (M.acc 3 K.a (S2.casV x was is)) (r ++ [blockP Q (.cells #[.int .i64 (K.t : Int), .int .u32 (K.a : Int)] 403)]) j B K X3 := ⟨h3g, HA.out.hj⟩; have q3 := h3.pg.c.1; rw [hcB] at q3; have hl := h3.last HJ.out; have k1' := cell_row hl 1; simp only [List.getElem?_toArray, List.getElem?_cons_zero, List.getElem?_cons_succ] at k1')
  refine hKq.out _ _ ?_ (fun hHeld => ?_)
  · exact ⟨q3, k1'⟩
  clear hKq Kq
  (try simp only [Act.put, tC, tD, tE])
  refine tA 9 ⟨some 13, .move (.tmp 22), 407, "wordlocks.go:108", #[⟨8, .data⟩], none⟩ ?vsm9 ?rsm9
  (try simp only [Act.put, tC, tD, tE])
  refine tA 10 ⟨some 23, .extract (.tmp 13) 0, 29, "wordlocks.go:108", #[⟨9, .data⟩], none⟩ ?vsm10 ?rsm10
  (try simp only [Act.put, tC, tD, tE])
  refine tA 11 ⟨some 24, .extract (.tmp 13) 1, 4, "wordlocks.go:108", #[⟨9, .data⟩, ⟨12, .gcOnly .lateStores⟩], none⟩ ?vsm11 ?rsm11
  (try simp only [Act.put, tC, tD, tE])
  refine tA 12 ⟨some 11, .assign (.tmp 23), 29, "wordlocks.go:108", #[⟨10, .data⟩, ⟨8, .chain⟩, ⟨0, .phase⟩, ⟨1, .phase⟩, ⟨2, .phase⟩, ⟨3, .phase⟩, ⟨4, .phase⟩, ⟨5, .phase⟩, ⟨6, .phase⟩, ⟨7, .phase⟩, ⟨8, .phase⟩, ⟨9, .phase⟩, ⟨10, .phase⟩, ⟨11, .textOnly .lateStores⟩], none⟩ ?vsm12 ?rsm12
  (try simp only [Act.put, tC, tD, tE])
  refine tA 13 ⟨some 12, .assign (.tmp 24), 4, "wordlocks.go:108", #[⟨11, .data⟩, ⟨12, .chain⟩, ⟨0, .phase⟩, ⟨1, .phase⟩, ⟨2, .phase⟩, ⟨3, .phase⟩, ⟨4, .phase⟩, ⟨5, .phase⟩, ⟨6, .phase⟩, ⟨7, .phase⟩, ⟨8, .phase⟩, ⟨9, .phase⟩, ⟨10, .phase⟩, ⟨11, .phase⟩, ⟨12, .phase⟩], none⟩ ?vsm13 ?rsm13
  (try simp only [Act.put, tC, tD, tE])
  refine wpAnyH_done (by kernel_rfl) ?_ _
  have HTN := Lib.hid (turn_l h3 h6 hs HX.out)
  have H3 := Lib.hid h3
  clear hHeld h3 h3g HC q0 hA k0 k1
  have hl := H3.out.last HJ.out; have k0 := cell_row hl 0; have k1 := cell_row hl 1; simp only [List.getElem?_toArray, List.getElem?_cons_zero, List.getElem?_cons_succ] at k0 k1
  clear hl
  by_cases e : x = was
  · have hd : decide (x = was) = true := decide_eq_true e
    have hk : K.cas x was K = K := if_pos e
    rw [hd]
    have HK := Lib.hid hk
    clear hk hd HTN
    go_wp2_with fail
    go_ret
    exact ⟨by rw [decide_eq_true e]; rfl, X3, by rw [HK.out]; exact H3.out.dropB HJ.out⟩
  · have hd : decide (x = was) = false := decide_eq_false e
    have hk : K.cas x was K = K.turn x := if_neg e
    rw [hd]
    have HK := Lib.hid hk
    clear hk hd
    go_wp2_with (go_at_call 265; refine HTN.out.mono ?_; rintro e w4 ⟨rfl, h4⟩; (have H4 := Lib.hid h4; clear h4))
    go_ret
    exact ⟨by rw [decide_eq_false e]; rfl, X3, by rw [HK.out]; exact H4.out.dropB HJ.out⟩
theorem Wl.next (h : Wl w0 w base WB M r j B K X) (h6 : K.ln ≠ 6) (ln : Nat) (hl : ln ≠ 6) (V : Value) (hV : nxV K.t K.a ln = V) : Wl w0 (w.setCell ⟨B, 0, none⟩ V) base WB M r j B { K with ln := ln } X :=
  h.put { K with ln := ln } (set_blk h.blk 0 V _ (by simp [Lk.cs, hV, hl, h6])) ((Turns.refl (fun k => k = B) _).setCell ⟨B, 0, none⟩ _ rfl)
end
def hdO (u : Nat) : Option Nat := if 1 ≤ u / 4 ∧ u / 4 ≤ 64 then some (u / 4 - 1) else none
def stepM (M : Sd) (K : Lk) : Sd :=
  match K.ln with
  | 1 => M.acc 3 K.a (S2.casV (S2.look M.L K.a) 0 1)
  | 2 => M.acc 3 K.a (S2.casV (S2.look M.L K.a) K.st (S1.putU true (S1.bitB K.st 1) (S1.headN K.st)))
  | 3 => M.acc 1 K.a (S2.look M.L K.a)
  | 4 => (M.prep (2 * K.t + 1)).link (S5.pushS M.lk (some K.t) (hdO K.st))
  | 5 => M.acc 3 K.a (S2.casV (S2.look M.L K.a) K.st (S1.putU (S1.bitB K.st 0) (S1.bitB K.st 1) K.t))
  | 6 => M.park (2 * K.t + 1)
  | _ => M
def stepK (M : Sd) (K : Lk) : Lk :=
  match K.ln with
  | 1 => ({ K with sp := M.sp } : Lk).cas (S2.look M.L K.a) 0 { K with sp := M.sp, ln := 0 }
  | 2 => K.cas (S2.look M.L K.a) K.st { K with ln := 0 }
  | 3 => K.turn (S2.look M.L K.a)
  | 4 => { K with ln := 5 }
  | 5 => K.cas (S2.look M.L K.a) K.st { K with ln := 6 }
  | 6 => if (M.pf (2 * K.t + 1)).p then { K with ln := 3, sp := M.sp } else K
  | _ => K
def Stepped (w0 w' : World) (base WB : Nat) (M : Sd) (r : List Part) (j B : Nat) (K : Lk) : Prop := ∃ X', Wl w0 w' base WB (stepM M K) r j B (stepK M K) X'
structure LkOk (M : Sd) (K : Lk) : Prop where
  t : K.t < 64
  a : K.a < 4294967296
  st : K.st < 18446744073709551616
  sp : 0 ≤ K.sp ∧ K.sp ≤ 16
  ms : 0 ≤ M.sp ∧ M.sp ≤ 16
  n : M.n ≤ 1000000000
  pn : M.pn ≤ 1000000000
section
variable {w0 w w' : World} {base WB : Nat} {M : Sd} {r : List Part} {j B : Nat} {K : Lk} {X : Wm}
theorem first_l (h : Wl w0 w base WB M r j B K X) (ok : LkOk M K) (hl : K.ln = 1) : Calls Tryz.prog 260 #[askV K.t K.a, Pw B, Pw WB] w fun e w' => e = .returned (.tuple #[]) ∧ Stepped w0 w' base WB M r j B K := by
  have hM : stepM M K = M.acc 3 K.a (S2.casV (S2.look M.L K.a) 0 1) := by simp only [stepM, hl]
  have hK : stepK M K = ({ K with sp := M.sp } : Lk).cas (S2.look M.L K.a) 0 { K with sp := M.sp, ln := 0 } := by simp only [stepK, hl]
  unfold Stepped
  rw [hM, hK]
  have HPT : Hid (∀ W, Calls Tryz.prog 263 #[.agg #[.bool true, .bool false, .int .i64 (-1)]] W fun e w' => e = .returned (.int .u64 1) ∧ Below W.heap.size W w') := Lib.hid (fun W => by
    have := S1.putU_any true false (-1) (by unfold S1.isHead; omega) W
    rwa [S1.putU_one] at this)
  have hj := h.hj
  have hA := h.pushB (.cells #[.int .i64 (K.t : Int), .int .u32 (K.a : Int)] 403)
  have k0 := cell_row (heap_alloc_new w (.cells #[.int .i64 (K.t : Int), .int .u32 (K.a : Int)] 403)) 0; have k1 := cell_row (heap_alloc_new w (.cells #[.int .i64 (K.t : Int), .int .u32 (K.a : Int)] 403)) 1
  simp only [List.getElem?_toArray, List.getElem?_cons_zero, List.getElem?_cons_succ] at k0 k1
  obtain ⟨Q, hQ⟩ : ∃ Q, Q = w.heap.size := ⟨_, rfl⟩
  rw [← hQ] at hA k0 k1
  have HA := Lib.hid hA; have HJ := Lib.hid hj; have HQ := Lib.hid hQ
  have HBG := Lib.hid (begin_l hA)
  obtain ⟨x, hx⟩ : ∃ x, x = S2.look M.L K.a := ⟨_, rfl⟩
  have hsw : ∀ W, Wl w0 W base WB M (r ++ [blockP Q (.cells #[.int .i64 (K.t : Int), .int .u32 (K.a : Int)] 403)]) j B { K with sp := M.sp } X → Calls Tryz.prog 262 #[askV K.t K.a, Pw B, Pw WB, .int .u64 0, .int .u64 1] W fun e w' => e = .returned (.bool (decide (x = 0))) ∧ ∃ X', Wl w0 w' base WB (M.acc 3 K.a (S2.casV x 0 1)) (r ++ [blockP Q (.cells #[.int .i64 (K.t : Int), .int .u32 (K.a : Int)] 403)]) j B (({ K with sp := M.sp } : Lk).cas x 0 { K with sp := M.sp }) X' := fun W hW => by
    rw [hx]
    exact swap_l hW (by show K.ln ≠ 6; omega) (by show M.sp ≤ _; have := ok.ms; omega) ok.a ok.n (was := 0) (is := 1) (by omega)
  rw [← hx]
  have HSWW := Lib.hid hsw
  have H6 : Hid (K.ln ≠ 6) := Lib.hid (by omega)
  clear hsw hx ok hl hM hK
  clear h hj hQ
  go_enter Tryz.func260, Tryz.ntmps260
  go_upto_region 1 with (fail)
  rw [← HQ.out]
  generalize w.alloc (.cells #[.int .i64 (K.t : Int), .int .u32 (K.a : Int)] 403) = w1 at *
  go_upto_region 2 with (go_at_call 261; refine HBG.out.mono ?_; rintro e w3 ⟨rfl, h3⟩)
  have hl := h3.last HJ.out; have k0 := cell_row hl 0; have k1 := cell_row hl 1; simp only [List.getElem?_toArray, List.getElem?_cons_zero, List.getElem?_cons_succ] at k0 k1
  have H3 := Lib.hid h3
  clear hl h3 HBG hA
  refine wp_region_held_drew (S := fun w' => w'.cell? ⟨Q, 0, none⟩ = some (.int .i64 (K.t : Int)) ∧ w'.cell? ⟨Q, 1, none⟩ = some (.int .u32 (K.a : Int))) (by kernel_rfl) ?_ (fun hHeld => ?_)
  · exact ⟨k0, k1⟩
  refine tA 0 ⟨some 11, .load 403 (.tmp 3), 403, "wordlocks.go:62", #[], none⟩ ?vfm1 ?rfm1
  (try simp only [Act.put, tC, tD, tE])
  refine tA 1 ⟨some 12, .move (.tmp 1), 394, "wordlocks.go:62", #[], none⟩ ?vfm2 ?rfm2
  (try simp only [Act.put, tC, tD, tE])
  refine tA 2 ⟨some 13, .move (.tmp 2), 24, "wordlocks.go:62", #[], none⟩ ?vfm3 ?rfm3
  (try simp only [Act.put, tC, tD, tE])
  refine tA 3 ⟨some 14, .build 330 #[(0, .const (.bool true)), (2, .const (.int .i64 (-1)))], 330, "wordlocks.go:62", #[], none⟩ ?vfm4 ?rfm4
  (try simp only [Act.put, tC, tD, tE])
  refine wpAnyH_ready (rs := [4]) (by kernel_rfl) (by simp) ?_
  refine AllReadyH.cons (o := ⟨some 15, .call ⟨.value (.func 263), #[.tmp 14], #[330]⟩, 29, "wordlocks.go:62", #[⟨3, .data⟩], none⟩) rfl (fun Kq hKq => ?_) AllReadyH.nil
  go_simp
  (refine (HPT.out _).mono ?_; rintro e w4 ⟨rfl, hb4⟩; (have HSW := Lib.hid (HSWW.out w4 ((H3.out.new (Below.refl _ _).drew).new hb4))))
  refine hKq.out _ _ ?_ (fun hHeld => ?_)
  · exact ⟨bcell hb4 hHeld.1, bcell hb4 hHeld.2⟩
  clear hKq Kq
  (try simp only [Act.put, tC, tD, tE])
  refine wpAnyH_ready (rs := [5]) (by kernel_rfl) (by simp) ?_
  refine AllReadyH.cons (o := ⟨some 16, .call ⟨.value (.func 262), #[.tmp 11, .tmp 12, .tmp 13, .const (.int .u64 0), .tmp 15], #[403, 394, 24, 29, 29]⟩, 4, "wordlocks.go:62", #[⟨0, .data⟩, ⟨1, .data⟩, ⟨2, .data⟩, ⟨4, .data⟩, ⟨4, .chain⟩], none⟩) rfl (fun Kq hKq => ?_) AllReadyH.nil
  go_simp
  (refine HSW.out.mono ?_; rintro e w5 ⟨rfl, X5, h5⟩)
  refine hKq.out _ _ ?_ (fun hHeld => ?_)
  · (have hl := h5.last HJ.out; exact ⟨cell_row hl 0, cell_row hl 1⟩)
  clear hKq Kq
  (try simp only [Act.put, tC, tD, tE])
  refine wpAnyH_done (by kernel_rfl) ?_ _
  clear hHeld k0 k1
  go_upto_if 16 with fail
  by_cases e : x = 0
  · rw [decide_eq_true e]
    have hk : ({ K with sp := M.sp } : Lk).cas x 0 { K with sp := M.sp, ln := 0 } = { K with sp := M.sp, ln := 0 } := if_pos e
    have hk2 : ({ K with sp := M.sp } : Lk).cas x 0 { K with sp := M.sp } = { K with sp := M.sp } := if_pos e
    rw [hk2] at h5
    have c0 := h5.b0; have z0 := h5.fz 0
    have HK := Lib.hid hk; have H5 := Lib.hid h5
    clear hk hk2 e h5 HSW HSWW
    go_wp2_with fail
    go_end0
    exact ⟨rfl, X5, by rw [HK.out]; exact (H5.out.next H6.out 0 (by decide) .nilFunc rfl).dropB HJ.out⟩
  · rw [decide_eq_false e]
    have hk : ({ K with sp := M.sp } : Lk).cas x 0 { K with sp := M.sp, ln := 0 } = ({ K with sp := M.sp } : Lk).cas x 0 { K with sp := M.sp } := (if_neg e).trans (if_neg e).symm
    have HK := Lib.hid hk; have H5 := Lib.hid h5
    clear hk e h5 HSW HSWW
    go_wp2_with fail
    go_end0
    exact ⟨rfl, X5, by rw [HK.out]; exact H5.out.dropB HJ.out⟩
end
end Go.Proofs.YtpmafdggbeppcaaGreatDoor.S13
namespace Go.Proofs.YtpmafdggbeppcaaGreatDoor.S13
open Go.Proofs.YtpmafdggbeppcaaGreatDoor Go.Proofs.YtpmafdggbeppcaaGreatDoor.S11 Go.Proofs.YtpmafdggbeppcaaGreatDoor.S12
open Go.RowKit
section
variable {w0 w w' : World} {base WB : Nat} {M : Sd} {r : List Part} {j B : Nat} {K : Lk} {X : Wm}
end
end Go.Proofs.YtpmafdggbeppcaaGreatDoor.S13
namespace Go.Proofs.YtpmafdggbeppcaaGreatDoor.S13
open Go.Proofs.YtpmafdggbeppcaaGreatDoor Go.Proofs.YtpmafdggbeppcaaGreatDoor.S11 Go.Proofs.YtpmafdggbeppcaaGreatDoor.S12
open Go.RowKit
section
variable {w0 w w' : World} {base WB : Nat} {M : Sd} {r : List Part} {j B : Nat} {K : Lk} {X : Wm}
end
end Go.Proofs.YtpmafdggbeppcaaGreatDoor.S13
namespace Go.Proofs.YtpmafdggbeppcaaGreatDoor.S13
set_option maxRecDepth 100000
set_option maxHeartbeats 16000000
open Go.Proofs.YtpmafdggbeppcaaGreatDoor Go.Proofs.YtpmafdggbeppcaaGreatDoor.S11 Go.Proofs.YtpmafdggbeppcaaGreatDoor.S12
open Go.RowKit
theorem eqlN (w : World) : (binOp .eql 397 .nilFunc .nilFunc).run Tryz.prog w = .ok (.bool true) w := by kernel_rfl
theorem eqlF (f : Fn) (x y : Array Value) (w : World) : (binOp .eql 397 (.func f x y) .nilFunc).run Tryz.prog w = .ok (.bool false) w := by kernel_rfl
def LkAt (w : World) (B : Nat) (K : Lk) : Prop := w.heap[B]? = some (.cells K.cs 401 (0, 0))
theorem over_any {w : World} {B : Nat} {K : Lk} (h : LkAt w B K) (h6 : K.ln ≤ 6) : Calls Tryz.prog 291 #[Pw B] w fun e w' => e = .returned (.bool (decide (K.ln = 0))) ∧ w = w' := by
  have c0 : w.cell? ⟨B, 0, none⟩ = some (nxV K.t K.a K.ln) := cell_row h 0
  obtain ⟨n, hn⟩ : ∃ n, n = K.ln := ⟨_, rfl⟩
  rw [← hn] at c0 h6 ⊢
  clear h hn
  match n, h6 with
  | 0, _ =>
    simp only [nxV] at c0
    have he1 := eqlN
    have he2 := eqlF
    go_enter Tryz.func291, Tryz.ntmps291
    go_wp2_with fail
    go_ret
    exact ⟨rfl, rfl⟩
  | 1, _ =>
    simp only [nxV] at c0
    have he1 := eqlN
    have he2 := eqlF
    go_enter Tryz.func291, Tryz.ntmps291
    go_wp2_with fail
    go_ret
    exact ⟨rfl, rfl⟩
  | 2, _ =>
    simp only [nxV] at c0
    have he1 := eqlN
    have he2 := eqlF
    go_enter Tryz.func291, Tryz.ntmps291
    go_wp2_with fail
    go_ret
    exact ⟨rfl, rfl⟩
  | 3, _ =>
    simp only [nxV] at c0
    have he1 := eqlN
    have he2 := eqlF
    go_enter Tryz.func291, Tryz.ntmps291
    go_wp2_with fail
    go_ret
    exact ⟨rfl, rfl⟩
  | 4, _ =>
    simp only [nxV] at c0
    have he1 := eqlN
    have he2 := eqlF
    go_enter Tryz.func291, Tryz.ntmps291
    go_wp2_with fail
    go_ret
    exact ⟨rfl, rfl⟩
  | 5, _ =>
    simp only [nxV] at c0
    have he1 := eqlN
    have he2 := eqlF
    go_enter Tryz.func291, Tryz.ntmps291
    go_wp2_with fail
    go_ret
    exact ⟨rfl, rfl⟩
  | 6, _ =>
    simp only [nxV] at c0
    have he1 := eqlN
    have he2 := eqlF
    go_enter Tryz.func291, Tryz.ntmps291
    go_wp2_with fail
    go_ret
    exact ⟨rfl, rfl⟩
section
variable {w0 w w' : World} {base WB : Nat} {M : Sd} {r : List Part} {j B : Nat} {K : Lk} {X : Wm}
theorem Wl.at (h : Wl w0 w base WB M r j B K X) : LkAt w B K := h.blk
theorem cas_le {x was : Nat} {K' : Lk} (h : K'.ln ≤ 6) : (K.cas x was K').ln ≤ 6 := by
  unfold Lk.cas
  split
  · exact h
  · unfold Lk.turn; split
    · show 2 ≤ 6; omega
    · split
      · split
        · show 3 ≤ 6; omega
        · show 4 ≤ 6; omega
      · show 4 ≤ 6; omega
theorem turn_le {x : Nat} : (K.turn x).ln ≤ 6 := by
  unfold Lk.turn; split
  · show 2 ≤ 6; omega
  · split
    · split
      · show 3 ≤ 6; omega
      · show 4 ≤ 6; omega
    · show 4 ≤ 6; omega
theorem step_le (h : K.ln ≤ 6) : (stepK M K).ln ≤ 6 := by
  unfold stepK
  split
  · exact cas_le (Nat.zero_le _)
  · exact cas_le (Nat.zero_le _)
  · exact turn_le
  · show 5 ≤ 6; omega
  · exact cas_le (Nat.le_refl _)
  · split
    · show 3 ≤ 6; omega
    · exact h
  · exact h
end
def newK (t : Int) (a : Nat) : Lk := if 0 ≤ t ∧ t < 64 then lk1 t.toNat a else lk0
theorem new_lock (t : Int) (a : Nat) (w : World) : Calls Tryz.prog 259 #[.int .i64 t, .int .u32 (a : Int)] w fun e w' => e = .returned (Pw w.heap.size) ∧ w' = w.alloc (.cells (newK t a).cs 401) := by
  by_cases h0 : 0 ≤ t
  · by_cases h1 : t < 64
    · have hk : (newK t a).cs = #[.func (.func 260) #[.agg #[.int .i64 t, .int .u32 (a : Int)]] #[], .int .u64 0, .int .i64 0, .bool false] := by
        unfold newK; rw [if_pos ⟨h0, h1⟩]
        have e : askV t.toNat a = .agg #[.int .i64 t, .int .u32 (a : Int)] := by unfold askV; rw [Int.toNat_of_nonneg h0]
        rw [← e]; rfl
      have d0 : decide (t < 0) = false := by rw [decide_eq_false_iff_not]; omega
      have d1 : decide ((64 : Int) ≤ t) = false := by rw [decide_eq_false_iff_not]; omega
      rw [hk]
      clear hk h0 h1
      go_enter Tryz.func259, Tryz.ntmps259
      go_wp2_with fail
      go_ret
      exact ⟨rfl, rfl⟩
    · have hk : (newK t a).cs = #[.nilFunc, .int .u64 0, .int .i64 0, .bool false] := by
        unfold newK; rw [if_neg (by omega)]; rfl
      have d0 : decide (t < 0) = false := by rw [decide_eq_false_iff_not]; omega
      have d1 : decide ((64 : Int) ≤ t) = true := by rw [decide_eq_true_iff]; omega
      rw [hk]
      clear hk h0 h1
      go_enter Tryz.func259, Tryz.ntmps259
      go_wp2_with fail
      go_ret
      exact ⟨rfl, rfl⟩
  · have hk : (newK t a).cs = #[.nilFunc, .int .u64 0, .int .i64 0, .bool false] := by
      unfold newK; rw [if_neg (by omega)]; rfl
    have d0 : decide (t < 0) = true := by rw [decide_eq_true_iff]; omega
    rw [hk]
    clear hk h0
    go_enter Tryz.func259, Tryz.ntmps259
    go_wp2_with fail
    go_ret
    exact ⟨rfl, rfl⟩
end Go.Proofs.YtpmafdggbeppcaaGreatDoor.S13
namespace Go.Proofs.YtpmafdggbeppcaaGreatDoor.S14
open Go.Proofs.YtpmafdggbeppcaaGreatDoor Go.Proofs.YtpmafdggbeppcaaGreatDoor.S11 Go.Proofs.YtpmafdggbeppcaaGreatDoor.S12 Go.Proofs.YtpmafdggbeppcaaGreatDoor.S13
open Go.RowKit
structure Fr where
  ln : Nat
  a : Nat
  l : Bool
  q : Bool
  h : Int
  w : Nat
  t : Int
def fr0 (a : Nat) : Fr := ⟨1, a, false, false, 0, 0, 0⟩
def idle (u : Nat) : Bool := S1.bitB u 1 || decide (S1.headN u = -1)
def wq (u : Nat) (b : Bool) : Nat := S1.putU (S1.bitB u 0) b (S1.headN u)
def Fr.says (K : Fr) (u : Nat) : Fr := { K with l := S1.bitB u 0, q := S1.bitB u 1, h := S1.headN u, w := u }
def Fr.look (K : Fr) : Fr := { K with ln := if idle K.w = true then 0 else 3 }
def seekL (S : S5.Lk) (u : Nat) : S5.Lk × Int × Nat :=
  if (S5.seekO S (hdO u)).2 = 0 then ((S5.seekO S (hdO u)).1, -1, 0)
  else if S1.bitB u 0 = true then ((S5.seekO S (hdO u)).1, ((S5.seekO S (hdO u)).2 : Int) - 1, 4)
  else if (S5.seekO S (hdO u)).1 (((S5.seekO S (hdO u)).2 - 1) * 3 + 1) = 0 then ((S5.seekO S (hdO u)).1, ((S5.seekO S (hdO u)).2 : Int) - 1, 5)
  else ((S5.cutO (S5.seekO S (hdO u)).1 (hdO u) (some ((S5.seekO S (hdO u)).2 - 1))).1, ((S5.seekO S (hdO u)).2 : Int) - 1, 6)
def Fr.seek (K : Fr) (S : S5.Lk) : Fr := { K with t := (seekL S K.w).2.1, ln := (seekL S K.w).2.2 }
def fstepM (M : Sd) (K : Fr) : Sd :=
  match K.ln with
  | 1 => M.acc 5 K.a ((S2.look M.L K.a + 18446744073709551615) % 18446744073709551616)
  | 2 => M.acc 1 K.a (S2.look M.L K.a)
  | 3 => if S2.look M.L K.a = K.w then (M.acc 3 K.a (S2.casV (S2.look M.L K.a) K.w (wq K.w true))).link (seekL M.lk (wq K.w true)).1 else M.acc 3 K.a (S2.casV (S2.look M.L K.a) K.w (wq K.w true))
  | 4 => if S2.look M.L K.a = K.w then M.acc 3 K.a (S2.casV (S2.look M.L K.a) K.w (wq K.w false)) else (M.acc 3 K.a (S2.casV (S2.look M.L K.a) K.w (wq K.w false))).link (seekL M.lk (S2.look M.L K.a)).1
  | 5 => if S2.look M.L K.a = K.w then M.acc 3 K.a (S2.casV (S2.look M.L K.a) K.w 0) else (M.acc 3 K.a (S2.casV (S2.look M.L K.a) K.w 0)).link (seekL M.lk (S2.look M.L K.a)).1
  | 6 => M.acc 6 K.a (S2.look M.L K.a &&& 18446744073709551613)
  | 7 => M.unpark (2 * K.t.toNat + 1)
  | _ => M
def fstepK (M : Sd) (K : Fr) : Fr :=
  match K.ln with
  | 1 => { K with ln := if idle (S2.look M.L K.a) = true then 0 else 2, l := S1.bitB (S2.look M.L K.a) 0, q := S1.bitB (S2.look M.L K.a) 1, h := S1.headN (S2.look M.L K.a) }
  | 2 => (K.says (S2.look M.L K.a)).look
  | 3 => if S2.look M.L K.a = K.w then ({ K with q := true, w := wq K.w true } : Fr).seek M.lk else (K.says (S2.look M.L K.a)).look
  | 4 => if S2.look M.L K.a = K.w then { K with ln := 0, q := false } else (K.says (S2.look M.L K.a)).seek M.lk
  | 5 => if S2.look M.L K.a = K.w then { K with ln := 7, l := false, q := false, h := -1 } else (K.says (S2.look M.L K.a)).seek M.lk
  | 6 => { K with ln := 7 }
  | 7 => { K with ln := 0 }
  | _ => K
structure FrOk (M : Sd) (K : Fr) : Prop where
  a : K.a < 4294967296
  w : K.w < 18446744073709551616
  con : 3 ≤ K.ln → K.ln ≤ 5 → K.l = S1.bitB K.w 0 ∧ K.q = S1.bitB K.w 1 ∧ K.h = S1.headN K.w ∧ S1.headN K.w ≠ -1
  t : 4 ≤ K.ln → 0 ≤ K.t ∧ K.t ≤ 63
  n : M.n ≤ 1000000000
  pn : M.pn ≤ 1000000000
theorem wq_says (u : Nat) (b : Bool) : S1.bitB (wq u b) 0 = S1.bitB u 0 ∧ S1.bitB (wq u b) 1 = b ∧ S1.headN (wq u b) = S1.headN u := by
  obtain ⟨n, e, _, h0, h1, h2⟩ := S1.put_nat (S1.bitB u 0) b (S1.headN u) (S1.head_is u)
  have e2 : wq u b = n := by unfold wq S1.putU; rw [e]; rfl
  rw [e2]
  exact ⟨h0, h1, h2⟩
theorem wq_lt (u : Nat) (b : Bool) : wq u b < 18446744073709551616 := S1.putU_lt _ _ _
end Go.Proofs.YtpmafdggbeppcaaGreatDoor.S14
namespace Go.Proofs.YtpmafdggbeppcaaGreatDoor.S14
open Go.Proofs.YtpmafdggbeppcaaGreatDoor Go.Proofs.YtpmafdggbeppcaaGreatDoor.S11 Go.Proofs.YtpmafdggbeppcaaGreatDoor.S12 Go.Proofs.YtpmafdggbeppcaaGreatDoor.S13
open Go.RowKit
def to2 (J0 J1 : Act → World → Prop) (Q : Exit → Act → World → Prop) : Exit → Act → World → Prop
  | .goto l, a, w => (l = 0 ∧ J0 a w) ∨ (l = 1 ∧ J1 a w)
  | e, a, w => Q e a w
theorem wp_scope_two {P : Program} {a : Act} {w : World} {Q : Exit → Act → World → Prop} {c r0 r1 : Code} (hf0 : findLabel c 0 = some r0) (hf1 : findLabel c 1 = some r1)
    (first : c.wp P (to2 (fun a w => r0.wp P (Exit.noGoto Q) a w) (fun a w => r1.wp P (Exit.noGoto Q) a w) Q) a w) : (Code.scope c).wp P Q a w := by
  intro b k cs
  have key : ∀ (rest : Code) (a : Act) (w : World) (l : Nat), gotoIn l (.inScope c :: k) = some (.code rest :: .inScope c :: k) → rest.wp P (Exit.noGoto Q) a w →
      ∃ e a' w', Q e a' w' ∧ Arrives P (lone (b.at a (.code rest :: .inScope c :: k)) cs w) b k cs e a' w' := by
    intro rest a w l hg h
    obtain ⟨e, a₁, w₁, hq, harr⟩ := h b (.inScope c :: k) cs
    cases e with
    | normal => exact ⟨.normal, a₁, w₁, hq, Steps.trans harr (.one step_inScope)⟩
    | exit id => exact ⟨.exit id, a₁, w₁, hq, fun k' hk => harr k' (by simp [exitTo, hk])⟩
    | goto l' => exact hq.elim
    | ret => exact ⟨_, a₁, w₁, hq, harr⟩
    | panic ch => exact ⟨_, a₁, w₁, hq, harr⟩
    | outgrown => exact ⟨_, a₁, w₁, hq, harr⟩
  obtain ⟨e, a₁, w₁, hq, harr⟩ := first b (.inScope c :: k) cs
  cases e with
  | normal => exact ⟨.normal, a₁, w₁, hq, .head step_scope (Steps.trans harr (.one step_inScope))⟩
  | exit id => exact ⟨.exit id, a₁, w₁, hq, fun k' hk => .head step_scope (harr k' (by simp [exitTo, hk]))⟩
  | goto l' =>
    rcases hq with ⟨rfl, h⟩ | ⟨rfl, h⟩
    · have hg : gotoIn 0 (.inScope c :: k) = some (.code r0 :: .inScope c :: k) := by simp [gotoIn, hf0]
      obtain ⟨e₂, a₂, w₂, hq₂, harr₂⟩ := key _ _ _ 0 hg h
      exact ⟨e₂, a₂, w₂, hq₂, .of_steps (.head step_scope (harr _ hg)) harr₂⟩
    · have hg : gotoIn 1 (.inScope c :: k) = some (.code r1 :: .inScope c :: k) := by simp [gotoIn, hf1]
      obtain ⟨e₂, a₂, w₂, hq₂, harr₂⟩ := key _ _ _ 1 hg h
      exact ⟨e₂, a₂, w₂, hq₂, .of_steps (.head step_scope (harr _ hg)) harr₂⟩
  | ret => exact ⟨_, a₁, w₁, hq, .of_steps (.one step_scope) harr⟩
  | panic ch => exact ⟨_, a₁, w₁, hq, .of_steps (.one step_scope) harr⟩
  | outgrown => exact ⟨_, a₁, w₁, hq, .of_steps (.one step_scope) harr⟩
section
variable {w0 w w' : World} {base WB : Nat} {M : Sd} {r : List Part} {X : Wm}
theorem pg_add (h : Pg w0 w base WB M r X) {a v : Nat} (ha : a < 4294967296) (hv : v < 18446744073709551616) (hn : M.n ≤ 1000000000) :
    Calls Tryz.prog 281 #[Pw X.cB, .int .u32 a, .int .u64 v] w fun e w' => e = .returned (.int .u64 (S2.look M.L a : Nat)) ∧ ∃ X', Pg w0 w' base WB (M.acc 5 a ((S2.look M.L a + v) % 18446744073709551616)) r X' ∧ X'.cB = X.cB := by
  have e : X.L = M.L := congrArg Sd.L h.xm
  have e2 : X.n = M.n := congrArg Sd.n h.xm
  rw [← e]
  refine (S2.add_any w X.cB X.cM X.L X.n X.k X.a X.was X.is a v h.pw.cells ha hv (by omega)).mono ?_
  rintro e w' ⟨rfl, hl⟩
  exact ⟨rfl, h.left hl⟩
theorem pg_lk (h : Pg w0 w base WB M r X) : X.lk = M.lk := congrArg Sd.lk h.xm
theorem pg_le (h : Pg w0 w base WB M r X) (i : Nat) : M.lk i ≤ 64 := by
  have e := pg_lk h
  rw [← e]
  exact h.pw.links.le i
end
def Fr.cs (K : Fr) : Array Value := #[.int .u8 (K.ln : Int), .int .u32 (K.a : Int), .bool K.l, .bool K.q, .int .i64 K.h, .int .i64 K.t]
def freeP (B : Nat) (K : Fr) : Part := blockP B (.cells K.cs 334)
structure Wf (w0 w : World) (base WB : Nat) (M : Sd) (r : List Part) (j B : Nat) (K : Fr) (X : Wm) : Prop where
  pg : Pg w0 w base WB M (r.set j (freeP B K)) X
  hj : j < r.length
section
variable {w0 w w' : World} {base WB : Nat} {M : Sd} {r : List Part} {j B : Nat} {K : Fr} {X : Wm}
theorem Wf.new (h : Wf w0 w base WB M r j B K X) (b : Below w.heap.size w w') : Wf w0 w' base WB M r j B K X := ⟨h.pg.new b, h.hj⟩
theorem Wf.part (h : Wf w0 w base WB M r j B K X) : (r.set j (freeP B K))[j]? = some (freeP B K) := List.getElem?_set_self h.hj
theorem Wf.blk (h : Wf w0 w base WB M r j B K X) : w.heap[B]? = some (.cells K.cs 334 (0, 0)) := h.pg.ps.ok _ _ (h.pg.part h.part)
theorem Wf.b0 (h : Wf w0 w base WB M r j B K X) : w.cell? ⟨B, 0, none⟩ = some (.int .u8 (K.ln : Int)) := cell_row h.blk 0
theorem Wf.b1 (h : Wf w0 w base WB M r j B K X) : w.cell? ⟨B, 1, none⟩ = some (.int .u32 (K.a : Int)) := cell_row h.blk 1
theorem Wf.b2 (h : Wf w0 w base WB M r j B K X) : w.cell? ⟨B, 2, none⟩ = some (.bool K.l) := cell_row h.blk 2
theorem Wf.b3 (h : Wf w0 w base WB M r j B K X) : w.cell? ⟨B, 3, none⟩ = some (.bool K.q) := cell_row h.blk 3
theorem Wf.b4 (h : Wf w0 w base WB M r j B K X) : w.cell? ⟨B, 4, none⟩ = some (.int .i64 K.h) := cell_row h.blk 4
theorem Wf.fz (h : Wf w0 w base WB M r j B K X) (i : Nat) : w.frozen? ⟨B, i, none⟩ = false := froz_row h.blk i
theorem Wf.look (h : Wf w0 w base WB M r j B K X) (a : Nat) : S2.look M.L a < 18446744073709551616 := by
  have := S2.look_lt h.pg.pw.cells.good a
  rwa [show X.L = M.L from congrArg Sd.L h.pg.xm] at this
theorem Wf.put (h : Wf w0 w base WB M r j B K X) (K' : Fr) (hq : w'.heap[B]? = some (.cells K'.cs 334 (0, 0))) (t : Turns (fun k => k = B) w w') : Wf w0 w' base WB M r j B K' X := by
  have := h.pg.turn h.part (freeP B K') hq t (fun k e => .inl e)
  rw [List.set_set] at this
  exact ⟨this, h.hj⟩
theorem Wf.word (h : Wf w0 w base WB M r j B K X) (l q : Bool) (hd : Int) (u : Nat) : Wf w0 (((w.setCell ⟨B, 2, none⟩ (.bool l)).setCell ⟨B, 3, none⟩ (.bool q)).setCell ⟨B, 4, none⟩ (.int .i64 hd)) base WB M r j B { K with l := l, q := q, h := hd, w := u } X :=
  h.put _ (set_blk (set_blk (set_blk h.blk 2 (.bool l) _ rfl) 3 (.bool q) _ rfl) 4 (.int .i64 hd) _ (by simp [Fr.cs]))
    ((((Turns.refl (fun k => k = B) w).setCell ⟨B, 2, none⟩ _ rfl).setCell ⟨B, 3, none⟩ _ rfl).setCell ⟨B, 4, none⟩ _ rfl)
theorem Wf.line (h : Wf w0 w base WB M r j B K X) (n : Nat) : Wf w0 (w.setCell ⟨B, 0, none⟩ (.int .u8 (n : Int))) base WB M r j B { K with ln := n } X :=
  h.put _ (set_blk h.blk 0 (.int .u8 (n : Int)) _ (by simp [Fr.cs])) ((Turns.refl (fun k => k = B) w).setCell ⟨B, 0, none⟩ _ rfl)
theorem Wf.pushB (h : Wf w0 w base WB M r j B K X) (ob : Obj) : Wf w0 (w.alloc ob) base WB M (r ++ [blockP w.heap.size ob]) j B K X := by
  have hp := h.pg.ps.push (blockP w.heap.size ob) (below1 w ob) (heap_alloc_new w ob) (fun k e => Nat.le_of_eq (show k = w.heap.size from e).symm)
  rw [List.append_assoc] at hp
  refine ⟨⟨?_, h.pg.wB, h.pg.xm, h.pg.bl.alloc h.pg.size _⟩, by rw [List.length_append]; have := h.hj; simp; omega⟩
  rw [List.set_append_left _ _ h.hj]
  exact hp
theorem Wf.dropB {q : Part} (h : Wf w0 w base WB M (r ++ [q]) j B K X) (hj : j < r.length) : Wf w0 w base WB M r j B K X := by
  have hp := h.pg.ps
  rw [List.set_append_left _ _ hj, ← List.append_assoc] at hp
  exact ⟨⟨Parts.left hp, h.pg.wB, h.pg.xm, h.pg.bl⟩, hj⟩
theorem done_f (q : Bool) (hd : Int) (c3 : w.cell? ⟨B, 3, none⟩ = some (.bool q)) (c4 : w.cell? ⟨B, 4, none⟩ = some (.int .i64 hd)) : Calls Tryz.prog 282 #[.pointer (some ⟨B, 2, none⟩)] w fun e w' => e = .returned (.bool (q || decide (hd = -1))) ∧ w = w' := by
  cases q with
  | true =>
    go_enter Tryz.func282, Tryz.ntmps282
    go_wp2_with fail
    go_ret
    exact ⟨rfl, rfl⟩
  | false =>
    by_cases e : hd = -1
    · subst e
      go_enter Tryz.func282, Tryz.ntmps282
      go_wp2_with fail
      go_ret
      exact ⟨rfl, rfl⟩
    · have h1 : (hd == -1) = false := by rw [beq_eq_false_iff_ne]; exact e
      rw [decide_eq_false e]
      clear e
      go_enter Tryz.func282, Tryz.ntmps282
      go_wp2_with fail
      go_ret
      exact ⟨rfl, rfl⟩
theorem new_free (a : Nat) (w : World) : Calls Tryz.prog 160 #[.int .u32 (a : Int)] w fun e w' => e = .returned (Pw w.heap.size) ∧ w' = w.alloc (.cells (fr0 a).cs 334) := by
  go_enter Tryz.func160, Tryz.ntmps160
  go_wp2_with fail
  go_ret
  exact ⟨rfl, rfl⟩
theorem over_f {n : Nat} (c0 : w.cell? ⟨B, 0, none⟩ = some (.int .u8 (n : Int))) : Calls Tryz.prog 278 #[Pw B] w fun e w' => e = .returned (.bool (decide (n = 0))) ∧ w = w' := by
  by_cases e : n = 0
  · subst e
    go_enter Tryz.func278, Tryz.ntmps278
    go_wp2_with fail
    go_ret
    exact ⟨rfl, rfl⟩
  · have h1 : ((n : Int) == 0) = false := by rw [beq_eq_false_iff_ne]; omega
    rw [decide_eq_false e]
    clear e
    go_enter Tryz.func278, Tryz.ntmps278
    go_wp2_with fail
    go_ret
    exact ⟨rfl, rfl⟩
end
end Go.Proofs.YtpmafdggbeppcaaGreatDoor.S14
namespace Go.Proofs.YtpmafdggbeppcaaGreatDoor.S14
open Go.Proofs.YtpmafdggbeppcaaGreatDoor Go.Proofs.YtpmafdggbeppcaaGreatDoor.S11 Go.Proofs.YtpmafdggbeppcaaGreatDoor.S12 Go.Proofs.YtpmafdggbeppcaaGreatDoor.S13
open Go.RowKit
section
variable {w0 w w' : World} {base WB : Nat} {M : Sd} {r : List Part} {j B : Nat} {K : Fr} {X : Wm}
end
end Go.Proofs.YtpmafdggbeppcaaGreatDoor.S14
