/- Texts of this seat, one behind the other. -/
import Derived.Test.YtieiiabbeglmfaaGreatDoorMLawOldest201
import Derived.Test.YtieiiabbeglmfaaGreatDoorMLawOldest2018
set_option linter.unusedVariables false
set_option linter.unusedSimpArgs false
set_option linter.unusedVariables false
set_option linter.unusedSimpArgs false
namespace Go.Proofs.YtieiiabbeglmfaaGreatDoor.S13
set_option maxRecDepth 100000
set_option maxHeartbeats 16000000
open Go.Proofs.YtieiiabbeglmfaaGreatDoor Go.Proofs.YtieiiabbeglmfaaGreatDoor.S11 Go.Proofs.YtieiiabbeglmfaaGreatDoor.S12
open Go.RowKit
section
variable {w0 w w' : World} {base WB : Nat} {M : Sd} {r : List Part} {j B : Nat} {K : Lk} {X : Wm}
theorem Wl.turnLast {Q : Nat} {ob : Obj} (h : Wl w0 w base WB M (r ++ [blockP Q ob]) j B K X) (hj : j < r.length) (ob' : Obj) (hq : w'.heap[Q]? = some ob') (t : Turns (fun k => k = Q) w w') : Wl w0 w' base WB M (r ++ [blockP Q ob']) j B K X := by
  have e : ∀ q : Part, (r ++ [q]).set j (lockP B K) = r.set j (lockP B K) ++ [q] := fun q => List.set_append_left _ _ hj
  have hi : ((r ++ [blockP Q ob]).set j (lockP B K))[r.length]? = some (blockP Q ob) := by
    rw [e, List.getElem?_append_right (by rw [List.length_set]; exact Nat.le_refl _), List.length_set, Nat.sub_self]; rfl
  have := h.pg.turn hi (blockP Q ob') hq t (fun k e => .inl e)
  rw [e, List.set_append_right _ _ (by rw [List.length_set]; exact Nat.le_refl _), List.length_set, Nat.sub_self] at this
  refine ⟨?_, by rw [List.length_append]; simp; omega⟩
  rw [e]
  exact this
theorem take_l (h : Wl w0 w base WB M r j B K X) (ok : LkOk M K) (hl : K.ln = 2) : Calls Tryz.prog 323 #[askV K.t K.a, Pw B, Pw WB] w fun e w' => e = .returned (.tuple #[]) ∧ Stepped w0 w' base WB M r j B K := by
  unfold Stepped
  rw [show stepM M K = _ from by simp only [stepM, hl]; rfl, show stepK M K = _ from by simp only [stepK, hl]; rfl]
  have hj := h.hj
  have hA := h.pushB (.cells #[.int .i64 (K.t : Int), .int .u32 (K.a : Int)] 453)
  have k0 := cell_row (heap_alloc_new w (.cells #[.int .i64 (K.t : Int), .int .u32 (K.a : Int)] 453)) 0; have k1 := cell_row (heap_alloc_new w (.cells #[.int .i64 (K.t : Int), .int .u32 (K.a : Int)] 453)) 1
  simp only [List.getElem?_toArray, List.getElem?_cons_zero, List.getElem?_cons_succ] at k0 k1
  obtain ⟨Q, hQ⟩ : ∃ Q, Q = w.heap.size := ⟨_, rfl⟩
  rw [← hQ] at hA k0 k1
  have HA := Lib.hid hA; have HJ := Lib.hid hj; have HQ := Lib.hid hQ
  obtain ⟨b0, hb0⟩ : ∃ x, x = S1.bitB K.st 0 := ⟨_, rfl⟩
  obtain ⟨b1, hb1⟩ : ∃ x, x = S1.bitB K.st 1 := ⟨_, rfl⟩
  obtain ⟨hd, hhd⟩ : ∃ x, x = S1.headN K.st := ⟨_, rfl⟩
  have HAS : Hid (∀ W, Calls Tryz.prog 204 #[.int .u64 (K.st : Int)] W fun e w' => e = .returned (.agg #[.bool b0, .bool b1, .int .i64 hd]) ∧ Below W.heap.size W w') := Lib.hid (fun W => by
    have := S1.as_any K.st ok.st W
    unfold S1.asV at this
    rw [← hb0, ← hb1, ← hhd] at this
    exact this)
  obtain ⟨x, hx⟩ : ∃ x, x = S2.look M.L K.a := ⟨_, rfl⟩
  obtain ⟨v, hv⟩ : ∃ x, x = S1.putU true (S1.bitB K.st 1) (S1.headN K.st) := ⟨_, rfl⟩
  have hvl : v < 18446744073709551616 := by rw [hv]; exact S1.putU_lt _ _ _
  have hsw : ∀ W r', Wl w0 W base WB M r' j B K X → Calls Tryz.prog 321 #[askV K.t K.a, Pw B, Pw WB, .int .u64 (K.st : Int), .int .u64 (v : Int)] W fun e w' => e = .returned (.bool (decide (x = K.st))) ∧ ∃ X', Wl w0 w' base WB (M.acc 3 K.a (S2.casV x K.st v)) r' j B (K.cas x K.st K) X' := fun W r' hW => by
    rw [hx]
    exact swap_l hW (by omega) (by have := ok.sp; omega) ok.a ok.n hvl
  have HPT : Hid (∀ W, Calls Tryz.prog 210 #[.agg #[Value.bool true, Value.bool b1, Value.int .i64 hd]] W fun e w' => e = .returned (.int .u64 (v : Int)) ∧ Below W.heap.size W w') := Lib.hid (fun W => by
    have := S1.putU_any true b1 hd (by rw [hhd]; exact S1.head_is _) W
    rw [hb1, hhd, ← hv] at this
    rw [hb1, hhd]
    exact this)
  rw [← hv, ← hx]
  have HSWW := Lib.hid hsw
  have H6 : Hid (K.ln ≠ 6) := Lib.hid (by omega)
  clear hsw hx hv hvl ok hl hb0 hb1 hhd
  clear h hj hQ
  go_enter Tryz.func323, Tryz.ntmps323
  go_upto_region 1 with (fail)
  rw [← HQ.out]
  generalize w.alloc (.cells #[.int .i64 (K.t : Int), .int .u32 (K.a : Int)] 453) = w1 at *
  have c1 := HA.out.b1
  clear hA
  go_upto_region 2 with (go_at_call 204; refine (HAS.out _).mono ?_; rintro e w2 ⟨rfl, hb2⟩)
  have h3a := (HA.out.new hb2).pushB (.cells #[Value.bool b0, Value.bool b1, Value.int .i64 hd] 339)
  have HJ2 : Hid (j < (r ++ [blockP Q (.cells #[.int .i64 (K.t : Int), .int .u32 (K.a : Int)] 453)]).length) := Lib.hid (by rw [List.length_append]; have := HJ.out; omega)
  have hn := heap_alloc_new w2 (.cells #[Value.bool b0, Value.bool b1, Value.int .i64 hd] 339)
  have s0 := cell_row hn 0; have s1 := cell_row hn 1; have s2 := cell_row hn 2
  have f0 := froz_row hn 0
  have k0 := bcell (hb2.trans ((below1 w2 (.cells #[Value.bool b0, Value.bool b1, Value.int .i64 hd] 339)).mono hb2.size)) k0; have k1 := bcell (hb2.trans ((below1 w2 (.cells #[Value.bool b0, Value.bool b1, Value.int .i64 hd] 339)).mono hb2.size)) k1
  simp only [List.getElem?_toArray, List.getElem?_cons_zero, List.getElem?_cons_succ] at s0 s1 s2
  obtain ⟨Qs, hQs⟩ : ∃ x, x = w2.heap.size := ⟨_, rfl⟩
  rw [← hQs] at h3a hn s0 s1 s2 f0 ⊢
  have h3 := h3a.turnLast HJ2.out (.cells #[Value.bool true, Value.bool b1, Value.int .i64 hd] 339) (set_blk hn 0 (.bool true) _ (by simp)) ((Turns.refl (fun k => k = Qs) _).setCell ⟨Qs, 0, none⟩ _ rfl)
  have H3 := Lib.hid h3
  clear h3 h3a hQs hn c1
  generalize w2.alloc (.cells #[Value.bool b0, Value.bool b1, Value.int .i64 hd] 339) = w2' at *
  go_upto_region 3 with (fail)
  generalize w2'.setCell ⟨Qs, 0, none⟩ (.bool true) = w3 at *
  have hl2 := H3.out.last HJ2.out
  have hlb := (H3.out.dropB HJ2.out).last HJ.out
  have c1 : w3.drew.cell? ⟨B, 1, none⟩ = some (.int .u64 (K.st : Int)) := H3.out.b1
  have HF : Hid ((fun w' => w'.cell? ⟨Q, 0, none⟩ = some (.int .i64 (K.t : Int)) ∧ w'.cell? ⟨Q, 1, none⟩ = some (.int .u32 (K.a : Int)) ∧ w'.cell? ⟨Qs, 0, none⟩ = some (Value.bool true) ∧ w'.cell? ⟨Qs, 1, none⟩ = some (Value.bool b1) ∧ w'.cell? ⟨Qs, 2, none⟩ = some (Value.int .i64 hd)) w3.drew) := Lib.hid ⟨cell_row hlb 0, cell_row hlb 1, cell_row hl2 0, cell_row hl2 1, cell_row hl2 2⟩
  clear hl2 hlb k0 k1 s0 s1 s2 f0 HAS hb2
  refine wp_region_held_drew (S := fun w' => w'.cell? ⟨Q, 0, none⟩ = some (.int .i64 (K.t : Int)) ∧ w'.cell? ⟨Q, 1, none⟩ = some (.int .u32 (K.a : Int)) ∧ w'.cell? ⟨Qs, 0, none⟩ = some (Value.bool true) ∧ w'.cell? ⟨Qs, 1, none⟩ = some (Value.bool b1) ∧ w'.cell? ⟨Qs, 2, none⟩ = some (Value.int .i64 hd)) (by kernel_rfl) ?_ (fun hHeld => ?_)
  · exact HF.out
  refine tA 0 ⟨some 13, .load 453 (.tmp 3), 453, "wordlocks.go:71", #[], none⟩ ?vtx1 ?rtx1
  (try simp only [Act.put, tC, tD, tE])
  refine tA 1 ⟨some 14, .move (.tmp 1), 444, "wordlocks.go:71", #[], none⟩ ?vtx2 ?rtx2
  (try simp only [Act.put, tC, tD, tE])
  refine tA 2 ⟨some 15, .move (.tmp 2), 24, "wordlocks.go:71", #[], none⟩ ?vtx3 ?rtx3
  (try simp only [Act.put, tC, tD, tE])
  refine tA 3 ⟨some 16, .move (.tmp 1), 444, "wordlocks.go:71", #[], none⟩ ?vtx4 ?rtx4
  (try simp only [Act.put, tC, tD, tE])
  refine tA 4 ⟨some 17, .nilCheck (.tmp 16), 0, "wordlocks.go:71", #[⟨3, .data⟩], none⟩ ?vtx5 ?rtx5
  (try simp only [Act.put, tC, tD, tE])
  refine tA 5 ⟨some 18, .fieldAddr 451 (.tmp 17) 1, 0, "wordlocks.go:71", #[⟨4, .data⟩], none⟩ ?vtx6 ?rtx6
  (try simp only [Act.put, tC, tD, tE])
  refine tA 7 ⟨some 20, .load 339 (.tmp 6), 339, "wordlocks.go:71", #[], none⟩ ?vtx7 ?rtx7
  (try simp only [Act.put, tC, tD, tE])
  refine wpAnyH_ready (rs := [6, 8]) (by kernel_rfl) (by simp) ?_
  refine AllReadyH.cons (o := ⟨some 19, .load 23 (.tmp 18), 23, "wordlocks.go:71", #[⟨5, .data⟩], none⟩) rfl (fun Kq hKq => ?_) ?_
  · go_simp
    refine hKq.out _ _ ?_ (fun hHeld => ?_)
    · exact hHeld
    clear hKq Kq
    (try simp only [Act.put, tC, tD, tE])
    refine wpAnyH_ready (rs := [8]) (by kernel_rfl) (by simp) ?_
    refine AllReadyH.cons (o := ⟨some 21, .call ⟨.value (.func 210), #[.tmp 20], #[339]⟩, 23, "wordlocks.go:71", #[⟨7, .data⟩], none⟩) rfl (fun Kq hKq => ?_) AllReadyH.nil
    go_simp
    (refine (HPT.out _).mono ?_; rintro e w4 ⟨rfl, hb4⟩; have c1 := bcell hb4 c1; have HSW := Lib.hid (HSWW.out w4 _ ((H3.out.new (Below.refl _ _).drew).new hb4)))
    refine hKq.out _ _ ?_ (fun hHeld => ?_)
    · exact ⟨bcell hb4 hHeld.1, bcell hb4 hHeld.2.1, bcell hb4 hHeld.2.2.1, bcell hb4 hHeld.2.2.2.1, bcell hb4 hHeld.2.2.2.2⟩
    clear hKq Kq
    (try simp only [Act.put, tC, tD, tE])
    refine wpAnyH_ready (rs := [9]) (by kernel_rfl) (by simp) ?_
    refine AllReadyH.cons (o := ⟨some 22, .call ⟨.value (.func 321), #[.tmp 13, .tmp 14, .tmp 15, .tmp 19, .tmp 21], #[453, 444, 24, 23, 23]⟩, 4, "wordlocks.go:71", #[⟨0, .data⟩, ⟨1, .data⟩, ⟨2, .data⟩, ⟨6, .data⟩, ⟨8, .data⟩, ⟨8, .chain⟩], none⟩) rfl (fun Kq hKq => ?_) AllReadyH.nil
    go_simp
    (refine HSW.out.mono ?_; rintro e w5 ⟨rfl, X5, h5⟩)
    refine hKq.out _ _ ?_ (fun hHeld => ?_)
    · (have hl := (h5.dropB HJ2.out).last HJ.out; have hl2 := h5.last HJ2.out; exact ⟨cell_row hl 0, cell_row hl 1, cell_row hl2 0, cell_row hl2 1, cell_row hl2 2⟩)
    clear hKq Kq
    (try simp only [Act.put, tC, tD, tE])
    refine wpAnyH_done (by kernel_rfl) ?_ _
    have h7 := (h5.dropB HJ2.out)
    have hl := h7.last HJ.out
    have k0 := cell_row hl 0; have k1 := cell_row hl 1
    simp only [List.getElem?_toArray, List.getElem?_cons_zero, List.getElem?_cons_succ] at k0 k1
    clear hl hHeld c1 h5
    go_upto_if 22 with fail
    by_cases e : x = K.st
    · rw [decide_eq_true e]
      have hk2 : K.cas x K.st K = K := if_pos e
      rw [hk2] at h7
      have c0 := h7.b0; have z0 := h7.fz 0; have c3 := h7.b3; have z3 := h7.fz 3
      have HK := Lib.hid (show K.cas x K.st { K with ln := 0 } = { K with ln := 0 } from if_pos e); have H5 := Lib.hid h7
      clear hk2 e h7 HSW HSWW
      go_wp2_with fail
      go_end0
      exact ⟨rfl, X5, by rw [HK.out]; exact (H5.out.next H6.out 0 (by decide) .nilFunc rfl).dropB HJ.out⟩
    · rw [decide_eq_false e]
      have HK := Lib.hid (show K.cas x K.st { K with ln := 0 } = K.cas x K.st K from (if_neg e).trans (if_neg e).symm); have H5 := Lib.hid h7
      clear e h7 HSW HSWW
      go_wp2_with fail
      go_end0
      exact ⟨rfl, X5, by rw [HK.out]; exact H5.out.dropB HJ.out⟩
  refine AllReadyH.cons (o := ⟨some 21, .call ⟨.value (.func 210), #[.tmp 20], #[339]⟩, 23, "wordlocks.go:71", #[⟨7, .data⟩], none⟩) rfl (fun Kq hKq => ?_) AllReadyH.nil
  go_simp
  (refine (HPT.out _).mono ?_; rintro e w4 ⟨rfl, hb4⟩; have c1 := bcell hb4 c1; have HSW := Lib.hid (HSWW.out w4 _ ((H3.out.new (Below.refl _ _).drew).new hb4)))
  refine hKq.out _ _ ?_ (fun hHeld => ?_)
  · exact ⟨bcell hb4 hHeld.1, bcell hb4 hHeld.2.1, bcell hb4 hHeld.2.2.1, bcell hb4 hHeld.2.2.2.1, bcell hb4 hHeld.2.2.2.2⟩
  clear hKq Kq
  (try simp only [Act.put, tC, tD, tE])
  refine wpAnyH_ready (rs := [6]) (by kernel_rfl) (by simp) ?_
  refine AllReadyH.cons (o := ⟨some 19, .load 23 (.tmp 18), 23, "wordlocks.go:71", #[⟨5, .data⟩], none⟩) rfl (fun Kq hKq => ?_) AllReadyH.nil
  go_simp
  refine hKq.out _ _ ?_ (fun hHeld => ?_)
  · exact hHeld
  clear hKq Kq
  (try simp only [Act.put, tC, tD, tE])
  refine wpAnyH_ready (rs := [9]) (by kernel_rfl) (by simp) ?_
  refine AllReadyH.cons (o := ⟨some 22, .call ⟨.value (.func 321), #[.tmp 13, .tmp 14, .tmp 15, .tmp 19, .tmp 21], #[453, 444, 24, 23, 23]⟩, 4, "wordlocks.go:71", #[⟨0, .data⟩, ⟨1, .data⟩, ⟨2, .data⟩, ⟨6, .data⟩, ⟨8, .data⟩, ⟨8, .chain⟩], none⟩) rfl (fun Kq hKq => ?_) AllReadyH.nil
  go_simp
  (refine HSW.out.mono ?_; rintro e w5 ⟨rfl, X5, h5⟩)
  refine hKq.out _ _ ?_ (fun hHeld => ?_)
  · (have hl := (h5.dropB HJ2.out).last HJ.out; have hl2 := h5.last HJ2.out; exact ⟨cell_row hl 0, cell_row hl 1, cell_row hl2 0, cell_row hl2 1, cell_row hl2 2⟩)
  clear hKq Kq
  (try simp only [Act.put, tC, tD, tE])
  refine wpAnyH_done (by kernel_rfl) ?_ _
  have h7 := (h5.dropB HJ2.out)
  have hl := h7.last HJ.out
  have k0 := cell_row hl 0; have k1 := cell_row hl 1
  simp only [List.getElem?_toArray, List.getElem?_cons_zero, List.getElem?_cons_succ] at k0 k1
  clear hl hHeld c1 h5
  go_upto_if 22 with fail
  by_cases e : x = K.st
  · rw [decide_eq_true e]
    have hk2 : K.cas x K.st K = K := if_pos e
    rw [hk2] at h7
    have c0 := h7.b0; have z0 := h7.fz 0; have c3 := h7.b3; have z3 := h7.fz 3
    have HK := Lib.hid (show K.cas x K.st { K with ln := 0 } = { K with ln := 0 } from if_pos e); have H5 := Lib.hid h7
    clear hk2 e h7 HSW HSWW
    go_wp2_with fail
    go_end0
    exact ⟨rfl, X5, by rw [HK.out]; exact (H5.out.next H6.out 0 (by decide) .nilFunc rfl).dropB HJ.out⟩
  · rw [decide_eq_false e]
    have HK := Lib.hid (show K.cas x K.st { K with ln := 0 } = K.cas x K.st K from (if_neg e).trans (if_neg e).symm); have H5 := Lib.hid h7
    clear e h7 HSW HSWW
    go_wp2_with fail
    go_end0
    exact ⟨rfl, X5, by rw [HK.out]; exact H5.out.dropB HJ.out⟩
theorem queue_l (h : Wl w0 w base WB M r j B K X) (ok : LkOk M K) (hl : K.ln = 5) : Calls Tryz.prog 327 #[askV K.t K.a, Pw B, Pw WB] w fun e w' => e = .returned (.tuple #[]) ∧ Stepped w0 w' base WB M r j B K := by
  unfold Stepped
  rw [show stepM M K = _ from by simp only [stepM, hl]; rfl, show stepK M K = _ from by simp only [stepK, hl]; rfl]
  have hj := h.hj
  have hA := h.pushB (.cells #[.int .i64 (K.t : Int), .int .u32 (K.a : Int)] 453)
  have k0 := cell_row (heap_alloc_new w (.cells #[.int .i64 (K.t : Int), .int .u32 (K.a : Int)] 453)) 0; have k1 := cell_row (heap_alloc_new w (.cells #[.int .i64 (K.t : Int), .int .u32 (K.a : Int)] 453)) 1
  simp only [List.getElem?_toArray, List.getElem?_cons_zero, List.getElem?_cons_succ] at k0 k1
  obtain ⟨Q, hQ⟩ : ∃ Q, Q = w.heap.size := ⟨_, rfl⟩
  rw [← hQ] at hA k0 k1
  have HA := Lib.hid hA; have HJ := Lib.hid hj; have HQ := Lib.hid hQ
  obtain ⟨b0, hb0⟩ : ∃ x, x = S1.bitB K.st 0 := ⟨_, rfl⟩
  obtain ⟨b1, hb1⟩ : ∃ x, x = S1.bitB K.st 1 := ⟨_, rfl⟩
  obtain ⟨hd, hhd⟩ : ∃ x, x = S1.headN K.st := ⟨_, rfl⟩
  have HAS : Hid (∀ W, Calls Tryz.prog 204 #[.int .u64 (K.st : Int)] W fun e w' => e = .returned (.agg #[.bool b0, .bool b1, .int .i64 hd]) ∧ Below W.heap.size W w') := Lib.hid (fun W => by
    have := S1.as_any K.st ok.st W
    unfold S1.asV at this
    rw [← hb0, ← hb1, ← hhd] at this
    exact this)
  obtain ⟨x, hx⟩ : ∃ x, x = S2.look M.L K.a := ⟨_, rfl⟩
  obtain ⟨v, hv⟩ : ∃ x, x = S1.putU (S1.bitB K.st 0) (S1.bitB K.st 1) K.t := ⟨_, rfl⟩
  have hvl : v < 18446744073709551616 := by rw [hv]; exact S1.putU_lt _ _ _
  have hsw : ∀ W r', Wl w0 W base WB M r' j B K X → Calls Tryz.prog 321 #[askV K.t K.a, Pw B, Pw WB, .int .u64 (K.st : Int), .int .u64 (v : Int)] W fun e w' => e = .returned (.bool (decide (x = K.st))) ∧ ∃ X', Wl w0 w' base WB (M.acc 3 K.a (S2.casV x K.st v)) r' j B (K.cas x K.st K) X' := fun W r' hW => by
    rw [hx]
    exact swap_l hW (by omega) (by have := ok.sp; omega) ok.a ok.n hvl
  have HPT : Hid (∀ W, Calls Tryz.prog 210 #[.agg #[Value.bool b0, Value.bool b1, Value.int .i64 (K.t : Int)]] W fun e w' => e = .returned (.int .u64 (v : Int)) ∧ Below W.heap.size W w') := Lib.hid (fun W => by
    have := S1.putU_any b0 b1 (K.t : Int) (by unfold S1.isHead; have := ok.t; omega) W
    rw [hb0, hb1, ← hv] at this
    rw [hb0, hb1]
    exact this)
  rw [← hv, ← hx]
  have HSWW := Lib.hid hsw
  have H6 : Hid (K.ln ≠ 6) := Lib.hid (by omega)
  clear hsw hx hv hvl ok hl hb0 hb1 hhd
  clear h hj hQ
  go_enter Tryz.func327, Tryz.ntmps327
  go_upto_region 1 with (fail)
  rw [← HQ.out]
  generalize w.alloc (.cells #[.int .i64 (K.t : Int), .int .u32 (K.a : Int)] 453) = w1 at *
  have c1 := HA.out.b1
  clear hA
  go_upto_region 2 with (go_at_call 204; refine (HAS.out _).mono ?_; rintro e w2 ⟨rfl, hb2⟩)
  have h3a := (HA.out.new hb2).pushB (.cells #[Value.bool b0, Value.bool b1, Value.int .i64 hd] 339)
  have HJ2 : Hid (j < (r ++ [blockP Q (.cells #[.int .i64 (K.t : Int), .int .u32 (K.a : Int)] 453)]).length) := Lib.hid (by rw [List.length_append]; have := HJ.out; omega)
  have hn := heap_alloc_new w2 (.cells #[Value.bool b0, Value.bool b1, Value.int .i64 hd] 339)
  have s0 := cell_row hn 0; have s1 := cell_row hn 1; have s2 := cell_row hn 2
  have f0 := froz_row hn 2
  have k0 := bcell (hb2.trans ((below1 w2 (.cells #[Value.bool b0, Value.bool b1, Value.int .i64 hd] 339)).mono hb2.size)) k0; have k1 := bcell (hb2.trans ((below1 w2 (.cells #[Value.bool b0, Value.bool b1, Value.int .i64 hd] 339)).mono hb2.size)) k1
  simp only [List.getElem?_toArray, List.getElem?_cons_zero, List.getElem?_cons_succ] at s0 s1 s2
  obtain ⟨Qs, hQs⟩ : ∃ x, x = w2.heap.size := ⟨_, rfl⟩
  rw [← hQs] at h3a hn s0 s1 s2 f0 ⊢
  have h3 := h3a.turnLast HJ2.out (.cells #[Value.bool b0, Value.bool b1, Value.int .i64 (K.t : Int)] 339) (set_blk hn 2 (.int .i64 (K.t : Int)) _ (by simp)) ((Turns.refl (fun k => k = Qs) _).setCell ⟨Qs, 2, none⟩ _ rfl)
  have H3 := Lib.hid h3
  clear h3 h3a hQs hn c1
  generalize w2.alloc (.cells #[Value.bool b0, Value.bool b1, Value.int .i64 hd] 339) = w2' at *
  go_upto_region 3 with (fail)
  generalize w2'.setCell ⟨Qs, 2, none⟩ (.int .i64 (K.t : Int)) = w3 at *
  have hl2 := H3.out.last HJ2.out
  have hlb := (H3.out.dropB HJ2.out).last HJ.out
  have c1 : w3.drew.cell? ⟨B, 1, none⟩ = some (.int .u64 (K.st : Int)) := H3.out.b1
  have HF : Hid ((fun w' => w'.cell? ⟨Q, 0, none⟩ = some (.int .i64 (K.t : Int)) ∧ w'.cell? ⟨Q, 1, none⟩ = some (.int .u32 (K.a : Int)) ∧ w'.cell? ⟨Qs, 0, none⟩ = some (Value.bool b0) ∧ w'.cell? ⟨Qs, 1, none⟩ = some (Value.bool b1) ∧ w'.cell? ⟨Qs, 2, none⟩ = some (Value.int .i64 (K.t : Int))) w3.drew) := Lib.hid ⟨cell_row hlb 0, cell_row hlb 1, cell_row hl2 0, cell_row hl2 1, cell_row hl2 2⟩
  clear hl2 hlb k0 k1 s0 s1 s2 f0 HAS hb2
  refine wp_region_held_drew (S := fun w' => w'.cell? ⟨Q, 0, none⟩ = some (.int .i64 (K.t : Int)) ∧ w'.cell? ⟨Q, 1, none⟩ = some (.int .u32 (K.a : Int)) ∧ w'.cell? ⟨Qs, 0, none⟩ = some (Value.bool b0) ∧ w'.cell? ⟨Qs, 1, none⟩ = some (Value.bool b1) ∧ w'.cell? ⟨Qs, 2, none⟩ = some (Value.int .i64 (K.t : Int))) (by kernel_rfl) ?_ (fun hHeld => ?_)
  · exact HF.out
  refine tA 0 ⟨some 15, .load 453 (.tmp 3), 453, "wordlocks.go:92", #[], none⟩ ?vqx1 ?rqx1
  (try simp only [Act.put, tC, tD, tE])
  refine tA 1 ⟨some 16, .move (.tmp 1), 444, "wordlocks.go:92", #[], none⟩ ?vqx2 ?rqx2
  (try simp only [Act.put, tC, tD, tE])
  refine tA 2 ⟨some 17, .move (.tmp 2), 24, "wordlocks.go:92", #[], none⟩ ?vqx3 ?rqx3
  (try simp only [Act.put, tC, tD, tE])
  refine tA 3 ⟨some 18, .move (.tmp 1), 444, "wordlocks.go:92", #[], none⟩ ?vqx4 ?rqx4
  (try simp only [Act.put, tC, tD, tE])
  refine tA 4 ⟨some 19, .nilCheck (.tmp 18), 0, "wordlocks.go:92", #[⟨3, .data⟩], none⟩ ?vqx5 ?rqx5
  (try simp only [Act.put, tC, tD, tE])
  refine tA 5 ⟨some 20, .fieldAddr 451 (.tmp 19) 1, 0, "wordlocks.go:92", #[⟨4, .data⟩], none⟩ ?vqx6 ?rqx6
  (try simp only [Act.put, tC, tD, tE])
  refine tA 7 ⟨some 22, .load 339 (.tmp 6), 339, "wordlocks.go:92", #[], none⟩ ?vqx7 ?rqx7
  (try simp only [Act.put, tC, tD, tE])
  refine wpAnyH_ready (rs := [6, 8]) (by kernel_rfl) (by simp) ?_
  refine AllReadyH.cons (o := ⟨some 21, .load 23 (.tmp 20), 23, "wordlocks.go:92", #[⟨5, .data⟩], none⟩) rfl (fun Kq hKq => ?_) ?_
  · go_simp
    refine hKq.out _ _ ?_ (fun hHeld => ?_)
    · exact hHeld
    clear hKq Kq
    (try simp only [Act.put, tC, tD, tE])
    refine wpAnyH_ready (rs := [8]) (by kernel_rfl) (by simp) ?_
    refine AllReadyH.cons (o := ⟨some 23, .call ⟨.value (.func 210), #[.tmp 22], #[339]⟩, 23, "wordlocks.go:92", #[⟨7, .data⟩], none⟩) rfl (fun Kq hKq => ?_) AllReadyH.nil
    go_simp
    (refine (HPT.out _).mono ?_; rintro e w4 ⟨rfl, hb4⟩; have c1 := bcell hb4 c1; have HSW := Lib.hid (HSWW.out w4 _ ((H3.out.new (Below.refl _ _).drew).new hb4)))
    refine hKq.out _ _ ?_ (fun hHeld => ?_)
    · exact ⟨bcell hb4 hHeld.1, bcell hb4 hHeld.2.1, bcell hb4 hHeld.2.2.1, bcell hb4 hHeld.2.2.2.1, bcell hb4 hHeld.2.2.2.2⟩
    clear hKq Kq
    (try simp only [Act.put, tC, tD, tE])
    refine wpAnyH_ready (rs := [9]) (by kernel_rfl) (by simp) ?_
    refine AllReadyH.cons (o := ⟨some 24, .call ⟨.value (.func 321), #[.tmp 15, .tmp 16, .tmp 17, .tmp 21, .tmp 23], #[453, 444, 24, 23, 23]⟩, 4, "wordlocks.go:92", #[⟨0, .data⟩, ⟨1, .data⟩, ⟨2, .data⟩, ⟨6, .data⟩, ⟨8, .data⟩, ⟨8, .chain⟩], none⟩) rfl (fun Kq hKq => ?_) AllReadyH.nil
    go_simp
    (refine HSW.out.mono ?_; rintro e w5 ⟨rfl, X5, h5⟩)
    refine hKq.out _ _ ?_ (fun hHeld => ?_)
    · (have hl := (h5.dropB HJ2.out).last HJ.out; have hl2 := h5.last HJ2.out; exact ⟨cell_row hl 0, cell_row hl 1, cell_row hl2 0, cell_row hl2 1, cell_row hl2 2⟩)
    clear hKq Kq
    (try simp only [Act.put, tC, tD, tE])
    refine wpAnyH_done (by kernel_rfl) ?_ _
    have h7 := (h5.dropB HJ2.out)
    have hl := h7.last HJ.out
    have k0 := cell_row hl 0; have k1 := cell_row hl 1
    simp only [List.getElem?_toArray, List.getElem?_cons_zero, List.getElem?_cons_succ] at k0 k1
    clear hl hHeld c1 h5
    go_upto_if 24 with fail
    by_cases e : x = K.st
    · rw [decide_eq_true e]
      have hk2 : K.cas x K.st K = K := if_pos e
      rw [hk2] at h7
      have c0 := h7.b0; have z0 := h7.fz 0; have c3 := h7.b3; have z3 := h7.fz 3
      have HK := Lib.hid (show K.cas x K.st { K with ln := 6 } = { K with ln := 6 } from if_pos e); have H5 := Lib.hid h7
      clear hk2 e h7 HSW HSWW
      go_wp2_with fail
      go_end0
      exact ⟨rfl, X5, by rw [HK.out]; exact (H5.out.next2 6 _ rfl true rfl).dropB HJ.out⟩
    · rw [decide_eq_false e]
      have HK := Lib.hid (show K.cas x K.st { K with ln := 6 } = K.cas x K.st K from (if_neg e).trans (if_neg e).symm); have H5 := Lib.hid h7
      clear e h7 HSW HSWW
      go_wp2_with fail
      go_end0
      exact ⟨rfl, X5, by rw [HK.out]; exact H5.out.dropB HJ.out⟩
  refine AllReadyH.cons (o := ⟨some 23, .call ⟨.value (.func 210), #[.tmp 22], #[339]⟩, 23, "wordlocks.go:92", #[⟨7, .data⟩], none⟩) rfl (fun Kq hKq => ?_) AllReadyH.nil
  go_simp
  (refine (HPT.out _).mono ?_; rintro e w4 ⟨rfl, hb4⟩; have c1 := bcell hb4 c1; have HSW := Lib.hid (HSWW.out w4 _ ((H3.out.new (Below.refl _ _).drew).new hb4)))
  refine hKq.out _ _ ?_ (fun hHeld => ?_)
  · exact ⟨bcell hb4 hHeld.1, bcell hb4 hHeld.2.1, bcell hb4 hHeld.2.2.1, bcell hb4 hHeld.2.2.2.1, bcell hb4 hHeld.2.2.2.2⟩
  clear hKq Kq
  (try simp only [Act.put, tC, tD, tE])
  refine wpAnyH_ready (rs := [6]) (by kernel_rfl) (by simp) ?_
  refine AllReadyH.cons (o := ⟨some 21, .load 23 (.tmp 20), 23, "wordlocks.go:92", #[⟨5, .data⟩], none⟩) rfl (fun Kq hKq => ?_) AllReadyH.nil
  go_simp
  refine hKq.out _ _ ?_ (fun hHeld => ?_)
  · exact hHeld
  clear hKq Kq
  (try simp only [Act.put, tC, tD, tE])
  refine wpAnyH_ready (rs := [9]) (by kernel_rfl) (by simp) ?_
  refine AllReadyH.cons (o := ⟨some 24, .call ⟨.value (.func 321), #[.tmp 15, .tmp 16, .tmp 17, .tmp 21, .tmp 23], #[453, 444, 24, 23, 23]⟩, 4, "wordlocks.go:92", #[⟨0, .data⟩, ⟨1, .data⟩, ⟨2, .data⟩, ⟨6, .data⟩, ⟨8, .data⟩, ⟨8, .chain⟩], none⟩) rfl (fun Kq hKq => ?_) AllReadyH.nil
  go_simp
  (refine HSW.out.mono ?_; rintro e w5 ⟨rfl, X5, h5⟩)
  refine hKq.out _ _ ?_ (fun hHeld => ?_)
  · (have hl := (h5.dropB HJ2.out).last HJ.out; have hl2 := h5.last HJ2.out; exact ⟨cell_row hl 0, cell_row hl 1, cell_row hl2 0, cell_row hl2 1, cell_row hl2 2⟩)
  clear hKq Kq
  (try simp only [Act.put, tC, tD, tE])
  refine wpAnyH_done (by kernel_rfl) ?_ _
  have h7 := (h5.dropB HJ2.out)
  have hl := h7.last HJ.out
  have k0 := cell_row hl 0; have k1 := cell_row hl 1
  simp only [List.getElem?_toArray, List.getElem?_cons_zero, List.getElem?_cons_succ] at k0 k1
  clear hl hHeld c1 h5
  go_upto_if 24 with fail
  by_cases e : x = K.st
  · rw [decide_eq_true e]
    have hk2 : K.cas x K.st K = K := if_pos e
    rw [hk2] at h7
    have c0 := h7.b0; have z0 := h7.fz 0; have c3 := h7.b3; have z3 := h7.fz 3
    have HK := Lib.hid (show K.cas x K.st { K with ln := 6 } = { K with ln := 6 } from if_pos e); have H5 := Lib.hid h7
    clear hk2 e h7 HSW HSWW
    go_wp2_with fail
    go_end0
    exact ⟨rfl, X5, by rw [HK.out]; exact (H5.out.next2 6 _ rfl true rfl).dropB HJ.out⟩
  · rw [decide_eq_false e]
    have HK := Lib.hid (show K.cas x K.st { K with ln := 6 } = K.cas x K.st K from (if_neg e).trans (if_neg e).symm); have H5 := Lib.hid h7
    clear e h7 HSW HSWW
    go_wp2_with fail
    go_end0
    exact ⟨rfl, X5, by rw [HK.out]; exact H5.out.dropB HJ.out⟩
end
end Go.Proofs.YtieiiabbeglmfaaGreatDoor.S13
