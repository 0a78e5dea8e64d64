/- Texts of this seat, one behind the other. -/
import Derived.Test.YtieiiabbeglmfaaGreatDoorMLawOldest201
import Derived.Test.YtieiiabbeglmfaaGreatDoorMLawOldest2019
set_option linter.unusedVariables false
set_option linter.unusedSimpArgs false
set_option linter.unusedVariables false
set_option linter.unusedSimpArgs false
namespace Go.Proofs.YtieiiabbeglmfaaGreatDoor.S13
set_option maxRecDepth 100000
set_option maxHeartbeats 16000000
open Go.Proofs.YtieiiabbeglmfaaGreatDoor Go.Proofs.YtieiiabbeglmfaaGreatDoor.S11 Go.Proofs.YtieiiabbeglmfaaGreatDoor.S12
open Go.RowKit
theorem field_hd (a b : Bool) (h : Int) (w : World) : (Instr.field 339 (.agg #[.bool a, .bool b, .int .i64 h]) 2).run Tryz.prog w = .ok (.int .i64 h) w := by kernel_rfl
section
variable {w0 w w' : World} {base WB : Nat} {M : Sd} {r : List Part} {j B : Nat} {K : Lk} {X : Wm}
theorem look_l (h : Wl w0 w base WB M r j B K X) (ok : LkOk M K) (hl : K.ln = 3) : Calls Tryz.prog 325 #[askV K.t K.a, Pw B, Pw WB] w fun e w' => e = .returned (.tuple #[]) ∧ Stepped w0 w' base WB M r j B K := by
  unfold Stepped
  rw [show stepM M K = _ from by simp only [stepM, hl]; rfl, show stepK M K = _ from by simp only [stepK, hl]; rfl]
  have hj := h.hj
  have hA := h.pushB (.cells #[.int .i64 (K.t : Int), .int .u32 (K.a : Int)] 453)
  have k0 := cell_row (heap_alloc_new w (.cells #[.int .i64 (K.t : Int), .int .u32 (K.a : Int)] 453)) 0; have k1 := cell_row (heap_alloc_new w (.cells #[.int .i64 (K.t : Int), .int .u32 (K.a : Int)] 453)) 1
  simp only [List.getElem?_toArray, List.getElem?_cons_zero, List.getElem?_cons_succ] at k0 k1
  obtain ⟨Q, hQ⟩ : ∃ Q, Q = w.heap.size := ⟨_, rfl⟩
  rw [← hQ] at hA k0 k1
  have HA := Lib.hid hA; have HJ := Lib.hid hj; have HQ := Lib.hid hQ
  obtain ⟨x, hx⟩ : ∃ x, x = S2.look M.L K.a := ⟨_, rfl⟩
  have hxl : x < 18446744073709551616 := by rw [hx]; exact hA.look K.a
  have HC := Lib.hid ((hA.new (Below.refl _ _).drew).pg.load ok.a ok.n)
  rw [← hx] at HC ⊢
  have HTT : Hid (∀ W M' X', Wl w0 W base WB M' (r ++ [blockP Q (.cells #[.int .i64 (K.t : Int), .int .u32 (K.a : Int)] 453)]) j B K X' → Calls Tryz.prog 322 #[askV K.t K.a, Pw B, .int .u64 (x : Int)] W fun e w' => e = .returned (.tuple #[]) ∧ Wl w0 w' base WB M' (r ++ [blockP Q (.cells #[.int .i64 (K.t : Int), .int .u32 (K.a : Int)] 453)]) j B (K.turn x) X') := Lib.hid (fun W M' X' hW => turn_l hW (by omega) (by have := ok.sp; omega) hxl)
  clear hx hxl ok hl
  clear h hj hQ
  go_enter Tryz.func325, Tryz.ntmps325
  go_upto_region 1 with (fail)
  rw [← HQ.out]
  generalize w.alloc (.cells #[.int .i64 (K.t : Int), .int .u32 (K.a : Int)] 453) = w1 at *
  have HF : Hid ((fun w' => w'.cell? ⟨Q, 0, none⟩ = some (.int .i64 (K.t : Int)) ∧ w'.cell? ⟨Q, 1, none⟩ = some (.int .u32 (K.a : Int)) ∧ w'.cell? ⟨WB, 0, none⟩ = some (Pw X.cB)) w1.drew) := Lib.hid ⟨k0, k1, HA.out.pg.c.1⟩
  clear hA
  refine wp_region_held_drew (S := fun w' => w'.cell? ⟨Q, 0, none⟩ = some (.int .i64 (K.t : Int)) ∧ w'.cell? ⟨Q, 1, none⟩ = some (.int .u32 (K.a : Int)) ∧ w'.cell? ⟨WB, 0, none⟩ = some (Pw X.cB)) (by kernel_rfl) ?_ (fun hHeld => ?_)
  · exact HF.out
  refine tA 0 ⟨some 6, .load 453 (.tmp 3), 453, "wordlocks.go:78", #[], none⟩ ?vkm1 ?rkm1
  (try simp only [Act.put, tC, tD, tE])
  refine tA 1 ⟨some 7, .move (.tmp 1), 444, "wordlocks.go:78", #[], none⟩ ?vkm2 ?rkm2
  (try simp only [Act.put, tC, tD, tE])
  refine tA 2 ⟨some 8, .move (.tmp 2), 24, "wordlocks.go:78", #[], none⟩ ?vkm3 ?rkm3
  (try simp only [Act.put, tC, tD, tE])
  refine tA 3 ⟨some 9, .nilCheck (.tmp 8), 0, "wordlocks.go:78", #[⟨2, .data⟩], none⟩ ?vkm4 ?rkm4
  (try simp only [Act.put, tC, tD, tE])
  refine tA 4 ⟨some 10, .fieldAddr 47 (.tmp 9) 0, 0, "wordlocks.go:78", #[⟨3, .data⟩], none⟩ ?vkm5 ?rkm5
  (try simp only [Act.put, tC, tD, tE])
  refine tA 5 ⟨some 11, .load 39 (.tmp 10), 39, "wordlocks.go:78", #[⟨4, .data⟩], none⟩ ?vkm6 ?rkm6
  (try simp only [Act.put, tC, tD, tE])
  refine tA 6 ⟨some 12, .fieldAddr 453 (.tmp 3) 1, 0, "wordlocks.go:78", #[], none⟩ ?vkm7 ?rkm7
  (try simp only [Act.put, tC, tD, tE])
  refine tA 7 ⟨some 13, .load 35 (.tmp 12), 35, "wordlocks.go:78", #[⟨6, .data⟩], none⟩ ?vkm8 ?rkm8
  (try simp only [Act.put, tC, tD, tE])
  refine wpAnyH_ready (rs := [8]) (by kernel_rfl) (by simp) ?_
  refine AllReadyH.cons (o := ⟨some 14, .call ⟨.value (.func 207), #[.tmp 11, .tmp 13], #[39, 35]⟩, 23, "wordlocks.go:78", #[⟨5, .data⟩, ⟨7, .data⟩], none⟩) rfl (fun Kq hKq => ?_) AllReadyH.nil
  go_simp
  (refine HC.out.mono ?_; rintro e w3 ⟨rfl, X3, h3g, hcB⟩; have h3 : Wl w0 w3 base WB (M.acc 1 K.a x) (r ++ [blockP Q (.cells #[.int .i64 (K.t : Int), .int .u32 (K.a : Int)] 453)]) j B K X3 := ⟨h3g, HA.out.hj⟩; have HTN := Lib.hid (HTT.out _ _ _ h3); have q3 := h3.pg.c.1; rw [hcB] at q3; have hl := h3.last HJ.out; have HCB := Lib.hid hcB)
  refine hKq.out _ _ ?_ (fun hHeld => ?_)
  · exact ⟨cell_row hl 0, cell_row hl 1, q3⟩
  clear hKq Kq
  (try simp only [Act.put, tC, tD, tE])
  refine wpAnyH_ready (rs := [9]) (by kernel_rfl) (by simp) ?_
  refine AllReadyH.cons (o := ⟨some 15, .call ⟨.value (.func 322), #[.tmp 6, .tmp 7, .tmp 14], #[453, 444, 23]⟩, 0, "wordlocks.go:78", #[⟨0, .data⟩, ⟨1, .data⟩, ⟨8, .data⟩, ⟨8, .chain⟩], none⟩) rfl (fun Kq hKq => ?_) AllReadyH.nil
  go_simp
  (refine HTN.out.mono ?_; rintro e w4 ⟨rfl, h4⟩; have q4 := h4.pg.c.1; rw [HCB.out] at q4; have hl4 := h4.last HJ.out)
  refine hKq.out _ _ ?_ (fun hHeld => ?_)
  · exact ⟨cell_row hl4 0, cell_row hl4 1, q4⟩
  clear hKq Kq
  (try simp only [Act.put, tC, tD, tE])
  refine wpAnyH_done (by kernel_rfl) ?_ _
  have H4 := Lib.hid h4
  clear hHeld q3 hl q4 hl4 h3 h3g h4 hcB
  go_wp2_with fail
  go_end0
  exact ⟨rfl, X3, H4.out.dropB HJ.out⟩
theorem prepare_l (h : Wl w0 w base WB M r j B K X) (ok : LkOk M K) (hl : K.ln = 4) : Calls Tryz.prog 326 #[askV K.t K.a, Pw B, Pw WB] w fun e w' => e = .returned (.tuple #[]) ∧ Stepped w0 w' base WB M r j B K := by
  unfold Stepped
  rw [show stepM M K = _ from by simp only [stepM, hl]; rfl, show stepK M K = _ from by simp only [stepK, hl]; rfl]
  have hj := h.hj
  have hA := h.pushB (.cells #[.int .i64 (K.t : Int), .int .u32 (K.a : Int)] 453)
  have k0 := cell_row (heap_alloc_new w (.cells #[.int .i64 (K.t : Int), .int .u32 (K.a : Int)] 453)) 0; have k1 := cell_row (heap_alloc_new w (.cells #[.int .i64 (K.t : Int), .int .u32 (K.a : Int)] 453)) 1
  simp only [List.getElem?_toArray, List.getElem?_cons_zero, List.getElem?_cons_succ] at k0 k1
  obtain ⟨Q, hQ⟩ : ∃ Q, Q = w.heap.size := ⟨_, rfl⟩
  rw [← hQ] at hA k0 k1
  have HA := Lib.hid hA; have HJ := Lib.hid hj; have HQ := Lib.hid hQ
  obtain ⟨b0, hb0⟩ : ∃ x, x = S1.bitB K.st 0 := ⟨_, rfl⟩
  obtain ⟨b1, hb1⟩ : ∃ x, x = S1.bitB K.st 1 := ⟨_, rfl⟩
  obtain ⟨hd, hhd⟩ : ∃ x, x = S1.headN K.st := ⟨_, rfl⟩
  have HAS : Hid (∀ W, Calls Tryz.prog 204 #[.int .u64 (K.st : Int)] W fun e w' => e = .returned (.agg #[.bool b0, .bool b1, .int .i64 hd]) ∧ Below W.heap.size W w') := Lib.hid (fun W => by
    have := S1.as_any K.st ok.st W
    unfold S1.asV at this
    rw [← hb0, ← hb1, ← hhd] at this
    exact this)
  have HT := Lib.hid (fun W => word_any K.t ok.t W)
  have HC := Lib.hid ((hA.new (Below.refl _ _).drew).pg.prep ok.pn (i := 2 * K.t + 1) (by have := ok.t; omega))
  have hnt : S5.Num (K.t : Int) (some K.t) := S5.nm K.t ok.t
  have hnh := num_head K.st
  rw [← hhd] at hnh
  have HPU : Hid (∀ W X', Pg w0 W base WB (M.prep (2 * K.t + 1)) ((r ++ [blockP Q (.cells #[.int .i64 (K.t : Int), .int .u32 (K.a : Int)] 453)]).set j (lockP B K)) X' → Calls Tryz.prog 290 #[Pw X'.lB, .int .i64 (K.t : Int), .int .i64 hd] W fun e w' => e = .returned (.tuple #[]) ∧ ∃ X'', Pg w0 w' base WB ((M.prep (2 * K.t + 1)).link (S5.pushS (M.prep (2 * K.t + 1)).lk (some K.t) (hdO K.st))) ((r ++ [blockP Q (.cells #[.int .i64 (K.t : Int), .int .u32 (K.a : Int)] 453)]).set j (lockP B K)) X'' ∧ X''.lB = X'.lB) := Lib.hid (fun W X' hW => hW.push hnt hnh)
  have HH6 : Hid (K.ln ≠ 6) := Lib.hid (by omega)
  clear ok hl hb0 hb1 hhd hnt hnh
  clear h hj hQ
  go_enter Tryz.func326, Tryz.ntmps326
  go_upto_region 1 with (fail)
  rw [← HQ.out]
  generalize w.alloc (.cells #[.int .i64 (K.t : Int), .int .u32 (K.a : Int)] 453) = w1 at *
  have HF : Hid ((fun w' => w'.cell? ⟨Q, 0, none⟩ = some (.int .i64 (K.t : Int)) ∧ w'.cell? ⟨WB, 2, none⟩ = some (Pw X.pB)) w1.drew) := Lib.hid ⟨k0, HA.out.pg.c.2.1⟩
  clear hA
  refine wp_region_held_drew (S := fun w' => w'.cell? ⟨Q, 0, none⟩ = some (.int .i64 (K.t : Int)) ∧ w'.cell? ⟨WB, 2, none⟩ = some (Pw X.pB)) (by kernel_rfl) ?_ (fun hHeld => ?_)
  · exact HF.out
  refine tA 0 ⟨some 6, .move (.tmp 2), 24, "wordlocks.go:83", #[], none⟩ ?vpm1 ?rpm1
  (try simp only [Act.put, tC, tD, tE])
  refine tA 1 ⟨some 7, .nilCheck (.tmp 6), 0, "wordlocks.go:83", #[⟨0, .data⟩], none⟩ ?vpm2 ?rpm2
  (try simp only [Act.put, tC, tD, tE])
  refine tA 2 ⟨some 8, .fieldAddr 47 (.tmp 7) 2, 0, "wordlocks.go:83", #[⟨1, .data⟩], none⟩ ?vpm3 ?rpm3
  (try simp only [Act.put, tC, tD, tE])
  refine tA 3 ⟨some 9, .load 41 (.tmp 8), 41, "wordlocks.go:83", #[⟨2, .data⟩], none⟩ ?vpm4 ?rpm4
  (try simp only [Act.put, tC, tD, tE])
  refine tA 4 ⟨some 10, .fieldAddr 453 (.tmp 3) 0, 0, "wordlocks.go:83", #[], none⟩ ?vpm5 ?rpm5
  (try simp only [Act.put, tC, tD, tE])
  refine tA 5 ⟨some 11, .load 3 (.tmp 10), 3, "wordlocks.go:83", #[⟨4, .data⟩], none⟩ ?vpm6 ?rpm6
  (try simp only [Act.put, tC, tD, tE])
  refine wpAnyH_ready (rs := [6]) (by kernel_rfl) (by simp) ?_
  refine AllReadyH.cons (o := ⟨some 12, .call ⟨.value (.func 211), #[.tmp 11], #[3]⟩, 3, "wordlocks.go:83", #[⟨5, .data⟩], none⟩) rfl (fun Kq hKq => ?_) AllReadyH.nil
  go_simp
  (refine (HT.out _).mono ?_; rintro e w2 ⟨rfl, rfl⟩)
  refine hKq.out _ _ ?_ (fun hHeld => ?_)
  · exact hHeld
  clear hKq Kq
  (try simp only [Act.put, tC, tD, tE])
  refine wpAnyH_ready (rs := [7]) (by kernel_rfl) (by simp) ?_
  refine AllReadyH.cons (o := ⟨some 13, .call ⟨.value (.func 215), #[.tmp 9, .tmp 12], #[41, 3]⟩, 0, "wordlocks.go:83", #[⟨3, .data⟩, ⟨6, .data⟩, ⟨6, .chain⟩], none⟩) rfl (fun Kq hKq => ?_) AllReadyH.nil
  go_simp
  (refine HC.out.mono ?_; rintro e w3 ⟨rfl, X3, h3g, hpB⟩; have h3 : Wl w0 w3 base WB (M.prep (2 * K.t + 1)) (r ++ [blockP Q (.cells #[.int .i64 (K.t : Int), .int .u32 (K.a : Int)] 453)]) j B K X3 := ⟨h3g, HA.out.hj⟩; have q3 := h3.pg.c.2.1; rw [hpB] at q3; have hl := h3.last HJ.out)
  refine hKq.out _ _ ?_ (fun hHeld => ?_)
  · exact ⟨cell_row hl 0, q3⟩
  clear hKq Kq
  (try simp only [Act.put, tC, tD, tE])
  refine wpAnyH_done (by kernel_rfl) ?_ _
  clear HF
  have HF : Hid ((fun w' => w'.cell? ⟨Q, 0, none⟩ = some (.int .i64 (K.t : Int)) ∧ w'.cell? ⟨WB, 3, none⟩ = some (Pw X3.lB) ∧ w'.cell? ⟨B, 1, none⟩ = some (.int .u64 (K.st : Int))) w3.drew) := Lib.hid ⟨cell_row hl 0, h3.pg.c.2.2.1, h3.b1⟩
  have H3 := Lib.hid h3
  have hfd := field_hd b0 b1 hd
  clear hHeld q3 hl h3 h3g hpB k0 k1
  go_upto_region 2 with (fail)
  refine wp_region_held_drew (S := fun w' => w'.cell? ⟨Q, 0, none⟩ = some (.int .i64 (K.t : Int)) ∧ w'.cell? ⟨WB, 3, none⟩ = some (Pw X3.lB) ∧ w'.cell? ⟨B, 1, none⟩ = some (.int .u64 (K.st : Int))) (by kernel_rfl) ?_ (fun hHeld => ?_)
  · exact HF.out
  refine tA 0 ⟨some 14, .move (.tmp 2), 24, "wordlocks.go:84", #[], none⟩ ?vqm1 ?rqm1
  (try simp only [Act.put, tC, tD, tE])
  refine tA 1 ⟨some 15, .nilCheck (.tmp 14), 0, "wordlocks.go:84", #[⟨0, .data⟩], none⟩ ?vqm2 ?rqm2
  (try simp only [Act.put, tC, tD, tE])
  refine tA 2 ⟨some 16, .fieldAddr 47 (.tmp 15) 3, 0, "wordlocks.go:84", #[⟨1, .data⟩], none⟩ ?vqm3 ?rqm3
  (try simp only [Act.put, tC, tD, tE])
  refine tA 3 ⟨some 17, .load 42 (.tmp 16), 42, "wordlocks.go:84", #[⟨2, .data⟩], none⟩ ?vqm4 ?rqm4
  (try simp only [Act.put, tC, tD, tE])
  refine tA 4 ⟨some 18, .fieldAddr 453 (.tmp 3) 0, 0, "wordlocks.go:84", #[], none⟩ ?vqm5 ?rqm5
  (try simp only [Act.put, tC, tD, tE])
  refine tA 5 ⟨some 19, .load 3 (.tmp 18), 3, "wordlocks.go:84", #[⟨4, .data⟩], none⟩ ?vqm6 ?rqm6
  (try simp only [Act.put, tC, tD, tE])
  refine tA 6 ⟨some 20, .move (.tmp 1), 444, "wordlocks.go:84", #[], none⟩ ?vqm7 ?rqm7
  (try simp only [Act.put, tC, tD, tE])
  refine tA 7 ⟨some 21, .nilCheck (.tmp 20), 0, "wordlocks.go:84", #[⟨6, .data⟩], none⟩ ?vqm8 ?rqm8
  (try simp only [Act.put, tC, tD, tE])
  refine tA 8 ⟨some 22, .fieldAddr 451 (.tmp 21) 1, 0, "wordlocks.go:84", #[⟨7, .data⟩], none⟩ ?vqm9 ?rqm9
  (try simp only [Act.put, tC, tD, tE])
  refine tA 9 ⟨some 23, .load 23 (.tmp 22), 23, "wordlocks.go:84", #[⟨8, .data⟩], none⟩ ?vqm10 ?rqm10
  (try simp only [Act.put, tC, tD, tE])
  refine wpAnyH_ready (rs := [10]) (by kernel_rfl) (by simp) ?_
  refine AllReadyH.cons (o := ⟨some 24, .call ⟨.value (.func 204), #[.tmp 23], #[23]⟩, 339, "wordlocks.go:84", #[⟨9, .data⟩], none⟩) rfl (fun Kq hKq => ?_) AllReadyH.nil
  go_simp
  (refine (HAS.out _).mono ?_; rintro e w4 ⟨rfl, hb4⟩; have HPQ := Lib.hid (HPU.out w4 X3 ((H3.out.new (Below.refl _ _).drew).new hb4).pg))
  refine hKq.out _ _ ?_ (fun hHeld => ?_)
  · exact ⟨bcell hb4 hHeld.1, bcell hb4 hHeld.2.1, bcell hb4 hHeld.2.2⟩
  clear hKq Kq
  (try simp only [Act.put, tC, tD, tE])
  refine tA 11 ⟨some 25, .field 339 (.tmp 24) 2, 3, "wordlocks.go:84", #[⟨10, .data⟩], none⟩ ?vqm11 ?rqm11
  (try simp only [Act.put, tC, tD, tE])
  refine wpAnyH_ready (rs := [12]) (by kernel_rfl) (by simp) ?_
  refine AllReadyH.cons (o := ⟨some 26, .call ⟨.value (.func 290), #[.tmp 17, .tmp 19, .tmp 25], #[42, 3, 3]⟩, 0, "wordlocks.go:84", #[⟨3, .data⟩, ⟨5, .data⟩, ⟨11, .data⟩, ⟨10, .chain⟩], none⟩) rfl (fun Kq hKq => ?_) AllReadyH.nil
  go_simp
  (refine HPQ.out.mono ?_; rintro e w5 ⟨rfl, X5, h5g, hlB⟩; have h5 : Wl w0 w5 base WB ((M.prep (2 * K.t + 1)).link (S5.pushS (M.prep (2 * K.t + 1)).lk (some K.t) (hdO K.st))) (r ++ [blockP Q (.cells #[.int .i64 (K.t : Int), .int .u32 (K.a : Int)] 453)]) j B K X5 := ⟨h5g, HA.out.hj⟩; have q5 := h5.pg.c.2.2.1; rw [hlB] at q5; have hl5 := h5.last HJ.out; have b5 := h5.b1)
  refine hKq.out _ _ ?_ (fun hHeld => ?_)
  · exact ⟨cell_row hl5 0, q5, b5⟩
  clear hKq Kq
  (try simp only [Act.put, tC, tD, tE])
  refine wpAnyH_done (by kernel_rfl) ?_ _
  have k0 := cell_row hl5 0; have k1 := cell_row hl5 1
  simp only [List.getElem?_toArray, List.getElem?_cons_zero, List.getElem?_cons_succ] at k0 k1
  have c0 := h5.b0; have z0 := h5.fz 0
  have H5 := Lib.hid h5
  clear hHeld q5 hl5 b5 h5 h5g hlB hb4 HF
  go_wp2_with fail
  go_end0
  exact ⟨rfl, X5, (H5.out.next HH6.out 5 (by decide) _ rfl).dropB HJ.out⟩
theorem park_l (h : Wl w0 w base WB M r j B K X) (ok : LkOk M K) (hl : K.ln = 6) : Calls Tryz.prog 328 #[askV K.t K.a, Pw B, Pw WB] w fun e w' => e = .returned (.tuple #[]) ∧ Stepped w0 w' base WB M r j B K := by
  unfold Stepped
  rw [show stepM M K = _ from by simp only [stepM, hl]; rfl, show stepK M K = _ from by simp only [stepK, hl]; rfl]
  have hj := h.hj
  have hA := h.pushB (.cells #[.int .i64 (K.t : Int), .int .u32 (K.a : Int)] 453)
  have k0 := cell_row (heap_alloc_new w (.cells #[.int .i64 (K.t : Int), .int .u32 (K.a : Int)] 453)) 0; have k1 := cell_row (heap_alloc_new w (.cells #[.int .i64 (K.t : Int), .int .u32 (K.a : Int)] 453)) 1
  simp only [List.getElem?_toArray, List.getElem?_cons_zero, List.getElem?_cons_succ] at k0 k1
  obtain ⟨Q, hQ⟩ : ∃ Q, Q = w.heap.size := ⟨_, rfl⟩
  rw [← hQ] at hA k0 k1
  have HA := Lib.hid hA; have HJ := Lib.hid hj; have HQ := Lib.hid hQ
  obtain ⟨g, hg⟩ : ∃ g, g = (M.pf (2 * K.t + 1)).p := ⟨_, rfl⟩
  have HT := Lib.hid (fun W => word_any K.t ok.t W)
  have HC := Lib.hid ((hA.new (Below.refl _ _).drew).pg.park ok.pn (i := 2 * K.t + 1) (by have := ok.t; omega))
  rw [← hg] at HC ⊢
  have H6 := Lib.hid hl
  clear ok hl hg
  clear h hj hQ
  go_enter Tryz.func328, Tryz.ntmps328
  go_upto_region 1 with (fail)
  rw [← HQ.out]
  generalize w.alloc (.cells #[.int .i64 (K.t : Int), .int .u32 (K.a : Int)] 453) = w1 at *
  have HF : Hid ((fun w' => w'.cell? ⟨Q, 0, none⟩ = some (.int .i64 (K.t : Int)) ∧ w'.cell? ⟨WB, 2, none⟩ = some (Pw X.pB)) w1.drew) := Lib.hid ⟨k0, HA.out.pg.c.2.1⟩
  clear hA
  cases g
  · refine wp_region_held_drew (S := fun w' => w'.cell? ⟨Q, 0, none⟩ = some (.int .i64 (K.t : Int)) ∧ w'.cell? ⟨WB, 2, none⟩ = some (Pw X.pB)) (by kernel_rfl) ?_ (fun hHeld => ?_)
    · exact HF.out
    refine tA 0 ⟨some 6, .move (.tmp 2), 24, "wordlocks.go:99", #[], none⟩ ?vum1 ?rum1
    (try simp only [Act.put, tC, tD, tE])
    refine tA 1 ⟨some 7, .nilCheck (.tmp 6), 0, "wordlocks.go:99", #[⟨0, .data⟩], none⟩ ?vum2 ?rum2
    (try simp only [Act.put, tC, tD, tE])
    refine tA 2 ⟨some 8, .fieldAddr 47 (.tmp 7) 2, 0, "wordlocks.go:99", #[⟨1, .data⟩], none⟩ ?vum3 ?rum3
    (try simp only [Act.put, tC, tD, tE])
    refine tA 3 ⟨some 9, .load 41 (.tmp 8), 41, "wordlocks.go:99", #[⟨2, .data⟩], none⟩ ?vum4 ?rum4
    (try simp only [Act.put, tC, tD, tE])
    refine tA 4 ⟨some 10, .fieldAddr 453 (.tmp 3) 0, 0, "wordlocks.go:99", #[], none⟩ ?vum5 ?rum5
    (try simp only [Act.put, tC, tD, tE])
    refine tA 5 ⟨some 11, .load 3 (.tmp 10), 3, "wordlocks.go:99", #[⟨4, .data⟩], none⟩ ?vum6 ?rum6
    (try simp only [Act.put, tC, tD, tE])
    refine wpAnyH_ready (rs := [6]) (by kernel_rfl) (by simp) ?_
    refine AllReadyH.cons (o := ⟨some 12, .call ⟨.value (.func 211), #[.tmp 11], #[3]⟩, 3, "wordlocks.go:99", #[⟨5, .data⟩], none⟩) rfl (fun Kq hKq => ?_) AllReadyH.nil
    go_simp
    (refine (HT.out _).mono ?_; rintro e w2 ⟨rfl, rfl⟩)
    refine hKq.out _ _ ?_ (fun hHeld => ?_)
    · exact hHeld
    clear hKq Kq
    (try simp only [Act.put, tC, tD, tE])
    refine wpAnyH_ready (rs := [7]) (by kernel_rfl) (by simp) ?_
    refine AllReadyH.cons (o := ⟨some 13, .call ⟨.value (.func 305), #[.tmp 9, .tmp 12], #[41, 3]⟩, 403, "wordlocks.go:99", #[⟨3, .data⟩, ⟨6, .data⟩, ⟨6, .chain⟩], none⟩) rfl (fun Kq hKq => ?_) AllReadyH.nil
    go_simp
    (refine HC.out.mono ?_; rintro e w3 ⟨rfl, X3, h3g, hpB⟩; have h3 : Wl w0 w3 base WB (M.park (2 * K.t + 1)) (r ++ [blockP Q (.cells #[.int .i64 (K.t : Int), .int .u32 (K.a : Int)] 453)]) j B K X3 := ⟨h3g, HA.out.hj⟩; have q3 := h3.pg.c.2.1; rw [hpB] at q3; have hl := h3.last HJ.out)
    refine hKq.out _ _ ?_ (fun hHeld => ?_)
    · exact ⟨cell_row hl 0, q3⟩
    clear hKq Kq
    (try simp only [Act.put, tC, tD, tE])
    refine tA 8 ⟨some 14, .binOp .neq 403 (.tmp 13) (.const (.int .u8 1)) 403, 4, "wordlocks.go:99", #[⟨7, .data⟩], none⟩ ?vum7 ?rum7
    (try simp only [Act.put, tC, tD, tE])
    refine wpAnyH_done (by kernel_rfl) ?_ _
    have H3 := Lib.hid h3
    clear hHeld q3 hl h3 h3g hpB HF k0 k1
    go_wp2_with fail
    (try simp only [Exit.inBlock, Exit.then])
    refine bodyPost_ret (results_none rfl _ _ _) rfl ⟨rfl, X3, H3.out.dropB HJ.out⟩
  · refine wp_region_held_drew (S := fun w' => w'.cell? ⟨Q, 0, none⟩ = some (.int .i64 (K.t : Int)) ∧ w'.cell? ⟨WB, 2, none⟩ = some (Pw X.pB)) (by kernel_rfl) ?_ (fun hHeld => ?_)
    · exact HF.out
    refine tA 0 ⟨some 6, .move (.tmp 2), 24, "wordlocks.go:99", #[], none⟩ ?vvm1 ?rvm1
    (try simp only [Act.put, tC, tD, tE])
    refine tA 1 ⟨some 7, .nilCheck (.tmp 6), 0, "wordlocks.go:99", #[⟨0, .data⟩], none⟩ ?vvm2 ?rvm2
    (try simp only [Act.put, tC, tD, tE])
    refine tA 2 ⟨some 8, .fieldAddr 47 (.tmp 7) 2, 0, "wordlocks.go:99", #[⟨1, .data⟩], none⟩ ?vvm3 ?rvm3
    (try simp only [Act.put, tC, tD, tE])
    refine tA 3 ⟨some 9, .load 41 (.tmp 8), 41, "wordlocks.go:99", #[⟨2, .data⟩], none⟩ ?vvm4 ?rvm4
    (try simp only [Act.put, tC, tD, tE])
    refine tA 4 ⟨some 10, .fieldAddr 453 (.tmp 3) 0, 0, "wordlocks.go:99", #[], none⟩ ?vvm5 ?rvm5
    (try simp only [Act.put, tC, tD, tE])
    refine tA 5 ⟨some 11, .load 3 (.tmp 10), 3, "wordlocks.go:99", #[⟨4, .data⟩], none⟩ ?vvm6 ?rvm6
    (try simp only [Act.put, tC, tD, tE])
    refine wpAnyH_ready (rs := [6]) (by kernel_rfl) (by simp) ?_
    refine AllReadyH.cons (o := ⟨some 12, .call ⟨.value (.func 211), #[.tmp 11], #[3]⟩, 3, "wordlocks.go:99", #[⟨5, .data⟩], none⟩) rfl (fun Kq hKq => ?_) AllReadyH.nil
    go_simp
    (refine (HT.out _).mono ?_; rintro e w2 ⟨rfl, rfl⟩)
    refine hKq.out _ _ ?_ (fun hHeld => ?_)
    · exact hHeld
    clear hKq Kq
    (try simp only [Act.put, tC, tD, tE])
    refine wpAnyH_ready (rs := [7]) (by kernel_rfl) (by simp) ?_
    refine AllReadyH.cons (o := ⟨some 13, .call ⟨.value (.func 305), #[.tmp 9, .tmp 12], #[41, 3]⟩, 403, "wordlocks.go:99", #[⟨3, .data⟩, ⟨6, .data⟩, ⟨6, .chain⟩], none⟩) rfl (fun Kq hKq => ?_) AllReadyH.nil
    go_simp
    (refine HC.out.mono ?_; rintro e w3 ⟨rfl, X3, h3g, hpB⟩; have h3 : Wl w0 w3 base WB (M.park (2 * K.t + 1)) (r ++ [blockP Q (.cells #[.int .i64 (K.t : Int), .int .u32 (K.a : Int)] 453)]) j B K X3 := ⟨h3g, HA.out.hj⟩; have q3 := h3.pg.c.2.1; rw [hpB] at q3; have hl := h3.last HJ.out)
    refine hKq.out _ _ ?_ (fun hHeld => ?_)
    · exact ⟨cell_row hl 0, q3⟩
    clear hKq Kq
    (try simp only [Act.put, tC, tD, tE])
    refine tA 8 ⟨some 14, .binOp .neq 403 (.tmp 13) (.const (.int .u8 1)) 403, 4, "wordlocks.go:99", #[⟨7, .data⟩], none⟩ ?vvm7 ?rvm7
    (try simp only [Act.put, tC, tD, tE])
    refine wpAnyH_done (by kernel_rfl) ?_ _
    have HBG := Lib.hid (begin_l h3)
    clear hHeld q3 hl h3 h3g hpB HF k0 k1
    go_upto_region 3 with (go_at_call 320; refine HBG.out.mono ?_; rintro e w4 ⟨rfl, h4⟩)
    have hl := h4.last HJ.out
    have k0 := cell_row hl 0; have k1 := cell_row hl 1
    simp only [List.getElem?_toArray, List.getElem?_cons_zero, List.getElem?_cons_succ] at k0 k1
    have c0 := h4.b0; have z0 := h4.fz 0; have c3 := h4.b3; have z3 := h4.fz 3
    have H4 := Lib.hid h4
    clear hl h4 HBG
    go_wp2_with fail
    go_end0
    exact ⟨rfl, X3, (H4.out.next2 3 _ rfl false rfl).dropB HJ.out⟩
end
end Go.Proofs.YtieiiabbeglmfaaGreatDoor.S13
