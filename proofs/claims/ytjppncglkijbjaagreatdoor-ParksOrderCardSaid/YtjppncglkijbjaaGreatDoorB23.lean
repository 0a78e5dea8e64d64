/- Texts of this seat, one behind the other. -/
import Derived.Test.YtjppncglkijbjaaGreatDoorB22
set_option linter.unusedVariables false
set_option linter.unusedSimpArgs false
namespace Go.Proofs.YtjppncglkijbjaaGreatDoor.S14
open Go.Proofs.YtjppncglkijbjaaGreatDoor Go.Proofs.YtjppncglkijbjaaGreatDoor.S11 Go.Proofs.YtjppncglkijbjaaGreatDoor.S12 Go.Proofs.YtjppncglkijbjaaGreatDoor.S13
open Go.RowKit

section
variable {w0 w w' : World} {base WB : Nat} {M : Sd} {r : List Part} {j B : Nat} {K : Fr} {X : Wm}
set_option maxRecDepth 100000 in
set_option maxHeartbeats 8000000 in
theorem beh2 (h : Wf w0 w base WB M r j B K X) (ok : FrOk M K) (hl : K.ln = 2) : Calls Tryz.prog 176 #[Pw B, Pw WB] w (Behind w0 base WB M r j B K) := by
  have hj := h.hj
  have c0 := h.b0
  rw [hl] at c0
  have c2 := h.b2; have c3 := h.b3; have c4 := h.b4
  have hA := h.pushB (.cells #[.bool K.l, .bool K.q, .int .i64 K.h] 330)
  obtain ⟨Q, hQ⟩ : ∃ Q, Q = w.heap.size := ⟨_, rfl⟩
  rw [← hQ] at hA
  have HA := Lib.hid hA; have HJ := Lib.hid hj; have HQ := Lib.hid hQ; have HOK := Lib.hid ok; have HL := Lib.hid hl
  clear h hj hA hQ ok hl
  go_enter Tryz.func176, Tryz.ntmps176
  go_wp2_with fail
  refine wp_scope_two rfl rfl ?_
  go_upto_region 3 with (fail)
  rw [← HQ.out]
  generalize w.alloc (.cells #[.bool K.l, .bool K.q, .int .i64 K.h] 330) = w1 at *
  clear c0 c2 c3 c4
  have c0 := HA.out.b0
  rw [HL.out] at c0
  obtain ⟨x, hx⟩ : ∃ x, x = S2.look M.L K.a := ⟨_, rfl⟩
  have hxl : x < 18446744073709551616 := by rw [hx]; exact HA.out.look K.a
  have HAS := Lib.hid (fun W => S1.as_any x hxl W)
  have had : Calls Tryz.prog 201 #[Pw X.cB, .int .u32 (K.a : Int)] w1.drew fun e w' => e = .returned (.int .u64 (x : Int)) ∧ ∃ X', Pg w0 w' base WB (M.acc 1 K.a (S2.look M.L K.a)) ((r ++ [blockP Q (.cells #[.bool K.l, .bool K.q, .int .i64 K.h] 330)]).set j (freeP B K)) X' ∧ X'.cB = X.cB := by
    rw [hx]
    exact (HA.out.new (Below.refl _ _).drew).pg.load HOK.out.a HOK.out.n
  have HAD := Lib.hid had
  have HX := Lib.hid hx
  unfold S1.asV at HAS
  obtain ⟨b0, hb0⟩ : ∃ b, b = S1.bitB x 0 := ⟨_, rfl⟩
  obtain ⟨b1, hb1⟩ : ∃ b, b = S1.bitB x 1 := ⟨_, rfl⟩
  obtain ⟨hd, hhd⟩ : ∃ b, b = S1.headN x := ⟨_, rfl⟩
  rw [← hb0, ← hb1, ← hhd] at HAS
  have HB := Lib.hid (And.intro hb0 (And.intro hb1 hhd))
  have HX0 := Lib.hid HA.out.cells
  clear had hx hxl hb0 hb1 hhd
  go_upto_region 12 with (fail)
  clear c0
  refine wp_region_held_drew (S := fun w' => w'.cell? ⟨WB, 0, none⟩ = some (Pw X.cB) ∧ w'.cell? ⟨B, 1, none⟩ = some (.int .u32 (K.a : Int))) (by kernel_rfl) ?_ (fun hHeld => ?_)
  · exact HX0.out
  refine wpAnyH_take (i := 0) (oi := ({ dst := some 47, op := Op.move (Operand.tmp 5), type := 359, pos := "wordfrees.go:74", after := #[], guard := none } : Oper)) (v := ?va2m1) rfl (by kernel_rfl) (by kernel_rfl) (by kernel_rfl) (fun _ _ _ h => h) (Or.inl ⟨by rfl, fun w hSw => ?hya2m1⟩) (by assumption) ?ra2m1
  case hya2m1 => (try dsimp only at hSw); go_simp; (try with_reducible rfl)
  (try simp only [Act.put, List.setIfInBounds_toArray, List.set_cons_zero, List.set_cons_succ])
  refine wpAnyH_take (i := 1) (oi := ({ dst := some 48, op := Op.move (Operand.tmp 1), type := 24, pos := "wordfrees.go:74", after := #[], guard := none } : Oper)) (v := ?va2m2) rfl (by kernel_rfl) (by kernel_rfl) (by kernel_rfl) (fun _ _ _ h => h) (Or.inl ⟨by rfl, fun w hSw => ?hya2m2⟩) (by assumption) ?ra2m2
  case hya2m2 => (try dsimp only at hSw); go_simp; (try with_reducible rfl)
  (try simp only [Act.put, List.setIfInBounds_toArray, List.set_cons_zero, List.set_cons_succ])
  refine wpAnyH_take (i := 2) (oi := ({ dst := some 49, op := Op.nilCheck (Operand.tmp 48), type := 0, pos := "wordfrees.go:74", after := #[{ on := 1, ground := Ground.data }], guard := none } : Oper)) (v := ?va2m3) rfl (by kernel_rfl) (by kernel_rfl) (by kernel_rfl) (fun _ _ _ h => h) (Or.inl ⟨by rfl, fun w hSw => ?hya2m3⟩) (by assumption) ?ra2m3
  case hya2m3 => (try dsimp only at hSw); go_simp; (try with_reducible rfl)
  (try simp only [Act.put, List.setIfInBounds_toArray, List.set_cons_zero, List.set_cons_succ])
  refine wpAnyH_take (i := 3) (oi := ({ dst := some 50, op := Op.fieldAddr 47 (Operand.tmp 49) 0, type := 0, pos := "wordfrees.go:74", after := #[{ on := 2, ground := Ground.data }], guard := none } : Oper)) (v := ?va2m4) rfl (by kernel_rfl) (by kernel_rfl) (by kernel_rfl) (fun _ _ _ h => h) (Or.inl ⟨by rfl, fun w hSw => ?hya2m4⟩) (by assumption) ?ra2m4
  case hya2m4 => (try dsimp only at hSw); go_simp; (try with_reducible rfl)
  (try simp only [Act.put, List.setIfInBounds_toArray, List.set_cons_zero, List.set_cons_succ])
  refine wpAnyH_take (i := 4) (oi := ({ dst := some 51, op := Op.load 39 (Operand.tmp 50), type := 39, pos := "wordfrees.go:74", after := #[{ on := 3, ground := Ground.data }], guard := none } : Oper)) (v := ?va2m5) rfl (by kernel_rfl) (by kernel_rfl) (by kernel_rfl) (fun _ _ _ h => h) (Or.inl ⟨by rfl, fun w hSw => ?hya2m5⟩) (by assumption) ?ra2m5
  case hya2m5 => (try dsimp only at hSw); go_simp; (try with_reducible rfl)
  (try simp only [Act.put, List.setIfInBounds_toArray, List.set_cons_zero, List.set_cons_succ])
  refine wpAnyH_take (i := 5) (oi := ({ dst := some 52, op := Op.move (Operand.tmp 0), type := 73, pos := "wordfrees.go:74", after := #[], guard := none } : Oper)) (v := ?va2m6) rfl (by kernel_rfl) (by kernel_rfl) (by kernel_rfl) (fun _ _ _ h => h) (Or.inl ⟨by rfl, fun w hSw => ?hya2m6⟩) (by assumption) ?ra2m6
  case hya2m6 => (try dsimp only at hSw); go_simp; (try with_reducible rfl)
  (try simp only [Act.put, List.setIfInBounds_toArray, List.set_cons_zero, List.set_cons_succ])
  refine wpAnyH_take (i := 6) (oi := ({ dst := some 53, op := Op.nilCheck (Operand.tmp 52), type := 0, pos := "wordfrees.go:74", after := #[{ on := 5, ground := Ground.data }], guard := none } : Oper)) (v := ?va2m7) rfl (by kernel_rfl) (by kernel_rfl) (by kernel_rfl) (fun _ _ _ h => h) (Or.inl ⟨by rfl, fun w hSw => ?hya2m7⟩) (by assumption) ?ra2m7
  case hya2m7 => (try dsimp only at hSw); go_simp; (try with_reducible rfl)
  (try simp only [Act.put, List.setIfInBounds_toArray, List.set_cons_zero, List.set_cons_succ])
  refine wpAnyH_take (i := 7) (oi := ({ dst := some 54, op := Op.fieldAddr 334 (Operand.tmp 53) 1, type := 0, pos := "wordfrees.go:74", after := #[{ on := 6, ground := Ground.data }], guard := none } : Oper)) (v := ?va2m8) rfl (by kernel_rfl) (by kernel_rfl) (by kernel_rfl) (fun _ _ _ h => h) (Or.inl ⟨by rfl, fun w hSw => ?hya2m8⟩) (by assumption) ?ra2m8
  case hya2m8 => (try dsimp only at hSw); go_simp; (try with_reducible rfl)
  (try simp only [Act.put, List.setIfInBounds_toArray, List.set_cons_zero, List.set_cons_succ])
  refine wpAnyH_take (i := 8) (oi := ({ dst := some 55, op := Op.load 35 (Operand.tmp 54), type := 35, pos := "wordfrees.go:74", after := #[{ on := 7, ground := Ground.data }], guard := none } : Oper)) (v := ?va2m9) rfl (by kernel_rfl) (by kernel_rfl) (by kernel_rfl) (fun _ _ _ h => h) (Or.inl ⟨by rfl, fun w hSw => ?hya2m9⟩) (by assumption) ?ra2m9
  case hya2m9 => (try dsimp only at hSw); go_simp; (try with_reducible rfl)
  (try simp only [Act.put, List.setIfInBounds_toArray, List.set_cons_zero, List.set_cons_succ])
  refine wpAnyH_ready (rs := [9]) (by kernel_rfl) (by simp) ?_
  refine AllReadyH.cons (o := ({ dst := some 56, op := Op.call { callee := Callee.value (Operand.func 201), args := #[Operand.tmp 51, Operand.tmp 55], argTypes := #[39, 35] }, type := 23, pos := "wordfrees.go:74", after := #[{ on := 4, ground := Ground.data }, { on := 8, ground := Ground.data }], guard := none } : Oper)) rfl (fun Kq hKq => ?_) AllReadyH.nil
  go_simp
  (refine HAD.out.mono ?_; rintro e w3 ⟨rfl, X3, h3g, hcb3⟩; have H3 := Lib.hid (show Wf w0 w3 base WB (M.acc 1 K.a (S2.look M.L K.a)) (r ++ [blockP Q (.cells #[.bool K.l, .bool K.q, .int .i64 K.h] 330)]) j B K X3 from ⟨h3g, HA.out.hj⟩); have HCB := Lib.hid hcb3; clear h3g hcb3)
  refine hKq.out _ _ ?_ (fun hHeld => ?_)
  · (have q := H3.out.cells; rw [HCB.out] at q; exact q)
  clear hKq Kq
  (try simp only [Act.put, List.setIfInBounds_toArray, List.set_cons_zero, List.set_cons_succ])
  refine wpAnyH_ready (rs := [10]) (by kernel_rfl) (by simp) ?_
  refine AllReadyH.cons (o := ({ dst := some 57, op := Op.call { callee := Callee.value (Operand.func 198), args := #[Operand.tmp 56], argTypes := #[23] }, type := 330, pos := "wordfrees.go:74", after := #[{ on := 9, ground := Ground.data }, { on := 9, ground := Ground.chain }], guard := none } : Oper)) rfl (fun Kq hKq => ?_) AllReadyH.nil
  go_simp
  (refine (HAS.out _).mono ?_; rintro e w4 ⟨rfl, hb4⟩; have H4 := Lib.hid (H3.out.new hb4); clear hb4)
  refine hKq.out _ _ ?_ (fun hHeld => ?_)
  · (have q := H4.out.cells; rw [HCB.out] at q; exact q)
  clear hKq Kq
  (try simp only [Act.put, List.setIfInBounds_toArray, List.set_cons_zero, List.set_cons_succ])
  refine wpAnyH_take (i := 11) (oi := ({ dst := some 58, op := Op.nilCheck (Operand.tmp 47), type := 0, pos := "wordfrees.go:74", after := #[{ on := 0, ground := Ground.data }, { on := 0, ground := Ground.phase }, { on := 1, ground := Ground.phase }, { on := 2, ground := Ground.phase }, { on := 3, ground := Ground.phase }, { on := 4, ground := Ground.phase }, { on := 5, ground := Ground.phase }, { on := 6, ground := Ground.phase }, { on := 7, ground := Ground.phase }, { on := 8, ground := Ground.phase }, { on := 9, ground := Ground.phase }, { on := 10, ground := Ground.phase }], guard := none } : Oper)) (v := ?va2m10) rfl (by kernel_rfl) (by kernel_rfl) (by kernel_rfl) (fun _ _ _ h => h) (Or.inl ⟨by rfl, fun w hSw => ?hya2m10⟩) (by assumption) ?ra2m10
  case hya2m10 => (try dsimp only at hSw); go_simp; (try with_reducible rfl)
  (try simp only [Act.put, List.setIfInBounds_toArray, List.set_cons_zero, List.set_cons_succ])
  refine wpAnyH_take (i := 12) (oi := ({ dst := some 59, op := Op.fieldAddr 332 (Operand.tmp 58) 0, type := 0, pos := "wordfrees.go:74", after := #[{ on := 11, ground := Ground.data }, { on := 0, ground := Ground.phase }, { on := 1, ground := Ground.phase }, { on := 2, ground := Ground.phase }, { on := 3, ground := Ground.phase }, { on := 4, ground := Ground.phase }, { on := 5, ground := Ground.phase }, { on := 6, ground := Ground.phase }, { on := 7, ground := Ground.phase }, { on := 8, ground := Ground.phase }, { on := 9, ground := Ground.phase }, { on := 10, ground := Ground.phase }], guard := none } : Oper)) (v := ?va2m11) rfl (by kernel_rfl) (by kernel_rfl) (by kernel_rfl) (fun _ _ _ h => h) (Or.inl ⟨by rfl, fun w hSw => ?hya2m11⟩) (by assumption) ?ra2m11
  case hya2m11 => (try dsimp only at hSw); go_simp; (try with_reducible rfl)
  (try simp only [Act.put, List.setIfInBounds_toArray, List.set_cons_zero, List.set_cons_succ])
  refine wpAnyH_ready (rs := [13]) (by kernel_rfl) (by simp) ?_
  refine AllReadyH.cons (o := ({ dst := none, op := Op.store 330 (Operand.tmp 59) (Operand.tmp 57), type := 0, pos := "wordfrees.go:74", after := #[{ on := 12, ground := Ground.data }, { on := 10, ground := Ground.data }, { on := 10, ground := Ground.chain }, { on := 0, ground := Ground.phase }, { on := 1, ground := Ground.phase }, { on := 2, ground := Ground.phase }, { on := 3, ground := Ground.phase }, { on := 4, ground := Ground.phase }, { on := 5, ground := Ground.phase }, { on := 6, ground := Ground.phase }, { on := 7, ground := Ground.phase }, { on := 8, ground := Ground.phase }, { on := 9, ground := Ground.phase }, { on := 10, ground := Ground.phase }], guard := none } : Oper)) rfl (fun Kq hKq => ?_) AllReadyH.nil
  (have y2 := H4.out.b2; have y3 := H4.out.b3; have y4 := H4.out.b4; have f2 := H4.out.fz 2; have f3 := H4.out.fz 3; have f4 := H4.out.fz 4; go_simp; have h5 := H4.out.word b0 b1 hd x; have H5 := Lib.hid h5; clear y2 y3 y4 f2 f3 f4 h5; generalize ((w4.setCell ⟨B, 2, none⟩ (.bool b0)).setCell ⟨B, 3, none⟩ (.bool b1)).setCell ⟨B, 4, none⟩ (.int .i64 hd) = w5 at *)
  refine hKq.out _ _ ?_ (fun hHeld => ?_)
  · (have q := H5.out.cells; rw [HCB.out] at q; exact q)
  clear hKq Kq
  (try simp only [Act.put, List.setIfInBounds_toArray, List.set_cons_zero, List.set_cons_succ])
  refine wpAnyH_done (by kernel_rfl) ?_ _
  clear hHeld
  have z3 := H5.out.b3; have z4 := H5.out.b4
  have hid : idle x = (b1 || decide (hd = -1)) := by unfold idle; rw [← HB.out.2.1, ← HB.out.2.2]
  have HDN := Lib.hid (done_f (w := w5) b1 hd z3 z4)
  have HID := Lib.hid hid
  clear hid z3 z4
  have hfin : Behind w0 base WB M r j B K (.returned (.int .u8 ((if idle x = true then 0 else 3 : Nat) : Int))) w5 := by
    unfold Behind
    rw [show fstepM M K = _ from by simp only [fstepM, HL.out]; rfl, show fstepK M K = _ from by simp only [fstepK, HL.out]; rfl, ← HX.out]
    have h6 := H5.out.dropB HJ.out
    rw [← HX.out, HB.out.1, HB.out.2.1, HB.out.2.2] at h6
    exact ⟨rfl, X3, h6⟩
  have HF := Lib.hid hfin
  clear hfin
  go_wp2_with fail
  obtain ⟨id, hid⟩ : ∃ id, id = idle x := ⟨_, rfl⟩
  rw [← HID.out] at HDN
  rw [← hid] at HDN HF
  clear hid HID
  go_step3
  refine Or.inl ⟨rfl, ?_⟩
  show Code.wp _ _ _ _ _
  cases id with
  | true =>
    rw [if_pos rfl] at HF
    go_wp2_with (go_at_call 200; refine HDN.out.mono ?_; rintro e w6 ⟨rfl, rfl⟩)
    (try simp only [Exit.noGoto])
    go_ret
    exact HF.out
  | false =>
    rw [if_neg (by decide)] at HF
    go_wp2_with (go_at_call 200; refine HDN.out.mono ?_; rintro e w6 ⟨rfl, rfl⟩)
    (try simp only [Exit.noGoto])
    go_ret
    exact HF.out
end
end Go.Proofs.YtjppncglkijbjaaGreatDoor.S14
namespace Go.Proofs.YtjppncglkijbjaaGreatDoor.S14
open Go.Proofs.YtjppncglkijbjaaGreatDoor Go.Proofs.YtjppncglkijbjaaGreatDoor.S11 Go.Proofs.YtjppncglkijbjaaGreatDoor.S12 Go.Proofs.YtjppncglkijbjaaGreatDoor.S13
open Go.RowKit

section
variable {w0 w w' : World} {base WB : Nat} {M : Sd} {r : List Part} {j B : Nat} {K : Fr} {X : Wm}
set_option maxRecDepth 100000 in
set_option maxHeartbeats 8000000 in
theorem beh3 (h : Wf w0 w base WB M r j B K X) (ok : FrOk M K) (hl : K.ln = 3) : Calls Tryz.prog 176 #[Pw B, Pw WB] w (Behind w0 base WB M r j B K) := by
  have hj := h.hj
  have c0 := h.b0
  rw [hl] at c0
  have c2 := h.b2; have c3 := h.b3; have c4 := h.b4
  have hA := h.pushB (.cells #[.bool K.l, .bool K.q, .int .i64 K.h] 330)
  obtain ⟨Q, hQ⟩ : ∃ Q, Q = w.heap.size := ⟨_, rfl⟩
  rw [← hQ] at hA
  have HA := Lib.hid hA; have HJ := Lib.hid hj; have HQ := Lib.hid hQ; have HOK := Lib.hid ok; have HL := Lib.hid hl
  clear h hj hA hQ ok hl
  go_enter Tryz.func176, Tryz.ntmps176
  go_wp2_with fail
  refine wp_scope_two rfl rfl ?_
  go_upto_region 3 with (fail)
  rw [← HQ.out]
  generalize w.alloc (.cells #[.bool K.l, .bool K.q, .int .i64 K.h] 330) = w1 at *
  clear c0 c2 c3 c4
  have c0 := HA.out.b0
  rw [HL.out] at c0
  obtain ⟨kl, kq, kh, kn⟩ := HOK.out.con (by rw [HL.out]; omega) (by rw [HL.out]; omega)
  have hput : S1.putU K.l K.q K.h = K.w := by rw [kl, kq, kh]; exact (word_put kn).1
  have hish : S1.isHead K.h := by rw [kh]; exact S1.head_is _
  have hl1 := HA.out.last HJ.out
  have g0 := cell_row hl1 0; have g1 := cell_row hl1 1; have g2 := cell_row hl1 2; have fz1 := froz_row hl1 1
  simp only [List.getElem?_toArray, List.getElem?_cons_zero, List.getElem?_cons_succ] at g0 g1 g2
  have h2 := HA.out.turnLast HJ.out (.cells #[.bool K.l, .bool true, .int .i64 K.h] 330) (set_blk hl1 1 (.bool true) _ (by simp)) ((Turns.refl (fun k => k = Q) w1).setCell ⟨Q, 1, none⟩ _ rfl)
  have H2 := Lib.hid h2
  clear h2 hl1
  go_upto_region 15 with (fail)
  generalize w1.setCell ⟨Q, 1, none⟩ (.bool true) = w2 at *
  clear g0 g1 g2 fz1 c0
  have hl1 := H2.out.last HJ.out
  have g0 := cell_row hl1 0; have g1 := cell_row hl1 1; have g2 := cell_row hl1 2
  simp only [List.getElem?_toArray, List.getElem?_cons_zero, List.getElem?_cons_succ] at g0 g1 g2
  clear hl1
  obtain ⟨x, hx⟩ : ∃ x, x = S2.look M.L K.a := ⟨_, rfl⟩
  have hsw : Calls Tryz.prog 202 #[Pw B, Pw WB, .agg #[.bool K.l, .bool true, .int .i64 K.h]] w2 fun e w' => e = .returned (.bool (decide (x = K.w))) ∧ ∃ X', Wf w0 w' base WB (M.acc 3 K.a (S2.casV x K.w (wq K.w true))) (r ++ [blockP Q (.cells #[.bool K.l, .bool true, .int .i64 K.h] 330)]) j B (K.cas x K.w K.l true K.h) X' := by
    have hs := swapped_f H2.out HOK.out.a HOK.out.n hish hput (l2 := K.l) (q2 := true) (h2 := K.h) hish
    rw [show S1.putU K.l true K.h = wq K.w true from by rw [kl, kh]; rfl, ← hx] at hs
    exact hs
  obtain ⟨M1, hM1⟩ : ∃ M1, M1 = M.acc 3 K.a (S2.casV x K.w (wq K.w true)) := ⟨_, rfl⟩
  rw [← hM1] at hsw
  have HM1 := Lib.hid hM1; have HX := Lib.hid hx
  have HCON := Lib.hid (And.intro kl (And.intro kq (And.intro kh kn)))
  have hlk : M1.lk = M.lk := by rw [hM1]; rfl
  have HLK := Lib.hid hlk
  clear hM1 hput hish kl kq kh kn hlk
  by_cases e : x = K.w
  · have hsw2 := hsw
    rw [decide_eq_true e, show K.cas x K.w K.l true K.h = { K with l := K.l, q := true, h := K.h } from if_pos e] at hsw2
    have HSW := Lib.hid hsw2; have HE := Lib.hid e
    clear hsw hsw2 hx e
    have hu : ({ K with l := K.l, q := true, h := K.h, w := wq K.w true } : Fr).l = S1.bitB (wq K.w true) 0 ∧ ({ K with l := K.l, q := true, h := K.h, w := wq K.w true } : Fr).h = S1.headN (wq K.w true) := ⟨by rw [(wq_says K.w true).1]; exact HCON.out.1, by rw [(wq_says K.w true).2.2]; exact HCON.out.2.2.1⟩
    have HU := Lib.hid hu
    have hsb : ∀ e w', SeekF w0 base WB M1 (r ++ [blockP Q (.cells #[.bool K.l, .bool true, .int .i64 K.h] 330)]) j B { K with l := K.l, q := true, h := K.h, w := wq K.w true } (wq K.w true) e w' → Behind w0 base WB M r j B K e w' := fun e w' h => by
      obtain ⟨rfl, X', h⟩ := h
      unfold Behind
      rw [show fstepM M K = _ from by simp only [fstepM, HL.out]; rfl, show fstepK M K = _ from by simp only [fstepK, HL.out]; rfl, ← HX.out, if_pos HE.out, if_pos HE.out, ← HM1.out]
      rw [HLK.out] at h ⊢
      exact ⟨rfl, X', h.dropB HJ.out⟩
    have HSB := Lib.hid hsb
    clear hu hsb
    go_wp2_with (go_at_call 202; refine HSW.out.mono ?_; rintro e w5 ⟨rfl, X5, h5⟩; have H5 := Lib.hid h5; clear h5)
    have H6' := Lib.hid (H5.out.recast { K with l := K.l, q := true, h := K.h, w := wq K.w true } rfl)
    clear H5
    go_step3
    refine Or.inr ⟨rfl, ?_⟩
    show Code.wp _ _ _ _ _
    obtain ⟨lv, hlv⟩ : ∃ b, b = S1.bitB (wq K.w true) 0 := ⟨_, rfl⟩
    obtain ⟨hv, hhv⟩ : ∃ b, b = S1.headN (wq K.w true) := ⟨_, rfl⟩
    obtain ⟨n2, hn2⟩ : ∃ n, n = (S5.seekO (M1).lk (hdO (wq K.w true))).2 := ⟨_, rfl⟩
    obtain ⟨S2, hS2⟩ : ∃ S, S = (S5.seekO (M1).lk (hdO (wq K.w true))).1 := ⟨_, rfl⟩
    have hle := seekO_le (S := (M1).lk) (fun i => pg_le H6'.out.pg i) (wq K.w true)
    rw [← hn2, ← hS2] at hle
    have hsk : Calls Tryz.prog 205 #[Pw X5.lB, .int .i64 hv] w5.drew fun e w' => e = .returned (.int .i64 ((n2 : Int) - 1)) ∧ ∃ X', Pg w0 w' base WB ((M1).link S2) ((r ++ [blockP Q (.cells #[.bool K.l, .bool true, .int .i64 K.h] 330)]).set j (freeP B ({ K with l := K.l, q := true, h := K.h, w := wq K.w true }))) X' ∧ X'.lB = X5.lB := by
      rw [hn2, hS2, hhv]
      exact pg_seek (H6'.out.new (Below.refl _ _).drew).pg (num_head (wq K.w true))
    have HSK := Lib.hid hsk
    have HLV := Lib.hid hlv; have HHV := Lib.hid hhv; have HN2 := Lib.hid hn2; have HS2 := Lib.hid hS2; have HLE := Lib.hid hle
    have e2 := H6'.out.b2; have e4 := H6'.out.b4; have e3 := H6'.out.pg.c.2.2.1; have e5 := H6'.out.b5
    rw [HU.out.1, ← hlv] at e2
    rw [HU.out.2, ← hhv] at e4
    clear hlv hhv hn2 hS2 hle hsk
    have HX9 := Lib.hid (And.intro e3 e4)
    go_upto_region 29 with (fail)
    refine wp_region_held_drew (S := fun w' => w'.cell? ⟨WB, 3, none⟩ = some (Pw X5.lB) ∧ w'.cell? ⟨B, 4, none⟩ = some (.int .i64 hv)) (by kernel_rfl) ?_ (fun hHeld => ?_)
    · exact HX9.out
    refine wpAnyH_take (i := 0) (oi := ({ dst := some 96, op := Op.move (Operand.tmp 5), type := 359, pos := "wordfrees.go:106", after := #[], guard := none } : Oper)) (v := ?vsm1) rfl (by kernel_rfl) (by kernel_rfl) (by kernel_rfl) (fun _ _ _ h => h) (Or.inl ⟨by rfl, fun w hSw => ?hysm1⟩) (by assumption) ?rsm1
    case hysm1 => (try dsimp only at hSw); go_simp; (try with_reducible rfl)
    (try simp only [Act.put, List.setIfInBounds_toArray, List.set_cons_zero, List.set_cons_succ])
    refine wpAnyH_take (i := 1) (oi := ({ dst := some 97, op := Op.move (Operand.tmp 1), type := 24, pos := "wordfrees.go:106", after := #[], guard := none } : Oper)) (v := ?vsm2) rfl (by kernel_rfl) (by kernel_rfl) (by kernel_rfl) (fun _ _ _ h => h) (Or.inl ⟨by rfl, fun w hSw => ?hysm2⟩) (by assumption) ?rsm2
    case hysm2 => (try dsimp only at hSw); go_simp; (try with_reducible rfl)
    (try simp only [Act.put, List.setIfInBounds_toArray, List.set_cons_zero, List.set_cons_succ])
    refine wpAnyH_take (i := 2) (oi := ({ dst := some 98, op := Op.nilCheck (Operand.tmp 97), type := 0, pos := "wordfrees.go:106", after := #[{ on := 1, ground := Ground.data }], guard := none } : Oper)) (v := ?vsm3) rfl (by kernel_rfl) (by kernel_rfl) (by kernel_rfl) (fun _ _ _ h => h) (Or.inl ⟨by rfl, fun w hSw => ?hysm3⟩) (by assumption) ?rsm3
    case hysm3 => (try dsimp only at hSw); go_simp; (try with_reducible rfl)
    (try simp only [Act.put, List.setIfInBounds_toArray, List.set_cons_zero, List.set_cons_succ])
    refine wpAnyH_take (i := 3) (oi := ({ dst := some 99, op := Op.fieldAddr 47 (Operand.tmp 98) 3, type := 0, pos := "wordfrees.go:106", after := #[{ on := 2, ground := Ground.data }], guard := none } : Oper)) (v := ?vsm4) rfl (by kernel_rfl) (by kernel_rfl) (by kernel_rfl) (fun _ _ _ h => h) (Or.inl ⟨by rfl, fun w hSw => ?hysm4⟩) (by assumption) ?rsm4
    case hysm4 => (try dsimp only at hSw); go_simp; (try with_reducible rfl)
    (try simp only [Act.put, List.setIfInBounds_toArray, List.set_cons_zero, List.set_cons_succ])
    refine wpAnyH_take (i := 4) (oi := ({ dst := some 100, op := Op.load 42 (Operand.tmp 99), type := 42, pos := "wordfrees.go:106", after := #[{ on := 3, ground := Ground.data }], guard := none } : Oper)) (v := ?vsm5) rfl (by kernel_rfl) (by kernel_rfl) (by kernel_rfl) (fun _ _ _ h => h) (Or.inl ⟨by rfl, fun w hSw => ?hysm5⟩) (by assumption) ?rsm5
    case hysm5 => (try dsimp only at hSw); go_simp; (try with_reducible rfl)
    (try simp only [Act.put, List.setIfInBounds_toArray, List.set_cons_zero, List.set_cons_succ])
    refine wpAnyH_take (i := 5) (oi := ({ dst := some 101, op := Op.move (Operand.tmp 5), type := 359, pos := "wordfrees.go:106", after := #[], guard := none } : Oper)) (v := ?vsm6) rfl (by kernel_rfl) (by kernel_rfl) (by kernel_rfl) (fun _ _ _ h => h) (Or.inl ⟨by rfl, fun w hSw => ?hysm6⟩) (by assumption) ?rsm6
    case hysm6 => (try dsimp only at hSw); go_simp; (try with_reducible rfl)
    (try simp only [Act.put, List.setIfInBounds_toArray, List.set_cons_zero, List.set_cons_succ])
    refine wpAnyH_take (i := 6) (oi := ({ dst := some 102, op := Op.nilCheck (Operand.tmp 101), type := 0, pos := "wordfrees.go:106", after := #[{ on := 5, ground := Ground.data }], guard := none } : Oper)) (v := ?vsm7) rfl (by kernel_rfl) (by kernel_rfl) (by kernel_rfl) (fun _ _ _ h => h) (Or.inl ⟨by rfl, fun w hSw => ?hysm7⟩) (by assumption) ?rsm7
    case hysm7 => (try dsimp only at hSw); go_simp; (try with_reducible rfl)
    (try simp only [Act.put, List.setIfInBounds_toArray, List.set_cons_zero, List.set_cons_succ])
    refine wpAnyH_take (i := 7) (oi := ({ dst := some 103, op := Op.fieldAddr 332 (Operand.tmp 102) 0, type := 0, pos := "wordfrees.go:106", after := #[{ on := 6, ground := Ground.data }], guard := none } : Oper)) (v := ?vsm8) rfl (by kernel_rfl) (by kernel_rfl) (by kernel_rfl) (fun _ _ _ h => h) (Or.inl ⟨by rfl, fun w hSw => ?hysm8⟩) (by assumption) ?rsm8
    case hysm8 => (try dsimp only at hSw); go_simp; (try with_reducible rfl)
    (try simp only [Act.put, List.setIfInBounds_toArray, List.set_cons_zero, List.set_cons_succ])
    refine wpAnyH_take (i := 8) (oi := ({ dst := some 104, op := Op.fieldAddr 330 (Operand.tmp 103) 2, type := 0, pos := "wordfrees.go:106", after := #[{ on := 7, ground := Ground.data }], guard := none } : Oper)) (v := ?vsm9) rfl (by kernel_rfl) (by kernel_rfl) (by kernel_rfl) (fun _ _ _ h => h) (Or.inl ⟨by rfl, fun w hSw => ?hysm9⟩) (by assumption) ?rsm9
    case hysm9 => (try dsimp only at hSw); go_simp; (try with_reducible rfl)
    (try simp only [Act.put, List.setIfInBounds_toArray, List.set_cons_zero, List.set_cons_succ])
    refine wpAnyH_take (i := 9) (oi := ({ dst := some 105, op := Op.load 3 (Operand.tmp 104), type := 3, pos := "wordfrees.go:106", after := #[{ on := 8, ground := Ground.data }], guard := none } : Oper)) (v := ?vsm10) rfl (by kernel_rfl) (by kernel_rfl) (by kernel_rfl) (fun _ _ _ h => h) (Or.inl ⟨by rfl, fun w hSw => ?hysm10⟩) (by assumption) ?rsm10
    case hysm10 => (try dsimp only at hSw); go_simp; (try with_reducible rfl)
    (try simp only [Act.put, List.setIfInBounds_toArray, List.set_cons_zero, List.set_cons_succ])
    refine wpAnyH_ready (rs := [10]) (by kernel_rfl) (by simp) ?_
    refine AllReadyH.cons (o := ({ dst := some 106, op := Op.call { callee := Callee.value (Operand.func 205), args := #[Operand.tmp 100, Operand.tmp 105], argTypes := #[42, 3] }, type := 3, pos := "wordfrees.go:106", after := #[{ on := 4, ground := Ground.data }, { on := 9, ground := Ground.data }], guard := none } : Oper)) rfl (fun Kq hKq => ?_) AllReadyH.nil
    go_simp
    (refine HSK.out.mono ?_; rintro e w6 ⟨rfl, X6, h6g, hlb6⟩; have H6 := Lib.hid (show Wf w0 w6 base WB ((M1).link S2) (r ++ [blockP Q (.cells #[.bool K.l, .bool true, .int .i64 K.h] 330)]) j B ({ K with l := K.l, q := true, h := K.h, w := wq K.w true }) X6 from ⟨h6g, H6'.out.hj⟩); have HLB := Lib.hid hlb6; clear h6g hlb6)
    refine hKq.out _ _ ?_ (fun hHeld => ?_)
    · (have q3 := H6.out.pg.c.2.2.1; have q4 := H6.out.b4; rw [HLB.out] at q3; refine ⟨q3, ?_⟩; rw [HHV.out, ← HU.out.2]; exact q4)
    clear hKq Kq
    (try simp only [Act.put, List.setIfInBounds_toArray, List.set_cons_zero, List.set_cons_succ])
    refine wpAnyH_take (i := 11) (oi := ({ dst := some 107, op := Op.nilCheck (Operand.tmp 96), type := 0, pos := "wordfrees.go:106", after := #[{ on := 0, ground := Ground.data }, { on := 0, ground := Ground.phase }, { on := 1, ground := Ground.phase }, { on := 2, ground := Ground.phase }, { on := 3, ground := Ground.phase }, { on := 4, ground := Ground.phase }, { on := 5, ground := Ground.phase }, { on := 6, ground := Ground.phase }, { on := 7, ground := Ground.phase }, { on := 8, ground := Ground.phase }, { on := 9, ground := Ground.phase }, { on := 10, ground := Ground.phase }], guard := none } : Oper)) (v := ?vsm11) rfl (by kernel_rfl) (by kernel_rfl) (by kernel_rfl) (fun _ _ _ h => h) (Or.inl ⟨by rfl, fun w hSw => ?hysm11⟩) (by assumption) ?rsm11
    case hysm11 => (try dsimp only at hSw); go_simp; (try with_reducible rfl)
    (try simp only [Act.put, List.setIfInBounds_toArray, List.set_cons_zero, List.set_cons_succ])
    refine wpAnyH_take (i := 12) (oi := ({ dst := some 108, op := Op.fieldAddr 332 (Operand.tmp 107) 1, type := 0, pos := "wordfrees.go:106", after := #[{ on := 11, ground := Ground.data }, { on := 0, ground := Ground.phase }, { on := 1, ground := Ground.phase }, { on := 2, ground := Ground.phase }, { on := 3, ground := Ground.phase }, { on := 4, ground := Ground.phase }, { on := 5, ground := Ground.phase }, { on := 6, ground := Ground.phase }, { on := 7, ground := Ground.phase }, { on := 8, ground := Ground.phase }, { on := 9, ground := Ground.phase }, { on := 10, ground := Ground.phase }], guard := none } : Oper)) (v := ?vsm12) rfl (by kernel_rfl) (by kernel_rfl) (by kernel_rfl) (fun _ _ _ h => h) (Or.inl ⟨by rfl, fun w hSw => ?hysm12⟩) (by assumption) ?rsm12
    case hysm12 => (try dsimp only at hSw); go_simp; (try with_reducible rfl)
    (try simp only [Act.put, List.setIfInBounds_toArray, List.set_cons_zero, List.set_cons_succ])
    refine wpAnyH_ready (rs := [13]) (by kernel_rfl) (by simp) ?_
    refine AllReadyH.cons (o := ({ dst := none, op := Op.store 3 (Operand.tmp 108) (Operand.tmp 106), type := 0, pos := "wordfrees.go:106", after := #[{ on := 12, ground := Ground.data }, { on := 10, ground := Ground.data }, { on := 10, ground := Ground.chain }, { on := 0, ground := Ground.phase }, { on := 1, ground := Ground.phase }, { on := 2, ground := Ground.phase }, { on := 3, ground := Ground.phase }, { on := 4, ground := Ground.phase }, { on := 5, ground := Ground.phase }, { on := 6, ground := Ground.phase }, { on := 7, ground := Ground.phase }, { on := 8, ground := Ground.phase }, { on := 9, ground := Ground.phase }, { on := 10, ground := Ground.phase }], guard := none } : Oper)) rfl (fun Kq hKq => ?_) AllReadyH.nil
    (have y5 := H6.out.b5; have f5 := H6.out.fz 5; go_simp; have h7 := H6.out.tail ((n2 : Int) - 1); have H7 := Lib.hid h7; clear y5 f5 h7; generalize w6.setCell ⟨B, 5, none⟩ (.int .i64 ((n2 : Int) - 1)) = w7 at *)
    refine hKq.out _ _ ?_ (fun hHeld => ?_)
    · (have q3 := H7.out.pg.c.2.2.1; have q4 := H7.out.b4; rw [HLB.out] at q3; refine ⟨q3, ?_⟩; rw [HHV.out, ← HU.out.2]; exact q4)
    clear hKq Kq
    (try simp only [Act.put, List.setIfInBounds_toArray, List.set_cons_zero, List.set_cons_succ])
    refine wpAnyH_done (by kernel_rfl) ?_ _
    clear hHeld e2 e3 e4 e5 HSK
    have e5 := H7.out.b5; have e2 := H7.out.b2; have e4 := H7.out.b4; have e3 := H7.out.pg.c.2.2.1
    replace e2 : w7.cell? ⟨B, 2, none⟩ = some (.bool lv) := by rw [HLV.out, ← HU.out.1]; exact e2
    replace e4 : w7.cell? ⟨B, 4, none⟩ = some (.int .i64 hv) := by rw [HHV.out, ← HU.out.2]; exact e4
    have hleaf : ∀ (W : World) (S : S5.Lk) (t : Int) (n : Nat), (S, t, n) = seekL (M1).lk (wq K.w true) → (∃ X', Wf w0 W base WB ((M1).link S) (r ++ [blockP Q (.cells #[.bool K.l, .bool true, .int .i64 K.h] 330)]) j B { ({ K with l := K.l, q := true, h := K.h, w := wq K.w true } : Fr) with t := t } X') → Behind w0 base WB M r j B K (.returned (.int .u8 (n : Int))) W := fun W S t n hs ⟨X', hx⟩ => by
      refine HSB.out _ _ ⟨?_, X', ?_⟩
      · rw [← hs]
      · rw [← hs]; exact hx
    have HLF := Lib.hid hleaf
    clear hleaf
    cases n2 with
    | zero =>
      have e6 : w7.cell? ⟨B, 5, none⟩ = some (.int .i64 (-1)) := e5
      have hq : (S2, (-1 : Int), 0) = seekL (M1).lk (wq K.w true) := by unfold seekL; rw [if_pos HN2.out.symm, ← HS2.out]
      have HFIN := Lib.hid (HLF.out w7 _ _ _ hq ⟨X6, H7.out⟩)
      clear e5 hq HLF
      go_wp2_with fail
      (try simp only [Exit.noGoto])
      go_ret
      exact HFIN.out
    | succ m =>
      have em : ((m + 1 : Nat) : Int) - 1 = (m : Int) := by omega
      have hm := HLE.out.1
      rw [em] at e5
      have hne : ((m : Int) == -1) = false := by rw [beq_eq_false_iff_ne]; omega
      have hn0 : ¬ (S5.seekO (M1).lk (hdO (wq K.w true))).2 = 0 := by rw [← HN2.out]; omega
      have htl : (((S5.seekO (M1).lk (hdO (wq K.w true))).2 : Int) - 1) = (m : Int) := by rw [← HN2.out]; omega
      have hpr : (S5.seekO (M1).lk (hdO (wq K.w true))).2 - 1 = m := by rw [← HN2.out]; omega
      have h8 := H7.out
      rw [em] at h8
      have H8 := Lib.hid h8; have HM := Lib.hid (show m < 64 by omega); have HEQ := Lib.hid (And.intro hn0 (And.intro htl hpr))
      clear em hm hn0 htl hpr h8 H7
      cases lv with
      | true =>
        have hq : (S2, (m : Int), 4) = seekL (M1).lk (wq K.w true) := by unfold seekL; rw [if_neg HEQ.out.1, if_pos HLV.out.symm, HEQ.out.2.1, ← HS2.out]
        have HFIN := Lib.hid (HLF.out w7 _ _ _ hq ⟨X6, H8.out⟩)
        clear hq HLF
        go_wp2_with fail
        (try simp only [Exit.noGoto])
        go_ret
        exact HFIN.out
      | false =>
        obtain ⟨y0, y1, y2, hat0⟩ : ∃ y0 y1 y2 : Int, (Calls Tryz.prog 67 #[Pw X6.lB, .int .i64 (m : Int)] w7.drew fun e w' => e = .returned (.agg #[.int .i64 y0, .int .i64 y1, .int .i64 y2]) ∧ Below w7.drew.heap.size w7.drew w') ∧ y1 = (S2 (m * 3 + 1) : Int) - 1 := ⟨_, _, _, pg_at (H8.out.new (Below.refl _ _).drew).pg HM.out, rfl⟩
        have HAT := Lib.hid hat0.1; have HY1 := Lib.hid hat0.2
        have hfd : ∀ w : World, (Instr.field 172 (.agg #[.int .i64 y0, .int .i64 y1, .int .i64 y2]) 1).run Tryz.prog w = .ok (.int .i64 y1) w := fun w => field_prev _ _ _ w
        clear hat0
        by_cases hp : S2 (m * 3 + 1) = 0
        · have hy : y1 = -1 := by rw [HY1.out, hp]; rfl
          subst hy
          have hq : (S2, (m : Int), 5) = seekL (M1).lk (wq K.w true) := by unfold seekL; rw [if_neg HEQ.out.1, if_neg (by rw [← HLV.out]; decide), HEQ.out.2.2, HEQ.out.2.1, ← HS2.out, if_pos hp]
          have HFIN := Lib.hid (fun W (b : Below w7.heap.size w7 W) => HLF.out W _ _ _ hq ⟨X6, H8.out.new b⟩)
          clear hq HLF hp
          go_upto_region 34 with (fail)
          go_still_tail 8, (by kernel_rfl)
          change wpList _ _ _ _ _ w7.drew
          go_wp2_with (go_at_call 67; refine HAT.out.mono ?_; rintro e w8 ⟨rfl, hb8⟩; have HB8 := Lib.hid hb8; clear hb8)
          (try simp only [Exit.noGoto])
          go_ret
          exact HFIN.out _ (Below.trans (Below.refl _ _).drew HB8.out)
        · have hy : (y1 == -1) = false := by rw [HY1.out, beq_eq_false_iff_ne]; omega
          have hq : ((S5.cutO S2 (hdO (wq K.w true)) (some m)).1, (m : Int), 6) = seekL (M1).lk (wq K.w true) := by unfold seekL; rw [if_neg HEQ.out.1, if_neg (by rw [← HLV.out]; decide), HEQ.out.2.2, HEQ.out.2.1, ← HS2.out, if_neg hp]
          have HFIN := Lib.hid (fun W => HLF.out W _ _ _ hq)
          clear hq HLF hp
          go_upto_region 34 with (fail)
          go_still_tail 8, (by kernel_rfl)
          change wpList _ _ _ _ _ w7.drew
          go_upto_region 36 with (go_at_call 67; refine HAT.out.mono ?_; rintro e w8 ⟨rfl, hb8⟩; have H9 := Lib.hid (H8.out.new ((Below.refl _ _).drew.trans hb8)); clear hb8)
          clear e2 e3 e4 e5
          have e5 := H9.out.b5; have e4 := H9.out.b4; have e3 := H9.out.pg.c.2.2.1
          replace e4 : w8.cell? ⟨B, 4, none⟩ = some (.int .i64 hv) := by rw [HHV.out, ← HU.out.2]; exact e4
          have hct : Calls Tryz.prog 206 #[Pw X6.lB, .int .i64 hv, .int .i64 (m : Int)] w8.drew fun e w' => (∃ v, e = .returned (.int .i64 v)) ∧ ∃ X', Pg w0 w' base WB (((M1).link S2).link (S5.cutO S2 (hdO (wq K.w true)) (some m)).1) ((r ++ [blockP Q (.cells #[.bool K.l, .bool true, .int .i64 K.h] 330)]).set j (freeP B { ({ K with l := K.l, q := true, h := K.h, w := wq K.w true } : Fr) with t := (m : Int) })) X' ∧ X'.lB = X6.lB := by
            rw [HHV.out]
            exact (pg_cut (H9.out.new (Below.refl _ _).drew).pg (num_head (wq K.w true)) (show S5.Num (m : Int) (some m) from ⟨rfl, HM.out⟩)).mono (fun e w' h => ⟨⟨_, h.1⟩, h.2⟩)
          have HCT := Lib.hid hct
          clear hct
          go_still_tail 13, (by kernel_rfl)
          change wpList _ _ _ _ _ w8.drew
          go_wp2_with (go_at_call 206; refine HCT.out.mono ?_; rintro e w9 ⟨⟨cv, rfl⟩, X9, h9, hlb9⟩; have H10 := Lib.hid h9; clear h9 hlb9)
          (try simp only [Exit.noGoto])
          go_ret
          exact HFIN.out _ ⟨X9, H10.out, H9.out.hj⟩
  · have hsw2 := hsw
    rw [decide_eq_false e, show K.cas x K.w K.l true K.h = { K with l := S1.bitB x 0, q := S1.bitB x 1, h := S1.headN x } from if_neg e] at hsw2
    have HSW := Lib.hid hsw2; have HE := Lib.hid e
    clear hsw hsw2 hx e
    go_wp2_with (go_at_call 202; refine HSW.out.mono ?_; rintro e w5 ⟨rfl, X5, h5⟩; have H5 := Lib.hid h5; clear h5)
    have h6 := H5.out.recast (K.says x) rfl
    have H6 := Lib.hid h6
    have z3 := h6.b3; have z4 := h6.b4
    clear h6 H5
    have HDN := Lib.hid (done_f (w := w5) (S1.bitB x 1) (S1.headN x) z3 z4)
    have HID := Lib.hid (show idle x = (S1.bitB x 1 || decide (S1.headN x = -1)) from rfl)
    have hfin : Behind w0 base WB M r j B K (.returned (.int .u8 ((if idle x = true then 0 else 3 : Nat) : Int))) w5 := by
      unfold Behind
      rw [show fstepM M K = _ from by simp only [fstepM, HL.out]; rfl, show fstepK M K = _ from by simp only [fstepK, HL.out]; rfl, ← HX.out, if_neg HE.out, if_neg HE.out, ← HM1.out]
      exact ⟨rfl, X5, H6.out.dropB HJ.out⟩
    have HF := Lib.hid hfin
    clear hfin z3 z4
    obtain ⟨id, hid⟩ : ∃ id, id = idle x := ⟨_, rfl⟩
    rw [← HID.out] at HDN
    rw [← hid] at HDN HF
    clear hid HID
    go_step3
    refine Or.inl ⟨rfl, ?_⟩
    show Code.wp _ _ _ _ _
    cases id with
    | true =>
      rw [if_pos rfl] at HF
      go_wp2_with (go_at_call 200; refine HDN.out.mono ?_; rintro e w6 ⟨rfl, rfl⟩)
      (try simp only [Exit.noGoto])
      go_ret
      exact HF.out
    | false =>
      rw [if_neg (by decide)] at HF
      go_wp2_with (go_at_call 200; refine HDN.out.mono ?_; rintro e w6 ⟨rfl, rfl⟩)
      (try simp only [Exit.noGoto])
      go_ret
      exact HF.out
end
end Go.Proofs.YtjppncglkijbjaaGreatDoor.S14
