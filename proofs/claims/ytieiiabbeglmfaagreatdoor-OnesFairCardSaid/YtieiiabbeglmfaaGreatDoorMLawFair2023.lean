/- Texts of this seat, one behind the other. -/
import Derived.Test.YtieiiabbeglmfaaGreatDoorMLawFair201
import Derived.Test.YtieiiabbeglmfaaGreatDoorMLawFair2022
set_option linter.unusedVariables false
set_option linter.unusedSimpArgs false
set_option linter.unusedVariables false
set_option linter.unusedSimpArgs false
namespace Go.Proofs.YtieiiabbeglmfaaGreatDoor.S14
set_option maxRecDepth 100000
set_option maxHeartbeats 16000000
open Go.Proofs.YtieiiabbeglmfaaGreatDoor Go.Proofs.YtieiiabbeglmfaaGreatDoor.S11 Go.Proofs.YtieiiabbeglmfaaGreatDoor.S12 Go.Proofs.YtieiiabbeglmfaaGreatDoor.S13
open Go.RowKit
section
variable {w0 w w' : World} {base WB : Nat} {M : Sd} {r : List Part} {j B : Nat} {K : Fr} {X : Wm}
theorem beh2 (h : Wf w0 w base WB M r j B K X) (ok : FrOk M K) (hl : K.ln = 2) : Calls Tryz.prog 183 #[Pw B, Pw WB] w (Behind w0 base WB M r j B K) := by
  have hj := h.hj
  have c0 := h.b0
  rw [hl] at c0
  have c2 := h.b2; have c3 := h.b3; have c4 := h.b4
  have hA := h.pushB (.cells #[.bool K.l, .bool K.q, .int .i64 K.h] 339)
  obtain ⟨Q, hQ⟩ : ∃ Q, Q = w.heap.size := ⟨_, rfl⟩
  rw [← hQ] at hA
  have HA := Lib.hid hA; have HJ := Lib.hid hj; have HQ := Lib.hid hQ; have HOK := Lib.hid ok; have HL := Lib.hid hl
  clear h hj hA hQ ok hl
  go_enter Tryz.func183, Tryz.ntmps183
  go_wp2_with fail
  refine wp_scope_two rfl rfl ?_
  go_upto_region 3 with (fail)
  rw [← HQ.out]
  generalize w.alloc (.cells #[.bool K.l, .bool K.q, .int .i64 K.h] 339) = w1 at *
  clear c0 c2 c3 c4
  have c0 := HA.out.b0
  rw [HL.out] at c0
  obtain ⟨x, hx⟩ : ∃ x, x = S2.look M.L K.a := ⟨_, rfl⟩
  have hxl : x < 18446744073709551616 := by rw [hx]; exact HA.out.look K.a
  have HAS := Lib.hid (fun W => S1.as_any x hxl W)
  have had : Calls Tryz.prog 207 #[Pw X.cB, .int .u32 (K.a : Int)] w1.drew fun e w' => e = .returned (.int .u64 (x : Int)) ∧ ∃ X', Pg w0 w' base WB (M.acc 1 K.a (S2.look M.L K.a)) ((r ++ [blockP Q (.cells #[.bool K.l, .bool K.q, .int .i64 K.h] 339)]).set j (freeP B K)) X' ∧ X'.cB = X.cB := by
    rw [hx]
    exact (HA.out.new (Below.refl _ _).drew).pg.load HOK.out.a HOK.out.n
  have HAD := Lib.hid had
  have HX := Lib.hid hx
  unfold S1.asV at HAS
  obtain ⟨b0, hb0⟩ : ∃ b, b = S1.bitB x 0 := ⟨_, rfl⟩
  obtain ⟨b1, hb1⟩ : ∃ b, b = S1.bitB x 1 := ⟨_, rfl⟩
  obtain ⟨hd, hhd⟩ : ∃ b, b = S1.headN x := ⟨_, rfl⟩
  rw [← hb0, ← hb1, ← hhd] at HAS
  have HB := Lib.hid (And.intro hb0 (And.intro hb1 hhd))
  have HX0 := Lib.hid HA.out.cells
  clear had hx hxl hb0 hb1 hhd
  go_upto_region 12 with (fail)
  clear c0
  refine wp_region_held_drew (S := fun w' => w'.cell? ⟨WB, 0, none⟩ = some (Pw X.cB) ∧ w'.cell? ⟨B, 1, none⟩ = some (.int .u32 (K.a : Int))) (by kernel_rfl) ?_ (fun hHeld => ?_)
  · exact HX0.out
  refine tA 0 ⟨some 47, .move (.tmp 5), 368, "wordfrees.go:74", #[], none⟩ ?va2m1 ?ra2m1
  (try simp only [Act.put, tC, tD, tE])
  refine tA 1 ⟨some 48, .move (.tmp 1), 24, "wordfrees.go:74", #[], none⟩ ?va2m2 ?ra2m2
  (try simp only [Act.put, tC, tD, tE])
  refine tA 2 ⟨some 49, .nilCheck (.tmp 48), 0, "wordfrees.go:74", #[⟨1, .data⟩], none⟩ ?va2m3 ?ra2m3
  (try simp only [Act.put, tC, tD, tE])
  refine tA 3 ⟨some 50, .fieldAddr 47 (.tmp 49) 0, 0, "wordfrees.go:74", #[⟨2, .data⟩], none⟩ ?va2m4 ?ra2m4
  (try simp only [Act.put, tC, tD, tE])
  refine tA 4 ⟨some 51, .load 39 (.tmp 50), 39, "wordfrees.go:74", #[⟨3, .data⟩], none⟩ ?va2m5 ?ra2m5
  (try simp only [Act.put, tC, tD, tE])
  refine tA 5 ⟨some 52, .move (.tmp 0), 73, "wordfrees.go:74", #[], none⟩ ?va2m6 ?ra2m6
  (try simp only [Act.put, tC, tD, tE])
  refine tA 6 ⟨some 53, .nilCheck (.tmp 52), 0, "wordfrees.go:74", #[⟨5, .data⟩], none⟩ ?va2m7 ?ra2m7
  (try simp only [Act.put, tC, tD, tE])
  refine tA 7 ⟨some 54, .fieldAddr 343 (.tmp 53) 1, 0, "wordfrees.go:74", #[⟨6, .data⟩], none⟩ ?va2m8 ?ra2m8
  (try simp only [Act.put, tC, tD, tE])
  refine tA 8 ⟨some 55, .load 35 (.tmp 54), 35, "wordfrees.go:74", #[⟨7, .data⟩], none⟩ ?va2m9 ?ra2m9
  (try simp only [Act.put, tC, tD, tE])
  refine wpAnyH_ready (rs := [9]) (by kernel_rfl) (by simp) ?_
  refine AllReadyH.cons (o := ⟨some 56, .call ⟨.value (.func 207), #[.tmp 51, .tmp 55], #[39, 35]⟩, 23, "wordfrees.go:74", #[⟨4, .data⟩, ⟨8, .data⟩], none⟩) rfl (fun Kq hKq => ?_) AllReadyH.nil
  go_simp
  (refine HAD.out.mono ?_; rintro e w3 ⟨rfl, X3, h3g, hcb3⟩; have H3 := Lib.hid (show Wf w0 w3 base WB (M.acc 1 K.a (S2.look M.L K.a)) (r ++ [blockP Q (.cells #[.bool K.l, .bool K.q, .int .i64 K.h] 339)]) j B K X3 from ⟨h3g, HA.out.hj⟩); have HCB := Lib.hid hcb3; clear h3g hcb3)
  refine hKq.out _ _ ?_ (fun hHeld => ?_)
  · (have q := H3.out.cells; rw [HCB.out] at q; exact q)
  clear hKq Kq
  (try simp only [Act.put, tC, tD, tE])
  refine wpAnyH_ready (rs := [10]) (by kernel_rfl) (by simp) ?_
  refine AllReadyH.cons (o := ⟨some 57, .call ⟨.value (.func 204), #[.tmp 56], #[23]⟩, 339, "wordfrees.go:74", #[⟨9, .data⟩, ⟨9, .chain⟩], none⟩) rfl (fun Kq hKq => ?_) AllReadyH.nil
  go_simp
  (refine (HAS.out _).mono ?_; rintro e w4 ⟨rfl, hb4⟩; have H4 := Lib.hid (H3.out.new hb4); clear hb4)
  refine hKq.out _ _ ?_ (fun hHeld => ?_)
  · (have q := H4.out.cells; rw [HCB.out] at q; exact q)
  clear hKq Kq
  (try simp only [Act.put, tC, tD, tE])
  refine tA 11 ⟨some 58, .nilCheck (.tmp 47), 0, "wordfrees.go:74", #[⟨0, .data⟩, ⟨0, .phase⟩, ⟨1, .phase⟩, ⟨2, .phase⟩, ⟨3, .phase⟩, ⟨4, .phase⟩, ⟨5, .phase⟩, ⟨6, .phase⟩, ⟨7, .phase⟩, ⟨8, .phase⟩, ⟨9, .phase⟩, ⟨10, .phase⟩], none⟩ ?va2m10 ?ra2m10
  (try simp only [Act.put, tC, tD, tE])
  refine tA 12 ⟨some 59, .fieldAddr 341 (.tmp 58) 0, 0, "wordfrees.go:74", #[⟨11, .data⟩, ⟨0, .phase⟩, ⟨1, .phase⟩, ⟨2, .phase⟩, ⟨3, .phase⟩, ⟨4, .phase⟩, ⟨5, .phase⟩, ⟨6, .phase⟩, ⟨7, .phase⟩, ⟨8, .phase⟩, ⟨9, .phase⟩, ⟨10, .phase⟩], none⟩ ?va2m11 ?ra2m11
  (try simp only [Act.put, tC, tD, tE])
  refine wpAnyH_ready (rs := [13]) (by kernel_rfl) (by simp) ?_
  refine AllReadyH.cons (o := ⟨none, .store 339 (.tmp 59) (.tmp 57), 0, "wordfrees.go:74", #[⟨12, .data⟩, ⟨10, .data⟩, ⟨10, .chain⟩, ⟨0, .phase⟩, ⟨1, .phase⟩, ⟨2, .phase⟩, ⟨3, .phase⟩, ⟨4, .phase⟩, ⟨5, .phase⟩, ⟨6, .phase⟩, ⟨7, .phase⟩, ⟨8, .phase⟩, ⟨9, .phase⟩, ⟨10, .phase⟩], none⟩) rfl (fun Kq hKq => ?_) AllReadyH.nil
  (have y2 := H4.out.b2; have y3 := H4.out.b3; have y4 := H4.out.b4; have f2 := H4.out.fz 2; have f3 := H4.out.fz 3; have f4 := H4.out.fz 4; go_simp; have h5 := H4.out.word b0 b1 hd x; have H5 := Lib.hid h5; clear y2 y3 y4 f2 f3 f4 h5; generalize ((w4.setCell ⟨B, 2, none⟩ (.bool b0)).setCell ⟨B, 3, none⟩ (.bool b1)).setCell ⟨B, 4, none⟩ (.int .i64 hd) = w5 at *)
  refine hKq.out _ _ ?_ (fun hHeld => ?_)
  · (have q := H5.out.cells; rw [HCB.out] at q; exact q)
  clear hKq Kq
  (try simp only [Act.put, tC, tD, tE])
  refine wpAnyH_done (by kernel_rfl) ?_ _
  clear hHeld
  have z3 := H5.out.b3; have z4 := H5.out.b4
  have hid : idle x = (b1 || decide (hd = -1)) := by unfold idle; rw [← HB.out.2.1, ← HB.out.2.2]
  have HDN := Lib.hid (done_f (w := w5) b1 hd z3 z4)
  have HID := Lib.hid hid
  clear hid z3 z4
  have hfin : Behind w0 base WB M r j B K (.returned (.int .u8 ((if idle x = true then 0 else 3 : Nat) : Int))) w5 := by
    unfold Behind
    rw [show fstepM M K = _ from by simp only [fstepM, HL.out]; rfl, show fstepK M K = _ from by simp only [fstepK, HL.out]; rfl, ← HX.out]
    have h6 := H5.out.dropB HJ.out
    rw [← HX.out, HB.out.1, HB.out.2.1, HB.out.2.2] at h6
    exact ⟨rfl, X3, h6⟩
  have HF := Lib.hid hfin
  clear hfin
  go_wp2_with fail
  obtain ⟨id, hid⟩ : ∃ id, id = idle x := ⟨_, rfl⟩
  rw [← HID.out] at HDN
  rw [← hid] at HDN HF
  clear hid HID
  go_step3
  refine Or.inl ⟨rfl, ?_⟩
  show Code.wp _ _ _ _ _
  cases id with
  | true =>
    rw [if_pos rfl] at HF
    go_wp2_with (go_at_call 206; refine HDN.out.mono ?_; rintro e w6 ⟨rfl, rfl⟩)
    (try simp only [Exit.noGoto])
    go_ret
    exact HF.out
  | false =>
    rw [if_neg (by decide)] at HF
    go_wp2_with (go_at_call 206; refine HDN.out.mono ?_; rintro e w6 ⟨rfl, rfl⟩)
    (try simp only [Exit.noGoto])
    go_ret
    exact HF.out
end
end Go.Proofs.YtieiiabbeglmfaaGreatDoor.S14
namespace Go.Proofs.YtieiiabbeglmfaaGreatDoor.S14
set_option maxRecDepth 100000
set_option maxHeartbeats 16000000
open Go.Proofs.YtieiiabbeglmfaaGreatDoor Go.Proofs.YtieiiabbeglmfaaGreatDoor.S11 Go.Proofs.YtieiiabbeglmfaaGreatDoor.S12 Go.Proofs.YtieiiabbeglmfaaGreatDoor.S13
open Go.RowKit
section
variable {w0 w w' : World} {base WB : Nat} {M : Sd} {r : List Part} {j B : Nat} {K : Fr} {X : Wm}
theorem beh3 (h : Wf w0 w base WB M r j B K X) (ok : FrOk M K) (hl : K.ln = 3) : Calls Tryz.prog 183 #[Pw B, Pw WB] w (Behind w0 base WB M r j B K) := by
  have hj := h.hj
  have c0 := h.b0
  rw [hl] at c0
  have c2 := h.b2; have c3 := h.b3; have c4 := h.b4
  have hA := h.pushB (.cells #[.bool K.l, .bool K.q, .int .i64 K.h] 339)
  obtain ⟨Q, hQ⟩ : ∃ Q, Q = w.heap.size := ⟨_, rfl⟩
  rw [← hQ] at hA
  have HA := Lib.hid hA; have HJ := Lib.hid hj; have HQ := Lib.hid hQ; have HOK := Lib.hid ok; have HL := Lib.hid hl
  clear h hj hA hQ ok hl
  go_enter Tryz.func183, Tryz.ntmps183
  go_wp2_with fail
  refine wp_scope_two rfl rfl ?_
  go_upto_region 3 with (fail)
  rw [← HQ.out]
  generalize w.alloc (.cells #[.bool K.l, .bool K.q, .int .i64 K.h] 339) = w1 at *
  clear c0 c2 c3 c4
  have c0 := HA.out.b0
  rw [HL.out] at c0
  obtain ⟨kl, kq, kh, kn⟩ := HOK.out.con (by rw [HL.out]; omega) (by rw [HL.out]; omega)
  have hput : S1.putU K.l K.q K.h = K.w := by rw [kl, kq, kh]; exact (word_put kn).1
  have hish : S1.isHead K.h := by rw [kh]; exact S1.head_is _
  have hl1 := HA.out.last HJ.out
  have g0 := cell_row hl1 0; have g1 := cell_row hl1 1; have g2 := cell_row hl1 2; have fz1 := froz_row hl1 1
  simp only [List.getElem?_toArray, List.getElem?_cons_zero, List.getElem?_cons_succ] at g0 g1 g2
  have h2 := HA.out.turnLast HJ.out (.cells #[.bool K.l, .bool true, .int .i64 K.h] 339) (set_blk hl1 1 (.bool true) _ (by simp)) ((Turns.refl (fun k => k = Q) w1).setCell ⟨Q, 1, none⟩ _ rfl)
  have H2 := Lib.hid h2
  clear h2 hl1
  go_upto_region 15 with (fail)
  generalize w1.setCell ⟨Q, 1, none⟩ (.bool true) = w2 at *
  clear g0 g1 g2 fz1 c0
  have hl1 := H2.out.last HJ.out
  have g0 := cell_row hl1 0; have g1 := cell_row hl1 1; have g2 := cell_row hl1 2
  simp only [List.getElem?_toArray, List.getElem?_cons_zero, List.getElem?_cons_succ] at g0 g1 g2
  clear hl1
  obtain ⟨x, hx⟩ : ∃ x, x = S2.look M.L K.a := ⟨_, rfl⟩
  have hsw : Calls Tryz.prog 208 #[Pw B, Pw WB, .agg #[.bool K.l, .bool true, .int .i64 K.h]] w2 fun e w' => e = .returned (.bool (decide (x = K.w))) ∧ ∃ X', Wf w0 w' base WB (M.acc 3 K.a (S2.casV x K.w (wq K.w true))) (r ++ [blockP Q (.cells #[.bool K.l, .bool true, .int .i64 K.h] 339)]) j B (K.cas x K.w K.l true K.h) X' := by
    have hs := swapped_f H2.out HOK.out.a HOK.out.n hish hput (l2 := K.l) (q2 := true) (h2 := K.h) hish
    rw [show S1.putU K.l true K.h = wq K.w true from by rw [kl, kh]; rfl, ← hx] at hs
    exact hs
  obtain ⟨M1, hM1⟩ : ∃ M1, M1 = M.acc 3 K.a (S2.casV x K.w (wq K.w true)) := ⟨_, rfl⟩
  rw [← hM1] at hsw
  have HM1 := Lib.hid hM1; have HX := Lib.hid hx
  have HCON := Lib.hid (And.intro kl (And.intro kq (And.intro kh kn)))
  have hlk : M1.lk = M.lk := by rw [hM1]; rfl
  have HLK := Lib.hid hlk
  clear hM1 hput hish kl kq kh kn hlk
  by_cases e : x = K.w
  · have hsw2 := hsw
    rw [decide_eq_true e, show K.cas x K.w K.l true K.h = { K with l := K.l, q := true, h := K.h } from if_pos e] at hsw2
    have HSW := Lib.hid hsw2; have HE := Lib.hid e
    clear hsw hsw2 hx e
    have hu : ({ K with l := K.l, q := true, h := K.h, w := wq K.w true } : Fr).l = S1.bitB (wq K.w true) 0 ∧ ({ K with l := K.l, q := true, h := K.h, w := wq K.w true } : Fr).h = S1.headN (wq K.w true) := ⟨by rw [(wq_says K.w true).1]; exact HCON.out.1, by rw [(wq_says K.w true).2.2]; exact HCON.out.2.2.1⟩
    have HU := Lib.hid hu
    have hsb : ∀ e w', SeekF w0 base WB M1 (r ++ [blockP Q (.cells #[.bool K.l, .bool true, .int .i64 K.h] 339)]) j B { K with l := K.l, q := true, h := K.h, w := wq K.w true } (wq K.w true) e w' → Behind w0 base WB M r j B K e w' := fun e w' h => by
      obtain ⟨rfl, X', h⟩ := h
      unfold Behind
      rw [show fstepM M K = _ from by simp only [fstepM, HL.out]; rfl, show fstepK M K = _ from by simp only [fstepK, HL.out]; rfl, ← HX.out, if_pos HE.out, if_pos HE.out, ← HM1.out]
      rw [HLK.out] at h ⊢
      exact ⟨rfl, X', h.dropB HJ.out⟩
    have HSB := Lib.hid hsb
    clear hu hsb
    go_wp2_with (go_at_call 208; refine HSW.out.mono ?_; rintro e w5 ⟨rfl, X5, h5⟩; have H5 := Lib.hid h5; clear h5)
    have H6' := Lib.hid (H5.out.recast { K with l := K.l, q := true, h := K.h, w := wq K.w true } rfl)
    clear H5
    go_step3
    refine Or.inr ⟨rfl, ?_⟩
    show Code.wp _ _ _ _ _
    obtain ⟨lv, hlv⟩ : ∃ b, b = S1.bitB (wq K.w true) 0 := ⟨_, rfl⟩
    obtain ⟨hv, hhv⟩ : ∃ b, b = S1.headN (wq K.w true) := ⟨_, rfl⟩
    obtain ⟨n2, hn2⟩ : ∃ n, n = (S5.seekO (M1).lk (hdO (wq K.w true))).2 := ⟨_, rfl⟩
    obtain ⟨S2, hS2⟩ : ∃ S, S = (S5.seekO (M1).lk (hdO (wq K.w true))).1 := ⟨_, rfl⟩
    have hle := seekO_le (S := (M1).lk) (fun i => pg_le H6'.out.pg i) (wq K.w true)
    rw [← hn2, ← hS2] at hle
    have hsk : Calls Tryz.prog 212 #[Pw X5.lB, .int .i64 hv] w5.drew fun e w' => e = .returned (.int .i64 ((n2 : Int) - 1)) ∧ ∃ X', Pg w0 w' base WB ((M1).link S2) ((r ++ [blockP Q (.cells #[.bool K.l, .bool true, .int .i64 K.h] 339)]).set j (freeP B ({ K with l := K.l, q := true, h := K.h, w := wq K.w true }))) X' ∧ X'.lB = X5.lB := by
      rw [hn2, hS2, hhv]
      exact pg_seek (H6'.out.new (Below.refl _ _).drew).pg (num_head (wq K.w true))
    have HSK := Lib.hid hsk
    have HLV := Lib.hid hlv; have HHV := Lib.hid hhv; have HN2 := Lib.hid hn2; have HS2 := Lib.hid hS2; have HLE := Lib.hid hle
    have e2 := H6'.out.b2; have e4 := H6'.out.b4; have e3 := H6'.out.pg.c.2.2.1; have e5 := H6'.out.b5
    rw [HU.out.1, ← hlv] at e2
    rw [HU.out.2, ← hhv] at e4
    clear hlv hhv hn2 hS2 hle hsk
    have HX9 := Lib.hid (And.intro e3 e4)
    go_upto_region 29 with (fail)
    refine wp_region_held_drew (S := fun w' => w'.cell? ⟨WB, 3, none⟩ = some (Pw X5.lB) ∧ w'.cell? ⟨B, 4, none⟩ = some (.int .i64 hv)) (by kernel_rfl) ?_ (fun hHeld => ?_)
    · exact HX9.out
    refine tA 0 ⟨some 96, .move (.tmp 5), 368, "wordfrees.go:106", #[], none⟩ ?vsm1 ?rsm1
    (try simp only [Act.put, tC, tD, tE])
    refine tA 1 ⟨some 97, .move (.tmp 1), 24, "wordfrees.go:106", #[], none⟩ ?vsm2 ?rsm2
    (try simp only [Act.put, tC, tD, tE])
    refine tA 2 ⟨some 98, .nilCheck (.tmp 97), 0, "wordfrees.go:106", #[⟨1, .data⟩], none⟩ ?vsm3 ?rsm3
    (try simp only [Act.put, tC, tD, tE])
    refine tA 3 ⟨some 99, .fieldAddr 47 (.tmp 98) 3, 0, "wordfrees.go:106", #[⟨2, .data⟩], none⟩ ?vsm4 ?rsm4
    (try simp only [Act.put, tC, tD, tE])
    refine tA 4 ⟨some 100, .load 42 (.tmp 99), 42, "wordfrees.go:106", #[⟨3, .data⟩], none⟩ ?vsm5 ?rsm5
    (try simp only [Act.put, tC, tD, tE])
    refine tA 5 ⟨some 101, .move (.tmp 5), 368, "wordfrees.go:106", #[], none⟩ ?vsm6 ?rsm6
    (try simp only [Act.put, tC, tD, tE])
    refine tA 6 ⟨some 102, .nilCheck (.tmp 101), 0, "wordfrees.go:106", #[⟨5, .data⟩], none⟩ ?vsm7 ?rsm7
    (try simp only [Act.put, tC, tD, tE])
    refine tA 7 ⟨some 103, .fieldAddr 341 (.tmp 102) 0, 0, "wordfrees.go:106", #[⟨6, .data⟩], none⟩ ?vsm8 ?rsm8
    (try simp only [Act.put, tC, tD, tE])
    refine tA 8 ⟨some 104, .fieldAddr 339 (.tmp 103) 2, 0, "wordfrees.go:106", #[⟨7, .data⟩], none⟩ ?vsm9 ?rsm9
    (try simp only [Act.put, tC, tD, tE])
    refine tA 9 ⟨some 105, .load 3 (.tmp 104), 3, "wordfrees.go:106", #[⟨8, .data⟩], none⟩ ?vsm10 ?rsm10
    (try simp only [Act.put, tC, tD, tE])
    refine wpAnyH_ready (rs := [10]) (by kernel_rfl) (by simp) ?_
    refine AllReadyH.cons (o := ⟨some 106, .call ⟨.value (.func 212), #[.tmp 100, .tmp 105], #[42, 3]⟩, 3, "wordfrees.go:106", #[⟨4, .data⟩, ⟨9, .data⟩], none⟩) rfl (fun Kq hKq => ?_) AllReadyH.nil
    go_simp
    (refine HSK.out.mono ?_; rintro e w6 ⟨rfl, X6, h6g, hlb6⟩; have H6 := Lib.hid (show Wf w0 w6 base WB ((M1).link S2) (r ++ [blockP Q (.cells #[.bool K.l, .bool true, .int .i64 K.h] 339)]) j B ({ K with l := K.l, q := true, h := K.h, w := wq K.w true }) X6 from ⟨h6g, H6'.out.hj⟩); have HLB := Lib.hid hlb6; clear h6g hlb6)
    refine hKq.out _ _ ?_ (fun hHeld => ?_)
    · (have q3 := H6.out.pg.c.2.2.1; have q4 := H6.out.b4; rw [HLB.out] at q3; refine ⟨q3, ?_⟩; rw [HHV.out, ← HU.out.2]; exact q4)
    clear hKq Kq
    (try simp only [Act.put, tC, tD, tE])
    refine tA 11 ⟨some 107, .nilCheck (.tmp 96), 0, "wordfrees.go:106", #[⟨0, .data⟩, ⟨0, .phase⟩, ⟨1, .phase⟩, ⟨2, .phase⟩, ⟨3, .phase⟩, ⟨4, .phase⟩, ⟨5, .phase⟩, ⟨6, .phase⟩, ⟨7, .phase⟩, ⟨8, .phase⟩, ⟨9, .phase⟩, ⟨10, .phase⟩], none⟩ ?vsm11 ?rsm11
    (try simp only [Act.put, tC, tD, tE])
    refine tA 12 ⟨some 108, .fieldAddr 341 (.tmp 107) 1, 0, "wordfrees.go:106", #[⟨11, .data⟩, ⟨0, .phase⟩, ⟨1, .phase⟩, ⟨2, .phase⟩, ⟨3, .phase⟩, ⟨4, .phase⟩, ⟨5, .phase⟩, ⟨6, .phase⟩, ⟨7, .phase⟩, ⟨8, .phase⟩, ⟨9, .phase⟩, ⟨10, .phase⟩], none⟩ ?vsm12 ?rsm12
    (try simp only [Act.put, tC, tD, tE])
    refine wpAnyH_ready (rs := [13]) (by kernel_rfl) (by simp) ?_
    refine AllReadyH.cons (o := ⟨none, .store 3 (.tmp 108) (.tmp 106), 0, "wordfrees.go:106", #[⟨12, .data⟩, ⟨10, .data⟩, ⟨10, .chain⟩, ⟨0, .phase⟩, ⟨1, .phase⟩, ⟨2, .phase⟩, ⟨3, .phase⟩, ⟨4, .phase⟩, ⟨5, .phase⟩, ⟨6, .phase⟩, ⟨7, .phase⟩, ⟨8, .phase⟩, ⟨9, .phase⟩, ⟨10, .phase⟩], none⟩) rfl (fun Kq hKq => ?_) AllReadyH.nil
    (have y5 := H6.out.b5; have f5 := H6.out.fz 5; go_simp; have h7 := H6.out.tail ((n2 : Int) - 1); have H7 := Lib.hid h7; clear y5 f5 h7; generalize w6.setCell ⟨B, 5, none⟩ (.int .i64 ((n2 : Int) - 1)) = w7 at *)
    refine hKq.out _ _ ?_ (fun hHeld => ?_)
    · (have q3 := H7.out.pg.c.2.2.1; have q4 := H7.out.b4; rw [HLB.out] at q3; refine ⟨q3, ?_⟩; rw [HHV.out, ← HU.out.2]; exact q4)
    clear hKq Kq
    (try simp only [Act.put, tC, tD, tE])
    refine wpAnyH_done (by kernel_rfl) ?_ _
    clear hHeld e2 e3 e4 e5 HSK
    have e5 := H7.out.b5; have e2 := H7.out.b2; have e4 := H7.out.b4; have e3 := H7.out.pg.c.2.2.1
    replace e2 : w7.cell? ⟨B, 2, none⟩ = some (.bool lv) := by rw [HLV.out, ← HU.out.1]; exact e2
    replace e4 : w7.cell? ⟨B, 4, none⟩ = some (.int .i64 hv) := by rw [HHV.out, ← HU.out.2]; exact e4
    have hleaf : ∀ (W : World) (S : S5.Lk) (t : Int) (n : Nat), (S, t, n) = seekL (M1).lk (wq K.w true) → (∃ X', Wf w0 W base WB ((M1).link S) (r ++ [blockP Q (.cells #[.bool K.l, .bool true, .int .i64 K.h] 339)]) j B { ({ K with l := K.l, q := true, h := K.h, w := wq K.w true } : Fr) with t := t } X') → Behind w0 base WB M r j B K (.returned (.int .u8 (n : Int))) W := fun W S t n hs ⟨X', hx⟩ => by
      refine HSB.out _ _ ⟨?_, X', ?_⟩
      · rw [← hs]
      · rw [← hs]; exact hx
    have HLF := Lib.hid hleaf
    clear hleaf
    cases n2 with
    | zero =>
      have e6 : w7.cell? ⟨B, 5, none⟩ = some (.int .i64 (-1)) := e5
      have hq : (S2, (-1 : Int), 0) = seekL (M1).lk (wq K.w true) := by unfold seekL; rw [if_pos HN2.out.symm, ← HS2.out]
      have HFIN := Lib.hid (HLF.out w7 _ _ _ hq ⟨X6, H7.out⟩)
      clear e5 hq HLF
      go_wp2_with fail
      (try simp only [Exit.noGoto])
      go_ret
      exact HFIN.out
    | succ m =>
      have em : ((m + 1 : Nat) : Int) - 1 = (m : Int) := by omega
      have hm := HLE.out.1
      rw [em] at e5
      have hne : ((m : Int) == -1) = false := by rw [beq_eq_false_iff_ne]; omega
      have hn0 : ¬ (S5.seekO (M1).lk (hdO (wq K.w true))).2 = 0 := by rw [← HN2.out]; omega
      have htl : (((S5.seekO (M1).lk (hdO (wq K.w true))).2 : Int) - 1) = (m : Int) := by rw [← HN2.out]; omega
      have hpr : (S5.seekO (M1).lk (hdO (wq K.w true))).2 - 1 = m := by rw [← HN2.out]; omega
      have h8 := H7.out
      rw [em] at h8
      have H8 := Lib.hid h8; have HM := Lib.hid (show m < 64 by omega); have HEQ := Lib.hid (And.intro hn0 (And.intro htl hpr))
      clear em hm hn0 htl hpr h8 H7
      cases lv with
      | true =>
        have hq : (S2, (m : Int), 4) = seekL (M1).lk (wq K.w true) := by unfold seekL; rw [if_neg HEQ.out.1, if_pos HLV.out.symm, HEQ.out.2.1, ← HS2.out]
        have HFIN := Lib.hid (HLF.out w7 _ _ _ hq ⟨X6, H8.out⟩)
        clear hq HLF
        go_wp2_with fail
        (try simp only [Exit.noGoto])
        go_ret
        exact HFIN.out
      | false =>
        obtain ⟨y0, y1, y2, hat0⟩ : ∃ y0 y1 y2 : Int, (Calls Tryz.prog 75 #[Pw X6.lB, .int .i64 (m : Int)] w7.drew fun e w' => e = .returned (.agg #[.int .i64 y0, .int .i64 y1, .int .i64 y2]) ∧ Below w7.drew.heap.size w7.drew w') ∧ y1 = (S2 (m * 3 + 1) : Int) - 1 := ⟨_, _, _, pg_at (H8.out.new (Below.refl _ _).drew).pg HM.out, rfl⟩
        have HAT := Lib.hid hat0.1; have HY1 := Lib.hid hat0.2
        have hfd : ∀ w : World, (Instr.field 181 (.agg #[.int .i64 y0, .int .i64 y1, .int .i64 y2]) 1).run Tryz.prog w = .ok (.int .i64 y1) w := fun w => field_prev _ _ _ w
        clear hat0
        by_cases hp : S2 (m * 3 + 1) = 0
        · have hy : y1 = -1 := by rw [HY1.out, hp]; rfl
          subst hy
          have hq : (S2, (m : Int), 5) = seekL (M1).lk (wq K.w true) := by unfold seekL; rw [if_neg HEQ.out.1, if_neg (by rw [← HLV.out]; decide), HEQ.out.2.2, HEQ.out.2.1, ← HS2.out, if_pos hp]
          have HFIN := Lib.hid (fun W (b : Below w7.heap.size w7 W) => HLF.out W _ _ _ hq ⟨X6, H8.out.new b⟩)
          clear hq HLF hp
          go_upto_region 34 with (fail)
          go_still_tail 8, (by kernel_rfl)
          change wpList _ _ _ _ _ w7.drew
          go_wp2_with (go_at_call 75; refine HAT.out.mono ?_; rintro e w8 ⟨rfl, hb8⟩; have HB8 := Lib.hid hb8; clear hb8)
          (try simp only [Exit.noGoto])
          go_ret
          exact HFIN.out _ (Below.trans (Below.refl _ _).drew HB8.out)
        · have hy : (y1 == -1) = false := by rw [HY1.out, beq_eq_false_iff_ne]; omega
          have hq : ((S5.cutO S2 (hdO (wq K.w true)) (some m)).1, (m : Int), 6) = seekL (M1).lk (wq K.w true) := by unfold seekL; rw [if_neg HEQ.out.1, if_neg (by rw [← HLV.out]; decide), HEQ.out.2.2, HEQ.out.2.1, ← HS2.out, if_neg hp]
          have HFIN := Lib.hid (fun W => HLF.out W _ _ _ hq)
          clear hq HLF hp
          go_upto_region 34 with (fail)
          go_still_tail 8, (by kernel_rfl)
          change wpList _ _ _ _ _ w7.drew
          go_upto_region 36 with (go_at_call 75; refine HAT.out.mono ?_; rintro e w8 ⟨rfl, hb8⟩; have H9 := Lib.hid (H8.out.new ((Below.refl _ _).drew.trans hb8)); clear hb8)
          clear e2 e3 e4 e5
          have e5 := H9.out.b5; have e4 := H9.out.b4; have e3 := H9.out.pg.c.2.2.1
          replace e4 : w8.cell? ⟨B, 4, none⟩ = some (.int .i64 hv) := by rw [HHV.out, ← HU.out.2]; exact e4
          have hct : Calls Tryz.prog 213 #[Pw X6.lB, .int .i64 hv, .int .i64 (m : Int)] w8.drew fun e w' => (∃ v, e = .returned (.int .i64 v)) ∧ ∃ X', Pg w0 w' base WB (((M1).link S2).link (S5.cutO S2 (hdO (wq K.w true)) (some m)).1) ((r ++ [blockP Q (.cells #[.bool K.l, .bool true, .int .i64 K.h] 339)]).set j (freeP B { ({ K with l := K.l, q := true, h := K.h, w := wq K.w true } : Fr) with t := (m : Int) })) X' ∧ X'.lB = X6.lB := by
            rw [HHV.out]
            exact (pg_cut (H9.out.new (Below.refl _ _).drew).pg (num_head (wq K.w true)) (show S5.Num (m : Int) (some m) from ⟨rfl, HM.out⟩)).mono (fun e w' h => ⟨⟨_, h.1⟩, h.2⟩)
          have HCT := Lib.hid hct
          clear hct
          go_still_tail 13, (by kernel_rfl)
          change wpList _ _ _ _ _ w8.drew
          go_wp2_with (go_at_call 213; refine HCT.out.mono ?_; rintro e w9 ⟨⟨cv, rfl⟩, X9, h9, hlb9⟩; have H10 := Lib.hid h9; clear h9 hlb9)
          (try simp only [Exit.noGoto])
          go_ret
          exact HFIN.out _ ⟨X9, H10.out, H9.out.hj⟩
  · have hsw2 := hsw
    rw [decide_eq_false e, show K.cas x K.w K.l true K.h = { K with l := S1.bitB x 0, q := S1.bitB x 1, h := S1.headN x } from if_neg e] at hsw2
    have HSW := Lib.hid hsw2; have HE := Lib.hid e
    clear hsw hsw2 hx e
    go_wp2_with (go_at_call 208; refine HSW.out.mono ?_; rintro e w5 ⟨rfl, X5, h5⟩; have H5 := Lib.hid h5; clear h5)
    have h6 := H5.out.recast (K.says x) rfl
    have H6 := Lib.hid h6
    have z3 := h6.b3; have z4 := h6.b4
    clear h6 H5
    have HDN := Lib.hid (done_f (w := w5) (S1.bitB x 1) (S1.headN x) z3 z4)
    have HID := Lib.hid (show idle x = (S1.bitB x 1 || decide (S1.headN x = -1)) from rfl)
    have hfin : Behind w0 base WB M r j B K (.returned (.int .u8 ((if idle x = true then 0 else 3 : Nat) : Int))) w5 := by
      unfold Behind
      rw [show fstepM M K = _ from by simp only [fstepM, HL.out]; rfl, show fstepK M K = _ from by simp only [fstepK, HL.out]; rfl, ← HX.out, if_neg HE.out, if_neg HE.out, ← HM1.out]
      exact ⟨rfl, X5, H6.out.dropB HJ.out⟩
    have HF := Lib.hid hfin
    clear hfin z3 z4
    obtain ⟨id, hid⟩ : ∃ id, id = idle x := ⟨_, rfl⟩
    rw [← HID.out] at HDN
    rw [← hid] at HDN HF
    clear hid HID
    go_step3
    refine Or.inl ⟨rfl, ?_⟩
    show Code.wp _ _ _ _ _
    cases id with
    | true =>
      rw [if_pos rfl] at HF
      go_wp2_with (go_at_call 206; refine HDN.out.mono ?_; rintro e w6 ⟨rfl, rfl⟩)
      (try simp only [Exit.noGoto])
      go_ret
      exact HF.out
    | false =>
      rw [if_neg (by decide)] at HF
      go_wp2_with (go_at_call 206; refine HDN.out.mono ?_; rintro e w6 ⟨rfl, rfl⟩)
      (try simp only [Exit.noGoto])
      go_ret
      exact HF.out
end
end Go.Proofs.YtieiiabbeglmfaaGreatDoor.S14
