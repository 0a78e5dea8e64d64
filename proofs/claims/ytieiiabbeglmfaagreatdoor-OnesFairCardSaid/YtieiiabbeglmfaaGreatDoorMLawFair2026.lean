/- Texts of this seat, one behind the other. -/
import Derived.Test.YtieiiabbeglmfaaGreatDoorMLawFair201
import Derived.Test.YtieiiabbeglmfaaGreatDoorMLawFair2025
set_option linter.unusedVariables false
set_option linter.unusedSimpArgs false
set_option linter.unusedVariables false
set_option linter.unusedSimpArgs false
set_option linter.unusedVariables false
set_option linter.unusedSimpArgs false
namespace Go.Proofs.YtieiiabbeglmfaaGreatDoor.S15
set_option maxRecDepth 100000
set_option maxHeartbeats 16000000
open Go.Proofs.YtieiiabbeglmfaaGreatDoor Go.Proofs.YtieiiabbeglmfaaGreatDoor.S11 Go.Proofs.YtieiiabbeglmfaaGreatDoor.S12 Go.Proofs.YtieiiabbeglmfaaGreatDoor.S13 Go.Proofs.YtieiiabbeglmfaaGreatDoor.S14
open Go.RowKit
section
variable {w0 w w' : World} {base WB : Nat} {M : Sd} {r : List Part} {j : Nat} {o : Bool} {t kw tw : Nat} {Z : Wb} {X : Wm}
theorem Wy.pushB (h : Wy w0 w base WB M r j o t kw tw Z X) (ob : Obj) : Wy w0 (w.alloc ob) base WB M (r ++ [blockP w.heap.size ob]) j o t kw tw Z X := by
  have hp := h.pg.ps.push (blockP w.heap.size ob) (below1 w ob) (heap_alloc_new w ob) (fun k e => Nat.le_of_eq (show k = w.heap.size from e).symm)
  rw [List.append_assoc] at hp
  refine ⟨⟨?_, h.pg.wB, h.pg.xm, h.pg.bl.alloc h.pg.size _⟩, by rw [List.length_append]; have := h.hj; simp; omega⟩
  rw [List.set_append_left _ _ h.hj]
  exact hp
theorem Wy.dropB {q : Part} (h : Wy w0 w base WB M (r ++ [q]) j o t kw tw Z X) (hj : j < r.length) : Wy w0 w base WB M r j o t kw tw Z X := by
  have hp := h.pg.ps
  rw [List.set_append_left _ _ hj, ← List.append_assoc] at hp
  exact ⟨⟨Parts.left hp, h.pg.wB, h.pg.xm, h.pg.bl⟩, hj⟩
theorem Wy.last {Q : Nat} {ob : Obj} (h : Wy w0 w base WB M (r ++ [blockP Q ob]) j o t kw tw Z X) (hj : j < r.length) : w.heap[Q]? = some ob := by
  have hp := h.pg.ps
  rw [List.set_append_left _ _ hj, ← List.append_assoc] at hp
  refine hp.ok (X.parts ++ r.set j (wayP o t kw tw Z)).length (blockP Q ob) ?_
  rw [List.getElem?_append_right (Nat.le_refl _), Nat.sub_self]; rfl
theorem look_t (h : Wy w0 w base WB M r j o t kw tw Z X) (hn : M.n ≤ 1000000000) {x : Nat} (hx : x = S2.look M.L (0)) : Calls Tryz.prog 313 #[Pw Z.TB, Pw WB] w fun e w' => e = .returned (.int .u64 (x : Int)) ∧ ∃ X', Wy w0 w' base WB (M.acc 1 0 x) r j o t kw tw Z X' := by
  obtain ⟨cb, hcb⟩ : ∃ cb, X.cB = cb := ⟨_, rfl⟩
  have HCB := Lib.hid hcb
  have hd := h.new (Below.refl _ _).drew
  have hld : ∀ W X', Wy w0 W base WB M r j o t kw tw Z X' → X'.cB = cb → Calls Tryz.prog 207 #[Pw cb, .int .u32 0] W fun e w' => e = .returned (.int .u64 (x : Int)) ∧ ∃ X5, Wy w0 w' base WB (M.acc 1 0 x) r j o t kw tw Z X5 ∧ X5.cB = cb := fun W X' hW hc => by
    subst hc
    rw [hx]
    skip
    exact hW.load (a := 0) (by omega) hn
  have hlx : x < 18446744073709551616 := by
    have := S2.look_lt h.pg.pw.cells.good (0)
    rw [show X.L = M.L from congrArg Sd.L h.pg.xm] at this
    rw [hx]; exact this
  have c1 : w.cell? ⟨WB, 0, none⟩ = some (Pw cb) := by rw [← hcb]; exact h.pg.c.1
  have c2 : w.cell? ⟨Z.TB, 0, none⟩ = some (.int .u32 0) := by exact h.tc.1
  have HLD := Lib.hid (hld _ X hd hcb)
  clear h hd hcb hld hn hx hlx
  go_enter Tryz.func313, Tryz.ntmps313
  go_upto_region 1 with (fail)
  go_still_tail 8, (by kernel_rfl)
  change wpList _ _ _ _ _ w.drew
  go_upto_region 2 with (go_at_call 207; refine HLD.out.mono ?_; rintro e w1 ⟨rfl, X1, h1, _⟩; have H1 := Lib.hid h1; clear h1)
  clear c1 c2 HLD
  have c3 : w1.cell? ⟨Z.TB, 1, none⟩ = some (.bool false) := H1.out.ks.2
  go_wp2_with fail
  go_ret
  exact ⟨rfl, X1, H1.out⟩
theorem look_k (h : Wy w0 w base WB M r j true t kw tw Z X) (hn : M.n ≤ 1000000000) {x : Nat} (hx : x = S2.look M.L (64 + t)) {y : Nat} (hy : y = x % 4294967296) (ht : t < 64) {ad : Nat} (had : ad = 64 + t) : Calls Tryz.prog 313 #[Pw Z.KB, Pw WB] w fun e w' => e = .returned (.int .u64 (y : Int)) ∧ ∃ X', Wy w0 w' base WB (M.acc 1 ad x) r j true t kw tw Z X' := by
  obtain ⟨cb, hcb⟩ : ∃ cb, X.cB = cb := ⟨_, rfl⟩
  have HCB := Lib.hid hcb
  have hd := h.new (Below.refl _ _).drew
  have hld : ∀ W X', Wy w0 W base WB M r j true t kw tw Z X' → X'.cB = cb → Calls Tryz.prog 207 #[Pw cb, .int .u32 (ad : Int)] W fun e w' => e = .returned (.int .u64 (x : Int)) ∧ ∃ X5, Wy w0 w' base WB (M.acc 1 ad x) r j true t kw tw Z X5 ∧ X5.cB = cb := fun W X' hW hc => by
    subst hc
    rw [hx]
    subst had
    exact hW.load (a := 64 + t) (by omega) hn
  have hlx : x < 18446744073709551616 := by
    have := S2.look_lt h.pg.pw.cells.good (64 + t)
    rw [show X.L = M.L from congrArg Sd.L h.pg.xm] at this
    rw [hx]; exact this
  have c1 : w.cell? ⟨WB, 0, none⟩ = some (Pw cb) := by rw [← hcb]; exact h.pg.c.1
  have c2 : w.cell? ⟨Z.KB, 0, none⟩ = some (.int .u32 (ad : Int)) := by rw [had]; exact h.kc.1
  have HLD := Lib.hid (hld _ X hd hcb)
  have e1 : IntKind.u32.wrap (x : Int) = (y : Int) := by rw [IntKind.wrap_u32]; omega
  have e2 : IntKind.u64.wrap (y : Int) = (y : Int) := by rw [IntKind.wrap_u64]; omega
  clear h hd hcb hld hn hx hlx hy ht had
  go_enter Tryz.func313, Tryz.ntmps313
  go_upto_region 1 with (fail)
  go_still_tail 8, (by kernel_rfl)
  change wpList _ _ _ _ _ w.drew
  go_upto_region 2 with (go_at_call 207; refine HLD.out.mono ?_; rintro e w1 ⟨rfl, X1, h1, _⟩; have H1 := Lib.hid h1; clear h1)
  clear c1 c2 HLD
  have c3 : w1.cell? ⟨Z.KB, 1, none⟩ = some (.bool true) := H1.out.ks.1
  go_wp2_with fail
  go_ret
  exact ⟨rfl, X1, H1.out⟩
theorem rstep_t (h : Wy w0 w base WB M r j o t kw tw Z X) (hn : M.n ≤ 1000000000) {x : Nat} (hx : x = S2.look M.L (0)) (s : Value) : Calls Tryz.prog 315 #[.agg #[Pw Z.TB], s, Pw WB] w fun e w' => e = .returned (.bool true) ∧ ∃ X', Wy w0 w' base WB (M.acc 1 0 x) r j o t kw x Z X' := by
  have hj := h.hj
  have hA := h.pushB (.cells #[Pw Z.TB] 270)
  obtain ⟨Q, hQ⟩ : ∃ Q, Q = w.heap.size := ⟨_, rfl⟩
  rw [← hQ] at hA
  obtain ⟨sd, hsd⟩ : ∃ sd, sd = tw := ⟨_, rfl⟩
  have HA := Lib.hid hA; have HJ := Lib.hid hj; have HQ := Lib.hid hQ; have HSD := Lib.hid hsd
  have HLD := Lib.hid (look_t (hA.new (Below.refl _ _).drew) hn hx)
  clear h hj hA hQ hx hn hsd
  go_enter Tryz.func315, Tryz.ntmps315
  go_upto_region 1 with (fail)
  rw [← HQ.out]
  generalize w.alloc (.cells #[Pw Z.TB] 270) = w1 at *
  refine wp_region_held_drew (S := fun w' => w'.cell? ⟨Q, 0, none⟩ = some (Pw Z.TB)) (by kernel_rfl) ?_ (fun hHeld => ?_)
  · exact cell_row ((HA.out.new (Below.refl _ _).drew).last HJ.out) 0
  refine tA 0 ⟨some 7, .fieldAddr 270 (.tmp 3) 0, 0, "parts.go:96", #[], none⟩ ?vrtm1 ?rrtm1
  (try simp only [Act.put, tC, tD, tE])
  refine tA 1 ⟨some 8, .load 258 (.tmp 7), 258, "parts.go:96", #[⟨0, .data⟩], none⟩ ?vrtm2 ?rrtm2
  (try simp only [Act.put, tC, tD, tE])
  refine tA 2 ⟨some 9, .fieldAddr 270 (.tmp 3) 0, 0, "parts.go:96", #[], none⟩ ?vrtm3 ?rrtm3
  (try simp only [Act.put, tC, tD, tE])
  refine tA 3 ⟨some 10, .load 258 (.tmp 9), 258, "parts.go:96", #[⟨2, .data⟩], none⟩ ?vrtm4 ?rrtm4
  (try simp only [Act.put, tC, tD, tE])
  refine tA 4 ⟨some 11, .move (.tmp 2), 24, "parts.go:96", #[], none⟩ ?vrtm5 ?rrtm5
  (try simp only [Act.put, tC, tD, tE])
  refine wpAnyH_ready (rs := [5]) (by kernel_rfl) (by simp) ?_
  refine AllReadyH.cons (o := ⟨some 12, .call ⟨.value (.func 313), #[.tmp 10, .tmp 11], #[258, 24]⟩, 23, "parts.go:96", #[⟨3, .data⟩, ⟨4, .data⟩], none⟩) rfl (fun Kq hKq => ?_) AllReadyH.nil
  go_simp
  (refine HLD.out.mono ?_; rintro e w5 ⟨rfl, X5, h5⟩; have H5 := Lib.hid h5; clear h5)
  refine hKq.out _ _ ?_ (fun hHeld => ?_)
  · exact cell_row (H5.out.last HJ.out) 0
  clear hKq Kq
  (try simp only [Act.put, tC, tD, tE])
  refine tA 6 ⟨some 13, .nilCheck (.tmp 8), 0, "parts.go:96", #[⟨1, .data⟩, ⟨0, .phase⟩, ⟨1, .phase⟩, ⟨2, .phase⟩, ⟨3, .phase⟩, ⟨4, .phase⟩, ⟨5, .phase⟩], none⟩ ?vrtm6 ?rrtm6
  (try simp only [Act.put, tC, tD, tE])
  refine tA 7 ⟨some 14, .fieldAddr 268 (.tmp 13) 2, 0, "parts.go:96", #[⟨6, .data⟩, ⟨0, .phase⟩, ⟨1, .phase⟩, ⟨2, .phase⟩, ⟨3, .phase⟩, ⟨4, .phase⟩, ⟨5, .phase⟩], none⟩ ?vrtm7 ?rrtm7
  (try simp only [Act.put, tC, tD, tE])
  refine wpAnyH_ready (rs := [8]) (by kernel_rfl) (by simp) ?_
  refine AllReadyH.cons (o := ⟨none, .store 23 (.tmp 14) (.tmp 12), 0, "parts.go:96", #[⟨7, .data⟩, ⟨5, .data⟩, ⟨5, .chain⟩, ⟨0, .phase⟩, ⟨1, .phase⟩, ⟨2, .phase⟩, ⟨3, .phase⟩, ⟨4, .phase⟩, ⟨5, .phase⟩], none⟩) rfl (fun Kq hKq => ?_) AllReadyH.nil
  (have y1 := H5.out.tc.2; have f1 := (H5.out.fz 2).2.2; go_simp; have h6 := H5.out.putT x; have H6 := Lib.hid h6; clear y1 f1 h6; generalize w5.setCell ⟨Z.TB, 2, none⟩ (.int .u64 (x : Int)) = w6 at *)
  refine hKq.out _ _ ?_ (fun hHeld => ?_)
  · exact cell_row (H6.out.last HJ.out) 0
  clear hKq Kq
  (try simp only [Act.put, tC, tD, tE])
  refine wpAnyH_done (by kernel_rfl) ?_ _
  clear hHeld HLD HA
  go_wp2_with fail
  go_ret
  exact ⟨rfl, X5, H6.out.dropB HJ.out⟩
theorem rstep_k (h : Wy w0 w base WB M r j true t kw tw Z X) (hn : M.n ≤ 1000000000) (ht : t < 64) {x : Nat} (hx : x = S2.look M.L (64 + t)) {y : Nat} (hy : y = x % 4294967296) {ad : Nat} (had : ad = 64 + t) (s : Value) : Calls Tryz.prog 315 #[.agg #[Pw Z.KB], s, Pw WB] w fun e w' => e = .returned (.bool true) ∧ ∃ X', Wy w0 w' base WB (M.acc 1 ad x) r j true t y tw Z X' := by
  have hj := h.hj
  have hA := h.pushB (.cells #[Pw Z.KB] 270)
  obtain ⟨Q, hQ⟩ : ∃ Q, Q = w.heap.size := ⟨_, rfl⟩
  rw [← hQ] at hA
  obtain ⟨sd, hsd⟩ : ∃ sd, sd = kw := ⟨_, rfl⟩
  have HA := Lib.hid hA; have HJ := Lib.hid hj; have HQ := Lib.hid hQ; have HSD := Lib.hid hsd
  have HLD := Lib.hid (look_k (hA.new (Below.refl _ _).drew) hn hx hy ht had)
  clear h hj hA hQ hx hn hsd ht hy had
  go_enter Tryz.func315, Tryz.ntmps315
  go_upto_region 1 with (fail)
  rw [← HQ.out]
  generalize w.alloc (.cells #[Pw Z.KB] 270) = w1 at *
  refine wp_region_held_drew (S := fun w' => w'.cell? ⟨Q, 0, none⟩ = some (Pw Z.KB)) (by kernel_rfl) ?_ (fun hHeld => ?_)
  · exact cell_row ((HA.out.new (Below.refl _ _).drew).last HJ.out) 0
  refine tA 0 ⟨some 7, .fieldAddr 270 (.tmp 3) 0, 0, "parts.go:96", #[], none⟩ ?vrkm1 ?rrkm1
  (try simp only [Act.put, tC, tD, tE])
  refine tA 1 ⟨some 8, .load 258 (.tmp 7), 258, "parts.go:96", #[⟨0, .data⟩], none⟩ ?vrkm2 ?rrkm2
  (try simp only [Act.put, tC, tD, tE])
  refine tA 2 ⟨some 9, .fieldAddr 270 (.tmp 3) 0, 0, "parts.go:96", #[], none⟩ ?vrkm3 ?rrkm3
  (try simp only [Act.put, tC, tD, tE])
  refine tA 3 ⟨some 10, .load 258 (.tmp 9), 258, "parts.go:96", #[⟨2, .data⟩], none⟩ ?vrkm4 ?rrkm4
  (try simp only [Act.put, tC, tD, tE])
  refine tA 4 ⟨some 11, .move (.tmp 2), 24, "parts.go:96", #[], none⟩ ?vrkm5 ?rrkm5
  (try simp only [Act.put, tC, tD, tE])
  refine wpAnyH_ready (rs := [5]) (by kernel_rfl) (by simp) ?_
  refine AllReadyH.cons (o := ⟨some 12, .call ⟨.value (.func 313), #[.tmp 10, .tmp 11], #[258, 24]⟩, 23, "parts.go:96", #[⟨3, .data⟩, ⟨4, .data⟩], none⟩) rfl (fun Kq hKq => ?_) AllReadyH.nil
  go_simp
  (refine HLD.out.mono ?_; rintro e w5 ⟨rfl, X5, h5⟩; have H5 := Lib.hid h5; clear h5)
  refine hKq.out _ _ ?_ (fun hHeld => ?_)
  · exact cell_row (H5.out.last HJ.out) 0
  clear hKq Kq
  (try simp only [Act.put, tC, tD, tE])
  refine tA 6 ⟨some 13, .nilCheck (.tmp 8), 0, "parts.go:96", #[⟨1, .data⟩, ⟨0, .phase⟩, ⟨1, .phase⟩, ⟨2, .phase⟩, ⟨3, .phase⟩, ⟨4, .phase⟩, ⟨5, .phase⟩], none⟩ ?vrkm6 ?rrkm6
  (try simp only [Act.put, tC, tD, tE])
  refine tA 7 ⟨some 14, .fieldAddr 268 (.tmp 13) 2, 0, "parts.go:96", #[⟨6, .data⟩, ⟨0, .phase⟩, ⟨1, .phase⟩, ⟨2, .phase⟩, ⟨3, .phase⟩, ⟨4, .phase⟩, ⟨5, .phase⟩], none⟩ ?vrkm7 ?rrkm7
  (try simp only [Act.put, tC, tD, tE])
  refine wpAnyH_ready (rs := [8]) (by kernel_rfl) (by simp) ?_
  refine AllReadyH.cons (o := ⟨none, .store 23 (.tmp 14) (.tmp 12), 0, "parts.go:96", #[⟨7, .data⟩, ⟨5, .data⟩, ⟨5, .chain⟩, ⟨0, .phase⟩, ⟨1, .phase⟩, ⟨2, .phase⟩, ⟨3, .phase⟩, ⟨4, .phase⟩, ⟨5, .phase⟩], none⟩) rfl (fun Kq hKq => ?_) AllReadyH.nil
  (have y1 := H5.out.kc.2; have f1 := (H5.out.fz 2).2.1; go_simp; have h6 := H5.out.putK y; have H6 := Lib.hid h6; clear y1 f1 h6; generalize w5.setCell ⟨Z.KB, 2, none⟩ (.int .u64 (y : Int)) = w6 at *)
  refine hKq.out _ _ ?_ (fun hHeld => ?_)
  · exact cell_row (H6.out.last HJ.out) 0
  clear hKq Kq
  (try simp only [Act.put, tC, tD, tE])
  refine wpAnyH_done (by kernel_rfl) ?_ _
  clear hHeld HLD HA
  go_wp2_with fail
  go_ret
  exact ⟨rfl, X5, H6.out.dropB HJ.out⟩
theorem astep_t (h : Wy w0 w base WB M r j o t kw tw Z X) (hn : M.n ≤ 1000000000) {x : Nat} (hx : x = S2.look M.L (0)) {b : Bool} (hb : b = !decide (x = tw)) : Calls Tryz.prog 330 #[.agg #[Pw Z.TB], sP Z.B, Pw WB] w fun e w' => e = .returned (.bool true) ∧ ∃ X', Wy w0 w' base WB (M.acc 1 0 x) r j o t kw tw { Z with st := b } X' := by
  have hj := h.hj
  have hA := h.pushB (.cells #[Pw Z.TB] 274)
  obtain ⟨Q, hQ⟩ : ∃ Q, Q = w.heap.size := ⟨_, rfl⟩
  rw [← hQ] at hA
  obtain ⟨sd, hsd⟩ : ∃ sd, sd = tw := ⟨_, rfl⟩
  have HA := Lib.hid hA; have HJ := Lib.hid hj; have HQ := Lib.hid hQ; have HSD := Lib.hid hsd
  have HLD := Lib.hid (look_t (hA.new (Below.refl _ _).drew) hn hx)
  have hne : ((x : Int) != (sd : Int)) = b := by
    rw [hb, hsd]
    by_cases e : x = tw
    · rw [e]; simp
    · rw [decide_eq_false e]; simp; omega
  have hne2 : (!decide ((x : Int) = (sd : Int))) = b := by
    rw [hb, hsd]
    by_cases e : x = tw
    · rw [e]; simp
    · rw [decide_eq_false e, decide_eq_false (by omega)]
  clear h hj hA hQ hx hn hsd hb
  go_enter Tryz.func330, Tryz.ntmps330
  go_upto_region 1 with (fail)
  rw [← HQ.out]
  generalize w.alloc (.cells #[Pw Z.TB] 274) = w1 at *
  refine wp_region_held_drew (S := fun w' => w'.cell? ⟨Q, 0, none⟩ = some (Pw Z.TB) ∧ w'.cell? ⟨Z.TB, 2, none⟩ = some (.int .u64 (sd : Int))) (by kernel_rfl) ?_ (fun hHeld => ?_)
  · exact ⟨cell_row ((HA.out.new (Below.refl _ _).drew).last HJ.out) 0, by rw [HSD.out]; exact (HA.out.new (Below.refl _ _).drew).tc.2⟩
  refine tA 0 ⟨some 7, .move (.tmp 1), 364, "parts.go:106", #[], none⟩ ?vatm1 ?ratm1
  (try simp only [Act.put, tC, tD, tE])
  refine tA 1 ⟨some 8, .fieldAddr 274 (.tmp 3) 0, 0, "parts.go:106", #[], none⟩ ?vatm2 ?ratm2
  (try simp only [Act.put, tC, tD, tE])
  refine tA 2 ⟨some 9, .load 258 (.tmp 8), 258, "parts.go:106", #[⟨1, .data⟩], none⟩ ?vatm3 ?ratm3
  (try simp only [Act.put, tC, tD, tE])
  refine tA 3 ⟨some 10, .move (.tmp 2), 24, "parts.go:106", #[], none⟩ ?vatm4 ?ratm4
  (try simp only [Act.put, tC, tD, tE])
  refine tA 5 ⟨some 12, .fieldAddr 274 (.tmp 3) 0, 0, "parts.go:106", #[], none⟩ ?vatm5 ?ratm5
  (try simp only [Act.put, tC, tD, tE])
  refine tA 6 ⟨some 13, .load 258 (.tmp 12), 258, "parts.go:106", #[⟨5, .data⟩], none⟩ ?vatm6 ?ratm6
  (try simp only [Act.put, tC, tD, tE])
  refine tA 7 ⟨some 14, .nilCheck (.tmp 13), 0, "parts.go:106", #[⟨6, .data⟩], none⟩ ?vatm7 ?ratm7
  (try simp only [Act.put, tC, tD, tE])
  refine tA 8 ⟨some 15, .fieldAddr 268 (.tmp 14) 2, 0, "parts.go:106", #[⟨7, .data⟩], none⟩ ?vatm8 ?ratm8
  (try simp only [Act.put, tC, tD, tE])
  refine tA 9 ⟨some 16, .load 23 (.tmp 15), 23, "parts.go:106", #[⟨8, .data⟩], none⟩ ?vatm9 ?ratm9
  (try simp only [Act.put, tC, tD, tE])
  refine wpAnyH_ready (rs := [4]) (by kernel_rfl) (by simp) ?_
  refine AllReadyH.cons (o := ⟨some 11, .call ⟨.value (.func 313), #[.tmp 9, .tmp 10], #[258, 24]⟩, 23, "parts.go:106", #[⟨2, .data⟩, ⟨3, .data⟩], none⟩) rfl (fun Kq hKq => ?_) AllReadyH.nil
  go_simp
  (refine HLD.out.mono ?_; rintro e w5 ⟨rfl, X5, h5⟩; have H5 := Lib.hid h5; clear h5)
  refine hKq.out _ _ ?_ (fun hHeld => ?_)
  · exact ⟨cell_row (H5.out.last HJ.out) 0, by rw [HSD.out]; exact H5.out.tc.2⟩
  clear hKq Kq
  (try simp only [Act.put, tC, tD, tE])
  refine tA 10 ⟨some 17, .binOp .neq 23 (.tmp 11) (.tmp 16) 23, 4, "parts.go:106", #[⟨4, .data⟩, ⟨9, .data⟩], none⟩ ?vatm10 ?ratm10
  (try simp only [Act.put, tC, tD, tE])
  refine tA 11 ⟨some 18, .nilCheck (.tmp 7), 0, "parts.go:106", #[⟨0, .data⟩, ⟨0, .phase⟩, ⟨1, .phase⟩, ⟨2, .phase⟩, ⟨3, .phase⟩, ⟨4, .phase⟩, ⟨5, .phase⟩, ⟨6, .phase⟩, ⟨7, .phase⟩, ⟨8, .phase⟩, ⟨9, .phase⟩, ⟨10, .phase⟩], none⟩ ?vatm11 ?ratm11
  (try simp only [Act.put, tC, tD, tE])
  refine tA 12 ⟨some 19, .fieldAddr 262 (.tmp 18) 4, 0, "parts.go:106", #[⟨11, .data⟩, ⟨0, .phase⟩, ⟨1, .phase⟩, ⟨2, .phase⟩, ⟨3, .phase⟩, ⟨4, .phase⟩, ⟨5, .phase⟩, ⟨6, .phase⟩, ⟨7, .phase⟩, ⟨8, .phase⟩, ⟨9, .phase⟩, ⟨10, .phase⟩], none⟩ ?vatm12 ?ratm12
  (try simp only [Act.put, tC, tD, tE])
  refine wpAnyH_ready (rs := [13]) (by kernel_rfl) (by simp) ?_
  refine AllReadyH.cons (o := ⟨none, .store 4 (.tmp 19) (.tmp 17), 0, "parts.go:106", #[⟨12, .data⟩, ⟨10, .data⟩, ⟨4, .chain⟩, ⟨0, .phase⟩, ⟨1, .phase⟩, ⟨2, .phase⟩, ⟨3, .phase⟩, ⟨4, .phase⟩, ⟨5, .phase⟩, ⟨6, .phase⟩, ⟨7, .phase⟩, ⟨8, .phase⟩, ⟨9, .phase⟩, ⟨10, .phase⟩], none⟩) rfl (fun Kq hKq => ?_) AllReadyH.nil
  (have y1 := H5.out.c.2.2.2.2.2.2.2.1; have f1 := (H5.out.fz 7).1; go_simp; have h6 := H5.out.put 7 (.bool b) { Z with st := b } rfl rfl rfl rfl rfl; have H6 := Lib.hid h6; clear y1 f1 h6; generalize w5.setCell ⟨Z.B, 7, none⟩ (.bool b) = w6 at *)
  refine hKq.out _ _ ?_ (fun hHeld => ?_)
  · exact ⟨cell_row (H6.out.last HJ.out) 0, by rw [HSD.out]; exact H6.out.tc.2⟩
  clear hKq Kq
  (try simp only [Act.put, tC, tD, tE])
  refine wpAnyH_done (by kernel_rfl) ?_ _
  clear hHeld HLD HA
  go_wp2_with fail
  go_ret
  exact ⟨rfl, X5, H6.out.dropB HJ.out⟩
theorem astep_k (h : Wy w0 w base WB M r j true t kw tw Z X) (hn : M.n ≤ 1000000000) (ht : t < 64) {x : Nat} (hx : x = S2.look M.L (64 + t)) {y : Nat} (hy : y = x % 4294967296) {ad : Nat} (had : ad = 64 + t) {b : Bool} (hb : b = !decide (y = kw)) : Calls Tryz.prog 330 #[.agg #[Pw Z.KB], sP Z.B, Pw WB] w fun e w' => e = .returned (.bool true) ∧ ∃ X', Wy w0 w' base WB (M.acc 1 ad x) r j true t kw tw { Z with st := b } X' := by
  have hj := h.hj
  have hA := h.pushB (.cells #[Pw Z.KB] 274)
  obtain ⟨Q, hQ⟩ : ∃ Q, Q = w.heap.size := ⟨_, rfl⟩
  rw [← hQ] at hA
  obtain ⟨sd, hsd⟩ : ∃ sd, sd = kw := ⟨_, rfl⟩
  have HA := Lib.hid hA; have HJ := Lib.hid hj; have HQ := Lib.hid hQ; have HSD := Lib.hid hsd
  have HLD := Lib.hid (look_k (hA.new (Below.refl _ _).drew) hn hx hy ht had)
  have hne : ((y : Int) != (sd : Int)) = b := by
    rw [hb, hsd]
    by_cases e : y = kw
    · rw [e]; simp
    · rw [decide_eq_false e]; simp; omega
  have hne2 : (!decide ((y : Int) = (sd : Int))) = b := by
    rw [hb, hsd]
    by_cases e : y = kw
    · rw [e]; simp
    · rw [decide_eq_false e, decide_eq_false (by omega)]
  clear h hj hA hQ hx hn hsd ht hy had hb
  go_enter Tryz.func330, Tryz.ntmps330
  go_upto_region 1 with (fail)
  rw [← HQ.out]
  generalize w.alloc (.cells #[Pw Z.KB] 274) = w1 at *
  refine wp_region_held_drew (S := fun w' => w'.cell? ⟨Q, 0, none⟩ = some (Pw Z.KB) ∧ w'.cell? ⟨Z.KB, 2, none⟩ = some (.int .u64 (sd : Int))) (by kernel_rfl) ?_ (fun hHeld => ?_)
  · exact ⟨cell_row ((HA.out.new (Below.refl _ _).drew).last HJ.out) 0, by rw [HSD.out]; exact (HA.out.new (Below.refl _ _).drew).kc.2⟩
  refine tA 0 ⟨some 7, .move (.tmp 1), 364, "parts.go:106", #[], none⟩ ?vakm1 ?rakm1
  (try simp only [Act.put, tC, tD, tE])
  refine tA 1 ⟨some 8, .fieldAddr 274 (.tmp 3) 0, 0, "parts.go:106", #[], none⟩ ?vakm2 ?rakm2
  (try simp only [Act.put, tC, tD, tE])
  refine tA 2 ⟨some 9, .load 258 (.tmp 8), 258, "parts.go:106", #[⟨1, .data⟩], none⟩ ?vakm3 ?rakm3
  (try simp only [Act.put, tC, tD, tE])
  refine tA 3 ⟨some 10, .move (.tmp 2), 24, "parts.go:106", #[], none⟩ ?vakm4 ?rakm4
  (try simp only [Act.put, tC, tD, tE])
  refine tA 5 ⟨some 12, .fieldAddr 274 (.tmp 3) 0, 0, "parts.go:106", #[], none⟩ ?vakm5 ?rakm5
  (try simp only [Act.put, tC, tD, tE])
  refine tA 6 ⟨some 13, .load 258 (.tmp 12), 258, "parts.go:106", #[⟨5, .data⟩], none⟩ ?vakm6 ?rakm6
  (try simp only [Act.put, tC, tD, tE])
  refine tA 7 ⟨some 14, .nilCheck (.tmp 13), 0, "parts.go:106", #[⟨6, .data⟩], none⟩ ?vakm7 ?rakm7
  (try simp only [Act.put, tC, tD, tE])
  refine tA 8 ⟨some 15, .fieldAddr 268 (.tmp 14) 2, 0, "parts.go:106", #[⟨7, .data⟩], none⟩ ?vakm8 ?rakm8
  (try simp only [Act.put, tC, tD, tE])
  refine tA 9 ⟨some 16, .load 23 (.tmp 15), 23, "parts.go:106", #[⟨8, .data⟩], none⟩ ?vakm9 ?rakm9
  (try simp only [Act.put, tC, tD, tE])
  refine wpAnyH_ready (rs := [4]) (by kernel_rfl) (by simp) ?_
  refine AllReadyH.cons (o := ⟨some 11, .call ⟨.value (.func 313), #[.tmp 9, .tmp 10], #[258, 24]⟩, 23, "parts.go:106", #[⟨2, .data⟩, ⟨3, .data⟩], none⟩) rfl (fun Kq hKq => ?_) AllReadyH.nil
  go_simp
  (refine HLD.out.mono ?_; rintro e w5 ⟨rfl, X5, h5⟩; have H5 := Lib.hid h5; clear h5)
  refine hKq.out _ _ ?_ (fun hHeld => ?_)
  · exact ⟨cell_row (H5.out.last HJ.out) 0, by rw [HSD.out]; exact H5.out.kc.2⟩
  clear hKq Kq
  (try simp only [Act.put, tC, tD, tE])
  refine tA 10 ⟨some 17, .binOp .neq 23 (.tmp 11) (.tmp 16) 23, 4, "parts.go:106", #[⟨4, .data⟩, ⟨9, .data⟩], none⟩ ?vakm10 ?rakm10
  (try simp only [Act.put, tC, tD, tE])
  refine tA 11 ⟨some 18, .nilCheck (.tmp 7), 0, "parts.go:106", #[⟨0, .data⟩, ⟨0, .phase⟩, ⟨1, .phase⟩, ⟨2, .phase⟩, ⟨3, .phase⟩, ⟨4, .phase⟩, ⟨5, .phase⟩, ⟨6, .phase⟩, ⟨7, .phase⟩, ⟨8, .phase⟩, ⟨9, .phase⟩, ⟨10, .phase⟩], none⟩ ?vakm11 ?rakm11
  (try simp only [Act.put, tC, tD, tE])
  refine tA 12 ⟨some 19, .fieldAddr 262 (.tmp 18) 4, 0, "parts.go:106", #[⟨11, .data⟩, ⟨0, .phase⟩, ⟨1, .phase⟩, ⟨2, .phase⟩, ⟨3, .phase⟩, ⟨4, .phase⟩, ⟨5, .phase⟩, ⟨6, .phase⟩, ⟨7, .phase⟩, ⟨8, .phase⟩, ⟨9, .phase⟩, ⟨10, .phase⟩], none⟩ ?vakm12 ?rakm12
  (try simp only [Act.put, tC, tD, tE])
  refine wpAnyH_ready (rs := [13]) (by kernel_rfl) (by simp) ?_
  refine AllReadyH.cons (o := ⟨none, .store 4 (.tmp 19) (.tmp 17), 0, "parts.go:106", #[⟨12, .data⟩, ⟨10, .data⟩, ⟨4, .chain⟩, ⟨0, .phase⟩, ⟨1, .phase⟩, ⟨2, .phase⟩, ⟨3, .phase⟩, ⟨4, .phase⟩, ⟨5, .phase⟩, ⟨6, .phase⟩, ⟨7, .phase⟩, ⟨8, .phase⟩, ⟨9, .phase⟩, ⟨10, .phase⟩], none⟩) rfl (fun Kq hKq => ?_) AllReadyH.nil
  (have y1 := H5.out.c.2.2.2.2.2.2.2.1; have f1 := (H5.out.fz 7).1; go_simp; have h6 := H5.out.put 7 (.bool b) { Z with st := b } rfl rfl rfl rfl rfl; have H6 := Lib.hid h6; clear y1 f1 h6; generalize w5.setCell ⟨Z.B, 7, none⟩ (.bool b) = w6 at *)
  refine hKq.out _ _ ?_ (fun hHeld => ?_)
  · exact ⟨cell_row (H6.out.last HJ.out) 0, by rw [HSD.out]; exact H6.out.kc.2⟩
  clear hKq Kq
  (try simp only [Act.put, tC, tD, tE])
  refine wpAnyH_done (by kernel_rfl) ?_ _
  clear hHeld HLD HA
  go_wp2_with fail
  go_ret
  exact ⟨rfl, X5, H6.out.dropB HJ.out⟩
end
end Go.Proofs.YtieiiabbeglmfaaGreatDoor.S15
