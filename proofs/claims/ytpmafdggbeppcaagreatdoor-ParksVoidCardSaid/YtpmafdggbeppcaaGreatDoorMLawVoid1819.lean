/- Texts of this seat, one behind the other. -/
import Derived.Test.YtpmafdggbeppcaaGreatDoorMLawVoid184
import Derived.Test.YtpmafdggbeppcaaGreatDoorMLawVoid1818
set_option linter.unusedVariables false
set_option linter.unusedSimpArgs false
set_option linter.unusedVariables false
set_option linter.unusedSimpArgs false
namespace Go.Proofs.YtpmafdggbeppcaaGreatDoor.S15
set_option maxRecDepth 100000
set_option maxHeartbeats 16000000
open Go.Proofs.YtpmafdggbeppcaaGreatDoor Go.Proofs.YtpmafdggbeppcaaGreatDoor.S11 Go.Proofs.YtpmafdggbeppcaaGreatDoor.S12 Go.Proofs.YtpmafdggbeppcaaGreatDoor.S13 Go.Proofs.YtpmafdggbeppcaaGreatDoor.S14
open Go.RowKit
section
variable {w0 w w' : World} {base WB : Nat} {M : Sd} {r : List Part} {j : Nat} {o : Bool} {t kw tw : Nat} {Z : Wb} {X : Wm}
theorem Wy.pushB (h : Wy w0 w base WB M r j o t kw tw Z X) (ob : Obj) : Wy w0 (w.alloc ob) base WB M (r ++ [blockP w.heap.size ob]) j o t kw tw Z X := by
  have hp := h.pg.ps.push (blockP w.heap.size ob) (below1 w ob) (heap_alloc_new w ob) (fun k e => Nat.le_of_eq (show k = w.heap.size from e).symm)
  rw [List.append_assoc] at hp
  refine ⟨⟨?_, h.pg.wB, h.pg.xm, h.pg.bl.alloc h.pg.size _⟩, by rw [List.length_append]; have := h.hj; simp; omega⟩
  rw [List.set_append_left _ _ h.hj]
  exact hp
theorem Wy.dropB {q : Part} (h : Wy w0 w base WB M (r ++ [q]) j o t kw tw Z X) (hj : j < r.length) : Wy w0 w base WB M r j o t kw tw Z X := by
  have hp := h.pg.ps
  rw [List.set_append_left _ _ hj, ← List.append_assoc] at hp
  exact ⟨⟨Parts.left hp, h.pg.wB, h.pg.xm, h.pg.bl⟩, hj⟩
theorem Wy.last {Q : Nat} {ob : Obj} (h : Wy w0 w base WB M (r ++ [blockP Q ob]) j o t kw tw Z X) (hj : j < r.length) : w.heap[Q]? = some ob := by
  have hp := h.pg.ps
  rw [List.set_append_left _ _ hj, ← List.append_assoc] at hp
  refine hp.ok (X.parts ++ r.set j (wayP o t kw tw Z)).length (blockP Q ob) ?_
  rw [List.getElem?_append_right (Nat.le_refl _), Nat.sub_self]; rfl
theorem look_t (h : Wy w0 w base WB M r j o t kw tw Z X) (hn : M.n ≤ 1000000000) {x : Nat} (hx : x = S2.look M.L (0)) : Calls Tryz.prog 254 #[Pw Z.TB, Pw WB] w fun e w' => e = .returned (.int .u64 (x : Int)) ∧ ∃ X', Wy w0 w' base WB (M.acc 1 0 x) r j o t kw tw Z X' := by
  obtain ⟨cb, hcb⟩ : ∃ cb, X.cB = cb := ⟨_, rfl⟩
  have HCB := Lib.hid hcb
  have hd := h.new (Below.refl _ _).drew
  have hld : ∀ W X', Wy w0 W base WB M r j o t kw tw Z X' → X'.cB = cb → Calls Tryz.prog 243 #[Pw cb, .int .u32 0] W fun e w' => e = .returned (.int .u64 (x : Int)) ∧ ∃ X5, Wy w0 w' base WB (M.acc 1 0 x) r j o t kw tw Z X5 ∧ X5.cB = cb := fun W X' hW hc => by
    subst hc
    rw [hx]
    skip
    exact hW.load (a := 0) (by omega) hn
  have hlx : x < 18446744073709551616 := by
    have := S2.look_lt h.pg.pw.cells.good (0)
    rw [show X.L = M.L from congrArg Sd.L h.pg.xm] at this
    rw [hx]; exact this
  have c1 : w.cell? ⟨WB, 0, none⟩ = some (Pw cb) := by rw [← hcb]; exact h.pg.c.1
  have c2 : w.cell? ⟨Z.TB, 0, none⟩ = some (.int .u32 0) := by exact h.tc.1
  have HLD := Lib.hid (hld _ X hd hcb)
  clear h hd hcb hld hn hx hlx
  go_enter Tryz.func254, Tryz.ntmps254
  go_upto_region 1 with (fail)
  go_still_tail 8, (by kernel_rfl)
  change wpList _ _ _ _ _ w.drew
  go_upto_region 2 with (go_at_call 243; refine HLD.out.mono ?_; rintro e w1 ⟨rfl, X1, h1, _⟩; have H1 := Lib.hid h1; clear h1)
  clear c1 c2 HLD
  have c3 : w1.cell? ⟨Z.TB, 1, none⟩ = some (.bool false) := H1.out.ks.2
  go_wp2_with fail
  go_ret
  exact ⟨rfl, X1, H1.out⟩
theorem rstep_t (h : Wy w0 w base WB M r j o t kw tw Z X) (hn : M.n ≤ 1000000000) {x : Nat} (hx : x = S2.look M.L (0)) (s : Value) : Calls Tryz.prog 256 #[.agg #[Pw Z.TB], s, Pw WB] w fun e w' => e = .returned (.bool true) ∧ ∃ X', Wy w0 w' base WB (M.acc 1 0 x) r j o t kw x Z X' := by
  have hj := h.hj
  have hA := h.pushB (.cells #[Pw Z.TB] 283)
  obtain ⟨Q, hQ⟩ : ∃ Q, Q = w.heap.size := ⟨_, rfl⟩
  rw [← hQ] at hA
  obtain ⟨sd, hsd⟩ : ∃ sd, sd = tw := ⟨_, rfl⟩
  have HA := Lib.hid hA; have HJ := Lib.hid hj; have HQ := Lib.hid hQ; have HSD := Lib.hid hsd
  have HLD := Lib.hid (look_t (hA.new (Below.refl _ _).drew) hn hx)
  clear h hj hA hQ hx hn hsd
  go_enter Tryz.func256, Tryz.ntmps256
  go_upto_region 1 with (fail)
  rw [← HQ.out]
  generalize w.alloc (.cells #[Pw Z.TB] 283) = w1 at *
  refine wp_region_held_drew (S := fun w' => w'.cell? ⟨Q, 0, none⟩ = some (Pw Z.TB)) (by kernel_rfl) ?_ (fun hHeld => ?_)
  · exact cell_row ((HA.out.new (Below.refl _ _).drew).last HJ.out) 0
  refine tA 0 ⟨some 7, .fieldAddr 283 (.tmp 3) 0, 0, "parts.go:96", #[], none⟩ ?vrtm1 ?rrtm1
  (try simp only [Act.put, tC, tD, tE])
  refine tA 1 ⟨some 8, .load 271 (.tmp 7), 271, "parts.go:96", #[⟨0, .data⟩], none⟩ ?vrtm2 ?rrtm2
  (try simp only [Act.put, tC, tD, tE])
  refine tA 2 ⟨some 9, .fieldAddr 283 (.tmp 3) 0, 0, "parts.go:96", #[], none⟩ ?vrtm3 ?rrtm3
  (try simp only [Act.put, tC, tD, tE])
  refine tA 3 ⟨some 10, .load 271 (.tmp 9), 271, "parts.go:96", #[⟨2, .data⟩], none⟩ ?vrtm4 ?rrtm4
  (try simp only [Act.put, tC, tD, tE])
  refine tA 4 ⟨some 11, .move (.tmp 2), 24, "parts.go:96", #[], none⟩ ?vrtm5 ?rrtm5
  (try simp only [Act.put, tC, tD, tE])
  refine wpAnyH_ready (rs := [5]) (by kernel_rfl) (by simp) ?_
  refine AllReadyH.cons (o := ⟨some 12, .call ⟨.value (.func 254), #[.tmp 10, .tmp 11], #[271, 24]⟩, 29, "parts.go:96", #[⟨3, .data⟩, ⟨4, .data⟩], none⟩) rfl (fun Kq hKq => ?_) AllReadyH.nil
  go_simp
  (refine HLD.out.mono ?_; rintro e w5 ⟨rfl, X5, h5⟩; have H5 := Lib.hid h5; clear h5)
  refine hKq.out _ _ ?_ (fun hHeld => ?_)
  · exact cell_row (H5.out.last HJ.out) 0
  clear hKq Kq
  (try simp only [Act.put, tC, tD, tE])
  refine tA 6 ⟨some 13, .nilCheck (.tmp 8), 0, "parts.go:96", #[⟨1, .data⟩, ⟨0, .phase⟩, ⟨1, .phase⟩, ⟨2, .phase⟩, ⟨3, .phase⟩, ⟨4, .phase⟩, ⟨5, .phase⟩], none⟩ ?vrtm6 ?rrtm6
  (try simp only [Act.put, tC, tD, tE])
  refine tA 7 ⟨some 14, .fieldAddr 281 (.tmp 13) 2, 0, "parts.go:96", #[⟨6, .data⟩, ⟨0, .phase⟩, ⟨1, .phase⟩, ⟨2, .phase⟩, ⟨3, .phase⟩, ⟨4, .phase⟩, ⟨5, .phase⟩], none⟩ ?vrtm7 ?rrtm7
  (try simp only [Act.put, tC, tD, tE])
  refine wpAnyH_ready (rs := [8]) (by kernel_rfl) (by simp) ?_
  refine AllReadyH.cons (o := ⟨none, .store 29 (.tmp 14) (.tmp 12), 0, "parts.go:96", #[⟨7, .data⟩, ⟨5, .data⟩, ⟨5, .chain⟩, ⟨0, .phase⟩, ⟨1, .phase⟩, ⟨2, .phase⟩, ⟨3, .phase⟩, ⟨4, .phase⟩, ⟨5, .phase⟩], none⟩) rfl (fun Kq hKq => ?_) AllReadyH.nil
  (have y1 := H5.out.tc.2; have f1 := (H5.out.fz 2).2.2; go_simp; have h6 := H5.out.putT x; have H6 := Lib.hid h6; clear y1 f1 h6; generalize w5.setCell ⟨Z.TB, 2, none⟩ (.int .u64 (x : Int)) = w6 at *)
  refine hKq.out _ _ ?_ (fun hHeld => ?_)
  · exact cell_row (H6.out.last HJ.out) 0
  clear hKq Kq
  (try simp only [Act.put, tC, tD, tE])
  refine wpAnyH_done (by kernel_rfl) ?_ _
  clear hHeld HLD HA
  go_wp2_with fail
  go_ret
  exact ⟨rfl, X5, H6.out.dropB HJ.out⟩
theorem astep_t (h : Wy w0 w base WB M r j o t kw tw Z X) (hn : M.n ≤ 1000000000) {x : Nat} (hx : x = S2.look M.L (0)) {b : Bool} (hb : b = !decide (x = tw)) : Calls Tryz.prog 275 #[.agg #[Pw Z.TB], sP Z.B, Pw WB] w fun e w' => e = .returned (.bool true) ∧ ∃ X', Wy w0 w' base WB (M.acc 1 0 x) r j o t kw tw { Z with st := b } X' := by
  have hj := h.hj
  have hA := h.pushB (.cells #[Pw Z.TB] 287)
  obtain ⟨Q, hQ⟩ : ∃ Q, Q = w.heap.size := ⟨_, rfl⟩
  rw [← hQ] at hA
  obtain ⟨sd, hsd⟩ : ∃ sd, sd = tw := ⟨_, rfl⟩
  have HA := Lib.hid hA; have HJ := Lib.hid hj; have HQ := Lib.hid hQ; have HSD := Lib.hid hsd
  have HLD := Lib.hid (look_t (hA.new (Below.refl _ _).drew) hn hx)
  have hne : ((x : Int) != (sd : Int)) = b := by
    rw [hb, hsd]
    by_cases e : x = tw
    · rw [e]; simp
    · rw [decide_eq_false e]; simp; omega
  have hne2 : (!decide ((x : Int) = (sd : Int))) = b := by
    rw [hb, hsd]
    by_cases e : x = tw
    · rw [e]; simp
    · rw [decide_eq_false e, decide_eq_false (by omega)]
  clear h hj hA hQ hx hn hsd hb
  go_enter Tryz.func275, Tryz.ntmps275
  go_upto_region 1 with (fail)
  rw [← HQ.out]
  generalize w.alloc (.cells #[Pw Z.TB] 287) = w1 at *
  refine wp_region_held_drew (S := fun w' => w'.cell? ⟨Q, 0, none⟩ = some (Pw Z.TB) ∧ w'.cell? ⟨Z.TB, 2, none⟩ = some (.int .u64 (sd : Int))) (by kernel_rfl) ?_ (fun hHeld => ?_)
  · exact ⟨cell_row ((HA.out.new (Below.refl _ _).drew).last HJ.out) 0, by rw [HSD.out]; exact (HA.out.new (Below.refl _ _).drew).tc.2⟩
  refine tA 0 ⟨some 7, .move (.tmp 1), 391, "parts.go:106", #[], none⟩ ?vatm1 ?ratm1
  (try simp only [Act.put, tC, tD, tE])
  refine tA 1 ⟨some 8, .fieldAddr 287 (.tmp 3) 0, 0, "parts.go:106", #[], none⟩ ?vatm2 ?ratm2
  (try simp only [Act.put, tC, tD, tE])
  refine tA 2 ⟨some 9, .load 271 (.tmp 8), 271, "parts.go:106", #[⟨1, .data⟩], none⟩ ?vatm3 ?ratm3
  (try simp only [Act.put, tC, tD, tE])
  refine tA 3 ⟨some 10, .move (.tmp 2), 24, "parts.go:106", #[], none⟩ ?vatm4 ?ratm4
  (try simp only [Act.put, tC, tD, tE])
  refine tA 5 ⟨some 12, .fieldAddr 287 (.tmp 3) 0, 0, "parts.go:106", #[], none⟩ ?vatm5 ?ratm5
  (try simp only [Act.put, tC, tD, tE])
  refine tA 6 ⟨some 13, .load 271 (.tmp 12), 271, "parts.go:106", #[⟨5, .data⟩], none⟩ ?vatm6 ?ratm6
  (try simp only [Act.put, tC, tD, tE])
  refine tA 7 ⟨some 14, .nilCheck (.tmp 13), 0, "parts.go:106", #[⟨6, .data⟩], none⟩ ?vatm7 ?ratm7
  (try simp only [Act.put, tC, tD, tE])
  refine tA 8 ⟨some 15, .fieldAddr 281 (.tmp 14) 2, 0, "parts.go:106", #[⟨7, .data⟩], none⟩ ?vatm8 ?ratm8
  (try simp only [Act.put, tC, tD, tE])
  refine tA 9 ⟨some 16, .load 29 (.tmp 15), 29, "parts.go:106", #[⟨8, .data⟩], none⟩ ?vatm9 ?ratm9
  (try simp only [Act.put, tC, tD, tE])
  refine wpAnyH_ready (rs := [4]) (by kernel_rfl) (by simp) ?_
  refine AllReadyH.cons (o := ⟨some 11, .call ⟨.value (.func 254), #[.tmp 9, .tmp 10], #[271, 24]⟩, 29, "parts.go:106", #[⟨2, .data⟩, ⟨3, .data⟩], none⟩) rfl (fun Kq hKq => ?_) AllReadyH.nil
  go_simp
  (refine HLD.out.mono ?_; rintro e w5 ⟨rfl, X5, h5⟩; have H5 := Lib.hid h5; clear h5)
  refine hKq.out _ _ ?_ (fun hHeld => ?_)
  · exact ⟨cell_row (H5.out.last HJ.out) 0, by rw [HSD.out]; exact H5.out.tc.2⟩
  clear hKq Kq
  (try simp only [Act.put, tC, tD, tE])
  refine tA 10 ⟨some 17, .binOp .neq 29 (.tmp 11) (.tmp 16) 29, 4, "parts.go:106", #[⟨4, .data⟩, ⟨9, .data⟩], none⟩ ?vatm10 ?ratm10
  (try simp only [Act.put, tC, tD, tE])
  refine tA 11 ⟨some 18, .nilCheck (.tmp 7), 0, "parts.go:106", #[⟨0, .data⟩, ⟨0, .phase⟩, ⟨1, .phase⟩, ⟨2, .phase⟩, ⟨3, .phase⟩, ⟨4, .phase⟩, ⟨5, .phase⟩, ⟨6, .phase⟩, ⟨7, .phase⟩, ⟨8, .phase⟩, ⟨9, .phase⟩, ⟨10, .phase⟩], none⟩ ?vatm11 ?ratm11
  (try simp only [Act.put, tC, tD, tE])
  refine tA 12 ⟨some 19, .fieldAddr 275 (.tmp 18) 4, 0, "parts.go:106", #[⟨11, .data⟩, ⟨0, .phase⟩, ⟨1, .phase⟩, ⟨2, .phase⟩, ⟨3, .phase⟩, ⟨4, .phase⟩, ⟨5, .phase⟩, ⟨6, .phase⟩, ⟨7, .phase⟩, ⟨8, .phase⟩, ⟨9, .phase⟩, ⟨10, .phase⟩], none⟩ ?vatm12 ?ratm12
  (try simp only [Act.put, tC, tD, tE])
  refine wpAnyH_ready (rs := [13]) (by kernel_rfl) (by simp) ?_
  refine AllReadyH.cons (o := ⟨none, .store 4 (.tmp 19) (.tmp 17), 0, "parts.go:106", #[⟨12, .data⟩, ⟨10, .data⟩, ⟨4, .chain⟩, ⟨0, .phase⟩, ⟨1, .phase⟩, ⟨2, .phase⟩, ⟨3, .phase⟩, ⟨4, .phase⟩, ⟨5, .phase⟩, ⟨6, .phase⟩, ⟨7, .phase⟩, ⟨8, .phase⟩, ⟨9, .phase⟩, ⟨10, .phase⟩], none⟩) rfl (fun Kq hKq => ?_) AllReadyH.nil
  (have y1 := H5.out.c.2.2.2.2.2.2.2.1; have f1 := (H5.out.fz 7).1; go_simp; have h6 := H5.out.put 7 (.bool b) { Z with st := b } rfl rfl rfl rfl rfl; have H6 := Lib.hid h6; clear y1 f1 h6; generalize w5.setCell ⟨Z.B, 7, none⟩ (.bool b) = w6 at *)
  refine hKq.out _ _ ?_ (fun hHeld => ?_)
  · exact ⟨cell_row (H6.out.last HJ.out) 0, by rw [HSD.out]; exact H6.out.tc.2⟩
  clear hKq Kq
  (try simp only [Act.put, tC, tD, tE])
  refine wpAnyH_done (by kernel_rfl) ?_ _
  clear hHeld HLD HA
  go_wp2_with fail
  go_ret
  exact ⟨rfl, X5, H6.out.dropB HJ.out⟩
end
end Go.Proofs.YtpmafdggbeppcaaGreatDoor.S15
set_option linter.unusedVariables false
set_option linter.unusedSimpArgs false
namespace Go.Proofs.YtpmafdggbeppcaaGreatDoor.S15
set_option maxRecDepth 100000
set_option maxHeartbeats 16000000
open Go.Proofs.YtpmafdggbeppcaaGreatDoor Go.Proofs.YtpmafdggbeppcaaGreatDoor.S11 Go.Proofs.YtpmafdggbeppcaaGreatDoor.S12 Go.Proofs.YtpmafdggbeppcaaGreatDoor.S13 Go.Proofs.YtpmafdggbeppcaaGreatDoor.S14
open Go.RowKit
theorem m_lover (a : Addr) (w : World) : (method 515 394 (.pointer (some a)) "Over").run Tryz.prog w = .ok (291, .pointer (some a)) w := by kernel_rfl
theorem set_eq {l : List Part} {i : Nat} {p : Part} (h : l[i]? = some p) : l.set i p = l := by
  apply List.ext_getElem?
  intro k
  by_cases e : k = i
  · subst e
    rw [List.getElem?_set_self (List.getElem?_eq_some_iff.1 h).1, h]
  · rw [List.getElem?_set_ne (fun x => e x.symm)]
section
variable {w0 w w' : World} {base WB : Nat} {M : Sd} {r : List Part} {j u U : Nat} {o : Bool} {t kw tw : Nat} {Z : Wb} {X : Wm}
theorem Wy.newU (h : Wy w0 w base WB M r j o t kw tw Z X) (hju : j ≠ u) (hu : u < r.length) (ob : Obj) : Wy w0 (w.alloc ob) base WB M (r.set u (blockP w.heap.size ob)) j o t kw tw Z X := by
  have e : (r.set j (wayP o t kw tw Z))[u]? = r[u]? := List.getElem?_set_ne hju
  have hp : (r.set j (wayP o t kw tw Z))[u]? = some r[u] := by rw [e]; exact List.getElem?_eq_getElem hu
  have h2 := h.pg.turn hp (blockP w.heap.size ob) (heap_alloc_new w ob) ((Turns.refl _ w).alloc ob) (fun k e => .inr (Nat.le_of_eq (show k = w.heap.size from e).symm))
  rw [List.set_comm _ _ hju] at h2
  exact ⟨h2, by rw [List.length_set]; exact h.hj⟩
theorem Wy.lock {K : Lk} (h : Wy w0 w base WB M r j o t kw tw Z X) (hju : j ≠ u) (hu : r[u]? = some (lockP U K)) : Wl w0 w base WB M (r.set j (wayP o t kw tw Z)) u U K X := by
  have e : (r.set j (wayP o t kw tw Z))[u]? = some (lockP U K) := (List.getElem?_set_ne hju).trans hu
  exact ⟨by rw [set_eq e]; exact h.pg, (List.getElem?_eq_some_iff.1 e).1⟩
theorem wy_lock {K : Lk} (h : Wl w0 w base WB M (r.set j (wayP o t kw tw Z)) u U K X) (hju : j ≠ u) (hj : j < r.length) : Wy w0 w base WB M (r.set u (lockP U K)) j o t kw tw Z X := by
  have hp := h.pg
  rw [List.set_comm _ _ hju] at hp
  exact ⟨hp, by rw [List.length_set]; exact hj⟩
theorem Wy.held (h : Wy w0 w base WB M r j o t kw tw Z X) : w.cell? ⟨Z.B, 3, none⟩ = some (Pw Z.KB) ∧ w.cell? ⟨Z.KB, 2, none⟩ = some (.int .u64 (kw : Int)) ∧ w.cell? ⟨Z.B, 4, none⟩ = some (Pw Z.TB) ∧ w.cell? ⟨Z.TB, 2, none⟩ = some (.int .u64 (tw : Int)) := ⟨h.c.2.2.2.1, h.kc.2, h.c.2.2.2.2.1, h.tc.2⟩
theorem tbegin_any (h : Wy w0 w base WB M r j o t kw tw Z X) (hju : j ≠ u) (hu : u < r.length) (ht : t < 64) (hk : kw < 18446744073709551616) (hw : tw < 18446744073709551616) :
    Calls Tryz.prog 258 #[.agg #[], sP Z.B] w fun e w' => e = .returned (.bool true) ∧ ∃ UB, Wy w0 w' base WB M (r.set u (lockP UB (lk1 t (lokN (kw % 4294967296) tw)))) j o t kw tw { Z with pb := (bitsN tw : Int), pi := (bktN (kw % 4294967296) tw : Int), uv := lockU UB } X := by
  have h1 := h.new (below1 w (.cells #[] 286))
  obtain ⟨key, hkey⟩ : ∃ key, key = kw % 4294967296 := ⟨_, rfl⟩
  rw [← hkey]
  have hk2 : key < 4294967296 := by rw [hkey]; omega
  have ew : IntKind.u32.wrap (kw : Int) = (key : Int) := by rw [IntKind.wrap_u32, hkey]; omega
  have hpl := fun W => place_any key tw hk2 hw W
  have hlk := fun W => lockOf_any (bitsN tw : Int) (bktN key tw : Int) W
  have hlo := lok_lock key tw
  rw [hlo] at hlk
  obtain ⟨a, ha⟩ : ∃ a, a = lokN key tw := ⟨_, rfl⟩
  rw [← ha] at hlk ⊢
  have hnl : ∀ W, Calls Tryz.prog 259 #[.int .i64 (t : Int), .int .u32 (a : Int)] W fun e w' => e = .returned (Pw W.heap.size) ∧ w' = W.alloc (.cells (lk1 t a).cs 401) := fun W => by
    have := new_lock (t : Int) a W
    rwa [show newK (t : Int) a = lk1 t a by unfold newK; rw [if_pos ⟨by omega, by omega⟩]; rfl] at this
  unfold placeV at hpl
  obtain ⟨b, hb⟩ : ∃ b, b = bitsN tw := ⟨_, rfl⟩
  obtain ⟨k, hkk⟩ : ∃ k, k = bktN key tw := ⟨_, rfl⟩
  rw [← hb, ← hkk] at hpl hlk
  rw [← hb, ← hkk]
  have HPL := Lib.hid hpl; have HLK := Lib.hid hlk; have HNL := Lib.hid hnl; have H1 := Lib.hid h1; have HJU := Lib.hid hju; have HU := Lib.hid hu
  clear h h1 hju hu ht hk hw hkey hk2 hpl hlk hlo hnl ha hb hkk
  go_enter Tryz.func258, Tryz.ntmps258
  go_upto_region 1 with (fail)
  generalize w.alloc (.cells #[] 286) = w1 at *
  refine wp_region_held_drew (S := fun w' => w'.cell? ⟨Z.B, 3, none⟩ = some (Pw Z.KB) ∧ w'.cell? ⟨Z.KB, 2, none⟩ = some (.int .u64 (kw : Int)) ∧ w'.cell? ⟨Z.B, 4, none⟩ = some (Pw Z.TB) ∧ w'.cell? ⟨Z.TB, 2, none⟩ = some (.int .u64 (tw : Int))) (by kernel_rfl) ?_ (fun hHeld => ?_)
  · exact (H1.out.new (Below.refl _ _).drew).held
  refine tA 0 ⟨some 5, .move (.tmp 1), 391, "parts.go:119", #[], none⟩ ?vt1m1 ?rt1m1
  (try simp only [Act.put, tC, tD, tE])
  refine tA 1 ⟨some 6, .move (.tmp 1), 391, "parts.go:119", #[], none⟩ ?vt1m2 ?rt1m2
  (try simp only [Act.put, tC, tD, tE])
  refine tA 2 ⟨some 7, .nilCheck (.tmp 6), 0, "parts.go:119", #[⟨1, .data⟩], none⟩ ?vt1m3 ?rt1m3
  (try simp only [Act.put, tC, tD, tE])
  refine tA 3 ⟨some 8, .fieldAddr 275 (.tmp 7) 1, 0, "parts.go:119", #[⟨2, .data⟩], none⟩ ?vt1m4 ?rt1m4
  (try simp only [Act.put, tC, tD, tE])
  refine tA 4 ⟨some 9, .load 271 (.tmp 8), 271, "parts.go:119", #[⟨3, .data⟩], none⟩ ?vt1m5 ?rt1m5
  (try simp only [Act.put, tC, tD, tE])
  refine tA 5 ⟨some 10, .nilCheck (.tmp 9), 0, "parts.go:119", #[⟨4, .data⟩], none⟩ ?vt1m6 ?rt1m6
  (try simp only [Act.put, tC, tD, tE])
  refine tA 6 ⟨some 11, .fieldAddr 281 (.tmp 10) 2, 0, "parts.go:119", #[⟨5, .data⟩], none⟩ ?vt1m7 ?rt1m7
  (try simp only [Act.put, tC, tD, tE])
  refine tA 7 ⟨some 12, .load 29 (.tmp 11), 29, "parts.go:119", #[⟨6, .data⟩], none⟩ ?vt1m8 ?rt1m8
  (try simp only [Act.put, tC, tD, tE])
  refine tA 8 ⟨some 13, .convert 29 23 (.tmp 12), 23, "parts.go:119", #[⟨7, .data⟩], none⟩ ?vt1m9 ?rt1m9
  (try simp only [Act.put, tC, tD, tE])
  refine tA 9 ⟨some 14, .move (.tmp 1), 391, "parts.go:119", #[], none⟩ ?vt1m10 ?rt1m10
  (try simp only [Act.put, tC, tD, tE])
  refine tA 10 ⟨some 15, .nilCheck (.tmp 14), 0, "parts.go:119", #[⟨9, .data⟩], none⟩ ?vt1m11 ?rt1m11
  (try simp only [Act.put, tC, tD, tE])
  refine tA 11 ⟨some 16, .fieldAddr 275 (.tmp 15) 2, 0, "parts.go:119", #[⟨10, .data⟩], none⟩ ?vt1m12 ?rt1m12
  (try simp only [Act.put, tC, tD, tE])
  refine tA 12 ⟨some 17, .load 271 (.tmp 16), 271, "parts.go:119", #[⟨11, .data⟩], none⟩ ?vt1m13 ?rt1m13
  (try simp only [Act.put, tC, tD, tE])
  refine tA 13 ⟨some 18, .nilCheck (.tmp 17), 0, "parts.go:119", #[⟨12, .data⟩], none⟩ ?vt1m14 ?rt1m14
  (try simp only [Act.put, tC, tD, tE])
  refine tA 14 ⟨some 19, .fieldAddr 281 (.tmp 18) 2, 0, "parts.go:119", #[⟨13, .data⟩], none⟩ ?vt1m15 ?rt1m15
  (try simp only [Act.put, tC, tD, tE])
  refine tA 15 ⟨some 20, .load 29 (.tmp 19), 29, "parts.go:119", #[⟨14, .data⟩], none⟩ ?vt1m16 ?rt1m16
  (try simp only [Act.put, tC, tD, tE])
  refine wpAnyH_ready (rs := [16]) (by kernel_rfl) (by simp) ?_
  refine AllReadyH.cons (o := ⟨some 21, .call ⟨.value (.func 64), #[.tmp 13, .tmp 20], #[23, 29]⟩, 45, "parts.go:119", #[⟨8, .data⟩, ⟨15, .data⟩], none⟩) rfl (fun Kq hKq => ?_) AllReadyH.nil
  go_simp
  (refine (HPL.out _).mono ?_; rintro e w4 ⟨rfl, hb4⟩; have H4 := Lib.hid (H1.out.new ((Below.refl _ _).drew.trans hb4)); clear hb4)
  refine hKq.out _ _ ?_ (fun hHeld => ?_)
  · exact H4.out.held
  clear hKq Kq
  (try simp only [Act.put, tC, tD, tE])
  refine tA 17 ⟨some 22, .nilCheck (.tmp 5), 0, "parts.go:119", #[⟨0, .data⟩, ⟨0, .phase⟩, ⟨1, .phase⟩, ⟨2, .phase⟩, ⟨3, .phase⟩, ⟨4, .phase⟩, ⟨5, .phase⟩, ⟨6, .phase⟩, ⟨7, .phase⟩, ⟨8, .phase⟩, ⟨9, .phase⟩, ⟨10, .phase⟩, ⟨11, .phase⟩, ⟨12, .phase⟩, ⟨13, .phase⟩, ⟨14, .phase⟩, ⟨15, .phase⟩, ⟨16, .phase⟩], none⟩ ?vt1m17 ?rt1m17
  (try simp only [Act.put, tC, tD, tE])
  refine tA 18 ⟨some 23, .fieldAddr 275 (.tmp 22) 3, 0, "parts.go:119", #[⟨17, .data⟩, ⟨0, .phase⟩, ⟨1, .phase⟩, ⟨2, .phase⟩, ⟨3, .phase⟩, ⟨4, .phase⟩, ⟨5, .phase⟩, ⟨6, .phase⟩, ⟨7, .phase⟩, ⟨8, .phase⟩, ⟨9, .phase⟩, ⟨10, .phase⟩, ⟨11, .phase⟩, ⟨12, .phase⟩, ⟨13, .phase⟩, ⟨14, .phase⟩, ⟨15, .phase⟩, ⟨16, .phase⟩], none⟩ ?vt1m18 ?rt1m18
  (try simp only [Act.put, tC, tD, tE])
  refine wpAnyH_ready (rs := [19]) (by kernel_rfl) (by simp) ?_
  refine AllReadyH.cons (o := ⟨none, .store 45 (.tmp 23) (.tmp 21), 0, "parts.go:119", #[⟨18, .data⟩, ⟨16, .data⟩, ⟨16, .chain⟩, ⟨0, .phase⟩, ⟨1, .phase⟩, ⟨2, .phase⟩, ⟨3, .phase⟩, ⟨4, .phase⟩, ⟨5, .phase⟩, ⟨6, .phase⟩, ⟨7, .phase⟩, ⟨8, .phase⟩, ⟨9, .phase⟩, ⟨10, .phase⟩, ⟨11, .phase⟩, ⟨12, .phase⟩, ⟨13, .phase⟩, ⟨14, .phase⟩, ⟨15, .phase⟩, ⟨16, .phase⟩], none⟩) rfl (fun Kq hKq => ?_) AllReadyH.nil
  (have y5 := H4.out.c.2.2.2.2.2.1; have y6 := H4.out.c.2.2.2.2.2.2.1; have f5 := (H4.out.fz 5).1; have f6 := (H4.out.fz 6).1; go_simp; have h5 := (H4.out.put 5 (.int .i64 (b : Int)) { Z with pb := (b : Int) } rfl rfl rfl rfl rfl).put 6 (.int .i64 (k : Int)) { Z with pb := (b : Int), pi := (k : Int) } rfl rfl rfl rfl rfl; have H5 := Lib.hid h5; clear y5 y6 f5 f6 h5; generalize (w4.setCell ⟨Z.B, 5, none⟩ (.int .i64 (b : Int))).setCell ⟨Z.B, 6, none⟩ (.int .i64 (k : Int)) = w5 at *)
  refine hKq.out _ _ ?_ (fun hHeld => ?_)
  · exact H5.out.held
  clear hKq Kq
  (try simp only [Act.put, tC, tD, tE])
  refine wpAnyH_done (by kernel_rfl) ?_ _
  clear hHeld HPL H4 H1
  go_upto_region 2 with (fail)
  refine wp_region_held_drew (S := fun w' => w'.cell? ⟨Z.B, 2, none⟩ = some (.int .i64 (t : Int)) ∧ w'.cell? ⟨Z.B, 5, none⟩ = some (.int .i64 (b : Int)) ∧ w'.cell? ⟨Z.B, 6, none⟩ = some (.int .i64 (k : Int))) (by kernel_rfl) ?_ (fun hHeld => ?_)
  · exact ⟨(H5.out.new (Below.refl _ _).drew).c.2.2.1, (H5.out.new (Below.refl _ _).drew).c.2.2.2.2.2.1, (H5.out.new (Below.refl _ _).drew).c.2.2.2.2.2.2.1⟩
  refine tA 0 ⟨some 24, .move (.tmp 1), 391, "parts.go:120", #[], none⟩ ?vt2m1 ?rt2m1
  (try simp only [Act.put, tC, tD, tE])
  refine tA 1 ⟨some 25, .move (.tmp 1), 391, "parts.go:120", #[], none⟩ ?vt2m2 ?rt2m2
  (try simp only [Act.put, tC, tD, tE])
  refine tA 2 ⟨some 26, .nilCheck (.tmp 25), 0, "parts.go:120", #[⟨1, .data⟩], none⟩ ?vt2m3 ?rt2m3
  (try simp only [Act.put, tC, tD, tE])
  refine tA 3 ⟨some 27, .fieldAddr 275 (.tmp 26) 0, 0, "parts.go:120", #[⟨2, .data⟩], none⟩ ?vt2m4 ?rt2m4
  (try simp only [Act.put, tC, tD, tE])
  refine tA 4 ⟨some 28, .load 3 (.tmp 27), 3, "parts.go:120", #[⟨3, .data⟩], none⟩ ?vt2m5 ?rt2m5
  (try simp only [Act.put, tC, tD, tE])
  refine tA 5 ⟨some 29, .move (.tmp 1), 391, "parts.go:120", #[], none⟩ ?vt2m6 ?rt2m6
  (try simp only [Act.put, tC, tD, tE])
  refine tA 6 ⟨some 30, .nilCheck (.tmp 29), 0, "parts.go:120", #[⟨5, .data⟩], none⟩ ?vt2m7 ?rt2m7
  (try simp only [Act.put, tC, tD, tE])
  refine tA 7 ⟨some 31, .fieldAddr 275 (.tmp 30) 3, 0, "parts.go:120", #[⟨6, .data⟩], none⟩ ?vt2m8 ?rt2m8
  (try simp only [Act.put, tC, tD, tE])
  refine tA 8 ⟨some 32, .load 45 (.tmp 31), 45, "parts.go:120", #[⟨7, .data⟩], none⟩ ?vt2m9 ?rt2m9
  (try simp only [Act.put, tC, tD, tE])
  refine wpAnyH_ready (rs := [9]) (by kernel_rfl) (by simp) ?_
  refine AllReadyH.cons (o := ⟨some 33, .call ⟨.value (.func 177), #[.tmp 32], #[45]⟩, 23, "parts.go:120", #[⟨8, .data⟩], none⟩) rfl (fun Kq hKq => ?_) AllReadyH.nil
  go_simp
  (refine (HLK.out _).mono ?_; rintro e w6 ⟨rfl, hb6⟩; have H6 := Lib.hid (H5.out.new ((Below.refl _ _).drew.trans hb6)); clear hb6)
  refine hKq.out _ _ ?_ (fun hHeld => ?_)
  · exact ⟨H6.out.c.2.2.1, H6.out.c.2.2.2.2.2.1, H6.out.c.2.2.2.2.2.2.1⟩
  clear hKq Kq
  (try simp only [Act.put, tC, tD, tE])
  refine wpAnyH_ready (rs := [10]) (by kernel_rfl) (by simp) ?_
  refine AllReadyH.cons (o := ⟨some 34, .call ⟨.value (.func 259), #[.tmp 28, .tmp 33], #[3, 23]⟩, 394, "parts.go:120", #[⟨4, .data⟩, ⟨9, .data⟩, ⟨9, .chain⟩], none⟩) rfl (fun Kq hKq => ?_) AllReadyH.nil
  go_simp
  (refine (HNL.out _).mono ?_; rintro e w7 ⟨rfl, rfl⟩; obtain ⟨UB, hUB⟩ : ∃ UB, UB = w6.heap.size := ⟨_, rfl⟩; rw [← hUB]; have h7 := H6.out.newU HJU.out HU.out (.cells (lk1 t a).cs 401); rw [← hUB] at h7; have H7 := Lib.hid h7; clear h7 hUB; generalize w6.alloc (.cells (lk1 t a).cs 401) = w7 at *)
  refine hKq.out _ _ ?_ (fun hHeld => ?_)
  · exact ⟨H7.out.c.2.2.1, H7.out.c.2.2.2.2.2.1, H7.out.c.2.2.2.2.2.2.1⟩
  clear hKq Kq
  (try simp only [Act.put, tC, tD, tE])
  refine tA 11 ⟨some 35, .makeInterface 394 (.tmp 34), 273, "parts.go:120", #[⟨10, .data⟩], none⟩ ?vt2m10 ?rt2m10
  (try simp only [Act.put, tC, tD, tE])
  refine tA 12 ⟨some 36, .nilCheck (.tmp 24), 0, "parts.go:120", #[⟨0, .data⟩, ⟨0, .phase⟩, ⟨1, .phase⟩, ⟨2, .phase⟩, ⟨3, .phase⟩, ⟨4, .phase⟩, ⟨5, .phase⟩, ⟨6, .phase⟩, ⟨7, .phase⟩, ⟨8, .phase⟩, ⟨9, .phase⟩, ⟨10, .phase⟩, ⟨11, .phase⟩], none⟩ ?vt2m11 ?rt2m11
  (try simp only [Act.put, tC, tD, tE])
  refine tA 13 ⟨some 37, .fieldAddr 275 (.tmp 36) 5, 0, "parts.go:120", #[⟨12, .data⟩, ⟨0, .phase⟩, ⟨1, .phase⟩, ⟨2, .phase⟩, ⟨3, .phase⟩, ⟨4, .phase⟩, ⟨5, .phase⟩, ⟨6, .phase⟩, ⟨7, .phase⟩, ⟨8, .phase⟩, ⟨9, .phase⟩, ⟨10, .phase⟩, ⟨11, .phase⟩], none⟩ ?vt2m12 ?rt2m12
  (try simp only [Act.put, tC, tD, tE])
  refine wpAnyH_ready (rs := [14]) (by kernel_rfl) (by simp) ?_
  refine AllReadyH.cons (o := ⟨none, .store 273 (.tmp 37) (.tmp 35), 0, "parts.go:120", #[⟨13, .data⟩, ⟨11, .data⟩, ⟨10, .chain⟩, ⟨0, .phase⟩, ⟨1, .phase⟩, ⟨2, .phase⟩, ⟨3, .phase⟩, ⟨4, .phase⟩, ⟨5, .phase⟩, ⟨6, .phase⟩, ⟨7, .phase⟩, ⟨8, .phase⟩, ⟨9, .phase⟩, ⟨10, .phase⟩, ⟨11, .phase⟩], none⟩) rfl (fun Kq hKq => ?_) AllReadyH.nil
  (have y8 := H7.out.c.2.2.2.2.2.2.2.2; have f8 := (H7.out.fz 8).1; go_simp; have h8 := H7.out.put 8 (lockU UB) { Z with pb := (b : Int), pi := (k : Int), uv := lockU UB } rfl rfl rfl rfl rfl; have H8 := Lib.hid h8; clear y8 f8 h8; generalize w7.setCell ⟨Z.B, 8, none⟩ (lockU UB) = w8 at *)
  refine hKq.out _ _ ?_ (fun hHeld => ?_)
  · exact ⟨H8.out.c.2.2.1, H8.out.c.2.2.2.2.2.1, H8.out.c.2.2.2.2.2.2.1⟩
  clear hKq Kq
  (try simp only [Act.put, tC, tD, tE])
  refine wpAnyH_done (by kernel_rfl) ?_ _
  clear hHeld HLK HNL H5 H6 H7
  have y8 := H8.out.c.2.2.2.2.2.2.2.2
  have hov := over_any (w := w8) (B := UB) (K := lk1 t a) (by
    have := (H8.out.lock (u := u) (U := UB) (K := lk1 t a) HJU.out (by exact List.getElem?_set_self HU.out)).at
    exact this) (by show 1 ≤ 6; omega)
  rw [show decide ((lk1 t a).ln = 0) = false from rfl] at hov
  have HOV := Lib.hid hov
  have hm1 := m_lover ⟨UB, 0, none⟩
  clear hov
  go_upto_region 3 with (fail)
  go_wp2_with (go_at_call 291; refine HOV.out.mono ?_; rintro e w9 ⟨rfl, rfl⟩)
  go_ret
  exact ⟨rfl, UB, H8.out⟩
theorem lbegin_no (h : Wy w0 w base WB M r j o t kw tw Z X) (hs : Z.st = false) : Calls Tryz.prog 276 #[.agg #[], sP Z.B] w fun e w' => e = .returned (.bool false) ∧ Below w.heap.size w w' := by
  have hb := below1 w (.cells #[] 288)
  have h1 := h.new hb
  have c7 := h1.c.2.2.2.2.2.2.2.1
  rw [hs] at c7
  have HB := Lib.hid hb
  clear h h1 hb hs
  go_enter Tryz.func276, Tryz.ntmps276
  go_upto_region 1 with (fail)
  generalize w.alloc (.cells #[] 288) = w1 at *
  go_wp2_with fail
  go_ret
  exact ⟨rfl, HB.out⟩
end
end Go.Proofs.YtpmafdggbeppcaaGreatDoor.S15
set_option linter.unusedVariables false
set_option linter.unusedSimpArgs false
namespace Go.Proofs.YtpmafdggbeppcaaGreatDoor.S15
open Go.Proofs.YtpmafdggbeppcaaGreatDoor Go.Proofs.YtpmafdggbeppcaaGreatDoor.S11 Go.Proofs.YtpmafdggbeppcaaGreatDoor.S12 Go.Proofs.YtpmafdggbeppcaaGreatDoor.S13 Go.Proofs.YtpmafdggbeppcaaGreatDoor.S14
open Go.RowKit
def to1 (J0 : Act → World → Prop) (Q : Exit → Act → World → Prop) : Exit → Act → World → Prop
  | .goto l, a, w => l = 0 ∧ J0 a w
  | e, a, w => Q e a w
theorem wp_scope_one {P : Program} {a : Act} {w : World} {Q : Exit → Act → World → Prop} {c r0 : Code} (hf0 : findLabel c 0 = some r0)
    (first : c.wp P (to1 (fun a w => r0.wp P (Exit.noGoto Q) a w) Q) a w) : (Code.scope c).wp P Q a w := by
  intro b k cs
  have key : ∀ (rest : Code) (a : Act) (w : World) (l : Nat), gotoIn l (.inScope c :: k) = some (.code rest :: .inScope c :: k) → rest.wp P (Exit.noGoto Q) a w →
      ∃ e a' w', Q e a' w' ∧ Arrives P (lone (b.at a (.code rest :: .inScope c :: k)) cs w) b k cs e a' w' := by
    intro rest a w l hg h
    obtain ⟨e, a₁, w₁, hq, harr⟩ := h b (.inScope c :: k) cs
    cases e with
    | normal => exact ⟨.normal, a₁, w₁, hq, Steps.trans harr (.one step_inScope)⟩
    | exit id => exact ⟨.exit id, a₁, w₁, hq, fun k' hk => harr k' (by simp [exitTo, hk])⟩
    | goto l' => exact hq.elim
    | ret => exact ⟨_, a₁, w₁, hq, harr⟩
    | panic ch => exact ⟨_, a₁, w₁, hq, harr⟩
    | outgrown => exact ⟨_, a₁, w₁, hq, harr⟩
  obtain ⟨e, a₁, w₁, hq, harr⟩ := first b (.inScope c :: k) cs
  cases e with
  | normal => exact ⟨.normal, a₁, w₁, hq, .head step_scope (Steps.trans harr (.one step_inScope))⟩
  | exit id => exact ⟨.exit id, a₁, w₁, hq, fun k' hk => .head step_scope (harr k' (by simp [exitTo, hk]))⟩
  | goto l =>
    obtain ⟨rfl, h⟩ := hq
    have hg : gotoIn 0 (.inScope c :: k) = some (.code r0 :: .inScope c :: k) := by simp [gotoIn, hf0]
    obtain ⟨e₂, a₂, w₂, hq₂, harr₂⟩ := key _ _ _ 0 hg h
    exact ⟨e₂, a₂, w₂, hq₂, .of_steps (.head step_scope (harr _ hg)) harr₂⟩
  | ret => exact ⟨_, a₁, w₁, hq, .of_steps (.one step_scope) harr⟩
  | panic ch => exact ⟨_, a₁, w₁, hq, .of_steps (.one step_scope) harr⟩
  | outgrown => exact ⟨_, a₁, w₁, hq, .of_steps (.one step_scope) harr⟩
theorem m_rstep (B : Nat) (w : World) : (method 515 283 (.agg #[Pw B]) "layby/buckets.step").run Tryz.prog w = .ok (256, .agg #[Pw B]) w := by kernel_rfl
theorem m_astep (B : Nat) (w : World) : (method 515 287 (.agg #[Pw B]) "layby/buckets.step").run Tryz.prog w = .ok (275, .agg #[Pw B]) w := by kernel_rfl
theorem m_tstep (w : World) : (method 515 286 (.agg #[]) "layby/buckets.step").run Tryz.prog w = .ok (257, .agg #[]) w := by kernel_rfl
theorem m_abeg (B : Nat) (w : World) : (method 515 287 (.agg #[Pw B]) "layby/buckets.begin").run Tryz.prog w = .ok (274, .agg #[Pw B]) w := by kernel_rfl
theorem m_tbeg (w : World) : (method 515 286 (.agg #[]) "layby/buckets.begin").run Tryz.prog w = .ok (258, .agg #[]) w := by kernel_rfl
theorem m_lbeg (w : World) : (method 515 288 (.agg #[]) "layby/buckets.begin").run Tryz.prog w = .ok (276, .agg #[]) w := by kernel_rfl
section
variable {w0 w w' : World} {base WB : Nat} {M : Sd} {r : List Part} {j u U : Nat} {o : Bool} {t kw tw : Nat} {Z : Wb} {X : Wm}
theorem Wy.pcell (h : Wy w0 w base WB M r j o t kw tw Z X) (i : Nat) (v : Value) (e : (partsV o Z.KB Z.TB)[i]? = some v) : w.cell? ⟨Z.PB, i, none⟩ = some v := by
  obtain ⟨T, hp⟩ := h.at.p
  rw [cell_row hp]; exact e
end
end Go.Proofs.YtpmafdggbeppcaaGreatDoor.S15
set_option linter.unusedVariables false
set_option linter.unusedSimpArgs false
namespace Go.Proofs.YtpmafdggbeppcaaGreatDoor.S15
open Go.Proofs.YtpmafdggbeppcaaGreatDoor Go.Proofs.YtpmafdggbeppcaaGreatDoor.S11 Go.Proofs.YtpmafdggbeppcaaGreatDoor.S12 Go.Proofs.YtpmafdggbeppcaaGreatDoor.S13 Go.Proofs.YtpmafdggbeppcaaGreatDoor.S14
open Go.RowKit
theorem below_n (w : World) (n : Nat) : Below w.heap.size w (w.drewN n) := ⟨rfl, rfl, rfl, Nat.le_refl _, fun _ _ => rfl⟩
section
variable {w0 w w' : World} {base WB : Nat} {M : Sd} {r : List Part} {j u U : Nat} {o : Bool} {t kw tw : Nat} {Z : Wb} {X : Wm}
theorem Wy.look (h : Wy w0 w base WB M r j o t kw tw Z X) (a : Nat) : S2.look M.L a < 18446744073709551616 := by
  have := S2.look_lt h.pg.pw.cells.good a
  rwa [show X.L = M.L from congrArg Sd.L h.pg.xm] at this
end
end Go.Proofs.YtpmafdggbeppcaaGreatDoor.S15
set_option linter.unusedVariables false
set_option linter.unusedSimpArgs false
namespace Go.Proofs.YtpmafdggbeppcaaGreatDoor.S15
open Go.Proofs.YtpmafdggbeppcaaGreatDoor Go.Proofs.YtpmafdggbeppcaaGreatDoor.S11 Go.Proofs.YtpmafdggbeppcaaGreatDoor.S12 Go.Proofs.YtpmafdggbeppcaaGreatDoor.S13 Go.Proofs.YtpmafdggbeppcaaGreatDoor.S14
open Go.RowKit
section
variable {w0 w w' : World} {base WB : Nat} {M : Sd} {r : List Part} {j u U : Nat} {o : Bool} {t kw tw : Nat} {Z : Wb} {X : Wm}
end
end Go.Proofs.YtpmafdggbeppcaaGreatDoor.S15
set_option linter.unusedVariables false
set_option linter.unusedSimpArgs false
namespace Go.Proofs.YtpmafdggbeppcaaGreatDoor.S15
set_option maxRecDepth 100000
set_option maxHeartbeats 16000000
open Go.Proofs.YtpmafdggbeppcaaGreatDoor Go.Proofs.YtpmafdggbeppcaaGreatDoor.S11 Go.Proofs.YtpmafdggbeppcaaGreatDoor.S12 Go.Proofs.YtpmafdggbeppcaaGreatDoor.S13 Go.Proofs.YtpmafdggbeppcaaGreatDoor.S14
open Go.RowKit
section
variable {w0 w w' : World} {base WB : Nat} {M : Sd} {r : List Part} {j u U : Nat} {o : Bool} {t kw tw : Nat} {Z : Wb} {X : Wm}
theorem wstep_e2 (h : Wy w0 w base WB M r j false t kw tw Z X) (hi : Z.i = 0) (hs : Z.st = false) (hju : j ≠ u) (hu : u < r.length) (ht : t < 64) (hk : kw < 18446744073709551616) (hn : M.n ≤ 1000000000) {x : Nat} (hx : x = S2.look M.L 0) :
    Calls Tryz.prog 253 #[Pw Z.B, Pw WB] w fun e w' => e = .returned (.tuple #[]) ∧ ∃ UB X', Wy w0 w' base WB (M.acc 1 0 x) (r.set u (lockP UB (lk1 t (lokN (kw % 4294967296) x)))) j false t kw x { Z with i := 1, pb := (bitsN x : Int), pi := (bktN (kw % 4294967296) x : Int), uv := lockU UB } X' := by
  have hd := h.new (Below.refl _ _).drew
  have hx64 : x < 18446744073709551616 := by rw [hx]; exact h.look 0
  have HK := Lib.hid (And.intro ht (And.intro hk hx64))
  have HJU := Lib.hid hju; have HU := Lib.hid hu
  have c0 : w.cell? ⟨Z.B, 0, none⟩ = some (.slice (some ⟨Z.PB, 0, none⟩) 4 4) := h.c.1
  have c1 : w.cell? ⟨Z.B, 1, none⟩ = some (.int .i64 0) := by have := h.c.2.1; rw [hi] at this; exact this
  have p0 := h.pcell 0 (readV Z.TB) rfl
  have hm := m_rstep Z.TB
  have HST := Lib.hid (rstep_t hd hn hx (sP Z.B))
  have HI := Lib.hid hi
  have HS := Lib.hid hs
  clear h hd hi hs ht hk hx64 hju hu hn hx
  go_enter Tryz.func253, Tryz.ntmps253
  refine wp_scope_one rfl ?_
  go_upto_region 0 with (fail)
  go_still_tail 16, (by kernel_rfl)
  change wpList _ _ _ _ _ w.drew
  go_upto_region 1 with (go_at_call 256; refine HST.out.mono ?_; rintro e w1 ⟨rfl, X1, h1⟩; have H1 := Lib.hid h1; clear h1)
  clear c0 c1 p0 hm HST
  have c1 : w1.cell? ⟨Z.B, 1, none⟩ = some (.int .i64 0) := by have := H1.out.c.2.1; rw [HI.out] at this; exact this
  have f1 := (H1.out.fz 1).1
  go_wp2_with fail
  go_step3
  go_wp2_with fail
  have h2 := H1.out.put 1 (.int .i64 1) { Z with i := 1 } rfl rfl rfl rfl rfl
  have H2 := Lib.hid h2
  clear h2 c1 f1
  generalize w1.setCell ⟨Z.B, 1, none⟩ (.int .i64 1) = w2 at *
  refine wp_loop_rounds 1 ?_
  rw [rounds_succ]
  refine wp_seq (wp_seq ?_)
  have c0 : w2.cell? ⟨Z.B, 0, none⟩ = some (.slice (some ⟨Z.PB, 0, none⟩) 4 4) := H2.out.c.1
  have c1 : w2.cell? ⟨Z.B, 1, none⟩ = some (.int .i64 1) := H2.out.c.2.1
  go_upto_region 2 with (fail)
  go_quiet (fail)
  go_upto_region 4 with (fail)
  have H3 := Lib.hid (H2.out.new (below_n w2 nq))
  clear c0 c1
  generalize w2.drewN nq = w3 at *
  have c0 : w3.cell? ⟨Z.B, 0, none⟩ = some (.slice (some ⟨Z.PB, 0, none⟩) 4 4) := H3.out.c.1
  have c1 : w3.cell? ⟨Z.B, 1, none⟩ = some (.int .i64 1) := H3.out.c.2.1
  have p0 := H3.out.pcell 1 takeV rfl
  have hm := m_tbeg
  have HTB := Lib.hid (tbegin_any (H3.out.new (Below.refl _ _).drew) HJU.out HU.out HK.out.1 HK.out.2.1 HK.out.2.2)
  go_still_tail 15, (by kernel_rfl)
  change wpList _ _ _ _ _ w3.drew
  go_wp2_with (go_at_call 258; refine HTB.out.mono ?_; rintro e w4 ⟨rfl, UB, h4⟩; have H4 := Lib.hid h4; clear h4)
  (try simp only [to1])
  refine bodyPost_ret (results_none rfl _ _ _) rfl ?_
  exact ⟨rfl, UB, X1, H4.out⟩
end
end Go.Proofs.YtpmafdggbeppcaaGreatDoor.S15
set_option linter.unusedVariables false
set_option linter.unusedSimpArgs false
namespace Go.Proofs.YtpmafdggbeppcaaGreatDoor.S15
open Go.Proofs.YtpmafdggbeppcaaGreatDoor Go.Proofs.YtpmafdggbeppcaaGreatDoor.S11 Go.Proofs.YtpmafdggbeppcaaGreatDoor.S12 Go.Proofs.YtpmafdggbeppcaaGreatDoor.S13 Go.Proofs.YtpmafdggbeppcaaGreatDoor.S14
open Go.RowKit
section
variable {w0 w w' : World} {base WB : Nat} {M : Sd} {r : List Part} {j u U : Nat} {o : Bool} {t kw tw : Nat} {Z : Wb} {X : Wm}
end
end Go.Proofs.YtpmafdggbeppcaaGreatDoor.S15
set_option linter.unusedVariables false
set_option linter.unusedSimpArgs false
namespace Go.Proofs.YtpmafdggbeppcaaGreatDoor.S15
set_option maxRecDepth 100000
set_option maxHeartbeats 16000000
open Go.Proofs.YtpmafdggbeppcaaGreatDoor Go.Proofs.YtpmafdggbeppcaaGreatDoor.S11 Go.Proofs.YtpmafdggbeppcaaGreatDoor.S12 Go.Proofs.YtpmafdggbeppcaaGreatDoor.S13 Go.Proofs.YtpmafdggbeppcaaGreatDoor.S14
open Go.RowKit
section
variable {w0 w w' : World} {base WB : Nat} {M : Sd} {r : List Part} {j u U : Nat} {o : Bool} {t kw tw : Nat} {Z : Wb} {X : Wm}
theorem wstep_e4y (h : Wy w0 w base WB M r j false t kw tw Z X) (hi : Z.i = 2) (hs : Z.st = false) (hn : M.n ≤ 1000000000) {x : Nat} (hx : x = S2.look M.L 0) (hxe : x = tw) :
    Calls Tryz.prog 253 #[Pw Z.B, Pw WB] w fun e w' => e = .returned (.tuple #[]) ∧ ∃ X', Wy w0 w' base WB (M.acc 1 0 x) r j false t kw tw { Z with st := false, i := 4 } X' := by
  have hd := h.new (Below.refl _ _).drew
  have c0 : w.cell? ⟨Z.B, 0, none⟩ = some (.slice (some ⟨Z.PB, 0, none⟩) 4 4) := h.c.1
  have c1 : w.cell? ⟨Z.B, 1, none⟩ = some (.int .i64 2) := by have := h.c.2.1; rw [hi] at this; exact this
  have p0 := h.pcell 2 (askV Z.TB) rfl
  have hm := m_astep Z.TB
  have HST := Lib.hid (astep_t hd hn hx (b := false) (by rw [hxe, decide_eq_true rfl]; rfl))
  have HI := Lib.hid hi
  have HS := Lib.hid hs
  clear h hd hi hs hn hx hxe
  go_enter Tryz.func253, Tryz.ntmps253
  refine wp_scope_one rfl ?_
  go_upto_region 0 with (fail)
  go_still_tail 16, (by kernel_rfl)
  change wpList _ _ _ _ _ w.drew
  go_upto_region 1 with (go_at_call 275; refine HST.out.mono ?_; rintro e w1 ⟨rfl, X1, h1⟩; have H1 := Lib.hid h1; clear h1)
  clear c0 c1 p0 hm HST
  have c1 : w1.cell? ⟨Z.B, 1, none⟩ = some (.int .i64 2) := by have := H1.out.c.2.1; rw [HI.out] at this; exact this
  have f1 := (H1.out.fz 1).1
  go_wp2_with fail
  go_step3
  go_wp2_with fail
  have h2 := H1.out.put 1 (.int .i64 3) { Z with st := false, i := 3 } rfl rfl rfl rfl rfl
  have H2 := Lib.hid h2
  clear h2 c1 f1
  generalize w1.setCell ⟨Z.B, 1, none⟩ (.int .i64 3) = w2 at *
  refine wp_loop_rounds 2 ?_
  rw [rounds_succ]
  refine wp_seq (wp_seq ?_)
  have c0 : w2.cell? ⟨Z.B, 0, none⟩ = some (.slice (some ⟨Z.PB, 0, none⟩) 4 4) := H2.out.c.1
  have c1 : w2.cell? ⟨Z.B, 1, none⟩ = some (.int .i64 3) := H2.out.c.2.1
  go_upto_region 2 with (fail)
  go_quiet (fail)
  go_upto_region 4 with (fail)
  have H3 := Lib.hid (H2.out.new (below_n w2 nq))
  clear c0 c1
  generalize w2.drewN nq = w3 at *
  have c0 : w3.cell? ⟨Z.B, 0, none⟩ = some (.slice (some ⟨Z.PB, 0, none⟩) 4 4) := H3.out.c.1
  have c1 : w3.cell? ⟨Z.B, 1, none⟩ = some (.int .i64 3) := H3.out.c.2.1
  have p0 := H3.out.pcell 3 leaveV rfl
  have hm := m_lbeg
  have HTB := Lib.hid (lbegin_no (H3.out.new (Below.refl _ _).drew) rfl)
  go_still_tail 15, (by kernel_rfl)
  change wpList _ _ _ _ _ w3.drew
  go_upto_region 3 with (go_at_call 276; refine HTB.out.mono ?_; rintro e w4 ⟨rfl, hb4⟩; have H4 := Lib.hid (H3.out.new ((Below.refl _ _).drew.trans hb4)); clear hb4)
  clear c0 c1 p0 hm HTB
  have c1 : w4.cell? ⟨Z.B, 1, none⟩ = some (.int .i64 3) := H4.out.c.2.1
  have f1 := (H4.out.fz 1).1
  go_wp2_with fail
  have h5 := H4.out.put 1 (.int .i64 4) { Z with st := false, i := 4 } rfl rfl rfl rfl rfl
  have H5 := Lib.hid h5
  clear h5 c1 f1
  generalize w4.setCell ⟨Z.B, 1, none⟩ (.int .i64 4) = w5 at *
  (try simp only [Exit.inBlock, Exit.then])
  rw [rounds_succ]
  refine wp_seq (wp_seq ?_)
  have c0 : w5.cell? ⟨Z.B, 0, none⟩ = some (.slice (some ⟨Z.PB, 0, none⟩) 4 4) := H5.out.c.1
  have c1 : w5.cell? ⟨Z.B, 1, none⟩ = some (.int .i64 4) := H5.out.c.2.1
  go_upto_region 2 with (fail)
  go_quiet (fail)
  go_upto_region 5 with (fail)
  have H6 := Lib.hid (H5.out.new (below_n w5 nq))
  clear c0 c1
  generalize w5.drewN nq = w6 at *
  have c7 : w6.cell? ⟨Z.B, 7, none⟩ = some (.bool false) := H6.out.c.2.2.2.2.2.2.2.1
  go_wp2_with fail
  (try simp only [to1])
  refine bodyPost_end (results_none rfl _ _ _) rfl ?_
  exact ⟨rfl, X1, H6.out⟩
end
end Go.Proofs.YtpmafdggbeppcaaGreatDoor.S15
