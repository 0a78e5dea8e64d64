/- A read's step, an ask's step. -/
import Derived.Test.YtcegmjmfgbhnmaaS15C
set_option linter.unusedVariables false
set_option linter.unusedSimpArgs false
namespace Go.Proofs.Ytcegmjmfgbhnmaa.S15
open Go.Proofs.Ytcegmjmfgbhnmaa Go.Proofs.Ytcegmjmfgbhnmaa.S11 Go.Proofs.Ytcegmjmfgbhnmaa.S12 Go.Proofs.Ytcegmjmfgbhnmaa.S13 Go.Proofs.Ytcegmjmfgbhnmaa.S14
open Go.RowKit

section
variable {w0 w w' : World} {base WB : Nat} {M : Sd} {r : List Part} {j : Nat} {o : Bool} {t kw tw : Nat} {Z : Wb} {X : Wm}
theorem Wy.pushB (h : Wy w0 w base WB M r j o t kw tw Z X) (ob : Obj) : Wy w0 (w.alloc ob) base WB M (r ++ [blockP w.heap.size ob]) j o t kw tw Z X := by
  have hp := h.pg.ps.push (blockP w.heap.size ob) (below1 w ob) (heap_alloc_new w ob) (fun k e => Nat.le_of_eq (show k = w.heap.size from e).symm)
  rw [List.append_assoc] at hp
  refine ⟨⟨?_, h.pg.wB, h.pg.xm, h.pg.bl.alloc h.pg.size _⟩, by rw [List.length_append]; have := h.hj; simp; omega⟩
  rw [List.set_append_left _ _ h.hj]
  exact hp
theorem Wy.dropB {q : Part} (h : Wy w0 w base WB M (r ++ [q]) j o t kw tw Z X) (hj : j < r.length) : Wy w0 w base WB M r j o t kw tw Z X := by
  have hp := h.pg.ps
  rw [List.set_append_left _ _ hj, ← List.append_assoc] at hp
  exact ⟨⟨Parts.left hp, h.pg.wB, h.pg.xm, h.pg.bl⟩, hj⟩
theorem Wy.last {Q : Nat} {ob : Obj} (h : Wy w0 w base WB M (r ++ [blockP Q ob]) j o t kw tw Z X) (hj : j < r.length) : w.heap[Q]? = some ob := by
  have hp := h.pg.ps
  rw [List.set_append_left _ _ hj, ← List.append_assoc] at hp
  refine hp.ok (X.parts ++ r.set j (wayP o t kw tw Z)).length (blockP Q ob) ?_
  rw [List.getElem?_append_right (Nat.le_refl _), Nat.sub_self]; rfl
theorem ky_lt (o : Bool) {t : Nat} (ht : t < 64) : kyA o t < 4294967296 := by unfold kyA; split <;> omega
set_option maxRecDepth 100000 in
set_option maxHeartbeats 4000000 in
theorem rstep_t (h : Wy w0 w base WB M r j o t kw tw Z X) (hn : M.n ≤ 1000000000) {x : Nat} (hx : x = S2.look M.L (0)) {ad : Nat} (had : ad = 0) (s : Value) : Calls Try.prog 94 #[.agg #[Pw Z.TB], s, Pw WB] w fun e w' => e = .returned (.bool true) ∧ ∃ X', Wy w0 w' base WB (M.acc 1 0 x) r j o t kw x Z X' := by
  have hj := h.hj
  have hA := h.pushB (.cells #[Pw Z.TB] 82)
  obtain ⟨Q, hQ⟩ : ∃ Q, Q = w.heap.size := ⟨_, rfl⟩
  rw [← hQ] at hA
  obtain ⟨sd, hsd⟩ : ∃ sd, sd = tw := ⟨_, rfl⟩
  have HA := Lib.hid hA; have HJ := Lib.hid hj; have HQ := Lib.hid hQ; have HSD := Lib.hid hsd; have HAD := Lib.hid had
  obtain ⟨cb, hcb⟩ : ∃ cb, X.cB = cb := ⟨_, rfl⟩
  have HCB := Lib.hid hcb
  have hld : ∀ W X', Wy w0 W base WB M (r ++ [blockP Q (.cells #[Pw Z.TB] 82)]) j o t kw tw Z X' → X'.cB = cb → Calls Try.prog 73 #[Pw cb, .int .u32 0] W fun e w' => e = .returned (.int .u64 (x : Int)) ∧ ∃ X5, Wy w0 w' base WB (M.acc 1 0 x) (r ++ [blockP Q (.cells #[Pw Z.TB] 82)]) j o t kw tw Z X5 ∧ X5.cB = cb := fun W X' hW hc => by
    subst hc
    rw [hx]
    skip
    exact hW.load (a := 0) (by decide) hn
  have HLD := Lib.hid hld
  clear h hj hA hQ hcb hx hld hn hsd had
  go_enter Try.func94, Try.ntmps94
  go_upto_region 1 with (fail)
  rw [← HQ.out]
  generalize w.alloc (.cells #[Pw Z.TB] 82) = w1 at *
  refine wp_region_held_drew (S := fun w' => w'.cell? ⟨WB, 0, none⟩ = some (Pw cb) ∧ w'.cell? ⟨Q, 0, none⟩ = some (Pw Z.TB) ∧ w'.cell? ⟨Z.TB, 0, none⟩ = some (.int .u32 0)) (by kernel_rfl) ?_ (fun hHeld => ?_)
  · exact ⟨by rw [← HCB.out]; exact (HA.out.new (Below.refl _ _).drew).pg.c.1, cell_row ((HA.out.new (Below.refl _ _).drew).last HJ.out) 0, (HA.out.new (Below.refl _ _).drew).tc.1⟩
  refine wpAnyH_take (i := 0) (oi := ({ dst := some 7, op := Op.fieldAddr 82 (Operand.tmp 3) 0, type := 0, pos := "parts.go:86", after := #[], guard := none } : Oper)) (v := ?vrtm1) rfl (by kernel_rfl) (by kernel_rfl) (by kernel_rfl) (fun _ _ _ h => h) (Or.inl ⟨by rfl, fun w hSw => ?hyrtm1⟩) (by assumption) ?rrtm1
  case hyrtm1 => (try dsimp only at hSw); go_simp; (try with_reducible rfl)
  (try simp only [Act.put, List.setIfInBounds_toArray, List.set_cons_zero, List.set_cons_succ])
  refine wpAnyH_take (i := 1) (oi := ({ dst := some 8, op := Op.load 70 (Operand.tmp 7), type := 70, pos := "parts.go:86", after := #[{ on := 0, ground := Ground.data }], guard := none } : Oper)) (v := ?vrtm2) rfl (by kernel_rfl) (by kernel_rfl) (by kernel_rfl) (fun _ _ _ h => h) (Or.inl ⟨by rfl, fun w hSw => ?hyrtm2⟩) (by assumption) ?rrtm2
  case hyrtm2 => (try dsimp only at hSw); go_simp; (try with_reducible rfl)
  (try simp only [Act.put, List.setIfInBounds_toArray, List.set_cons_zero, List.set_cons_succ])
  refine wpAnyH_take (i := 2) (oi := ({ dst := some 9, op := Op.move (Operand.tmp 2), type := 23, pos := "parts.go:86", after := #[], guard := none } : Oper)) (v := ?vrtm3) rfl (by kernel_rfl) (by kernel_rfl) (by kernel_rfl) (fun _ _ _ h => h) (Or.inl ⟨by rfl, fun w hSw => ?hyrtm3⟩) (by assumption) ?rrtm3
  case hyrtm3 => (try dsimp only at hSw); go_simp; (try with_reducible rfl)
  (try simp only [Act.put, List.setIfInBounds_toArray, List.set_cons_zero, List.set_cons_succ])
  refine wpAnyH_take (i := 3) (oi := ({ dst := some 10, op := Op.nilCheck (Operand.tmp 9), type := 0, pos := "parts.go:86", after := #[{ on := 2, ground := Ground.data }], guard := none } : Oper)) (v := ?vrtm4) rfl (by kernel_rfl) (by kernel_rfl) (by kernel_rfl) (fun _ _ _ h => h) (Or.inl ⟨by rfl, fun w hSw => ?hyrtm4⟩) (by assumption) ?rrtm4
  case hyrtm4 => (try dsimp only at hSw); go_simp; (try with_reducible rfl)
  (try simp only [Act.put, List.setIfInBounds_toArray, List.set_cons_zero, List.set_cons_succ])
  refine wpAnyH_take (i := 4) (oi := ({ dst := some 11, op := Op.fieldAddr 34 (Operand.tmp 10) 0, type := 0, pos := "parts.go:86", after := #[{ on := 3, ground := Ground.data }], guard := none } : Oper)) (v := ?vrtm5) rfl (by kernel_rfl) (by kernel_rfl) (by kernel_rfl) (fun _ _ _ h => h) (Or.inl ⟨by rfl, fun w hSw => ?hyrtm5⟩) (by assumption) ?rrtm5
  case hyrtm5 => (try dsimp only at hSw); go_simp; (try with_reducible rfl)
  (try simp only [Act.put, List.setIfInBounds_toArray, List.set_cons_zero, List.set_cons_succ])
  refine wpAnyH_take (i := 5) (oi := ({ dst := some 12, op := Op.load 26 (Operand.tmp 11), type := 26, pos := "parts.go:86", after := #[{ on := 4, ground := Ground.data }], guard := none } : Oper)) (v := ?vrtm6) rfl (by kernel_rfl) (by kernel_rfl) (by kernel_rfl) (fun _ _ _ h => h) (Or.inl ⟨by rfl, fun w hSw => ?hyrtm6⟩) (by assumption) ?rrtm6
  case hyrtm6 => (try dsimp only at hSw); go_simp; (try with_reducible rfl)
  (try simp only [Act.put, List.setIfInBounds_toArray, List.set_cons_zero, List.set_cons_succ])
  refine wpAnyH_take (i := 6) (oi := ({ dst := some 13, op := Op.fieldAddr 82 (Operand.tmp 3) 0, type := 0, pos := "parts.go:86", after := #[], guard := none } : Oper)) (v := ?vrtm7) rfl (by kernel_rfl) (by kernel_rfl) (by kernel_rfl) (fun _ _ _ h => h) (Or.inl ⟨by rfl, fun w hSw => ?hyrtm7⟩) (by assumption) ?rrtm7
  case hyrtm7 => (try dsimp only at hSw); go_simp; (try with_reducible rfl)
  (try simp only [Act.put, List.setIfInBounds_toArray, List.set_cons_zero, List.set_cons_succ])
  refine wpAnyH_take (i := 7) (oi := ({ dst := some 14, op := Op.load 70 (Operand.tmp 13), type := 70, pos := "parts.go:86", after := #[{ on := 6, ground := Ground.data }], guard := none } : Oper)) (v := ?vrtm8) rfl (by kernel_rfl) (by kernel_rfl) (by kernel_rfl) (fun _ _ _ h => h) (Or.inl ⟨by rfl, fun w hSw => ?hyrtm8⟩) (by assumption) ?rrtm8
  case hyrtm8 => (try dsimp only at hSw); go_simp; (try with_reducible rfl)
  (try simp only [Act.put, List.setIfInBounds_toArray, List.set_cons_zero, List.set_cons_succ])
  refine wpAnyH_take (i := 8) (oi := ({ dst := some 15, op := Op.nilCheck (Operand.tmp 14), type := 0, pos := "parts.go:86", after := #[{ on := 7, ground := Ground.data }], guard := none } : Oper)) (v := ?vrtm9) rfl (by kernel_rfl) (by kernel_rfl) (by kernel_rfl) (fun _ _ _ h => h) (Or.inl ⟨by rfl, fun w hSw => ?hyrtm9⟩) (by assumption) ?rrtm9
  case hyrtm9 => (try dsimp only at hSw); go_simp; (try with_reducible rfl)
  (try simp only [Act.put, List.setIfInBounds_toArray, List.set_cons_zero, List.set_cons_succ])
  refine wpAnyH_take (i := 9) (oi := ({ dst := some 16, op := Op.fieldAddr 80 (Operand.tmp 15) 0, type := 0, pos := "parts.go:86", after := #[{ on := 8, ground := Ground.data }], guard := none } : Oper)) (v := ?vrtm10) rfl (by kernel_rfl) (by kernel_rfl) (by kernel_rfl) (fun _ _ _ h => h) (Or.inl ⟨by rfl, fun w hSw => ?hyrtm10⟩) (by assumption) ?rrtm10
  case hyrtm10 => (try dsimp only at hSw); go_simp; (try with_reducible rfl)
  (try simp only [Act.put, List.setIfInBounds_toArray, List.set_cons_zero, List.set_cons_succ])
  refine wpAnyH_take (i := 10) (oi := ({ dst := some 17, op := Op.load 37 (Operand.tmp 16), type := 37, pos := "parts.go:86", after := #[{ on := 9, ground := Ground.data }], guard := none } : Oper)) (v := ?vrtm11) rfl (by kernel_rfl) (by kernel_rfl) (by kernel_rfl) (fun _ _ _ h => h) (Or.inl ⟨by rfl, fun w hSw => ?hyrtm11⟩) (by assumption) ?rrtm11
  case hyrtm11 => (try dsimp only at hSw); go_simp; (try with_reducible rfl)
  (try simp only [Act.put, List.setIfInBounds_toArray, List.set_cons_zero, List.set_cons_succ])
  refine wpAnyH_ready (rs := [11]) (by kernel_rfl) (by simp) ?_
  refine AllReadyH.cons (o := ({ dst := some 18, op := Op.call { callee := Callee.value (Operand.func 73), args := #[Operand.tmp 12, Operand.tmp 17], argTypes := #[26, 37] }, type := 25, pos := "parts.go:86", after := #[{ on := 5, ground := Ground.data }, { on := 10, ground := Ground.data }], guard := none } : Oper)) rfl (fun Kq hKq => ?_) AllReadyH.nil
  go_simp
  (refine (HLD.out _ X (HA.out.new (Below.refl _ _).drew) HCB.out).mono ?_; rintro e w5 ⟨rfl, X5, h5, hc5⟩; have H5 := Lib.hid h5; have HC5 := Lib.hid hc5; clear h5 hc5)
  refine hKq.out _ _ ?_ (fun hHeld => ?_)
  · exact ⟨by rw [← HC5.out]; exact H5.out.pg.c.1, cell_row (H5.out.last HJ.out) 0, H5.out.tc.1⟩
  clear hKq Kq
  (try simp only [Act.put, List.setIfInBounds_toArray, List.set_cons_zero, List.set_cons_succ])
  refine wpAnyH_take (i := 12) (oi := ({ dst := some 19, op := Op.nilCheck (Operand.tmp 8), type := 0, pos := "parts.go:86", after := #[{ on := 1, ground := Ground.data }, { on := 0, ground := Ground.phase }, { on := 1, ground := Ground.phase }, { on := 2, ground := Ground.phase }, { on := 3, ground := Ground.phase }, { on := 4, ground := Ground.phase }, { on := 5, ground := Ground.phase }, { on := 6, ground := Ground.phase }, { on := 7, ground := Ground.phase }, { on := 8, ground := Ground.phase }, { on := 9, ground := Ground.phase }, { on := 10, ground := Ground.phase }, { on := 11, ground := Ground.phase }], guard := none } : Oper)) (v := ?vrtm12) rfl (by kernel_rfl) (by kernel_rfl) (by kernel_rfl) (fun _ _ _ h => h) (Or.inl ⟨by rfl, fun w hSw => ?hyrtm12⟩) (by assumption) ?rrtm12
  case hyrtm12 => (try dsimp only at hSw); go_simp; (try with_reducible rfl)
  (try simp only [Act.put, List.setIfInBounds_toArray, List.set_cons_zero, List.set_cons_succ])
  refine wpAnyH_take (i := 13) (oi := ({ dst := some 20, op := Op.fieldAddr 80 (Operand.tmp 19) 1, type := 0, pos := "parts.go:86", after := #[{ on := 12, ground := Ground.data }, { on := 0, ground := Ground.phase }, { on := 1, ground := Ground.phase }, { on := 2, ground := Ground.phase }, { on := 3, ground := Ground.phase }, { on := 4, ground := Ground.phase }, { on := 5, ground := Ground.phase }, { on := 6, ground := Ground.phase }, { on := 7, ground := Ground.phase }, { on := 8, ground := Ground.phase }, { on := 9, ground := Ground.phase }, { on := 10, ground := Ground.phase }, { on := 11, ground := Ground.phase }], guard := none } : Oper)) (v := ?vrtm13) rfl (by kernel_rfl) (by kernel_rfl) (by kernel_rfl) (fun _ _ _ h => h) (Or.inl ⟨by rfl, fun w hSw => ?hyrtm13⟩) (by assumption) ?rrtm13
  case hyrtm13 => (try dsimp only at hSw); go_simp; (try with_reducible rfl)
  (try simp only [Act.put, List.setIfInBounds_toArray, List.set_cons_zero, List.set_cons_succ])
  refine wpAnyH_ready (rs := [14]) (by kernel_rfl) (by simp) ?_
  refine AllReadyH.cons (o := ({ dst := none, op := Op.store 25 (Operand.tmp 20) (Operand.tmp 18), type := 0, pos := "parts.go:86", after := #[{ on := 13, ground := Ground.data }, { on := 11, ground := Ground.data }, { on := 11, ground := Ground.chain }, { on := 0, ground := Ground.phase }, { on := 1, ground := Ground.phase }, { on := 2, ground := Ground.phase }, { on := 3, ground := Ground.phase }, { on := 4, ground := Ground.phase }, { on := 5, ground := Ground.phase }, { on := 6, ground := Ground.phase }, { on := 7, ground := Ground.phase }, { on := 8, ground := Ground.phase }, { on := 9, ground := Ground.phase }, { on := 10, ground := Ground.phase }, { on := 11, ground := Ground.phase }], guard := none } : Oper)) rfl (fun Kq hKq => ?_) AllReadyH.nil
  (have y1 := H5.out.tc.2; have f1 := (H5.out.fz 1).2.2; go_simp; have h6 := H5.out.putT x; have H6 := Lib.hid h6; clear y1 f1 h6; generalize w5.setCell ⟨Z.TB, 1, none⟩ (.int .u64 (x : Int)) = w6 at *)
  refine hKq.out _ _ ?_ (fun hHeld => ?_)
  · exact ⟨by rw [← HC5.out]; exact H6.out.pg.c.1, cell_row (H6.out.last HJ.out) 0, H6.out.tc.1⟩
  clear hKq Kq
  (try simp only [Act.put, List.setIfInBounds_toArray, List.set_cons_zero, List.set_cons_succ])
  refine wpAnyH_done (by kernel_rfl) ?_ _
  clear hHeld HLD HA
  go_wp2_with fail
  go_ret
  exact ⟨rfl, X5, H6.out.dropB HJ.out⟩
set_option maxRecDepth 100000 in
set_option maxHeartbeats 4000000 in
theorem rstep_k (h : Wy w0 w base WB M r j o t kw tw Z X) (hn : M.n ≤ 1000000000) (ht : t < 64) {x : Nat} (hx : x = S2.look M.L (kyA o t)) {ad : Nat} (had : ad = kyA o t) (s : Value) : Calls Try.prog 94 #[.agg #[Pw Z.KB], s, Pw WB] w fun e w' => e = .returned (.bool true) ∧ ∃ X', Wy w0 w' base WB (M.acc 1 ad x) r j o t x tw Z X' := by
  have hj := h.hj
  have hA := h.pushB (.cells #[Pw Z.KB] 82)
  obtain ⟨Q, hQ⟩ : ∃ Q, Q = w.heap.size := ⟨_, rfl⟩
  rw [← hQ] at hA
  obtain ⟨sd, hsd⟩ : ∃ sd, sd = kw := ⟨_, rfl⟩
  have HA := Lib.hid hA; have HJ := Lib.hid hj; have HQ := Lib.hid hQ; have HSD := Lib.hid hsd; have HAD := Lib.hid had
  obtain ⟨cb, hcb⟩ : ∃ cb, X.cB = cb := ⟨_, rfl⟩
  have HCB := Lib.hid hcb
  have hld : ∀ W X', Wy w0 W base WB M (r ++ [blockP Q (.cells #[Pw Z.KB] 82)]) j o t kw tw Z X' → X'.cB = cb → Calls Try.prog 73 #[Pw cb, .int .u32 (ad : Int)] W fun e w' => e = .returned (.int .u64 (x : Int)) ∧ ∃ X5, Wy w0 w' base WB (M.acc 1 ad x) (r ++ [blockP Q (.cells #[Pw Z.KB] 82)]) j o t kw tw Z X5 ∧ X5.cB = cb := fun W X' hW hc => by
    subst hc
    rw [hx]
    subst had
    exact hW.load (a := kyA o t) (ky_lt o ht) hn
  have HLD := Lib.hid hld
  clear h hj hA hQ hcb hx hld hn hsd had ht
  go_enter Try.func94, Try.ntmps94
  go_upto_region 1 with (fail)
  rw [← HQ.out]
  generalize w.alloc (.cells #[Pw Z.KB] 82) = w1 at *
  refine wp_region_held_drew (S := fun w' => w'.cell? ⟨WB, 0, none⟩ = some (Pw cb) ∧ w'.cell? ⟨Q, 0, none⟩ = some (Pw Z.KB) ∧ w'.cell? ⟨Z.KB, 0, none⟩ = some (.int .u32 (ad : Int))) (by kernel_rfl) ?_ (fun hHeld => ?_)
  · exact ⟨by rw [← HCB.out]; exact (HA.out.new (Below.refl _ _).drew).pg.c.1, cell_row ((HA.out.new (Below.refl _ _).drew).last HJ.out) 0, by rw [HAD.out]; exact (HA.out.new (Below.refl _ _).drew).kc.1⟩
  refine wpAnyH_take (i := 0) (oi := ({ dst := some 7, op := Op.fieldAddr 82 (Operand.tmp 3) 0, type := 0, pos := "parts.go:86", after := #[], guard := none } : Oper)) (v := ?vrkm1) rfl (by kernel_rfl) (by kernel_rfl) (by kernel_rfl) (fun _ _ _ h => h) (Or.inl ⟨by rfl, fun w hSw => ?hyrkm1⟩) (by assumption) ?rrkm1
  case hyrkm1 => (try dsimp only at hSw); go_simp; (try with_reducible rfl)
  (try simp only [Act.put, List.setIfInBounds_toArray, List.set_cons_zero, List.set_cons_succ])
  refine wpAnyH_take (i := 1) (oi := ({ dst := some 8, op := Op.load 70 (Operand.tmp 7), type := 70, pos := "parts.go:86", after := #[{ on := 0, ground := Ground.data }], guard := none } : Oper)) (v := ?vrkm2) rfl (by kernel_rfl) (by kernel_rfl) (by kernel_rfl) (fun _ _ _ h => h) (Or.inl ⟨by rfl, fun w hSw => ?hyrkm2⟩) (by assumption) ?rrkm2
  case hyrkm2 => (try dsimp only at hSw); go_simp; (try with_reducible rfl)
  (try simp only [Act.put, List.setIfInBounds_toArray, List.set_cons_zero, List.set_cons_succ])
  refine wpAnyH_take (i := 2) (oi := ({ dst := some 9, op := Op.move (Operand.tmp 2), type := 23, pos := "parts.go:86", after := #[], guard := none } : Oper)) (v := ?vrkm3) rfl (by kernel_rfl) (by kernel_rfl) (by kernel_rfl) (fun _ _ _ h => h) (Or.inl ⟨by rfl, fun w hSw => ?hyrkm3⟩) (by assumption) ?rrkm3
  case hyrkm3 => (try dsimp only at hSw); go_simp; (try with_reducible rfl)
  (try simp only [Act.put, List.setIfInBounds_toArray, List.set_cons_zero, List.set_cons_succ])
  refine wpAnyH_take (i := 3) (oi := ({ dst := some 10, op := Op.nilCheck (Operand.tmp 9), type := 0, pos := "parts.go:86", after := #[{ on := 2, ground := Ground.data }], guard := none } : Oper)) (v := ?vrkm4) rfl (by kernel_rfl) (by kernel_rfl) (by kernel_rfl) (fun _ _ _ h => h) (Or.inl ⟨by rfl, fun w hSw => ?hyrkm4⟩) (by assumption) ?rrkm4
  case hyrkm4 => (try dsimp only at hSw); go_simp; (try with_reducible rfl)
  (try simp only [Act.put, List.setIfInBounds_toArray, List.set_cons_zero, List.set_cons_succ])
  refine wpAnyH_take (i := 4) (oi := ({ dst := some 11, op := Op.fieldAddr 34 (Operand.tmp 10) 0, type := 0, pos := "parts.go:86", after := #[{ on := 3, ground := Ground.data }], guard := none } : Oper)) (v := ?vrkm5) rfl (by kernel_rfl) (by kernel_rfl) (by kernel_rfl) (fun _ _ _ h => h) (Or.inl ⟨by rfl, fun w hSw => ?hyrkm5⟩) (by assumption) ?rrkm5
  case hyrkm5 => (try dsimp only at hSw); go_simp; (try with_reducible rfl)
  (try simp only [Act.put, List.setIfInBounds_toArray, List.set_cons_zero, List.set_cons_succ])
  refine wpAnyH_take (i := 5) (oi := ({ dst := some 12, op := Op.load 26 (Operand.tmp 11), type := 26, pos := "parts.go:86", after := #[{ on := 4, ground := Ground.data }], guard := none } : Oper)) (v := ?vrkm6) rfl (by kernel_rfl) (by kernel_rfl) (by kernel_rfl) (fun _ _ _ h => h) (Or.inl ⟨by rfl, fun w hSw => ?hyrkm6⟩) (by assumption) ?rrkm6
  case hyrkm6 => (try dsimp only at hSw); go_simp; (try with_reducible rfl)
  (try simp only [Act.put, List.setIfInBounds_toArray, List.set_cons_zero, List.set_cons_succ])
  refine wpAnyH_take (i := 6) (oi := ({ dst := some 13, op := Op.fieldAddr 82 (Operand.tmp 3) 0, type := 0, pos := "parts.go:86", after := #[], guard := none } : Oper)) (v := ?vrkm7) rfl (by kernel_rfl) (by kernel_rfl) (by kernel_rfl) (fun _ _ _ h => h) (Or.inl ⟨by rfl, fun w hSw => ?hyrkm7⟩) (by assumption) ?rrkm7
  case hyrkm7 => (try dsimp only at hSw); go_simp; (try with_reducible rfl)
  (try simp only [Act.put, List.setIfInBounds_toArray, List.set_cons_zero, List.set_cons_succ])
  refine wpAnyH_take (i := 7) (oi := ({ dst := some 14, op := Op.load 70 (Operand.tmp 13), type := 70, pos := "parts.go:86", after := #[{ on := 6, ground := Ground.data }], guard := none } : Oper)) (v := ?vrkm8) rfl (by kernel_rfl) (by kernel_rfl) (by kernel_rfl) (fun _ _ _ h => h) (Or.inl ⟨by rfl, fun w hSw => ?hyrkm8⟩) (by assumption) ?rrkm8
  case hyrkm8 => (try dsimp only at hSw); go_simp; (try with_reducible rfl)
  (try simp only [Act.put, List.setIfInBounds_toArray, List.set_cons_zero, List.set_cons_succ])
  refine wpAnyH_take (i := 8) (oi := ({ dst := some 15, op := Op.nilCheck (Operand.tmp 14), type := 0, pos := "parts.go:86", after := #[{ on := 7, ground := Ground.data }], guard := none } : Oper)) (v := ?vrkm9) rfl (by kernel_rfl) (by kernel_rfl) (by kernel_rfl) (fun _ _ _ h => h) (Or.inl ⟨by rfl, fun w hSw => ?hyrkm9⟩) (by assumption) ?rrkm9
  case hyrkm9 => (try dsimp only at hSw); go_simp; (try with_reducible rfl)
  (try simp only [Act.put, List.setIfInBounds_toArray, List.set_cons_zero, List.set_cons_succ])
  refine wpAnyH_take (i := 9) (oi := ({ dst := some 16, op := Op.fieldAddr 80 (Operand.tmp 15) 0, type := 0, pos := "parts.go:86", after := #[{ on := 8, ground := Ground.data }], guard := none } : Oper)) (v := ?vrkm10) rfl (by kernel_rfl) (by kernel_rfl) (by kernel_rfl) (fun _ _ _ h => h) (Or.inl ⟨by rfl, fun w hSw => ?hyrkm10⟩) (by assumption) ?rrkm10
  case hyrkm10 => (try dsimp only at hSw); go_simp; (try with_reducible rfl)
  (try simp only [Act.put, List.setIfInBounds_toArray, List.set_cons_zero, List.set_cons_succ])
  refine wpAnyH_take (i := 10) (oi := ({ dst := some 17, op := Op.load 37 (Operand.tmp 16), type := 37, pos := "parts.go:86", after := #[{ on := 9, ground := Ground.data }], guard := none } : Oper)) (v := ?vrkm11) rfl (by kernel_rfl) (by kernel_rfl) (by kernel_rfl) (fun _ _ _ h => h) (Or.inl ⟨by rfl, fun w hSw => ?hyrkm11⟩) (by assumption) ?rrkm11
  case hyrkm11 => (try dsimp only at hSw); go_simp; (try with_reducible rfl)
  (try simp only [Act.put, List.setIfInBounds_toArray, List.set_cons_zero, List.set_cons_succ])
  refine wpAnyH_ready (rs := [11]) (by kernel_rfl) (by simp) ?_
  refine AllReadyH.cons (o := ({ dst := some 18, op := Op.call { callee := Callee.value (Operand.func 73), args := #[Operand.tmp 12, Operand.tmp 17], argTypes := #[26, 37] }, type := 25, pos := "parts.go:86", after := #[{ on := 5, ground := Ground.data }, { on := 10, ground := Ground.data }], guard := none } : Oper)) rfl (fun Kq hKq => ?_) AllReadyH.nil
  go_simp
  (refine (HLD.out _ X (HA.out.new (Below.refl _ _).drew) HCB.out).mono ?_; rintro e w5 ⟨rfl, X5, h5, hc5⟩; have H5 := Lib.hid h5; have HC5 := Lib.hid hc5; clear h5 hc5)
  refine hKq.out _ _ ?_ (fun hHeld => ?_)
  · exact ⟨by rw [← HC5.out]; exact H5.out.pg.c.1, cell_row (H5.out.last HJ.out) 0, by rw [HAD.out]; exact H5.out.kc.1⟩
  clear hKq Kq
  (try simp only [Act.put, List.setIfInBounds_toArray, List.set_cons_zero, List.set_cons_succ])
  refine wpAnyH_take (i := 12) (oi := ({ dst := some 19, op := Op.nilCheck (Operand.tmp 8), type := 0, pos := "parts.go:86", after := #[{ on := 1, ground := Ground.data }, { on := 0, ground := Ground.phase }, { on := 1, ground := Ground.phase }, { on := 2, ground := Ground.phase }, { on := 3, ground := Ground.phase }, { on := 4, ground := Ground.phase }, { on := 5, ground := Ground.phase }, { on := 6, ground := Ground.phase }, { on := 7, ground := Ground.phase }, { on := 8, ground := Ground.phase }, { on := 9, ground := Ground.phase }, { on := 10, ground := Ground.phase }, { on := 11, ground := Ground.phase }], guard := none } : Oper)) (v := ?vrkm12) rfl (by kernel_rfl) (by kernel_rfl) (by kernel_rfl) (fun _ _ _ h => h) (Or.inl ⟨by rfl, fun w hSw => ?hyrkm12⟩) (by assumption) ?rrkm12
  case hyrkm12 => (try dsimp only at hSw); go_simp; (try with_reducible rfl)
  (try simp only [Act.put, List.setIfInBounds_toArray, List.set_cons_zero, List.set_cons_succ])
  refine wpAnyH_take (i := 13) (oi := ({ dst := some 20, op := Op.fieldAddr 80 (Operand.tmp 19) 1, type := 0, pos := "parts.go:86", after := #[{ on := 12, ground := Ground.data }, { on := 0, ground := Ground.phase }, { on := 1, ground := Ground.phase }, { on := 2, ground := Ground.phase }, { on := 3, ground := Ground.phase }, { on := 4, ground := Ground.phase }, { on := 5, ground := Ground.phase }, { on := 6, ground := Ground.phase }, { on := 7, ground := Ground.phase }, { on := 8, ground := Ground.phase }, { on := 9, ground := Ground.phase }, { on := 10, ground := Ground.phase }, { on := 11, ground := Ground.phase }], guard := none } : Oper)) (v := ?vrkm13) rfl (by kernel_rfl) (by kernel_rfl) (by kernel_rfl) (fun _ _ _ h => h) (Or.inl ⟨by rfl, fun w hSw => ?hyrkm13⟩) (by assumption) ?rrkm13
  case hyrkm13 => (try dsimp only at hSw); go_simp; (try with_reducible rfl)
  (try simp only [Act.put, List.setIfInBounds_toArray, List.set_cons_zero, List.set_cons_succ])
  refine wpAnyH_ready (rs := [14]) (by kernel_rfl) (by simp) ?_
  refine AllReadyH.cons (o := ({ dst := none, op := Op.store 25 (Operand.tmp 20) (Operand.tmp 18), type := 0, pos := "parts.go:86", after := #[{ on := 13, ground := Ground.data }, { on := 11, ground := Ground.data }, { on := 11, ground := Ground.chain }, { on := 0, ground := Ground.phase }, { on := 1, ground := Ground.phase }, { on := 2, ground := Ground.phase }, { on := 3, ground := Ground.phase }, { on := 4, ground := Ground.phase }, { on := 5, ground := Ground.phase }, { on := 6, ground := Ground.phase }, { on := 7, ground := Ground.phase }, { on := 8, ground := Ground.phase }, { on := 9, ground := Ground.phase }, { on := 10, ground := Ground.phase }, { on := 11, ground := Ground.phase }], guard := none } : Oper)) rfl (fun Kq hKq => ?_) AllReadyH.nil
  (have y1 := H5.out.kc.2; have f1 := (H5.out.fz 1).2.1; go_simp; have h6 := H5.out.putK x; have H6 := Lib.hid h6; clear y1 f1 h6; generalize w5.setCell ⟨Z.KB, 1, none⟩ (.int .u64 (x : Int)) = w6 at *)
  refine hKq.out _ _ ?_ (fun hHeld => ?_)
  · exact ⟨by rw [← HC5.out]; exact H6.out.pg.c.1, cell_row (H6.out.last HJ.out) 0, by rw [HAD.out]; exact H6.out.kc.1⟩
  clear hKq Kq
  (try simp only [Act.put, List.setIfInBounds_toArray, List.set_cons_zero, List.set_cons_succ])
  refine wpAnyH_done (by kernel_rfl) ?_ _
  clear hHeld HLD HA
  go_wp2_with fail
  go_ret
  exact ⟨rfl, X5, H6.out.dropB HJ.out⟩
set_option maxRecDepth 100000 in
set_option maxHeartbeats 4000000 in
theorem astep_t (h : Wy w0 w base WB M r j o t kw tw Z X) (hn : M.n ≤ 1000000000) {x : Nat} (hx : x = S2.look M.L (0)) {ad : Nat} (had : ad = 0) {b : Bool} (hb : b = !decide (x = tw)) : Calls Try.prog 112 #[.agg #[Pw Z.TB], sP Z.B, Pw WB] w fun e w' => e = .returned (.bool true) ∧ ∃ X', Wy w0 w' base WB (M.acc 1 0 x) r j o t kw tw { Z with st := b } X' := by
  have hj := h.hj
  have hA := h.pushB (.cells #[Pw Z.TB] 87)
  obtain ⟨Q, hQ⟩ : ∃ Q, Q = w.heap.size := ⟨_, rfl⟩
  rw [← hQ] at hA
  obtain ⟨sd, hsd⟩ : ∃ sd, sd = tw := ⟨_, rfl⟩
  have HA := Lib.hid hA; have HJ := Lib.hid hj; have HQ := Lib.hid hQ; have HSD := Lib.hid hsd; have HAD := Lib.hid had
  obtain ⟨cb, hcb⟩ : ∃ cb, X.cB = cb := ⟨_, rfl⟩
  have HCB := Lib.hid hcb
  have hld : ∀ W X', Wy w0 W base WB M (r ++ [blockP Q (.cells #[Pw Z.TB] 87)]) j o t kw tw Z X' → X'.cB = cb → Calls Try.prog 73 #[Pw cb, .int .u32 0] W fun e w' => e = .returned (.int .u64 (x : Int)) ∧ ∃ X5, Wy w0 w' base WB (M.acc 1 0 x) (r ++ [blockP Q (.cells #[Pw Z.TB] 87)]) j o t kw tw Z X5 ∧ X5.cB = cb := fun W X' hW hc => by
    subst hc
    rw [hx]
    skip
    exact hW.load (a := 0) (by decide) hn
  have HLD := Lib.hid hld
  have hne : ((x : Int) != (sd : Int)) = b := by
    rw [hb, hsd]
    by_cases e : x = tw
    · rw [e]; simp
    · rw [decide_eq_false e]; simp; omega
  have hne2 : (!decide ((x : Int) = (sd : Int))) = b := by
    rw [hb, hsd]
    by_cases e : x = tw
    · rw [e]; simp
    · rw [decide_eq_false e, decide_eq_false (by omega)]
  clear h hj hA hQ hcb hx hld hn hsd had hb
  go_enter Try.func112, Try.ntmps112
  go_upto_region 1 with (fail)
  rw [← HQ.out]
  generalize w.alloc (.cells #[Pw Z.TB] 87) = w1 at *
  refine wp_region_held_drew (S := fun w' => w'.cell? ⟨WB, 0, none⟩ = some (Pw cb) ∧ w'.cell? ⟨Q, 0, none⟩ = some (Pw Z.TB) ∧ w'.cell? ⟨Z.TB, 0, none⟩ = some (.int .u32 0) ∧ w'.cell? ⟨Z.TB, 1, none⟩ = some (.int .u64 (sd : Int))) (by kernel_rfl) ?_ (fun hHeld => ?_)
  · exact ⟨by rw [← HCB.out]; exact (HA.out.new (Below.refl _ _).drew).pg.c.1, cell_row ((HA.out.new (Below.refl _ _).drew).last HJ.out) 0, (HA.out.new (Below.refl _ _).drew).tc.1, by rw [HSD.out]; exact (HA.out.new (Below.refl _ _).drew).tc.2⟩
  refine wpAnyH_take (i := 0) (oi := ({ dst := some 7, op := Op.move (Operand.tmp 1), type := 175, pos := "parts.go:96", after := #[], guard := none } : Oper)) (v := ?vatm1) rfl (by kernel_rfl) (by kernel_rfl) (by kernel_rfl) (fun _ _ _ h => h) (Or.inl ⟨by rfl, fun w hSw => ?hyatm1⟩) (by assumption) ?ratm1
  case hyatm1 => (try dsimp only at hSw); go_simp; (try with_reducible rfl)
  (try simp only [Act.put, List.setIfInBounds_toArray, List.set_cons_zero, List.set_cons_succ])
  refine wpAnyH_take (i := 1) (oi := ({ dst := some 8, op := Op.move (Operand.tmp 2), type := 23, pos := "parts.go:96", after := #[], guard := none } : Oper)) (v := ?vatm2) rfl (by kernel_rfl) (by kernel_rfl) (by kernel_rfl) (fun _ _ _ h => h) (Or.inl ⟨by rfl, fun w hSw => ?hyatm2⟩) (by assumption) ?ratm2
  case hyatm2 => (try dsimp only at hSw); go_simp; (try with_reducible rfl)
  (try simp only [Act.put, List.setIfInBounds_toArray, List.set_cons_zero, List.set_cons_succ])
  refine wpAnyH_take (i := 2) (oi := ({ dst := some 9, op := Op.nilCheck (Operand.tmp 8), type := 0, pos := "parts.go:96", after := #[{ on := 1, ground := Ground.data }], guard := none } : Oper)) (v := ?vatm3) rfl (by kernel_rfl) (by kernel_rfl) (by kernel_rfl) (fun _ _ _ h => h) (Or.inl ⟨by rfl, fun w hSw => ?hyatm3⟩) (by assumption) ?ratm3
  case hyatm3 => (try dsimp only at hSw); go_simp; (try with_reducible rfl)
  (try simp only [Act.put, List.setIfInBounds_toArray, List.set_cons_zero, List.set_cons_succ])
  refine wpAnyH_take (i := 3) (oi := ({ dst := some 10, op := Op.fieldAddr 34 (Operand.tmp 9) 0, type := 0, pos := "parts.go:96", after := #[{ on := 2, ground := Ground.data }], guard := none } : Oper)) (v := ?vatm4) rfl (by kernel_rfl) (by kernel_rfl) (by kernel_rfl) (fun _ _ _ h => h) (Or.inl ⟨by rfl, fun w hSw => ?hyatm4⟩) (by assumption) ?ratm4
  case hyatm4 => (try dsimp only at hSw); go_simp; (try with_reducible rfl)
  (try simp only [Act.put, List.setIfInBounds_toArray, List.set_cons_zero, List.set_cons_succ])
  refine wpAnyH_take (i := 4) (oi := ({ dst := some 11, op := Op.load 26 (Operand.tmp 10), type := 26, pos := "parts.go:96", after := #[{ on := 3, ground := Ground.data }], guard := none } : Oper)) (v := ?vatm5) rfl (by kernel_rfl) (by kernel_rfl) (by kernel_rfl) (fun _ _ _ h => h) (Or.inl ⟨by rfl, fun w hSw => ?hyatm5⟩) (by assumption) ?ratm5
  case hyatm5 => (try dsimp only at hSw); go_simp; (try with_reducible rfl)
  (try simp only [Act.put, List.setIfInBounds_toArray, List.set_cons_zero, List.set_cons_succ])
  refine wpAnyH_take (i := 5) (oi := ({ dst := some 12, op := Op.fieldAddr 87 (Operand.tmp 3) 0, type := 0, pos := "parts.go:96", after := #[], guard := none } : Oper)) (v := ?vatm6) rfl (by kernel_rfl) (by kernel_rfl) (by kernel_rfl) (fun _ _ _ h => h) (Or.inl ⟨by rfl, fun w hSw => ?hyatm6⟩) (by assumption) ?ratm6
  case hyatm6 => (try dsimp only at hSw); go_simp; (try with_reducible rfl)
  (try simp only [Act.put, List.setIfInBounds_toArray, List.set_cons_zero, List.set_cons_succ])
  refine wpAnyH_take (i := 6) (oi := ({ dst := some 13, op := Op.load 70 (Operand.tmp 12), type := 70, pos := "parts.go:96", after := #[{ on := 5, ground := Ground.data }], guard := none } : Oper)) (v := ?vatm7) rfl (by kernel_rfl) (by kernel_rfl) (by kernel_rfl) (fun _ _ _ h => h) (Or.inl ⟨by rfl, fun w hSw => ?hyatm7⟩) (by assumption) ?ratm7
  case hyatm7 => (try dsimp only at hSw); go_simp; (try with_reducible rfl)
  (try simp only [Act.put, List.setIfInBounds_toArray, List.set_cons_zero, List.set_cons_succ])
  refine wpAnyH_take (i := 7) (oi := ({ dst := some 14, op := Op.nilCheck (Operand.tmp 13), type := 0, pos := "parts.go:96", after := #[{ on := 6, ground := Ground.data }], guard := none } : Oper)) (v := ?vatm8) rfl (by kernel_rfl) (by kernel_rfl) (by kernel_rfl) (fun _ _ _ h => h) (Or.inl ⟨by rfl, fun w hSw => ?hyatm8⟩) (by assumption) ?ratm8
  case hyatm8 => (try dsimp only at hSw); go_simp; (try with_reducible rfl)
  (try simp only [Act.put, List.setIfInBounds_toArray, List.set_cons_zero, List.set_cons_succ])
  refine wpAnyH_take (i := 8) (oi := ({ dst := some 15, op := Op.fieldAddr 80 (Operand.tmp 14) 0, type := 0, pos := "parts.go:96", after := #[{ on := 7, ground := Ground.data }], guard := none } : Oper)) (v := ?vatm9) rfl (by kernel_rfl) (by kernel_rfl) (by kernel_rfl) (fun _ _ _ h => h) (Or.inl ⟨by rfl, fun w hSw => ?hyatm9⟩) (by assumption) ?ratm9
  case hyatm9 => (try dsimp only at hSw); go_simp; (try with_reducible rfl)
  (try simp only [Act.put, List.setIfInBounds_toArray, List.set_cons_zero, List.set_cons_succ])
  refine wpAnyH_take (i := 9) (oi := ({ dst := some 16, op := Op.load 37 (Operand.tmp 15), type := 37, pos := "parts.go:96", after := #[{ on := 8, ground := Ground.data }], guard := none } : Oper)) (v := ?vatm10) rfl (by kernel_rfl) (by kernel_rfl) (by kernel_rfl) (fun _ _ _ h => h) (Or.inl ⟨by rfl, fun w hSw => ?hyatm10⟩) (by assumption) ?ratm10
  case hyatm10 => (try dsimp only at hSw); go_simp; (try with_reducible rfl)
  (try simp only [Act.put, List.setIfInBounds_toArray, List.set_cons_zero, List.set_cons_succ])
  refine wpAnyH_take (i := 11) (oi := ({ dst := some 18, op := Op.fieldAddr 87 (Operand.tmp 3) 0, type := 0, pos := "parts.go:96", after := #[], guard := none } : Oper)) (v := ?vatm11) rfl (by kernel_rfl) (by kernel_rfl) (by kernel_rfl) (fun _ _ _ h => h) (Or.inl ⟨by rfl, fun w hSw => ?hyatm11⟩) (by assumption) ?ratm11
  case hyatm11 => (try dsimp only at hSw); go_simp; (try with_reducible rfl)
  (try simp only [Act.put, List.setIfInBounds_toArray, List.set_cons_zero, List.set_cons_succ])
  refine wpAnyH_take (i := 12) (oi := ({ dst := some 19, op := Op.load 70 (Operand.tmp 18), type := 70, pos := "parts.go:96", after := #[{ on := 11, ground := Ground.data }], guard := none } : Oper)) (v := ?vatm12) rfl (by kernel_rfl) (by kernel_rfl) (by kernel_rfl) (fun _ _ _ h => h) (Or.inl ⟨by rfl, fun w hSw => ?hyatm12⟩) (by assumption) ?ratm12
  case hyatm12 => (try dsimp only at hSw); go_simp; (try with_reducible rfl)
  (try simp only [Act.put, List.setIfInBounds_toArray, List.set_cons_zero, List.set_cons_succ])
  refine wpAnyH_take (i := 13) (oi := ({ dst := some 20, op := Op.nilCheck (Operand.tmp 19), type := 0, pos := "parts.go:96", after := #[{ on := 12, ground := Ground.data }], guard := none } : Oper)) (v := ?vatm13) rfl (by kernel_rfl) (by kernel_rfl) (by kernel_rfl) (fun _ _ _ h => h) (Or.inl ⟨by rfl, fun w hSw => ?hyatm13⟩) (by assumption) ?ratm13
  case hyatm13 => (try dsimp only at hSw); go_simp; (try with_reducible rfl)
  (try simp only [Act.put, List.setIfInBounds_toArray, List.set_cons_zero, List.set_cons_succ])
  refine wpAnyH_take (i := 14) (oi := ({ dst := some 21, op := Op.fieldAddr 80 (Operand.tmp 20) 1, type := 0, pos := "parts.go:96", after := #[{ on := 13, ground := Ground.data }], guard := none } : Oper)) (v := ?vatm14) rfl (by kernel_rfl) (by kernel_rfl) (by kernel_rfl) (fun _ _ _ h => h) (Or.inl ⟨by rfl, fun w hSw => ?hyatm14⟩) (by assumption) ?ratm14
  case hyatm14 => (try dsimp only at hSw); go_simp; (try with_reducible rfl)
  (try simp only [Act.put, List.setIfInBounds_toArray, List.set_cons_zero, List.set_cons_succ])
  refine wpAnyH_take (i := 15) (oi := ({ dst := some 22, op := Op.load 25 (Operand.tmp 21), type := 25, pos := "parts.go:96", after := #[{ on := 14, ground := Ground.data }], guard := none } : Oper)) (v := ?vatm15) rfl (by kernel_rfl) (by kernel_rfl) (by kernel_rfl) (fun _ _ _ h => h) (Or.inl ⟨by rfl, fun w hSw => ?hyatm15⟩) (by assumption) ?ratm15
  case hyatm15 => (try dsimp only at hSw); go_simp; (try with_reducible rfl)
  (try simp only [Act.put, List.setIfInBounds_toArray, List.set_cons_zero, List.set_cons_succ])
  refine wpAnyH_ready (rs := [10]) (by kernel_rfl) (by simp) ?_
  refine AllReadyH.cons (o := ({ dst := some 17, op := Op.call { callee := Callee.value (Operand.func 73), args := #[Operand.tmp 11, Operand.tmp 16], argTypes := #[26, 37] }, type := 25, pos := "parts.go:96", after := #[{ on := 4, ground := Ground.data }, { on := 9, ground := Ground.data }], guard := none } : Oper)) rfl (fun Kq hKq => ?_) AllReadyH.nil
  go_simp
  (refine (HLD.out _ X (HA.out.new (Below.refl _ _).drew) HCB.out).mono ?_; rintro e w5 ⟨rfl, X5, h5, hc5⟩; have H5 := Lib.hid h5; have HC5 := Lib.hid hc5; clear h5 hc5)
  refine hKq.out _ _ ?_ (fun hHeld => ?_)
  · exact ⟨by rw [← HC5.out]; exact H5.out.pg.c.1, cell_row (H5.out.last HJ.out) 0, H5.out.tc.1, by rw [HSD.out]; exact H5.out.tc.2⟩
  clear hKq Kq
  (try simp only [Act.put, List.setIfInBounds_toArray, List.set_cons_zero, List.set_cons_succ])
  refine wpAnyH_take (i := 16) (oi := ({ dst := some 23, op := Op.binOp BinOp.neq 25 (Operand.tmp 17) (Operand.tmp 22) 25, type := 4, pos := "parts.go:96", after := #[{ on := 10, ground := Ground.data }, { on := 15, ground := Ground.data }], guard := none } : Oper)) (v := ?vatm16) rfl (by kernel_rfl) (by kernel_rfl) (by kernel_rfl) (fun _ _ _ h => h) (Or.inl ⟨by rfl, fun w hSw => ?hyatm16⟩) (by assumption) ?ratm16
  case hyatm16 => (try dsimp only at hSw); go_simp; (try with_reducible rfl)
  (try simp only [Act.put, List.setIfInBounds_toArray, List.set_cons_zero, List.set_cons_succ])
  refine wpAnyH_take (i := 17) (oi := ({ dst := some 24, op := Op.nilCheck (Operand.tmp 7), type := 0, pos := "parts.go:96", after := #[{ on := 0, ground := Ground.data }, { on := 0, ground := Ground.phase }, { on := 1, ground := Ground.phase }, { on := 2, ground := Ground.phase }, { on := 3, ground := Ground.phase }, { on := 4, ground := Ground.phase }, { on := 5, ground := Ground.phase }, { on := 6, ground := Ground.phase }, { on := 7, ground := Ground.phase }, { on := 8, ground := Ground.phase }, { on := 9, ground := Ground.phase }, { on := 10, ground := Ground.phase }, { on := 11, ground := Ground.phase }, { on := 12, ground := Ground.phase }, { on := 13, ground := Ground.phase }, { on := 14, ground := Ground.phase }, { on := 15, ground := Ground.phase }, { on := 16, ground := Ground.phase }], guard := none } : Oper)) (v := ?vatm17) rfl (by kernel_rfl) (by kernel_rfl) (by kernel_rfl) (fun _ _ _ h => h) (Or.inl ⟨by rfl, fun w hSw => ?hyatm17⟩) (by assumption) ?ratm17
  case hyatm17 => (try dsimp only at hSw); go_simp; (try with_reducible rfl)
  (try simp only [Act.put, List.setIfInBounds_toArray, List.set_cons_zero, List.set_cons_succ])
  refine wpAnyH_take (i := 18) (oi := ({ dst := some 25, op := Op.fieldAddr 74 (Operand.tmp 24) 4, type := 0, pos := "parts.go:96", after := #[{ on := 17, ground := Ground.data }, { on := 0, ground := Ground.phase }, { on := 1, ground := Ground.phase }, { on := 2, ground := Ground.phase }, { on := 3, ground := Ground.phase }, { on := 4, ground := Ground.phase }, { on := 5, ground := Ground.phase }, { on := 6, ground := Ground.phase }, { on := 7, ground := Ground.phase }, { on := 8, ground := Ground.phase }, { on := 9, ground := Ground.phase }, { on := 10, ground := Ground.phase }, { on := 11, ground := Ground.phase }, { on := 12, ground := Ground.phase }, { on := 13, ground := Ground.phase }, { on := 14, ground := Ground.phase }, { on := 15, ground := Ground.phase }, { on := 16, ground := Ground.phase }], guard := none } : Oper)) (v := ?vatm18) rfl (by kernel_rfl) (by kernel_rfl) (by kernel_rfl) (fun _ _ _ h => h) (Or.inl ⟨by rfl, fun w hSw => ?hyatm18⟩) (by assumption) ?ratm18
  case hyatm18 => (try dsimp only at hSw); go_simp; (try with_reducible rfl)
  (try simp only [Act.put, List.setIfInBounds_toArray, List.set_cons_zero, List.set_cons_succ])
  refine wpAnyH_ready (rs := [19]) (by kernel_rfl) (by simp) ?_
  refine AllReadyH.cons (o := ({ dst := none, op := Op.store 4 (Operand.tmp 25) (Operand.tmp 23), type := 0, pos := "parts.go:96", after := #[{ on := 18, ground := Ground.data }, { on := 16, ground := Ground.data }, { on := 10, ground := Ground.chain }, { on := 0, ground := Ground.phase }, { on := 1, ground := Ground.phase }, { on := 2, ground := Ground.phase }, { on := 3, ground := Ground.phase }, { on := 4, ground := Ground.phase }, { on := 5, ground := Ground.phase }, { on := 6, ground := Ground.phase }, { on := 7, ground := Ground.phase }, { on := 8, ground := Ground.phase }, { on := 9, ground := Ground.phase }, { on := 10, ground := Ground.phase }, { on := 11, ground := Ground.phase }, { on := 12, ground := Ground.phase }, { on := 13, ground := Ground.phase }, { on := 14, ground := Ground.phase }, { on := 15, ground := Ground.phase }, { on := 16, ground := Ground.phase }], guard := none } : Oper)) rfl (fun Kq hKq => ?_) AllReadyH.nil
  (have y1 := H5.out.c.2.2.2.2.2.2.2.1; have f1 := (H5.out.fz 7).1; go_simp; have h6 := H5.out.put 7 (.bool b) { Z with st := b } rfl rfl rfl rfl rfl; have H6 := Lib.hid h6; clear y1 f1 h6; generalize w5.setCell ⟨Z.B, 7, none⟩ (.bool b) = w6 at *)
  refine hKq.out _ _ ?_ (fun hHeld => ?_)
  · exact ⟨by rw [← HC5.out]; exact H6.out.pg.c.1, cell_row (H6.out.last HJ.out) 0, H6.out.tc.1, by rw [HSD.out]; exact H6.out.tc.2⟩
  clear hKq Kq
  (try simp only [Act.put, List.setIfInBounds_toArray, List.set_cons_zero, List.set_cons_succ])
  refine wpAnyH_done (by kernel_rfl) ?_ _
  clear hHeld HLD HA
  go_wp2_with fail
  go_ret
  exact ⟨rfl, X5, H6.out.dropB HJ.out⟩
set_option maxRecDepth 100000 in
set_option maxHeartbeats 4000000 in
theorem astep_k (h : Wy w0 w base WB M r j o t kw tw Z X) (hn : M.n ≤ 1000000000) (ht : t < 64) {x : Nat} (hx : x = S2.look M.L (kyA o t)) {ad : Nat} (had : ad = kyA o t) {b : Bool} (hb : b = !decide (x = kw)) : Calls Try.prog 112 #[.agg #[Pw Z.KB], sP Z.B, Pw WB] w fun e w' => e = .returned (.bool true) ∧ ∃ X', Wy w0 w' base WB (M.acc 1 ad x) r j o t kw tw { Z with st := b } X' := by
  have hj := h.hj
  have hA := h.pushB (.cells #[Pw Z.KB] 87)
  obtain ⟨Q, hQ⟩ : ∃ Q, Q = w.heap.size := ⟨_, rfl⟩
  rw [← hQ] at hA
  obtain ⟨sd, hsd⟩ : ∃ sd, sd = kw := ⟨_, rfl⟩
  have HA := Lib.hid hA; have HJ := Lib.hid hj; have HQ := Lib.hid hQ; have HSD := Lib.hid hsd; have HAD := Lib.hid had
  obtain ⟨cb, hcb⟩ : ∃ cb, X.cB = cb := ⟨_, rfl⟩
  have HCB := Lib.hid hcb
  have hld : ∀ W X', Wy w0 W base WB M (r ++ [blockP Q (.cells #[Pw Z.KB] 87)]) j o t kw tw Z X' → X'.cB = cb → Calls Try.prog 73 #[Pw cb, .int .u32 (ad : Int)] W fun e w' => e = .returned (.int .u64 (x : Int)) ∧ ∃ X5, Wy w0 w' base WB (M.acc 1 ad x) (r ++ [blockP Q (.cells #[Pw Z.KB] 87)]) j o t kw tw Z X5 ∧ X5.cB = cb := fun W X' hW hc => by
    subst hc
    rw [hx]
    subst had
    exact hW.load (a := kyA o t) (ky_lt o ht) hn
  have HLD := Lib.hid hld
  have hne : ((x : Int) != (sd : Int)) = b := by
    rw [hb, hsd]
    by_cases e : x = kw
    · rw [e]; simp
    · rw [decide_eq_false e]; simp; omega
  have hne2 : (!decide ((x : Int) = (sd : Int))) = b := by
    rw [hb, hsd]
    by_cases e : x = kw
    · rw [e]; simp
    · rw [decide_eq_false e, decide_eq_false (by omega)]
  clear h hj hA hQ hcb hx hld hn hsd had ht hb
  go_enter Try.func112, Try.ntmps112
  go_upto_region 1 with (fail)
  rw [← HQ.out]
  generalize w.alloc (.cells #[Pw Z.KB] 87) = w1 at *
  refine wp_region_held_drew (S := fun w' => w'.cell? ⟨WB, 0, none⟩ = some (Pw cb) ∧ w'.cell? ⟨Q, 0, none⟩ = some (Pw Z.KB) ∧ w'.cell? ⟨Z.KB, 0, none⟩ = some (.int .u32 (ad : Int)) ∧ w'.cell? ⟨Z.KB, 1, none⟩ = some (.int .u64 (sd : Int))) (by kernel_rfl) ?_ (fun hHeld => ?_)
  · exact ⟨by rw [← HCB.out]; exact (HA.out.new (Below.refl _ _).drew).pg.c.1, cell_row ((HA.out.new (Below.refl _ _).drew).last HJ.out) 0, by rw [HAD.out]; exact (HA.out.new (Below.refl _ _).drew).kc.1, by rw [HSD.out]; exact (HA.out.new (Below.refl _ _).drew).kc.2⟩
  refine wpAnyH_take (i := 0) (oi := ({ dst := some 7, op := Op.move (Operand.tmp 1), type := 175, pos := "parts.go:96", after := #[], guard := none } : Oper)) (v := ?vakm1) rfl (by kernel_rfl) (by kernel_rfl) (by kernel_rfl) (fun _ _ _ h => h) (Or.inl ⟨by rfl, fun w hSw => ?hyakm1⟩) (by assumption) ?rakm1
  case hyakm1 => (try dsimp only at hSw); go_simp; (try with_reducible rfl)
  (try simp only [Act.put, List.setIfInBounds_toArray, List.set_cons_zero, List.set_cons_succ])
  refine wpAnyH_take (i := 1) (oi := ({ dst := some 8, op := Op.move (Operand.tmp 2), type := 23, pos := "parts.go:96", after := #[], guard := none } : Oper)) (v := ?vakm2) rfl (by kernel_rfl) (by kernel_rfl) (by kernel_rfl) (fun _ _ _ h => h) (Or.inl ⟨by rfl, fun w hSw => ?hyakm2⟩) (by assumption) ?rakm2
  case hyakm2 => (try dsimp only at hSw); go_simp; (try with_reducible rfl)
  (try simp only [Act.put, List.setIfInBounds_toArray, List.set_cons_zero, List.set_cons_succ])
  refine wpAnyH_take (i := 2) (oi := ({ dst := some 9, op := Op.nilCheck (Operand.tmp 8), type := 0, pos := "parts.go:96", after := #[{ on := 1, ground := Ground.data }], guard := none } : Oper)) (v := ?vakm3) rfl (by kernel_rfl) (by kernel_rfl) (by kernel_rfl) (fun _ _ _ h => h) (Or.inl ⟨by rfl, fun w hSw => ?hyakm3⟩) (by assumption) ?rakm3
  case hyakm3 => (try dsimp only at hSw); go_simp; (try with_reducible rfl)
  (try simp only [Act.put, List.setIfInBounds_toArray, List.set_cons_zero, List.set_cons_succ])
  refine wpAnyH_take (i := 3) (oi := ({ dst := some 10, op := Op.fieldAddr 34 (Operand.tmp 9) 0, type := 0, pos := "parts.go:96", after := #[{ on := 2, ground := Ground.data }], guard := none } : Oper)) (v := ?vakm4) rfl (by kernel_rfl) (by kernel_rfl) (by kernel_rfl) (fun _ _ _ h => h) (Or.inl ⟨by rfl, fun w hSw => ?hyakm4⟩) (by assumption) ?rakm4
  case hyakm4 => (try dsimp only at hSw); go_simp; (try with_reducible rfl)
  (try simp only [Act.put, List.setIfInBounds_toArray, List.set_cons_zero, List.set_cons_succ])
  refine wpAnyH_take (i := 4) (oi := ({ dst := some 11, op := Op.load 26 (Operand.tmp 10), type := 26, pos := "parts.go:96", after := #[{ on := 3, ground := Ground.data }], guard := none } : Oper)) (v := ?vakm5) rfl (by kernel_rfl) (by kernel_rfl) (by kernel_rfl) (fun _ _ _ h => h) (Or.inl ⟨by rfl, fun w hSw => ?hyakm5⟩) (by assumption) ?rakm5
  case hyakm5 => (try dsimp only at hSw); go_simp; (try with_reducible rfl)
  (try simp only [Act.put, List.setIfInBounds_toArray, List.set_cons_zero, List.set_cons_succ])
  refine wpAnyH_take (i := 5) (oi := ({ dst := some 12, op := Op.fieldAddr 87 (Operand.tmp 3) 0, type := 0, pos := "parts.go:96", after := #[], guard := none } : Oper)) (v := ?vakm6) rfl (by kernel_rfl) (by kernel_rfl) (by kernel_rfl) (fun _ _ _ h => h) (Or.inl ⟨by rfl, fun w hSw => ?hyakm6⟩) (by assumption) ?rakm6
  case hyakm6 => (try dsimp only at hSw); go_simp; (try with_reducible rfl)
  (try simp only [Act.put, List.setIfInBounds_toArray, List.set_cons_zero, List.set_cons_succ])
  refine wpAnyH_take (i := 6) (oi := ({ dst := some 13, op := Op.load 70 (Operand.tmp 12), type := 70, pos := "parts.go:96", after := #[{ on := 5, ground := Ground.data }], guard := none } : Oper)) (v := ?vakm7) rfl (by kernel_rfl) (by kernel_rfl) (by kernel_rfl) (fun _ _ _ h => h) (Or.inl ⟨by rfl, fun w hSw => ?hyakm7⟩) (by assumption) ?rakm7
  case hyakm7 => (try dsimp only at hSw); go_simp; (try with_reducible rfl)
  (try simp only [Act.put, List.setIfInBounds_toArray, List.set_cons_zero, List.set_cons_succ])
  refine wpAnyH_take (i := 7) (oi := ({ dst := some 14, op := Op.nilCheck (Operand.tmp 13), type := 0, pos := "parts.go:96", after := #[{ on := 6, ground := Ground.data }], guard := none } : Oper)) (v := ?vakm8) rfl (by kernel_rfl) (by kernel_rfl) (by kernel_rfl) (fun _ _ _ h => h) (Or.inl ⟨by rfl, fun w hSw => ?hyakm8⟩) (by assumption) ?rakm8
  case hyakm8 => (try dsimp only at hSw); go_simp; (try with_reducible rfl)
  (try simp only [Act.put, List.setIfInBounds_toArray, List.set_cons_zero, List.set_cons_succ])
  refine wpAnyH_take (i := 8) (oi := ({ dst := some 15, op := Op.fieldAddr 80 (Operand.tmp 14) 0, type := 0, pos := "parts.go:96", after := #[{ on := 7, ground := Ground.data }], guard := none } : Oper)) (v := ?vakm9) rfl (by kernel_rfl) (by kernel_rfl) (by kernel_rfl) (fun _ _ _ h => h) (Or.inl ⟨by rfl, fun w hSw => ?hyakm9⟩) (by assumption) ?rakm9
  case hyakm9 => (try dsimp only at hSw); go_simp; (try with_reducible rfl)
  (try simp only [Act.put, List.setIfInBounds_toArray, List.set_cons_zero, List.set_cons_succ])
  refine wpAnyH_take (i := 9) (oi := ({ dst := some 16, op := Op.load 37 (Operand.tmp 15), type := 37, pos := "parts.go:96", after := #[{ on := 8, ground := Ground.data }], guard := none } : Oper)) (v := ?vakm10) rfl (by kernel_rfl) (by kernel_rfl) (by kernel_rfl) (fun _ _ _ h => h) (Or.inl ⟨by rfl, fun w hSw => ?hyakm10⟩) (by assumption) ?rakm10
  case hyakm10 => (try dsimp only at hSw); go_simp; (try with_reducible rfl)
  (try simp only [Act.put, List.setIfInBounds_toArray, List.set_cons_zero, List.set_cons_succ])
  refine wpAnyH_take (i := 11) (oi := ({ dst := some 18, op := Op.fieldAddr 87 (Operand.tmp 3) 0, type := 0, pos := "parts.go:96", after := #[], guard := none } : Oper)) (v := ?vakm11) rfl (by kernel_rfl) (by kernel_rfl) (by kernel_rfl) (fun _ _ _ h => h) (Or.inl ⟨by rfl, fun w hSw => ?hyakm11⟩) (by assumption) ?rakm11
  case hyakm11 => (try dsimp only at hSw); go_simp; (try with_reducible rfl)
  (try simp only [Act.put, List.setIfInBounds_toArray, List.set_cons_zero, List.set_cons_succ])
  refine wpAnyH_take (i := 12) (oi := ({ dst := some 19, op := Op.load 70 (Operand.tmp 18), type := 70, pos := "parts.go:96", after := #[{ on := 11, ground := Ground.data }], guard := none } : Oper)) (v := ?vakm12) rfl (by kernel_rfl) (by kernel_rfl) (by kernel_rfl) (fun _ _ _ h => h) (Or.inl ⟨by rfl, fun w hSw => ?hyakm12⟩) (by assumption) ?rakm12
  case hyakm12 => (try dsimp only at hSw); go_simp; (try with_reducible rfl)
  (try simp only [Act.put, List.setIfInBounds_toArray, List.set_cons_zero, List.set_cons_succ])
  refine wpAnyH_take (i := 13) (oi := ({ dst := some 20, op := Op.nilCheck (Operand.tmp 19), type := 0, pos := "parts.go:96", after := #[{ on := 12, ground := Ground.data }], guard := none } : Oper)) (v := ?vakm13) rfl (by kernel_rfl) (by kernel_rfl) (by kernel_rfl) (fun _ _ _ h => h) (Or.inl ⟨by rfl, fun w hSw => ?hyakm13⟩) (by assumption) ?rakm13
  case hyakm13 => (try dsimp only at hSw); go_simp; (try with_reducible rfl)
  (try simp only [Act.put, List.setIfInBounds_toArray, List.set_cons_zero, List.set_cons_succ])
  refine wpAnyH_take (i := 14) (oi := ({ dst := some 21, op := Op.fieldAddr 80 (Operand.tmp 20) 1, type := 0, pos := "parts.go:96", after := #[{ on := 13, ground := Ground.data }], guard := none } : Oper)) (v := ?vakm14) rfl (by kernel_rfl) (by kernel_rfl) (by kernel_rfl) (fun _ _ _ h => h) (Or.inl ⟨by rfl, fun w hSw => ?hyakm14⟩) (by assumption) ?rakm14
  case hyakm14 => (try dsimp only at hSw); go_simp; (try with_reducible rfl)
  (try simp only [Act.put, List.setIfInBounds_toArray, List.set_cons_zero, List.set_cons_succ])
  refine wpAnyH_take (i := 15) (oi := ({ dst := some 22, op := Op.load 25 (Operand.tmp 21), type := 25, pos := "parts.go:96", after := #[{ on := 14, ground := Ground.data }], guard := none } : Oper)) (v := ?vakm15) rfl (by kernel_rfl) (by kernel_rfl) (by kernel_rfl) (fun _ _ _ h => h) (Or.inl ⟨by rfl, fun w hSw => ?hyakm15⟩) (by assumption) ?rakm15
  case hyakm15 => (try dsimp only at hSw); go_simp; (try with_reducible rfl)
  (try simp only [Act.put, List.setIfInBounds_toArray, List.set_cons_zero, List.set_cons_succ])
  refine wpAnyH_ready (rs := [10]) (by kernel_rfl) (by simp) ?_
  refine AllReadyH.cons (o := ({ dst := some 17, op := Op.call { callee := Callee.value (Operand.func 73), args := #[Operand.tmp 11, Operand.tmp 16], argTypes := #[26, 37] }, type := 25, pos := "parts.go:96", after := #[{ on := 4, ground := Ground.data }, { on := 9, ground := Ground.data }], guard := none } : Oper)) rfl (fun Kq hKq => ?_) AllReadyH.nil
  go_simp
  (refine (HLD.out _ X (HA.out.new (Below.refl _ _).drew) HCB.out).mono ?_; rintro e w5 ⟨rfl, X5, h5, hc5⟩; have H5 := Lib.hid h5; have HC5 := Lib.hid hc5; clear h5 hc5)
  refine hKq.out _ _ ?_ (fun hHeld => ?_)
  · exact ⟨by rw [← HC5.out]; exact H5.out.pg.c.1, cell_row (H5.out.last HJ.out) 0, by rw [HAD.out]; exact H5.out.kc.1, by rw [HSD.out]; exact H5.out.kc.2⟩
  clear hKq Kq
  (try simp only [Act.put, List.setIfInBounds_toArray, List.set_cons_zero, List.set_cons_succ])
  refine wpAnyH_take (i := 16) (oi := ({ dst := some 23, op := Op.binOp BinOp.neq 25 (Operand.tmp 17) (Operand.tmp 22) 25, type := 4, pos := "parts.go:96", after := #[{ on := 10, ground := Ground.data }, { on := 15, ground := Ground.data }], guard := none } : Oper)) (v := ?vakm16) rfl (by kernel_rfl) (by kernel_rfl) (by kernel_rfl) (fun _ _ _ h => h) (Or.inl ⟨by rfl, fun w hSw => ?hyakm16⟩) (by assumption) ?rakm16
  case hyakm16 => (try dsimp only at hSw); go_simp; (try with_reducible rfl)
  (try simp only [Act.put, List.setIfInBounds_toArray, List.set_cons_zero, List.set_cons_succ])
  refine wpAnyH_take (i := 17) (oi := ({ dst := some 24, op := Op.nilCheck (Operand.tmp 7), type := 0, pos := "parts.go:96", after := #[{ on := 0, ground := Ground.data }, { on := 0, ground := Ground.phase }, { on := 1, ground := Ground.phase }, { on := 2, ground := Ground.phase }, { on := 3, ground := Ground.phase }, { on := 4, ground := Ground.phase }, { on := 5, ground := Ground.phase }, { on := 6, ground := Ground.phase }, { on := 7, ground := Ground.phase }, { on := 8, ground := Ground.phase }, { on := 9, ground := Ground.phase }, { on := 10, ground := Ground.phase }, { on := 11, ground := Ground.phase }, { on := 12, ground := Ground.phase }, { on := 13, ground := Ground.phase }, { on := 14, ground := Ground.phase }, { on := 15, ground := Ground.phase }, { on := 16, ground := Ground.phase }], guard := none } : Oper)) (v := ?vakm17) rfl (by kernel_rfl) (by kernel_rfl) (by kernel_rfl) (fun _ _ _ h => h) (Or.inl ⟨by rfl, fun w hSw => ?hyakm17⟩) (by assumption) ?rakm17
  case hyakm17 => (try dsimp only at hSw); go_simp; (try with_reducible rfl)
  (try simp only [Act.put, List.setIfInBounds_toArray, List.set_cons_zero, List.set_cons_succ])
  refine wpAnyH_take (i := 18) (oi := ({ dst := some 25, op := Op.fieldAddr 74 (Operand.tmp 24) 4, type := 0, pos := "parts.go:96", after := #[{ on := 17, ground := Ground.data }, { on := 0, ground := Ground.phase }, { on := 1, ground := Ground.phase }, { on := 2, ground := Ground.phase }, { on := 3, ground := Ground.phase }, { on := 4, ground := Ground.phase }, { on := 5, ground := Ground.phase }, { on := 6, ground := Ground.phase }, { on := 7, ground := Ground.phase }, { on := 8, ground := Ground.phase }, { on := 9, ground := Ground.phase }, { on := 10, ground := Ground.phase }, { on := 11, ground := Ground.phase }, { on := 12, ground := Ground.phase }, { on := 13, ground := Ground.phase }, { on := 14, ground := Ground.phase }, { on := 15, ground := Ground.phase }, { on := 16, ground := Ground.phase }], guard := none } : Oper)) (v := ?vakm18) rfl (by kernel_rfl) (by kernel_rfl) (by kernel_rfl) (fun _ _ _ h => h) (Or.inl ⟨by rfl, fun w hSw => ?hyakm18⟩) (by assumption) ?rakm18
  case hyakm18 => (try dsimp only at hSw); go_simp; (try with_reducible rfl)
  (try simp only [Act.put, List.setIfInBounds_toArray, List.set_cons_zero, List.set_cons_succ])
  refine wpAnyH_ready (rs := [19]) (by kernel_rfl) (by simp) ?_
  refine AllReadyH.cons (o := ({ dst := none, op := Op.store 4 (Operand.tmp 25) (Operand.tmp 23), type := 0, pos := "parts.go:96", after := #[{ on := 18, ground := Ground.data }, { on := 16, ground := Ground.data }, { on := 10, ground := Ground.chain }, { on := 0, ground := Ground.phase }, { on := 1, ground := Ground.phase }, { on := 2, ground := Ground.phase }, { on := 3, ground := Ground.phase }, { on := 4, ground := Ground.phase }, { on := 5, ground := Ground.phase }, { on := 6, ground := Ground.phase }, { on := 7, ground := Ground.phase }, { on := 8, ground := Ground.phase }, { on := 9, ground := Ground.phase }, { on := 10, ground := Ground.phase }, { on := 11, ground := Ground.phase }, { on := 12, ground := Ground.phase }, { on := 13, ground := Ground.phase }, { on := 14, ground := Ground.phase }, { on := 15, ground := Ground.phase }, { on := 16, ground := Ground.phase }], guard := none } : Oper)) rfl (fun Kq hKq => ?_) AllReadyH.nil
  (have y1 := H5.out.c.2.2.2.2.2.2.2.1; have f1 := (H5.out.fz 7).1; go_simp; have h6 := H5.out.put 7 (.bool b) { Z with st := b } rfl rfl rfl rfl rfl; have H6 := Lib.hid h6; clear y1 f1 h6; generalize w5.setCell ⟨Z.B, 7, none⟩ (.bool b) = w6 at *)
  refine hKq.out _ _ ?_ (fun hHeld => ?_)
  · exact ⟨by rw [← HC5.out]; exact H6.out.pg.c.1, cell_row (H6.out.last HJ.out) 0, by rw [HAD.out]; exact H6.out.kc.1, by rw [HSD.out]; exact H6.out.kc.2⟩
  clear hKq Kq
  (try simp only [Act.put, List.setIfInBounds_toArray, List.set_cons_zero, List.set_cons_succ])
  refine wpAnyH_done (by kernel_rfl) ?_ _
  clear hHeld HLD HA
  go_wp2_with fail
  go_ret
  exact ⟨rfl, X5, H6.out.dropB HJ.out⟩
end
end Go.Proofs.Ytcegmjmfgbhnmaa.S15
